/-
  The examples of the chapter hold: awake answers true.
-/
import Derived.Test.YtknmnlbgjpbgiaaDoorA1
import Derived.Deep.Cut
import Derived.Deep.CutRange
import Derived.Deep.CutBlock
namespace Go.Proofs.YtknmnlbgjpbgiaaDoor
open Go.RowKit
open Go.Lib (decDigits)
attribute [local go_sem] undef

def fourCov : List (Nat × Nat) := [(167772161, 32), (167772162, 31), (167772164, 31), (167772166, 32)]
theorem lit_same (w : World) (u : Value) (hu : Pfs w u fourCov) : Calls Tryd.prog 39 #[u, .slice (some ⟨w.heap.size, 0, none⟩) 4 4] (w.alloc (.cells #[.int .u32 167772161, .int .u8 32, .int .u32 167772162, .int .u8 31, .int .u32 167772164, .int .u8 31, .int .u32 167772166, .int .u8 32] 24)) fun e w' => e = .returned (.bool true) ∧ Frm No w w' := by
  have hb := Blk.new w 24 #[.int .u32 167772161, .int .u8 32, .int .u32 167772162, .int .u8 31, .int .u32 167772164, .int .u8 31, .int .u32 167772166, .int .u8 32]
  have hv : Pfs (w.alloc (.cells #[.int .u32 167772161, .int .u8 32, .int .u32 167772162, .int .u8 31, .int .u32 167772164, .int .u8 31, .int .u32 167772166, .int .u8 32] 24)) (.slice (some ⟨w.heap.size, 0, none⟩) 4 4) fourCov := by
    refine ⟨_, 4, rfl, fun _ => ⟨_, rfl, fun i hi => ?_⟩⟩
    have hi' : i < 4 := hi
    rcases i with _ | _ | _ | _ | i
    · exact ⟨hb.cell 0, hb.cell 1⟩
    · exact ⟨hb.cell 2, hb.cell 3⟩
    · exact ⟨hb.cell 4, hb.cell 5⟩
    · exact ⟨hb.cell 6, hb.cell 7⟩
    · omega
  refine (same_any _ u _ fourCov fourCov (hu.frm ((Frm.refl No w).alloc _)) hv (by decide)).mono ?_
  rintro e w' ⟨rfl, k, rfl⟩
  exact ⟨rfl, ((Frm.refl No w).alloc _).drewN k⟩

theorem bad_at (W : World) (g : Nat) (h : Blk W g 9 #[.string ⟨#[49, 48, 46, 48, 46, 48, 46, 48, 49]⟩, .string ⟨#[49, 48, 46, 48, 46, 48]⟩, .string ⟨#[49, 48, 46, 48, 46, 48, 46, 50, 53, 54]⟩, .string ⟨#[49, 48, 46, 48, 46, 48, 46, 49, 46]⟩, .string ⟨#[]⟩, .string ⟨#[49, 48, 46, 48, 46, 48, 46, 49, 47, 56]⟩, .string ⟨#[49, 48, 46, 48, 46, 48, 46, 48, 47, 51, 51]⟩, .string ⟨#[48, 45, 54, 53, 53, 51, 53]⟩, .string ⟨#[56, 48, 45, 56, 48]⟩, .string ⟨#[57, 45, 56]⟩]) (j : Nat) (hj : j < 10) : ∃ l, l ∈ badTexts ∧ W.cell? ⟨g, j, none⟩ = some (.string ⟨l.toArray⟩) := by
  rcases j with _ | _ | _ | _ | _ | _ | _ | _ | _ | _ | j
  · exact ⟨[49, 48, 46, 48, 46, 48, 46, 48, 49], by simp [badTexts], h.cell 0⟩
  · exact ⟨[49, 48, 46, 48, 46, 48], by simp [badTexts], h.cell 1⟩
  · exact ⟨[49, 48, 46, 48, 46, 48, 46, 50, 53, 54], by simp [badTexts], h.cell 2⟩
  · exact ⟨[49, 48, 46, 48, 46, 48, 46, 49, 46], by simp [badTexts], h.cell 3⟩
  · exact ⟨[], by simp [badTexts], h.cell 4⟩
  · exact ⟨[49, 48, 46, 48, 46, 48, 46, 49, 47, 56], by simp [badTexts], h.cell 5⟩
  · exact ⟨[49, 48, 46, 48, 46, 48, 46, 48, 47, 51, 51], by simp [badTexts], h.cell 6⟩
  · exact ⟨[48, 45, 54, 53, 53, 51, 53], by simp [badTexts], h.cell 7⟩
  · exact ⟨[56, 48, 45, 56, 48], by simp [badTexts], h.cell 8⟩
  · exact ⟨[57, 45, 56], by simp [badTexts], h.cell 9⟩
  · omega

set_option maxRecDepth 100000 in
set_option maxHeartbeats 8000000 in
theorem awake (w : World) (htab : Tab w) : Calls Tryd.prog 13 #[] w fun e w' => e = .returned (.bool true) ∧ Frm No w w' := by
  have T0 := Lib.hid htab
  clear htab
  go_enter Tryd.func13, Tryd.ntmps13
  go_wp2_with fail
  refine (lit_read _).mono ?_
  rintro e w1 ⟨rfl, hf⟩
  have F1 := Lib.hid hf
  clear hf
  go_wp2_with fail
  refine (lit_cut _).mono ?_
  rintro e w2 ⟨rfl, hf⟩
  have F2 := Lib.hid (F1.out.new0 hf)
  clear hf F1
  obtain ⟨W2, hW2⟩ : ∃ W, w2.alloc (.cells #[.int .u32 167772160, .int .u8 8] 24) = W := ⟨_, rfl⟩
  have B2 : Hid (Blk W2 w2.heap.size 24 #[.int .u32 167772160, .int .u8 8]) := by
    show Blk W2 _ _ _
    rw [← hW2]
    exact Blk.new _ _ _
  have G2 : Hid (Frm No w W2) := by
    show Frm No w W2
    rw [← hW2]
    exact F2.out.alloc _
  obtain ⟨bp, hbp⟩ : ∃ g, w2.heap.size = g := ⟨_, rfl⟩
  rw [hbp] at B2
  obtain ⟨b0, b1, _, _⟩ := blk_cells2 B2.out
  have T2 := Lib.hid (T0.out.frm G2.out)
  go_upto_region 3 with fail
  clear hW2 hbp F2
  go_wp2_with fail
  refine (lit_ptext _ T2.out).mono ?_
  rintro e w3 ⟨rfl, hf⟩
  have G3 := Lib.hid (G2.out.new0 hf)
  have B3 := Lib.hid (B2.out.frm hf (fun x => x))
  clear hf b0 b1 G2 B2
  obtain ⟨b0, b1, _, _⟩ := blk_cells2 B3.out
  go_wp2_with fail
  refine (lit_bounds _).mono ?_
  rintro e w4 ⟨rfl, hf⟩
  have G4 := Lib.hid (G3.out.new0 hf)
  have B4 := Lib.hid (B3.out.frm hf (fun x => x))
  clear hf b0 b1 G3 B3
  go_wp2_with fail
  refine (lit_cover _ 167772161 167772166 (by omega) (by omega) (by omega) _ _ cov_lit1).mono ?_
  rintro e w5 ⟨g1, c1, rfl, hp, hf⟩
  have G5 := Lib.hid (G4.out.new0 hf)
  have B5 := Lib.hid (B4.out.frm hf (fun x => x))
  have P5 := Lib.hid hp
  clear hf hp G4 B4
  go_wp2_with fail
  refine (lit_cover _ 0 4294967295 (by omega) (by omega) (by omega) _ _ cov_lit2).mono ?_
  rintro e w6 ⟨g2, c2, rfl, hp, hf⟩
  have G6 := Lib.hid (G5.out.new0 hf)
  have B6 := Lib.hid (B5.out.frm hf (fun x => x))
  have P6 := Lib.hid (P5.out.frm hf)
  have Q6 := Lib.hid hp
  have T6 := Lib.hid (T0.out.frm G6.out)
  clear hf hp G5 B5 P5
  go_wp2_with fail
  refine (lit_text1 _ T6.out).mono ?_
  rintro e w7 ⟨rfl, hf⟩
  have H7 := Lib.hid hf
  clear hf
  go_wp2_with fail
  refine (lit_text2 _ (T6.out.frm H7.out)).mono ?_
  rintro e w8 ⟨rfl, hf⟩
  have H8 := Lib.hid (H7.out.new0 hf)
  clear hf H7
  obtain ⟨b0, b1, _, _⟩ := blk_cells2 (B6.out.frm H8.out (fun x => x))
  go_wp2_with fail
  refine (lit_has _).mono ?_
  rintro e w9 ⟨rfl, hf⟩
  have H9 := Lib.hid (H8.out.new0 hf)
  clear hf H8 b0 b1
  obtain ⟨b0, b1, _, _⟩ := blk_cells2 (B6.out.frm H9.out (fun x => x))
  go_wp2_with fail
  refine (lit_inside _).mono ?_
  rintro e w10 ⟨rfl, hf⟩
  have H10 := Lib.hid (H9.out.new0 hf)
  clear hf H9 b0 b1
  obtain ⟨_, _, he, hq⟩ := Q6.out.frm H10.out
  obtain ⟨g', hg', hcell⟩ := hq (by simp)
  cases he
  cases hg'
  have q0 : w10.cell? ⟨g2, 0, none⟩ = some (.int .u32 0) := (hcell 0 (by simp)).1
  have q1 : w10.cell? ⟨g2, 1, none⟩ = some (.int .u8 0) := (hcell 0 (by simp)).2
  clear hcell hq
  go_upto_region 9 with fail
  have S10 := Lib.hid (lit_same w10 _ (P6.out.frm H10.out))
  clear q0 q1
  go_wp2_with fail
  refine S10.out.mono ?_
  rintro e w11 ⟨rfl, hf⟩
  have G11 := Lib.hid ((G6.out.new0 H10.out).new0 hf)
  clear hf S10
  go_wp2_with fail
  obtain ⟨W12, hW12⟩ : ∃ W, w11.alloc (.cells #[.string ⟨#[49, 48, 46, 48, 46, 48, 46, 48, 49]⟩, .string ⟨#[49, 48, 46, 48, 46, 48]⟩, .string ⟨#[49, 48, 46, 48, 46, 48, 46, 50, 53, 54]⟩, .string ⟨#[49, 48, 46, 48, 46, 48, 46, 49, 46]⟩, .string ⟨#[]⟩, .string ⟨#[49, 48, 46, 48, 46, 48, 46, 49, 47, 56]⟩, .string ⟨#[49, 48, 46, 48, 46, 48, 46, 48, 47, 51, 51]⟩, .string ⟨#[48, 45, 54, 53, 53, 51, 53]⟩, .string ⟨#[56, 48, 45, 56, 48]⟩, .string ⟨#[57, 45, 56]⟩] 9) = W := ⟨_, rfl⟩
  have B12 : Hid (Blk W12 w11.heap.size 9 #[.string ⟨#[49, 48, 46, 48, 46, 48, 46, 48, 49]⟩, .string ⟨#[49, 48, 46, 48, 46, 48]⟩, .string ⟨#[49, 48, 46, 48, 46, 48, 46, 50, 53, 54]⟩, .string ⟨#[49, 48, 46, 48, 46, 48, 46, 49, 46]⟩, .string ⟨#[]⟩, .string ⟨#[49, 48, 46, 48, 46, 48, 46, 49, 47, 56]⟩, .string ⟨#[49, 48, 46, 48, 46, 48, 46, 48, 47, 51, 51]⟩, .string ⟨#[48, 45, 54, 53, 53, 51, 53]⟩, .string ⟨#[56, 48, 45, 56, 48]⟩, .string ⟨#[57, 45, 56]⟩]) := by
    show Blk W12 _ _ _
    rw [← hW12]
    exact Blk.new _ _ _
  have G12 : Hid (Frm No w W12) := by
    show Frm No w W12
    rw [← hW12]
    exact G11.out.alloc _
  try rw [hW12]
  clear hW12
  go_loopw [121] (fun i wr => ∃ j : Nat, j ≤ 10 ∧ i = .int .i64 (j : Int) ∧ Hid (Frm No W12 wr)) (fun i _ => 10 - (RowKit.intOf i).toNat)
  case atStart => exact ⟨0, by omega, rfl, Frm.refl _ _⟩
  case round =>
    obtain ⟨j, hj, rfl, HF⟩ := hrel
    by_cases hlt : j < 10
    · obtain ⟨l, hl, hcell⟩ := bad_at wr _ (B12.out.frm HF.out (fun x => x)) j hlt
      obtain ⟨h1, h2, h3, h4, h5⟩ := bad_all l hl
      have R1 := Lib.hid (fun W => read_no l W (by omega) h1)
      have R2 := Lib.hid (fun W => rpfx_no l W (by omega) h2)
      have R3 := Lib.hid (fun W => rrng_no l W (by omega) h4 h3)
      clear h1 h2 h3 h4 h5 hl
      have q : (j : Int) < 10 := by omega
      go_wp2_with fail
      refine (R1.out _).mono ?_
      rintro e v1 ⟨rfl, hf⟩
      have K1 := Lib.hid (HF.out.new0 hf)
      clear hf
      go_wp2_with fail
      refine (R2.out _).mono ?_
      rintro e v2 ⟨rfl, hf⟩
      have K2 := Lib.hid (K1.out.new0 hf)
      clear hf
      go_wp2_with fail
      refine (R3.out _).mono ?_
      rintro e v3 ⟨rfl, hf⟩
      have K3 := Lib.hid ((K2.out.alloc _).new0 hf)
      clear hf
      go_wp2
      go_roundw
      case rel => exact ⟨j + 1, by omega, by go_num, K3.out.alloc _⟩
      case measure => simp [RowKit.intOf]; omega
    · have F13 := Lib.hid (G12.out.new0 HF.out)
      have T13 := Lib.hid (T0.out.frm (F13.out.alloc (.cells #[.int .u8 6, .int .u32 167772161, .int .u32 167772162, .int .u16 80, .int .u16 90] 31)))
      have K13 := Lib.hid (Blk.new wr 31 #[.int .u8 6, .int .u32 167772161, .int .u32 167772162, .int .u16 80, .int .u16 90])
      go_wp2_with fail
      refine (lit_ktext _ T13.out).mono ?_
      rintro e w14 ⟨rfl, hf⟩
      have F14 := Lib.hid ((F13.out.alloc _).new0 hf)
      obtain ⟨c0, c1, c2, c3, c4⟩ := blk_cells5 (K13.out.frm hf (fun x => x))
      have T14 := Lib.hid (T13.out.frm hf)
      clear hf
      go_wp2_with fail
      refine (turn_any _ _ _ _ _ _).mono ?_
      rintro e w15 ⟨rfl, hf⟩
      have F15 := Lib.hid (F14.out.new0 hf)
      have T15 := Lib.hid (T14.out.frm hf)
      clear hf
      go_wp2_with fail
      refine (lit_ktext2 _ T15.out).mono ?_
      rintro e w16 ⟨rfl, hf⟩
      have F16 := Lib.hid (F15.out.new0 hf)
      clear hf
      go_wp2
      go_ret
      exact ⟨rfl, F16.out⟩
end Go.Proofs.YtknmnlbgjpbgiaaDoor
