/-
  AddrNests answers true.
-/
import Derived.Test.YtknmnlbgjpbgiaaDoorN0
namespace Go.Proofs.YtknmnlbgjpbgiaaDoor
open Go.RowKit
attribute [local go_sem] undef
attribute [local irreducible] wpList wpQuiet

theorem cut_yes (w : World) (a n : Nat) (ha : a < 4294967296) (hn : n ≤ 32) : Calls Tryd.prog 19 #[.int .u32 (a : Int), .int .u8 (n : Int)] w fun e w' => e = .returned (.tuple #[.agg #[.int .u32 (cutN a n : Int), .int .u8 (n : Int)], .int .i64 0]) ∧ Frm No w w' := by
  refine (cut_pfx w a n ha (by omega)).mono ?_
  rintro e w' ⟨he, hw⟩
  unfold cutV at he
  rw [if_pos hn] at he
  exact ⟨he, hw⟩

theorem five_at {W : World} {g a b x p q : Nat} (h : Blk W g 22 #[.int .u32 (a : Int), .int .u32 (b : Int), .int .u32 (x : Int), .int .u32 (p : Int), .int .u32 (q : Int)])
    (ha : a < 4294967296) (hb : b < 4294967296) (hx : x < 4294967296) (hpl : p < 4294967296) (hql : q < 4294967296) (j : Nat) (hj : j < 5) : ∃ y : Nat, y < 4294967296 ∧ W.cell? ⟨g, j, none⟩ = some (.int .u32 (y : Int)) := by
  rcases j with _ | _ | _ | _ | _ | j
  · exact ⟨a, ha, h.cell 0⟩
  · exact ⟨b, hb, h.cell 1⟩
  · exact ⟨x, hx, h.cell 2⟩
  · exact ⟨p, hpl, h.cell 3⟩
  · exact ⟨q, hql, h.cell 4⟩
  · omega

set_option maxRecDepth 100000 in
set_option maxHeartbeats 2000000 in
theorem nests_walk (w : World) (htab : Tab w) (a b x m0 n0 m n p q : Nat) (bi bo : Bool) (em : (m0 : Int) % 33 = (m : Int)) (en : (n0 : Int) % 33 = (n : Int))
    (C1 : Hid (∀ W, Calls Tryd.prog 19 #[.int .u32 (a : Int), .int .u8 (m : Int)] W fun e w' => e = .returned (.tuple #[.agg #[.int .u32 (p : Int), .int .u8 (m : Int)], .int .i64 0]) ∧ Frm No W w'))
    (C2 : Hid (∀ W, Calls Tryd.prog 19 #[.int .u32 (b : Int), .int .u8 (n : Int)] W fun e w' => e = .returned (.tuple #[.agg #[.int .u32 (q : Int), .int .u8 (n : Int)], .int .i64 0]) ∧ Frm No W w'))
    (C3 : Hid (∀ W, Calls Tryd.prog 20 #[.agg #[.int .u32 (p : Int), .int .u8 (m : Int)], .agg #[.int .u32 (q : Int), .int .u8 (n : Int)]] W (BoolNo bi W)))
    (C4 : Hid (∀ W, Calls Tryd.prog 20 #[.agg #[.int .u32 (q : Int), .int .u8 (n : Int)], .agg #[.int .u32 (p : Int), .int .u8 (m : Int)]] W (BoolNo bo W)))
    (M1 : Hid (∀ W, Calls Tryd.prog 29 #[.agg #[.int .u32 (p : Int), .int .u8 (m : Int)], .agg #[.int .u32 (q : Int), .int .u8 (n : Int)]] W (BoolNo (bi || bo) W)))
    (M2 : Hid (∀ W, Calls Tryd.prog 29 #[.agg #[.int .u32 (q : Int), .int .u8 (n : Int)], .agg #[.int .u32 (p : Int), .int .u8 (m : Int)]] W (BoolNo (bo || bi) W)))
    (M3 : Hid (∀ W, Calls Tryd.prog 29 #[.agg #[.int .u32 (p : Int), .int .u8 (m : Int)], .agg #[.int .u32 (p : Int), .int .u8 (m : Int)]] W (BoolNo true W)))
    (C5 : Hid (∀ W, Calls Tryd.prog 20 #[.agg #[.int .u32 (p : Int), .int .u8 (m : Int)], .agg #[.int .u32 (p : Int), .int .u8 (m : Int)]] W (BoolNo true W)))
    (hp hq : Nat → Bool) (hpa : hp a = true) (hqb : hq b = true)
    (H1 : Hid (∀ y : Nat, y < 4294967296 → ∀ W, Calls Tryd.prog 18 #[.agg #[.int .u32 (p : Int), .int .u8 (m : Int)], .int .u32 (y : Int)] W (BoolNo (hp y) W)))
    (H2 : Hid (∀ y : Nat, y < 4294967296 → ∀ W, Calls Tryd.prog 18 #[.agg #[.int .u32 (q : Int), .int .u8 (n : Int)], .int .u32 (y : Int)] W (BoolNo (hq y) W)))
    (L1 : Hid (bi = true → bo = true → p = q ∧ m = n)) (L2 : Hid (bi = true → ¬ m < n)) (L3 : Hid (bi = true → ∀ y, hp y = true → hq y = true)) (L4 : Hid (bi = false → bo = false → ∀ y, hp y = true → hq y = false))
    (ha : a < 4294967296) (hb : b < 4294967296) (hx : x < 4294967296) (hpl : p < 4294967296) (hql : q < 4294967296) :
    Calls Tryd.prog 8 #[.int .u32 (a : Int), .int .u32 (b : Int), .int .u32 (x : Int), .int .u8 (m0 : Int), .int .u8 (n0 : Int)] w fun e w' => e = .returned (.bool true) ∧ Frm No w w' := by
  have T0 := Lib.hid htab
  clear htab
  go_enter Tryd.func8, Tryd.ntmps8
  go_wp2_with fail
  refine (awake _ T0.out).mono ?_
  rintro e w0 ⟨rfl, hf⟩
  have F0 := Lib.hid hf
  clear hf
  go_wp2_with fail
  refine (C1.out _).mono ?_
  rintro e w1 ⟨rfl, hf⟩
  have F1 := Lib.hid (F0.out.new0 hf)
  clear hf F0
  have B1 := Lib.hid (Blk.new w1 24 #[.int .u32 (p : Int), .int .u8 (m : Int)])
  go_wp2_with fail
  refine (C2.out _).mono ?_
  rintro e w2 ⟨rfl, hf⟩
  have F2 := Lib.hid ((F1.out.alloc _).new0 hf)
  have B2 := Lib.hid ((B1.out.frm hf (fun x => x)).alloc (.cells #[.int .u32 (q : Int), .int .u8 (n : Int)] 24))
  have D2 := Lib.hid (Blk.new w2 24 #[.int .u32 (q : Int), .int .u8 (n : Int)])
  clear hf F1 B1
  have C0 := Lib.hid (fun W (hW : Frm No (w2.alloc (.cells #[.int .u32 (q : Int), .int .u8 (n : Int)] 24)) W) => And.intro (blk_cells2 (B2.out.frm hW (fun x => x))) (blk_cells2 (D2.out.frm hW (fun x => x))))
  have G2 := Lib.hid (F2.out.alloc (.cells #[.int .u32 (q : Int), .int .u8 (n : Int)] 24))
  clear F2
  go_upto_region 5 with fail
  refine region_no (by kernel_rfl) (by kernel_rfl) ?_
  repeat (refine wpQuiet_step (fun K hK => ?_); go_simp; first
      | (refine hK _ ?_; clear hK K)
      | (apply Exists.intro; refine ⟨fun W hW => ?_, hK _ ?_⟩; (first | rfl | ((obtain ⟨⟨c0, c1, _, _⟩, c2, c3, _, _⟩ := C0.out W hW); go_simp; rfl)); clear hK K))
  refine wpQuiet_step (fun K hK => ?_)
  go_simp
  apply Exists.intro
  refine ⟨fun W hW => (C3.out W).mono fun e w' he => ⟨he.1, hW.new0 he.2⟩, hK _ ?_⟩
  clear hK K
  repeat (refine wpQuiet_step (fun K hK => ?_); go_simp; first
      | (refine hK _ ?_; clear hK K)
      | (apply Exists.intro; refine ⟨fun W hW => ?_, hK _ ?_⟩; (first | rfl | ((obtain ⟨⟨c0, c1, _, _⟩, c2, c3, _, _⟩ := C0.out W hW); go_simp; rfl)); clear hK K))
  refine wpQuiet_step (fun K hK => ?_)
  go_simp
  apply Exists.intro
  refine ⟨fun W hW => (C4.out W).mono fun e w' he => ⟨he.1, hW.new0 he.2⟩, hK _ ?_⟩
  clear hK K
  repeat (refine wpQuiet_step (fun K hK => ?_); go_simp; first
      | (refine hK _ ?_; clear hK K)
      | (apply Exists.intro; refine ⟨fun W hW => ?_, hK _ ?_⟩; (first | rfl | ((obtain ⟨⟨c0, c1, _, _⟩, c2, c3, _, _⟩ := C0.out W hW); go_simp; rfl)); clear hK K))
  refine wpQuiet_nil ?_
  intro w3 hf
  obtain ⟨⟨c0, c1, _, _⟩, c2, c3, _, _⟩ := C0.out _ hf
  have G3 := Lib.hid (G2.out.new0 hf)
  have F3 := Lib.hid hf
  clear hf
  have A1 := Lib.hid (fun W => hpa ▸ H1.out a ha W)
  have A2 := Lib.hid (fun W => hqb ▸ H2.out b hb W)
  clear hpa hqb C1 C2 C3 C4 em en
  go_wp2_with fail
  refine (M1.out _).mono ?_
  rintro e w4 ⟨rfl, hf⟩
  have G4 := Lib.hid (G3.out.new0 hf)
  have C4 := Lib.hid (fun W (hW : Frm No w4 W) => C0.out W ((F3.out.new0 hf).new0 hW))
  clear hf C0 G3 F3 c0 c1 c2 c3
  obtain ⟨⟨c0, c1, _, _⟩, c2, c3, _, _⟩ := C4.out _ (Frm.refl _ _)
  clear M1
  have L0 : Hid (bi = true → ¬ (m : Int) < n) := fun h => by have := L2.out h; omega
  clear L2
  rcases Bool.eq_false_or_eq_true bi with hi | hi <;> rcases Bool.eq_false_or_eq_true bo with ho | ho
  · obtain ⟨rfl, rfl⟩ := L1.out hi ho
    subst hi ho
    go_wp2_with fail
    refine (M2.out _).mono ?_
    rintro e w5 ⟨rfl, hf⟩
    have F5 := Lib.hid hf
    clear hf M2 c0 c1 c2 c3
    obtain ⟨⟨c0, c1, _, _⟩, c2, c3, _, _⟩ := C4.out _ F5.out
    go_wp2_with fail
    refine (M3.out _).mono ?_
    rintro e w6 ⟨rfl, hf⟩
    have F6 := Lib.hid (F5.out.new0 hf)
    clear hf F5 M3 c0 c1 c2 c3
    obtain ⟨⟨c0, c1, _, _⟩, c2, c3, _, _⟩ := C4.out _ F6.out
    go_wp2_with fail
    refine (C5.out _).mono ?_
    rintro e w7 ⟨rfl, hf⟩
    have F7 := Lib.hid (F6.out.new0 hf)
    clear hf F6 C5 c0 c1 c2 c3
    obtain ⟨⟨c0, c1, _, _⟩, c2, c3, _, _⟩ := C4.out _ F7.out
    go_wp2_with fail
    refine (A1.out _).mono ?_
    rintro e w8 ⟨rfl, hf⟩
    have F8 := Lib.hid (F7.out.new0 hf)
    clear hf F7 A1 c0 c1 c2 c3
    obtain ⟨⟨c0, c1, _, _⟩, c2, c3, _, _⟩ := C4.out _ F8.out
    go_wp2_with fail
    refine (A2.out _).mono ?_
    rintro e w9 ⟨rfl, hf⟩
    have F9 := Lib.hid (F8.out.new0 hf)
    clear hf F8 A2 c0 c1 c2 c3
    obtain ⟨⟨c0, c1, _, _⟩, c2, c3, _, _⟩ := C4.out _ F9.out
    go_wp2_with fail
    have B9 := Lib.hid (Blk.new w9 22 #[.int .u32 (a : Int), .int .u32 (b : Int), .int .u32 (x : Int), .int .u32 (p : Int), .int .u32 (p : Int)])
    have F10 := Lib.hid (F9.out.alloc (.cells #[.int .u32 (a : Int), .int .u32 (b : Int), .int .u32 (x : Int), .int .u32 (p : Int), .int .u32 (p : Int)] 22))
    have G10 := Lib.hid (G4.out.new0 F10.out)
    clear c0 c1 c2 c3 F9
    go_loopw [118] (fun i wr => ∃ j : Nat, j ≤ 5 ∧ i = .int .i64 (j : Int) ∧ Hid (Frm No (w9.alloc (.cells #[.int .u32 (a : Int), .int .u32 (b : Int), .int .u32 (x : Int), .int .u32 (p : Int), .int .u32 (p : Int)] 22)) wr)) (fun i _ => 5 - (RowKit.intOf i).toNat)
    case atStart => exact ⟨0, by omega, rfl, Frm.refl _ _⟩
    case round =>
      obtain ⟨j, hj, rfl, HF⟩ := hrel
      obtain ⟨⟨c0, c1, _, _⟩, c2, c3, _, _⟩ := C4.out _ (F10.out.new0 HF.out)
      by_cases hlt : j < 5
      · obtain ⟨y, hy, hcell⟩ := five_at (B9.out.frm HF.out (fun x => x)) ha hb hx hpl hpl j hlt
        have qlt : (j : Int) < 5 := by omega
        rcases Bool.eq_false_or_eq_true (hp y) with hpy | hpy
        · have P1 := Lib.hid (fun W => hpy ▸ H1.out y hy W)
          have P2 := Lib.hid (fun W => L3.out (by simp) y hpy ▸ H2.out y hy W)
          go_wp2_with fail
          refine (P1.out _).mono ?_
          rintro e v1 ⟨rfl, hf⟩
          have K1 := Lib.hid (HF.out.new0 hf)
          clear hf c0 c1 c2 c3
          obtain ⟨⟨c0, c1, _, _⟩, c2, c3, _, _⟩ := C4.out _ (F10.out.new0 K1.out)
          go_wp2_with fail
          refine (P2.out _).mono ?_
          rintro e v2 ⟨rfl, hf⟩
          have K2 := Lib.hid (K1.out.new0 hf)
          clear hf c0 c1 c2 c3
          go_wp2
          go_roundw
          case rel => exact ⟨j + 1, by omega, by go_num, K2.out⟩
          case measure => simp [RowKit.intOf]; omega
        · have P1 := Lib.hid (fun W => hpy ▸ H1.out y hy W)
          go_wp2_with fail
          refine (P1.out _).mono ?_
          rintro e v1 ⟨rfl, hf⟩
          have K1 := Lib.hid (HF.out.new0 hf)
          clear hf c0 c1 c2 c3
          obtain ⟨⟨c0, c1, _, _⟩, c2, c3, _, _⟩ := C4.out _ (F10.out.new0 K1.out)
          go_wp2
          go_roundw
          case rel => exact ⟨j + 1, by omega, by go_num, K1.out⟩
          case measure => simp [RowKit.intOf]; omega
      · have qlt : ¬ (j : Int) < 5 := by omega
        go_wp2_with fail
        go_ret
        exact ⟨rfl, G10.out.new0 HF.out⟩
  · have l0 := L0.out hi
    have l1 : ¬ m < n := by omega
    subst hi ho
    go_wp2_with fail
    refine (M2.out _).mono ?_
    rintro e w5 ⟨rfl, hf⟩
    have F5 := Lib.hid hf
    clear hf M2 c0 c1 c2 c3
    obtain ⟨⟨c0, c1, _, _⟩, c2, c3, _, _⟩ := C4.out _ F5.out
    go_wp2_with fail
    refine (M3.out _).mono ?_
    rintro e w6 ⟨rfl, hf⟩
    have F6 := Lib.hid (F5.out.new0 hf)
    clear hf F5 M3 c0 c1 c2 c3
    obtain ⟨⟨c0, c1, _, _⟩, c2, c3, _, _⟩ := C4.out _ F6.out
    go_wp2_with fail
    refine (C5.out _).mono ?_
    rintro e w7 ⟨rfl, hf⟩
    have F7 := Lib.hid (F6.out.new0 hf)
    clear hf F6 C5 c0 c1 c2 c3
    obtain ⟨⟨c0, c1, _, _⟩, c2, c3, _, _⟩ := C4.out _ F7.out
    go_wp2_with fail
    refine (A1.out _).mono ?_
    rintro e w8 ⟨rfl, hf⟩
    have F8 := Lib.hid (F7.out.new0 hf)
    clear hf F7 A1 c0 c1 c2 c3
    obtain ⟨⟨c0, c1, _, _⟩, c2, c3, _, _⟩ := C4.out _ F8.out
    go_wp2_with fail
    refine (A2.out _).mono ?_
    rintro e w9 ⟨rfl, hf⟩
    have F9 := Lib.hid (F8.out.new0 hf)
    clear hf F8 A2 c0 c1 c2 c3
    obtain ⟨⟨c0, c1, _, _⟩, c2, c3, _, _⟩ := C4.out _ F9.out
    go_wp2_with fail
    have B9 := Lib.hid (Blk.new w9 22 #[.int .u32 (a : Int), .int .u32 (b : Int), .int .u32 (x : Int), .int .u32 (p : Int), .int .u32 (q : Int)])
    have F10 := Lib.hid (F9.out.alloc (.cells #[.int .u32 (a : Int), .int .u32 (b : Int), .int .u32 (x : Int), .int .u32 (p : Int), .int .u32 (q : Int)] 22))
    have G10 := Lib.hid (G4.out.new0 F10.out)
    clear c0 c1 c2 c3 F9 l0
    go_loopw [118] (fun i wr => ∃ j : Nat, j ≤ 5 ∧ i = .int .i64 (j : Int) ∧ Hid (Frm No (w9.alloc (.cells #[.int .u32 (a : Int), .int .u32 (b : Int), .int .u32 (x : Int), .int .u32 (p : Int), .int .u32 (q : Int)] 22)) wr)) (fun i _ => 5 - (RowKit.intOf i).toNat)
    case atStart => exact ⟨0, by omega, rfl, Frm.refl _ _⟩
    case round =>
      obtain ⟨j, hj, rfl, HF⟩ := hrel
      obtain ⟨⟨c0, c1, _, _⟩, c2, c3, _, _⟩ := C4.out _ (F10.out.new0 HF.out)
      by_cases hlt : j < 5
      · obtain ⟨y, hy, hcell⟩ := five_at (B9.out.frm HF.out (fun x => x)) ha hb hx hpl hql j hlt
        have qlt : (j : Int) < 5 := by omega
        rcases Bool.eq_false_or_eq_true (hp y) with hpy | hpy
        · have P1 := Lib.hid (fun W => hpy ▸ H1.out y hy W)
          have P2 := Lib.hid (fun W => L3.out (by simp) y hpy ▸ H2.out y hy W)
          go_wp2_with fail
          refine (P1.out _).mono ?_
          rintro e v1 ⟨rfl, hf⟩
          have K1 := Lib.hid (HF.out.new0 hf)
          clear hf c0 c1 c2 c3
          obtain ⟨⟨c0, c1, _, _⟩, c2, c3, _, _⟩ := C4.out _ (F10.out.new0 K1.out)
          go_wp2_with fail
          refine (P2.out _).mono ?_
          rintro e v2 ⟨rfl, hf⟩
          have K2 := Lib.hid (K1.out.new0 hf)
          clear hf c0 c1 c2 c3
          go_wp2
          go_roundw
          case rel => exact ⟨j + 1, by omega, by go_num, K2.out⟩
          case measure => simp [RowKit.intOf]; omega
        · have P1 := Lib.hid (fun W => hpy ▸ H1.out y hy W)
          go_wp2_with fail
          refine (P1.out _).mono ?_
          rintro e v1 ⟨rfl, hf⟩
          have K1 := Lib.hid (HF.out.new0 hf)
          clear hf c0 c1 c2 c3
          obtain ⟨⟨c0, c1, _, _⟩, c2, c3, _, _⟩ := C4.out _ (F10.out.new0 K1.out)
          go_wp2
          go_roundw
          case rel => exact ⟨j + 1, by omega, by go_num, K1.out⟩
          case measure => simp [RowKit.intOf]; omega
      · have qlt : ¬ (j : Int) < 5 := by omega
        go_wp2_with fail
        go_ret
        exact ⟨rfl, G10.out.new0 HF.out⟩
  · subst hi ho
    go_wp2_with fail
    refine (M2.out _).mono ?_
    rintro e w5 ⟨rfl, hf⟩
    have F5 := Lib.hid hf
    clear hf M2 c0 c1 c2 c3
    obtain ⟨⟨c0, c1, _, _⟩, c2, c3, _, _⟩ := C4.out _ F5.out
    go_wp2_with fail
    refine (M3.out _).mono ?_
    rintro e w6 ⟨rfl, hf⟩
    have F6 := Lib.hid (F5.out.new0 hf)
    clear hf F5 M3 c0 c1 c2 c3
    obtain ⟨⟨c0, c1, _, _⟩, c2, c3, _, _⟩ := C4.out _ F6.out
    go_wp2_with fail
    refine (C5.out _).mono ?_
    rintro e w7 ⟨rfl, hf⟩
    have F7 := Lib.hid (F6.out.new0 hf)
    clear hf F6 C5 c0 c1 c2 c3
    obtain ⟨⟨c0, c1, _, _⟩, c2, c3, _, _⟩ := C4.out _ F7.out
    go_wp2_with fail
    refine (A1.out _).mono ?_
    rintro e w8 ⟨rfl, hf⟩
    have F8 := Lib.hid (F7.out.new0 hf)
    clear hf F7 A1 c0 c1 c2 c3
    obtain ⟨⟨c0, c1, _, _⟩, c2, c3, _, _⟩ := C4.out _ F8.out
    go_wp2_with fail
    refine (A2.out _).mono ?_
    rintro e w9 ⟨rfl, hf⟩
    have F9 := Lib.hid (F8.out.new0 hf)
    clear hf F8 A2 c0 c1 c2 c3
    obtain ⟨⟨c0, c1, _, _⟩, c2, c3, _, _⟩ := C4.out _ F9.out
    go_wp2_with fail
    have B9 := Lib.hid (Blk.new w9 22 #[.int .u32 (a : Int), .int .u32 (b : Int), .int .u32 (x : Int), .int .u32 (p : Int), .int .u32 (q : Int)])
    have F10 := Lib.hid (F9.out.alloc (.cells #[.int .u32 (a : Int), .int .u32 (b : Int), .int .u32 (x : Int), .int .u32 (p : Int), .int .u32 (q : Int)] 22))
    have G10 := Lib.hid (G4.out.new0 F10.out)
    clear c0 c1 c2 c3 F9
    go_loopw [118] (fun i wr => ∃ j : Nat, j ≤ 5 ∧ i = .int .i64 (j : Int) ∧ Hid (Frm No (w9.alloc (.cells #[.int .u32 (a : Int), .int .u32 (b : Int), .int .u32 (x : Int), .int .u32 (p : Int), .int .u32 (q : Int)] 22)) wr)) (fun i _ => 5 - (RowKit.intOf i).toNat)
    case atStart => exact ⟨0, by omega, rfl, Frm.refl _ _⟩
    case round =>
      obtain ⟨j, hj, rfl, HF⟩ := hrel
      obtain ⟨⟨c0, c1, _, _⟩, c2, c3, _, _⟩ := C4.out _ (F10.out.new0 HF.out)
      by_cases hlt : j < 5
      · obtain ⟨y, hy, hcell⟩ := five_at (B9.out.frm HF.out (fun x => x)) ha hb hx hpl hql j hlt
        have qlt : (j : Int) < 5 := by omega
        go_wp2
        go_roundw
        case rel => exact ⟨j + 1, by omega, by go_num, HF.out⟩
        case measure => simp [RowKit.intOf]; omega
      · have qlt : ¬ (j : Int) < 5 := by omega
        go_wp2_with fail
        go_ret
        exact ⟨rfl, G10.out.new0 HF.out⟩
  · subst hi ho
    go_wp2_with fail
    refine (M2.out _).mono ?_
    rintro e w5 ⟨rfl, hf⟩
    have F5 := Lib.hid hf
    clear hf M2 c0 c1 c2 c3
    obtain ⟨⟨c0, c1, _, _⟩, c2, c3, _, _⟩ := C4.out _ F5.out
    go_wp2_with fail
    refine (M3.out _).mono ?_
    rintro e w6 ⟨rfl, hf⟩
    have F6 := Lib.hid (F5.out.new0 hf)
    clear hf F5 M3 c0 c1 c2 c3
    obtain ⟨⟨c0, c1, _, _⟩, c2, c3, _, _⟩ := C4.out _ F6.out
    go_wp2_with fail
    refine (C5.out _).mono ?_
    rintro e w7 ⟨rfl, hf⟩
    have F7 := Lib.hid (F6.out.new0 hf)
    clear hf F6 C5 c0 c1 c2 c3
    obtain ⟨⟨c0, c1, _, _⟩, c2, c3, _, _⟩ := C4.out _ F7.out
    go_wp2_with fail
    refine (A1.out _).mono ?_
    rintro e w8 ⟨rfl, hf⟩
    have F8 := Lib.hid (F7.out.new0 hf)
    clear hf F7 A1 c0 c1 c2 c3
    obtain ⟨⟨c0, c1, _, _⟩, c2, c3, _, _⟩ := C4.out _ F8.out
    go_wp2_with fail
    refine (A2.out _).mono ?_
    rintro e w9 ⟨rfl, hf⟩
    have F9 := Lib.hid (F8.out.new0 hf)
    clear hf F8 A2 c0 c1 c2 c3
    obtain ⟨⟨c0, c1, _, _⟩, c2, c3, _, _⟩ := C4.out _ F9.out
    go_wp2_with fail
    have B9 := Lib.hid (Blk.new w9 22 #[.int .u32 (a : Int), .int .u32 (b : Int), .int .u32 (x : Int), .int .u32 (p : Int), .int .u32 (q : Int)])
    have F10 := Lib.hid (F9.out.alloc (.cells #[.int .u32 (a : Int), .int .u32 (b : Int), .int .u32 (x : Int), .int .u32 (p : Int), .int .u32 (q : Int)] 22))
    have G10 := Lib.hid (G4.out.new0 F10.out)
    clear c0 c1 c2 c3 F9
    go_loopw [118] (fun i wr => ∃ j : Nat, j ≤ 5 ∧ i = .int .i64 (j : Int) ∧ Hid (Frm No (w9.alloc (.cells #[.int .u32 (a : Int), .int .u32 (b : Int), .int .u32 (x : Int), .int .u32 (p : Int), .int .u32 (q : Int)] 22)) wr)) (fun i _ => 5 - (RowKit.intOf i).toNat)
    case atStart => exact ⟨0, by omega, rfl, Frm.refl _ _⟩
    case round =>
      obtain ⟨j, hj, rfl, HF⟩ := hrel
      obtain ⟨⟨c0, c1, _, _⟩, c2, c3, _, _⟩ := C4.out _ (F10.out.new0 HF.out)
      by_cases hlt : j < 5
      · obtain ⟨y, hy, hcell⟩ := five_at (B9.out.frm HF.out (fun x => x)) ha hb hx hpl hql j hlt
        have qlt : (j : Int) < 5 := by omega
        rcases Bool.eq_false_or_eq_true (hp y) with hpy | hpy
        · have P1 := Lib.hid (fun W => hpy ▸ H1.out y hy W)
          have P2 := Lib.hid (fun W => L4.out (by simp) (by simp) y hpy ▸ H2.out y hy W)
          go_wp2_with fail
          refine (P1.out _).mono ?_
          rintro e v1 ⟨rfl, hf⟩
          have K1 := Lib.hid (HF.out.new0 hf)
          clear hf c0 c1 c2 c3
          obtain ⟨⟨c0, c1, _, _⟩, c2, c3, _, _⟩ := C4.out _ (F10.out.new0 K1.out)
          go_wp2_with fail
          refine (P2.out _).mono ?_
          rintro e v2 ⟨rfl, hf⟩
          have K2 := Lib.hid (K1.out.new0 hf)
          clear hf c0 c1 c2 c3
          go_wp2
          go_roundw
          case rel => exact ⟨j + 1, by omega, by go_num, K2.out⟩
          case measure => simp [RowKit.intOf]; omega
        · have P1 := Lib.hid (fun W => hpy ▸ H1.out y hy W)
          go_wp2_with fail
          refine (P1.out _).mono ?_
          rintro e v1 ⟨rfl, hf⟩
          have K1 := Lib.hid (HF.out.new0 hf)
          clear hf c0 c1 c2 c3
          obtain ⟨⟨c0, c1, _, _⟩, c2, c3, _, _⟩ := C4.out _ (F10.out.new0 K1.out)
          go_wp2
          go_roundw
          case rel => exact ⟨j + 1, by omega, by go_num, K1.out⟩
          case measure => simp [RowKit.intOf]; omega
      · have qlt : ¬ (j : Int) < 5 := by omega
        go_wp2_with fail
        go_ret
        exact ⟨rfl, G10.out.new0 HF.out⟩

theorem addrNests (w : World) (htab : Tab w) (a b x m0 n0 : Nat) (ha : a < 4294967296) (hb : b < 4294967296) (hx : x < 4294967296) (_ : m0 < 256) (_ : n0 < 256) :
    Calls Tryd.prog 8 #[.int .u32 (a : Int), .int .u32 (b : Int), .int .u32 (x : Int), .int .u8 (m0 : Int), .int .u8 (n0 : Int)] w fun e w' => e = .returned (.bool true) ∧ Frm No w w' := by
  have hm : m0 % 33 ≤ 32 := by omega
  have hn : n0 % 33 ≤ 32 := by omega
  have hp : cutN a (m0 % 33) < 4294967296 := Nat.lt_of_le_of_lt (cut_le _ _) ha
  have hq : cutN b (n0 % 33) < 4294967296 := Nat.lt_of_le_of_lt (cut_le _ _) hb
  refine nests_walk w htab a b x m0 n0 (m0 % 33) (n0 % 33) (cutN a (m0 % 33)) (cutN b (n0 % 33)) _ _ (by omega) (by omega)
    (Lib.hid fun W => cut_yes W a _ ha hm) (Lib.hid fun W => cut_yes W b _ hb hn)
    (Lib.hid fun W => inside_pfx W _ _ _ _ hp (by omega) hq (by omega)) (Lib.hid fun W => inside_pfx W _ _ _ _ hq (by omega) hp (by omega))
    (Lib.hid fun W => meet_pfx W _ _ _ _ hp (by omega) hq (by omega)) (Lib.hid fun W => meet_pfx W _ _ _ _ hq (by omega) hp (by omega))
    (Lib.hid fun W => meet_self a _ hm ▸ meet_pfx W _ _ _ _ hp (by omega) hp (by omega)) (Lib.hid fun W => inside_self a _ hm ▸ inside_pfx W _ _ _ _ hp (by omega) hp (by omega))
    (hasB (cutN a (m0 % 33)) (m0 % 33)) (hasB (cutN b (n0 % 33)) (n0 % 33)) (has_self a _ hm) (has_self b _ hn)
    (Lib.hid fun y hy W => has_pfx W _ _ y hp (by omega) hy) (Lib.hid fun y hy W => has_pfx W _ _ y hq (by omega) hy)
    (Lib.hid fun h1 h2 => both_same hm hn h1 h2) (Lib.hid fun h1 => by have := inside_len hm hn h1; omega) (Lib.hid fun h1 y hy => inside_has hm hn h1 hy) (Lib.hid fun h1 h2 y hy => apart_has hm hn h1 h2 hy) ha hb hx hp hq
end Go.Proofs.YtknmnlbgjpbgiaaDoor
