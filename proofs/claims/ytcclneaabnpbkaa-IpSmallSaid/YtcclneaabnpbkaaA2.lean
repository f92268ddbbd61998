/-
  The examples of the chapter hold: awake answers true.
-/
import Derived.Test.YtcclneaabnpbkaaP14
import Derived.Test.YtcclneaabnpbkaaP11
import Derived.BigRegion
import Derived.RegionTactic
namespace Go.Proofs.Ytcclneaabnpbkaa
open Go.RowKit
attribute [local go_sem] undef

def exB : List UInt8 := [69, 0, 0, 22, 0, 1, 0, 0, 64, 17, 102, 212, 10, 0, 0, 1, 10, 0, 0, 2, 7, 8]
def exHop : List UInt8 := [69, 0, 0, 22, 0, 1, 0, 0, 63, 17, 103, 212, 10, 0, 0, 1, 10, 0, 0, 2, 7, 8]
theorem ex_pkt : pkt ⟨0, 1, false, false, 0, 64, 17, 167772161, 167772162⟩ [] [7, 8] = exB := by kernel_rfl
theorem ex_nf : NoFault exB := ⟨by kernel_rfl, by kernel_rfl, by kernel_rfl, by kernel_rfl, by kernel_rfl, by kernel_rfl, by kernel_rfl⟩
theorem ex_hop : pkt (hdHop exB) (optsAt exB) (dataAt exB) = exHop := by kernel_rfl
theorem ex_bad : faultB (exB.set 11 211) = 54 := by kernel_rfl
theorem ex_hdr (V : Value) : hdrV exB V = .agg #[.int .u8 0, .int .u16 1, .bool false, .bool false, .int .i64 0, .int .u8 64, .int .u8 17, .int .u32 167772161, .int .u32 167772162, V] := by
  unfold hdrV
  rw [show byteAt exB 1 = 0 from by kernel_rfl, show wordAt exB 4 = 1 from by kernel_rfl, show dfAt exB = false from by kernel_rfl, show mfAt exB = false from by kernel_rfl, show offAt exB = 0 from by kernel_rfl, show byteAt exB 8 = 64 from by kernel_rfl, show byteAt exB 9 = 17 from by kernel_rfl, show addrAt exB 12 = 167772161 from by kernel_rfl, show addrAt exB 16 = 167772162 from by kernel_rfl]
  rfl

def RowEnds (bs : List UInt8) (N : Nat) (w : World) (e : Ending) (w' : World) : Prop :=
  ∃ g c, e = .returned (.tuple #[.slice (some ⟨g, 0, none⟩) N c, .int .i64 0]) ∧ Row w' w.heap.size g N c bs ∧ Frm No w w'

theorem lit_write (w : World) : Calls Try.prog 17 #[.agg #[.int .u8 0, .int .u16 1, .bool false, .bool false, .int .i64 0, .int .u8 64, .int .u8 17, .int .u32 167772161, .int .u32 167772162, .slice none 0 0], .slice (some ⟨w.heap.size, 0, none⟩) 2 2] (w.alloc (.cells #[.int .u8 7, .int .u8 8] 5)) (RowEnds exB 22 w) := by
  have h := write_yes (w.alloc (.cells #[.int .u8 7, .int .u8 8] 5)) 0 1 false false 0 64 17 167772161 167772162 ⟨by decide, by decide, by decide, by decide, by decide, by decide, by decide⟩ none (some ⟨w.heap.size, 0, none⟩) 0 0 2 2 [] [7, 8] rfl rfl (Rds.nil _ _) (rds_new w [7, 8]) (Nat.le_refl _) (fun h => by cases h) (by kernel_rfl) 22 rfl
  refine Calls.mono h ?_
  rintro e w' ⟨g, c, he, hr, hf⟩
  rw [ex_pkt] at hr
  exact ⟨g, c, he, own_more hr (by simp), ((Frm.refl No w).alloc _).new0 hf⟩

theorem lit_no (W : World) (b : Bool) (z : Int) (hz : z = 0 ∨ z = 65528) (h : rightB 0 z b 2 = false) (g : Nat) : Calls Try.prog 17 #[.agg #[.int .u8 0, .int .u16 1, .bool false, .bool b, .int .i64 z, .int .u8 64, .int .u8 17, .int .u32 167772161, .int .u32 167772162, .slice none 0 0], .slice (some ⟨g, 0, none⟩) 2 2] W (WroteNo W) :=
  write_no W 0 1 z 64 17 167772161 167772162 false b none (some ⟨g, 0, none⟩) 0 0 2 2 (by omega) (by omega) h

def ExRead (_w : World) (e : Ending) (w' : World) : Prop :=
  ∃ g c, e = .returned (.tuple #[.agg #[.int .u8 0, .int .u16 1, .bool false, .bool false, .int .i64 0, .int .u8 64, .int .u8 17, .int .u32 167772161, .int .u32 167772162, .slice (some ⟨g, 0, none⟩) 0 c], .int .i64 20, .int .i64 22, .int .i64 0]) ∧ Frm No _w w'
theorem lit_read (w : World) (A : Option Addr) (c : Nat) (hc : 22 ≤ c) (h : Rds w A exB) : Calls Try.prog 18 #[.slice A 22 c] w (ExRead w) := by
  refine (read_ok w A 22 c exB rfl hc (by omega) h ex_nf).mono ?_
  rintro e w' ⟨g, k, rfl, hr, hf⟩
  rw [ex_hdr, show sizeAt exB = 20 from by kernel_rfl, show totAt exB = 22 from by kernel_rfl]
  exact ⟨g, k, rfl, hf⟩
theorem lit_hop (w : World) (A : Option Addr) (c : Nat) (hc : 22 ≤ c) (h : Rds w A exB) : Calls Try.prog 24 #[.slice A 22 c] w (RowEnds exHop 22 w) := by
  have h1 := hop_yes w A 22 c exB rfl hc (by omega) h ex_nf (by decide +kernel) 22 (by kernel_rfl)
  unfold WroteOk at h1
  rw [ex_hop] at h1
  exact h1
theorem lit_bad (w : World) (A : Option Addr) (c : Nat) (hc : 22 ≤ c) (h : Rds w A (exB.set 11 211)) : Calls Try.prog 18 #[.slice A 22 c] w (ReadBad 54 w) :=
  read_bad w A 22 c (exB.set 11 211) rfl hc (by omega) h 54 54 rfl ex_bad (by decide)

theorem lit_same23 (w : World) (g c : Nat) : Calls Try.prog 23 #[.agg #[.int .u8 0, .int .u16 1, .bool false, .bool false, .int .i64 0, .int .u8 64, .int .u8 17, .int .u32 167772161, .int .u32 167772162, .slice (some ⟨g, 0, none⟩) 0 c], .agg #[.int .u8 0, .int .u16 1, .bool false, .bool false, .int .i64 0, .int .u8 64, .int .u8 17, .int .u32 167772161, .int .u32 167772162, .slice none 0 0]] w (BoolNo true w) :=
  same_yes w 0 1 0 64 17 167772161 167772162 false false (some ⟨g, 0, none⟩) none 0 c 0 [] rfl (Rds.nil _ _) (Rds.nil _ _) (by omega)

set_option maxRecDepth 100000 in
theorem example_any (w : World) : Calls Try.prog 15 #[] w fun e w' => e = .returned (.slice (some ⟨w.heap.size, 0, none⟩) 22 22) ∧ w' = w.alloc (.cells (byts exB).toArray 5) := by
  go_enter Try.func15, Try.ntmps15
  go_wp2
  go_ret
  exact ⟨rfl, rfl⟩

theorem ex_sames (w : World) (A : Option Addr) (c : Nat) (h : Rds w A exB) (W : World) (hW : W = w.alloc (.cells (byts exB).toArray 5)) :
    Calls Try.prog 22 #[.slice A 22 c, .slice (some ⟨w.heap.size, 0, none⟩) 22 22] W (BoolNo true w) := by
  subst hW
  refine (sames_any _ A _ c 22 exB exB (h.alloc _) (rds_new w exB) (by decide)).mono ?_
  rintro e w' ⟨rfl, m, rfl⟩
  exact ⟨by rw [decide_eq_true rfl], ((Frm.refl No w).alloc _).drewN m⟩

set_option maxRecDepth 100000 in
set_option maxHeartbeats 8000000 in
theorem awake (w : World) : Calls Try.prog 13 #[] w (BoolNo true w) := by
  go_enter Try.func13, Try.ntmps13
  go_upto_region 2 with fail
  obtain ⟨w1, hw1⟩ : ∃ W, W = w.alloc (.cells #[.int .u8 0, .int .u16 1, .bool false, .bool false, .int .i64 0, .int .u8 64, .int .u8 17, .int .u32 167772161, .int .u32 167772162, .slice none 0 0] 28) := ⟨_, rfl⟩
  obtain ⟨hb, hhb⟩ : ∃ b, b = w.heap.size := ⟨_, rfl⟩
  have F1 : Hid (Frm No w w1) := by show Frm No w w1; rw [hw1]; exact (Frm.refl No w).alloc _
  have T1 : Hid (Blk w1 hb 28 #[.int .u8 0, .int .u16 1, .bool false, .bool false, .int .i64 0, .int .u8 64, .int .u8 17, .int .u32 167772161, .int .u32 167772162, .slice none 0 0]) := by show Blk w1 _ _ _; rw [hw1, hhb]; exact Blk.new w 28 _
  have hle : w.heap.size ≤ hb := by omega
  rw [← hw1, ← hhb]
  clear hw1 hhb
  obtain ⟨b0, b1, b2, b3, b4, b5, b6, b7, b8, b9⟩ := blk10 T1.out
  go_wp2_with fail
  refine (lit_write w1).mono ?_
  rintro e w2 ⟨g, c, rfl, hr, hf⟩
  have F2 := Lib.hid (F1.out.new0 hf)
  have T2 := Lib.hid (T1.out.frm hf (fun x => x))
  have R2 := Lib.hid hr
  have hgb : hb < g := by have := hr.cap.2.1; have := T1.out.lt; omega
  have hcc : 22 ≤ c := hr.cap.1
  clear hr hf b0 b1 b2 b3 b4 b5 b6 b7 b8 b9 F1 T1
  go_wp2_with fail
  refine (lit_read w2 _ c hcc R2.out.rds).mono ?_
  rintro e w3 ⟨g3, c3, rfl, hf⟩
  obtain ⟨W3, hW3⟩ : ∃ W, W = w3.alloc (.cells #[.int .u8 0, .int .u16 1, .bool false, .bool false, .int .i64 0, .int .u8 64, .int .u8 17, .int .u32 167772161, .int .u32 167772162, .slice (some ⟨g3, 0, none⟩) 0 c3] 28) := ⟨_, rfl⟩
  have f3 : Frm No w2 W3 := by rw [hW3]; exact hf.alloc _
  have F3 := Lib.hid (F2.out.new0 f3)
  have T3 := Lib.hid (T2.out.frm f3 (fun x => x))
  have R3 := Lib.hid (R2.out.frm f3 (fun x => x))
  have B3 : Hid (Blk W3 w3.heap.size 28 #[.int .u8 0, .int .u16 1, .bool false, .bool false, .int .i64 0, .int .u8 64, .int .u8 17, .int .u32 167772161, .int .u32 167772162, .slice (some ⟨g3, 0, none⟩) 0 c3]) := by show Blk W3 _ _ _; rw [hW3]; exact Blk.new w3 28 _
  obtain ⟨h3, hh3⟩ : ∃ b, b = w3.heap.size := ⟨_, rfl⟩
  go_upto_region 4 with fail
  rw [← hh3] at B3
  rw [← hW3, ← hh3]
  clear hW3 hh3 hf f3 F2 T2 R2
  go_wp2_with fail
  refine (lit_hop W3 _ c hcc R3.out.rds).mono ?_
  rintro e w4 ⟨g4, c4, rfl, hr4, hf⟩
  have F4 := Lib.hid (F3.out.new0 hf)
  have T4 := Lib.hid (T3.out.frm hf (fun x => x))
  have B4 := Lib.hid (B3.out.frm hf (fun x => x))
  have R4 := Lib.hid (R3.out.frm hf (fun x => x))
  have Q4 := Lib.hid hr4
  clear hf hr4 F3 T3 B3 R3
  go_wp2_with fail
  refine (example_any w4).mono ?_
  rintro e W4 ⟨rfl, rfl⟩
  go_wp2_with fail
  refine (ex_sames w4 _ c R4.out.rds _ rfl).mono ?_
  rintro e w5 ⟨rfl, hf⟩
  have F5 := Lib.hid (F4.out.new0 hf)
  have T5 := Lib.hid (T4.out.frm hf (fun x => x))
  have B5 := Lib.hid (B4.out.frm hf (fun x => x))
  have R5 := Lib.hid (R4.out.frm hf (fun x => x))
  have Q5 := Lib.hid (Q4.out.frm hf (fun x => x))
  clear hf F4 T4 B4 R4 Q4
  obtain ⟨b0, b1, b2, b3, b4, b5, b6, b7, b8, b9⟩ := blk10 T5.out
  obtain ⟨a0, a1, a2, a3, a4, a5, a6, a7, a8, a9⟩ := blk10 B5.out
  go_wp2_with fail
  refine (lit_same23 w5 g3 c3).mono ?_
  rintro e w6 ⟨rfl, hf⟩
  have F6 := Lib.hid (F5.out.new0 hf)
  have T6 := Lib.hid (T5.out.frm hf (fun x => x))
  have R6 := Lib.hid (R5.out.frm hf (fun x => x))
  have Q6 := Lib.hid (Q5.out.frm hf (fun x => x))
  clear hf F5 T5 B5 R5 Q5 b0 b1 b2 b3 b4 b5 b6 b7 b8 b9 a0 a1 a2 a3 a4 a5 a6 a7 a8 a9
  have x8 : w6.cell? ⟨g4, 8, none⟩ = some (.int .u8 63) := Q6.out.cell 8 (by decide)
  have x10 : w6.cell? ⟨g4, 10, none⟩ = some (.int .u8 103) := Q6.out.cell 10 (by decide)
  have x11 : w6.cell? ⟨g4, 11, none⟩ = some (.int .u8 212) := Q6.out.cell 11 (by decide)
  have y11 : w6.cell? ⟨g, 11, none⟩ = some (.int .u8 212) := R6.out.cell 11 (by decide)
  have z11 := R6.out.frozen 11
  have S6 := Lib.hid (R6.out.set 11 211 (.int .u8 211) rfl)
  go_upto_region 8 with fail
  obtain ⟨W6, hW6⟩ : ∃ W, W = w6.setCell ⟨g, 11, none⟩ (.int .u8 211) := ⟨_, rfl⟩
  have f6 : Hid (Frm No w W6) := by show Frm No w W6; rw [hW6]; exact F6.out.setCell (p := ⟨g, 11, none⟩) (fun hx => absurd hx (by show ¬ g < w.heap.size; omega)) _
  have T7 : Hid (Blk W6 hb 28 #[.int .u8 0, .int .u16 1, .bool false, .bool false, .int .i64 0, .int .u8 64, .int .u8 17, .int .u32 167772161, .int .u32 167772162, .slice none 0 0]) := by show Blk W6 _ _ _; rw [hW6]; exact T6.out.far (p := ⟨g, 11, none⟩) (by show hb ≠ g; omega) _
  rw [← hW6] at S6 ⊢
  clear hW6 x8 x10 x11 y11 z11 F6 T6 R6 Q6
  go_wp2_with fail
  refine (lit_bad W6 _ c hcc S6.out.rds).mono ?_
  rintro e w8 ⟨rfl, hf⟩
  have F8 := Lib.hid (f6.out.new0 hf)
  have T8 := Lib.hid (T7.out.frm hf (fun x => x))
  clear hf f6 T7 S6
  go_upto_region 9 with fail
  obtain ⟨W8, hW8⟩ : ∃ W, W = w8.alloc (.cells #[.int .u8 0, .int .u16 0, .bool false, .bool false, .int .i64 0, .int .u8 0, .int .u8 0, .int .u32 0, .int .u32 0, .slice none 0 0] 28) := ⟨_, rfl⟩
  have F9 : Hid (Frm No w W8) := by show Frm No w W8; rw [hW8]; exact F8.out.alloc _
  have T9 : Hid (Blk W8 hb 28 #[.int .u8 0, .int .u16 1, .bool false, .bool false, .int .i64 0, .int .u8 64, .int .u8 17, .int .u32 167772161, .int .u32 167772162, .slice none 0 0]) := by show Blk W8 _ _ _; rw [hW8]; exact T8.out.alloc _
  rw [← hW8]
  clear hW8 F8 T8
  have hlt := T9.out.lt
  have l1 : ¬ hb = W8.heap.size := by omega
  have l2 : ¬ W8.heap.size = hb := by omega
  have l3 : ¬ hb = W8.heap.size + 1 := by omega
  have l4 : ¬ W8.heap.size + 1 = hb := by omega
  obtain ⟨b0, b1, b2, b3, b4, b5, b6, b7, b8, b9⟩ := blk10 T9.out
  go_region
  all_goals (go_upto_region 11 with fail)
  all_goals clear b0 b1 b2 b3 b4 b5 b6 b7 b8 b9
  · obtain ⟨W9, hW9⟩ : ∃ W, W = (W8.alloc (.cells #[.int .u8 0, .int .u16 1, .bool false, .bool true, .int .i64 0, .int .u8 64, .int .u8 17, .int .u32 167772161, .int .u32 167772162, .slice none 0 0] 28)).alloc (.cells #[.int .u8 0, .int .u16 1, .bool false, .bool false, .int .i64 65528, .int .u8 64, .int .u8 17, .int .u32 167772161, .int .u32 167772162, .slice none 0 0] 28) := ⟨_, rfl⟩
    have FA : Hid (Frm No w W9) := by show Frm No w W9; rw [hW9]; exact (F9.out.alloc _).alloc _
    have TM : Hid (Blk W9 W8.heap.size 28 #[.int .u8 0, .int .u16 1, .bool false, .bool true, .int .i64 0, .int .u8 64, .int .u8 17, .int .u32 167772161, .int .u32 167772162, .slice none 0 0]) := by show Blk W9 _ _ _; rw [hW9]; exact (Blk.new W8 28 _).alloc _
    have TF : Hid (Blk W9 (W8.heap.size + 1) 28 #[.int .u8 0, .int .u16 1, .bool false, .bool false, .int .i64 65528, .int .u8 64, .int .u8 17, .int .u32 167772161, .int .u32 167772162, .slice none 0 0]) := by show Blk W9 _ _ _; rw [hW9]; exact (by have := Blk.new (W8.alloc (.cells #[.int .u8 0, .int .u16 1, .bool false, .bool true, .int .i64 0, .int .u8 64, .int .u8 17, .int .u32 167772161, .int .u32 167772162, .slice none 0 0] 28)) 28 #[.int .u8 0, .int .u16 1, .bool false, .bool false, .int .i64 65528, .int .u8 64, .int .u8 17, .int .u32 167772161, .int .u32 167772162, .slice none 0 0]; simpa using this)
    have hsz : W9.heap.size = W8.heap.size + 2 := by rw [hW9]; simp
    obtain ⟨pm, hpm⟩ : ∃ p, p = W8.heap.size := ⟨_, rfl⟩
    obtain ⟨pf, hpf⟩ : ∃ p, p = (W8.heap.size + 1) := ⟨_, rfl⟩
    rw [← hW9]
    rw [← hpm] at TM
    rw [← hpf] at TF
    rw [← hpf, ← hpm]
    clear hW9 hpm hpf F9 T9 hsz hlt l1 l2 l3 l4
    obtain ⟨b0, b1, b2, b3, b4, b5, b6, b7, b8, b9⟩ := blk10 TM.out
    go_wp2_with fail
    refine (lit_no _ true 0 (.inl rfl) (by kernel_rfl) _).mono ?_
    rintro e w11 ⟨rfl, hf⟩
    have FB := Lib.hid (((FA.out.drew).alloc _).new0 hf)
    have TG := Lib.hid ((TF.out.drew.alloc _).frm hf (fun x => x))
    clear hf b0 b1 b2 b3 b4 b5 b6 b7 b8 b9 FA TM TF
    obtain ⟨b0, b1, b2, b3, b4, b5, b6, b7, b8, b9⟩ := blk10 TG.out
    go_wp2_with fail
    refine (lit_no _ false 65528 (.inr rfl) (by kernel_rfl) _).mono ?_
    rintro e w12 ⟨rfl, hf⟩
    have FD := Lib.hid ((FB.out.alloc _).new0 hf)
    clear hf b0 b1 b2 b3 b4 b5 b6 b7 b8 b9 FB TG
    go_wp2
    go_ret
    exact ⟨rfl, FD.out⟩
  · obtain ⟨W9, hW9⟩ : ∃ W, W = (W8.alloc (.cells #[.int .u8 0, .int .u16 1, .bool false, .bool false, .int .i64 65528, .int .u8 64, .int .u8 17, .int .u32 167772161, .int .u32 167772162, .slice none 0 0] 28)).alloc (.cells #[.int .u8 0, .int .u16 1, .bool false, .bool true, .int .i64 0, .int .u8 64, .int .u8 17, .int .u32 167772161, .int .u32 167772162, .slice none 0 0] 28) := ⟨_, rfl⟩
    have FA : Hid (Frm No w W9) := by show Frm No w W9; rw [hW9]; exact (F9.out.alloc _).alloc _
    have TM : Hid (Blk W9 (W8.heap.size + 1) 28 #[.int .u8 0, .int .u16 1, .bool false, .bool true, .int .i64 0, .int .u8 64, .int .u8 17, .int .u32 167772161, .int .u32 167772162, .slice none 0 0]) := by show Blk W9 _ _ _; rw [hW9]; exact (by have := Blk.new (W8.alloc (.cells #[.int .u8 0, .int .u16 1, .bool false, .bool false, .int .i64 65528, .int .u8 64, .int .u8 17, .int .u32 167772161, .int .u32 167772162, .slice none 0 0] 28)) 28 #[.int .u8 0, .int .u16 1, .bool false, .bool true, .int .i64 0, .int .u8 64, .int .u8 17, .int .u32 167772161, .int .u32 167772162, .slice none 0 0]; simpa using this)
    have TF : Hid (Blk W9 W8.heap.size 28 #[.int .u8 0, .int .u16 1, .bool false, .bool false, .int .i64 65528, .int .u8 64, .int .u8 17, .int .u32 167772161, .int .u32 167772162, .slice none 0 0]) := by show Blk W9 _ _ _; rw [hW9]; exact (Blk.new W8 28 _).alloc _
    have hsz : W9.heap.size = W8.heap.size + 2 := by rw [hW9]; simp
    obtain ⟨pm, hpm⟩ : ∃ p, p = (W8.heap.size + 1) := ⟨_, rfl⟩
    obtain ⟨pf, hpf⟩ : ∃ p, p = W8.heap.size := ⟨_, rfl⟩
    rw [← hW9]
    rw [← hpm] at TM
    rw [← hpf] at TF
    rw [← hpm, ← hpf]
    clear hW9 hpm hpf F9 T9 hsz hlt l1 l2 l3 l4
    obtain ⟨b0, b1, b2, b3, b4, b5, b6, b7, b8, b9⟩ := blk10 TM.out
    go_wp2_with fail
    refine (lit_no _ true 0 (.inl rfl) (by kernel_rfl) _).mono ?_
    rintro e w11 ⟨rfl, hf⟩
    have FB := Lib.hid (((FA.out.drew).alloc _).new0 hf)
    have TG := Lib.hid ((TF.out.drew.alloc _).frm hf (fun x => x))
    clear hf b0 b1 b2 b3 b4 b5 b6 b7 b8 b9 FA TM TF
    obtain ⟨b0, b1, b2, b3, b4, b5, b6, b7, b8, b9⟩ := blk10 TG.out
    go_wp2_with fail
    refine (lit_no _ false 65528 (.inr rfl) (by kernel_rfl) _).mono ?_
    rintro e w12 ⟨rfl, hf⟩
    have FD := Lib.hid ((FB.out.alloc _).new0 hf)
    clear hf b0 b1 b2 b3 b4 b5 b6 b7 b8 b9 FB TG
    go_wp2
    go_ret
    exact ⟨rfl, FD.out⟩
end Go.Proofs.Ytcclneaabnpbkaa
