/-
  AddrKeys answers true.
-/
import Derived.Test.YtknmnlbgjpbgiaaDoorK0
import Derived.Test.YtknmnlbgjpbgiaaDoorV2
namespace Go.Proofs.YtknmnlbgjpbgiaaDoor
open Go.RowKit
attribute [local go_sem] undef
attribute [local irreducible] wpList wpQuiet

theorem beq_flip (x y : Nat) : ((y : Int) == x) = ((x : Int) == y) := by
  rw [Bool.eq_iff_iff]
  simp
  omega
theorem beq_t (x y : Nat) (h : x = y) : ((x : Int) == y) = true := by simp [h]
theorem beq_f (x y : Nat) (h : ¬ x = y) : ((x : Int) == y) = false := by
  rw [Bool.eq_false_iff]
  simp
  omega
theorem key_ne (k j : Ky) (h : ¬ k = j) : (((k.pr : Int) == j.pr) = true ∧ ((k.a : Int) == j.a) = true ∧ ((k.b : Int) == j.b) = true ∧ ((k.p : Int) == j.p) = true ∧ ((k.q : Int) == j.q) = false) ∨
    (((k.pr : Int) == j.pr) = true ∧ ((k.a : Int) == j.a) = true ∧ ((k.b : Int) == j.b) = true ∧ ((k.p : Int) == j.p) = false) ∨
    (((k.pr : Int) == j.pr) = true ∧ ((k.a : Int) == j.a) = true ∧ ((k.b : Int) == j.b) = false) ∨
    (((k.pr : Int) == j.pr) = true ∧ ((k.a : Int) == j.a) = false) ∨ ((k.pr : Int) == j.pr) = false := by
  obtain ⟨pr, a, b, p, q⟩ := k
  obtain ⟨pr', a', b', p', q'⟩ := j
  rw [Ky.mk.injEq] at h
  dsimp only
  by_cases h0 : pr = pr'
  · by_cases h1 : a = a'
    · by_cases h2 : b = b'
      · by_cases h3 : p = p'
        · exact .inl ⟨beq_t _ _ h0, beq_t _ _ h1, beq_t _ _ h2, beq_t _ _ h3, beq_f _ _ (by omega)⟩
        · exact .inr (.inl ⟨beq_t _ _ h0, beq_t _ _ h1, beq_t _ _ h2, beq_f _ _ h3⟩)
      · exact .inr (.inr (.inl ⟨beq_t _ _ h0, beq_t _ _ h1, beq_f _ _ h2⟩))
    · exact .inr (.inr (.inr (.inl ⟨beq_t _ _ h0, beq_f _ _ h1⟩)))
  · exact .inr (.inr (.inr (.inr (beq_f _ _ h0))))
theorem size_alloc (w : World) (o : Obj) : (w.alloc o).heap.size = w.heap.size + 1 := by
  show (w.heap.push o).size = _
  exact Array.size_push ..

set_option maxRecDepth 100000 in
set_option maxHeartbeats 2000000 in
theorem keys_walk (w : World) (htab : Tab w) (k j i : Ky) (z z' y x : Int)
    (Y1 : Hid (∀ W, Calls Tryd.prog 31 #[.agg #[.int .u8 (k.pr : Int), .int .u32 (k.a : Int), .int .u32 (k.b : Int), .int .u16 (k.p : Int), .int .u16 (k.q : Int)], .agg #[.int .u8 (j.pr : Int), .int .u32 (j.a : Int), .int .u32 (j.b : Int), .int .u16 (j.p : Int), .int .u16 (j.q : Int)]] W (RetNo (.int .i64 z) W)))
    (Y2 : Hid (∀ W, Calls Tryd.prog 31 #[.agg #[.int .u8 (j.pr : Int), .int .u32 (j.a : Int), .int .u32 (j.b : Int), .int .u16 (j.p : Int), .int .u16 (j.q : Int)], .agg #[.int .u8 (k.pr : Int), .int .u32 (k.a : Int), .int .u32 (k.b : Int), .int .u16 (k.p : Int), .int .u16 (k.q : Int)]] W (RetNo (.int .i64 z') W)))
    (Y3 : Hid (∀ W, Calls Tryd.prog 31 #[.agg #[.int .u8 (j.pr : Int), .int .u32 (j.a : Int), .int .u32 (j.b : Int), .int .u16 (j.p : Int), .int .u16 (j.q : Int)], .agg #[.int .u8 (i.pr : Int), .int .u32 (i.a : Int), .int .u32 (i.b : Int), .int .u16 (i.p : Int), .int .u16 (i.q : Int)]] W (RetNo (.int .i64 y) W)))
    (Y4 : Hid (∀ W, Calls Tryd.prog 31 #[.agg #[.int .u8 (k.pr : Int), .int .u32 (k.a : Int), .int .u32 (k.b : Int), .int .u16 (k.p : Int), .int .u16 (k.q : Int)], .agg #[.int .u8 (i.pr : Int), .int .u32 (i.a : Int), .int .u32 (i.b : Int), .int .u16 (i.p : Int), .int .u16 (i.q : Int)]] W (RetNo (.int .i64 x) W)))
    (hz : z' = -z) (hzero : z = 0 ↔ k = j) (hang : Hang z y x) (hx : -1 ≤ x ∧ x ≤ 1) :
    Calls Tryd.prog 9 #[.agg #[.int .u8 (k.pr : Int), .int .u32 (k.a : Int), .int .u32 (k.b : Int), .int .u16 (k.p : Int), .int .u16 (k.q : Int)], .agg #[.int .u8 (j.pr : Int), .int .u32 (j.a : Int), .int .u32 (j.b : Int), .int .u16 (j.p : Int), .int .u16 (j.q : Int)], .agg #[.int .u8 (i.pr : Int), .int .u32 (i.a : Int), .int .u32 (i.b : Int), .int .u16 (i.p : Int), .int .u16 (i.q : Int)]] w fun e w' => e = .returned (.bool true) ∧ Frm No w w' := by
  have T0 := Lib.hid htab
  have HZ := Lib.hid (And.intro hz (And.intro hzero (And.intro hang hx)))
  clear htab hz hzero hang hx
  have X1 := Lib.hid (fun W => turn_any W (k.pr : Int) (k.a : Int) (k.b : Int) (k.p : Int) (k.q : Int))
  have X2 := Lib.hid (fun W => turn_any W (k.pr : Int) (k.b : Int) (k.a : Int) (k.q : Int) (k.p : Int))
  go_enter Tryd.func9, Tryd.ntmps9
  obtain ⟨W0, hW0⟩ : ∃ W, ((w.alloc (.cells #[.int .u8 (k.pr : Int), .int .u32 (k.a : Int), .int .u32 (k.b : Int), .int .u16 (k.p : Int), .int .u16 (k.q : Int)] 31)).alloc (.cells #[.int .u8 (j.pr : Int), .int .u32 (j.a : Int), .int .u32 (j.b : Int), .int .u16 (j.p : Int), .int .u16 (j.q : Int)] 31)).alloc (.cells #[.int .u8 (i.pr : Int), .int .u32 (i.a : Int), .int .u32 (i.b : Int), .int .u16 (i.p : Int), .int .u16 (i.q : Int)] 31) = W := ⟨_, rfl⟩
  have F0 : Hid (Frm No w W0) := by
    show Frm No w W0
    rw [← hW0]
    exact (((Frm.refl No w).alloc _).alloc _).alloc _
  have BK : Hid (Blk W0 w.heap.size 31 #[.int .u8 (k.pr : Int), .int .u32 (k.a : Int), .int .u32 (k.b : Int), .int .u16 (k.p : Int), .int .u16 (k.q : Int)]) := by
    show Blk W0 _ _ _
    rw [← hW0]
    exact ((Blk.new w _ _).alloc _).alloc _
  have BJ : Hid (Blk W0 (w.heap.size + 1) 31 #[.int .u8 (j.pr : Int), .int .u32 (j.a : Int), .int .u32 (j.b : Int), .int .u16 (j.p : Int), .int .u16 (j.q : Int)]) := by
    show Blk W0 _ _ _
    rw [← hW0]
    have := (Blk.new (w.alloc (.cells #[.int .u8 (k.pr : Int), .int .u32 (k.a : Int), .int .u32 (k.b : Int), .int .u16 (k.p : Int), .int .u16 (k.q : Int)] 31)) 31 #[.int .u8 (j.pr : Int), .int .u32 (j.a : Int), .int .u32 (j.b : Int), .int .u16 (j.p : Int), .int .u16 (j.q : Int)]).alloc (.cells #[.int .u8 (i.pr : Int), .int .u32 (i.a : Int), .int .u32 (i.b : Int), .int .u16 (i.p : Int), .int .u16 (i.q : Int)] 31)
    rw [size_alloc] at this
    exact this
  have BI : Hid (Blk W0 (w.heap.size + 1 + 1) 31 #[.int .u8 (i.pr : Int), .int .u32 (i.a : Int), .int .u32 (i.b : Int), .int .u16 (i.p : Int), .int .u16 (i.q : Int)]) := by
    show Blk W0 _ _ _
    rw [← hW0]
    have := Blk.new ((w.alloc (.cells #[.int .u8 (k.pr : Int), .int .u32 (k.a : Int), .int .u32 (k.b : Int), .int .u16 (k.p : Int), .int .u16 (k.q : Int)] 31)).alloc (.cells #[.int .u8 (j.pr : Int), .int .u32 (j.a : Int), .int .u32 (j.b : Int), .int .u16 (j.p : Int), .int .u16 (j.q : Int)] 31)) 31 #[.int .u8 (i.pr : Int), .int .u32 (i.a : Int), .int .u32 (i.b : Int), .int .u16 (i.p : Int), .int .u16 (i.q : Int)]
    rw [size_alloc, size_alloc] at this
    exact this
  go_wp2_with fail
  try rw [hW0]
  clear hW0
  have A0 := Lib.hid (fun W (hW : Frm No W0 W) => blk_cells5 (BK.out.frm hW (fun x => x)))
  have J0 := Lib.hid (fun W (hW : Frm No W0 W) => blk_cells5 (BJ.out.frm hW (fun x => x)))
  have I0 := Lib.hid (fun W (hW : Frm No W0 W) => blk_cells5 (BI.out.frm hW (fun x => x)))
  refine (awake _ (T0.out.frm F0.out)).mono ?_
  rintro e w1 ⟨rfl, hf⟩
  have F1 := Lib.hid hf
  clear hf
  obtain ⟨a0, a1, a2, a3, a4⟩ := A0.out _ F1.out
  go_wp2_with fail
  refine (X1.out _).mono ?_
  rintro e w2 ⟨rfl, hf⟩
  have F2 := Lib.hid (F1.out.new0 hf)
  have G2 := Lib.hid (F0.out.new0 F2.out)
  clear hf a0 a1 a2 a3 a4 F1
  go_upto_region 4 with fail
  have BT : Hid (Blk (w2.alloc (.cells #[.int .u8 (k.pr : Int), .int .u32 (k.b : Int), .int .u32 (k.a : Int), .int .u16 (k.q : Int), .int .u16 (k.p : Int)] 31)) w2.heap.size 31 #[.int .u8 (k.pr : Int), .int .u32 (k.b : Int), .int .u32 (k.a : Int), .int .u16 (k.q : Int), .int .u16 (k.p : Int)]) := Blk.new _ _ _
  have A4 := Lib.hid (fun W (hW : Frm No (w2.alloc (.cells #[.int .u8 (k.pr : Int), .int .u32 (k.b : Int), .int .u32 (k.a : Int), .int .u16 (k.q : Int), .int .u16 (k.p : Int)] 31)) W) => A0.out W ((F2.out.alloc (.cells #[.int .u8 (k.pr : Int), .int .u32 (k.b : Int), .int .u32 (k.a : Int), .int .u16 (k.q : Int), .int .u16 (k.p : Int)] 31)).new0 hW))
  have Z0 := Lib.hid (fun W (hW : Frm No (w2.alloc (.cells #[.int .u8 (k.pr : Int), .int .u32 (k.b : Int), .int .u32 (k.a : Int), .int .u16 (k.q : Int), .int .u16 (k.p : Int)] 31)) W) => blk_cells5 (BT.out.frm hW (fun x => x)))
  have F4' := Lib.hid (F2.out.alloc (.cells #[.int .u8 (k.pr : Int), .int .u32 (k.b : Int), .int .u32 (k.a : Int), .int .u16 (k.q : Int), .int .u16 (k.p : Int)] 31))
  have F4 := Lib.hid (G2.out.alloc (.cells #[.int .u8 (k.pr : Int), .int .u32 (k.b : Int), .int .u32 (k.a : Int), .int .u16 (k.q : Int), .int .u16 (k.p : Int)] 31))
  clear F2 X1 G2
  have fa := beq_flip k.a k.b
  have fp := beq_flip k.p k.q
  rcases Bool.eq_false_or_eq_true ((k.a : Int) == k.b) with ea | ea <;> rcases Bool.eq_false_or_eq_true ((k.p : Int) == k.q) with ep | ep
  all_goals
    rw [ea] at fa
    rw [ep] at fp
    refine region_no (by kernel_rfl) (by kernel_rfl) ?_
    repeat (refine wpQuiet_step (fun K hK => ?_); go_simp; first
        | (refine hK _ ?_; clear hK K)
        | (apply Exists.intro; refine ⟨fun W hW => ?_, hK _ ?_⟩; (first | rfl | ((obtain ⟨a0, a1, a2, a3, a4⟩ := A4.out W hW); (obtain ⟨t0, t1, t2, t3, t4⟩ := Z0.out W hW); go_simp; rfl)); clear hK K))
    refine wpQuiet_step (fun K hK => ?_)
    go_simp
    apply Exists.intro
    refine ⟨fun W hW => (X2.out W).mono fun e w' he => ⟨he.1, hW.new0 he.2⟩, hK _ ?_⟩
    clear hK K
    repeat (refine wpQuiet_step (fun K hK => ?_); go_simp; first
        | (refine hK _ ?_; clear hK K)
        | (apply Exists.intro; refine ⟨fun W hW => ?_, hK _ ?_⟩; (first | rfl | ((obtain ⟨a0, a1, a2, a3, a4⟩ := A4.out W hW); (obtain ⟨t0, t1, t2, t3, t4⟩ := Z0.out W hW); go_simp; rfl)); clear hK K))
    refine wpQuiet_nil ?_
    intro w5 hf
    have F5 := Lib.hid (F4.out.new0 hf)
    have A5 := Lib.hid (fun W (hW : Frm No w5 W) => A4.out W (hf.new0 hW))
    have J5 := Lib.hid (fun W (hW : Frm No w5 W) => J0.out W ((F4'.out.new0 hf).new0 hW))
    have I5 := Lib.hid (fun W (hW : Frm No w5 W) => I0.out W ((F4'.out.new0 hf).new0 hW))
    clear hf ea ep fa fp A4 Z0 BT X2
    go_upto_region 6 with fail
    refine region_no (by kernel_rfl) (by kernel_rfl) ?_
    repeat (refine wpQuiet_step (fun K hK => ?_); go_simp; first
        | (refine hK _ ?_; clear hK K)
        | (apply Exists.intro; refine ⟨fun W hW => ?_, hK _ ?_⟩; (first | rfl | ((obtain ⟨a0, a1, a2, a3, a4⟩ := A5.out W hW); (obtain ⟨b0, b1, b2, b3, b4⟩ := J5.out W hW); (obtain ⟨d0, d1, d2, d3, d4⟩ := I5.out W hW); go_simp; rfl)); clear hK K))
    refine wpQuiet_step (fun K hK => ?_)
    go_simp
    apply Exists.intro
    refine ⟨fun W hW => (Y1.out W).mono fun e w' he => ⟨he.1, hW.new0 he.2⟩, hK _ ?_⟩
    clear hK K
    repeat (refine wpQuiet_step (fun K hK => ?_); go_simp; first
        | (refine hK _ ?_; clear hK K)
        | (apply Exists.intro; refine ⟨fun W hW => ?_, hK _ ?_⟩; (first | rfl | ((obtain ⟨a0, a1, a2, a3, a4⟩ := A5.out W hW); (obtain ⟨b0, b1, b2, b3, b4⟩ := J5.out W hW); (obtain ⟨d0, d1, d2, d3, d4⟩ := I5.out W hW); go_simp; rfl)); clear hK K))
    refine wpQuiet_step (fun K hK => ?_)
    go_simp
    apply Exists.intro
    refine ⟨fun W hW => (Y2.out W).mono fun e w' he => ⟨he.1, hW.new0 he.2⟩, hK _ ?_⟩
    clear hK K
    repeat (refine wpQuiet_step (fun K hK => ?_); go_simp; first
        | (refine hK _ ?_; clear hK K)
        | (apply Exists.intro; refine ⟨fun W hW => ?_, hK _ ?_⟩; (first | rfl | ((obtain ⟨a0, a1, a2, a3, a4⟩ := A5.out W hW); (obtain ⟨b0, b1, b2, b3, b4⟩ := J5.out W hW); (obtain ⟨d0, d1, d2, d3, d4⟩ := I5.out W hW); go_simp; rfl)); clear hK K))
    refine wpQuiet_step (fun K hK => ?_)
    go_simp
    apply Exists.intro
    refine ⟨fun W hW => (Y3.out W).mono fun e w' he => ⟨he.1, hW.new0 he.2⟩, hK _ ?_⟩
    clear hK K
    repeat (refine wpQuiet_step (fun K hK => ?_); go_simp; first
        | (refine hK _ ?_; clear hK K)
        | (apply Exists.intro; refine ⟨fun W hW => ?_, hK _ ?_⟩; (first | rfl | ((obtain ⟨a0, a1, a2, a3, a4⟩ := A5.out W hW); (obtain ⟨b0, b1, b2, b3, b4⟩ := J5.out W hW); (obtain ⟨d0, d1, d2, d3, d4⟩ := I5.out W hW); go_simp; rfl)); clear hK K))
    refine wpQuiet_step (fun K hK => ?_)
    go_simp
    apply Exists.intro
    refine ⟨fun W hW => (Y4.out W).mono fun e w' he => ⟨he.1, hW.new0 he.2⟩, hK _ ?_⟩
    clear hK K
    repeat (refine wpQuiet_step (fun K hK => ?_); go_simp; first
        | (refine hK _ ?_; clear hK K)
        | (apply Exists.intro; refine ⟨fun W hW => ?_, hK _ ?_⟩; (first | rfl | ((obtain ⟨a0, a1, a2, a3, a4⟩ := A5.out W hW); (obtain ⟨b0, b1, b2, b3, b4⟩ := J5.out W hW); (obtain ⟨d0, d1, d2, d3, d4⟩ := I5.out W hW); go_simp; rfl)); clear hK K))
    refine wpQuiet_nil ?_
    intro w6 hf
    obtain ⟨a0, a1, a2, a3, a4⟩ := A5.out _ hf
    obtain ⟨b0, b1, b2, b3, b4⟩ := J5.out _ hf
    have F6 := Lib.hid (F5.out.new0 hf)
    clear hf F5 F4 F4'
    obtain ⟨rfl, hzero, hang, hx⟩ := HZ.out
    unfold Hang at hang
    have hz3 : z = -1 ∨ z = 0 ∨ z = 1 := by omega
    have hy3 : y = -1 ∨ y = 0 ∨ y = 1 := by omega
    have hx3 : x = -1 ∨ x = 0 ∨ x = 1 := by omega
    clear HZ
    rcases hz3 with rfl | rfl | rfl
    · obtain ⟨e0, e1, e2, e3, e4⟩ | ⟨e0, e1, e2, e3⟩ | ⟨e0, e1, e2⟩ | ⟨e0, e1⟩ | e0 := key_ne k j (fun h => by have := hzero.2 h; omega)
      all_goals clear hzero
      all_goals go_upto_region 9 with fail
      all_goals rcases hy3 with rfl | rfl | rfl <;> rcases hx3 with rfl | rfl | rfl <;> first | (exfalso; omega) | skip
      all_goals clear hang hx
      all_goals go_wp2_with fail
      all_goals go_ret
      all_goals exact ⟨rfl, F6.out⟩
    · obtain rfl := hzero.1 rfl
      obtain rfl : x = y := hang.1 rfl
      clear hzero
      go_upto_region 9 with fail
      rcases hy3 with rfl | rfl | rfl
      all_goals clear hang hx
      all_goals go_wp2_with fail
      all_goals go_ret
      all_goals exact ⟨rfl, F6.out⟩
    · obtain ⟨e0, e1, e2, e3, e4⟩ | ⟨e0, e1, e2, e3⟩ | ⟨e0, e1, e2⟩ | ⟨e0, e1⟩ | e0 := key_ne k j (fun h => by have := hzero.2 h; omega)
      all_goals clear hzero
      all_goals go_upto_region 9 with fail
      all_goals rcases hy3 with rfl | rfl | rfl <;> rcases hx3 with rfl | rfl | rfl <;> first | (exfalso; omega) | skip
      all_goals clear hang hx
      all_goals go_wp2_with fail
      all_goals go_ret
      all_goals exact ⟨rfl, F6.out⟩

theorem addrKeys (w : World) (htab : Tab w) (k j i : Ky) (hk : k.Ok) (hj : j.Ok) (hi : i.Ok) :
    Calls Tryd.prog 9 #[.agg #[.int .u8 (k.pr : Int), .int .u32 (k.a : Int), .int .u32 (k.b : Int), .int .u16 (k.p : Int), .int .u16 (k.q : Int)], .agg #[.int .u8 (j.pr : Int), .int .u32 (j.a : Int), .int .u32 (j.b : Int), .int .u16 (j.p : Int), .int .u16 (j.q : Int)], .agg #[.int .u8 (i.pr : Int), .int .u32 (i.a : Int), .int .u32 (i.b : Int), .int .u16 (i.p : Int), .int .u16 (i.q : Int)]] w fun e w' => e = .returned (.bool true) ∧ Frm No w w' :=
  keys_walk w htab k j i (cmpKey k j) (cmpKey j k) (cmpKey j i) (cmpKey k i) (Lib.hid fun W => compare_any W k j hk hj) (Lib.hid fun W => compare_any W j k hj hk) (Lib.hid fun W => compare_any W j i hj hi) (Lib.hid fun W => compare_any W k i hk hi)
    (key_neg k j) (key_zero k j) (key_hang k j i) (key_in k i)
end Go.Proofs.YtknmnlbgjpbgiaaDoor
