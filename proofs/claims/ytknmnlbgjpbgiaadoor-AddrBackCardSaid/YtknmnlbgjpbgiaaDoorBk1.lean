/-
  AddrBack answers true.
-/
import Derived.Test.YtknmnlbgjpbgiaaDoorN1
namespace Go.Proofs.YtknmnlbgjpbgiaaDoor
open Go.RowKit
attribute [local go_sem] undef
attribute [local irreducible] wpList wpQuiet

theorem size_more (w : World) (o : Obj) : (w.alloc o).heap.size = w.heap.size + 1 := by
  show (w.heap.push o).size = _
  exact Array.size_push ..
theorem blk_next (w : World) (o : Obj) (t : TypeId) (cs : Array Value) : Blk ((w.alloc o).alloc (.cells cs t)) (w.heap.size + 1) t cs := by
  have := Blk.new (w.alloc o) t cs
  rw [size_more] at this
  exact this
theorem blk_next2 (w : World) (o o' : Obj) (t : TypeId) (cs : Array Value) : Blk (((w.alloc o).alloc o').alloc (.cells cs t)) (w.heap.size + 1 + 1) t cs := by
  have := blk_next (w.alloc o) o' t cs
  rw [size_more] at this
  exact this
theorem blk_next3 (w : World) (o o' o'' : Obj) (t : TypeId) (cs : Array Value) : Blk ((((w.alloc o).alloc o').alloc o'').alloc (.cells cs t)) (w.heap.size + 1 + 1 + 1) t cs := by
  have := blk_next2 (w.alloc o) o' o'' t cs
  rw [size_more] at this
  exact this

theorem rngText_len (f t : Nat) (hf : f < 65536) (ht : t < 65536) : (rngText f t).length ≤ 9223372036854775807 := by
  have l1 := nDigits_5 f (by omega)
  have l2 := nDigits_5 t (by omega)
  unfold rngText
  split
  · decide
  · split
    · omega
    · rw [List.length_append, List.length_cons]
      omega
theorem rng_beq (f t f' t' : Nat) (h : f ≤ t) (ht : t < 65536) (h' : f' ≤ t') (ht' : t' < 65536) : (rngText f t == rngText f' t') = (((f : Int) == f') && ((t : Int) == t')) := by
  rw [Bool.eq_iff_iff]
  simp only [beq_iff_eq, Bool.and_eq_true]
  constructor
  · intro he
    have h1 := rng_back f t h ht
    rw [he, rng_back f' t' h' ht'] at h1
    simp only [Option.some.injEq, Prod.mk.injEq] at h1
    omega
  · rintro ⟨h1, h2⟩
    rw [show f = f' by omega, show t = t' by omega]

/-- What the calls answer. -/
structure Bck (a b m n p q : Nat) (j k : Ky) (la lb pl ol jl kl : List UInt8) : Prop where
  TA : ∀ W, Tab W → Calls Tryd.prog 22 #[.int .u32 (a : Int)] W fun e w' => e = .returned (.string ⟨la.toArray⟩) ∧ Frm No W w'
  TB : ∀ W, Tab W → Calls Tryd.prog 22 #[.int .u32 (b : Int)] W fun e w' => e = .returned (.string ⟨lb.toArray⟩) ∧ Frm No W w'
  RA : ∀ W, Calls Tryd.prog 21 #[.string ⟨la.toArray⟩] W fun e w' => e = .returned (.tuple #[.int .u32 (a : Int), .int .i64 0]) ∧ Frm No W w'
  CA : ∀ W, Calls Tryd.prog 19 #[.int .u32 (a : Int), .int .u8 (m : Int)] W fun e w' => e = .returned (.tuple #[.agg #[.int .u32 (p : Int), .int .u8 (m : Int)], .int .i64 0]) ∧ Frm No W w'
  CB : ∀ W, Calls Tryd.prog 19 #[.int .u32 (b : Int), .int .u8 (n : Int)] W fun e w' => e = .returned (.tuple #[.agg #[.int .u32 (q : Int), .int .u8 (n : Int)], .int .i64 0]) ∧ Frm No W w'
  PA : ∀ W, Tab W → Calls Tryd.prog 23 #[.agg #[.int .u32 (p : Int), .int .u8 (m : Int)]] W fun e w' => e = .returned (.tuple #[.string ⟨pl.toArray⟩, .int .i64 0]) ∧ Frm No W w'
  PB : ∀ W, Tab W → Calls Tryd.prog 23 #[.agg #[.int .u32 (q : Int), .int .u8 (n : Int)]] W fun e w' => e = .returned (.tuple #[.string ⟨ol.toArray⟩, .int .i64 0]) ∧ Frm No W w'
  RP : ∀ W, Calls Tryd.prog 24 #[.string ⟨pl.toArray⟩] W fun e w' => e = .returned (.tuple #[.agg #[.int .u32 (p : Int), .int .u8 (m : Int)], .int .i64 0]) ∧ Frm No W w'
  KJ : ∀ W, Tab W → Calls Tryd.prog 26 #[.agg #[.int .u8 (j.pr : Int), .int .u32 (j.a : Int), .int .u32 (j.b : Int), .int .u16 (j.p : Int), .int .u16 (j.q : Int)]] W fun e w' => e = .returned (.string ⟨jl.toArray⟩) ∧ Frm No W w'
  KK : ∀ W, Tab W → Calls Tryd.prog 26 #[.agg #[.int .u8 (k.pr : Int), .int .u32 (k.a : Int), .int .u32 (k.b : Int), .int .u16 (k.p : Int), .int .u16 (k.q : Int)]] W fun e w' => e = .returned (.string ⟨kl.toArray⟩) ∧ Frm No W w'
  RK : ∀ W, Calls Tryd.prog 25 #[.string ⟨jl.toArray⟩] W fun e w' => e = .returned (.tuple #[.agg #[.int .u8 (j.pr : Int), .int .u32 (j.a : Int), .int .u32 (j.b : Int), .int .u16 (j.p : Int), .int .u16 (j.q : Int)], .int .i64 0]) ∧ Frm No W w'

set_option maxRecDepth 100000 in
set_option maxHeartbeats 2000000 in
theorem back_walk (w : World) (htab : Tab w) (a b m0 n0 m n p q rf rt qf qt : Nat) (j k : Ky) (la lb pl ol jl kl : List UInt8) (em : (m0 : Int) % 33 = (m : Int)) (en : (n0 : Int) % 33 = (n : Int)) (hb : Bck a b m n p q j k la lb pl ol jl kl)
    (v1 v3 v4 v5 v6 v7 v8 v9 : Bool) (e1 : (la == lb) = v1) (e1' : ((a : Int) == b) = v1) (e3 : ((p : Int) == q) = v3) (e4 : ((m : Int) == n) = v4) (e34 : (pl == ol) = (v3 && v4)) (e5 : ((j.pr : Int) == k.pr) = v5) (e6 : ((j.a : Int) == k.a) = v6) (e7 : ((j.b : Int) == k.b) = v7) (e8 : ((j.p : Int) == k.p) = v8) (e9 : ((j.q : Int) == k.q) = v9) (e59 : (jl == kl) = (v5 && (v6 && (v7 && (v8 && v9))))) (hrf : rf < 65536) (hrt : rt < 65536) (hqf : qf < 65536) (hqt : qt < 65536) :
    Calls Tryd.prog 7 #[.int .u32 (a : Int), .int .u32 (b : Int), .int .u8 (m0 : Int), .int .u8 (n0 : Int), .agg #[.int .u16 (rf : Int), .int .u16 (rt : Int)], .agg #[.int .u16 (qf : Int), .int .u16 (qt : Int)], .agg #[.int .u8 (j.pr : Int), .int .u32 (j.a : Int), .int .u32 (j.b : Int), .int .u16 (j.p : Int), .int .u16 (j.q : Int)], .agg #[.int .u8 (k.pr : Int), .int .u32 (k.a : Int), .int .u32 (k.b : Int), .int .u16 (k.p : Int), .int .u16 (k.q : Int)]] w fun e w' => e = .returned (.bool true) ∧ Frm No w w' := by
  have HT0 := Lib.hid htab
  have BC := Lib.hid hb
  clear hb
  go_enter Tryd.func7, Tryd.ntmps7
  obtain ⟨W0, hW0⟩ : ∃ W, (((w.alloc (.cells #[.int .u16 (rf : Int), .int .u16 (rt : Int)] 29)).alloc (.cells #[.int .u16 (qf : Int), .int .u16 (qt : Int)] 29)).alloc (.cells #[.int .u8 (j.pr : Int), .int .u32 (j.a : Int), .int .u32 (j.b : Int), .int .u16 (j.p : Int), .int .u16 (j.q : Int)] 31)).alloc (.cells #[.int .u8 (k.pr : Int), .int .u32 (k.a : Int), .int .u32 (k.b : Int), .int .u16 (k.p : Int), .int .u16 (k.q : Int)] 31) = W := ⟨_, rfl⟩
  have G0 : Hid (Frm No w W0) := by
    show Frm No w W0
    rw [← hW0]
    exact ((((Frm.refl No w).alloc _).alloc _).alloc _).alloc _
  have BR : Hid (Blk W0 w.heap.size 29 #[.int .u16 (rf : Int), .int .u16 (rt : Int)]) := by
    show Blk W0 _ _ _
    rw [← hW0]
    exact (((Blk.new w _ _).alloc _).alloc _).alloc _
  have BQ : Hid (Blk W0 (w.heap.size + 1) 29 #[.int .u16 (qf : Int), .int .u16 (qt : Int)]) := by
    show Blk W0 _ _ _
    rw [← hW0]
    exact ((blk_next w _ _ _).alloc _).alloc _
  have BJ : Hid (Blk W0 (w.heap.size + 1 + 1) 31 #[.int .u8 (j.pr : Int), .int .u32 (j.a : Int), .int .u32 (j.b : Int), .int .u16 (j.p : Int), .int .u16 (j.q : Int)]) := by
    show Blk W0 _ _ _
    rw [← hW0]
    exact (blk_next2 w _ _ _ _).alloc _
  have BK : Hid (Blk W0 (w.heap.size + 1 + 1 + 1) 31 #[.int .u8 (k.pr : Int), .int .u32 (k.a : Int), .int .u32 (k.b : Int), .int .u16 (k.p : Int), .int .u16 (k.q : Int)]) := by
    show Blk W0 _ _ _
    rw [← hW0]
    exact blk_next3 w _ _ _ _ _
  go_wp2_with fail
  try rw [hW0]
  clear hW0
  have T0 := Lib.hid (htab.frm G0.out)
  have F0 : Hid (Frm No W0 W0) := Lib.hid (Frm.refl No W0)
  clear htab
  refine (awake _ (T0.out.frm F0.out)).mono ?_
  rintro e w1 ⟨rfl, hf⟩
  have F1 := Lib.hid (F0.out.new0 hf)
  clear hf
  go_wp2_with fail
  refine (BC.out.TA _ (T0.out.frm F1.out)).mono ?_
  rintro e w2 ⟨rfl, hf⟩
  have F2 := Lib.hid (F1.out.new0 hf)
  clear hf
  go_wp2_with fail
  refine (BC.out.RA _ ).mono ?_
  rintro e w3 ⟨rfl, hf⟩
  have F3 := Lib.hid (F2.out.new0 hf)
  clear hf
  go_wp2_with fail
  refine (BC.out.CA _ ).mono ?_
  rintro e w4 ⟨rfl, hf⟩
  have F4 := Lib.hid (F3.out.new0 hf)
  clear hf
  have BP := Lib.hid (Blk.new w4 24 #[.int .u32 (p : Int), .int .u8 (m : Int)])
  have FP := Lib.hid (F4.out.alloc (.cells #[.int .u32 (p : Int), .int .u8 (m : Int)] 24))
  go_wp2_with fail
  refine (BC.out.CB _ ).mono ?_
  rintro e w5 ⟨rfl, hf⟩
  have F5 := Lib.hid (FP.out.new0 hf)
  have BP2 := Lib.hid ((BP.out.frm hf (fun x => x)).alloc (.cells #[.int .u32 (q : Int), .int .u8 (n : Int)] 24))
  clear hf BP
  obtain ⟨W5, hW5⟩ : ∃ W, w5.alloc (.cells #[.int .u32 (q : Int), .int .u8 (n : Int)] 24) = W := ⟨_, rfl⟩
  have BO : Hid (Blk W5 w5.heap.size 24 #[.int .u32 (q : Int), .int .u8 (n : Int)]) := by
    show Blk W5 _ _ _
    rw [← hW5]
    exact Blk.new _ _ _
  have FW5 : Hid (Frm No W0 W5) := by
    show Frm No W0 W5
    rw [← hW5]
    exact F5.out.alloc _
  rw [hW5] at BP2
  obtain ⟨gp, hgp⟩ : ∃ g, w4.heap.size = g := ⟨_, rfl⟩
  obtain ⟨go, hgo⟩ : ∃ g, w5.heap.size = g := ⟨_, rfl⟩
  rw [hgp] at BP2
  rw [hgo] at BO
  go_upto_region 6 with fail
  try rw [hW5]
  try rw [hgp]
  try rw [hgo]
  clear hW5 hgp hgo F5 F4 FP
  have P5 := Lib.hid (fun W (hW : Frm No W5 W) => And.intro (blk_cells2 (BP2.out.frm hW (fun x => x))) (blk_cells2 (BO.out.frm hW (fun x => x))))
  obtain ⟨⟨a0, a1, _, _⟩, b0, b1, _, _⟩ := P5.out W5 (Frm.refl _ _)
  have KJ5 := Lib.hid (fun W (hW : Frm No W5 W) => blk_cells5 (BJ.out.frm (FW5.out.new0 hW) (fun x => x)))
  have KK5 := Lib.hid (fun W (hW : Frm No W5 W) => blk_cells5 (BK.out.frm (FW5.out.new0 hW) (fun x => x)))
  have KR5 := Lib.hid (fun W (hW : Frm No W5 W) => blk_cells2 (BR.out.frm (FW5.out.new0 hW) (fun x => x)))
  have KQ5 := Lib.hid (fun W (hW : Frm No W5 W) => blk_cells2 (BQ.out.frm (FW5.out.new0 hW) (fun x => x)))
  have T5 := Lib.hid (T0.out.frm FW5.out)
  clear BP2 BO BJ BK T0
  go_wp2_with fail
  refine (BC.out.PA _ T5.out).mono ?_
  rintro e x1 ⟨rfl, hf⟩
  have E1 := Lib.hid hf
  clear hf a0 a1 b0 b1
  obtain ⟨⟨a0, a1, _, _⟩, b0, b1, _, _⟩ := P5.out _ E1.out
  go_wp2_with fail
  refine (BC.out.PB _ (T5.out.frm E1.out)).mono ?_
  rintro e x2 ⟨rfl, hf⟩
  have E2 := Lib.hid (E1.out.new0 hf)
  clear hf a0 a1 b0 b1 E1
  go_wp2_with fail
  refine (BC.out.RP _).mono ?_
  rintro e x3 ⟨rfl, hf⟩
  have E3 := Lib.hid (E2.out.new0 hf)
  clear hf E2
  have BY := Lib.hid (Blk.new x3 24 #[.int .u32 (p : Int), .int .u8 (m : Int)])
  have E4 := Lib.hid (E3.out.alloc (.cells #[.int .u32 (p : Int), .int .u8 (m : Int)] 24))
  obtain ⟨j0, j1, j2, j3, j4⟩ := KJ5.out _ E4.out
  clear E3
  go_wp2_with fail
  refine (BC.out.KJ _ (T5.out.frm E4.out)).mono ?_
  rintro e x5 ⟨rfl, hf⟩
  have E5 := Lib.hid (E4.out.new0 hf)
  have BY5 := Lib.hid (BY.out.frm hf (fun x => x))
  clear hf E4 BY j0 j1 j2 j3 j4
  go_wp2_with fail
  refine (BC.out.RK _).mono ?_
  rintro e x6 ⟨rfl, hf⟩
  have E6 := Lib.hid (E5.out.new0 hf)
  have BY6 := Lib.hid ((BY5.out.frm hf (fun x => x)).alloc (.cells #[.int .u8 (j.pr : Int), .int .u32 (j.a : Int), .int .u32 (j.b : Int), .int .u16 (j.p : Int), .int .u16 (j.q : Int)] 31))
  clear hf E5 BY5
  obtain ⟨W9, hW9⟩ : ∃ W, x6.alloc (.cells #[.int .u8 (j.pr : Int), .int .u32 (j.a : Int), .int .u32 (j.b : Int), .int .u16 (j.p : Int), .int .u16 (j.q : Int)] 31) = W := ⟨_, rfl⟩
  have BZ : Hid (Blk W9 x6.heap.size 31 #[.int .u8 (j.pr : Int), .int .u32 (j.a : Int), .int .u32 (j.b : Int), .int .u16 (j.p : Int), .int .u16 (j.q : Int)]) := by
    show Blk W9 _ _ _
    rw [← hW9]
    exact Blk.new _ _ _
  have E9 : Hid (Frm No W5 W9) := by
    show Frm No W5 W9
    rw [← hW9]
    exact E6.out.alloc _
  rw [hW9] at BY6
  obtain ⟨gy, hgy⟩ : ∃ g, x3.heap.size = g := ⟨_, rfl⟩
  obtain ⟨gz, hgz⟩ : ∃ g, x6.heap.size = g := ⟨_, rfl⟩
  rw [hgy] at BY6
  rw [hgz] at BZ
  go_upto_region 10 with fail
  try rw [hW9]
  try rw [hgy]
  try rw [hgz]
  clear hW9 hgy hgz E6
  have N9 := Lib.hid (fun W (hW : Frm No W9 W) => And.intro (P5.out W (E9.out.new0 hW)) (And.intro (blk_cells2 (BY6.out.frm hW (fun x => x))) (And.intro (blk_cells5 (BZ.out.frm hW (fun x => x))) (And.intro (KJ5.out W (E9.out.new0 hW)) (KK5.out W (E9.out.new0 hW))))))
  have T9 := Lib.hid (fun W (hW : Frm No W9 W) => (T5.out.frm E9.out).frm hW)
  clear P5 BY6 BZ KJ5 KK5 T5
  refine region_no (by kernel_rfl) (by kernel_rfl) ?_
  repeat (refine wpQuiet_step (fun K hK => ?_); go_simp; first
      | (refine hK _ ?_; clear hK K)
      | (apply Exists.intro; refine ⟨fun W hW => ?_, hK _ ?_⟩; (first | rfl | ((obtain ⟨⟨⟨a0, a1, _, _⟩, b0, b1, _, _⟩, ⟨y0, y1, _, _⟩, ⟨z0, z1, z2, z3, z4⟩, ⟨j0, j1, j2, j3, j4⟩, k0, k1, k2, k3, k4⟩ := N9.out W hW); go_simp; rfl)); clear hK K))
  refine wpQuiet_step (fun K hK => ?_)
  go_simp
  apply Exists.intro
  refine ⟨fun W hW => (BC.out.TA W (T9.out W hW)).mono fun e w' he => ⟨he.1, hW.new0 he.2⟩, hK _ ?_⟩
  clear hK K
  repeat (refine wpQuiet_step (fun K hK => ?_); go_simp; first
      | (refine hK _ ?_; clear hK K)
      | (apply Exists.intro; refine ⟨fun W hW => ?_, hK _ ?_⟩; (first | rfl | ((obtain ⟨⟨⟨a0, a1, _, _⟩, b0, b1, _, _⟩, ⟨y0, y1, _, _⟩, ⟨z0, z1, z2, z3, z4⟩, ⟨j0, j1, j2, j3, j4⟩, k0, k1, k2, k3, k4⟩ := N9.out W hW); go_simp; rfl)); clear hK K))
  refine wpQuiet_step (fun K hK => ?_)
  go_simp
  apply Exists.intro
  refine ⟨fun W hW => (BC.out.TB W (T9.out W hW)).mono fun e w' he => ⟨he.1, hW.new0 he.2⟩, hK _ ?_⟩
  clear hK K
  repeat (refine wpQuiet_step (fun K hK => ?_); go_simp; first
      | (refine hK _ ?_; clear hK K)
      | (apply Exists.intro; refine ⟨fun W hW => ?_, hK _ ?_⟩; (first | rfl | ((obtain ⟨⟨⟨a0, a1, _, _⟩, b0, b1, _, _⟩, ⟨y0, y1, _, _⟩, ⟨z0, z1, z2, z3, z4⟩, ⟨j0, j1, j2, j3, j4⟩, k0, k1, k2, k3, k4⟩ := N9.out W hW); go_simp; rfl)); clear hK K))
  refine wpQuiet_step (fun K hK => ?_)
  go_simp
  refine Exists.intro (Value.bool (v3 && v4)) ⟨fun W hW => ?_, hK _ ?_⟩
  · cases v3 <;> cases v4 <;> exact ⟨rfl, rfl⟩
  clear hK K
  repeat (refine wpQuiet_step (fun K hK => ?_); go_simp; first
      | (refine hK _ ?_; clear hK K)
      | (apply Exists.intro; refine ⟨fun W hW => ?_, hK _ ?_⟩; (first | rfl | ((obtain ⟨⟨⟨a0, a1, _, _⟩, b0, b1, _, _⟩, ⟨y0, y1, _, _⟩, ⟨z0, z1, z2, z3, z4⟩, ⟨j0, j1, j2, j3, j4⟩, k0, k1, k2, k3, k4⟩ := N9.out W hW); go_simp; rfl)); clear hK K))
  refine wpQuiet_step (fun K hK => ?_)
  go_simp
  apply Exists.intro
  refine ⟨fun W hW => (BC.out.KJ W (T9.out W hW)).mono fun e w' he => ⟨he.1, hW.new0 he.2⟩, hK _ ?_⟩
  clear hK K
  repeat (refine wpQuiet_step (fun K hK => ?_); go_simp; first
      | (refine hK _ ?_; clear hK K)
      | (apply Exists.intro; refine ⟨fun W hW => ?_, hK _ ?_⟩; (first | rfl | ((obtain ⟨⟨⟨a0, a1, _, _⟩, b0, b1, _, _⟩, ⟨y0, y1, _, _⟩, ⟨z0, z1, z2, z3, z4⟩, ⟨j0, j1, j2, j3, j4⟩, k0, k1, k2, k3, k4⟩ := N9.out W hW); go_simp; rfl)); clear hK K))
  refine wpQuiet_step (fun K hK => ?_)
  go_simp
  apply Exists.intro
  refine ⟨fun W hW => (BC.out.KK W (T9.out W hW)).mono fun e w' he => ⟨he.1, hW.new0 he.2⟩, hK _ ?_⟩
  clear hK K
  repeat (refine wpQuiet_step (fun K hK => ?_); go_simp; first
      | (refine hK _ ?_; clear hK K)
      | (apply Exists.intro; refine ⟨fun W hW => ?_, hK _ ?_⟩; (first | rfl | ((obtain ⟨⟨⟨a0, a1, _, _⟩, b0, b1, _, _⟩, ⟨y0, y1, _, _⟩, ⟨z0, z1, z2, z3, z4⟩, ⟨j0, j1, j2, j3, j4⟩, k0, k1, k2, k3, k4⟩ := N9.out W hW); go_simp; rfl)); clear hK K))
  refine wpQuiet_step (fun K hK => ?_)
  go_simp
  refine Exists.intro (Value.bool (v5 && (v6 && (v7 && (v8 && v9))))) ⟨fun W hW => ?_, hK _ ?_⟩
  · cases v5 <;> cases v6 <;> cases v7 <;> cases v8 <;> cases v9 <;> exact ⟨rfl, rfl⟩
  clear hK K
  repeat (refine wpQuiet_step (fun K hK => ?_); go_simp; first
      | (refine hK _ ?_; clear hK K)
      | (apply Exists.intro; refine ⟨fun W hW => ?_, hK _ ?_⟩; (first | rfl | ((obtain ⟨⟨⟨a0, a1, _, _⟩, b0, b1, _, _⟩, ⟨y0, y1, _, _⟩, ⟨z0, z1, z2, z3, z4⟩, ⟨j0, j1, j2, j3, j4⟩, k0, k1, k2, k3, k4⟩ := N9.out W hW); go_simp; rfl)); clear hK K))
  refine wpQuiet_nil ?_
  intro w10 hf
  have E10 := Lib.hid (E9.out.new0 hf)
  have G10 := Lib.hid (G0.out.new0 (FW5.out.new0 E10.out))
  clear hf N9 T9 E9 e1 e1' e3 e4 e34 e5 e6 e7 e8 e9 e59
  have CR := Lib.hid (BR.out.frm (FW5.out.new0 E10.out) (fun x => x))
  have CQ := Lib.hid (BQ.out.frm (FW5.out.new0 E10.out) (fun x => x))
  clear KR5 KQ5 BR BQ FW5 E10 G0
  obtain ⟨gq, hgq⟩ : ∃ g, w.heap.size + 1 = g := ⟨_, rfl⟩
  obtain ⟨gr, hgr⟩ : ∃ g, w.heap.size = g := ⟨_, rfl⟩
  have hqr : Hid (w.heap.size ≤ gr ∧ w.heap.size ≤ gq ∧ gq ≠ gr) := Lib.hid (by omega)
  rw [hgq] at CQ
  rw [hgr] at CR
  try rw [hgq]
  try rw [hgr]
  clear hgq hgr
  have hn1 : ¬ gq = gr := hqr.out.2.2
  have hn2 : ¬ gr = gq := fun h => hn1 h.symm
  obtain ⟨r0, r1, rz0, rz1⟩ := blk_cells2 CR.out
  obtain ⟨q0, q1, qz0, qz1⟩ := blk_cells2 CQ.out
  by_cases hr : rt < rf <;> by_cases hq : qt < qf
  · have hri : (rt : Int) < rf := by omega
    have hqi : (qt : Int) < qf := by omega
    obtain ⟨W11, hW11⟩ : ∃ W, ((((w10.setCell ⟨gr, 0, none⟩ (.int .u16 (rt : Int))).setCell ⟨gr, 1, none⟩ (.int .u16 (rf : Int))).setCell ⟨gq, 0, none⟩ (.int .u16 (qt : Int))).setCell ⟨gq, 1, none⟩ (.int .u16 (qf : Int))) = W := ⟨_, rfl⟩
    have FX : Hid (Frm No w W11) := by
      show Frm No w W11
      rw [← hW11]
      exact ((((G10.out).set2 hqr.out.1 _ _)).set2 hqr.out.2.1 _ _)
    have BR : Hid (Blk W11 gr 29 #[.int .u16 (rt : Int), .int .u16 (rf : Int)]) := by
      show Blk W11 _ _ _
      rw [← hW11]
      exact ((((set2 CR.out)).far (p := ⟨gq, 0, none⟩) hn2 _).far (p := ⟨gq, 1, none⟩) hn2 _)
    have BQ : Hid (Blk W11 gq 29 #[.int .u16 (qt : Int), .int .u16 (qf : Int)]) := by
      show Blk W11 _ _ _
      rw [← hW11]
      exact (set2 (((CQ.out).far (p := ⟨gr, 0, none⟩) hn1 _).far (p := ⟨gr, 1, none⟩) hn1 _))
    have RU := Lib.hid (fun W (hW : Tab W) => rtext_yes W hW rt rf (by omega) (by omega))
    have RV := Lib.hid (fun W (hW : Tab W) => rtext_yes W hW qt qf (by omega) (by omega))
    have RW := Lib.hid (fun W => rrng_yes (rngText rt rf) W (rngText_len rt rf (by omega) (by omega)) (rng_back rt rf (by omega) (by omega)))
    have RE := rng_beq rt rf qt qf (by omega) (by omega) (by omega) (by omega)
    have T11 := Lib.hid (HT0.out.frm FX.out)
    have PX := Lib.hid (fun W (hW : Frm No W11 W) => And.intro (blk_cells2 (BR.out.frm hW (fun x => x))) (blk_cells2 (BQ.out.frm hW (fun x => x))))
    generalize rngText rt rf = ul at *
    generalize rngText qt qf = vl at *
    obtain ⟨⟨t0, t1, _, _⟩, t2, t3, _, _⟩ := PX.out W11 (Frm.refl _ _)
    go_upto_region 16 with fail
    try rw [hW11]
    clear hW11 t0 t1 t2 t3 r0 r1 rz0 rz1 q0 q1 qz0 qz1 hri hqi G10 CR CQ
    obtain ⟨⟨r0, r1, _, _⟩, q0, q1, _, _⟩ := PX.out W11 (Frm.refl _ _)
    obtain ⟨u1, hu1⟩ : ∃ v, ((rt : Int) == qt) = v := ⟨_, rfl⟩
    obtain ⟨u2, hu2⟩ : ∃ v, ((rf : Int) == qf) = v := ⟨_, rfl⟩
    rw [hu1, hu2] at RE
    have HU := Lib.hid (And.intro hu1 (And.intro hu2 RE))
    clear RE hu1 hu2
    go_wp2_with fail
    refine (RU.out _ T11.out).mono ?_
    rintro e y1 ⟨rfl, hf⟩
    have L1 := Lib.hid hf
    clear hf r0 r1 q0 q1 RU
    obtain ⟨⟨r0, r1, _, _⟩, q0, q1, _, _⟩ := PX.out _ L1.out
    go_wp2_with fail
    refine (RV.out _ (T11.out.frm L1.out)).mono ?_
    rintro e y2 ⟨rfl, hf⟩
    have L2 := Lib.hid (L1.out.new0 hf)
    clear hf r0 r1 q0 q1 RV L1
    go_wp2_with fail
    refine (RW.out _).mono ?_
    rintro e y3 ⟨rfl, hf⟩
    have L3 := Lib.hid (L2.out.new0 hf)
    clear hf L2 RW
    have BW := Lib.hid (Blk.new y3 29 #[.int .u16 (rt : Int), .int .u16 (rf : Int)])
    obtain ⟨W12, hW12⟩ : ∃ W, y3.alloc (.cells #[.int .u16 (rt : Int), .int .u16 (rf : Int)] 29) = W := ⟨_, rfl⟩
    have L4 : Hid (Frm No W11 W12) := by
      show Frm No W11 W12
      rw [← hW12]
      exact L3.out.alloc _
    rw [hW12] at BW
    obtain ⟨gw, hgw⟩ : ∃ g, y3.heap.size = g := ⟨_, rfl⟩
    rw [hgw] at BW
    go_upto_region 19 with fail
    try rw [hW12]
    try rw [hgw]
    clear hW12 hgw
    obtain ⟨⟨r0, r1, _, _⟩, q0, q1, _, _⟩ := PX.out _ L4.out
    obtain ⟨s0, s1, _, _⟩ := blk_cells2 BW.out
    obtain ⟨hu1, hu2, hE⟩ := HU.out
    clear HU BW PX
    rcases u1 with _ | _ <;> rcases u2 with _ | _
    all_goals
      simp only [Bool.and_self, Bool.and_true, Bool.and_false, Bool.true_and, Bool.false_and] at hE
      go_wp2_with fail
      go_ret
      exact ⟨rfl, FX.out.new0 L4.out⟩
  · have hri : (rt : Int) < rf := by omega
    have hqi : ¬ (qt : Int) < qf := by omega
    obtain ⟨W11, hW11⟩ : ∃ W, ((w10.setCell ⟨gr, 0, none⟩ (.int .u16 (rt : Int))).setCell ⟨gr, 1, none⟩ (.int .u16 (rf : Int))) = W := ⟨_, rfl⟩
    have FX : Hid (Frm No w W11) := by
      show Frm No w W11
      rw [← hW11]
      exact ((G10.out).set2 hqr.out.1 _ _)
    have BR : Hid (Blk W11 gr 29 #[.int .u16 (rt : Int), .int .u16 (rf : Int)]) := by
      show Blk W11 _ _ _
      rw [← hW11]
      exact (set2 CR.out)
    have BQ : Hid (Blk W11 gq 29 #[.int .u16 (qf : Int), .int .u16 (qt : Int)]) := by
      show Blk W11 _ _ _
      rw [← hW11]
      exact (((CQ.out).far (p := ⟨gr, 0, none⟩) hn1 _).far (p := ⟨gr, 1, none⟩) hn1 _)
    have RU := Lib.hid (fun W (hW : Tab W) => rtext_yes W hW rt rf (by omega) (by omega))
    have RV := Lib.hid (fun W (hW : Tab W) => rtext_yes W hW qf qt (by omega) (by omega))
    have RW := Lib.hid (fun W => rrng_yes (rngText rt rf) W (rngText_len rt rf (by omega) (by omega)) (rng_back rt rf (by omega) (by omega)))
    have RE := rng_beq rt rf qf qt (by omega) (by omega) (by omega) (by omega)
    have T11 := Lib.hid (HT0.out.frm FX.out)
    have PX := Lib.hid (fun W (hW : Frm No W11 W) => And.intro (blk_cells2 (BR.out.frm hW (fun x => x))) (blk_cells2 (BQ.out.frm hW (fun x => x))))
    generalize rngText rt rf = ul at *
    generalize rngText qf qt = vl at *
    obtain ⟨⟨t0, t1, _, _⟩, t2, t3, _, _⟩ := PX.out W11 (Frm.refl _ _)
    go_upto_region 16 with fail
    try rw [hW11]
    clear hW11 t0 t1 t2 t3 r0 r1 rz0 rz1 q0 q1 qz0 qz1 hri hqi G10 CR CQ
    obtain ⟨⟨r0, r1, _, _⟩, q0, q1, _, _⟩ := PX.out W11 (Frm.refl _ _)
    obtain ⟨u1, hu1⟩ : ∃ v, ((rt : Int) == qf) = v := ⟨_, rfl⟩
    obtain ⟨u2, hu2⟩ : ∃ v, ((rf : Int) == qt) = v := ⟨_, rfl⟩
    rw [hu1, hu2] at RE
    have HU := Lib.hid (And.intro hu1 (And.intro hu2 RE))
    clear RE hu1 hu2
    go_wp2_with fail
    refine (RU.out _ T11.out).mono ?_
    rintro e y1 ⟨rfl, hf⟩
    have L1 := Lib.hid hf
    clear hf r0 r1 q0 q1 RU
    obtain ⟨⟨r0, r1, _, _⟩, q0, q1, _, _⟩ := PX.out _ L1.out
    go_wp2_with fail
    refine (RV.out _ (T11.out.frm L1.out)).mono ?_
    rintro e y2 ⟨rfl, hf⟩
    have L2 := Lib.hid (L1.out.new0 hf)
    clear hf r0 r1 q0 q1 RV L1
    go_wp2_with fail
    refine (RW.out _).mono ?_
    rintro e y3 ⟨rfl, hf⟩
    have L3 := Lib.hid (L2.out.new0 hf)
    clear hf L2 RW
    have BW := Lib.hid (Blk.new y3 29 #[.int .u16 (rt : Int), .int .u16 (rf : Int)])
    obtain ⟨W12, hW12⟩ : ∃ W, y3.alloc (.cells #[.int .u16 (rt : Int), .int .u16 (rf : Int)] 29) = W := ⟨_, rfl⟩
    have L4 : Hid (Frm No W11 W12) := by
      show Frm No W11 W12
      rw [← hW12]
      exact L3.out.alloc _
    rw [hW12] at BW
    obtain ⟨gw, hgw⟩ : ∃ g, y3.heap.size = g := ⟨_, rfl⟩
    rw [hgw] at BW
    go_upto_region 19 with fail
    try rw [hW12]
    try rw [hgw]
    clear hW12 hgw
    obtain ⟨⟨r0, r1, _, _⟩, q0, q1, _, _⟩ := PX.out _ L4.out
    obtain ⟨s0, s1, _, _⟩ := blk_cells2 BW.out
    obtain ⟨hu1, hu2, hE⟩ := HU.out
    clear HU BW PX
    rcases u1 with _ | _ <;> rcases u2 with _ | _
    all_goals
      simp only [Bool.and_self, Bool.and_true, Bool.and_false, Bool.true_and, Bool.false_and] at hE
      go_wp2_with fail
      go_ret
      exact ⟨rfl, FX.out.new0 L4.out⟩
  · have hri : ¬ (rt : Int) < rf := by omega
    have hqi : (qt : Int) < qf := by omega
    obtain ⟨W11, hW11⟩ : ∃ W, ((w10.setCell ⟨gq, 0, none⟩ (.int .u16 (qt : Int))).setCell ⟨gq, 1, none⟩ (.int .u16 (qf : Int))) = W := ⟨_, rfl⟩
    have FX : Hid (Frm No w W11) := by
      show Frm No w W11
      rw [← hW11]
      exact ((G10.out).set2 hqr.out.2.1 _ _)
    have BR : Hid (Blk W11 gr 29 #[.int .u16 (rf : Int), .int .u16 (rt : Int)]) := by
      show Blk W11 _ _ _
      rw [← hW11]
      exact (((CR.out).far (p := ⟨gq, 0, none⟩) hn2 _).far (p := ⟨gq, 1, none⟩) hn2 _)
    have BQ : Hid (Blk W11 gq 29 #[.int .u16 (qt : Int), .int .u16 (qf : Int)]) := by
      show Blk W11 _ _ _
      rw [← hW11]
      exact (set2 CQ.out)
    have RU := Lib.hid (fun W (hW : Tab W) => rtext_yes W hW rf rt (by omega) (by omega))
    have RV := Lib.hid (fun W (hW : Tab W) => rtext_yes W hW qt qf (by omega) (by omega))
    have RW := Lib.hid (fun W => rrng_yes (rngText rf rt) W (rngText_len rf rt (by omega) (by omega)) (rng_back rf rt (by omega) (by omega)))
    have RE := rng_beq rf rt qt qf (by omega) (by omega) (by omega) (by omega)
    have T11 := Lib.hid (HT0.out.frm FX.out)
    have PX := Lib.hid (fun W (hW : Frm No W11 W) => And.intro (blk_cells2 (BR.out.frm hW (fun x => x))) (blk_cells2 (BQ.out.frm hW (fun x => x))))
    generalize rngText rf rt = ul at *
    generalize rngText qt qf = vl at *
    obtain ⟨⟨t0, t1, _, _⟩, t2, t3, _, _⟩ := PX.out W11 (Frm.refl _ _)
    go_upto_region 16 with fail
    try rw [hW11]
    clear hW11 t0 t1 t2 t3 r0 r1 rz0 rz1 q0 q1 qz0 qz1 hri hqi G10 CR CQ
    obtain ⟨⟨r0, r1, _, _⟩, q0, q1, _, _⟩ := PX.out W11 (Frm.refl _ _)
    obtain ⟨u1, hu1⟩ : ∃ v, ((rf : Int) == qt) = v := ⟨_, rfl⟩
    obtain ⟨u2, hu2⟩ : ∃ v, ((rt : Int) == qf) = v := ⟨_, rfl⟩
    rw [hu1, hu2] at RE
    have HU := Lib.hid (And.intro hu1 (And.intro hu2 RE))
    clear RE hu1 hu2
    go_wp2_with fail
    refine (RU.out _ T11.out).mono ?_
    rintro e y1 ⟨rfl, hf⟩
    have L1 := Lib.hid hf
    clear hf r0 r1 q0 q1 RU
    obtain ⟨⟨r0, r1, _, _⟩, q0, q1, _, _⟩ := PX.out _ L1.out
    go_wp2_with fail
    refine (RV.out _ (T11.out.frm L1.out)).mono ?_
    rintro e y2 ⟨rfl, hf⟩
    have L2 := Lib.hid (L1.out.new0 hf)
    clear hf r0 r1 q0 q1 RV L1
    go_wp2_with fail
    refine (RW.out _).mono ?_
    rintro e y3 ⟨rfl, hf⟩
    have L3 := Lib.hid (L2.out.new0 hf)
    clear hf L2 RW
    have BW := Lib.hid (Blk.new y3 29 #[.int .u16 (rf : Int), .int .u16 (rt : Int)])
    obtain ⟨W12, hW12⟩ : ∃ W, y3.alloc (.cells #[.int .u16 (rf : Int), .int .u16 (rt : Int)] 29) = W := ⟨_, rfl⟩
    have L4 : Hid (Frm No W11 W12) := by
      show Frm No W11 W12
      rw [← hW12]
      exact L3.out.alloc _
    rw [hW12] at BW
    obtain ⟨gw, hgw⟩ : ∃ g, y3.heap.size = g := ⟨_, rfl⟩
    rw [hgw] at BW
    go_upto_region 19 with fail
    try rw [hW12]
    try rw [hgw]
    clear hW12 hgw
    obtain ⟨⟨r0, r1, _, _⟩, q0, q1, _, _⟩ := PX.out _ L4.out
    obtain ⟨s0, s1, _, _⟩ := blk_cells2 BW.out
    obtain ⟨hu1, hu2, hE⟩ := HU.out
    clear HU BW PX
    rcases u1 with _ | _ <;> rcases u2 with _ | _
    all_goals
      simp only [Bool.and_self, Bool.and_true, Bool.and_false, Bool.true_and, Bool.false_and] at hE
      go_wp2_with fail
      go_ret
      exact ⟨rfl, FX.out.new0 L4.out⟩
  · have hri : ¬ (rt : Int) < rf := by omega
    have hqi : ¬ (qt : Int) < qf := by omega
    have FX : Hid (Frm No w w10) := by
      show Frm No w w10
      exact G10.out
    have BR : Hid (Blk w10 gr 29 #[.int .u16 (rf : Int), .int .u16 (rt : Int)]) := by
      show Blk w10 _ _ _
      exact CR.out
    have BQ : Hid (Blk w10 gq 29 #[.int .u16 (qf : Int), .int .u16 (qt : Int)]) := by
      show Blk w10 _ _ _
      exact CQ.out
    have RU := Lib.hid (fun W (hW : Tab W) => rtext_yes W hW rf rt (by omega) (by omega))
    have RV := Lib.hid (fun W (hW : Tab W) => rtext_yes W hW qf qt (by omega) (by omega))
    have RW := Lib.hid (fun W => rrng_yes (rngText rf rt) W (rngText_len rf rt (by omega) (by omega)) (rng_back rf rt (by omega) (by omega)))
    have RE := rng_beq rf rt qf qt (by omega) (by omega) (by omega) (by omega)
    have T11 := Lib.hid (HT0.out.frm FX.out)
    have PX := Lib.hid (fun W (hW : Frm No w10 W) => And.intro (blk_cells2 (BR.out.frm hW (fun x => x))) (blk_cells2 (BQ.out.frm hW (fun x => x))))
    generalize rngText rf rt = ul at *
    generalize rngText qf qt = vl at *
    obtain ⟨⟨t0, t1, _, _⟩, t2, t3, _, _⟩ := PX.out w10 (Frm.refl _ _)
    go_upto_region 16 with fail
    clear t0 t1 t2 t3 r0 r1 rz0 rz1 q0 q1 qz0 qz1 hri hqi G10 CR CQ
    obtain ⟨⟨r0, r1, _, _⟩, q0, q1, _, _⟩ := PX.out w10 (Frm.refl _ _)
    obtain ⟨u1, hu1⟩ : ∃ v, ((rf : Int) == qf) = v := ⟨_, rfl⟩
    obtain ⟨u2, hu2⟩ : ∃ v, ((rt : Int) == qt) = v := ⟨_, rfl⟩
    rw [hu1, hu2] at RE
    have HU := Lib.hid (And.intro hu1 (And.intro hu2 RE))
    clear RE hu1 hu2
    go_wp2_with fail
    refine (RU.out _ T11.out).mono ?_
    rintro e y1 ⟨rfl, hf⟩
    have L1 := Lib.hid hf
    clear hf r0 r1 q0 q1 RU
    obtain ⟨⟨r0, r1, _, _⟩, q0, q1, _, _⟩ := PX.out _ L1.out
    go_wp2_with fail
    refine (RV.out _ (T11.out.frm L1.out)).mono ?_
    rintro e y2 ⟨rfl, hf⟩
    have L2 := Lib.hid (L1.out.new0 hf)
    clear hf r0 r1 q0 q1 RV L1
    go_wp2_with fail
    refine (RW.out _).mono ?_
    rintro e y3 ⟨rfl, hf⟩
    have L3 := Lib.hid (L2.out.new0 hf)
    clear hf L2 RW
    have BW := Lib.hid (Blk.new y3 29 #[.int .u16 (rf : Int), .int .u16 (rt : Int)])
    obtain ⟨W12, hW12⟩ : ∃ W, y3.alloc (.cells #[.int .u16 (rf : Int), .int .u16 (rt : Int)] 29) = W := ⟨_, rfl⟩
    have L4 : Hid (Frm No w10 W12) := by
      show Frm No w10 W12
      rw [← hW12]
      exact L3.out.alloc _
    rw [hW12] at BW
    obtain ⟨gw, hgw⟩ : ∃ g, y3.heap.size = g := ⟨_, rfl⟩
    rw [hgw] at BW
    go_upto_region 19 with fail
    try rw [hW12]
    try rw [hgw]
    clear hW12 hgw
    obtain ⟨⟨r0, r1, _, _⟩, q0, q1, _, _⟩ := PX.out _ L4.out
    obtain ⟨s0, s1, _, _⟩ := blk_cells2 BW.out
    obtain ⟨hu1, hu2, hE⟩ := HU.out
    clear HU BW PX
    rcases u1 with _ | _ <;> rcases u2 with _ | _
    all_goals
      simp only [Bool.and_self, Bool.and_true, Bool.and_false, Bool.true_and, Bool.false_and] at hE
      go_wp2_with fail
      go_ret
      exact ⟨rfl, FX.out.new0 L4.out⟩
end Go.Proofs.YtknmnlbgjpbgiaaDoor
