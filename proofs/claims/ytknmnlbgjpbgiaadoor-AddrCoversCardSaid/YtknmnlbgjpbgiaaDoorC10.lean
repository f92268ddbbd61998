/-
  Ports in a range: In; keys: Turn, Compare.
-/
import Derived.Test.YtknmnlbgjpbgiaaDoorC9
import Derived.Deep.Cut
import Derived.Deep.CutRange
import Derived.Deep.CutBlock
namespace Go.Proofs.YtknmnlbgjpbgiaaDoor
open Go.RowKit
open Go.Lib (decDigits)
attribute [local go_sem] undef

set_option maxRecDepth 100000 in
set_option maxHeartbeats 1000000 in
theorem in_any (w : World) (f t x : Nat) : Calls Tryd.prog 33 #[.agg #[.int .u16 (f : Int), .int .u16 (t : Int)], .int .u16 (x : Int)] w (BoolNo (decide (f ≤ x) && decide (x ≤ t)) w) := by
  by_cases h : f ≤ x
  · by_cases h2 : x ≤ t
    · rw [decide_eq_true h, decide_eq_true h2]
      have q : (f : Int) ≤ x := by omega
      have q2 : (x : Int) ≤ t := by omega
      go_enter Tryd.func33, Tryd.ntmps33
      go_wp2
      go_ret
      exact ⟨rfl, (Frm.refl No w).alloc _⟩
    · rw [decide_eq_true h, decide_eq_false h2]
      have q : (f : Int) ≤ x := by omega
      have q2 : ¬ (x : Int) ≤ t := by omega
      go_enter Tryd.func33, Tryd.ntmps33
      go_wp2
      go_ret
      exact ⟨rfl, (Frm.refl No w).alloc _⟩
  · rw [decide_eq_false h]
    have q : ¬ (f : Int) ≤ x := by omega
    go_enter Tryd.func33, Tryd.ntmps33
    go_wp2
    go_ret
    exact ⟨rfl, (Frm.refl No w).alloc _⟩

def kv (pr a b p q : Int) : Value := .agg #[.int .u8 pr, .int .u32 a, .int .u32 b, .int .u16 p, .int .u16 q]

set_option maxRecDepth 100000 in
set_option maxHeartbeats 2000000 in
theorem turn_any (w : World) (pr a b p q : Int) : Calls Tryd.prog 30 #[.agg #[.int .u8 pr, .int .u32 a, .int .u32 b, .int .u16 p, .int .u16 q]] w (RetNo (.agg #[.int .u8 pr, .int .u32 b, .int .u32 a, .int .u16 q, .int .u16 p]) w) := by
  go_enter Tryd.func30, Tryd.ntmps30
  go_wp2
  refine bodyPost_ret (v := .agg #[.int .u8 pr, .int .u32 b, .int .u32 a, .int .u16 q, .int .u16 p]) (by simp [results, Tryd.results30, go_sem]) rfl ⟨rfl, ?_⟩
  exact ((Frm.refl No w).alloc _).alloc _

def cmpN (x y : Nat) : Int := if x < y then -1 else if y < x then 1 else 0
def part (z : Int) (x y : Nat) : Int := if z = 0 then cmpN x y else z

set_option maxRecDepth 100000 in
theorem nan_any (w : World) (x : Int) : Calls Tryd.prog 74 #[.int .u32 x] w fun e w' => e = .returned (.bool false) ∧ w = w' := by
  have hx : (x != x) = false := by simp
  go_enter Tryd.func74, Tryd.ntmps74
  go_wp2
  go_ret
  exact ⟨rfl, rfl⟩

set_option maxRecDepth 100000 in
set_option maxHeartbeats 1000000 in
theorem cmp_any (w : World) (x y : Nat) : Calls Tryd.prog 63 #[.int .u32 (x : Int), .int .u32 (y : Int)] w fun e w' => e = .returned (.int .i64 (cmpN x y)) ∧ w = w' := by
  by_cases h1 : x < y
  · have hv : cmpN x y = -1 := by unfold cmpN; rw [if_pos h1]
    rw [hv]
    have q : (x : Int) < y := by omega
    clear hv h1
    go_enter Tryd.func63, Tryd.ntmps63
    go_wp2_with fail
    refine (nan_any _ _).mono ?_
    rintro e w1 ⟨rfl, rfl⟩
    go_wp2_with fail
    refine (nan_any _ _).mono ?_
    rintro e w1 ⟨rfl, rfl⟩
    go_wp2
    go_ret
    exact ⟨rfl, rfl⟩
  · by_cases h2 : y < x
    · have hv : cmpN x y = 1 := by unfold cmpN; rw [if_neg h1, if_pos h2]
      rw [hv]
      have q : ¬ (x : Int) < y := by omega
      have q2 : (y : Int) < x := by omega
      clear hv h1 h2
      go_enter Tryd.func63, Tryd.ntmps63
      go_wp2_with fail
      refine (nan_any _ _).mono ?_
      rintro e w1 ⟨rfl, rfl⟩
      go_wp2_with fail
      refine (nan_any _ _).mono ?_
      rintro e w1 ⟨rfl, rfl⟩
      go_wp2
      go_ret
      exact ⟨rfl, rfl⟩
    · have hv : cmpN x y = 0 := by unfold cmpN; rw [if_neg h1, if_neg h2]
      rw [hv]
      have q : ¬ (x : Int) < y := by omega
      have q2 : ¬ (y : Int) < x := by omega
      clear hv h1 h2
      go_enter Tryd.func63, Tryd.ntmps63
      go_wp2_with fail
      refine (nan_any _ _).mono ?_
      rintro e w1 ⟨rfl, rfl⟩
      go_wp2_with fail
      refine (nan_any _ _).mono ?_
      rintro e w1 ⟨rfl, rfl⟩
      go_wp2
      go_ret
      exact ⟨rfl, rfl⟩

def PartEnds (g : Nat) (z : Int) (w : World) (e : Ending) (w' : World) : Prop := e = .returned (.tuple #[]) ∧ Blk w' g 3 #[.int .i64 z] ∧ Frm (One g) w w'

set_option maxRecDepth 100000 in
set_option maxHeartbeats 1000000 in
theorem part_any (w : World) (g : Nat) (z : Int) (x y : Nat) (hb : Blk w g 3 #[.int .i64 z]) : Calls Tryd.prog 62 #[.int .u32 (x : Int), .int .u32 (y : Int), .pointer (some ⟨g, 0, none⟩)] w (PartEnds g (part z x y) w) := by
  have c0 : w.cell? ⟨g, 0, none⟩ = some (.int .i64 z) := hb.cell 0
  have f0 : w.frozen? ⟨g, 0, none⟩ = false := hb.frozen 0
  by_cases h : z = 0
  · have hv : part z x y = cmpN x y := by unfold part; rw [if_pos h]
    rw [hv]
    have q : (z == 0) = true := by rw [h]; rfl
    have HB := Lib.hid (hb.set_ 0 (.int .i64 (cmpN x y)))
    clear h hv hb
    go_enter Tryd.func62, Tryd.ntmps62
    go_wp2_with fail
    refine (cmp_any _ _ _).mono ?_
    rintro e w1 ⟨rfl, rfl⟩
    go_wp2
    go_end0
    exact ⟨rfl, HB.out, (Frm.refl (One g) w).set1 0 _⟩
  · have hv : part z x y = z := by unfold part; rw [if_neg h]
    rw [hv]
    have q : (z == 0) = false := by simpa using h
    have HB := Lib.hid hb
    clear hv hb
    go_enter Tryd.func62, Tryd.ntmps62
    go_wp2
    go_end0
    exact ⟨rfl, HB.out, Frm.refl (One g) w⟩

def cmpKey (k j : Ky) : Int := part (part (part (part (part 0 k.pr j.pr) k.a j.a) k.p j.p) k.b j.b) k.q j.q

theorem blk_cells5 {w : World} {g : Nat} {x y z u v : Value} (h : Blk w g 31 #[x, y, z, u, v]) :
    w.cell? ⟨g, 0, none⟩ = some x ∧ w.cell? ⟨g, 1, none⟩ = some y ∧ w.cell? ⟨g, 2, none⟩ = some z ∧ w.cell? ⟨g, 3, none⟩ = some u ∧ w.cell? ⟨g, 4, none⟩ = some v :=
  ⟨h.cell 0, h.cell 1, h.cell 2, h.cell 3, h.cell 4⟩

set_option maxRecDepth 100000 in
set_option maxHeartbeats 4000000 in
theorem compare_any (w : World) (k j : Ky) (hk : k.Ok) (hj : j.Ok) : Calls Tryd.prog 31 #[.agg #[.int .u8 (k.pr : Int), .int .u32 (k.a : Int), .int .u32 (k.b : Int), .int .u16 (k.p : Int), .int .u16 (k.q : Int)], .agg #[.int .u8 (j.pr : Int), .int .u32 (j.a : Int), .int .u32 (j.b : Int), .int .u16 (j.p : Int), .int .u16 (j.q : Int)]] w (RetNo (.int .i64 (cmpKey k j)) w) := by
  have b1 := hk.pr
  have b2 := hj.pr
  have b3 := hk.p
  have b4 := hj.p
  have b5 := hk.q
  have b6 := hj.q
  obtain ⟨W0, hW⟩ : ∃ W, (((w.alloc (.cells #[.int .u8 (k.pr : Int), .int .u32 (k.a : Int), .int .u32 (k.b : Int), .int .u16 (k.p : Int), .int .u16 (k.q : Int)] 31)).alloc (.cells #[.int .u8 (j.pr : Int), .int .u32 (j.a : Int), .int .u32 (j.b : Int), .int .u16 (j.p : Int), .int .u16 (j.q : Int)] 31)).alloc (.cells #[.int .i64 0] 3)) = W := ⟨_, rfl⟩
  have F0 : Hid (Frm No w W0) := by
    show Frm No w W0
    rw [← hW]
    exact (((Frm.refl No w).alloc _).alloc _).alloc _
  have B0 : Hid (Blk W0 (w.heap.size + 1 + 1) 3 #[.int .i64 0]) := by
    show Blk W0 _ _ _
    rw [← hW]
    have := Blk.new ((w.alloc (.cells #[.int .u8 (k.pr : Int), .int .u32 (k.a : Int), .int .u32 (k.b : Int), .int .u16 (k.p : Int), .int .u16 (k.q : Int)] 31)).alloc (.cells #[.int .u8 (j.pr : Int), .int .u32 (j.a : Int), .int .u32 (j.b : Int), .int .u16 (j.p : Int), .int .u16 (j.q : Int)] 31)) 3 #[.int .i64 0]
    simpa using this
  have hK1 : Blk W0 w.heap.size 31 #[.int .u8 (k.pr : Int), .int .u32 (k.a : Int), .int .u32 (k.b : Int), .int .u16 (k.p : Int), .int .u16 (k.q : Int)] := by
    rw [← hW]
    exact ((Blk.new _ _ _).alloc _).alloc _
  have hK2 : Blk W0 (w.heap.size + 1) 31 #[.int .u8 (j.pr : Int), .int .u32 (j.a : Int), .int .u32 (j.b : Int), .int .u16 (j.p : Int), .int .u16 (j.q : Int)] := by
    rw [← hW]
    have := (Blk.new (w.alloc (.cells #[.int .u8 (k.pr : Int), .int .u32 (k.a : Int), .int .u32 (k.b : Int), .int .u16 (k.p : Int), .int .u16 (k.q : Int)] 31)) 31 #[.int .u8 (j.pr : Int), .int .u32 (j.a : Int), .int .u32 (j.b : Int), .int .u16 (j.p : Int), .int .u16 (j.q : Int)]).alloc (.cells #[.int .i64 0] 3)
    simpa using this
  have K1 := Lib.hid (fun W (hf : Frm (One (w.heap.size + 1 + 1)) W0 W) => blk_cells5 (hK1.frm hf (by unfold One; omega)))
  have K2 := Lib.hid (fun W (hf : Frm (One (w.heap.size + 1 + 1)) W0 W) => blk_cells5 (hK2.frm hf (by unfold One; omega)))
  have G0 := Lib.hid (Frm.refl (One (w.heap.size + 1 + 1)) W0)
  have HW := Lib.hid hW
  clear hK1 hK2 hW
  have mkf : ∀ (fn : Fn) (first cap : Array Value) (w : World), (Instr.makeFunc fn first cap).run Tryd.prog w = .ok (.func fn first cap) w := fun _ _ _ _ => rfl
  go_enter Tryd.func31, Tryd.ntmps31
  go_upto_region 3 with fail
  rw [HW.out]
  obtain ⟨c0, c1, c2, c3, c4⟩ := K1.out W0 G0.out
  obtain ⟨d0, d1, d2, d3, d4⟩ := K2.out W0 G0.out
  go_wp2_with fail
  refine (part_any _ (w.heap.size + 1 + 1) _ k.pr j.pr B0.out).mono ?_
  rintro e w1 ⟨rfl, hb, hf⟩
  have B1 := Lib.hid hb
  have G1 := Lib.hid (G0.out.trans hf (fun i _ hs => hs))
  obtain ⟨c0, c1, c2, c3, c4⟩ := K1.out w1 G1.out
  obtain ⟨d0, d1, d2, d3, d4⟩ := K2.out w1 G1.out
  clear hb hf
  go_wp2_with fail
  refine (part_any _ (w.heap.size + 1 + 1) _ k.a j.a B1.out).mono ?_
  rintro e w2 ⟨rfl, hb, hf⟩
  have B2 := Lib.hid hb
  have G2 := Lib.hid (G1.out.trans hf (fun i _ hs => hs))
  obtain ⟨c0, c1, c2, c3, c4⟩ := K1.out w2 G2.out
  obtain ⟨d0, d1, d2, d3, d4⟩ := K2.out w2 G2.out
  clear hb hf
  go_wp2_with fail
  refine (part_any _ (w.heap.size + 1 + 1) _ k.p j.p B2.out).mono ?_
  rintro e w3 ⟨rfl, hb, hf⟩
  have B3 := Lib.hid hb
  have G3 := Lib.hid (G2.out.trans hf (fun i _ hs => hs))
  obtain ⟨c0, c1, c2, c3, c4⟩ := K1.out w3 G3.out
  obtain ⟨d0, d1, d2, d3, d4⟩ := K2.out w3 G3.out
  clear hb hf
  go_wp2_with fail
  refine (part_any _ (w.heap.size + 1 + 1) _ k.b j.b B3.out).mono ?_
  rintro e w4 ⟨rfl, hb, hf⟩
  have B4 := Lib.hid hb
  have G4 := Lib.hid (G3.out.trans hf (fun i _ hs => hs))
  obtain ⟨c0, c1, c2, c3, c4⟩ := K1.out w4 G4.out
  obtain ⟨d0, d1, d2, d3, d4⟩ := K2.out w4 G4.out
  clear hb hf
  go_wp2_with fail
  refine (part_any _ (w.heap.size + 1 + 1) _ k.q j.q B4.out).mono ?_
  rintro e w5 ⟨rfl, hb, hf⟩
  have B5 := Lib.hid hb
  have G5 := Lib.hid (G4.out.trans hf (fun i _ hs => hs))
  have z0 : w5.cell? ⟨w.heap.size + 1 + 1, 0, none⟩ = some (.int .i64 (cmpKey k j)) := hb.cell 0
  clear hb hf
  go_wp2
  go_ret
  exact ⟨rfl, F0.out.trans G5.out (fun i hi hs => by unfold One at hs; omega)⟩
end Go.Proofs.YtknmnlbgjpbgiaaDoor
