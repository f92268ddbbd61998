/-
  slices.Concat of two and of four slices of bytes: a row of its own.
-/
import Derived.Test.YtcclneaabnpbkaaD1
import Derived.Test.YtcclneaabnpbkaaP1
namespace Go.Proofs.Ytcclneaabnpbkaa
open Go.RowKit

def Joins (w : World) (n : Nat) (xs : List UInt8) (e : Ending) (w' : World) : Prop :=
  ∃ v, e = .returned v ∧ w'.ownsRow w.heap.size 5 1 v n (byts xs) ∧ Frm No w w'

set_option maxRecDepth 100000 in
set_option maxHeartbeats 4000000 in
theorem concat_2 (w : World) (g : Nat) (A0 A1 : Option Addr) (n0 n1 c0 c1 : Nat) (x0 x1 : List UInt8) (l0 : x0.length = n0) (l1 : x1.length = n1) (hsum : n0 + n1 ≤ 131072) (a0 : A0 = none → c0 = 0) (a1 : A1 = none → c1 = 0)
    (r0 : Rds w A0 x0) (r1 : Rds w A1 x1) (hb : Blk w g 22 #[.slice A0 n0 c0, .slice A1 n1 c1]) :
    Calls Try.prog 38 #[.slice (some ⟨g, 0, none⟩) 2 2] w (Joins w (n0 + n1) (x0 ++ x1)) := by
  have d0 : w.cell? ⟨g, 0, none⟩ = some (.slice A0 n0 c0) := (hb.cell 0).trans rfl
  have d1 : w.cell? ⟨g, 1, none⟩ = some (.slice A1 n1 c1) := (hb.cell 1).trans rfl
  obtain ⟨s1, hs1⟩ : ∃ s : Nat, s = n0 := ⟨_, rfl⟩
  have u1 : IntKind.i64.wrap (n0 : Int) = s1 := by rw [IntWalk.i64_in] <;> omega
  have v1 : ¬ ((s1 : Int) < 0) := by omega
  obtain ⟨s2, hs2⟩ : ∃ s : Nat, s = s1 + n1 := ⟨_, rfl⟩
  have u2 : IntKind.i64.wrap ((s1 : Int) + n1) = s2 := by rw [IntWalk.i64_in] <;> omega
  have v2 : ¬ ((s2 : Int) < 0) := by omega
  have e0 : (0 : Int) + n0 = s1 := by omega
  have e1 : (s1 : Int) + n1 = s2 := by omega
  have hS : Hid (s2 = n0 + n1) := by show _ = _; omega
  have hS2 : s2 ≤ 131072 := by omega
  have q0 : 0 + n0 = s1 := by omega
  have q1 : s1 + n1 = s2 := by omega
  have Q0 := Lib.hid q0
  clear q0
  have Q1 := Lib.hid q1
  clear q1
  have HB0 := Lib.hid hb
  have X0_0 := Lib.hid r0
  have X1_0 := Lib.hid r1
  have hsm : Hid (s1 ≤ 131072 ∧ s2 ≤ 131072) := by show s1 ≤ 131072 ∧ s2 ≤ 131072; omega
  rw [← hS.out]
  clear hb r0 r1 hs1 hs2 hsum
  go_enter Try.func38, Try.ntmps38
  go_wp2_with fail
  refine wp_loop_rounds 3 ?_
  rw [rounds_succ]
  go_wp2_with fail
  rw [rounds_succ]
  go_wp2_with fail
  rw [rounds_succ]
  go_wp2_with fail
  refine (grow_nil w s2 _ rfl hS2).mono ?_
  rintro e w1 ⟨v0, rfl, ho, hf⟩
  have O0 := Lib.hid ho
  have F0 := Lib.hid hf
  have HB1 := Lib.hid (HB0.out.frm hf (fun x => x))
  have X0_1 := Lib.hid (X0_0.out.frm hf (fun _ _ x => x))
  have X1_1 := Lib.hid (X1_0.out.frm hf (fun _ _ x => x))
  clear ho hf d0 u1 v1 e0 d1 u2 v2 e1
  have HB1_0 := HB1
  have d0 : w1.cell? ⟨g, 0, none⟩ = some (.slice A0 n0 c0) := (HB1_0.out.cell 0).trans rfl
  go_wp2_with fail
  refine wp_loop_rounds 3 ?_
  rw [rounds_succ]
  go_wp2_with (at_builtin; refine wpList_append_bytes rfl (.tmp 31) (.tmp 32) rfl w.heap.size v0 0 ([]) rfl O0.out A0 n0 c0 x0 rfl l0 X0_1.out a0 (by rw [Q0.out]; have := hsm.out; omega) F0.out.size ?_; intro v1 w2 ho hgr; have O1 := Lib.hid ho; have F1 := Lib.hid (own_after O0.out F0.out hgr); clear ho hgr)
  have O1' : Hid (w2.ownsRow w.heap.size 5 1 v1 s1 (byts (x0))) := by
    have h := O1.out
    rw [Q0.out] at h
    exact h
  clear O1 d0
  have O1 := O1'
  clear O1'
  have HB1_1 := Lib.hid (HB0.out.frm F1.out (fun x => x))
  have Y1 := Lib.hid (X1_0.out.frm F1.out (fun _ _ x => x))
  clear X1_1
  have X1_1 := Y1
  clear Y1
  have d1 : w2.cell? ⟨g, 1, none⟩ = some (.slice A1 n1 c1) := (HB1_1.out.cell 1).trans rfl
  rw [rounds_succ]
  go_wp2_with (at_builtin; refine wpList_append_bytes rfl (.tmp 31) (.tmp 32) rfl w.heap.size v1 s1 (x0) rfl O1.out A1 n1 c1 x1 rfl l1 X1_1.out a1 (by rw [Q1.out]; have := hsm.out; omega) F1.out.size ?_; intro v2 w3 ho hgr; have O2 := Lib.hid ho; have F2 := Lib.hid (own_after O1.out F1.out hgr); clear ho hgr)
  have O2' : Hid (w3.ownsRow w.heap.size 5 1 v2 s2 (byts (x0 ++ x1))) := by
    have h := O2.out
    rw [Q1.out] at h
    exact h
  clear O2 d1
  have O2 := O2'
  clear O2'
  rw [rounds_succ]
  go_wp2
  go_ret
  exact ⟨v2, rfl, O2.out, F2.out⟩

set_option maxRecDepth 100000 in
set_option maxHeartbeats 4000000 in
theorem concat_4 (w : World) (g : Nat) (A0 A1 A2 A3 : Option Addr) (n0 n1 n2 n3 c0 c1 c2 c3 : Nat) (x0 x1 x2 x3 : List UInt8) (l0 : x0.length = n0) (l1 : x1.length = n1) (l2 : x2.length = n2) (l3 : x3.length = n3) (hsum : n0 + n1 + n2 + n3 ≤ 131072) (a0 : A0 = none → c0 = 0) (a1 : A1 = none → c1 = 0) (a2 : A2 = none → c2 = 0) (a3 : A3 = none → c3 = 0)
    (r0 : Rds w A0 x0) (r1 : Rds w A1 x1) (r2 : Rds w A2 x2) (r3 : Rds w A3 x3) (hb : Blk w g 22 #[.slice A0 n0 c0, .slice A1 n1 c1, .slice A2 n2 c2, .slice A3 n3 c3]) :
    Calls Try.prog 38 #[.slice (some ⟨g, 0, none⟩) 4 4] w (Joins w (n0 + n1 + n2 + n3) (x0 ++ x1 ++ x2 ++ x3)) := by
  have d0 : w.cell? ⟨g, 0, none⟩ = some (.slice A0 n0 c0) := (hb.cell 0).trans rfl
  have d1 : w.cell? ⟨g, 1, none⟩ = some (.slice A1 n1 c1) := (hb.cell 1).trans rfl
  have d2 : w.cell? ⟨g, 2, none⟩ = some (.slice A2 n2 c2) := (hb.cell 2).trans rfl
  have d3 : w.cell? ⟨g, 3, none⟩ = some (.slice A3 n3 c3) := (hb.cell 3).trans rfl
  obtain ⟨s1, hs1⟩ : ∃ s : Nat, s = n0 := ⟨_, rfl⟩
  have u1 : IntKind.i64.wrap (n0 : Int) = s1 := by rw [IntWalk.i64_in] <;> omega
  have v1 : ¬ ((s1 : Int) < 0) := by omega
  obtain ⟨s2, hs2⟩ : ∃ s : Nat, s = s1 + n1 := ⟨_, rfl⟩
  have u2 : IntKind.i64.wrap ((s1 : Int) + n1) = s2 := by rw [IntWalk.i64_in] <;> omega
  have v2 : ¬ ((s2 : Int) < 0) := by omega
  obtain ⟨s3, hs3⟩ : ∃ s : Nat, s = s2 + n2 := ⟨_, rfl⟩
  have u3 : IntKind.i64.wrap ((s2 : Int) + n2) = s3 := by rw [IntWalk.i64_in] <;> omega
  have v3 : ¬ ((s3 : Int) < 0) := by omega
  obtain ⟨s4, hs4⟩ : ∃ s : Nat, s = s3 + n3 := ⟨_, rfl⟩
  have u4 : IntKind.i64.wrap ((s3 : Int) + n3) = s4 := by rw [IntWalk.i64_in] <;> omega
  have v4 : ¬ ((s4 : Int) < 0) := by omega
  have e0 : (0 : Int) + n0 = s1 := by omega
  have e1 : (s1 : Int) + n1 = s2 := by omega
  have e2 : (s2 : Int) + n2 = s3 := by omega
  have e3 : (s3 : Int) + n3 = s4 := by omega
  have hS : Hid (s4 = n0 + n1 + n2 + n3) := by show _ = _; omega
  have hS2 : s4 ≤ 131072 := by omega
  have q0 : 0 + n0 = s1 := by omega
  have q1 : s1 + n1 = s2 := by omega
  have q2 : s2 + n2 = s3 := by omega
  have q3 : s3 + n3 = s4 := by omega
  have Q0 := Lib.hid q0
  clear q0
  have Q1 := Lib.hid q1
  clear q1
  have Q2 := Lib.hid q2
  clear q2
  have Q3 := Lib.hid q3
  clear q3
  have HB0 := Lib.hid hb
  have X0_0 := Lib.hid r0
  have X1_0 := Lib.hid r1
  have X2_0 := Lib.hid r2
  have X3_0 := Lib.hid r3
  have hsm : Hid (s1 ≤ 131072 ∧ s2 ≤ 131072 ∧ s3 ≤ 131072 ∧ s4 ≤ 131072) := by show s1 ≤ 131072 ∧ s2 ≤ 131072 ∧ s3 ≤ 131072 ∧ s4 ≤ 131072; omega
  rw [← hS.out]
  clear hb r0 r1 r2 r3 hs1 hs2 hs3 hs4 hsum
  go_enter Try.func38, Try.ntmps38
  go_wp2_with fail
  refine wp_loop_rounds 5 ?_
  rw [rounds_succ]
  go_wp2_with fail
  rw [rounds_succ]
  go_wp2_with fail
  rw [rounds_succ]
  go_wp2_with fail
  rw [rounds_succ]
  go_wp2_with fail
  rw [rounds_succ]
  go_wp2_with fail
  refine (grow_nil w s4 _ rfl hS2).mono ?_
  rintro e w1 ⟨v0, rfl, ho, hf⟩
  have O0 := Lib.hid ho
  have F0 := Lib.hid hf
  have HB1 := Lib.hid (HB0.out.frm hf (fun x => x))
  have X0_1 := Lib.hid (X0_0.out.frm hf (fun _ _ x => x))
  have X1_1 := Lib.hid (X1_0.out.frm hf (fun _ _ x => x))
  have X2_1 := Lib.hid (X2_0.out.frm hf (fun _ _ x => x))
  have X3_1 := Lib.hid (X3_0.out.frm hf (fun _ _ x => x))
  clear ho hf d0 u1 v1 e0 d1 u2 v2 e1 d2 u3 v3 e2 d3 u4 v4 e3
  have HB1_0 := HB1
  have d0 : w1.cell? ⟨g, 0, none⟩ = some (.slice A0 n0 c0) := (HB1_0.out.cell 0).trans rfl
  go_wp2_with fail
  refine wp_loop_rounds 5 ?_
  rw [rounds_succ]
  go_wp2_with (at_builtin; refine wpList_append_bytes rfl (.tmp 31) (.tmp 32) rfl w.heap.size v0 0 ([]) rfl O0.out A0 n0 c0 x0 rfl l0 X0_1.out a0 (by rw [Q0.out]; have := hsm.out; omega) F0.out.size ?_; intro v1 w2 ho hgr; have O1 := Lib.hid ho; have F1 := Lib.hid (own_after O0.out F0.out hgr); clear ho hgr)
  have O1' : Hid (w2.ownsRow w.heap.size 5 1 v1 s1 (byts (x0))) := by
    have h := O1.out
    rw [Q0.out] at h
    exact h
  clear O1 d0
  have O1 := O1'
  clear O1'
  have HB1_1 := Lib.hid (HB0.out.frm F1.out (fun x => x))
  have Y1 := Lib.hid (X1_0.out.frm F1.out (fun _ _ x => x))
  clear X1_1
  have X1_1 := Y1
  clear Y1
  have Y2 := Lib.hid (X2_0.out.frm F1.out (fun _ _ x => x))
  clear X2_1
  have X2_1 := Y2
  clear Y2
  have Y3 := Lib.hid (X3_0.out.frm F1.out (fun _ _ x => x))
  clear X3_1
  have X3_1 := Y3
  clear Y3
  have d1 : w2.cell? ⟨g, 1, none⟩ = some (.slice A1 n1 c1) := (HB1_1.out.cell 1).trans rfl
  rw [rounds_succ]
  go_wp2_with (at_builtin; refine wpList_append_bytes rfl (.tmp 31) (.tmp 32) rfl w.heap.size v1 s1 (x0) rfl O1.out A1 n1 c1 x1 rfl l1 X1_1.out a1 (by rw [Q1.out]; have := hsm.out; omega) F1.out.size ?_; intro v2 w3 ho hgr; have O2 := Lib.hid ho; have F2 := Lib.hid (own_after O1.out F1.out hgr); clear ho hgr)
  have O2' : Hid (w3.ownsRow w.heap.size 5 1 v2 s2 (byts (x0 ++ x1))) := by
    have h := O2.out
    rw [Q1.out] at h
    exact h
  clear O2 d1
  have O2 := O2'
  clear O2'
  have HB1_2 := Lib.hid (HB0.out.frm F2.out (fun x => x))
  have Y2 := Lib.hid (X2_0.out.frm F2.out (fun _ _ x => x))
  clear X2_1
  have X2_1 := Y2
  clear Y2
  have Y3 := Lib.hid (X3_0.out.frm F2.out (fun _ _ x => x))
  clear X3_1
  have X3_1 := Y3
  clear Y3
  have d2 : w3.cell? ⟨g, 2, none⟩ = some (.slice A2 n2 c2) := (HB1_2.out.cell 2).trans rfl
  rw [rounds_succ]
  go_wp2_with (at_builtin; refine wpList_append_bytes rfl (.tmp 31) (.tmp 32) rfl w.heap.size v2 s2 (x0 ++ x1) rfl O2.out A2 n2 c2 x2 rfl l2 X2_1.out a2 (by rw [Q2.out]; have := hsm.out; omega) F2.out.size ?_; intro v3 w4 ho hgr; have O3 := Lib.hid ho; have F3 := Lib.hid (own_after O2.out F2.out hgr); clear ho hgr)
  have O3' : Hid (w4.ownsRow w.heap.size 5 1 v3 s3 (byts (x0 ++ x1 ++ x2))) := by
    have h := O3.out
    rw [Q2.out] at h
    exact h
  clear O3 d2
  have O3 := O3'
  clear O3'
  have HB1_3 := Lib.hid (HB0.out.frm F3.out (fun x => x))
  have Y3 := Lib.hid (X3_0.out.frm F3.out (fun _ _ x => x))
  clear X3_1
  have X3_1 := Y3
  clear Y3
  have d3 : w4.cell? ⟨g, 3, none⟩ = some (.slice A3 n3 c3) := (HB1_3.out.cell 3).trans rfl
  rw [rounds_succ]
  go_wp2_with (at_builtin; refine wpList_append_bytes rfl (.tmp 31) (.tmp 32) rfl w.heap.size v3 s3 (x0 ++ x1 ++ x2) rfl O3.out A3 n3 c3 x3 rfl l3 X3_1.out a3 (by rw [Q3.out]; have := hsm.out; omega) F3.out.size ?_; intro v4 w5 ho hgr; have O4 := Lib.hid ho; have F4 := Lib.hid (own_after O3.out F3.out hgr); clear ho hgr)
  have O4' : Hid (w5.ownsRow w.heap.size 5 1 v4 s4 (byts (x0 ++ x1 ++ x2 ++ x3))) := by
    have h := O4.out
    rw [Q3.out] at h
    exact h
  clear O4 d3
  have O4 := O4'
  clear O4'
  rw [rounds_succ]
  go_wp2
  go_ret
  exact ⟨v4, rfl, O4.out, F4.out⟩

end Go.Proofs.Ytcclneaabnpbkaa
