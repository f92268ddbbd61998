/-
  slices.Grow of nothing, and slices.Concat of two slices of bytes.
-/
import Derived.Test.YtcclneaabnpbkaaB1
import Derived.Test.YtcclneaabnpbkaaZ1
import Derived.LoopN
namespace Go.Proofs.Ytcclneaabnpbkaa
open Go.RowKit

def Empty (w : World) (e : Ending) (w' : World) : Prop := ∃ v, e = .returned v ∧ w'.ownsRow w.heap.size 5 1 v 0 (byts []) ∧ Frm No w w'

set_option maxRecDepth 100000 in
set_option maxHeartbeats 1000000 in
theorem grow_nil (w : World) (n : Nat) (z : Int) (hz : z = n) (hn : n ≤ 131072) : Calls Try.prog 62 #[.slice none 0 0, .int .i64 z] w (Empty w) := by
  subst hz
  have h0 : ¬ (n : Int) < 0 := by omega
  by_cases hz : n = 0
  · subst hz
    go_enter Try.func62, Try.ntmps62
    go_wp2
    go_ret
    exact ⟨_, rfl, World.ownsRow_nil _ _ _ _, Frm.refl _ _⟩
  · obtain ⟨i0, hi, hz0, hz1, hz2⟩ := info_parts info5
    obtain ⟨v', w2, hrun, hown', hgr, hnew⟩ := run_append_own_zeros (P := Try.prog) w 22 3 22 5 i0 .i64 .i64 Try.underlying22 Try.underlying3 hi hz0 hz1 hz2 _ [] (World.ownsRow_nil _ _ _ _) n (by simp; omega)
    have hpos : (0 : Int) < n := by omega
    rcases hown'.2 with ⟨_, hc⟩ | ⟨g, cap, cur, rfl, _, hg, hnc, hcm, hcs, htake⟩
    · simp at hc
      omega
    · have hgw : g = w.heap.size := by
        rcases hnew with h | h
        · cases h
        · injection h
      subst hgw
      have F2 : Hid (Frm No w w2) := (Frm.of_grown hgr).more (fun i hi h => by cases h)
      have R2 : Hid (w2.ownsRow w.heap.size 5 1 (.slice (some ⟨w.heap.size, 0, none⟩) 0 cap) 0 (byts [])) :=
        ⟨rfl, .inr ⟨w.heap.size, cap, cur, rfl, by omega, hg, by omega, hcm, hcs, by simp [byts]⟩⟩
      have hc0 : (0 : Int) ≤ cap := by omega
      have HRUN := Lib.hid hrun
      clear hown' hgr hnew hg hcs htake hrun
      go_enter Try.func62, Try.ntmps62
      go_wp2_with (at_builtin; refine Lib.wpList_append_run _ rfl (.tmp 20) (.tmp 21) 22 3 rfl _ _ rfl rfl _ _ HRUN.out ?_)
      go_ret
      exact ⟨_, rfl, R2.out, F2.out⟩

def Joined (w : World) (n : Nat) (xs : List UInt8) (e : Ending) (w' : World) : Prop :=
  ∃ R c', e = .returned (.slice R n c') ∧ n ≤ c' ∧ Rds w' R xs ∧ Frm No w w'

/-- What has been appended onto a row of one's own leaves what was there. -/
theorem own_after {w w1 w2 : World} {v : Value} {n : Nat} {zs : List Value} (ho : w1.ownsRow w.heap.size 5 1 v n zs) (hf : Frm No w w1) (hg : w1.grownBy w2 v.ownBlock) : Frm No w w2 :=
  hf.trans (Frm.of_grown hg) (fun i hi hs => by
    have := (World.ownsRow.lt ho i hs).1
    omega)

set_option maxRecDepth 100000 in
set_option maxHeartbeats 2000000 in
theorem concat_two (w : World) (g : Nat) (A B : Option Addr) (n c m d : Nat) (xs ys : List UInt8) (hx : xs.length = n) (hy : ys.length = m) (hn : n ≤ 60000) (hm : m ≤ 60000) (hA : A = none → c = 0) (hB : B = none → d = 0)
    (hxr : Rds w A xs) (hyr : Rds w B ys) (hb : Blk w g 22 #[.slice A n c, .slice B m d]) :
    Calls Try.prog 38 #[.slice (some ⟨g, 0, none⟩) 2 2] w (Joined w (n + m) (xs ++ ys)) := by
  have c0 : w.cell? ⟨g, 0, none⟩ = some (.slice A n c) := (hb.cell 0).trans rfl
  have c1 : w.cell? ⟨g, 1, none⟩ = some (.slice B m d) := (hb.cell 1).trans rfl
  have a1 : IntKind.i64.wrap (n : Int) = n := by rw [IntWalk.i64_in] <;> omega
  have a2 : IntKind.i64.wrap ((n : Int) + m) = ((n + m : Nat) : Int) := by rw [IntWalk.i64_in] <;> omega
  have a3 : ¬ ((n : Int) < 0) := by omega
  have a4 : ¬ (((n + m : Nat) : Int) < 0) := by omega
  have a5 : ¬ ((n : Int) + m < 0) := by omega
  have HB := Lib.hid hb
  have HX := Lib.hid hxr
  have HY := Lib.hid hyr
  clear hb hxr hyr
  go_enter Try.func38, Try.ntmps38
  go_wp2_with fail
  refine wp_loop_rounds 3 ?_
  rw [rounds_succ]
  go_wp2_with fail
  rw [rounds_succ]
  go_wp2_with fail
  rw [rounds_succ]
  go_wp2_with fail
  refine (grow_nil w (n + m) _ (by simp) (by omega)).mono ?_
  rintro e w1 ⟨v, rfl, ho, hf⟩
  have O1 := Lib.hid ho
  have F1 := Lib.hid hf
  have HB1 := Lib.hid (HB.out.frm hf (fun x => x))
  have HX1 := Lib.hid (HX.out.frm hf (fun _ _ x => x))
  have HY1 := Lib.hid (HY.out.frm hf (fun _ _ x => x))
  clear ho hf c0 c1 a1 a2 a3 a4 a5
  have c0 : w1.cell? ⟨g, 0, none⟩ = some (.slice A n c) := (HB1.out.cell 0).trans rfl
  go_wp2_with fail
  refine wp_loop_rounds 3 ?_
  rw [rounds_succ]
  go_wp2_with (at_builtin; refine wpList_append_bytes rfl (.tmp 31) (.tmp 32) rfl w.heap.size v 0 [] rfl O1.out A n c xs rfl hx HX1.out hA (by omega) F1.out.size ?_; intro v2 w2 hown2 hgr2; have O2 := Lib.hid hown2; have F2 := Lib.hid (own_after O1.out F1.out hgr2); clear hown2 hgr2)
  have c1 : w2.cell? ⟨g, 1, none⟩ = some (.slice B m d) := ((HB.out.frm F2.out (fun x => x)).cell 1).trans rfl
  have HY2 := Lib.hid (HY.out.frm F2.out (fun _ _ x => x))
  have e0 : 0 + n = n := by omega
  have O2' : Hid (w2.ownsRow w.heap.size 5 1 v2 n (byts xs)) := by
    have := O2.out
    rw [e0, List.nil_append] at this
    exact this
  clear O2 e0 c0
  rw [rounds_succ]
  go_wp2_with (at_builtin; refine wpList_append_bytes rfl (.tmp 31) (.tmp 32) rfl w.heap.size v2 n xs rfl O2'.out B m d ys rfl hy HY2.out hB (by omega) F2.out.size ?_; intro v3 w3 hown3 hgr3; have O3 := Lib.hid hown3; have F3 := Lib.hid (own_after O2'.out F2.out hgr3); clear hown3 hgr3)
  rw [rounds_succ]
  go_wp2
  go_ret
  have ho3 := O3.out
  rcases ho3.2 with ⟨rfl, h0⟩ | ⟨g', cap, cur, rfl, _, hg, hnc, _⟩
  · have hx0 : xs = [] := List.eq_nil_of_length_eq_zero (by omega)
    have hy0 : ys = [] := List.eq_nil_of_length_eq_zero (by omega)
    refine ⟨none, 0, ?_, by omega, ?_, F3.out⟩
    · rw [show n + m = 0 from h0]
      rfl
    · subst hx0 hy0
      exact Rds.nil _ _
  · exact ⟨_, cap, rfl, hnc, Rds.of_own ho3, F3.out⟩
end Go.Proofs.Ytcclneaabnpbkaa
