/-
  Unhex: digits, and the deferred closure.
-/
import Derived.Test.YtgpnnnjhcjjnmaaH1
import Derived.Defers
import Derived.Recover
namespace Go.Proofs.Ytgpnnnjhcjjnmaa
open Go.RowKit

/-- Is it a digit? Its value. -/
def good (n : Nat) : Bool := (decide (48 ≤ n) && decide (n ≤ 57)) || (decide (97 ≤ n) && decide (n ≤ 102))
def val (n : Nat) : Nat := if n ≤ 57 then n - 48 else n - 87

theorem hex_long (w : World) (A : Option Addr) (c n : Nat) (hs : 131072 < n) :
    Calls Try.prog 38 #[.slice A n c] w fun e w' => e = .returned (.tuple #[.string ⟨#[]⟩, .int .i64 3]) ∧ w = w' := by
  go_enter Try.func38, Try.ntmps38
  go_wp2
  go_ret2
  exact ⟨rfl, rfl⟩

set_option maxRecDepth 100000 in
set_option maxHeartbeats 400000 in
theorem val_ok (n : Nat) (w : World) (hn : good n = true) : Calls Try.prog 82 #[.int .u8 (n : Int)] w fun e w' => e = .returned (.int .u8 (val n : Int)) ∧ w = w' := by
  have h : (48 ≤ n ∧ n ≤ 57) ∨ (97 ≤ n ∧ n ≤ 102) := by simpa [good] using hn
  clear hn
  rcases h with ⟨h1, h2⟩ | ⟨h1, h2⟩
  · have hv : (val n : Int) = (n : Int) - 48 := by unfold val; rw [if_pos h2]; omega
    have HV := Lib.hid hv
    clear hv
    go_enter Try.func82, Try.ntmps82
    go_wp2
    go_ret
    exact ⟨by rw [HV.out]; rfl, rfl⟩
  · have hv : (val n : Int) = (n : Int) - 97 + 10 := by unfold val; rw [if_neg (by omega)]; omega
    have HV := Lib.hid hv
    clear hv
    have h3 : decide ((n : Int) ≤ 57) = false := by simp; omega
    go_enter Try.func82, Try.ntmps82
    go_wp2
    go_ret
    exact ⟨by rw [HV.out]; rfl, rfl⟩

/-- The panic of a wrong digit. -/
def wrong : List PanicEntry := [{ v := .iface 34 (.int .i64 10), recovered := false }]

set_option maxRecDepth 100000 in
set_option maxHeartbeats 400000 in
theorem val_no (n : Nat) (w : World) (hn : good n = false) : Calls Try.prog 82 #[.int .u8 (n : Int)] w fun e w' => e = .panicked wrong ∧ w = w' := by
  have h : (n < 48 ∨ 57 < n) ∧ (n < 97 ∨ 102 < n) := by
    simp [good] at hn
    omega
  clear hn
  obtain ⟨h1, h2⟩ := h
  rcases h1 with h1 | h1
  · go_enter Try.func82, Try.ntmps82
    go_wp2
    exact ⟨rfl, rfl, rfl⟩
  · have h3 : decide ((n : Int) ≤ 57) = false := by simp; omega
    rcases h2 with h2 | h2
    · go_enter Try.func82, Try.ntmps82
      go_wp2
      exact ⟨rfl, rfl, rfl⟩
    · have h4 : decide ((n : Int) ≤ 102) = false := by simp; omega
      go_enter Try.func82, Try.ntmps82
      go_wp2
      exact ⟨rfl, rfl, rfl⟩

set_option maxRecDepth 100000 in
theorem catch_panicking (p q : Addr) (x y : Value) (w : World) (hc : w.cell? p = some x) (hz : w.frozen? p = false) (hd : (w.setCell p (.slice none 0 0)).cell? q = some y) (hy : (w.setCell p (.slice none 0 0)).frozen? q = false) :
    CallsD Try.prog 81 #[.pointer (some p), .pointer (some q)] (.panicking wrong) w fun e u' w' =>
      e = .returned (.tuple #[]) ∧ u' = .panicking [{ v := .iface 34 (.int .i64 10), recovered := true }] ∧ w' = (w.setCell p (.slice none 0 0)).setCell q (.int .i64 10) := by
  refine callsD_of_wpS Try.func81 rfl fun c₀ cs hu => ?_
  apply wpS_seq
  apply wpS_region
  simp [wpOpsS, go_sem, recoverD, hu, wrong, Try.ntmps81, Exit.thenS]
  refine wpS_cond (t := true) (by simp [Act.eval, Array.replicate]) ?_
  simp only [if_true]
  apply wpS_region
  simp [wpOpsS, go_sem, hc, hz, hd, hy, bodyPostS, results, Try.results81]

theorem catch_idle (p q : Addr) (w : World) :
    CallsD Try.prog 81 #[.pointer (some p), .pointer (some q)] .returning w fun e u' w' => e = .returned (.tuple #[]) ∧ u' = .returning ∧ w' = w := by
  refine callsD_of_wpS Try.func81 rfl fun c₀ cs hu => ?_
  apply wpS_seq
  apply wpS_region
  simp [wpOpsS, go_sem, recoverD, hu, Try.ntmps81, Exit.thenS]
  refine wpS_cond (t := false) (by simp [Act.eval, Array.replicate]) ?_
  simp only [Bool.false_eq_true, if_false]
  refine wpS_of_wp (wp_skip ?_)
  cases c₀
  simp_all [bodyPostS, results, Try.results81]
end Go.Proofs.Ytgpnnnjhcjjnmaa
