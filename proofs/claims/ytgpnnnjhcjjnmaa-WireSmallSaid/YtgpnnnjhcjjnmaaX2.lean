/-
  The document's own answer: the value of a digit; Hex of too much.
-/
import Derived.Test.YtgpnnnjhcjjnmaaX1
namespace Go.Proofs.Ytgpnnnjhcjjnmaa
open Go.RowKit

theorem refHex_long (w : World) (A : Option Addr) (c n : Nat) (hs : 131072 < n) :
    Calls Try.prog 51 #[.slice A n c] w fun e w' => e = .returned (.tuple #[.string ⟨#[]⟩, .int .i64 3]) ∧ w = w' := by
  go_enter Try.func51, Try.ntmps51
  go_wp2
  go_ret2
  exact ⟨rfl, rfl⟩

def digitOf (x : Nat) : Int := if good x = true then (val x : Int) else -1

set_option maxRecDepth 100000 in
set_option maxHeartbeats 1000000 in
theorem ref_digit (w : World) (x : Nat) (hx : x < 256) : Calls Try.prog 75 #[.int .u8 (x : Int)] w fun e w' => e = .returned (.int .i64 (digitOf x)) ∧ w = w' := by
  rcases (show x < 48 ∨ (48 ≤ x ∧ x ≤ 57) ∨ (57 < x ∧ x < 97) ∨ (97 ≤ x ∧ x ≤ 102) ∨ 102 < x by omega) with h | ⟨h, h'⟩ | ⟨h, h'⟩ | ⟨h, h'⟩ | h
  · have d0 : digitOf x = -1 := by simp [digitOf, good]; omega
    have a1 : ¬ 48 ≤ x := by omega
    have a2 : ¬ 97 ≤ x := by omega
    go_enter Try.func75, Try.ntmps75
    go_wp2
    go_ret
    exact ⟨by first | rfl | (rw [d0]; rfl), rfl⟩
  · have d0 : digitOf x = (x : Int) - 48 := by
      have hg : good x = true := by simp [good]; omega
      rw [digitOf, if_pos hg, val, if_pos h']
      omega
    go_enter Try.func75, Try.ntmps75
    go_wp2
    go_ret
    exact ⟨by first | rfl | (rw [d0]; rfl), rfl⟩
  · have d0 : digitOf x = -1 := by simp [digitOf, good]; omega
    have a1 : ¬ x ≤ 57 := by omega
    have a2 : ¬ 97 ≤ x := by omega
    go_enter Try.func75, Try.ntmps75
    go_wp2
    go_ret
    exact ⟨by first | rfl | (rw [d0]; rfl), rfl⟩
  · have d0 : digitOf x = (x : Int) - 87 := by
      have hg : good x = true := by simp [good]; omega
      rw [digitOf, if_pos hg, val, if_neg (by omega)]
      omega
    have a1 : ¬ x ≤ 57 := by omega
    go_enter Try.func75, Try.ntmps75
    go_wp2
    go_ret
    exact ⟨by rw [d0]; simp; omega, rfl⟩
  · have d0 : digitOf x = -1 := by simp [digitOf, good]; omega
    have a1 : ¬ x ≤ 57 := by omega
    have a2 : ¬ x ≤ 102 := by omega
    go_enter Try.func75, Try.ntmps75
    go_wp2
    go_ret
    exact ⟨by first | rfl | (rw [d0]; rfl), rfl⟩
end Go.Proofs.Ytgpnnnjhcjjnmaa
