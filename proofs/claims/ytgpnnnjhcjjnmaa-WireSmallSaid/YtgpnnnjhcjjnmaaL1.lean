/-
  Lent bytes: the marks.
-/
import Derived.Test.YtgpnnnjhcjjnmaaK1
namespace Go.Proofs.Ytgpnnnjhcjjnmaa
open Go.RowKit

/-- The mark that stands at i behind what was lent. -/
def markN (i : Nat) : Nat := ((8000024 + i) * 11400714819323198485 % 18446744073709551616) / 72057594037927936
def markB (i : Nat) : UInt8 := UInt8.ofNat (markN i)
def marks (n : Nat) : List UInt8 := (List.range n).map markB

set_option maxRecDepth 100000 in
set_option maxHeartbeats 1000000 in
theorem mark_one (w : World) (i : Nat) (hi : i < 12) : Calls Try.prog 83 #[.int .i64 1, .int .i64 (i : Int)] w fun e w' => e = .returned (.int .i64 ((8000024 + i : Nat) : Int)) ∧ w = w' := by
  have hw : IntKind.i64.wrap (8000024 + (i : Int)) = 8000024 + i := by rw [IntWalk.i64_in]; omega
  go_enter Try.func83, Try.ntmps83
  go_wp2
  go_ret
  exact ⟨by simp, rfl⟩

set_option maxRecDepth 100000 in
set_option maxHeartbeats 1000000 in
theorem mark_byte (w : World) (i : Nat) (hi : i < 12) : Calls Try.prog 72 #[.int .i64 1, .int .i64 (i : Int)] w fun e w' => e = .returned (.int .u8 ((markB i).toNat : Int)) ∧ w = w' := by
  have hM := mark_one w i hi
  have h : i = 0 ∨ i = 1 ∨ i = 2 ∨ i = 3 ∨ i = 4 ∨ i = 5 ∨ i = 6 ∨ i = 7 ∨ i = 8 ∨ i = 9 ∨ i = 10 ∨ i = 11 := by omega
  rcases h with rfl | rfl | rfl | rfl | rfl | rfl | rfl | rfl | rfl | rfl | rfl | rfl
  all_goals
    go_enter Try.func72, Try.ntmps72
    go_wp2_with fail
    refine hM.mono ?_
    rintro e w' ⟨rfl, rfl⟩
    go_wp2
    go_ret
    exact ⟨by kernel_rfl, rfl⟩
end Go.Proofs.Ytgpnnnjhcjjnmaa
