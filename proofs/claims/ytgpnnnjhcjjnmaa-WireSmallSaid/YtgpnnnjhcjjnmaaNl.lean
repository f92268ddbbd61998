/-
  A reader or a writer that is none: nil, an empty one, a copy.
-/
import Derived.Test.YtgpnnnjhcjjnmaaR2
import Derived.Test.YtgpnnnjhcjjnmaaW5
namespace Go.Proofs.Ytgpnnnjhcjjnmaa
open Go.RowKit

/-- The reader's test of itself fails. -/
def FakeR (P : Option Addr) (w : World) : Prop := Calls Try.prog 70 #[.pointer P] w fun e w' => e = .returned (.bool false) ∧ w = w'
def FakeW (P : Option Addr) (w : World) : Prop := Calls Try.prog 66 #[.pointer P] w fun e w' => e = .returned (.bool false) ∧ w = w'

set_option maxRecDepth 100000 in
set_option maxHeartbeats 400000 in
theorem fakeR_nil (w : World) : FakeR none w := by
  unfold FakeR
  go_enter Try.func70, Try.ntmps70
  go_wp2
  go_ret
  exact ⟨rfl, rfl⟩
set_option maxRecDepth 100000 in
set_option maxHeartbeats 400000 in
theorem fakeW_nil (w : World) : FakeW none w := by
  unfold FakeW
  go_enter Try.func66, Try.ntmps66
  go_wp2
  go_ret
  exact ⟨rfl, rfl⟩

section
variable {P : Option Addr} {w : World}
set_option maxRecDepth 100000 in
set_option maxHeartbeats 400000 in
theorem fake_take (h : FakeR P w) (n : Int) : Calls Try.prog 65 #[.pointer P, .int .i64 n] w fun e w' => e = .returned (.slice none 0 0) ∧ w = w' := by
  have H := Lib.hid h
  clear h
  go_enter Try.func65, Try.ntmps65
  go_wp2_with (go_at_call 70; refine (H.out).mono ?_; rintro e w' ⟨rfl, rfl⟩)
  go_ret
  exact ⟨rfl, rfl⟩
set_option maxRecDepth 100000 in
set_option maxHeartbeats 400000 in
theorem fake_skip (h : FakeR P w) (n : Int) : Calls Try.prog 25 #[.pointer P, .int .i64 n] w fun e w' => e = .returned (.tuple #[]) ∧ w = w' := by
  have H := Lib.hid h
  clear h
  go_enter Try.func25, Try.ntmps25
  go_wp2_with (go_at_call 65; refine (fake_take H.out n).mono ?_; rintro e w' ⟨rfl, rfl⟩)
  go_end0
  exact ⟨rfl, rfl⟩
set_option maxRecDepth 100000 in
set_option maxHeartbeats 400000 in
theorem fake_u8 (h : FakeR P w) : Calls Try.prog 27 #[.pointer P] w fun e w' => e = .returned (.int .u8 0) ∧ w = w' := by
  have H := Lib.hid h
  clear h
  go_enter Try.func27, Try.ntmps27
  go_wp2_with (first | (go_at_call 65; refine (fake_take H.out 1).mono ?_; rintro e w' ⟨rfl, rfl⟩) | (refine (join8 _ none 0 [] (Rds.nil _ _) (by decide)).mono ?_; rintro e w' ⟨rfl, rfl⟩))
  go_ret
  exact ⟨rfl, rfl⟩
set_option maxRecDepth 100000 in
set_option maxHeartbeats 400000 in
theorem fake_at (h : FakeR P w) : Calls Try.prog 32 #[.pointer P] w fun e w' => e = .returned (.int .i64 0) ∧ w = w' := by
  have H := Lib.hid h
  clear h
  go_enter Try.func32, Try.ntmps32
  go_wp2_with (go_at_call 70; refine (H.out).mono ?_; rintro e w' ⟨rfl, rfl⟩)
  go_ret
  exact ⟨rfl, rfl⟩
set_option maxRecDepth 100000 in
set_option maxHeartbeats 400000 in
theorem fake_left (h : FakeR P w) : Calls Try.prog 31 #[.pointer P] w fun e w' => e = .returned (.int .i64 0) ∧ w = w' := by
  have H := Lib.hid h
  clear h
  go_enter Try.func31, Try.ntmps31
  go_wp2_with (go_at_call 70; refine (H.out).mono ?_; rintro e w' ⟨rfl, rfl⟩)
  go_ret
  exact ⟨rfl, rfl⟩
set_option maxRecDepth 100000 in
set_option maxHeartbeats 400000 in
theorem fake_failed (h : FakeR P w) : Calls Try.prog 33 #[.pointer P] w fun e w' => e = .returned (.bool true) ∧ w = w' := by
  have H := Lib.hid h
  clear h
  go_enter Try.func33, Try.ntmps33
  go_wp2_with (go_at_call 70; refine (H.out).mono ?_; rintro e w' ⟨rfl, rfl⟩)
  go_ret
  exact ⟨rfl, rfl⟩
set_option maxRecDepth 100000 in
set_option maxHeartbeats 400000 in
theorem fake_len (h : FakeW P w) : Calls Try.prog 34 #[.pointer P] w fun e w' => e = .returned (.int .i64 0) ∧ w = w' := by
  have H := Lib.hid h
  clear h
  go_enter Try.func34, Try.ntmps34
  go_wp2_with (go_at_call 66; refine (H.out).mono ?_; rintro e w' ⟨rfl, rfl⟩)
  go_ret
  exact ⟨rfl, rfl⟩
set_option maxRecDepth 100000 in
set_option maxHeartbeats 400000 in
theorem fake_wfailed (h : FakeW P w) : Calls Try.prog 35 #[.pointer P] w fun e w' => e = .returned (.bool true) ∧ w = w' := by
  have H := Lib.hid h
  clear h
  go_enter Try.func35, Try.ntmps35
  go_wp2_with (go_at_call 66; refine (H.out).mono ?_; rintro e w' ⟨rfl, rfl⟩)
  go_ret
  exact ⟨rfl, rfl⟩
set_option maxRecDepth 100000 in
set_option maxHeartbeats 400000 in
theorem fake_u16 (h : FakeR P w) : Calls Try.prog 28 #[.pointer P] w fun e w' => e = .returned (.int .u16 0) ∧ w = w' := by
  have H := Lib.hid h
  clear h
  go_enter Try.func28, Try.ntmps28
  go_wp2_with (first | (go_at_call 65; refine (fake_take H.out 2).mono ?_; rintro e w' ⟨rfl, rfl⟩) | (refine (join16 _ none 0 [] (Rds.nil _ _) (by decide)).mono ?_; rintro e w' ⟨rfl, rfl⟩))
  go_ret
  exact ⟨rfl, rfl⟩
set_option maxRecDepth 100000 in
set_option maxHeartbeats 400000 in
theorem fake_u32 (h : FakeR P w) : Calls Try.prog 29 #[.pointer P] w fun e w' => e = .returned (.int .u32 0) ∧ w = w' := by
  have H := Lib.hid h
  clear h
  go_enter Try.func29, Try.ntmps29
  go_wp2_with (first | (go_at_call 65; refine (fake_take H.out 4).mono ?_; rintro e w' ⟨rfl, rfl⟩) | (refine (join32 _ none 0 [] (Rds.nil _ _) (by decide)).mono ?_; rintro e w' ⟨rfl, rfl⟩))
  go_ret
  exact ⟨rfl, rfl⟩
set_option maxRecDepth 100000 in
set_option maxHeartbeats 400000 in
theorem fake_room (h : FakeW P w) (n : Int) : Calls Try.prog 64 #[.pointer P, .int .i64 n] w fun e w' => e = .returned (.bool false) ∧ w = w' := by
  have H := Lib.hid h
  clear h
  go_enter Try.func64, Try.ntmps64
  go_wp2_with (go_at_call 35; refine (fake_wfailed H.out).mono ?_; rintro e w' ⟨rfl, rfl⟩)
  go_ret
  exact ⟨rfl, rfl⟩
set_option maxRecDepth 100000 in
set_option maxHeartbeats 400000 in
theorem fake_put (h : FakeW P w) (A : Option Addr) (n c : Nat) : Calls Try.prog 60 #[.pointer P, .slice A n c] w fun e w' => e = .returned (.tuple #[]) ∧ w = w' := by
  have H := Lib.hid h
  clear h
  go_enter Try.func60, Try.ntmps60
  go_wp2_with (go_at_call 64; refine (fake_room H.out _).mono ?_; rintro e w' ⟨rfl, rfl⟩)
  go_end0
  exact ⟨rfl, rfl⟩
set_option maxRecDepth 100000 in
set_option maxHeartbeats 400000 in
theorem fake_bytes (h : FakeW P w) (A : Option Addr) (n c : Nat) : Calls Try.prog 22 #[.pointer P, .slice A n c] w fun e w' => e = .returned (.tuple #[]) ∧ w = w' := by
  have H := Lib.hid h
  clear h
  go_enter Try.func22, Try.ntmps22
  go_wp2_with (go_at_call 60; refine (fake_put H.out _ _ _).mono ?_; rintro e w' ⟨rfl, rfl⟩)
  go_end0
  exact ⟨rfl, rfl⟩
set_option maxRecDepth 100000 in
set_option maxHeartbeats 400000 in
theorem fake_zeros (h : FakeW P w) (n : Int) : Calls Try.prog 23 #[.pointer P, .int .i64 n] w fun e w' => e = .returned (.tuple #[]) ∧ w = w' := by
  have H := Lib.hid h
  clear h
  go_enter Try.func23, Try.ntmps23
  go_wp2_with (go_at_call 64; refine (fake_room H.out _).mono ?_; rintro e w' ⟨rfl, rfl⟩)
  go_end0
  exact ⟨rfl, rfl⟩
end
end Go.Proofs.Ytgpnnnjhcjjnmaa
