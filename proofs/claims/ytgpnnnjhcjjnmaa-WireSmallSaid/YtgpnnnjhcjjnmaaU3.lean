/-
  Unhex.
-/
import Derived.Test.YtgpnnnjhcjjnmaaU2
namespace Go.Proofs.Ytgpnnnjhcjjnmaa
open Go.RowKit

theorem Parsed.form {w w' : World} {l : List UInt8} {e : Ending} (h : Parsed w l e w') : ∃ (v : Value) (n : Int), e = .returned (.tuple #[v, .int .i64 n]) := by
  unfold Parsed at h
  split at h
  · obtain ⟨v, rfl, _⟩ := h
    exact ⟨v, 0, rfl⟩
  · obtain ⟨rfl, _⟩ := h
    exact ⟨_, 10, rfl⟩

set_option maxRecDepth 100000 in
set_option maxHeartbeats 400000 in
theorem unhex_any (s : ByteArray) (w : World) (hs : s.size ≤ 262144) : Calls Try.prog 39 #[.string s] w (Parsed w s.data.toList) := by
  have HP := Lib.hid (parse_any s w hs)
  go_enter Try.func39, Try.ntmps39
  go_wp2_with fail
  refine HP.out.mono ?_
  intro e w1 he
  obtain ⟨v, n, rfl⟩ := he.form
  have HE := Lib.hid he
  clear he
  go_wp2
  go_ret2
  exact HE.out

theorem unhex_long (s : ByteArray) (w : World) (hs : 262144 < s.size) : Calls Try.prog 39 #[.string s] w fun e w' => e = .returned (.tuple #[.slice none 0 0, .int .i64 3]) ∧ w = w' := by
  go_enter Try.func39, Try.ntmps39
  go_wp2
  go_ret2
  exact ⟨rfl, rfl⟩
end Go.Proofs.Ytgpnnnjhcjjnmaa
