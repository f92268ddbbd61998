/-
  The kit's marks, for every list and every place.
-/
import Derived.Test.YtgpnnnjhcjjnmaaBase
import Derived.Test.YtgpnnnjhcjjnmaaRows
namespace Go.Proofs.Ytgpnnnjhcjjnmaa
open Go.RowKit

def markI (k i : Nat) : Nat := 1000003 * (k + 7) + i
def markQ (k i : Nat) : Nat := markI k i * 11400714819323198485 % 18446744073709551616
def markK (k i : Nat) : UInt8 := UInt8.ofNat (markQ k i / 72057594037927936)

set_option maxRecDepth 100000 in
set_option maxHeartbeats 1000000 in
theorem mark_any (w : World) (k i : Nat) (hk : k < 1000) (hi : i ≤ 140737488355328) : Calls Try.prog 83 #[.int .i64 (k : Int), .int .i64 (i : Int)] w fun e w' => e = .returned (.int .i64 (markI k i : Int)) ∧ w = w' := by
  have h1 : IntKind.i64.wrap ((k : Int) + 7) = k + 7 := by rw [IntWalk.i64_in] <;> omega
  have h2 : IntKind.i64.wrap (1000003 * ((k : Int) + 7)) = 1000003 * (k + 7) := by rw [IntWalk.i64_in] <;> omega
  have h3 : IntKind.i64.wrap (1000003 * ((k : Int) + 7) + i) = 1000003 * (k + 7) + i := by rw [IntWalk.i64_in] <;> omega
  have hr : (markI k i : Int) = 1000003 * ((k : Int) + 7) + i := by unfold markI; simp
  rw [hr]
  go_enter Try.func83, Try.ntmps83
  go_wp2
  go_ret
  exact ⟨rfl, rfl⟩

set_option maxRecDepth 100000 in
set_option maxHeartbeats 1000000 in
theorem markByte_any (w : World) (k i : Nat) (hk : k < 1000) (hi : i ≤ 140737488355328) : Calls Try.prog 72 #[.int .i64 (k : Int), .int .i64 (i : Int)] w fun e w' => e = .returned (.int .u8 ((markK k i).toNat : Int)) ∧ w = w' := by
  have HM := Lib.hid (mark_any w k i hk hi)
  have hb : markI k i ≤ 140737488355328 + 1000003 * 1007 := by unfold markI; omega
  obtain ⟨m, hm⟩ : ∃ m, markI k i = m := ⟨_, rfl⟩
  rw [hm] at HM hb
  obtain ⟨q, hq⟩ : ∃ q, markQ k i = q := ⟨_, rfl⟩
  have hql : q < 18446744073709551616 := by rw [← hq]; unfold markQ; exact Nat.mod_lt _ (by omega)
  have e1 : IntKind.u64.wrap (m : Int) = m := by
    have e : IntKind.u64.wrap (m : Int) = (m : Int) % 18446744073709551616 := rfl
    rw [e]
    omega
  have e2 : IntKind.u64.wrap ((m : Int) * 11400714819323198485) = q := by
    have e : IntKind.u64.wrap ((m : Int) * 11400714819323198485) = ((m : Int) * 11400714819323198485) % 18446744073709551616 := rfl
    rw [e, ← hq]
    unfold markQ
    rw [hm]
    omega
  obtain ⟨r, hr, hr2⟩ : ∃ r : Nat, (q : Int) / 72057594037927936 = r ∧ r = q / 72057594037927936 := ⟨q / 72057594037927936, by omega, rfl⟩
  have hrl : r < 256 := by omega
  have e3 : IntKind.u8.wrap (r : Int) = r := by
    have e : IntKind.u8.wrap (r : Int) = (r : Int) % 256 := rfl
    rw [e]
    omega
  have hres : ((markK k i).toNat : Int) = r := by
    unfold markK
    rw [hq, ← hr2, UInt8.toNat_ofNat']
    omega
  rw [hres]
  clear hm hq hres hr2
  go_enter Try.func72, Try.ntmps72
  go_wp2_with fail
  refine HM.out.mono ?_
  rintro e w' ⟨rfl, rfl⟩
  go_wp2
  go_ret
  exact ⟨rfl, rfl⟩
end Go.Proofs.Ytgpnnnjhcjjnmaa
