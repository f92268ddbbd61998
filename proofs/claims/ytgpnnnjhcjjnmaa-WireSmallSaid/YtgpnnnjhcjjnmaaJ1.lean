/-
  Numbers put together from bytes.
-/
import Derived.Test.YtgpnnnjhcjjnmaaBase
import Derived.Test.YtgpnnnjhcjjnmaaRows
namespace Go.Proofs.Ytgpnnnjhcjjnmaa
open Go.RowKit

/-- The number of bytes, the most significant one first. -/
def be (bs : List UInt8) : Nat := bs.foldl (fun a b => a * 256 + b.toNat) 0

theorem be_snoc (bs : List UInt8) (b : UInt8) : be (bs ++ [b]) = be bs * 256 + b.toNat := by simp [be]
theorem be_lt (n : Nat) : ∀ bs : List UInt8, bs.length = n → be bs < 256 ^ n := by
  induction n with
  | zero =>
    intro bs h
    have : bs = [] := List.eq_nil_of_length_eq_zero h
    subst this
    simp [be]
  | succ n ih =>
    intro bs h
    rw [← List.dropLast_concat_getLast (l := bs) (by intro h0; subst h0; simp at h), be_snoc, Nat.pow_succ]
    have h1 := ih bs.dropLast (by simp; omega)
    have := (bs.getLast (by intro h0; subst h0; simp at h)).toNat_lt
    omega
theorem take_succ (bs : List UInt8) (k : Nat) (h : k < bs.length) : bs.take (k + 1) = bs.take k ++ [bs[k]] := List.take_succ_eq_append_getElem h

theorem be_take_lt (bs : List UInt8) (j : Nat) (hj : j < bs.length) (h4 : bs.length ≤ 4) : be (bs.take j) < 16777216 := by
  have h := be_lt j (bs.take j) (by simp; omega)
  have : 256 ^ j ≤ 256 ^ 3 := Nat.pow_le_pow_right (by omega) (by omega)
  omega
theorem or_step (bs : List UInt8) (j : Nat) (hj : j < bs.length) (h4 : bs.length ≤ 4) :
    bits BinOp.or IntKind.u32 ((be (bs.take j) : Int) * 256 % 4294967296) ((bs[j].toNat : Int) % 4294967296) = (be (bs.take (j + 1)) : Int) := by
  have h1 := be_take_lt bs j hj h4
  have h2 := bs[j].toNat_lt
  rw [take_succ bs j hj, be_snoc]
  have e1 : (be (bs.take j) : Int) * 256 % 4294967296 = ((be (bs.take j) * 256 : Nat) : Int) := by omega
  have e2 : (bs[j].toNat : Int) % 4294967296 = (bs[j].toNat : Int) := by omega
  rw [e1, e2, u32_or_nat _ _ (by omega) (by omega)]
  have h3 := Nat.two_pow_add_eq_or_of_lt (i := 8) (b := bs[j].toNat) (by omega) (be (bs.take j))
  rw [Nat.mul_comm (2 ^ 8)] at h3
  rw [← h3]
theorem ret_num {k : IntKind} {a b : Int} (h : a = b) : Ending.returned (.int k a) = .returned (.int k b) := by rw [h]
theorem val_num {k : IntKind} {a b : Int} (h : a = b) : Value.int k a = .int k b := by rw [h]

set_option maxRecDepth 100000 in
set_option maxHeartbeats 400000 in
theorem join32 (w : World) (A : Option Addr) (c : Nat) (bs : List UInt8) (h : Rds w A bs) (h4 : bs.length ≤ 4) :
    Calls Try.prog 69 #[.slice A bs.length c] w fun e w' => e = .returned (.int .u32 (be bs : Int)) ∧ w = w' := by
  go_enter Try.func69, Try.ntmps69
  go_wp2
  go_loop [3, 8] (fun s i => ∃ j : Nat, j ≤ bs.length ∧ i = .int .i64 j ∧ s = .int .u32 (be (bs.take j) : Int)) (fun _ i => bs.length - (intOf i).toNat)
  case atStart => exact ⟨0, Nat.zero_le _, rfl, rfl⟩
  case round =>
    obtain ⟨j, hj, rfl, rfl⟩ := hrel
    by_cases hlt : j < bs.length
    · obtain ⟨ad, rfl, hc⟩ := h.at_ hlt
      go_wp2
      go_round
      case rel => exact ⟨j + 1, by omega, by go_num, val_num (or_step bs j hlt (by omega))⟩
      case measure => simp [intOf]; omega
    · go_wp2
      go_ret
      exact ⟨ret_num (by rw [List.take_of_length_le (by omega)]), rfl⟩

set_option maxRecDepth 100000 in
set_option maxHeartbeats 400000 in
theorem join16 (w : World) (A : Option Addr) (c : Nat) (bs : List UInt8) (h : Rds w A bs) (h4 : bs.length ≤ 2) :
    Calls Try.prog 68 #[.slice A bs.length c] w fun e w' => e = .returned (.int .u16 (be bs : Int)) ∧ w = w' := by
  have hlt0 := be_lt bs.length bs rfl
  have hpow : 256 ^ bs.length ≤ 256 ^ 2 := Nat.pow_le_pow_right (by omega) h4
  have HM := Lib.hid (show (be bs : Int) % 65536 = (be bs : Int) from by omega)
  clear hlt0 hpow
  go_enter Try.func68, Try.ntmps68
  go_wp2
  go_loop [3, 8] (fun s i => ∃ j : Nat, j ≤ bs.length ∧ i = .int .i64 j ∧ s = .int .u32 (be (bs.take j) : Int)) (fun _ i => bs.length - (intOf i).toNat)
  case atStart => exact ⟨0, Nat.zero_le _, rfl, rfl⟩
  case round =>
    obtain ⟨j, hj, rfl, rfl⟩ := hrel
    by_cases hlt : j < bs.length
    · obtain ⟨ad, rfl, hc⟩ := h.at_ hlt
      go_wp2
      go_round
      case rel => exact ⟨j + 1, by omega, by go_num, val_num (or_step bs j hlt (by omega))⟩
      case measure => simp [intOf]; omega
    · go_wp2
      go_ret
      exact ⟨ret_num (by rw [List.take_of_length_le (by omega)]; exact HM.out), rfl⟩

set_option maxRecDepth 100000 in
set_option maxHeartbeats 400000 in
theorem join8 (w : World) (A : Option Addr) (c : Nat) (bs : List UInt8) (h : Rds w A bs) (h4 : bs.length ≤ 1) :
    Calls Try.prog 67 #[.slice A bs.length c] w fun e w' => e = .returned (.int .u8 (be bs : Int)) ∧ w = w' := by
  have hlt0 := be_lt bs.length bs rfl
  have hpow : 256 ^ bs.length ≤ 256 ^ 1 := Nat.pow_le_pow_right (by omega) h4
  have HM := Lib.hid (show (be bs : Int) % 256 = (be bs : Int) from by omega)
  clear hlt0 hpow
  go_enter Try.func67, Try.ntmps67
  go_wp2
  go_loop [3, 8] (fun s i => ∃ j : Nat, j ≤ bs.length ∧ i = .int .i64 j ∧ s = .int .u32 (be (bs.take j) : Int)) (fun _ i => bs.length - (intOf i).toNat)
  case atStart => exact ⟨0, Nat.zero_le _, rfl, rfl⟩
  case round =>
    obtain ⟨j, hj, rfl, rfl⟩ := hrel
    by_cases hlt : j < bs.length
    · obtain ⟨ad, rfl, hc⟩ := h.at_ hlt
      go_wp2
      go_round
      case rel => exact ⟨j + 1, by omega, by go_num, val_num (or_step bs j hlt (by omega))⟩
      case measure => simp [intOf]; omega
    · go_wp2
      go_ret
      exact ⟨ret_num (by rw [List.take_of_length_le (by omega)]; exact HM.out), rfl⟩
end Go.Proofs.Ytgpnnnjhcjjnmaa
