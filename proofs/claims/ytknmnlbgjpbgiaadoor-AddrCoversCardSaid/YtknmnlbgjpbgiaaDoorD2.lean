/-
  Masks and sizes of prefixes, over whole numbers.
-/
import Derived.WalkKit
import Derived.OpenShut
namespace Go.Proofs.YtknmnlbgjpbgiaaDoor
open Go.RowKit

/-- How many addresses a prefix of length n has. -/
def sz (n : Nat) : Nat := 2 ^ (32 - n)

theorem sz_pos (n : Nat) : 0 < sz n := Nat.two_pow_pos _
theorem sz_le (n : Nat) : sz n ≤ 4294967296 := by
  have : (2 : Nat) ^ (32 - n) ≤ 2 ^ 32 := Nat.pow_le_pow_right (by omega) (by omega)
  exact this
theorem sz_dvd (n : Nat) : sz n ∣ 4294967296 := by
  have : (2 : Nat) ^ (32 - n) ∣ 2 ^ 32 := Nat.pow_dvd_pow 2 (by omega)
  exact this
theorem sz_mul (m n : Nat) (h : m ≤ n) (hn : n ≤ 32) : sz m = sz n * 2 ^ (n - m) := by
  unfold sz
  rw [← Nat.pow_add]
  congr 1
  omega
theorem sz_dvd' (m n : Nat) (h : m ≤ n) (hn : n ≤ 32) : sz n ∣ sz m := ⟨_, sz_mul m n h hn⟩

theorem toNat_u32 (a : Nat) (h : a < 4294967296) : (BitVec.ofInt 32 (a : Int)).toNat = a := by
  rw [BitVec.toNat_ofInt]
  omega
theorem wrap_u32_nat (x : Nat) (h : x < 4294967296) : IntKind.u32.wrap (x : Int) = x := by
  rw [IntKind.wrap_u32]
  omega

theorem mask_shl (k : Nat) (h : k ≤ 32) : (4294967295 * 2 ^ k) % 4294967296 = 4294967296 - 2 ^ k := by
  have h1 : (2 : Nat) ^ k ≤ 2 ^ 32 := Nat.pow_le_pow_right (by omega) h
  have h0 : 0 < 2 ^ k := Nat.two_pow_pos k
  have h2 : (2 : Nat) ^ 32 = 4294967296 := rfl
  rw [h2] at h1
  generalize 2 ^ k = y at *
  omega

theorem and_mask (a k : Nat) (ha : a < 4294967296) (hk : k ≤ 32) : a &&& (4294967296 - 2 ^ k) = 2 ^ k * (a / 2 ^ k) := by
  have e : 4294967296 - 2 ^ k = 2 ^ k * (2 ^ (32 - k) - 1) := by
    rw [Nat.mul_sub, ← Nat.pow_add, show k + (32 - k) = 32 by omega]
    simp
  rw [e]
  apply Nat.eq_of_testBit_eq
  intro i
  rw [Nat.testBit_and, Nat.testBit_two_pow_mul, Nat.testBit_two_pow_mul, Nat.testBit_two_pow_sub_one, Nat.testBit_div_two_pow]
  by_cases h1 : k ≤ i
  · rw [show i - k + k = i by omega]
    by_cases h2 : i - k < 32 - k
    · simp [h1, h2]
    · have : a.testBit i = false := Nat.testBit_lt_two_pow (Nat.lt_of_lt_of_le (show a < 2 ^ 32 from ha) (Nat.pow_le_pow_right (by omega) (by omega)))
      simp [h1, h2, this]
  · simp [h1]

theorem bits_and (a n : Nat) (ha : a < 4294967296) : bits .and .u32 (a : Int) ((4294967296 - sz n : Nat) : Int) = ((a - a % sz n : Nat) : Int) := by
  have e : bits .and .u32 (a : Int) ((4294967296 - sz n : Nat) : Int) = IntKind.u32.wrap ((BitVec.ofInt 32 (a : Int) &&& BitVec.ofInt 32 ((4294967296 - sz n : Nat) : Int)).toNat : Int) := rfl
  have hp := sz_pos n
  rw [e, BitVec.toNat_and, toNat_u32 a ha, toNat_u32 _ (by omega)]
  unfold sz
  rw [and_mask a (32 - n) ha (by omega)]
  have h1 := Nat.div_add_mod a (2 ^ (32 - n))
  rw [wrap_u32_nat _ (by omega)]
  congr 1
  omega

theorem bits_andNot (a n : Nat) (ha : a < 4294967296) : bits .andNot .u32 (a : Int) ((4294967296 - sz n : Nat) : Int) = ((a % sz n : Nat) : Int) := by
  have e : bits .andNot .u32 (a : Int) ((4294967296 - sz n : Nat) : Int) = IntKind.u32.wrap ((BitVec.ofInt 32 (a : Int) &&& ~~~ BitVec.ofInt 32 ((4294967296 - sz n : Nat) : Int)).toNat : Int) := rfl
  have hp := sz_pos n
  have hl := sz_le n
  rw [e, BitVec.toNat_and, BitVec.toNat_not, toNat_u32 a ha, toNat_u32 _ (by omega)]
  have e2 : 2 ^ 32 - 1 - (4294967296 - sz n) = 2 ^ (32 - n) - 1 := by
    show 4294967296 - 1 - (4294967296 - sz n) = sz n - 1
    omega
  rw [e2, Nat.and_two_pow_sub_one_eq_mod]
  show IntKind.u32.wrap ((a % sz n : Nat) : Int) = _
  have := Nat.mod_lt a hp
  rw [wrap_u32_nat _ (by omega)]

theorem bits_not (n : Nat) : bits .xor .u32 IntKind.u32.max ((4294967296 - sz n : Nat) : Int) = ((sz n - 1 : Nat) : Int) := by
  have e : bits .xor .u32 IntKind.u32.max ((4294967296 - sz n : Nat) : Int) = IntKind.u32.wrap ((BitVec.ofInt 32 IntKind.u32.max ^^^ BitVec.ofInt 32 ((4294967296 - sz n : Nat) : Int)).toNat : Int) := rfl
  have hp := sz_pos n
  have hl := sz_le n
  have e1 : BitVec.ofInt 32 IntKind.u32.max = BitVec.allOnes 32 := by decide
  rw [e, e1, BitVec.allOnes_xor, BitVec.toNat_not, toNat_u32 _ (by omega)]
  have e2 : 2 ^ 32 - 1 - (4294967296 - sz n) = sz n - 1 := by
    show 4294967296 - 1 - (4294967296 - sz n) = sz n - 1
    omega
  rw [e2, wrap_u32_nat _ (by omega)]

theorem bits_or (a n : Nat) (ha : a < 4294967296) (h0 : a % sz n = 0) : bits .or .u32 (a : Int) ((sz n - 1 : Nat) : Int) = ((a + sz n - 1 : Nat) : Int) := by
  have e : bits .or .u32 (a : Int) ((sz n - 1 : Nat) : Int) = IntKind.u32.wrap ((BitVec.ofInt 32 (a : Int) ||| BitVec.ofInt 32 ((sz n - 1 : Nat) : Int)).toNat : Int) := rfl
  have hp := sz_pos n
  have hl := sz_le n
  obtain ⟨c, hc⟩ := sz_dvd n
  have hd := Nat.div_add_mod a (sz n)
  rw [e, BitVec.toNat_or, toNat_u32 a ha, toNat_u32 _ (by omega)]
  have ho : a ||| (sz n - 1) = a + (sz n - 1) := by
    have h1 := Nat.two_pow_add_eq_or_of_lt (i := 32 - n) (b := sz n - 1) (by show sz n - 1 < sz n; omega) (a / sz n)
    have h2 : 2 ^ (32 - n) * (a / sz n) = a := by
      show sz n * (a / sz n) = a
      omega
    rw [h2] at h1
    exact h1.symm
  have hlt : a + sz n ≤ 4294967296 := by
    have h3 : sz n * (a / sz n) < sz n * c := by omega
    have h4 : a / sz n < c := Nat.lt_of_mul_lt_mul_left h3
    have h5 : sz n * (a / sz n + 1) ≤ sz n * c := Nat.mul_le_mul_left _ h4
    rw [Nat.mul_add] at h5
    omega
  rw [ho, wrap_u32_nat _ (by omega)]
  congr 1
  omega

/-- A right prefix has its size to the end. -/
theorem right_room (a n : Nat) (ha : a < 4294967296) (h0 : a % sz n = 0) : a + sz n ≤ 4294967296 := by
  have hp := sz_pos n
  obtain ⟨c, hc⟩ := sz_dvd n
  have hd := Nat.div_add_mod a (sz n)
  have h3 : sz n * (a / sz n) < sz n * c := by omega
  have h4 : a / sz n < c := Nat.lt_of_mul_lt_mul_left h3
  have h5 : sz n * (a / sz n + 1) ≤ sz n * c := Nat.mul_le_mul_left _ h4
  rw [Nat.mul_add] at h5
  omega
end Go.Proofs.YtknmnlbgjpbgiaaDoor
