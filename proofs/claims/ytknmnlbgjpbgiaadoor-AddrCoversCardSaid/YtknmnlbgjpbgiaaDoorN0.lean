/-
  Of two right prefixes one is inside the other one, or no address is in both: whole numbers.
-/
import Derived.Test.YtknmnlbgjpbgiaaDoorV2
namespace Go.Proofs.YtknmnlbgjpbgiaaDoor
open Go.RowKit

theorem cut_le (x n : Nat) : cutN x n ≤ x := Nat.sub_le ..
theorem cut_mod (x n : Nat) : cutN x n % sz n = 0 := by
  unfold cutN
  have h := Nat.div_add_mod x (sz n)
  rw [show x - x % sz n = sz n * (x / sz n) by omega]
  exact Nat.mul_mod_right ..
theorem right_cut (x n : Nat) (hn : n ≤ 32) : rightB (cutN x n) n = true := by
  unfold rightB
  exact decide_eq_true ⟨hn, cut_mod x n⟩
theorem cut_of_mod {x n : Nat} (h : x % sz n = 0) : cutN x n = x := by unfold cutN; omega
theorem cut_cut (x m n : Nat) (h : n ≤ m) (hm : m ≤ 32) : cutN (cutN x m) n = cutN x n := by
  have hd := sz_dvd' n m h hm
  obtain ⟨k, hk⟩ := hd
  have hs := sz_pos m
  unfold cutN
  rw [hk]
  have h1 : (x - x % sz m) % (sz m * k) = x % (sz m * k) - x % sz m := by
    have hx := Nat.div_add_mod x (sz m)
    rw [show x - x % sz m = sz m * (x / sz m) by omega]
    rw [Nat.mul_mod_mul_left]
    have h2 : x % (sz m * k) = sz m * (x / sz m % k) + x % sz m := by
      rw [Nat.mod_mul]
      omega
    omega
  rw [h1]
  have h3 : x % sz m ≤ x % (sz m * k) := by
    rw [Nat.mod_mul]
    omega
  have h4 : x % (sz m * k) ≤ x := Nat.mod_le ..
  omega

theorem has_cut (x n : Nat) (hn : n ≤ 32) (y : Nat) : hasB (cutN x n) n y = decide (cutN y n = cutN x n) := by
  unfold hasB
  rw [right_cut x n hn, Bool.true_and]
theorem inside_cut (a m b n : Nat) (hm : m ≤ 32) (hn : n ≤ 32) : insideB (cutN a m) m (cutN b n) n = (decide (n ≤ m) && decide (cutN (cutN a m) n = cutN b n)) := by
  unfold insideB
  rw [right_cut a m hm, has_cut b n hn, Bool.true_and]
theorem inside_self (a m : Nat) (hm : m ≤ 32) : insideB (cutN a m) m (cutN a m) m = true := by
  rw [inside_cut a m a m hm hm, cut_cut a m m (Nat.le_refl _) hm]
  simp
theorem meet_self (a m : Nat) (hm : m ≤ 32) : meetB (cutN a m) m (cutN a m) m = true := by
  unfold meetB
  rw [inside_self a m hm]
  rfl
theorem both_same {a m b n : Nat} (hm : m ≤ 32) (hn : n ≤ 32) (h1 : insideB (cutN a m) m (cutN b n) n = true) (h2 : insideB (cutN b n) n (cutN a m) m = true) : cutN a m = cutN b n ∧ m = n := by
  rw [inside_cut a m b n hm hn] at h1
  rw [inside_cut b n a m hn hm] at h2
  simp only [Bool.and_eq_true, decide_eq_true_eq] at h1 h2
  have e : m = n := by omega
  subst e
  rw [cut_cut a m m (Nat.le_refl _) hm] at h1
  exact ⟨h1.2, rfl⟩
theorem inside_len {a m b n : Nat} (hm : m ≤ 32) (hn : n ≤ 32) (h1 : insideB (cutN a m) m (cutN b n) n = true) : n ≤ m := by
  rw [inside_cut a m b n hm hn] at h1
  simp only [Bool.and_eq_true, decide_eq_true_eq] at h1
  exact h1.1
theorem inside_has {a m b n x : Nat} (hm : m ≤ 32) (hn : n ≤ 32) (h1 : insideB (cutN a m) m (cutN b n) n = true) (hx : hasB (cutN a m) m x = true) : hasB (cutN b n) n x = true := by
  rw [has_cut a m hm] at hx
  rw [has_cut b n hn]
  rw [inside_cut a m b n hm hn] at h1
  simp only [Bool.and_eq_true, decide_eq_true_eq] at h1 hx ⊢
  rw [← h1.2, ← hx, cut_cut x m n h1.1 hm]
theorem apart_has {a m b n x : Nat} (hm : m ≤ 32) (hn : n ≤ 32) (h1 : insideB (cutN a m) m (cutN b n) n = false) (h2 : insideB (cutN b n) n (cutN a m) m = false)
    (hx : hasB (cutN a m) m x = true) : hasB (cutN b n) n x = false := by
  rw [has_cut a m hm] at hx
  rw [has_cut b n hn]
  rw [inside_cut a m b n hm hn] at h1
  rw [inside_cut b n a m hn hm] at h2
  simp only [decide_eq_true_eq] at hx
  rw [decide_eq_false_iff_not]
  intro hy
  rcases Nat.le_total n m with h | h
  · rw [← hy, ← hx, cut_cut x m n h hm] at h1
    simp [h] at h1
  · rw [← hy, ← hx, cut_cut x n m h hn] at h2
    simp [h] at h2
theorem has_self (a m : Nat) (hm : m ≤ 32) : hasB (cutN a m) m a = true := by
  rw [has_cut a m hm]
  simp
end Go.Proofs.YtknmnlbgjpbgiaaDoor
