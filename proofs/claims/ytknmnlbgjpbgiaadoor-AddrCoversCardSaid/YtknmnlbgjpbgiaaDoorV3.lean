/-
  The prefixes that cover a range: how many there are, how they follow one another, and that no two neighbours are one prefix: whole numbers.
-/
import Derived.Test.YtknmnlbgjpbgiaaDoorN0
namespace Go.Proofs.YtknmnlbgjpbgiaaDoor
open Go.RowKit

theorem good_iff (a t n : Nat) : goodB a t n = true ↔ n ≤ 32 ∧ a % sz n = 0 ∧ a + sz n ≤ t + 1 := by
  have := sz_pos n
  unfold goodB rightB top
  simp only [Bool.and_eq_true, decide_eq_true_eq]
  omega
theorem sz_half (n : Nat) (h1 : 1 ≤ n) (h : n ≤ 32) : sz (n - 1) = 2 * sz n := by
  rw [sz_mul (n - 1) n (by omega) h, show n - (n - 1) = 1 by omega]
  omega
theorem mod_of_le {a m n : Nat} (h : a % sz m = 0) (hmn : m ≤ n) (hn : n ≤ 32) : a % sz n = 0 :=
  Nat.mod_eq_zero_of_dvd (Nat.dvd_trans (sz_dvd' m n hmn hn) (Nat.dvd_of_mod_eq_zero h))
theorem sz_mono {m n : Nat} (hmn : m ≤ n) (hn : n ≤ 32) : sz n ≤ sz m := Nat.le_of_dvd (sz_pos m) (sz_dvd' m n hmn hn)
theorem mod_next {a n : Nat} (h : a % sz n = 0) : (a + sz n) % sz n = 0 := by rw [Nat.add_mod_right, h]
theorem mod_small {a : Nat} (h : a % sz 0 = 0) (h0 : 0 < a) : 4294967296 ≤ a := by
  have e : sz 0 = 4294967296 := rfl
  rw [e] at h
  omega

theorem widGo_least (f t n : Nat) (hg : goodB f t n = true) : ∀ k m, m ≤ n → n ≤ m + k → widGo f t k m ≤ n
  | 0, m, h1, h2 => by
    show m ≤ n
    exact h1
  | k + 1, m, h1, h2 => by
    by_cases h : goodB f t m = true
    · rw [widGo_good h]
      exact h1
    · have hne : m ≠ n := fun e => h (by rw [e]; exact hg)
      rw [widGo_bad (by simpa using h)]
      exact widGo_least f t n hg k (m + 1) (by omega) (by omega)
theorem wid_least {f t n : Nat} (hg : goodB f t n = true) : wid f t ≤ n :=
  widGo_least f t n hg 32 0 (by omega) (by have := ((good_iff f t n).1 hg).1; omega)
theorem wid_good {f t : Nat} (h : f ≤ t) : goodB f t (wid f t) = true := (widGo_spec f t h 32 0 rfl).1

theorem covGo_A (t : Nat) : ∀ k a n, n ≤ 32 → a % sz n = 0 → a ≤ t → t + 1 < a + sz n → (covGo t k a).length ≤ 32 - n
  | 0, a, n, _, _, _, _ => Nat.zero_le _
  | k + 1, a, n, hn, hm, ha, hs => by
    rw [covGo]
    have hg := (good_iff a t _).1 (wid_good ha)
    have hl := fun m => wid_least (f := a) (t := t) (n := m)
    generalize wid a t = n' at *
    have hlt : n < n' := by
      apply Nat.lt_of_not_le
      intro h
      have := sz_mono h hn
      omega
    rw [List.length_cons]
    split
    · rename_i ht
      have hx : ¬ goodB a t (n' - 1) = true := fun h => by have := hl _ h; omega
      rw [good_iff] at hx
      have hm' := mod_of_le hm (show n ≤ n' - 1 by omega) (by omega)
      have hh := sz_half n' (by omega) hg.1
      have e : top a n' + 1 = a + sz n' := by have := sz_pos n'; unfold top; omega
      rw [e]
      have := covGo_A t k (a + sz n') n' hg.1 (mod_next hg.2.1) (by omega) (by omega)
      omega
    · simp
      omega

theorem mod_odd {a n : Nat} (h1 : 1 ≤ n) (hn : n ≤ 32) (h : a % sz n = 0) (ho : a % sz (n - 1) ≠ 0) : (a + sz n) % sz (n - 1) = 0 := by
  rw [sz_half n h1 hn] at *
  obtain ⟨u, rfl⟩ := Nat.dvd_of_mod_eq_zero h
  rw [Nat.mul_comm 2 (sz n)] at *
  rw [Nat.mul_mod_mul_left] at ho
  have h2 : u % 2 = 1 := by
    rcases Nat.mod_two_eq_zero_or_one u with h | h
    · rw [h] at ho
      simp at ho
    · exact h
  rw [show sz n * u + sz n = sz n * (u + 1) by rw [Nat.mul_add]; omega, Nat.mul_mod_mul_left, show (u + 1) % 2 = 0 by omega]
  rfl

theorem covGo_C (t : Nat) (ht : t < 4294967296) : ∀ k a n, 1 ≤ n → n ≤ 32 → a % sz n = 0 → 0 < a → a ≤ t → (covGo t k a).length ≤ 30 + n
  | 0, a, n, _, _, _, _, _ => Nat.zero_le _
  | k + 1, a, n, h1, hn, hm, h0, ha => by
    rw [covGo]
    have hg := (good_iff a t _).1 (wid_good ha)
    have hl := fun m => wid_least (f := a) (t := t) (n := m)
    generalize wid a t = n' at *
    have hn0 : n' ≠ 0 := by
      rintro rfl
      have := mod_small hg.2.1 h0
      omega
    have e : top a n' + 1 = a + sz n' := by have := sz_pos n'; unfold top; omega
    have hh := sz_half n' (by omega) hg.1
    rw [List.length_cons]
    split
    · rename_i hlt
      rw [e]
      by_cases hc : a % sz (n' - 1) = 0
      · have hx : ¬ goodB a t (n' - 1) = true := fun h => by have := hl _ h; omega
        rw [good_iff] at hx
        have hn1 : n' - 1 ≠ 0 := by
          intro hz
          rw [hz] at hc
          have := mod_small hc h0
          omega
        have := covGo_A t k (a + sz n') n' hg.1 (mod_next hg.2.1) (by omega) (by omega)
        omega
      · have hle : n' ≤ n := by
          apply Nat.le_of_not_lt
          intro h
          exact hc (mod_of_le hm (by omega) (by omega))
        have ho := mod_odd (by omega) hg.1 hg.2.1 hc
        have hn1 : n' - 1 ≠ 0 := by
          intro hz
          rw [hz] at ho
          have := mod_small ho (by omega)
          omega
        have := covGo_C t ht k (a + sz n') (n' - 1) (by omega) (by omega) ho (by omega) (by omega)
        omega
    · simp
      omega

theorem cov_len (f t : Nat) (h : f ≤ t) (ht : t < 4294967296) : (cov f t).length ≤ 62 ∧ 1 ≤ (cov f t).length := by
  refine ⟨?_, by unfold cov; rw [covGo, List.length_cons]; omega⟩
  by_cases h0 : 0 < f
  · exact covGo_C t ht _ f 32 (by omega) (by omega) (by rw [show sz 32 = 1 from rfl]; exact Nat.mod_one _) h0 h
  · obtain rfl : f = 0 := by omega
    unfold cov
    rw [covGo]
    have hg := (good_iff 0 t _).1 (wid_good h)
    have hl := fun m => wid_least (f := 0) (t := t) (n := m)
    generalize wid 0 t = n' at *
    have e : top 0 n' + 1 = sz n' := by have := sz_pos n'; unfold top; omega
    rw [List.length_cons]
    split
    · rename_i hlt
      rw [e]
      by_cases hn0 : n' = 0
      · subst hn0
        have e0 : sz 0 = 4294967296 := rfl
        omega
      · have hx : ¬ goodB 0 t (n' - 1) = true := fun h => by have := hl _ h; omega
        rw [good_iff] at hx
        have hh := sz_half n' (by omega) hg.1
        have := covGo_A t (t - 0) (sz n') n' hg.1 (Nat.mod_self _) (by omega) (by rw [Nat.zero_mod] at hx; omega)
        omega
    · simp

/-- How the prefixes follow one another. -/
structure Lined (t a : Nat) (L : List (Nat × Nat)) : Prop where
  head : ∃ n, L[0]? = some (a, n)
  good : ∀ (i x n : Nat), L[i]? = some (x, n) → goodB x t n = true ∧ (∀ m, goodB x t m = true → n ≤ m) ∧ a ≤ x ∧ x ≤ t
  next : ∀ (i x n y m : Nat), L[i]? = some (x, n) → L[i + 1]? = some (y, m) → y = top x n + 1
  last : ∀ (i x n : Nat), L[i]? = some (x, n) → L.length = i + 1 → top x n = t

theorem covGo_lined (t : Nat) : ∀ k a, a ≤ t → t - a + 1 ≤ k → Lined t a (covGo t k a)
  | 0, a, h, hk => by omega
  | k + 1, a, h, hk => by
    have hg := wid_good h
    have hgi := (good_iff a t _).1 hg
    have hp := sz_pos (wid a t)
    have e : top a (wid a t) + 1 = a + sz (wid a t) := by unfold top; omega
    rw [covGo]
    by_cases hlt : top a (wid a t) < t
    · rw [if_pos hlt]
      have ih := covGo_lined t k (top a (wid a t) + 1) (by omega) (by omega)
      refine ⟨⟨_, rfl⟩, ?_, ?_, ?_⟩
      · intro i x n hi
        cases i with
        | zero =>
          simp only [List.getElem?_cons_zero, Option.some.injEq, Prod.mk.injEq] at hi
          obtain ⟨rfl, rfl⟩ := hi
          exact ⟨hg, fun m => wid_least, Nat.le_refl _, h⟩
        | succ i =>
          simp only [List.getElem?_cons_succ] at hi
          have := ih.good i x n hi
          exact ⟨this.1, this.2.1, by omega, this.2.2.2⟩
      · intro i x n y m hi hj
        cases i with
        | zero =>
          simp only [List.getElem?_cons_zero, Option.some.injEq, Prod.mk.injEq, List.getElem?_cons_succ] at hi hj
          obtain ⟨rfl, rfl⟩ := hi
          obtain ⟨n', hn'⟩ := ih.head
          rw [hn'] at hj
          simp only [Option.some.injEq, Prod.mk.injEq] at hj
          exact hj.1.symm
        | succ i =>
          simp only [List.getElem?_cons_succ] at hi hj
          exact ih.next i x n y m hi hj
      · intro i x n hi hL
        cases i with
        | zero =>
          obtain ⟨n', hn'⟩ := ih.head
          have := (List.getElem?_eq_some_iff.1 hn').1
          rw [List.length_cons] at hL
          omega
        | succ i =>
          simp only [List.getElem?_cons_succ] at hi
          rw [List.length_cons] at hL
          exact ih.last i x n hi (by omega)
    · rw [if_neg hlt]
      refine ⟨⟨_, rfl⟩, ?_, ?_, ?_⟩
      · intro i x n hi
        cases i with
        | zero =>
          simp only [List.getElem?_cons_zero, Option.some.injEq, Prod.mk.injEq] at hi
          obtain ⟨rfl, rfl⟩ := hi
          exact ⟨hg, fun m => wid_least, Nat.le_refl _, h⟩
        | succ i => simp at hi
      · intro i x n y m hi hj
        simp at hj
      · intro i x n hi hL
        cases i with
        | zero =>
          simp only [List.getElem?_cons_zero, Option.some.injEq, Prod.mk.injEq] at hi
          obtain ⟨rfl, rfl⟩ := hi
          omega
        | succ i => simp at hi

theorem cov_lined (f t : Nat) (h : f ≤ t) : Lined t f (cov f t) := covGo_lined t _ f h (Nat.le_refl _)

theorem has_iff {a n : Nat} (h : rightB a n = true) (x : Nat) : hasB a n x = decide (a ≤ x ∧ x ≤ top a n) := by
  unfold hasB
  rw [h, Bool.true_and]
  have hm := (right_mod h).2
  have hp := sz_pos n
  apply decide_eq_decide.2
  unfold cutN top
  constructor
  · intro e
    have := Nat.mod_lt x hp
    have := Nat.mod_le x (sz n)
    omega
  · rintro ⟨h1, h2⟩
    obtain ⟨u, rfl⟩ := Nat.dvd_of_mod_eq_zero hm
    obtain ⟨d, rfl⟩ : ∃ d, x = sz n * u + d := ⟨x - sz n * u, by omega⟩
    rw [Nat.mul_add_mod, Nat.mod_eq_of_lt (by omega)]
    omega

/-- Two neighbours of one length are not together one prefix. -/
theorem not_one {t x n y : Nat} (ht : t < 4294967296) (hx : goodB x t n = true) (hl : ∀ m, goodB x t m = true → n ≤ m) (hy : goodB y t n = true) (hn : y = top x n + 1) :
    1 ≤ n ∧ insideB x n (cutN y (n - 1)) (n - 1) = false := by
  have h1 := (good_iff x t n).1 hx
  have h2 := (good_iff y t n).1 hy
  have hp := sz_pos n
  have e : y = x + sz n := by unfold top at hn; omega
  have hn1 : 1 ≤ n := by
    apply Nat.pos_of_ne_zero
    rintro rfl
    have e0 : sz 0 = 4294967296 := rfl
    omega
  refine ⟨hn1, ?_⟩
  rw [Bool.eq_false_iff]
  intro hi
  have hh := sz_half n hn1 h1.1
  unfold insideB at hi
  rw [has_cut y (n - 1) (by omega)] at hi
  simp only [Bool.and_eq_true, decide_eq_true_eq] at hi
  have hc := hi.2
  have hx0 : x % sz (n - 1) = 0 := by
    apply Classical.byContradiction
    intro hne
    have h3 := mod_odd hn1 h1.1 h1.2.1 hne
    rw [← e] at h3
    rw [cut_of_mod h3] at hc
    have := cut_le x (n - 1)
    omega
  have hy0 : y + sz n ≤ t + 1 := h2.2.2
  have := hl (n - 1) ((good_iff x t (n - 1)).2 ⟨by omega, hx0, by omega⟩)
  omega
end Go.Proofs.YtknmnlbgjpbgiaaDoor
