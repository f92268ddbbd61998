/-
  Numbers as texts, and texts cut at a sign: plain words over lists of bytes. Nothing of a program.
-/
import Derived.Lib.ItoaNum
import Derived.Lib.CutLaws
import Derived.Lib.IndexBytes
namespace Go.Proofs.YtknmnlbgjpbgiaaDoor
open Go.Lib (decDigits)

/-- The digits of a text, one after the other: no number grows beyond the greatest one. -/
def numGo (most : Nat) : Nat → List UInt8 → Option Nat
  | n, [] => some n
  | n, c :: r => if c.toNat < 48 ∨ 57 < c.toNat then none else if most < n * 10 + (c.toNat - 48) then none else numGo most (n * 10 + (c.toNat - 48)) r

/-- The number whose text l is, up to a greatest one. -/
def numOf (most : Nat) (l : List UInt8) : Option Nat :=
  if l = [] ∨ (l.head? = some 48 ∧ l ≠ [48]) then none else numGo most 0 l

theorem dig_nat (d : Nat) (h : d < 10) : (UInt8.ofNat (48 + d)).toNat = 48 + d := by
  simp [UInt8.toNat_ofNat']
  omega

theorem dec_small {u : Nat} (h : u < 10) : decDigits u = [UInt8.ofNat (48 + u)] := by rw [decDigits, dif_pos h]
theorem dec_big {u : Nat} (h : ¬ u < 10) : decDigits u = decDigits (u / 10) ++ [UInt8.ofNat (48 + u % 10)] := by rw [decDigits, dif_neg h]
theorem dec_snoc {n d : Nat} (hn : 0 < n) (hd : d < 10) : decDigits (n * 10 + d) = decDigits n ++ [UInt8.ofNat (48 + d)] := by
  rw [dec_big (by omega), show (n * 10 + d) / 10 = n by omega, show (n * 10 + d) % 10 = d by omega]

theorem dec_digit (u : Nat) : ∀ c ∈ decDigits u, 48 ≤ c.toNat ∧ c.toNat ≤ 57 := by
  induction u using Nat.strongRecOn with
  | _ u ih =>
    intro c hc
    by_cases h : u < 10
    · rw [dec_small h] at hc
      obtain rfl := List.mem_singleton.1 hc
      rw [dig_nat u h]
      omega
    · rw [dec_big h] at hc
      rcases List.mem_append.1 hc with hc | hc
      · exact ih (u / 10) (by omega) c hc
      · obtain rfl := List.mem_singleton.1 hc
        rw [dig_nat _ (by omega)]
        omega

theorem dec_ne_nil (u : Nat) : decDigits u ≠ [] := by
  by_cases h : u < 10
  · rw [dec_small h]; simp
  · rw [dec_big h]; simp

/-- The first digit is 0 in the text of 0 alone. -/
theorem dec_head (u : Nat) (h0 : 0 < u) : (decDigits u).head? ≠ some 48 := by
  induction u using Nat.strongRecOn with
  | _ u ih =>
    by_cases h : u < 10
    · rw [dec_small h]
      intro he
      have he : UInt8.ofNat (48 + u) = 48 := by simpa using he
      have := congrArg UInt8.toNat he
      rw [dig_nat u h] at this
      have e : (48 : UInt8).toNat = 48 := rfl
      omega
    · rw [dec_big h, List.head?_append]
      have := ih (u / 10) (by omega) (by omega)
      cases hd : decDigits (u / 10) with
      | nil => exact absurd hd (dec_ne_nil _)
      | cons x r =>
        rw [hd] at this
        simpa using this

theorem numGo_append (most : Nat) (xs ys : List UInt8) : ∀ n, numGo most n (xs ++ ys) = (numGo most n xs).bind fun m => numGo most m ys := by
  induction xs with
  | nil => intro n; rfl
  | cons c r ih =>
    intro n
    simp only [List.cons_append, numGo]
    split
    · rfl
    · split
      · rfl
      · exact ih _

theorem numGo_dec (most u : Nat) (h : u ≤ most) : numGo most 0 (decDigits u) = some u := by
  induction u using Nat.strongRecOn with
  | _ u ih =>
    by_cases hs : u < 10
    · rw [dec_small hs]
      simp only [numGo, dig_nat u hs]
      rw [if_neg (by omega), if_neg (by omega)]
      congr 1
      omega
    · rw [dec_big hs, numGo_append, ih (u / 10) (by omega) (by omega)]
      simp only [Option.bind_some, numGo, dig_nat (u % 10) (by omega)]
      rw [if_neg (by omega), if_neg (by omega)]
      congr 1
      omega

theorem numOf_dec (most u : Nat) (h : u ≤ most) : numOf most (decDigits u) = some u := by
  unfold numOf
  rw [if_neg, numGo_dec most u h]
  rintro (h1 | ⟨h1, h2⟩)
  · exact dec_ne_nil u h1
  · rcases Nat.eq_zero_or_pos u with h0 | h0
    · subst h0
      exact h2 (by rw [dec_small (by omega)]; rfl)
    · exact dec_head u h0 h1

theorem dig_of (c : UInt8) (h1 : ¬ (c.toNat < 48 ∨ 57 < c.toNat)) : UInt8.ofNat (48 + (c.toNat - 48)) = c := by
  have : 48 + (c.toNat - 48) = c.toNat := by omega
  rw [this]
  exact UInt8.ofNat_toNat

theorem numGo_inv (most : Nat) : ∀ (l : List UInt8) (n m : Nat), 0 < n → numGo most n l = some m → decDigits m = decDigits n ++ l
  | [], n, m, _, h => by
    simp only [numGo, Option.some.injEq] at h
    rw [h]; simp
  | c :: r, n, m, h0, h => by
    simp only [numGo] at h
    split at h
    · cases h
    · rename_i hc
      split at h
      · cases h
      · have := numGo_inv most r _ m (by omega) h
        rw [this, dec_snoc h0 (by omega), dig_of c hc]
        simp

theorem numGo_le (most : Nat) : ∀ (l : List UInt8) (n m : Nat), n ≤ most → numGo most n l = some m → m ≤ most
  | [], n, m, h0, h => by
    simp only [numGo, Option.some.injEq] at h
    omega
  | c :: r, n, m, h0, h => by
    simp only [numGo] at h
    split at h
    · cases h
    · split at h
      · cases h
      · exact numGo_le most r _ m (by omega) h

theorem numOf_inv (most : Nat) (l : List UInt8) (m : Nat) (h : numOf most l = some m) : l = decDigits m ∧ m ≤ most := by
  unfold numOf at h
  split at h
  · cases h
  · rename_i hn
    refine ⟨?_, numGo_le most l 0 m (Nat.zero_le _) h⟩
    cases l with
    | nil => exact absurd (Or.inl rfl) hn
    | cons c r =>
      simp only [numGo] at h
      split at h
      · cases h
      · rename_i hc
        split at h
        · cases h
        · rcases Nat.eq_zero_or_pos (c.toNat - 48) with hz | hz
          · have hc0 : c = 48 := by
              apply UInt8.toNat_inj.1
              show c.toNat = 48
              omega
            subst hc0
            have hr : (48 : UInt8) :: r = [48] := by
              by_cases he : (48 : UInt8) :: r = [48]
              · exact he
              · exact absurd (Or.inr ⟨rfl, he⟩) hn
            have hr' : r = [] := by simpa using hr
            subst hr'
            simp [numGo] at h
            subst h
            rw [dec_small (by omega)]
            rfl
          · have := numGo_inv most r _ m (by omega) h
            rw [this, show 0 * 10 + (c.toNat - 48) = c.toNat - 48 by omega, dec_small (by omega), dig_of c hc]
            rfl

/-- A text cut at the first sign c: what is before it, what is behind it, whether there is one. -/
def cutB (c : UInt8) : List UInt8 → List UInt8 × List UInt8 × Bool
  | [] => ([], [], false)
  | x :: r => if x = c then ([], r, true) else (x :: (cutB c r).1, (cutB c r).2.1, (cutB c r).2.2)

theorem index_neg (l : List UInt8) (c : UInt8) (h : ¬ 0 ≤ Go.Lib.indexByte l c) : (Go.Lib.indexByte l c == -1) = true := by
  have := Go.Lib.indexByte_ge l c
  simp
  omega
theorem index_pos (l : List UInt8) (c : UInt8) (h : 0 ≤ Go.Lib.indexByte l c) : (Go.Lib.indexByte l c == -1) = false := by
  simp
  omega

theorem cut_def (l : List UInt8) (c : UInt8) : Go.Lib.cut l [c] = if 0 ≤ Go.Lib.indexByte l c then (l.take (Go.Lib.indexByte l c).toNat, l.drop ((Go.Lib.indexByte l c).toNat + 1), true) else (l, [], false) := by
  unfold Go.Lib.cut
  rw [Go.Lib.index_one]
  rfl
theorem index_hit (r : List UInt8) (c : UInt8) : Go.Lib.indexByte (c :: r) c = 0 := by simp [Go.Lib.indexByte]
theorem index_next (r : List UInt8) (c x : UInt8) (h : ¬ x = c) : Go.Lib.indexByte (x :: r) c = if 0 ≤ Go.Lib.indexByte r c then Go.Lib.indexByte r c + 1 else -1 := by
  have hx : (x == c) = false := by simpa using h
  have e : Go.Lib.indexByte (x :: r) c = if (x == c) = true then 0 else if (Go.Lib.indexByte r c == -1) = true then -1 else Go.Lib.indexByte r c + 1 := rfl
  rw [e, hx, if_neg (by decide)]
  by_cases h0 : 0 ≤ Go.Lib.indexByte r c
  · rw [index_pos r c h0, if_neg (by decide), if_pos h0]
  · rw [index_neg r c h0, if_pos rfl, if_neg h0]

theorem cutB_eq (c : UInt8) : ∀ l : List UInt8, Go.Lib.cut l [c] = cutB c l
  | [] => by rw [cut_def]; rfl
  | x :: r => by
    have ih := cutB_eq c r
    rw [cut_def] at ih ⊢
    unfold cutB
    by_cases hx : x = c
    · subst hx
      rw [index_hit, if_pos (Int.le_refl _), if_pos rfl]
      rfl
    · rw [index_next r c x hx, if_neg hx, ← ih]
      by_cases h : 0 ≤ Go.Lib.indexByte r c
      · rw [if_pos h, if_pos h, if_pos (by omega)]
        have e1 : (Go.Lib.indexByte r c + 1).toNat = (Go.Lib.indexByte r c).toNat + 1 := by omega
        rw [e1]
        rfl
      · rw [if_neg h, if_neg h, if_neg (by omega)]

theorem cutB_hit (c : UInt8) (b : List UInt8) : ∀ a : List UInt8, c ∉ a → cutB c (a ++ c :: b) = (a, b, true)
  | [], _ => by simp [cutB]
  | x :: r, h => by
    have hx : ¬ x = c := fun e => h (by simp [e])
    have hr : c ∉ r := fun e => h (by simp [e])
    simp only [List.cons_append, cutB, if_neg hx, cutB_hit c b r hr]

theorem cutB_miss (c : UInt8) : ∀ a : List UInt8, c ∉ a → cutB c a = (a, [], false)
  | [], _ => rfl
  | x :: r, h => by
    have hx : ¬ x = c := fun e => h (by simp [e])
    have hr : c ∉ r := fun e => h (by simp [e])
    simp only [cutB, if_neg hx, cutB_miss c r hr]

/-- What was cut, put together again. -/
theorem cutB_back (c : UInt8) (l a b : List UInt8) (f : Bool) (h : cutB c l = (a, b, f)) : (f = true → l = a ++ c :: b) ∧ (f = false → l = a ∧ b = []) := by
  induction l generalizing a b f with
  | nil =>
    simp only [cutB, Prod.mk.injEq] at h
    obtain ⟨rfl, rfl, rfl⟩ := h
    exact ⟨(fun h => (by cases h)), fun _ => ⟨rfl, rfl⟩⟩
  | cons x r ih =>
    simp only [cutB] at h
    split at h
    · rename_i hx
      simp only [Prod.mk.injEq] at h
      obtain ⟨rfl, rfl, rfl⟩ := h
      exact ⟨(fun _ => (by rw [hx]; rfl)), (fun h => (by cases h))⟩
    · simp only [Prod.mk.injEq] at h
      obtain ⟨rfl, rfl, rfl⟩ := h
      have := ih (cutB c r).1 (cutB c r).2.1 (cutB c r).2.2 rfl
      refine ⟨fun hf => ?_, fun hf => ?_⟩
      · rw [List.cons_append, ← this.1 hf]
      · have h1 := this.2 hf
        exact ⟨by rw [← h1.1], h1.2⟩

theorem cutB_len (c : UInt8) (l : List UInt8) : (cutB c l).1.length ≤ l.length ∧ (cutB c l).2.1.length ≤ l.length := by
  induction l with
  | nil => exact ⟨Nat.le_refl _, Nat.le_refl _⟩
  | cons x r ih =>
    simp only [cutB]
    split
    · exact ⟨Nat.zero_le _, by simp⟩
    · exact ⟨by simp; exact ih.1, by simp; omega⟩

theorem no_sign (u : Nat) (c : UInt8) (h : c.toNat < 48 ∨ 57 < c.toNat) : c ∉ decDigits u := fun hc => by
  have := dec_digit u c hc
  omega

/-- The parts of an address that are still to be read, k of them, a having been read. -/
def readN : Nat → Nat → List UInt8 → Option Nat
  | 0, a, _ => some a
  | k + 1, a, l => (numOf 255 (cutB 46 l).1).bind fun n => if (cutB 46 l).2.2 = decide (0 < k) then readN k (a * 256 + n) (cutB 46 l).2.1 else none

/-- The address whose text l is. -/
def readOf (l : List UInt8) : Option Nat := readN 4 0 l

/-- The text of an address. -/
def textOf (a : Nat) : List UInt8 :=
  decDigits (a / 16777216 % 256) ++ 46 :: (decDigits (a / 65536 % 256) ++ 46 :: (decDigits (a / 256 % 256) ++ 46 :: decDigits (a % 256)))

theorem readN_more (k a n : Nat) (hn : n < 256) (r : List UInt8) : readN (k + 2) a (decDigits n ++ 46 :: r) = readN (k + 1) (a * 256 + n) r := by
  rw [readN, cutB_hit 46 r _ (no_sign n 46 (.inl (by decide)))]
  simp only [numOf_dec 255 n (by omega), Option.bind_some]
  rw [if_pos (by simp)]

theorem readN_last (a n : Nat) (hn : n < 256) : readN 1 a (decDigits n) = some (a * 256 + n) := by
  rw [readN, cutB_miss 46 _ (no_sign n 46 (.inl (by decide)))]
  simp only [numOf_dec 255 n (by omega), Option.bind_some]
  rw [if_pos (by simp)]
  rfl

theorem read_text (a : Nat) (h : a < 4294967296) : readOf (textOf a) = some a := by
  unfold readOf textOf
  rw [readN_more 2 _ _ (by omega), readN_more 1 _ _ (by omega), readN_more 0 _ _ (by omega), readN_last _ _ (by omega)]
  congr 1
  omega

theorem readN_inv1 (a m : Nat) (l : List UInt8) (h : readN 1 a l = some m) : ∃ n, n < 256 ∧ m = a * 256 + n ∧ l = decDigits n := by
  rw [readN] at h
  obtain ⟨n, hn, h⟩ := Option.bind_eq_some_iff.1 h
  have ⟨h1, h2⟩ := numOf_inv 255 _ n hn
  split at h
  · rename_i hf
    simp only [readN, Option.some.injEq] at h
    have := (cutB_back 46 l _ _ _ rfl).2 (by simpa using hf)
    exact ⟨n, by omega, h.symm, this.1.trans h1⟩
  · cases h

theorem readN_inv (k a m : Nat) (l : List UInt8) (h : readN (k + 2) a l = some m) : ∃ n r, n < 256 ∧ l = decDigits n ++ 46 :: r ∧ readN (k + 1) (a * 256 + n) r = some m := by
  rw [readN] at h
  obtain ⟨n, hn, h⟩ := Option.bind_eq_some_iff.1 h
  have ⟨h1, h2⟩ := numOf_inv 255 _ n hn
  split at h
  · rename_i hf
    have := (cutB_back 46 l _ _ _ rfl).1 (by simpa using hf)
    rw [h1] at this
    exact ⟨n, _, by omega, this, h⟩
  · cases h

theorem read_inv (l : List UInt8) (m : Nat) (h : readOf l = some m) : l = textOf m ∧ m < 4294967296 := by
  unfold readOf at h
  obtain ⟨a, r1, ha, rfl, h1⟩ := readN_inv 2 0 m l h
  clear h
  obtain ⟨b, r2, hb, rfl, h2⟩ := readN_inv 1 (0 * 256 + a) m r1 h1
  clear h1
  obtain ⟨c, r3, hc, rfl, h3⟩ := readN_inv 0 ((0 * 256 + a) * 256 + b) m r2 h2
  clear h2
  obtain ⟨d, hd, rfl, rfl⟩ := readN_inv1 (((0 * 256 + a) * 256 + b) * 256 + c) m r3 h3
  refine ⟨?_, by omega⟩
  unfold textOf
  rw [show (((0 * 256 + a) * 256 + b) * 256 + c) * 256 + d = a * 16777216 + b * 65536 + c * 256 + d by omega]
  rw [show (a * 16777216 + b * 65536 + c * 256 + d) / 16777216 % 256 = a by omega, show (a * 16777216 + b * 65536 + c * 256 + d) / 65536 % 256 = b by omega,
    show (a * 16777216 + b * 65536 + c * 256 + d) / 256 % 256 = c by omega, show (a * 16777216 + b * 65536 + c * 256 + d) % 256 = d by omega]

theorem text_sign (a : Nat) (c : UInt8) (h : c.toNat < 46 ∨ c.toNat = 47 ∨ 57 < c.toNat) : c ∉ textOf a := by
  have h46 : c ≠ 46 := by
    rintro rfl
    have e : (46 : UInt8).toNat = 46 := rfl
    omega
  have hd : ∀ u, c ∉ decDigits u := fun u => no_sign u c (by omega)
  unfold textOf
  simp only [List.mem_append, List.mem_cons, not_or]
  exact ⟨hd _, h46, hd _, h46, hd _, h46, hd _⟩

theorem nDigits_3 (u : Nat) (h : u < 1000) : (decDigits u).length ≤ 3 := by
  by_cases h1 : u < 10
  · rw [dec_small h1]; simp
  · rw [dec_big h1]
    by_cases h2 : u / 10 < 10
    · rw [dec_small h2]; simp
    · rw [dec_big h2, dec_small (by omega)]; simp
theorem nDigits_5 (u : Nat) (h : u < 100000) : (decDigits u).length ≤ 5 := by
  by_cases h1 : u < 100
  · have := nDigits_3 u (by omega); omega
  · rw [dec_big (by omega), List.length_append, dec_big (by omega), List.length_append]
    have := nDigits_3 (u / 10 / 10) (by omega)
    simp only [List.length_singleton]
    omega
theorem textOf_len (a : Nat) : (textOf a).length ≤ 15 := by
  unfold textOf
  simp only [List.length_append, List.length_cons]
  have := nDigits_3 (a / 16777216 % 256) (by omega)
  have := nDigits_3 (a / 65536 % 256) (by omega)
  have := nDigits_3 (a / 256 % 256) (by omega)
  have := nDigits_3 (a % 256) (by omega)
  omega
theorem dec_inj {u v : Nat} (h : decDigits u = decDigits v) : u = v := by
  have h1 := numGo_dec (max u v) u (by omega)
  have h2 := numGo_dec (max u v) v (by omega)
  rw [h, h2] at h1
  exact (Option.some.inj h1).symm
theorem text_inj {a b : Nat} (ha : a < 4294967296) (hb : b < 4294967296) (h : textOf a = textOf b) : a = b := by
  have h1 := read_text a ha
  rw [h, read_text b hb] at h1
  exact (Option.some.inj h1).symm
end Go.Proofs.YtknmnlbgjpbgiaaDoor
