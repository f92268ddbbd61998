/-
  What is read is what was written: prefixes, ranges and keys, both ways.
-/
import Derived.Test.YtknmnlbgjpbgiaaDoorA2
namespace Go.Proofs.YtknmnlbgjpbgiaaDoor
open Go.RowKit
open Go.Lib (decDigits)

theorem pfx_inv (l : List UInt8) (a n : Nat) (h : pfxOf l = some (a, n)) : a < 4294967296 ∧ n < 256 ∧ rightB a n = true ∧ l = pfxText a n := by
  unfold pfxOf at h
  obtain ⟨t, r, f, hc⟩ : ∃ t r f, cutB 47 l = (t, r, f) := ⟨_, _, _, rfl⟩
  rw [hc] at h
  cases hr : readOf t with
  | none => simp only [hr] at h; cases h
  | some a' =>
    cases hn : numOf 255 r with
    | none => simp only [hr, hn] at h; cases h
    | some n' =>
      simp only [hr, hn] at h
      by_cases hb : rightB a' n' = true
      · rw [if_pos hb] at h
        simp only [Option.some.injEq, Prod.mk.injEq] at h
        obtain ⟨rfl, rfl⟩ := h
        have h1 := read_inv t a' hr
        have h2 := numOf_inv 255 r n' hn
        refine ⟨h1.2, by omega, hb, ?_⟩
        have hk := cutB_back 47 l t r f hc
        cases f with
        | false =>
          have := (hk.2 rfl).2
          rw [this] at h2
          exact absurd h2.1.symm (dec_ne_nil n')
        | true =>
          rw [hk.1 rfl, h1.1, h2.1]
          rfl
      · rw [if_neg hb] at h
        cases h

theorem pfx_back (a n : Nat) (ha : a < 4294967296) (h : rightB a n = true) : pfxOf (pfxText a n) = some (a, n) := by
  have hn := (right_mod h).1
  unfold pfxOf pfxText
  rw [cutB_hit 47 _ _ (text_sign a 47 (by decide))]
  simp only [read_text a ha, numOf_dec 255 n (by omega), if_pos h]

theorem rng_inv (l : List UInt8) (f t : Nat) (h : rngOf l = some (f, t)) : f ≤ t ∧ t < 65536 ∧ l = rngText f t := by
  unfold rngOf at h
  by_cases h42 : l = [42]
  · rw [if_pos h42] at h
    simp only [Option.some.injEq, Prod.mk.injEq] at h
    obtain ⟨rfl, rfl⟩ := h
    exact ⟨by omega, by omega, by rw [h42]; rfl⟩
  · rw [if_neg h42] at h
    obtain ⟨x, y, b, hc⟩ : ∃ x y b, cutB 45 l = (x, y, b) := ⟨_, _, _, rfl⟩
    rw [hc] at h
    have hk := cutB_back 45 l x y b hc
    cases hn : numOf 65535 x with
    | none => simp only [hn] at h; cases h
    | some f' =>
      have h1 := numOf_inv 65535 x f' hn
      simp only [hn] at h
      cases b with
      | false =>
        rw [if_neg (by decide)] at h
        simp only [Option.some.injEq, Prod.mk.injEq] at h
        obtain ⟨rfl, rfl⟩ := h
        refine ⟨Nat.le_refl _, by omega, ?_⟩
        rw [(hk.2 rfl).1, h1.1, rngText_one (by omega) rfl]
      | true =>
        rw [if_pos rfl] at h
        cases hm : numOf 65535 y with
        | none => simp only [hm] at h; cases h
        | some t' =>
          have h2 := numOf_inv 65535 y t' hm
          simp only [hm] at h
          by_cases hq : f' < t' ∧ ¬ (f' = 0 ∧ t' = 65535)
          · rw [if_pos hq] at h
            simp only [Option.some.injEq, Prod.mk.injEq] at h
            obtain ⟨rfl, rfl⟩ := h
            refine ⟨by omega, by omega, ?_⟩
            rw [hk.1 rfl, h1.1, h2.1, rngText_two hq.2 (by omega)]
          · rw [if_neg hq] at h
            cases h

theorem dec_not42 (u : Nat) (l : List UInt8) : decDigits u ++ l ≠ [42] := by
  intro h
  have hd := dec_digit u
  cases hx : decDigits u with
  | nil => exact dec_ne_nil u hx
  | cons c r =>
    rw [hx] at h hd
    have h0 : c = 42 := by simpa using congrArg List.head? h
    have := hd c (List.mem_cons_self ..)
    rw [h0] at this
    have : (42 : UInt8).toNat = 42 := rfl
    omega

theorem rng_back (f t : Nat) (h : f ≤ t) (ht : t < 65536) : rngOf (rngText f t) = some (f, t) := by
  by_cases ha : f = 0 ∧ t = 65535
  · obtain ⟨rfl, rfl⟩ := ha
    rfl
  · by_cases he : f = t
    · rw [rngText_one ha he]
      unfold rngOf
      rw [if_neg (by have := dec_not42 f []; rwa [List.append_nil] at this), cutB_miss 45 _ (no_sign f 45 (by decide))]
      simp only [numOf_dec 65535 f (by omega)]
      rw [if_neg (by decide), he]
    · rw [rngText_two ha he]
      unfold rngOf
      rw [if_neg (dec_not42 f _), cutB_hit 45 _ _ (no_sign f 45 (by decide))]
      simp only [numOf_dec 65535 f (by omega), numOf_dec 65535 t (by omega)]
      rw [if_pos trivial, if_pos ⟨by omega, ha⟩]

theorem key_inv (l : List UInt8) (k : Ky) (h : keyOf l = some k) : k.Ok ∧ l = keyText k := by
  unfold keyOf at h
  obtain ⟨x, y, b, hc⟩ : ∃ x y b, cutB 32 l = (x, y, b) := ⟨_, _, _, rfl⟩
  obtain ⟨u, v, d, hd⟩ : ∃ u v d, cutB 32 y = (u, v, d) := ⟨_, _, _, rfl⟩
  rw [hc] at h
  simp only [hd] at h
  cases hn : numOf 255 x with
  | none => simp only [hn] at h; cases h
  | some pr =>
    cases hu : endOf u with
    | none => simp only [hn, hu] at h; cases h
    | some ap =>
      cases hv : endOf v with
      | none => simp only [hn, hu, hv] at h; cases h
      | some bq =>
        obtain ⟨a, p⟩ := ap
        obtain ⟨b', q⟩ := bq
        simp only [hn, hu, hv, Option.some.injEq] at h
        subst h
        have h1 := numOf_inv 255 x pr hn
        have h2 := end_inv u a p hu
        have h3 := end_inv v b' q hv
        refine ⟨⟨by show pr < 256; omega, h2.1, h3.1, h2.2.1, h3.2.1⟩, ?_⟩
        have k1 := cutB_back 32 l x y b hc
        have k2 := cutB_back 32 y u v d hd
        have hb : b = true := by
          cases b with
          | true => rfl
          | false =>
            have e := (k1.2 rfl).2
            rw [e] at hd
            have e2 : u = [] := by
              have := congrArg (·.1) hd
              exact this.symm
            rw [e2] at hu
            rw [show endOf [] = none from by decide] at hu
            cases hu
        have hd' : d = true := by
          cases d with
          | true => rfl
          | false =>
            have e := (k2.2 rfl).2
            rw [e] at hv
            rw [show endOf [] = none from by decide] at hv
            cases hv
        rw [k1.1 hb, k2.1 hd', h1.1, h2.2.2, h3.2.2]
        rfl

theorem endText_sign (a p : Nat) (c : UInt8) (h : (c.toNat < 46 ∨ c.toNat = 47 ∨ 57 < c.toNat) ∧ c ≠ 58) : c ∉ endText a p := by
  unfold endText
  intro hx
  rcases List.mem_append.1 hx with hx | hx
  · exact text_sign a c h.1 hx
  · rcases List.mem_cons.1 hx with hx | hx
    · exact h.2 hx
    · exact no_sign p c (by omega) hx

theorem key_back (k : Ky) (hk : k.Ok) : keyOf (keyText k) = some k := by
  obtain ⟨pr, a, b, p, q⟩ := k
  obtain ⟨h0, h1, h2, h3, h4⟩ := hk
  dsimp only at h0 h1 h2 h3 h4
  unfold keyOf keyText
  dsimp only
  rw [cutB_hit 32 _ _ (no_sign pr 32 (by decide))]
  dsimp only
  rw [cutB_hit 32 _ _ (endText_sign a p 32 (by decide))]
  simp only [numOf_dec 255 pr (by omega), end_back a p h1 h3, end_back b q h2 h4]
end Go.Proofs.YtknmnlbgjpbgiaaDoor
