/-
  A packet with one byte changed, as plain words on bytes.
-/
import Derived.Test.YtcclneaabnpbkaaIb
namespace Go.Proofs.Ytcclneaabnpbkaa
open Go.RowKit

theorem wsum_set : ∀ (bs : List UInt8) (i : Nat) (v : UInt8) (h : i < bs.length), ∃ f, (f = 1 ∨ f = 256) ∧ wsum (bs.set i v) + bs[i].toNat * f = wsum bs + v.toNat * f
  | [], i, v, h => absurd h (by simp)
  | [a], i, v, h => by
    obtain rfl : i = 0 := by simp at h; omega
    refine ⟨256, Or.inr rfl, ?_⟩
    have e : ∀ x : UInt8, wsum [x] = x.toNat * 256 := fun x => by simp [wsum, wordsOf, addUp, word]
    show wsum [v] + a.toNat * 256 = _
    rw [e, e]
    omega
  | a :: b :: r, 0, v, h => by
    refine ⟨256, Or.inr rfl, ?_⟩
    show addUp (word v b :: wordsOf r) + a.toNat * 256 = addUp (word a b :: wordsOf r) + _
    simp only [addUp, word]
    omega
  | a :: b :: r, 1, v, h => by
    refine ⟨1, Or.inl rfl, ?_⟩
    show addUp (word a v :: wordsOf r) + b.toNat * 1 = addUp (word a b :: wordsOf r) + _
    simp only [addUp, word]
    omega
  | a :: b :: r, i + 2, v, h => by
    obtain ⟨f, hf, he⟩ := wsum_set r i v (by simp at h; omega)
    refine ⟨f, hf, ?_⟩
    show addUp (word a b :: wordsOf (r.set i v)) + (r[i]'(by simp at h; omega)).toNat * f = addUp (word a b :: wordsOf r) + _
    unfold wsum at he
    simp only [addUp]
    omega

theorem sum_set (bs : List UInt8) (i : Nat) (v : UInt8) (h : i < bs.length) (hv : v ≠ bs[i]) (hs : sumOf bs = 65535) : sumOf (bs.set i v) ≠ 65535 := by
  intro h2
  obtain ⟨f, hf, he⟩ := wsum_set bs i v h
  have h1 := (fold_all _).1 hs
  have h3 := (fold_all _).1 h2
  have hne : v.toNat ≠ bs[i].toNat := fun e => hv (UInt8.toNat_inj.1 e)
  have l1 := v.toNat_lt
  have l2 := bs[i].toNat_lt
  rcases hf with rfl | rfl <;> omega

theorem getD_set_ne (bs : List UInt8) (i k : Nat) (v : UInt8) (h : i ≠ k) : (bs.set i v).getD k 0 = bs.getD k 0 := by
  rw [List.getD_eq_getElem?_getD, List.getD_eq_getElem?_getD, List.getElem?_set_ne h]
theorem getD_set_eq (bs : List UInt8) (i : Nat) (v : UInt8) (h : i < bs.length) : (bs.set i v).getD i 0 = v := by
  rw [List.getD_eq_getElem?_getD, List.getElem?_set_self h]
  rfl

theorem flip_version (bs : List UInt8) (nf : NoFault bs) (v : UInt8) (hv : v.toNat / 16 ≠ 4) : faultB (bs.set 0 v) = 51 := by
  have hs := nf.sizes
  have e1 : q1 (bs.set 0 v) = false := by unfold q1; rw [List.length_set]; exact decide_eq_false (by omega)
  have e2 : q2 (bs.set 0 v) = true := by
    unfold q2 byteAt
    rw [getD_set_eq _ _ _ (by omega)]
    exact decide_eq_true hv
  unfold faultB
  rw [e1, e2]
  rfl

theorem flip_head (bs : List UInt8) (nf : NoFault bs) (i : Nat) (v : UInt8) (h0 : 1 ≤ i) (h1 : i < sizeAt bs) (hv : v ≠ bs.getD i 0) : faultB (bs.set i v) = 54 ∨ (2 ≤ i ∧ i < 4 ∧ faultB (bs.set i v) = 53) := by
  have hs := nf.sizes
  have b0 : byteAt (bs.set i v) 0 = byteAt bs 0 := by unfold byteAt; rw [getD_set_ne _ _ _ _ (by omega)]
  have bz : sizeAt (bs.set i v) = sizeAt bs := by unfold sizeAt; rw [b0]
  have e1 : q1 (bs.set i v) = false := by unfold q1; rw [List.length_set]; exact decide_eq_false (by omega)
  have e2 : q2 (bs.set i v) = false := by have := nf.h2; unfold q2 at *; rwa [b0]
  have e3 : q3 (bs.set i v) = false := by have := nf.h3; unfold q3 at *; rwa [bz, List.length_set]
  have e5 : q5 (bs.set i v) = true := by
    have h5 := nf.h5
    unfold q5 at *
    rw [bz, List.take_set]
    have hl : i < (bs.take (sizeAt bs)).length := by rw [List.length_take]; omega
    have h6 : sumOf (bs.take (sizeAt bs)) = 65535 := by simpa using h5
    have hg : (bs.take (sizeAt bs))[i] = bs.getD i 0 := by rw [List.getElem_take, getD_at]
    have := sum_set _ i v hl (by rw [hg]; exact hv) h6
    simpa using this
  by_cases h23 : 2 ≤ i ∧ i < 4
  · cases h4 : q4 (bs.set i v)
    · left
      unfold faultB
      rw [e1, e2, e3, h4, e5]
      rfl
    · right
      refine ⟨h23.1, h23.2, ?_⟩
      unfold faultB
      rw [e1, e2, e3, h4]
      rfl
  · have bt : totAt (bs.set i v) = totAt bs := by unfold totAt wordAt; rw [getD_set_ne _ _ _ _ (by omega), getD_set_ne _ _ _ _ (by omega)]
    have e4 : q4 (bs.set i v) = false := by have := nf.h4; unfold q4 at *; rwa [bz, bt, List.length_set]
    left
    unfold faultB
    rw [e1, e2, e3, e4, e5]
    rfl

theorem flip_data (h : Hd) (opts data : List UInt8) (i : Nat) (v : UInt8) (h1 : 20 + opts.length ≤ i) : (pkt h opts data).set i v = pkt h opts (data.set (i - (20 + opts.length)) v) := by
  unfold pkt
  rw [List.length_set]
  have hl : (fixOf (bare h opts data.length) 10).length = 20 + opts.length := by rw [fixed_len, bare_len]
  rw [List.set_append_right _ _ (by rw [hl]; exact h1), hl]

theorem bit_version (z : Nat) (hz : z < 16) (k : Nat) (hk : 4 ≤ k) (hk2 : k < 8) : ((64 + z) ^^^ 2 ^ k) / 16 ≠ 4 := by
  have hz' : z = 0 ∨ z = 1 ∨ z = 2 ∨ z = 3 ∨ z = 4 ∨ z = 5 ∨ z = 6 ∨ z = 7 ∨ z = 8 ∨ z = 9 ∨ z = 10 ∨ z = 11 ∨ z = 12 ∨ z = 13 ∨ z = 14 ∨ z = 15 := by omega
  have hk' : k = 4 ∨ k = 5 ∨ k = 6 ∨ k = 7 := by omega
  rcases hk' with rfl | rfl | rfl | rfl <;> rcases hz' with rfl | rfl | rfl | rfl | rfl | rfl | rfl | rfl | rfl | rfl | rfl | rfl | rfl | rfl | rfl | rfl <;> decide

/-- A byte with one bit changed. -/
def flipB (b : UInt8) (k : Nat) : UInt8 := UInt8.ofNat (b.toNat ^^^ 2 ^ k)
theorem flipB_nat (b : UInt8) (k : Nat) (hk : k < 8) : (flipB b k).toNat = b.toNat ^^^ 2 ^ k := by
  unfold flipB
  rw [UInt8.toNat_ofNat']
  exact Nat.mod_eq_of_lt (Nat.xor_lt_two_pow (n := 8) b.toNat_lt (Nat.pow_lt_pow_right (by omega) hk))
theorem flipB_ne (b : UInt8) (k : Nat) (hk : k < 8) : flipB b k ≠ b := by
  intro h
  have h1 : b.toNat ^^^ 2 ^ k = b.toNat := by rw [← flipB_nat b k hk, h]
  have h2 : (b.toNat ^^^ 2 ^ k) ^^^ b.toNat = 0 := by rw [h1, Nat.xor_self]
  rw [Nat.xor_comm, ← Nat.xor_assoc, Nat.xor_self, Nat.zero_xor] at h2
  have := Nat.two_pow_pos k
  omega
end Go.Proofs.Ytcclneaabnpbkaa
