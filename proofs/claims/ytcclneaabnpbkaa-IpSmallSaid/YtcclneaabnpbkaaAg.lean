/-
  What is read, and written again, as plain words on bytes.
-/
import Derived.Test.YtcclneaabnpbkaaM1
namespace Go.Proofs.Ytcclneaabnpbkaa
open Go.RowKit

theorem sizeAt_b0 {bs : List UInt8} (h : NoFault bs) : bs.getD 0 0 = UInt8.ofNat (64 + sizeAt bs / 4) := by
  have h2 := of_decide_eq_false h.h2
  have h3 := byteAt_lt bs 0
  apply UInt8.toNat_inj.1
  have e : (bs.getD 0 0).toNat = byteAt bs 0 := rfl
  rw [e, UInt8.toNat_ofNat']
  unfold sizeAt
  omega
theorem hi_of (a b : UInt8) : hiB (word a b) = a := by
  apply UInt8.toNat_inj.1
  have := a.toNat_lt
  have := b.toNat_lt
  unfold hiB word
  rw [UInt8.toNat_ofNat']
  omega
theorem lo_of (a b : UInt8) : loB (word a b) = b := by
  apply UInt8.toNat_inj.1
  have := a.toNat_lt
  have := b.toNat_lt
  unfold loB word
  rw [UInt8.toNat_ofNat']
  omega
theorem ofN (a : UInt8) : UInt8.ofNat a.toNat = a := by
  apply UInt8.toNat_inj.1
  have := a.toNat_lt
  rw [UInt8.toNat_ofNat']
  omega
theorem plc_back {bs : List UInt8} (h : NoFault bs) : plcOf (offAt bs) (dfAt bs) (mfAt bs) = wordAt bs 6 := by
  have h6 := of_decide_eq_false h.h6
  have := wordAt_lt bs 6
  unfold plcOf offAt dfAt mfAt
  generalize wordAt bs 6 = p at *
  by_cases a1 : p / 16384 % 2 = 1 <;> by_cases a2 : p / 8192 % 2 = 1 <;> simp [a1, a2] <;> omega

theorem list20 (bs : List UInt8) (h : 20 ≤ bs.length) : bs = [bs.getD 0 0, bs.getD 1 0, bs.getD 2 0, bs.getD 3 0, bs.getD 4 0, bs.getD 5 0, bs.getD 6 0, bs.getD 7 0, bs.getD 8 0, bs.getD 9 0, bs.getD 10 0, bs.getD 11 0, bs.getD 12 0, bs.getD 13 0, bs.getD 14 0, bs.getD 15 0, bs.getD 16 0, bs.getD 17 0, bs.getD 18 0, bs.getD 19 0] ++ bs.drop 20 := by
  rcases bs with _ | ⟨x0, bs⟩
  · simp at h
  rcases bs with _ | ⟨x1, bs⟩
  · simp at h
  rcases bs with _ | ⟨x2, bs⟩
  · simp at h
  rcases bs with _ | ⟨x3, bs⟩
  · simp at h
  rcases bs with _ | ⟨x4, bs⟩
  · simp at h
  rcases bs with _ | ⟨x5, bs⟩
  · simp at h
  rcases bs with _ | ⟨x6, bs⟩
  · simp at h
  rcases bs with _ | ⟨x7, bs⟩
  · simp at h
  rcases bs with _ | ⟨x8, bs⟩
  · simp at h
  rcases bs with _ | ⟨x9, bs⟩
  · simp at h
  rcases bs with _ | ⟨x10, bs⟩
  · simp at h
  rcases bs with _ | ⟨x11, bs⟩
  · simp at h
  rcases bs with _ | ⟨x12, bs⟩
  · simp at h
  rcases bs with _ | ⟨x13, bs⟩
  · simp at h
  rcases bs with _ | ⟨x14, bs⟩
  · simp at h
  rcases bs with _ | ⟨x15, bs⟩
  · simp at h
  rcases bs with _ | ⟨x16, bs⟩
  · simp at h
  rcases bs with _ | ⟨x17, bs⟩
  · simp at h
  rcases bs with _ | ⟨x18, bs⟩
  · simp at h
  rcases bs with _ | ⟨x19, bs⟩
  · simp at h
  rfl

/-- The header of some bytes, as it is. -/
theorem head_back {bs : List UInt8} (h : NoFault bs) : bs.take (sizeAt bs) = head20 (hdOf bs) (sizeAt bs) (totAt bs) (wordAt bs 10) ++ optsAt bs := by
  have hs := h.sizes
  have e1 : bs.take (sizeAt bs) = (bs.take (sizeAt bs)).take 20 ++ (bs.take (sizeAt bs)).drop 20 := (List.take_append_drop 20 _).symm
  rw [e1]
  have e2 : (bs.take (sizeAt bs)).drop 20 = optsAt bs := rfl
  rw [e2, List.take_take, Nat.min_eq_left (by omega)]
  congr 1
  have e3 : bs.take 20 = [bs.getD 0 0, bs.getD 1 0, bs.getD 2 0, bs.getD 3 0, bs.getD 4 0, bs.getD 5 0, bs.getD 6 0, bs.getD 7 0, bs.getD 8 0, bs.getD 9 0, bs.getD 10 0, bs.getD 11 0, bs.getD 12 0, bs.getD 13 0, bs.getD 14 0, bs.getD 15 0, bs.getD 16 0, bs.getD 17 0, bs.getD 18 0, bs.getD 19 0] := by
    conv => lhs; rw [list20 bs (by omega)]
    rfl
  rw [e3, sizeAt_b0 h]
  unfold head20
  have p := plc_back h
  have s1 : (hdOf bs).src / 65536 = wordAt bs 12 := by show (wordAt bs 12 * 65536 + wordAt bs 14) / 65536 = _; have := wordAt_lt bs 14; omega
  have s2 : (hdOf bs).src % 65536 = wordAt bs 14 := by show (wordAt bs 12 * 65536 + wordAt bs 14) % 65536 = _; have := wordAt_lt bs 14; omega
  have s3 : (hdOf bs).dst / 65536 = wordAt bs 16 := by show (wordAt bs 16 * 65536 + wordAt bs 18) / 65536 = _; have := wordAt_lt bs 18; omega
  have s4 : (hdOf bs).dst % 65536 = wordAt bs 18 := by show (wordAt bs 16 * 65536 + wordAt bs 18) % 65536 = _; have := wordAt_lt bs 18; omega
  rw [s1, s2, s3, s4]
  have t1 : UInt8.ofNat (hdOf bs).tos = bs.getD 1 0 := ofN _
  have t2 : UInt8.ofNat (hdOf bs).ttl = bs.getD 8 0 := ofN _
  have t3 : UInt8.ofNat (hdOf bs).pro = bs.getD 9 0 := ofN _
  have t4 : (hdOf bs).id = wordAt bs 4 := rfl
  have t5 : plcOf (hdOf bs).off (hdOf bs).df (hdOf bs).mf = wordAt bs 6 := p
  rw [t1, t2, t3, t4, t5]
  unfold totAt wordAt
  simp only [hi_of, lo_of]

/-- Some bytes of a packet with a checksum that Write would write: 65535 becomes 0. -/
def was (bs : List UInt8) : List UInt8 := if bs.getD 10 0 = 255 ∧ bs.getD 11 0 = 255 then (bs.set 10 0).set 11 0 else bs

theorem check_back (h : Hd) (z t c : Nat) (opts : List UInt8) (hz : z ≤ 60) (hc : c < 65536) (hs : sumOf (head20 h z t c ++ opts) = 65535) :
    ofOf (head20 h z t 0 ++ opts) = if c = 65535 then 0 else c := by
  have e1 : head20 h z t c ++ opts = putAt (head20 h z t 0 ++ opts) 10 (hiB c) (loB c) := rfl
  have e0 : head20 h z t 0 ++ opts = putAt (head20 h z t 0 ++ opts) 10 (hiB 0) (loB 0) := rfl
  have hl : 10 + 1 < (head20 h z t 0 ++ opts).length := by simp [head20_len]; omega
  rw [e1] at hs
  rw [e0]
  unfold ofOf
  unfold sumOf at hs ⊢
  rw [putAt_sum _ _ _ _ (by decide) hl, word_hi_lo c hc] at hs
  rw [putAt_sum _ _ _ _ (by decide) hl, word_hi_lo 0 (by decide)]
  obtain ⟨S1, hS1⟩ : ∃ S, wsum ((head20 h z t 0 ++ opts).take 10) = S := ⟨_, rfl⟩
  obtain ⟨S2, hS2⟩ : ∃ S, wsum ((head20 h z t 0 ++ opts).drop (10 + 2)) = S := ⟨_, rfl⟩
  rw [hS1, hS2] at hs ⊢
  have hpos : 16384 ≤ S1 := by
    rw [← hS1]
    have : (head20 h z t 0 ++ opts).take 10 = [UInt8.ofNat (64 + z / 4), UInt8.ofNat h.tos, hiB t, loB t, hiB h.id, loB h.id, hiB (plcOf h.off h.df h.mf), loB (plcOf h.off h.df h.mf), UInt8.ofNat h.ttl, UInt8.ofNat h.pro] := rfl
    rw [this]
    simp only [wsum, wordsOf, addUp, word]
    rw [toN _ (by omega)]
    omega
  rw [fold_all] at hs
  have h1 := fold_mod (S1 + 0 + S2)
  have h2 := fold_zero (S1 + 0 + S2)
  have h3 := fold_le (S1 + 0 + S2)
  split <;> omega

theorem was_head (h : Hd) (z t c : Nat) (R : List UInt8) (hc : c < 65536) : was (head20 h z t c ++ R) = head20 h z t (if c = 65535 then 0 else c) ++ R := by
  unfold was
  have g0 : (head20 h z t c ++ R).getD 10 0 = hiB c := rfl
  have g1 : (head20 h z t c ++ R).getD 11 0 = loB c := rfl
  rw [g0, g1]
  have hiff : (hiB c = 255 ∧ loB c = 255) ↔ c = 65535 := by
    constructor
    · rintro ⟨h1, h2⟩
      have e1 := congrArg UInt8.toNat h1
      have e2 := congrArg UInt8.toNat h2
      unfold hiB at e1
      unfold loB at e2
      rw [UInt8.toNat_ofNat'] at e1 e2
      have e3 : (255 : UInt8).toNat = 255 := rfl
      rw [e3] at e1 e2
      omega
    · rintro rfl
      exact ⟨rfl, rfl⟩
  by_cases h : c = 65535
  · rw [if_pos (hiff.2 h), if_pos h]
    rfl
  · rw [if_neg (fun x => h (hiff.1 x)), if_neg h]

/-- What is read, and written again. -/
theorem again_same {bs : List UInt8} (h : NoFault bs) : pkt (hdOf bs) (optsAt bs) (dataAt bs) = was (bs.take (totAt bs)) := by
  have hs := h.sizes
  have hb := head_back h
  have hol := optsAt_len bs (by omega)
  have hdl := dataAt_len h
  have hc := wordAt_lt bs 10
  have hsum : sumOf (bs.take (sizeAt bs)) = 65535 := by
    have := h.h5
    unfold q5 at this
    simpa using this
  obtain ⟨c, hc2, hf, hce⟩ := fix_form (hdOf bs) (optsAt bs) (dataAt bs).length
  have z1 : 20 + (optsAt bs).length = sizeAt bs := by omega
  have t1 : sizeAt bs + (dataAt bs).length = totAt bs := by omega
  rw [z1, t1] at hf hce
  have e1 : bs.take (totAt bs) = head20 (hdOf bs) (sizeAt bs) (totAt bs) (wordAt bs 10) ++ (optsAt bs ++ dataAt bs) := by
    rw [← List.append_assoc, ← hb]
    unfold dataAt
    have := (List.take_append_drop (sizeAt bs) (bs.take (totAt bs))).symm
    rw [List.take_take, Nat.min_eq_left (by omega)] at this
    exact this
  rw [e1, was_head _ _ _ _ _ hc]
  rw [hb] at hsum
  rw [check_back _ _ _ _ _ hs.2.2.2.1 hc hsum] at hce
  unfold pkt
  rw [hf, hce, List.append_assoc]
end Go.Proofs.Ytcclneaabnpbkaa
