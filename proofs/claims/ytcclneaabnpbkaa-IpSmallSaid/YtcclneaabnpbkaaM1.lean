/-
  What is written is what is read, as plain words on bytes.
-/
import Derived.Test.YtcclneaabnpbkaaP14
namespace Go.Proofs.Ytcclneaabnpbkaa
open Go.RowKit

/-- The first twenty bytes, with a checksum. -/
def head20 (h : Hd) (z t c : Nat) : List UInt8 :=
  [UInt8.ofNat (64 + z / 4), UInt8.ofNat h.tos, hiB t, loB t, hiB h.id, loB h.id, hiB (plcOf h.off h.df h.mf), loB (plcOf h.off h.df h.mf), UInt8.ofNat h.ttl, UInt8.ofNat h.pro, hiB c, loB c,
   hiB (h.src / 65536), loB (h.src / 65536), hiB (h.src % 65536), loB (h.src % 65536), hiB (h.dst / 65536), loB (h.dst / 65536), hiB (h.dst % 65536), loB (h.dst % 65536)]

theorem bare_put (h : Hd) (opts : List UInt8) (n x : Nat) : putAt (bare h opts n) 10 (hiB x) (loB x) = head20 h (20 + opts.length) (20 + opts.length + n) x ++ opts := rfl
theorem fix_form (h : Hd) (opts : List UInt8) (n : Nat) : ∃ c, c < 65536 ∧ fixOf (bare h opts n) 10 = head20 h (20 + opts.length) (20 + opts.length + n) c ++ opts ∧ c = ofOf (head20 h (20 + opts.length) (20 + opts.length + n) 0 ++ opts) := by
  refine ⟨_, ?_, bare_put h opts n _, ?_⟩
  · unfold ofOf; omega
  · rw [bare_put]
theorem head20_len (h : Hd) (z t c : Nat) : (head20 h z t c).length = 20 := rfl
theorem pkt_form (h : Hd) (opts data : List UInt8) : ∃ c, c < 65536 ∧ pkt h opts data = head20 h (20 + opts.length) (20 + opts.length + data.length) c ++ opts ++ data ∧ sumOf (head20 h (20 + opts.length) (20 + opts.length + data.length) c ++ opts) = 65535 := by
  obtain ⟨c, hc, hf, _⟩ := fix_form h opts data.length
  refine ⟨c, hc, by unfold pkt; rw [hf], ?_⟩
  rw [← hf]
  exact fixOf_sum _ _ (by decide) (by rw [bare_len]; omega)

theorem word_ofs (x : Nat) (h : x < 65536) : word (hiB x) (loB x) = x := word_hi_lo x h
theorem toN (x : Nat) (h : x < 256) : (UInt8.ofNat x).toNat = x := by rw [UInt8.toNat_ofNat']; omega

section
variable (h : Hd) (z t c : Nat) (R : List UInt8)
theorem hb0 (hz : z ≤ 60) : byteAt (head20 h z t c ++ R) 0 = 64 + z / 4 := toN _ (by omega)
theorem hb1 (ok : h.Ok) : byteAt (head20 h z t c ++ R) 1 = h.tos := toN _ ok.tos
theorem hw2 (ht : t < 65536) : wordAt (head20 h z t c ++ R) 2 = t := word_ofs _ ht
theorem hw4 (ok : h.Ok) : wordAt (head20 h z t c ++ R) 4 = h.id := word_ofs _ ok.id
theorem plc_lt (ok : h.Ok) : plcOf h.off h.df h.mf < 32768 := by
  have := ok.off
  unfold plcOf
  cases h.df <;> cases h.mf <;> simp <;> omega
theorem hw6 (ok : h.Ok) : wordAt (head20 h z t c ++ R) 6 = plcOf h.off h.df h.mf := word_ofs _ (by have := plc_lt h ok; omega)
theorem hb8 (ok : h.Ok) : byteAt (head20 h z t c ++ R) 8 = h.ttl := toN _ ok.ttl
theorem hb9 (ok : h.Ok) : byteAt (head20 h z t c ++ R) 9 = h.pro := toN _ ok.pro
theorem hw10 (hc : c < 65536) : wordAt (head20 h z t c ++ R) 10 = c := word_ofs _ hc
theorem ha12 (ok : h.Ok) : addrAt (head20 h z t c ++ R) 12 = h.src := by
  have e1 : wordAt (head20 h z t c ++ R) 12 = h.src / 65536 := word_ofs _ (by have := ok.src; omega)
  have e2 : wordAt (head20 h z t c ++ R) (12 + 2) = h.src % 65536 := word_ofs _ (by omega)
  unfold addrAt
  rw [e1, e2]
  omega
theorem ha16 (ok : h.Ok) : addrAt (head20 h z t c ++ R) 16 = h.dst := by
  have e1 : wordAt (head20 h z t c ++ R) 16 = h.dst / 65536 := word_ofs _ (by have := ok.dst; omega)
  have e2 : wordAt (head20 h z t c ++ R) (16 + 2) = h.dst % 65536 := word_ofs _ (by omega)
  unfold addrAt
  rw [e1, e2]
  omega
theorem hsize (hz : z ≤ 60) (h4 : z % 4 = 0) : sizeAt (head20 h z t c ++ R) = z := by
  unfold sizeAt
  rw [hb0 h z t c R hz]
  omega
theorem hflags (ok : h.Ok) (h8 : h.off % 8 = 0) : dfAt (head20 h z t c ++ R) = h.df ∧ mfAt (head20 h z t c ++ R) = h.mf ∧ offAt (head20 h z t c ++ R) = h.off := by
  unfold dfAt mfAt offAt
  rw [hw6 h z t c R ok]
  have ho := ok.off
  unfold plcOf
  obtain ⟨q, hq⟩ : ∃ q, h.off / 8 = q := ⟨_, rfl⟩
  have hq2 : q < 8192 := by omega
  have hq3 : q * 8 = h.off := by omega
  rw [hq]
  cases h.df <;> cases h.mf <;> simp <;> omega
theorem hdOf_head (ok : h.Ok) (h8 : h.off % 8 = 0) : hdOf (head20 h z t c ++ R) = h := by
  obtain ⟨e1, e2, e3⟩ := hflags h z t c R ok h8
  unfold hdOf
  rw [hb1 h z t c R ok, hw4 h z t c R ok, e1, e2, e3, hb8 h z t c R ok, hb9 h z t c R ok, ha12 h z t c R ok, ha16 h z t c R ok]
end

/-- What Read finds in some bytes. -/
structure Finds (bs : List UInt8) (h : Hd) (opts data : List UInt8) : Prop where
  nf : NoFault bs
  hd : hdOf bs = h
  size : sizeAt bs = 20 + opts.length
  tot : totAt bs = 20 + opts.length + data.length
  opts : optsAt bs = opts
  data : dataAt bs = data

theorem head_finds (h : Hd) (opts data beh : List UInt8) (c : Nat) (ok : h.Ok) (hR : rightB opts.length (h.off : Int) h.mf (data.length : Int) = true) (hs : sumOf (head20 h (20 + opts.length) (20 + opts.length + data.length) c ++ opts) = 65535) :
    Finds (head20 h (20 + opts.length) (20 + opts.length + data.length) c ++ opts ++ data ++ beh) h opts data := by
  obtain ⟨f1, f2, f3, f4, f5, f6⟩ := right_facts hR
  obtain ⟨z, hz⟩ : ∃ z, 20 + opts.length = z := ⟨_, rfl⟩
  rw [hz] at hs ⊢
  obtain ⟨t, ht⟩ : ∃ t, z + data.length = t := ⟨_, rfl⟩
  rw [ht] at hs ⊢
  have e : head20 h z t c ++ opts ++ data ++ beh = head20 h z t c ++ (opts ++ data ++ beh) := by simp
  have hlen : (head20 h z t c ++ opts ++ data ++ beh).length = t + beh.length := by simp [head20_len]; omega
  have esize : sizeAt (head20 h z t c ++ opts ++ data ++ beh) = z := by rw [e]; exact hsize h z t c _ (by omega) (by omega)
  have etot : totAt (head20 h z t c ++ opts ++ data ++ beh) = t := by rw [e]; exact hw2 h z t c _ (by omega)
  have eb0 : byteAt (head20 h z t c ++ opts ++ data ++ beh) 0 = 64 + z / 4 := by rw [e]; exact hb0 h z t c _ (by omega)
  have ew6 : wordAt (head20 h z t c ++ opts ++ data ++ beh) 6 = plcOf h.off h.df h.mf := by rw [e]; exact hw6 h z t c _ ok
  have efl := hflags h z t c (opts ++ data ++ beh) ok f4
  rw [← e] at efl
  have etake : (head20 h z t c ++ opts ++ data ++ beh).take z = head20 h z t c ++ opts := by
    rw [show head20 h z t c ++ opts ++ data ++ beh = (head20 h z t c ++ opts) ++ (data ++ beh) from by simp]
    rw [List.take_append_of_le_length (by simp [head20_len]; omega), List.take_of_length_le (by simp [head20_len]; omega)]
  refine ⟨⟨?_, ?_, ?_, ?_, ?_, ?_, ?_⟩, ?_, by rw [esize, hz], by rw [etot, ← ht, hz], ?_, ?_⟩
  · unfold q1; rw [hlen]; exact decide_eq_false (by omega)
  · unfold q2; rw [eb0]; exact decide_eq_false (by omega)
  · unfold q3; rw [esize, hlen]; exact decide_eq_false (by omega)
  · unfold q4; rw [esize, etot, hlen]; exact decide_eq_false (by omega)
  · unfold q5; rw [esize, etake, hs]; rfl
  · unfold q6; rw [ew6]; have := plc_lt h ok; exact decide_eq_false (by omega)
  · unfold q7
    rw [esize, etot, efl.2.1, efl.2.2, show z - 20 = opts.length by omega, show (t : Int) - (z : Int) = data.length by omega, hR]
    rfl
  · rw [e]; exact hdOf_head h z t c _ ok f4
  · unfold optsAt; rw [esize, etake]
    rw [List.drop_append_of_le_length (by rw [head20_len]; omega)]
    simp [head20_len]
  · unfold dataAt
    rw [esize, etot, show head20 h z t c ++ opts ++ data ++ beh = (head20 h z t c ++ opts ++ data) ++ beh from rfl]
    rw [List.take_append_of_le_length (by simp [head20_len]; omega), List.take_of_length_le (by simp [head20_len]; omega)]
    rw [List.drop_append_of_le_length (by simp [head20_len]; omega)]
    simp [head20_len, ← hz]

theorem pkt_finds (h : Hd) (opts data beh : List UInt8) (ok : h.Ok) (hR : rightB opts.length (h.off : Int) h.mf (data.length : Int) = true) : Finds (pkt h opts data ++ beh) h opts data := by
  obtain ⟨c, _, hp, hs⟩ := pkt_form h opts data
  rw [hp]
  exact head_finds h opts data beh c ok hR hs
theorem pkt_finds0 (h : Hd) (opts data : List UInt8) (ok : h.Ok) (hR : rightB opts.length (h.off : Int) h.mf (data.length : Int) = true) : Finds (pkt h opts data) h opts data := by
  have := pkt_finds h opts data [] ok hR
  rwa [List.append_nil] at this
end Go.Proofs.Ytcclneaabnpbkaa
