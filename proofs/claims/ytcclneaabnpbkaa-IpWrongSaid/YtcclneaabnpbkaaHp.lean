/-
  A hop, as plain words on bytes: the checksum is the one that an update makes.
-/
import Derived.Test.YtcclneaabnpbkaaIb
namespace Go.Proofs.Ytcclneaabnpbkaa
open Go.RowKit

theorem upd_word (S S' o x : Nat) (h : S + x = S' + o) (ho : o ≤ 65535) : updOf (65535 - fold S) o x = 65535 - fold (S' + 65535) := by
  have h1 := fold_le S
  unfold updOf
  rw [show 65535 - (65535 - fold S) + (65535 - o) + x = fold S + (65535 - o + x) from by omega, fold_fold_add, show S + (65535 - o + x) = S' + 65535 from by omega]
theorem fold_more (S k : Nat) (h : S ≠ 0) : fold (S + 65535 * k) = fold S := fold_congr (by omega) (by omega)

def hop (h : Hd) : Hd := ⟨h.tos, h.id, h.df, h.mf, h.off, h.ttl - 1, h.pro, h.src, h.dst⟩
theorem hop_ok {h : Hd} (ok : h.Ok) : (hop h).Ok := ⟨ok.tos, ok.id, ok.off, by have := ok.ttl; show h.ttl - 1 < 256; omega, ok.pro, ok.src, ok.dst⟩
theorem Finds.hop {bs : List UInt8} {h : Hd} {opts data : List UInt8} (F : Finds bs h opts data) : hdHop bs = hop h ∧ byteAt bs 8 = h.ttl := by
  have e := F.hd
  subst e
  exact ⟨rfl, rfl⟩

theorem wsum_two (a b : UInt8) (r : List UInt8) : wsum (a :: b :: r) = word a b + wsum r := rfl

set_option maxRecDepth 20000 in
theorem hop_sum (h : Hd) (ok : h.Ok) (h1 : 1 ≤ h.ttl) (z t : Nat) (R : List UInt8) : wsum (head20 h z t 0 ++ R) = wsum (head20 (hop h) z t 0 ++ R) + 256 := by
  have e1 : (UInt8.ofNat h.ttl).toNat = h.ttl := toN _ ok.ttl
  have e2 : (UInt8.ofNat (h.ttl - 1)).toNat = h.ttl - 1 := toN _ (by have := ok.ttl; omega)
  simp only [head20, hop, List.cons_append, wsum_two, word, e1, e2]
  omega
set_option maxRecDepth 20000 in
theorem head_pos (h : Hd) (z t c : Nat) (R : List UInt8) (hz : z ≤ 60) : wsum (head20 h z t c ++ R) ≠ 0 := by
  have e : (UInt8.ofNat (64 + z / 4)).toNat = 64 + z / 4 := toN _ (by omega)
  simp only [head20, List.cons_append, wsum_two, word, e]
  omega

/-- The checksum of a packet that was written. -/
theorem pkt_check (h : Hd) (opts data X : List UInt8) : wordAt (pkt h opts data ++ X) 10 = ofOf (head20 h (20 + opts.length) (20 + opts.length + data.length) 0 ++ opts) := by
  obtain ⟨c, hc, hf, he⟩ := fix_form h opts data.length
  rw [← he]
  have e : pkt h opts data ++ X = head20 h (20 + opts.length) (20 + opts.length + data.length) c ++ (opts ++ (data ++ X)) := by
    unfold pkt
    rw [hf]
    simp
  rw [e]
  exact hw10 h _ _ c _ hc

theorem hop_check (h : Hd) (opts data X : List UInt8) (ok : h.Ok) (h1 : 1 ≤ h.ttl) (ho : opts.length ≤ 40) :
    updOf (wordAt (pkt h opts data ++ X) 10) ((h.ttl - 1) * 256 + h.pro + 256) ((h.ttl - 1) * 256 + h.pro) = wordAt (pkt (hop h) opts data) 10 := by
  have e := pkt_check (hop h) opts data []
  rw [List.append_nil] at e
  rw [pkt_check, e]
  have hs := hop_sum h ok h1 (20 + opts.length) (20 + opts.length + data.length) opts
  have hp := head_pos (hop h) (20 + opts.length) (20 + opts.length + data.length) 0 opts (by omega)
  unfold ofOf sumOf
  have l1 := ok.ttl
  have l2 := ok.pro
  rw [upd_word _ (wsum (head20 (hop h) (20 + opts.length) (20 + opts.length + data.length) 0 ++ opts)) _ _ (by omega) (by omega)]
  have := fold_more _ 1 hp
  rw [Nat.mul_one] at this
  rw [this]
end Go.Proofs.Ytcclneaabnpbkaa
