/-
  A packet turned, as plain words on bytes; zeros behind a slice with no room.
-/
import Derived.Test.YtcclneaabnpbkaaIb
namespace Go.Proofs.Ytcclneaabnpbkaa
open Go.RowKit

def swap (h : Hd) : Hd := ⟨h.tos, h.id, h.df, h.mf, h.off, h.ttl, h.pro, h.dst, h.src⟩
theorem swap_ok {h : Hd} (ok : h.Ok) : (swap h).Ok := ⟨ok.tos, ok.id, ok.off, ok.ttl, ok.pro, ok.dst, ok.src⟩

def front (h : Hd) (z t c : Nat) : List UInt8 :=
  [UInt8.ofNat (64 + z / 4), UInt8.ofNat h.tos, hiB t, loB t, hiB h.id, loB h.id, hiB (plcOf h.off h.df h.mf), loB (plcOf h.off h.df h.mf), UInt8.ofNat h.ttl, UInt8.ofNat h.pro, hiB c, loB c]
theorem head_parts (h : Hd) (z t c : Nat) (R : List UInt8) : head20 h z t c ++ R = front h z t c ++ (b4 h.src ++ (b4 h.dst ++ R)) := rfl
theorem head_sum (h : Hd) (z t c : Nat) (R : List UInt8) : sumOf (head20 (swap h) z t c ++ R) = sumOf (head20 h z t c ++ R) := by
  unfold sumOf
  rw [head_parts, head_parts]
  have e1 : front (swap h) z t c = front h z t c := rfl
  have e2 : (swap h).src = h.dst := rfl
  have e3 : (swap h).dst = h.src := rfl
  rw [e1, e2, e3]
  have l1 : (front h z t c).length % 2 = 0 := by simp [front]
  have l2 : (b4 h.src).length % 2 = 0 := by simp [b4]
  have l3 : (b4 h.dst).length % 2 = 0 := by simp [b4]
  rw [wsum_append (front h z t c) (b4 h.dst ++ (b4 h.src ++ R)) l1, wsum_append (b4 h.dst) (b4 h.src ++ R) l3, wsum_append (b4 h.src) R l2, wsum_append (front h z t c) (b4 h.src ++ (b4 h.dst ++ R)) l1, wsum_append (b4 h.src) (b4 h.dst ++ R) l2, wsum_append (b4 h.dst) R l3, Nat.add_left_comm (wsum (b4 h.dst)) (wsum (b4 h.src)) (wsum R)]

theorem turn_form (h : Hd) (z t c : Nat) (R X : List UInt8) (ht : t < 65536) (hR : 20 + R.length = t) : turnOf (head20 h z t c ++ R ++ X) = head20 (swap h) z t c ++ R := by
  have e : head20 h z t c ++ R ++ X = head20 h z t c ++ (R ++ X) := by simp
  have et : totAt (head20 h z t c ++ R ++ X) = t := by rw [e]; exact hw2 h z t c _ ht
  unfold turnOf
  rw [et]
  have e2 : ((head20 h z t c ++ R ++ X).take t).drop 20 = R := by
    rw [List.take_append_of_le_length (by simp [head20_len]; omega), List.take_of_length_le (by simp [head20_len]; omega)]
    rfl
  rw [e2]
  rfl

/-- What is turned is read, with both addresses exchanged; turned twice it is what it was. -/
theorem turned_finds (h : Hd) (opts data X : List UInt8) (ok : h.Ok) (hR : rightB opts.length (h.off : Int) h.mf (data.length : Int) = true) :
    Finds (turnOf (pkt h opts data ++ X)) (swap h) opts data ∧ turnOf (turnOf (pkt h opts data ++ X)) = pkt h opts data ∧ (turnOf (pkt h opts data ++ X)).length = 20 + opts.length + data.length ∧ (turnOf (pkt h opts data ++ X)).getD 10 0 = (pkt h opts data).getD 10 0 ∧ (turnOf (pkt h opts data ++ X)).getD 11 0 = (pkt h opts data).getD 11 0 := by
  obtain ⟨c, hc, hp, hs⟩ := pkt_form h opts data
  obtain ⟨f1, f2, f3, f4, f5, f6⟩ := right_facts hR
  rw [hp]
  have e1 : head20 h (20 + opts.length) (20 + opts.length + data.length) c ++ opts ++ data ++ X = head20 h (20 + opts.length) (20 + opts.length + data.length) c ++ (opts ++ data) ++ X := by simp
  have e2 := turn_form h (20 + opts.length) (20 + opts.length + data.length) c (opts ++ data) X (by omega) (by simp; omega)
  have e3 := turn_form (swap h) (20 + opts.length) (20 + opts.length + data.length) c (opts ++ data) [] (by omega) (by simp; omega)
  rw [e1, e2]
  rw [List.append_nil] at e3
  have e4 : swap (swap h) = h := rfl
  rw [e4] at e3
  refine ⟨?_, ?_, ?_, rfl, rfl⟩
  · have := head_finds (swap h) opts data [] c (swap_ok ok) hR (by rw [head_sum]; exact hs)
    rw [List.append_nil] at this
    rw [← List.append_assoc]
    exact this
  · rw [e3, List.append_assoc]
  · simp [head20_len]; omega

/-- Zeros appended onto a slice whose capacity is its length. -/
theorem run_zeros_full (w : World) (ty : TypeId) (ad : Addr) (N : Nat) (bs : List UInt8) (hN : bs.length = N) (h : Rds w (some ad) bs) (k : Nat) (hk : k ≤ 100) (hb : N ≤ 70000) :
    ∃ ad' c' w', (Builtin.append_ #[22, 5] ty #[.slice (some ad) N N, .int .u8 (k : Int)]).run Try.prog w = .ok (.slice (some ad') (N + k) c') w' ∧ N + k ≤ c' ∧ Rds w' (some ad') (bs ++ List.replicate k 0) ∧ Frm No w w' := by
  obtain ⟨i0, hi, hz0, hz1, hz2⟩ := info_parts info5
  by_cases h0 : k = 0
  · subst h0
    have hw0 : IntKind.i64.wrap 0 = 0 := by rw [IntKind.wrap_i64]; rfl
    refine ⟨ad, N, w, ?_, by omega, by simpa using h, Frm.refl _ _⟩
    simp [Builtin.append_, run_underlying Try.underlying22, run_underlying Try.underlying5, sizeOf, typeInfo, hi, asInt, asIntOf, hw0, storeCells]
  · have hold := run_firstCells_some (P := Try.prog) w.drew i0.size N ad N N (byts bs) (by rw [byts_len, hz1]; omega) (fun j u hu => by rw [World.cell?_drew]; exact h.news j u hu)
    have hr := Lib.run_append_grow_zeros (P := Try.prog) w 22 5 ty 5 i0 (.int .u8 0) .u8 .u8 Try.underlying22 Try.underlying5 hi hz0 (some ad) N N (byts bs) hold k (by omega) (by omega) (by omega) (by omega) (by rw [hz2]; omega) (growslice_fits (by omega) (by rw [hz2]; omega))
    refine ⟨_, _, _, hr, grownCap_ge _ _ _ _, ?_, ⟨rfl, rfl, rfl, by simp, fun k hk _ => heap_alloc_old w.drew _ hk⟩⟩
    rw [zeroCells_bytes, zeroCells_bytes]
    intro _
    refine ⟨_, rfl, fun j u hu => ?_⟩
    have hcell := (Blk.new w.drew 5 ((byts bs).toArray ++ (byts (List.replicate k 0)).toArray ++ (byts (List.replicate (grownCap w (N + k) N 5 - (N + k)) 0)).toArray)).cell j
    have e : ((byts bs).toArray ++ (byts (List.replicate k 0)).toArray ++ (byts (List.replicate (grownCap w (N + k) N 5 - (N + k)) 0)).toArray)[j]? = some u := by
      have hj : j < (byts (bs ++ List.replicate k 0)).length := (List.getElem?_eq_some_iff.1 hu).1
      rw [byts_append] at hu hj
      rw [Array.getElem?_append_left (by simpa using hj)]
      simpa using hu
    rw [e] at hcell
    rw [← hcell]
    have ea : (⟨w.heap.size, 0, none⟩ : Addr).add j = ⟨w.heap.size, j, none⟩ := by
      unfold Addr.add
      by_cases h0 : j = 0
      · subst h0; rfl
      · simp [h0]
    rw [ea]
    rfl
end Go.Proofs.Ytcclneaabnpbkaa
