/-
  Hop and Turn.
-/
import Derived.Test.YtcclneaabnpbkaaP12
namespace Go.Proofs.Ytcclneaabnpbkaa
open Go.RowKit
attribute [local go_sem] undef

def ErrNo (k : Int) (w : World) (e : Ending) (w' : World) : Prop := e = .returned (.tuple #[.slice none 0 0, .int .i64 k]) ∧ Frm No w w'

set_option maxRecDepth 100000 in
set_option maxHeartbeats 1000000 in
theorem hop_bad (w : World) (A : Option Addr) (n c : Nat) (bs : List UInt8) (hn : bs.length = n) (hc : n ≤ c) (h4 : n ≤ 140737488355328) (h : Rds w A bs) (k : Nat) (hk : faultB bs = k) (h0 : k ≠ 0) :
    Calls Try.prog 24 #[.slice A n c] w (ErrNo k w) := by
  have HR := Lib.hid (read_bad w A n c bs hn hc h4 h k k rfl hk h0)
  have g0 : ((k : Int) != 0) = true := by simp; omega
  clear h hn hk h0 hc h4
  go_enter Try.func24, Try.ntmps24
  go_wp2_with fail
  refine HR.out.mono ?_
  rintro e w1 ⟨rfl, hf⟩
  have F1 := Lib.hid hf
  clear hf
  go_wp2_with fail
  go_ret2
  exact ⟨rfl, F1.out.alloc _⟩

set_option maxRecDepth 100000 in
set_option maxHeartbeats 1000000 in
theorem turn_bad (w : World) (A : Option Addr) (n c : Nat) (bs : List UInt8) (hn : bs.length = n) (hc : n ≤ c) (h4 : n ≤ 140737488355328) (h : Rds w A bs) (k : Nat) (hk : faultB bs = k) (h0 : k ≠ 0) :
    Calls Try.prog 26 #[.slice A n c] w (ErrNo k w) := by
  have HR := Lib.hid (read_bad w A n c bs hn hc h4 h k k rfl hk h0)
  have g0 : ((k : Int) != 0) = true := by simp; omega
  clear h hn hk h0 hc h4
  go_enter Try.func26, Try.ntmps26
  go_wp2_with fail
  refine HR.out.mono ?_
  rintro e w1 ⟨rfl, hf⟩
  have F1 := Lib.hid hf
  clear hf
  go_wp2_with fail
  go_ret2
  exact ⟨rfl, F1.out.alloc _⟩

set_option maxRecDepth 100000 in
set_option maxHeartbeats 1000000 in
theorem hop_ttl (w : World) (A : Option Addr) (n c : Nat) (bs : List UInt8) (hn : bs.length = n) (hc : n ≤ c) (h4 : n ≤ 140737488355328) (h : Rds w A bs) (nf : NoFault bs) (ht1 : byteAt bs 8 ≤ 1) :
    Calls Try.prog 24 #[.slice A n c] w (ErrNo 57 w) := by
  have HR := Lib.hid (read_ok w A n c bs hn hc h4 h nf)
  unfold ReadOk hdrV at HR
  obtain ⟨z, hz⟩ : ∃ z, sizeAt bs = z := ⟨_, rfl⟩
  obtain ⟨t, ht⟩ : ∃ z, totAt bs = z := ⟨_, rfl⟩
  obtain ⟨v1, hv1⟩ : ∃ q, byteAt bs 1 = q := ⟨_, rfl⟩
  obtain ⟨v8, hv8⟩ : ∃ q, byteAt bs 8 = q := ⟨_, rfl⟩
  obtain ⟨v9, hv9⟩ : ∃ q, byteAt bs 9 = q := ⟨_, rfl⟩
  obtain ⟨i4, hi4⟩ : ∃ q, wordAt bs 4 = q := ⟨_, rfl⟩
  obtain ⟨df, hdf⟩ : ∃ q, dfAt bs = q := ⟨_, rfl⟩
  obtain ⟨mf, hmf⟩ : ∃ q, mfAt bs = q := ⟨_, rfl⟩
  obtain ⟨f, hf⟩ : ∃ q, offAt bs = q := ⟨_, rfl⟩
  obtain ⟨sr, hsr⟩ : ∃ q, addrAt bs 12 = q := ⟨_, rfl⟩
  obtain ⟨ds, hds⟩ : ∃ q, addrAt bs 16 = q := ⟨_, rfl⟩
  obtain ⟨os, hos⟩ : ∃ q, optsAt bs = q := ⟨_, rfl⟩

  obtain ⟨o, ho⟩ : ∃ o, z - 20 = o := ⟨_, rfl⟩
  rw [hz] at HR
  rw [hv1, hv8, hv9, hi4, hdf, hmf, hf, hsr, hds, hos, ho, ht] at HR
  rw [hv8] at ht1
  have g8 : (v8 : Int) ≤ 1 := by omega
  clear h hn hc h4 nf ht1 hz ht hv1 hv8 hv9 hi4 hdf hmf hf hsr hds hos ho
  go_enter Try.func24, Try.ntmps24
  go_wp2_with fail
  refine HR.out.mono ?_
  rintro e w1 ⟨g, c1, rfl, _, hf⟩
  have F1 := Lib.hid hf
  clear hf
  go_wp2_with fail
  go_ret2
  exact ⟨rfl, F1.out.alloc _⟩

/-- The header with one hop less. -/
def hdHop (bs : List UInt8) : Hd := ⟨byteAt bs 1, wordAt bs 4, dfAt bs, mfAt bs, offAt bs, byteAt bs 8 - 1, byteAt bs 9, addrAt bs 12, addrAt bs 16⟩

set_option maxRecDepth 100000 in
set_option maxHeartbeats 4000000 in
theorem hop_yes (w : World) (A : Option Addr) (n c : Nat) (bs : List UInt8) (hn : bs.length = n) (hc : n ≤ c) (h4 : n ≤ 140737488355328) (h : Rds w A bs) (nf : NoFault bs) (ht1 : 1 < byteAt bs 8) (N : Nat) (hN : N = totAt bs) :
    Calls Try.prog 24 #[.slice A n c] w (WroteOk (hdHop bs) (optsAt bs) (dataAt bs) N w) := by
  have HR := Lib.hid (read_ok w A n c bs hn hc h4 h nf)
  have hs := nf.sizes
  have hol := optsAt_len bs (by omega)
  have hdl := dataAt_len nf
  have ok : Hd.Ok ⟨byteAt bs 1, wordAt bs 4, dfAt bs, mfAt bs, offAt bs, byteAt bs 8 - 1, byteAt bs 9, addrAt bs 12, addrAt bs 16⟩ :=
    ⟨byteAt_lt _ _, wordAt_lt _ _, (hdOf_ok bs).off, by show byteAt bs 8 - 1 < 256; have := byteAt_lt bs 8; omega, byteAt_lt _ _, addrAt_lt _ _, addrAt_lt _ _⟩
  obtain ⟨ad, rfl⟩ := h.addr (by omega)
  have hb8 := byteAt_lt bs 8
  obtain ⟨b, hb⟩ : ∃ b, (if c = sizeAt bs then some ad else some (ad.add (sizeAt bs))) = some b := by split <;> exact ⟨_, rfl⟩
  have HD := Lib.hid (fun W (hf : Frm No w W) => (by
    have := ((h.frm hf (fun _ _ x => x)).take (totAt bs)).drop (sizeAt bs) c (by simp; omega) (some b) (by rw [← hb]; simp)
    exact this : Rds W (some b) (dataAt bs)))
  have HWR := Lib.hid (fun W (A' : Option Addr) (c' : Nat) (hc' : sizeAt bs - 20 ≤ c') (h1 : Rds W A' (optsAt bs)) (h2 : Rds W (some b) (dataAt bs)) (k : Nat) =>
    write_yes W (byteAt bs 1) (wordAt bs 4) (dfAt bs) (mfAt bs) (offAt bs) (byteAt bs 8 - 1) (byteAt bs 9) (addrAt bs 12) (addrAt bs 16) ok A' (some b) (sizeAt bs - 20) c' (totAt bs - sizeAt bs) k (optsAt bs) (dataAt bs) hol hdl h1 h2 hc' (fun h => by cases h) nf.right N (by omega))
  have hid : Hid (hdHop bs = ⟨byteAt bs 1, wordAt bs 4, dfAt bs, mfAt bs, offAt bs, byteAt bs 8 - 1, byteAt bs 9, addrAt bs 12, addrAt bs 16⟩) := rfl
  rw [hid.out]
  unfold ReadOk hdrV at HR
  obtain ⟨z, hz⟩ : ∃ z, sizeAt bs = z := ⟨_, rfl⟩
  obtain ⟨t, ht⟩ : ∃ z, totAt bs = z := ⟨_, rfl⟩
  obtain ⟨v1, hv1⟩ : ∃ q, byteAt bs 1 = q := ⟨_, rfl⟩
  obtain ⟨v8, hv8⟩ : ∃ q, byteAt bs 8 = q := ⟨_, rfl⟩
  obtain ⟨v9, hv9⟩ : ∃ q, byteAt bs 9 = q := ⟨_, rfl⟩
  obtain ⟨i4, hi4⟩ : ∃ q, wordAt bs 4 = q := ⟨_, rfl⟩
  obtain ⟨df, hdf⟩ : ∃ q, dfAt bs = q := ⟨_, rfl⟩
  obtain ⟨mf, hmf⟩ : ∃ q, mfAt bs = q := ⟨_, rfl⟩
  obtain ⟨f, hf⟩ : ∃ q, offAt bs = q := ⟨_, rfl⟩
  obtain ⟨sr, hsr⟩ : ∃ q, addrAt bs 12 = q := ⟨_, rfl⟩
  obtain ⟨ds, hds⟩ : ∃ q, addrAt bs 16 = q := ⟨_, rfl⟩
  obtain ⟨os, hos⟩ : ∃ q, optsAt bs = q := ⟨_, rfl⟩

  obtain ⟨o, ho⟩ : ∃ o, z - 20 = o := ⟨_, rfl⟩
  obtain ⟨m, hm⟩ : ∃ o, t - z = o := ⟨_, rfl⟩
  obtain ⟨v7, hv7⟩ : ∃ o, v8 - 1 = o := ⟨_, rfl⟩
  obtain ⟨dd, hdd⟩ : ∃ q, dataAt bs = q := ⟨_, rfl⟩
  rw [hz] at HR HWR hb hs
  rw [hv1, hv8, hv9, hi4, hdf, hmf, hf, hsr, hds, hos, ho, ht] at HR
  rw [hv1, hv8, hv9, hi4, hdf, hmf, hf, hsr, hds, hos, ho, ht, hm, hv7, hdd] at HWR
  rw [hdd] at HD
  rw [hv8] at ht1 hb8
  rw [ht] at hs
  rw [hv1, hi4, hdf, hmf, hf, hv8, hv9, hsr, hds, hos, hdd, hv7]
  have g8 : ¬ (v8 : Int) ≤ 1 := by omega
  have g7 : IntKind.u8.wrap ((v8 : Int) - 1) = (v7 : Int) := by
    have e : IntKind.u8.wrap ((v8 : Int) - 1) = ((v8 : Int) - 1) % 256 := rfl
    rw [e]; omega
  have m1 : (z : Int) ≤ t := by omega
  have m2 : (t : Int) ≤ c := by omega
  have m3 : (z : Int) ≤ c := by omega
  have m4 : (t : Int) - z = (m : Int) := by omega
  have m5 : t - z = m := hm
  have m6 : 0 < z := by omega
  clear h hn hc h4 nf ht1 hb8 hz ht hv1 hv8 hv9 hi4 hdf hmf hf hsr hds hos ho hs hol hdl ok hm hv7 hdd hN
  go_enter Try.func24, Try.ntmps24
  go_wp2_with fail
  refine HR.out.mono ?_
  rintro e w1 ⟨g, c1, rfl, hrow, hf⟩
  have F1 := Lib.hid hf
  have R1 := Lib.hid hrow
  obtain ⟨W2, hW2⟩ : ∃ W, W = w1.alloc (.cells #[.int .u8 (v1 : Int), .int .u16 (i4 : Int), .bool df, .bool mf, .int .i64 (f : Int), .int .u8 (v8 : Int), .int .u8 (v9 : Int), .int .u32 (sr : Int), .int .u32 (ds : Int), .slice (some ⟨g, 0, none⟩) o c1] 28) := ⟨_, rfl⟩
  have F2 : Hid (Frm No w W2) := by show Frm No w W2; rw [hW2]; exact F1.out.alloc _
  have T2 : Hid (Blk W2 w1.heap.size 28 #[.int .u8 (v1 : Int), .int .u16 (i4 : Int), .bool df, .bool mf, .int .i64 (f : Int), .int .u8 (v8 : Int), .int .u8 (v9 : Int), .int .u32 (sr : Int), .int .u32 (ds : Int), .slice (some ⟨g, 0, none⟩) o c1]) := by show Blk W2 _ _ _; rw [hW2]; exact Blk.new w1 28 _
  have R2 : Hid (Rds W2 (some ⟨g, 0, none⟩) os) := by show Rds W2 _ _; rw [hW2]; exact R1.out.rds.alloc _
  have hgb : g < w1.heap.size := R1.out.cap.2.2
  have hoc : o ≤ c1 := R1.out.cap.1
  have hsz := F1.out.size
  clear hrow hf
  go_upto_region 2 with fail
  rw [← hW2]
  obtain ⟨hbk, hhb⟩ : ∃ b, b = w1.heap.size := ⟨_, rfl⟩
  rw [← hhb] at T2 hgb hsz ⊢
  clear hW2 F1 R1 hhb HR
  obtain ⟨b0, b1, b2, b3, b4, b5, b6, b7, b8, b9⟩ := blk10 T2.out
  have e5 := T2.out.frozen 5
  have T3 := Lib.hid (one10_5 T2.out (.int .u8 (v7 : Int)))
  have F3 := Lib.hid (F2.out.setCell (p := ⟨hbk, 5, none⟩) (fun hx => absurd hx (by show ¬ hbk < w.heap.size; omega)) (.int .u8 (v7 : Int)))
  have R3 := Lib.hid (R2.out.frm ((Frm.refl (One hbk) W2).set1 5 (.int .u8 (v7 : Int))) (fun k hk => by
    have : g = k := by simpa [blk] using hk
    intro h1
    have h1 : k = hbk := h1
    omega))
  go_upto_region 7 with fail
  obtain ⟨W3, hW3⟩ : ∃ W, W = W2.setCell ⟨hbk, 5, none⟩ (.int .u8 (v7 : Int)) := ⟨_, rfl⟩
  rw [← hW3] at T3 F3 R3 ⊢
  clear hW3 b0 b1 b2 b3 b4 b5 b6 b7 b8 b9 e5 T2 F2 R2
  obtain ⟨b0, b1, b2, b3, b4, b5, b6, b7, b8, b9⟩ := blk10 T3.out
  have D3 := Lib.hid (HD.out W3 F3.out)
  have TC := Lib.hid (fun W (hf : Frm No W3.drew W) => blk10 (T3.out.frm (w' := W) (w := W3.drew) hf (fun x => x)))
  go_region_held3 (fun W => W.cell? ⟨hbk, 0, none⟩ = some (.int .u8 (v1 : Int)) ∧ W.cell? ⟨hbk, 1, none⟩ = some (.int .u16 (i4 : Int)) ∧ W.cell? ⟨hbk, 2, none⟩ = some (.bool df) ∧ W.cell? ⟨hbk, 3, none⟩ = some (.bool mf) ∧ W.cell? ⟨hbk, 4, none⟩ = some (.int .i64 (f : Int)) ∧ W.cell? ⟨hbk, 5, none⟩ = some (.int .u8 (v7 : Int)) ∧ W.cell? ⟨hbk, 6, none⟩ = some (.int .u8 (v9 : Int)) ∧ W.cell? ⟨hbk, 7, none⟩ = some (.int .u32 (sr : Int)) ∧ W.cell? ⟨hbk, 8, none⟩ = some (.int .u32 (ds : Int)) ∧ W.cell? ⟨hbk, 9, none⟩ = some (.slice (some ⟨g, 0, none⟩) o c1)) (first | go_keep | assumption)
    (first
      | (go_at_call 17; (with_reducible refine (HWR.out _ _ _ hoc ?_ ?_ _).mono ?_); exact R3.out; exact D3.out; rintro e w' ⟨g2, c2, rfl, hrow, hf⟩; have FC := Lib.hid (Frm.new0 (F3.out.drew) hf); have RC := Lib.hid hrow; have _ := TC.out w' hf; clear hf hrow))
  go_wp2_with fail
  go_ret2
  exact ⟨g2, c2, rfl, own_more RC.out (by have := F3.out.size; exact this), FC.out⟩
end Go.Proofs.Ytcclneaabnpbkaa
