/-
  IpAgain answers true: what is read, and written again, are the same bytes.
-/
import Derived.Test.YtcclneaabnpbkaaAg
import Derived.Test.YtcclneaabnpbkaaA2
namespace Go.Proofs.Ytcclneaabnpbkaa
open Go.RowKit
attribute [local go_sem] undef

theorem same_zero (w : World) : Calls Try.prog 23 #[.agg #[.int .u8 0, .int .u16 0, .bool false, .bool false, .int .i64 0, .int .u8 0, .int .u8 0, .int .u32 0, .int .u32 0, .slice none 0 0], .agg #[.int .u8 0, .int .u16 0, .bool false, .bool false, .int .i64 0, .int .u8 0, .int .u8 0, .int .u32 0, .int .u32 0, .slice none 0 0]] w (BoolNo true w) :=
  same_yes w 0 0 0 0 0 0 0 false false none none 0 0 0 [] rfl (Rds.nil _ _) (Rds.nil _ _) (by omega)

set_option maxRecDepth 100000 in
set_option maxHeartbeats 1000000 in
theorem again_long (w : World) (A : Option Addr) (n c : Nat) (hn : 400 < n) :
    Calls Try.prog 7 #[.slice A n c] w (BoolNo true w) := by
  have g : (400 : Int) < n := by omega
  go_enter Try.func7, Try.ntmps7
  go_wp2_with fail
  refine (awake w).mono ?_
  rintro e w1 ⟨rfl, hf⟩
  have F1 := Lib.hid hf
  clear hf
  go_wp2_with fail
  go_ret
  exact ⟨rfl, F1.out⟩

set_option maxRecDepth 100000 in
set_option maxHeartbeats 4000000 in
theorem again_bad (w : World) (A : Option Addr) (n c : Nat) (bs : List UInt8) (hn : bs.length = n) (hc : n ≤ c) (h4 : n ≤ 400) (h : Rds w A bs) (k : Nat) (hk : faultB bs = k) (h0 : k ≠ 0) :
    Calls Try.prog 7 #[.slice A n c] w (BoolNo true w) := by
  have g : ¬ (400 : Int) < n := by omega
  have H := Lib.hid h
  have HR := Lib.hid (fun W (hf : Frm No w W) => read_bad W A n c bs hn hc (by omega) (H.out.frm hf (fun _ _ x => x)) k k rfl hk h0)
  have g0 : ((k : Int) != 0) = true := by simp; omega
  clear h hn hk h0 hc h4
  go_enter Try.func7, Try.ntmps7
  go_wp2_with fail
  refine (awake w).mono ?_
  rintro e w1 ⟨rfl, hf⟩
  have F1 := Lib.hid hf
  clear hf
  go_wp2_with fail
  refine (HR.out w1 F1.out).mono ?_
  rintro e w2 ⟨rfl, hf⟩
  have F2 := Lib.hid (F1.out.new0 hf)
  clear hf
  go_wp2_with fail
  refine (same_zero _).mono ?_
  rintro e w3 ⟨rfl, hf⟩
  have F3 := Lib.hid ((F2.out.alloc _).new0 hf)
  clear hf
  go_wp2_with fail
  go_ret
  exact ⟨rfl, F3.out⟩

theorem was_len (bs : List UInt8) : (was bs).length = bs.length := by
  unfold was
  split <;> simp

set_option maxRecDepth 100000 in
set_option maxHeartbeats 8000000 in
theorem again_yes (w : World) (A : Option Addr) (n c : Nat) (bs : List UInt8) (hn : bs.length = n) (hc : n ≤ c) (h4 : n ≤ 400) (h : Rds w A bs) (nf : NoFault bs) :
    Calls Try.prog 7 #[.slice A n c] w (BoolNo true w) := by
  have g : ¬ (400 : Int) < n := by omega
  have hs := nf.sizes
  have H := Lib.hid h
  obtain ⟨ad, rfl⟩ := h.addr (by omega)
  have HR := Lib.hid (fun W (hf : Frm No w W) => read_ok W (some ad) n c bs hn hc (by omega) (H.out.frm hf (fun _ _ x => x)) nf)
  have hol := optsAt_len bs (by omega)
  have hdl := dataAt_len nf
  obtain ⟨b, hb⟩ : ∃ b, (if c = sizeAt bs then some ad else some (ad.add (sizeAt bs))) = some b := by split <;> exact ⟨_, rfl⟩
  have HD := Lib.hid (fun W (hf : Frm No w W) => (by
    have := ((h.frm hf (fun _ _ x => x)).take (totAt bs)).drop (sizeAt bs) c (by simp; omega) (some b) (by rw [← hb]; simp)
    exact this : Rds W (some b) (dataAt bs)))
  have HRT := Lib.hid (fun W (V : Option Addr) (k : Nat) => right20 W (byteAt bs 1 : Int) (wordAt bs 4 : Int) (offAt bs : Int) (byteAt bs 8 : Int) (byteAt bs 9 : Int) (addrAt bs 12 : Int) (addrAt bs 16 : Int) (dfAt bs) (mfAt bs) V (sizeAt bs - 20) k ((totAt bs - sizeAt bs : Nat) : Int) (by omega) (by have := (hdOf_ok bs).off; show -9223372036854775808 ≤ ((hdOf bs).off : Int) ∧ ((hdOf bs).off : Int) ≤ 9223372036854775807; omega))
  rw [nf.right] at HRT
  have HWR := Lib.hid (fun W (A' : Option Addr) (c' : Nat) (hc' : sizeAt bs - 20 ≤ c') (h1 : Rds W A' (optsAt bs)) (h2 : Rds W (some b) (dataAt bs)) (k : Nat) =>
    write_yes W (byteAt bs 1) (wordAt bs 4) (dfAt bs) (mfAt bs) (offAt bs) (byteAt bs 8) (byteAt bs 9) (addrAt bs 12) (addrAt bs 16) (hdOf_ok bs) A' (some b) (sizeAt bs - 20) c' (totAt bs - sizeAt bs) k (optsAt bs) (dataAt bs) hol hdl h1 h2 hc' (fun h => by cases h) nf.right (totAt bs) (by omega))
  unfold WroteOk at HWR
  have hpk : pkt ⟨byteAt bs 1, wordAt bs 4, dfAt bs, mfAt bs, offAt bs, byteAt bs 8, byteAt bs 9, addrAt bs 12, addrAt bs 16⟩ (optsAt bs) (dataAt bs) = was (bs.take (totAt bs)) := again_same nf
  rw [hpk] at HWR
  have hxl : (bs.take (totAt bs)).length = totAt bs := by rw [List.length_take]; omega
  have HX := Lib.hid (fun W (hf : Frm No w W) => (H.out.frm hf (fun _ _ x => x)).take (totAt bs))
  unfold ReadOk hdrV at HR
  obtain ⟨z, hz⟩ : ∃ z, sizeAt bs = z := ⟨_, rfl⟩
  obtain ⟨t, ht⟩ : ∃ z, totAt bs = z := ⟨_, rfl⟩
  obtain ⟨v1, hv1⟩ : ∃ q, byteAt bs 1 = q := ⟨_, rfl⟩
  obtain ⟨v8, hv8⟩ : ∃ q, byteAt bs 8 = q := ⟨_, rfl⟩
  obtain ⟨v9, hv9⟩ : ∃ q, byteAt bs 9 = q := ⟨_, rfl⟩
  obtain ⟨i4, hi4⟩ : ∃ q, wordAt bs 4 = q := ⟨_, rfl⟩
  obtain ⟨df, hdf⟩ : ∃ q, dfAt bs = q := ⟨_, rfl⟩
  obtain ⟨mf, hmf⟩ : ∃ q, mfAt bs = q := ⟨_, rfl⟩
  obtain ⟨f, hf⟩ : ∃ q, offAt bs = q := ⟨_, rfl⟩
  obtain ⟨sr, hsr⟩ : ∃ q, addrAt bs 12 = q := ⟨_, rfl⟩
  obtain ⟨ds, hds⟩ : ∃ q, addrAt bs 16 = q := ⟨_, rfl⟩
  obtain ⟨os, hos⟩ : ∃ q, optsAt bs = q := ⟨_, rfl⟩

  obtain ⟨o, ho⟩ : ∃ o, z - 20 = o := ⟨_, rfl⟩
  obtain ⟨m, hm⟩ : ∃ o, t - z = o := ⟨_, rfl⟩
  obtain ⟨dd, hdd⟩ : ∃ q, dataAt bs = q := ⟨_, rfl⟩
  obtain ⟨X, hX⟩ : ∃ q, bs.take (totAt bs) = q := ⟨_, rfl⟩
  rw [hX] at HWR HX hxl
  rw [hz] at HR HWR HRT hb hs
  rw [hv1, hv8, hv9, hi4, hdf, hmf, hf, hsr, hds, hos, ho, ht] at HR
  rw [hv1, hv8, hv9, hi4, hdf, hmf, hf, hsr, hds, hos, ho, ht, hm, hdd] at HWR
  rw [hv1, hv8, hv9, hi4, hdf, hmf, hf, hsr, hds, ho, ht, hm] at HRT
  rw [hdd] at HD
  rw [ht] at hs hxl
  have m1 : (z : Int) ≤ t := by omega
  have m2 : (t : Int) ≤ c := by omega
  have m3 : (z : Int) ≤ c := by omega
  have m4 : IntKind.i64.wrap ((t : Int) - z) = (m : Int) := by rw [IntWalk.i64_in] <;> omega
  have m5 : t - z = m := hm
  have m6 : ¬ (z : Int) < 20 := by omega
  have m7 : ¬ (t : Int) < z := by omega
  have m8 : ¬ (n : Int) < t := by omega
  have m9 : (0 : Int) ≤ t := by omega
  have t20 : 20 ≤ t := by omega
  have t400 : t ≤ 400 := by omega
  have HXL := Lib.hid hxl
  have hwl : Hid ((was X).length = t) := by show _ = _; rw [was_len, hxl]
  have n7 : decide (t < z) = false := decide_eq_false (by omega)
  have n8 : decide (n < t) = false := decide_eq_false (by omega)
  clear h hn hc h4 nf hz ht hv1 hv8 hv9 hi4 hdf hmf hf hsr hds hos ho hs hol hdl hm hdd hX hxl hpk
  go_enter Try.func7, Try.ntmps7
  go_wp2_with fail
  refine (awake w).mono ?_
  rintro e w1 ⟨rfl, hf⟩
  have F1 := Lib.hid hf
  clear hf
  go_wp2_with fail
  refine (HR.out w1 F1.out).mono ?_
  rintro e w2 ⟨g1, c1, rfl, hrow, hf⟩
  obtain ⟨W2, hW2⟩ : ∃ W, W = w2.alloc (.cells #[.int .u8 (v1 : Int), .int .u16 (i4 : Int), .bool df, .bool mf, .int .i64 (f : Int), .int .u8 (v8 : Int), .int .u8 (v9 : Int), .int .u32 (sr : Int), .int .u32 (ds : Int), .slice (some ⟨g1, 0, none⟩) o c1] 28) := ⟨_, rfl⟩
  have F2 : Hid (Frm No w W2) := by show Frm No w W2; rw [hW2]; exact (F1.out.new0 hf).alloc _
  have T2 : Hid (Blk W2 w2.heap.size 28 #[.int .u8 (v1 : Int), .int .u16 (i4 : Int), .bool df, .bool mf, .int .i64 (f : Int), .int .u8 (v8 : Int), .int .u8 (v9 : Int), .int .u32 (sr : Int), .int .u32 (ds : Int), .slice (some ⟨g1, 0, none⟩) o c1]) := by show Blk W2 _ _ _; rw [hW2]; exact Blk.new w2 28 _
  have R2 : Hid (Rds W2 (some ⟨g1, 0, none⟩) os) := by show Rds W2 _ _; rw [hW2]; exact hrow.rds.alloc _
  have hoc : o ≤ c1 := hrow.cap.1
  clear hrow hf
  go_upto_region 6 with fail
  rw [← hW2]
  obtain ⟨hbk, hhb⟩ : ∃ b, b = w2.heap.size := ⟨_, rfl⟩
  rw [← hhb] at T2 ⊢
  clear hW2 F1 hhb HR
  obtain ⟨b0, b1, b2, b3, b4, b5, b6, b7, b8, b9⟩ := blk10 T2.out
  go_wp2_with fail
  refine (HRT.out _ _ _).mono ?_
  rintro e w3 ⟨rfl, hf⟩
  have F3 := Lib.hid (F2.out.new0 hf)
  have T3 := Lib.hid (T2.out.frm hf (fun x => x))
  have R3 := Lib.hid (R2.out.frm hf (fun _ _ x => x))
  clear hf b0 b1 b2 b3 b4 b5 b6 b7 b8 b9 F2 T2 R2 HRT
  obtain ⟨b0, b1, b2, b3, b4, b5, b6, b7, b8, b9⟩ := blk10 T3.out
  have D3 := Lib.hid (HD.out w3 F3.out)
  have TC := Lib.hid (fun W (hf : Frm No w3.drew W) => blk10 (T3.out.frm (w' := W) (w := w3.drew) hf (fun x => x)))
  go_upto_region 10 with fail
  go_region_held3 (fun W => W.cell? ⟨hbk, 0, none⟩ = some (.int .u8 (v1 : Int)) ∧ W.cell? ⟨hbk, 1, none⟩ = some (.int .u16 (i4 : Int)) ∧ W.cell? ⟨hbk, 2, none⟩ = some (.bool df) ∧ W.cell? ⟨hbk, 3, none⟩ = some (.bool mf) ∧ W.cell? ⟨hbk, 4, none⟩ = some (.int .i64 (f : Int)) ∧ W.cell? ⟨hbk, 5, none⟩ = some (.int .u8 (v8 : Int)) ∧ W.cell? ⟨hbk, 6, none⟩ = some (.int .u8 (v9 : Int)) ∧ W.cell? ⟨hbk, 7, none⟩ = some (.int .u32 (sr : Int)) ∧ W.cell? ⟨hbk, 8, none⟩ = some (.int .u32 (ds : Int)) ∧ W.cell? ⟨hbk, 9, none⟩ = some (.slice (some ⟨g1, 0, none⟩) o c1)) (first | go_keep | assumption)
    (first
      | (go_at_call 17; (with_reducible refine (HWR.out _ _ _ hoc ?_ ?_ _).mono ?_); exact R3.out; exact D3.out; rintro e w' ⟨g2, c2, rfl, hrow, hf⟩; have FC := Lib.hid (Frm.new0 (F3.out.drew) hf); have RC := Lib.hid hrow; have _ := TC.out w' hf; clear hf hrow))
  clear b0 b1 b2 b3 b4 b5 b6 b7 b8 b9 F3 T3 R3 D3 TC HWR HD m1 m3 m4 m6 m7 m8 n7 n8
  have XR := Lib.hid (HX.out _ FC.out)
  have HRC : Hid (Row w' 0 g2 t c2 (was X)) := own_more RC.out (Nat.zero_le _)
  clear RC HX
  go_upto_region 12 with (at_builtin; refine wpList_append_bytes rfl (.tmp 62) (.tmp 65) rfl w'.heap.size _ 0 [] rfl (row_made w' w'.heap.size 0 [] rfl (Nat.le_refl _) (by omega)) (some ad) t c X rfl HXL.out (XR.out.alloc _) (fun h => by cases h) (by omega) (by simp) ?_; intro V5 w5 hown5 hgr5; obtain ⟨g5, c5, rfl, hrow5⟩ := Row.of_own hown5 (by omega); have F5 := Lib.hid (((Frm.refl No w').alloc _).trans (Frm.of_grown hgr5) (fun i hi hs => by have hs' : some w'.heap.size = some i := hs; injection hs' with hs'; omega)); have R5 := Lib.hid hrow5; clear hown5 hgr5 hrow5)
  have FF := Lib.hid (FC.out.new0 F5.out)
  have RA := Lib.hid (HRC.out.frm F5.out (fun x => x))
  have e0 : 0 + t = t := Nat.zero_add t
  have hg5 : w.heap.size ≤ g5 := Nat.le_trans FC.out.size R5.out.cap.2.1
  have hgg : ¬ g2 = g5 := by
    have h1 := R5.out.cap.2.1
    have h2 := HRC.out.cap.2.2
    omega
  have RX : Hid (Row w5 0 g5 t c5 X) := by
    have h1 := own_more R5.out (Nat.zero_le _)
    rw [e0, List.nil_append] at h1
    exact h1
  have hc5 : t ≤ c5 := RX.out.cap.1
  have HSM := Lib.hid (fun W (h1 : Rds W (some ⟨g2, 0, none⟩) (was X)) (h2 : Rds W (some ⟨g5, 0, none⟩) (was X)) => sames_any W (some ⟨g2, 0, none⟩) (some ⟨g5, 0, none⟩) c2 c5 (was X) (was X) h1 h2 (by rw [hwl.out]; omega))
  rw [hwl.out, show decide (was X = was X) = true from decide_eq_true rfl] at HSM
  have x10 : X.getD 10 0 = X[10]'(by rw [HXL.out]; omega) := getD_at _
  have x11 : X.getD 11 0 = X[11]'(by rw [HXL.out]; omega) := getD_at _
  have k10 := RX.out.cell 10 (by rw [HXL.out]; omega)
  have k11 := RX.out.cell 11 (by rw [HXL.out]; omega)
  rw [← x10] at k10
  rw [← x11] at k11
  have f10 := RX.out.frozen 10
  have f11 := RX.out.frozen 11
  have j10 : (10 : Int) < t := by omega
  have j11 : (11 : Int) < t := by omega
  clear x10 x11 R5 F5 HRC FC XR e0
  obtain ⟨p, hp⟩ : ∃ p, X.getD 10 0 = p := ⟨_, rfl⟩
  obtain ⟨q, hq⟩ : ∃ p, X.getD 11 0 = p := ⟨_, rfl⟩
  rw [hp] at k10
  rw [hq] at k11
  have HP := Lib.hid hp
  have HQ := Lib.hid hq
  clear hp hq
  unfold byt at k10 k11
  have u255 : ∀ a : UInt8, ((a.toNat : Int) == 255) = decide (a = 255) := by
    intro a
    by_cases h : a = 255
    · subst h; rfl
    · rw [decide_eq_false h]
      have : a.toNat ≠ 255 := fun h2 => h (UInt8.toNat_inj.1 h2)
      simp
      omega
  by_cases hp : p = 255
  · have gp : ((p.toNat : Int) == 255) = true := by rw [u255, decide_eq_true hp]
    by_cases hq : q = 255
    · have gq : ((q.toNat : Int) == 255) = true := by rw [u255, decide_eq_true hq]
      have hw : was X = (X.set 10 0).set 11 0 := by unfold was; rw [HP.out, HQ.out, if_pos ⟨hp, hq⟩]
      have S1 := Lib.hid (RX.out.set 10 0 (.int .u8 0) rfl)
      have S2 := Lib.hid (S1.out.set 11 0 (.int .u8 0) rfl)
      have n11 := S1.out.cell 11 (by simp; rw [HXL.out]; omega)
      have m11 := S1.out.frozen 11
      have RA2 := Lib.hid (RA.out.frm (((Frm.refl (One g5) w5).set1 10 (.int .u8 0)).set1 11 (.int .u8 0)) hgg)
      have FF2 := Lib.hid ((FF.out.setCell (p := ⟨g5, 10, none⟩) (fun hx => absurd hx (by show ¬ g5 < w.heap.size; omega)) (.int .u8 0)).setCell (p := ⟨g5, 11, none⟩) (fun hx => absurd hx (by show ¬ g5 < w.heap.size; omega)) (.int .u8 0))
      rw [← hw] at S2
      clear hw hp hq u255
      go_wp2_with fail
      refine (HSM.out _ RA2.out.rds S2.out.rds).mono ?_
      rintro e w6 ⟨rfl, k6, rfl⟩
      go_wp2_with fail
      go_ret
      exact ⟨rfl, FF2.out.drewN k6⟩
    · have gq : ((q.toNat : Int) == 255) = false := by rw [u255, decide_eq_false hq]
      have hw : was X = X := by unfold was; rw [HP.out, HQ.out, if_neg (fun h => hq h.2)]
      have RXW : Hid (Rds w5 (some ⟨g5, 0, none⟩) (was X)) := by show Rds _ _ _; rw [hw]; exact RX.out.rds
      clear hw hp hq u255
      go_wp2_with fail
      refine (HSM.out _ RA.out.rds RXW.out).mono ?_
      rintro e w6 ⟨rfl, k6, rfl⟩
      go_wp2_with fail
      go_ret
      exact ⟨rfl, FF.out.drewN k6⟩
  · have gp : ((p.toNat : Int) == 255) = false := by rw [u255, decide_eq_false hp]
    have hw : was X = X := by unfold was; rw [HP.out, HQ.out, if_neg (fun h => hp h.1)]
    have RXW : Hid (Rds w5 (some ⟨g5, 0, none⟩) (was X)) := by show Rds _ _ _; rw [hw]; exact RX.out.rds
    clear hw hp u255
    go_wp2_with fail
    refine (HSM.out _ RA.out.rds RXW.out).mono ?_
    rintro e w6 ⟨rfl, k6, rfl⟩
    go_wp2_with fail
    go_ret
    exact ⟨rfl, FF.out.drewN k6⟩
end Go.Proofs.Ytcclneaabnpbkaa
