/-
  reads for any bytes.
-/
import Derived.Test.YtcclneaabnpbkaaRD
import Derived.Test.YtcclneaabnpbkaaAg
import Derived.Test.YtcclneaabnpbkaaWW

/- Hs -/
namespace Go.Proofs.Ytcclneaabnpbkaa
open Go.RowKit

theorem fix_put (xs ys : List UInt8) (h : ∀ a b, putAt xs 10 a b = putAt ys 10 a b) : fixOf xs 10 = fixOf ys 10 := by
  unfold fixOf
  rw [h, h]
theorem hop_put (h : Hd) (R : List UInt8) (z t c n : Nat) (hz : z = 20 + R.length) (ht : t = 20 + R.length + n) (a b : UInt8) :
    putAt ((head20 h z t c ++ R).set 8 (UInt8.ofNat (h.ttl - 1))) 10 a b = putAt (bare ⟨h.tos, h.id, h.df, h.mf, h.off, h.ttl - 1, h.pro, h.src, h.dst⟩ R n) 10 a b := by
  subst hz
  subst ht
  rfl
/-- What the document's hop makes of some bytes. -/
def hopBs (bs : List UInt8) (x : UInt8) : List UInt8 := (bs.take (totAt bs)).set 8 x
theorem hop_same {bs : List UInt8} (nf : NoFault bs) (x : UInt8) (hx : x = UInt8.ofNat (byteAt bs 8 - 1)) :
    fixOf ((hopBs bs x).take (sizeAt bs)) 10 ++ (hopBs bs x).drop (sizeAt bs) = pkt (hdHop bs) (optsAt bs) (dataAt bs) := by
  have hs := nf.sizes
  have hol := optsAt_len bs (by omega)
  have hdl := dataAt_len nf
  have e1 : (hopBs bs x).take (sizeAt bs) = (bs.take (sizeAt bs)).set 8 x := by
    unfold hopBs
    rw [List.take_set, List.take_take, Nat.min_eq_left hs.2.1]
  have e2 : (hopBs bs x).drop (sizeAt bs) = dataAt bs := by
    unfold hopBs dataAt
    rw [List.drop_set_of_lt (by omega)]
  rw [e1, e2, head_back nf, hx]
  unfold pkt
  congr 1
  exact fix_put _ _ (hop_put (hdOf bs) (optsAt bs) (sizeAt bs) (totAt bs) (wordAt bs 10) (dataAt bs).length (by omega) (by omega))
end Go.Proofs.Ytcclneaabnpbkaa

/- Rz -/
namespace Go.Proofs.Ytcclneaabnpbkaa
open Go.RowKit
attribute [local go_sem] undef

/-- What Read answers, with or without a fault. -/
def ReadV (v1 id : Nat) (df mf : Bool) (off ttl pro src dst o z t : Nat) (er : Int) (os : List UInt8) (w : World) (e : Ending) (w' : World) : Prop :=
  ∃ A' c', e = .returned (.tuple #[.agg #[.int .u8 (v1 : Int), .int .u16 (id : Int), .bool df, .bool mf, .int .i64 (off : Int), .int .u8 (ttl : Int), .int .u8 (pro : Int), .int .u32 (src : Int), .int .u32 (dst : Int), .slice A' o c'], .int .i64 (z : Int), .int .i64 (t : Int), .int .i64 er]) ∧ w'.ownsRow w.heap.size 5 1 (.slice A' o c') o (byts os) ∧ Frm No w w'
theorem own_nil (w : World) (b : Nat) : w.ownsRow b 5 1 (.slice none 0 0) 0 (byts []) := ⟨by simp [byts], .inl ⟨rfl, rfl⟩⟩
theorem readV_bad {k : Int} {w w' : World} {e : Ending} (h : ReadBad k w e w') : ReadV 0 0 false false 0 0 0 0 0 0 0 0 k [] w e w' := ⟨none, 0, h.1, own_nil _ _, h.2⟩
theorem readV_ref {bs : List UInt8} {w w' : World} {e : Ending} (h : RefRead bs w e w') : ReadV (byteAt bs 1) (wordAt bs 4) (dfAt bs) (mfAt bs) (offAt bs) (byteAt bs 8) (byteAt bs 9) (addrAt bs 12) (addrAt bs 16) (sizeAt bs - 20) (sizeAt bs) (totAt bs) 0 (optsAt bs) w e w' := h
theorem readV_ok {bs : List UInt8} {w w' : World} {e : Ending} (h : ReadOk bs w e w') : ReadV (byteAt bs 1) (wordAt bs 4) (dfAt bs) (mfAt bs) (offAt bs) (byteAt bs 8) (byteAt bs 9) (addrAt bs 12) (addrAt bs 16) (sizeAt bs - 20) (sizeAt bs) (totAt bs) 0 (optsAt bs) w e w' := by
  obtain ⟨g, c, h1, h2, h3⟩ := h
  exact ⟨some ⟨g, 0, none⟩, c, h1, h2, h3⟩
/-- What Hop and Turn answer. -/
def OutV (N : Nat) (xs : List UInt8) (er : Int) (w : World) (e : Ending) (w' : World) : Prop :=
  ∃ A c, e = .returned (.tuple #[.slice A N c, .int .i64 er]) ∧ w'.ownsRow w.heap.size 5 1 (.slice A N c) N (byts xs) ∧ Frm No w w'
theorem outV_no {k : Int} {w w' : World} {e : Ending} (h : ErrNo k w e w') : OutV 0 [] k w e w' := ⟨none, 0, h.1, own_nil _ _, h.2⟩
theorem outV_hop {h : Hd} {opts data : List UInt8} {N : Nat} {w w' : World} {e : Ending} (hh : WroteOk h opts data N w e w') : OutV N (pkt h opts data) 0 w e w' := by
  obtain ⟨g, c, h1, h2, h3⟩ := hh
  exact ⟨_, c, h1, h2, h3⟩
theorem outV_turn {bs : List UInt8} {N : Nat} {w w' : World} {e : Ending} (hh : TurnOk bs N w e w') : OutV N (turnOf bs) 0 w e w' := by
  obtain ⟨g, c, h1, h2, h3⟩ := hh
  exact ⟨_, c, h1, h2, h3⟩

set_option maxRecDepth 100000 in
set_option maxHeartbeats 1000000 in
theorem refHop_bad (w : World) (A : Option Addr) (n c : Nat) (bs : List UInt8) (hn : bs.length = n) (hc : n ≤ c) (h4 : n ≤ 400) (h : Rds w A bs) (k : Nat) (hk : faultB bs = k) (h0 : k ≠ 0) :
    Calls Try.prog 30 #[.slice A n c] w (ErrNo k w) := by
  have HR := Lib.hid (refRead_bad w A n c bs hn hc h4 h k k rfl hk h0)
  have g0 : ((k : Int) != 0) = true := by simp; omega
  clear h hn hk h0 hc h4
  go_enter Try.func30, Try.ntmps30
  go_wp2_with fail
  refine HR.out.mono ?_
  rintro e w1 ⟨rfl, hf⟩
  have F1 := Lib.hid hf
  clear hf
  go_wp2_with fail
  go_ret2
  exact ⟨rfl, F1.out.alloc _⟩

set_option maxRecDepth 100000 in
set_option maxHeartbeats 1000000 in
theorem refTurn_bad (w : World) (A : Option Addr) (n c : Nat) (bs : List UInt8) (hn : bs.length = n) (hc : n ≤ c) (h4 : n ≤ 400) (h : Rds w A bs) (k : Nat) (hk : faultB bs = k) (h0 : k ≠ 0) :
    Calls Try.prog 31 #[.slice A n c] w (ErrNo k w) := by
  have HR := Lib.hid (refRead_bad w A n c bs hn hc h4 h k k rfl hk h0)
  have g0 : ((k : Int) != 0) = true := by simp; omega
  clear h hn hk h0 hc h4
  go_enter Try.func31, Try.ntmps31
  go_wp2_with fail
  refine HR.out.mono ?_
  rintro e w1 ⟨rfl, hf⟩
  have F1 := Lib.hid hf
  clear hf
  go_wp2_with fail
  go_ret2
  exact ⟨rfl, F1.out.alloc _⟩

set_option maxRecDepth 100000 in
set_option maxHeartbeats 1000000 in
theorem refHop_ttl (w : World) (A : Option Addr) (n c : Nat) (bs : List UInt8) (hn : bs.length = n) (hc : n ≤ c) (h4 : n ≤ 400) (h : Rds w A bs) (nf : NoFault bs) (ht1 : byteAt bs 8 ≤ 1) :
    Calls Try.prog 30 #[.slice A n c] w (ErrNo 57 w) := by
  have HR := Lib.hid (refRead_ok w A n c bs hn hc h4 h nf)
  unfold RefRead RefOk at HR
  obtain ⟨z, hz⟩ : ∃ z, sizeAt bs = z := ⟨_, rfl⟩
  obtain ⟨t, ht⟩ : ∃ z, totAt bs = z := ⟨_, rfl⟩
  obtain ⟨v1, hv1⟩ : ∃ q, byteAt bs 1 = q := ⟨_, rfl⟩
  obtain ⟨v8, hv8⟩ : ∃ q, byteAt bs 8 = q := ⟨_, rfl⟩
  obtain ⟨v9, hv9⟩ : ∃ q, byteAt bs 9 = q := ⟨_, rfl⟩
  obtain ⟨i4, hi4⟩ : ∃ q, wordAt bs 4 = q := ⟨_, rfl⟩
  obtain ⟨df, hdf⟩ : ∃ q, dfAt bs = q := ⟨_, rfl⟩
  obtain ⟨mf, hmf⟩ : ∃ q, mfAt bs = q := ⟨_, rfl⟩
  obtain ⟨f, hf⟩ : ∃ q, offAt bs = q := ⟨_, rfl⟩
  obtain ⟨sr, hsr⟩ : ∃ q, addrAt bs 12 = q := ⟨_, rfl⟩
  obtain ⟨ds, hds⟩ : ∃ q, addrAt bs 16 = q := ⟨_, rfl⟩
  obtain ⟨os, hos⟩ : ∃ q, optsAt bs = q := ⟨_, rfl⟩

  obtain ⟨o, ho⟩ : ∃ o, z - 20 = o := ⟨_, rfl⟩
  rw [hz] at HR
  rw [hv1, hv8, hv9, hi4, hdf, hmf, hf, hsr, hds, hos, ho, ht] at HR
  rw [hv8] at ht1
  have g8 : (v8 : Int) < 2 := by omega
  clear h hn hc h4 nf ht1 hz ht hv1 hv8 hv9 hi4 hdf hmf hf hsr hds hos ho
  go_enter Try.func30, Try.ntmps30
  go_wp2_with fail
  refine HR.out.mono ?_
  rintro e w1 ⟨A1, c1, rfl, _, hf⟩
  have F1 := Lib.hid hf
  clear hf
  go_wp2_with fail
  go_ret2
  exact ⟨rfl, F1.out.alloc _⟩

end Go.Proofs.Ytcclneaabnpbkaa

/- Ha -/
namespace Go.Proofs.Ytcclneaabnpbkaa
open Go.RowKit
attribute [local go_sem] undef

theorem app_step {w wk w2 : World} {gk nk ck m : Nat} {xs ys : List UInt8} {V' : Value} (hF : Frm No w wk) (hO : Row wk w.heap.size gk nk ck xs) (hown : w2.ownsRow w.heap.size 5 1 V' (nk + m) (byts (xs ++ ys))) (hgr : wk.grownBy w2 (Value.slice (some ⟨gk, 0, none⟩) nk ck).ownBlock) (h0 : 0 < nk) (p : Nat) (hp : p = nk + m) :
    ∃ g c, V' = .slice (some ⟨g, 0, none⟩) p c ∧ Frm No w w2 ∧ Row w2 w.heap.size g p c (xs ++ ys) := by
  subst hp
  obtain ⟨g, c, hv, hrow⟩ := Row.of_own hown (by omega)
  exact ⟨g, c, hv, hF.trans (Frm.of_grown hgr) (fun i hi h => by have := (World.ownsRow.lt hO i h).1; omega), hrow⟩

set_option maxRecDepth 100000 in
set_option maxHeartbeats 4000000 in
theorem refHop_yes (w : World) (A : Option Addr) (n c : Nat) (bs : List UInt8) (hn : bs.length = n) (hc : n ≤ c) (h4 : n ≤ 400) (h : Rds w A bs) (nf : NoFault bs) (ht1 : 1 < byteAt bs 8) (N : Nat) (hN : N = totAt bs) :
    Calls Try.prog 30 #[.slice A n c] w (WroteOk (hdHop bs) (optsAt bs) (dataAt bs) N w) := by
  have HR := Lib.hid (refRead_ok w A n c bs hn hc h4 h nf)
  have hs := nf.sizes
  obtain ⟨ad, rfl⟩ := h.addr (by omega)
  have hb8 := byteAt_lt bs 8
  have hx8 : ∀ hx : 8 < (bs.take (totAt bs)).length, (bs.take (totAt bs))[8].toNat = byteAt bs 8 := fun hx => by rw [byteAt_at (by omega)]; simp
  have HSM := Lib.hid (hop_same nf _ rfl)
  unfold hopBs at HSM
  obtain ⟨P8, hP8⟩ : ∃ q, pkt (hdHop bs) (optsAt bs) (dataAt bs) = q := ⟨_, rfl⟩
  rw [hP8] at HSM
  have HEND := Lib.hid (fun (w' : World) (g c' : Nat) (hrow : Row w' w.heap.size g N c' P8) (hF : Frm No w w') => (⟨g, c', rfl, by rw [hP8]; exact hrow, hF⟩ : WroteOk (hdHop bs) (optsAt bs) (dataAt bs) N w (.returned (.tuple #[.slice (some ⟨g, 0, none⟩) N c', .int .i64 0])) w'))
  unfold RefRead RefOk at HR
  obtain ⟨z, hz⟩ : ∃ z, sizeAt bs = z := ⟨_, rfl⟩
  obtain ⟨t, ht⟩ : ∃ z, totAt bs = z := ⟨_, rfl⟩
  obtain ⟨v1, hv1⟩ : ∃ q, byteAt bs 1 = q := ⟨_, rfl⟩
  obtain ⟨v8, hv8⟩ : ∃ q, byteAt bs 8 = q := ⟨_, rfl⟩
  obtain ⟨v9, hv9⟩ : ∃ q, byteAt bs 9 = q := ⟨_, rfl⟩
  obtain ⟨i4, hi4⟩ : ∃ q, wordAt bs 4 = q := ⟨_, rfl⟩
  obtain ⟨df, hdf⟩ : ∃ q, dfAt bs = q := ⟨_, rfl⟩
  obtain ⟨mf, hmf⟩ : ∃ q, mfAt bs = q := ⟨_, rfl⟩
  obtain ⟨f, hf⟩ : ∃ q, offAt bs = q := ⟨_, rfl⟩
  obtain ⟨sr, hsr⟩ : ∃ q, addrAt bs 12 = q := ⟨_, rfl⟩
  obtain ⟨ds, hds⟩ : ∃ q, addrAt bs 16 = q := ⟨_, rfl⟩
  obtain ⟨os, hos⟩ : ∃ q, optsAt bs = q := ⟨_, rfl⟩


  obtain ⟨o, ho⟩ : ∃ o, z - 20 = o := ⟨_, rfl⟩
  obtain ⟨v7, hv7⟩ : ∃ o, v8 - 1 = o := ⟨_, rfl⟩
  obtain ⟨m, hm⟩ : ∃ o, t - z = o := ⟨_, rfl⟩
  rw [ht] at hx8 HSM
  obtain ⟨xs, hxs⟩ : ∃ q, bs.take t = q := ⟨_, rfl⟩
  have HRD := Lib.hid (fun W (hf : Frm No w W) => (h.frm hf (fun _ _ x => x)).take t)
  rw [hxs] at hx8 HSM HRD
  rw [hz, hv8, hv7] at HSM
  rw [hz] at HR hs
  rw [hv1, hv8, hv9, hi4, hdf, hmf, hf, hsr, hds, hos, ho, ht] at HR
  rw [hv8] at ht1 hb8 hx8
  rw [ht] at hs hN
  have hxl : xs.length = t := by rw [← hxs]; simp; omega
  have g8 : ¬ (v8 : Int) < 2 := by omega
  have g7 : IntKind.u8.wrap ((v8 : Int) - 1) = (v7 : Int) := by
    have e : IntKind.u8.wrap ((v8 : Int) - 1) = ((v8 : Int) - 1) % 256 := rfl
    rw [e]; omega
  have k7 : v7 < 256 := by omega
  have m1 : (z : Int) ≤ t := by omega
  have m2 : (t : Int) ≤ c := by omega
  have m4 : (t : Int) - z = (m : Int) := by omega
  have m5 : t - z = m := hm
  have m6 : 0 < z := by omega
  have m8 : (8 : Int) < t := by omega
  have t20 : 20 ≤ t := by omega
  have z20 : 20 ≤ z := by omega
  have zt : z ≤ t := by omega
  have t400 : t ≤ 400 := by omega
  have HX8 := Lib.hid hx8
  have HXL := Lib.hid hxl
  have HN := Lib.hid hN
  clear h hn hc h4 nf ht1 hb8 hz ht hv1 hv8 hv9 hi4 hdf hmf hf hsr hds hos ho hs hm hv7 hN hx8 hxs hxl hP8
  go_enter Try.func30, Try.ntmps30
  go_wp2_with fail
  refine HR.out.mono ?_
  rintro e w1 ⟨A1, c1, rfl, _, hf⟩
  have F1 := Lib.hid hf
  obtain ⟨W2, hW2⟩ : ∃ W, W = w1.alloc (.cells #[.int .u8 (v1 : Int), .int .u16 (i4 : Int), .bool df, .bool mf, .int .i64 (f : Int), .int .u8 (v8 : Int), .int .u8 (v9 : Int), .int .u32 (sr : Int), .int .u32 (ds : Int), .slice A1 o c1] 54) := ⟨_, rfl⟩
  have F2 : Hid (Frm No w W2) := by show Frm No w W2; rw [hW2]; exact F1.out.alloc _
  have T2 : Hid (Blk W2 w1.heap.size 54 #[.int .u8 (v1 : Int), .int .u16 (i4 : Int), .bool df, .bool mf, .int .i64 (f : Int), .int .u8 (v8 : Int), .int .u8 (v9 : Int), .int .u32 (sr : Int), .int .u32 (ds : Int), .slice A1 o c1]) := by show Blk W2 _ _ _; rw [hW2]; exact Blk.new w1 54 _
  clear hf
  go_upto_region 2 with fail
  rw [← hW2]
  obtain ⟨hbk, hhb⟩ : ∃ b, b = w1.heap.size := ⟨_, rfl⟩
  rw [← hhb] at T2 ⊢
  clear hW2 F1 hhb HR
  obtain ⟨b0, b1, b2, b3, b4, b5, b6, b7, b8, b9⟩ := blk10 T2.out
  have hown : Hid ((W2.alloc (.cells #[] 5)).ownsRow w.heap.size 5 1 (.slice (some ⟨W2.heap.size, 0, none⟩) 0 0) 0 (byts [])) := World.ownsRow_made W2 #[] 0 F2.out.size (by unfold maxLen; omega) (by simp)
  have FA : Hid (Frm No w (W2.alloc (.cells #[] 5))) := F2.out.alloc _
  have RDA := Lib.hid (HRD.out _ FA.out)
  have h2s := F2.out.size
  go_upto_region 7 with (at_builtin; refine wpList_append_bytes rfl (.tmp 24) (.tmp 27) rfl w.heap.size _ 0 [] rfl hown.out (some ad) t c xs rfl HXL.out RDA.out (fun h => by cases h) (by omega) FA.out.size ?_; intro v' w3 hown' hgr; obtain ⟨g, c', rfl, hrow⟩ := Row.of_own hown' (by omega); have HRW := Lib.hid hrow; have HG := Lib.hid hgr; clear hown' hrow hgr)
  have R3 : Hid (Row w3 w.heap.size g t c' xs) := by
    have := HRW.out
    rw [Nat.zero_add, List.nil_append] at this
    exact this
  have F3 : Hid (Frm No w w3) := FA.out.trans (Frm.of_grown HG.out) (fun i hi hs => by have hs' : some W2.heap.size = some i := hs; injection hs' with hs'; omega)
  have hcap := R3.out.cap
  clear HRW HG hown FA RDA b0 b1 b2 b3 b4 b5 b6 b7 b8 b9 T2 F2
  have d0 : w3.cell? ⟨g, 8, none⟩ = some (.int .u8 (v8 : Int)) := by
    have h1 := R3.out.cell 8 (by have := HXL.out; omega)
    rw [h1]
    show some (Value.int .u8 _) = _
    rw [HX8.out (by have := HXL.out; omega)]
  have d1 := R3.out.frozen 8
  have S3 := Lib.hid (R3.out.set 8 (UInt8.ofNat v7) (.int .u8 (v7 : Int)) (by unfold byt; rw [toN v7 k7]))
  go_upto_region 8 with fail
  obtain ⟨W4, hW4⟩ : ∃ W, w3.setCell ⟨g, 8, none⟩ (.int .u8 (v7 : Int)) = W := ⟨_, rfl⟩
  rw [hW4] at S3 ⊢
  have F4 : Hid (Frm No w W4) := by show Frm No w W4; rw [← hW4]; exact F3.out.setCell (p := ⟨g, 8, none⟩) (fun hx => absurd hx (by show ¬ g < _; omega)) _
  clear hW4 d0 d1 R3 F3
  obtain ⟨ys, hys⟩ : ∃ q, xs.set 8 (UInt8.ofNat v7) = q := ⟨_, rfl⟩
  rw [hys] at S3 HSM
  have hyl : ys.length = t := by rw [← hys, List.length_set]; exact HXL.out
  have HYL := Lib.hid hyl
  have c1' : (t : Int) ≤ c' := by omega
  have c2' : (z : Int) ≤ c' := by omega
  have HFX := Lib.hid (refFix_yes W4 (some ⟨g, 0, none⟩) z c' (ys.take z) 10 (by rw [List.length_take]; omega) (fun h => by cases h) (by decide) (by omega) (S3.out.rds.take z) (by omega))
  clear hys hyl
  go_wp2_with fail
  refine HFX.out.mono ?_
  rintro e w5 ⟨g2, c2, rfl, hrow, hf⟩
  have F5 := Lib.hid (F4.out.new0 hf)
  have R5 := Lib.hid hrow
  have Y5 := Lib.hid (S3.out.rds.frm hf (fun _ _ x => x))
  clear hf hrow HFX S3
  obtain ⟨b, hb⟩ : ∃ b, (if c' = z then some (⟨g, 0, none⟩ : Addr) else some (⟨g, z, none⟩ : Addr)) = some b := by split <;> exact ⟨_, rfl⟩
  have Y6 := Lib.hid (Y5.out.drop z c' (by have := HYL.out; omega) (some b) (by rw [← hb]; simp [Addr.add, show ¬ z = 0 from by omega]))
  have h5s := F4.out.size
  go_wp2_with (at_builtin; refine wpList_append_bytes rfl (.tmp 42) (.tmp 45) rfl W4.heap.size _ z (fixOf (ys.take z) 10) rfl R5.out (some b) m (c' - z) (ys.drop z) rfl (by have := HYL.out; simp; omega) Y6.out (fun h => by cases h) (by omega) (by have := R5.out.cap; omega) ?_; intro V w6 hown hgr)
  rw [show z + m = N by have := HN.out; omega, HSM.out] at hown
  obtain ⟨g6, c6, rfl, hrow⟩ := Row.of_own hown (by have := HN.out; omega)
  have hF : Frm No w w6 := F5.out.trans (Frm.of_grown hgr) (fun i hi h => by have h2 := (World.ownsRow.lt R5.out i h).1; omega)
  have hO := own_more hrow h5s
  clear hrow hown
  go_ret2
  exact HEND.out _ _ _ hO hF
end Go.Proofs.Ytcclneaabnpbkaa

/- Ta -/
namespace Go.Proofs.Ytcclneaabnpbkaa
open Go.RowKit
attribute [local go_sem] undef

set_option maxRecDepth 100000 in
set_option maxHeartbeats 4000000 in
theorem refTurn_yes (w : World) (A : Option Addr) (n c : Nat) (bs : List UInt8) (hn : bs.length = n) (hc : n ≤ c) (h4 : n ≤ 400) (h : Rds w A bs) (nf : NoFault bs) (N : Nat) (hN : N = totAt bs) :
    Calls Try.prog 31 #[.slice A n c] w (TurnOk bs N w) := by
  have HR := Lib.hid (refRead_ok w A n c bs hn hc h4 h nf)
  have hs := nf.sizes
  obtain ⟨ad, rfl⟩ := h.addr (by omega)
  obtain ⟨b, hb⟩ : ∃ b, (if c = 20 then some ad else some (⟨ad.block, ad.off + 20, none⟩ : Addr)) = some b := by split <;> exact ⟨_, rfl⟩
  have X1 := Lib.hid (fun W (hf : Frm No w W) => (h.frm hf (fun _ _ x => x)).take 12)
  have X2 := Lib.hid (fun W (hf : Frm No w W) => ((h.frm hf (fun _ _ x => x)).take 20).drop 16 c (by simp; omega) (some ⟨ad.block, ad.off + 16, none⟩) (by rw [if_neg (by omega)]; simp [Addr.add]))
  have X3 := Lib.hid (fun W (hf : Frm No w W) => ((h.frm hf (fun _ _ x => x)).take 16).drop 12 c (by simp; omega) (some ⟨ad.block, ad.off + 12, none⟩) (by rw [if_neg (by omega)]; simp [Addr.add]))
  have X4 := Lib.hid (fun W (hf : Frm No w W) => ((h.frm hf (fun _ _ x => x)).take (totAt bs)).drop 20 c (by simp; omega) (some b) (by rw [← hb]; simp [Addr.add]))
  have L1 : Hid ((bs.take 12).length = 12) := by show _ = _; simp; omega
  have L2 : Hid (((bs.take 20).drop 16).length = 4) := by show _ = _; simp; omega
  have L3 : Hid (((bs.take 16).drop 12).length = 4) := by show _ = _; simp; omega
  have L4 : Hid (((bs.take (totAt bs)).drop 20).length = totAt bs - 20) := by show _ = _; simp; omega
  have HEND := Lib.hid (fun (w' : World) (g c' : Nat) (hrow : Row w' w.heap.size g N c' (bs.take 12 ++ (bs.take 20).drop 16 ++ (bs.take 16).drop 12 ++ (bs.take (totAt bs)).drop 20)) (hF : Frm No w w') => (⟨g, c', rfl, hrow, hF⟩ : TurnOk bs N w (.returned (.tuple #[.slice (some ⟨g, 0, none⟩) N c', .int .i64 0])) w'))
  unfold RefRead RefOk at HR
  obtain ⟨z, hz⟩ : ∃ z, sizeAt bs = z := ⟨_, rfl⟩
  obtain ⟨t, ht⟩ : ∃ z, totAt bs = z := ⟨_, rfl⟩
  obtain ⟨v1, hv1⟩ : ∃ q, byteAt bs 1 = q := ⟨_, rfl⟩
  obtain ⟨v8, hv8⟩ : ∃ q, byteAt bs 8 = q := ⟨_, rfl⟩
  obtain ⟨v9, hv9⟩ : ∃ q, byteAt bs 9 = q := ⟨_, rfl⟩
  obtain ⟨i4, hi4⟩ : ∃ q, wordAt bs 4 = q := ⟨_, rfl⟩
  obtain ⟨df, hdf⟩ : ∃ q, dfAt bs = q := ⟨_, rfl⟩
  obtain ⟨mf, hmf⟩ : ∃ q, mfAt bs = q := ⟨_, rfl⟩
  obtain ⟨f, hf⟩ : ∃ q, offAt bs = q := ⟨_, rfl⟩
  obtain ⟨sr, hsr⟩ : ∃ q, addrAt bs 12 = q := ⟨_, rfl⟩
  obtain ⟨ds, hds⟩ : ∃ q, addrAt bs 16 = q := ⟨_, rfl⟩
  obtain ⟨os, hos⟩ : ∃ q, optsAt bs = q := ⟨_, rfl⟩


  obtain ⟨o, ho⟩ : ∃ o, z - 20 = o := ⟨_, rfl⟩
  obtain ⟨m, hm⟩ : ∃ o, t - 20 = o := ⟨_, rfl⟩
  rw [hz] at HR hs
  rw [hv1, hv8, hv9, hi4, hdf, hmf, hf, hsr, hds, hos, ho, ht] at HR
  rw [ht, hm] at L4
  rw [ht] at hs hN X4 HEND
  obtain ⟨x1, hx1⟩ : ∃ q, bs.take 12 = q := ⟨_, rfl⟩
  obtain ⟨x2, hx2⟩ : ∃ q, (bs.take 20).drop 16 = q := ⟨_, rfl⟩
  obtain ⟨x3, hx3⟩ : ∃ q, (bs.take 16).drop 12 = q := ⟨_, rfl⟩
  obtain ⟨x4, hx4⟩ : ∃ q, (bs.take t).drop 20 = q := ⟨_, rfl⟩
  rw [hx1] at X1 L1
  rw [hx2] at X2 L2
  rw [hx3] at X3 L3
  rw [hx4] at X4 L4
  rw [hx1, hx2, hx3, hx4] at HEND
  have m1 : (20 : Int) ≤ t := by omega
  have m2 : (t : Int) ≤ c := by omega
  have m3 : (20 : Int) ≤ c := by omega
  have m4 : (16 : Int) ≤ c := by omega
  have m5 : (12 : Int) ≤ c := by omega
  have n1 : ¬ c = 16 := by omega
  have n2 : ¬ c = 12 := by omega
  have e1 : t - 20 = m := hm
  have e2 : (t : Int) - 20 = m := by omega
  have t400 : t ≤ 400 := by omega
  have hN2 : Hid (N = 20 + m) := by show _ = _; omega
  clear h hn hc h4 nf hz ht hv1 hv8 hv9 hi4 hdf hmf hf hsr hds hos ho hs hm hN hx1 hx2 hx3 hx4
  go_enter Try.func31, Try.ntmps31
  go_wp2_with fail
  refine HR.out.mono ?_
  rintro e w1 ⟨A1, c1, rfl, _, hf⟩
  obtain ⟨W2, hW2⟩ : ∃ W, W = w1.alloc (.cells #[.int .u8 (v1 : Int), .int .u16 (i4 : Int), .bool df, .bool mf, .int .i64 (f : Int), .int .u8 (v8 : Int), .int .u8 (v9 : Int), .int .u32 (sr : Int), .int .u32 (ds : Int), .slice A1 o c1] 54) := ⟨_, rfl⟩
  have F2 : Hid (Frm No w W2) := by show Frm No w W2; rw [hW2]; exact hf.alloc _
  clear hf
  go_upto_region 2 with fail
  rw [← hW2]
  clear hW2 HR
  have Y1 := Lib.hid (X1.out W2 F2.out)
  go_upto_region 6 with (at_builtin; refine wpList_append_bytes rfl (.tmp 19) (.tmp 21) rfl w.heap.size _ 0 [] rfl (own_nil _ _) (some ad) 12 c x1 rfl L1.out Y1.out (fun h => by cases h) (by omega) F2.out.size ?_; intro v' w3 hown' hgr; obtain ⟨g3, c3, rfl, hrow⟩ := Row.of_own hown' (by omega); have HRW := Lib.hid hrow; have HG := Lib.hid hgr; clear hown' hrow hgr)
  have R3 : Hid (Row w3 w.heap.size g3 12 c3 x1) := by
    have := HRW.out
    rw [Nat.zero_add, List.nil_append] at this
    exact this
  have F3 : Hid (Frm No w w3) := F2.out.trans (Frm.of_grown HG.out) (fun i _ hs => by have hs2 : (none : Option Nat) = some i := hs; cases hs2)
  have Y2 := Lib.hid (X2.out w3 F3.out)
  clear HRW HG F2 Y1 X1 X2
  go_upto_region 7 with (at_builtin; refine wpList_append_bytes rfl (.tmp 23) (.tmp 25) rfl w.heap.size _ 12 x1 rfl R3.out (some ⟨ad.block, ad.off + 16, none⟩) 4 (c - 16) x2 rfl L2.out Y2.out (fun h => by cases h) (by omega) F3.out.size ?_; intro v' w4 hown hgr; obtain ⟨g4, c4, rfl, hF, hO⟩ := app_step F3.out R3.out hown hgr (by omega) 16 rfl; have F4 := Lib.hid hF; have R4 := Lib.hid hO; have Y3 := Lib.hid (X3.out w4 hF); clear hown hgr hF hO)
  clear F3 R3 Y2 X3
  go_upto_region 8 with (at_builtin; refine wpList_append_bytes rfl (.tmp 27) (.tmp 29) rfl w.heap.size _ 16 (x1 ++ x2) rfl R4.out (some ⟨ad.block, ad.off + 12, none⟩) 4 (c - 12) x3 rfl L3.out Y3.out (fun h => by cases h) (by omega) F4.out.size ?_; intro v' w5 hown hgr; obtain ⟨g5, c5, rfl, hF, hO⟩ := app_step F4.out R4.out hown hgr (by omega) 20 rfl; have F5 := Lib.hid hF; have R5 := Lib.hid hO; have Y4 := Lib.hid (X4.out w5 hF); clear hown hgr hF hO)
  clear F4 R4 Y3 X4
  go_wp2_with (at_builtin; refine wpList_append_bytes rfl (.tmp 31) (.tmp 34) rfl w.heap.size _ 20 (x1 ++ x2 ++ x3) rfl R5.out (some b) m (c - 20) x4 rfl L4.out Y4.out (fun h => by cases h) (by omega) F5.out.size ?_; intro v' w6 hown hgr; obtain ⟨g6, c6, rfl, hF, hO⟩ := app_step F5.out R5.out hown hgr (by omega) N hN2.out; clear hown hgr)
  go_ret2
  exact HEND.out _ _ _ hO hF
end Go.Proofs.Ytcclneaabnpbkaa

/- Qd -/
namespace Go.Proofs.Ytcclneaabnpbkaa
open Go.RowKit
attribute [local go_sem] undef

noncomputable def B12 : Code := Try.f12.body.getD .skip

def v4 {α : Type} (a b c d : α) : Nat → α
  | 0 => a
  | 1 => b
  | 2 => c
  | _ => d
theorem lt4 {k : Nat} (h : k < 4) : k = 0 ∨ k = 1 ∨ k = 2 ∨ k = 3 := by omega
theorem two4 {w : World} {base : Nat} {a b c d : Value} {na nb nc nd : Nat} {xa xb xc xd : List UInt8} (ha : w.ownsRow base 5 1 a na (byts xa)) (hb : w.ownsRow base 5 1 b nb (byts xb)) (hc : w.ownsRow base 5 1 c nc (byts xc)) (hd : w.ownsRow base 5 1 d nd (byts xd))
    (h1 : ∀ i, a.ownBlock = some i → b.ownBlock ≠ some i) (h2 : ∀ i, a.ownBlock = some i → c.ownBlock ≠ some i) (h3 : ∀ i, b.ownBlock = some i → c.ownBlock ≠ some i)
    (h4 : ∀ i, a.ownBlock = some i → d.ownBlock ≠ some i) (h5 : ∀ i, b.ownBlock = some i → d.ownBlock ≠ some i) (h6 : ∀ i, c.ownBlock = some i → d.ownBlock ≠ some i) :
    Two w base 4 (v4 a b c d) (v4 na nb nc nd) (v4 xa xb xc xd) (v4 a b c d) (v4 na nb nc nd) (v4 xa xb xc xd) := by
  have ho : ∀ k, k < 4 → w.ownsRow base 5 1 (v4 a b c d k) (v4 na nb nc nd k) (byts (v4 xa xb xc xd k)) := by
    intro k hk
    rcases lt4 hk with rfl | rfl | rfl | rfl
    · exact ha
    · exact hb
    · exact hc
    · exact hd
  refine ⟨ho, ho, fun _ _ => List.prefix_rfl, ?_⟩
  intro k j hk hj hkj i hg hg2
  have g1 : (v4 a b c d k).ownBlock = some i := hg.elim id id
  have g2 : (v4 a b c d j).ownBlock = some i := hg2.elim id id
  rcases lt4 hk with rfl | rfl | rfl | rfl <;> rcases lt4 hj with rfl | rfl | rfl | rfl
  · exact hkj rfl
  · exact h1 i g1 g2
  · exact h2 i g1 g2
  · exact h4 i g1 g2
  · exact h1 i g2 g1
  · exact hkj rfl
  · exact h3 i g1 g2
  · exact h5 i g1 g2
  · exact h2 i g2 g1
  · exact h3 i g2 g1
  · exact hkj rfl
  · exact h6 i g1 g2
  · exact h4 i g2 g1
  · exact h5 i g2 g1
  · exact h6 i g2 g1
  · exact hkj rfl

/-- What is there behind the calls. -/
structure RdSt (w W : World) (hb : Nat) (HX : Array Value) (B : Option Addr) (bs os xs ys : List UInt8) (A1 A2 A3 A4 : Option Addr) (n c1 o c2 n3 c3 n4 c4 : Nat) : Prop where
  frm : Frm No w W
  rb : Rds W B bs
  bh : Blk W hb 28 HX
  o1 : W.ownsRow w.heap.size 5 1 (.slice A1 (n + 12) c1) (n + 12) (byts (bs ++ marks 12))
  o2 : W.ownsRow w.heap.size 5 1 (.slice A2 o c2) o (byts os)
  o3 : W.ownsRow w.heap.size 5 1 (.slice A3 n3 c3) n3 (byts xs)
  o4 : W.ownsRow w.heap.size 5 1 (.slice A4 n4 c4) n4 (byts ys)
  h1 : ∀ i, blk A1 = some i → blk A2 ≠ some i
  h2 : ∀ i, blk A1 = some i → blk A3 ≠ some i
  h3 : ∀ i, blk A2 = some i → blk A3 ≠ some i
  h4 : ∀ i, blk A1 = some i → blk A4 ≠ some i
  h5 : ∀ i, blk A2 = some i → blk A4 ≠ some i
  h6 : ∀ i, blk A3 = some i → blk A4 ≠ some i
theorem RdSt.no {w W W2 : World} {hb : Nat} {HX : Array Value} {B : Option Addr} {bs os xs ys : List UInt8} {A1 A2 A3 A4 : Option Addr} {n c1 o c2 n3 c3 n4 c4 : Nat} (h : RdSt w W hb HX B bs os xs ys A1 A2 A3 A4 n c1 o c2 n3 c3 n4 c4) (hf : Frm No W W2) : RdSt w W2 hb HX B bs os xs ys A1 A2 A3 A4 n c1 o c2 n3 c3 n4 c4 :=
  ⟨h.frm.new0 hf, h.rb.frm hf (fun _ _ x => x), h.bh.frm hf (fun x => x), hf.own h.o1 (fun _ _ x => x), hf.own h.o2 (fun _ _ x => x), hf.own h.o3 (fun _ _ x => x), hf.own h.o4 (fun _ _ x => x), h.h1, h.h2, h.h3, h.h4, h.h5, h.h6⟩
theorem apart_new {W w' : World} {b m n c n' c' : Nat} {A A' : Option Addr} {xs ys : List Value} (h : W.ownsRow b 5 1 (.slice A n c) n xs) (hm : W.heap.size ≤ m) (h' : w'.ownsRow m 5 1 (.slice A' n' c') n' ys) : ∀ i, blk A = some i → blk A' ≠ some i := by
  intro i hi h2
  have h3 := (World.ownsRow.lt h i (blk_own hi)).2
  have h4 := (World.ownsRow.lt h' i (blk_own h2)).1
  omega

set_option maxRecDepth 100000 in
set_option maxHeartbeats 4000000 in
theorem reads_e (w W : World) (u1 u2 u5 u6 u7 u8 u9 u10 u11 u13 u14 u15 u17 u18 u19 u20 u21 u22 u23 u24 u25 u26 u27 u28 u29 u30 u31 u32 u33 u34 u35 u36 u37 u38 u39 u40 u41 u42 u43 u44 u45 u46 u47 u48 u49 u50 u51 u52 u53 u54 u55 u56 u57 u58 u59 u60 u61 u62 u63 u64 u65 u66 u67 u68 u69 u70 u71 u72 u73 u74 u75 u76 u77 u78 u79 u80 u81 u82 u83 u84 u85 u86 u87 u88 u89 u90 u91 u92 u93 u94 u95 u96 u97 u98 u99 u100 u101 u102 u103 u104 u105 u106 u107 u108 u109 u110 u111 : Value) (hb : Nat) (z0 z1 z4 z5 z6 z7 z8 : Int) (b2 b3 : Bool) (B A1 A2 A3 A4 : Option Addr) (n k c1 o c2 n3 c3 n4 c4 : Nat) (bs os xs ys : List UInt8) (hn : bs.length = n) (hn400 : n ≤ 400) (ho : o ≤ 400) (hn3 : n3 ≤ 70000) (hn4 : n4 ≤ 70000)
    (S : RdSt w W hb #[.int .u8 z0, .int .u16 z1, .bool b2, .bool b3, .int .i64 z4, .int .u8 z5, .int .u8 z6, .int .u32 z7, .int .u32 z8, .slice A2 o c2] B bs os xs ys A1 A2 A3 A4 n c1 o c2 n3 c3 n4 c4) :
    Code.wp Try.prog (dropS 10 B12) (bodyPost Try.prog Try.f12 (BoolNo true w)) ⟨#[.slice B n k, u1, u2, .slice A1 n c1, .pointer (some ⟨hb, 0, none⟩), u5, u6, u7, u8, u9, u10, u11, .slice A3 n3 c3, u13, u14, u15, .slice A4 n4 c4, u17, u18, u19, u20, u21, u22, u23, u24, u25, u26, u27, u28, u29, u30, u31, u32, u33, u34, u35, u36, u37, u38, u39, u40, u41, u42, u43, u44, u45, u46, u47, u48, u49, u50, u51, u52, u53, u54, u55, u56, u57, u58, u59, u60, u61, u62, u63, u64, u65, u66, u67, u68, u69, u70, u71, u72, u73, u74, u75, u76, u77, u78, u79, u80, u81, u82, u83, u84, u85, u86, u87, u88, u89, u90, u91, u92, u93, u94, u95, u96, u97, u98, u99, u100, u101, u102, u103, u104, u105, u106, u107, u108, u109, u110, u111], []⟩ W := by
  have HS := Lib.hid S
  have hcap1 := (own_caps S.o1).1
  have HK1 := Lib.hid (kept_bytes W A1 B c1 k n bs hn hcap1 (own_caps S.o1).2.2 S.rb (by omega))
  have HN := Lib.hid hn
  obtain ⟨b0, b1, b2', b3', b4, b5, b6, b7, b8, b9⟩ := blk10 S.bh
  clear S hcap1 hn
  conv => arg 2; whnf
  go_wp2_with fail
  refine HK1.out.mono ?_
  rintro e w1 ⟨rfl, m1, rfl⟩
  obtain ⟨W2, hW2⟩ : ∃ W2, W2 = W.drewN m1 := ⟨_, rfl⟩
  have S2 : Hid (RdSt w W2 hb #[.int .u8 z0, .int .u16 z1, .bool b2, .bool b3, .int .i64 z4, .int .u8 z5, .int .u8 z6, .int .u32 z7, .int .u32 z8, .slice A2 o c2] B bs os xs ys A1 A2 A3 A4 n c1 o c2 n3 c3 n4 c4) := by show RdSt w W2 _ _ _ _ _ _ _ _ _ _ _ _ _ _ _ _ _ _ _; rw [hW2]; exact HS.out.no ((Frm.refl No W).drewN m1)
  rw [← hW2]
  clear hW2 HS HK1 b0 b1 b2' b3' b4 b5 b6 b7 b8 b9
  obtain ⟨d0, d1, d2, d3, d4, d5, d6, d7, d8, d9⟩ := blk10 S2.out.bh
  have HAP : Hid (Calls Try.prog 33 #[.slice (some ⟨W2.heap.size, 0, none⟩) 4 4] (W2.alloc (.cells #[.slice A1 n c1, .slice A2 o c2, .slice A3 n3 c3, .slice A4 n4 c4] 22)) fun e w' => e = .returned (.bool true) ∧ Frm (Own 4 (v4 (Value.slice A1 n c1) (.slice A2 o c2) (.slice A3 n3 c3) (.slice A4 n4 c4))) (W2.alloc (.cells #[.slice A1 n c1, .slice A2 o c2, .slice A3 n3 c3, .slice A4 n4 c4] 22)) w') := by
    have F := (Frm.refl No W2).alloc (.cells #[.slice A1 n c1, .slice A2 o c2, .slice A3 n3 c3, .slice A4 n4 c4] 22)
    have T := two4 (F.own (own_short S2.out.o1 HN.out (by decide)) (fun _ _ x => x)) (F.own S2.out.o2 (fun _ _ x => x)) (F.own S2.out.o3 (fun _ _ x => x)) (F.own S2.out.o4 (fun _ _ x => x))
      (fun i h h' => S2.out.h1 i (blk_of h) (blk_of h')) (fun i h h' => S2.out.h2 i (blk_of h) (blk_of h')) (fun i h h' => S2.out.h3 i (blk_of h) (blk_of h')) (fun i h h' => S2.out.h4 i (blk_of h) (blk_of h')) (fun i h h' => S2.out.h5 i (blk_of h) (blk_of h')) (fun i h h' => S2.out.h6 i (blk_of h) (blk_of h'))
    refine apart_many _ 4 w.heap.size W2.heap.size 4 _ _ _ (by decide) (by decide) ?_ ⟨_, Blk.new W2 22 _, ?_⟩ T (Nat.le_trans S2.out.frm.size (by simp))
    · intro j hj
      rcases lt4 hj with rfl | rfl | rfl | rfl
      · show n ≤ _; omega
      · show o ≤ _; omega
      · show n3 ≤ _; omega
      · show n4 ≤ _; omega
    · intro j hj
      rcases lt4 hj with rfl | rfl | rfl | rfl <;> rfl
  have HF : Hid (∀ w', Frm (Own 4 (v4 (Value.slice A1 n c1) (.slice A2 o c2) (.slice A3 n3 c3) (.slice A4 n4 c4))) (W2.alloc (.cells #[.slice A1 n c1, .slice A2 o c2, .slice A3 n3 c3, .slice A4 n4 c4] 22)) w' → Frm No w w') := by
    intro w' hf
    refine (S2.out.frm.alloc _).trans hf ?_
    rintro i hi ⟨j, hj, hown⟩
    have hlt : w.heap.size ≤ i := by
      rcases lt4 hj with rfl | rfl | rfl | rfl
      · exact (World.ownsRow.lt (own_short S2.out.o1 HN.out (by decide)) i hown).1
      · exact (World.ownsRow.lt S2.out.o2 i hown).1
      · exact (World.ownsRow.lt S2.out.o3 i hown).1
      · exact (World.ownsRow.lt S2.out.o4 i hown).1
    omega
  go_wp2_with fail
  refine HAP.out.mono ?_
  rintro e w3 ⟨rfl, hf⟩
  have F3 := Lib.hid (HF.out w3 hf)
  clear hf HAP HF d0 d1 d2 d3 d4 d5 d6 d7 d8 d9 S2
  go_wp2_with fail
  go_ret
  exact ⟨rfl, F3.out⟩

set_option maxRecDepth 100000 in
set_option maxHeartbeats 4000000 in
theorem reads_d (w W : World) (u1 u2 u20 u21 u22 u23 u24 u25 u26 u27 u28 u29 u30 u31 u32 u33 u34 u35 u36 u37 u38 u39 u40 u41 u42 u43 u44 u45 u46 u47 u48 u49 u50 u51 u52 u53 u54 u55 u56 u57 u58 u59 u60 u61 u62 u63 u64 u65 u66 u67 u68 u69 u70 u71 u72 u73 u74 u75 u76 u77 u78 u79 u80 u81 u82 u83 u84 u85 u86 u87 u88 u89 u90 u91 u92 u93 u94 u95 u96 u97 u98 u99 u100 u101 u102 u103 u104 u105 u106 u107 u108 u109 u110 u111 : Value) (y1 y2 y3 y4 y5 : Int) (hb gb : Nat) (z0 z1 z4 z5 z6 z7 z8 : Int) (b2 b3 : Bool) (B A1 A2 A3 A4 A5 A6 Ag : Option Addr) (n k c1 o c2 cg n3 c3 c5 n4 c4 c6 : Nat) (bs os xs ys : List UInt8) (K K' : Act → World → Prop)
    (hK : ∀ a W, Code.wp Try.prog (tailS (headS (dropS 9 B12))) (Exit.then K' (bodyPost Try.prog Try.f12 (BoolNo true w))) a W → K a W) (hK' : ∀ a W, Code.wp Try.prog (dropS 10 B12) (bodyPost Try.prog Try.f12 (BoolNo true w)) a W → K' a W)
    (hn : bs.length = n) (hn400 : n ≤ 400) (ho : o ≤ 400) (hn3 : n3 ≤ 70000) (hn4 : n4 ≤ 70000) (R5 : Rds W A5 xs) (R6 : Rds W A6 ys) (RG : Rds W Ag os) (BG : Blk W gb 54 #[.int .u8 z0, .int .u16 z1, .bool b2, .bool b3, .int .i64 z4, .int .u8 z5, .int .u8 z6, .int .u32 z7, .int .u32 z8, .slice Ag o cg])
    (S : RdSt w W hb #[.int .u8 z0, .int .u16 z1, .bool b2, .bool b3, .int .i64 z4, .int .u8 z5, .int .u8 z6, .int .u32 z7, .int .u32 z8, .slice A2 o c2] B bs os xs ys A1 A2 A3 A4 n c1 o c2 n3 c3 n4 c4) :
    Code.wp Try.prog (headS (headS (dropS 9 B12))) (Exit.then K (Exit.then K' (bodyPost Try.prog Try.f12 (BoolNo true w)))) ⟨#[.slice B n k, u1, u2, .slice A1 n c1, .pointer (some ⟨hb, 0, none⟩), .int .i64 y1, .int .i64 y2, .int .i64 y3, .pointer (some ⟨gb, 0, none⟩), .int .i64 y1, .int .i64 y2, .int .i64 y3, .slice A3 n3 c3, .int .i64 y4, .slice A5 n3 c5, .int .i64 y4, .slice A4 n4 c4, .int .i64 y5, .slice A6 n4 c6, .int .i64 y5, u20, u21, u22, u23, u24, u25, u26, u27, u28, u29, u30, u31, u32, u33, u34, u35, u36, u37, u38, u39, u40, u41, u42, u43, u44, u45, u46, u47, u48, u49, u50, u51, u52, u53, u54, u55, u56, u57, u58, u59, u60, u61, u62, u63, u64, u65, u66, u67, u68, u69, u70, u71, u72, u73, u74, u75, u76, u77, u78, u79, u80, u81, u82, u83, u84, u85, u86, u87, u88, u89, u90, u91, u92, u93, u94, u95, u96, u97, u98, u99, u100, u101, u102, u103, u104, u105, u106, u107, u108, u109, u110, u111], []⟩ W := by
  have HS := Lib.hid S
  have len : ∀ {b q m c : Nat} {A : Option Addr} {l : List UInt8} {V : World}, V.ownsRow b 5 1 (.slice A m c) q (byts l) → l.length = q := fun h => by have := h.1; rw [byts_len] at this; omega
  have ho2 := len S.o2
  have ho3 := len S.o3
  have ho4 := len S.o4
  have HSH := Lib.hid (fun W' (hf : Frm No W W') => same_yes W' z0 z1 z4 z5 z6 z7 z8 b2 b3 A2 Ag o c2 cg os ho2 ((own_caps S.o2).2.2.frm hf (fun _ _ x => x)) (RG.frm hf (fun _ _ x => x)) (by omega))
  have sm : ∀ (W' : World) (hf : Frm No W W') (A A' : Option Addr) (m c c' : Nat) (l : List UInt8), l.length = m → m ≤ 70000 → Rds W A l → Rds W A' l → Calls Try.prog 22 #[.slice A m c, .slice A' m c'] W' fun e w' => e = .returned (.bool true) ∧ ∃ m, w' = W'.drewN m := by
    intro W' hf A A' m c c' l hl hm h1 h2
    have h2 := sames_any W' A A' c c' l l (h1.frm hf (fun _ _ x => x)) (h2.frm hf (fun _ _ x => x)) (by omega)
    rw [hl, show decide (l = l) = true from decide_eq_true rfl] at h2
    exact h2
  have HS3 := Lib.hid (fun W' hf => sm W' hf A3 A5 n3 c3 c5 xs ho3 hn3 (own_caps S.o3).2.2 R5)
  have HS4 := Lib.hid (fun W' hf => sm W' hf A4 A6 n4 c4 c6 ys ho4 hn4 (own_caps S.o4).2.2 R6)
  have CC := Lib.hid (fun W' (hf : Frm No W W') => And.intro (blk10 (S.bh.frm hf (fun x => x))) (blk10 (BG.frm hf (fun x => x))))
  have he1 : (y1 != y1) = false := by simp
  have he2 : (y2 != y2) = false := by simp
  have he3 : (y3 != y3) = false := by simp
  have he4 : (y4 != y4) = false := by simp
  have he5 : (y5 != y5) = false := by simp
  have HN := Lib.hid hn
  have HK := Lib.hid hK
  have HK' := Lib.hid hK'
  clear S R5 R6 RG BG len ho2 ho3 ho4 sm hn hK hK'
  conv => arg 2; whnf
  obtain ⟨⟨c0, c1', c2', c3', c4', c5', c6', c7', c8', c9'⟩, e0, e1, e2, e3, e4, e5, e6, e7, e8, e9⟩ := CC.out W (Frm.refl No W)
  go_wp2_with fail
  refine (HSH.out W (Frm.refl No W)).mono ?_
  rintro e w1 ⟨rfl, hf⟩
  have F1 := Lib.hid hf
  clear hf
  go_wp2_with fail
  refine (HS3.out w1 F1.out).mono ?_
  rintro e w2 ⟨rfl, m1, rfl⟩
  go_wp2_with fail
  refine (HS4.out _ (F1.out.drewN m1)).mono ?_
  rintro e w3 ⟨rfl, m2, rfl⟩
  have hf := (F1.out.drewN m1).drewN m2
  obtain ⟨W1, hW1⟩ : ∃ V, V = (w1.drewN m1).drewN m2 := ⟨_, rfl⟩
  rw [← hW1] at hf ⊢
  clear hW1 F1 c0 c1' c2' c3' c4' c5' c6' c7' c8' c9' e0 e1 e2 e3 e4 e5 e6 e7 e8 e9
  have S1 := Lib.hid (HS.out.no hf)
  clear hf HS HSH HS3 HS4 CC
  go_wp2_with fail
  have hKK := HK.out
  refine hKK _ _ ?_
  conv => arg 2; whnf
  clear hKK HK
  go_wp2_with fail
  have hKK := HK'.out
  refine hKK _ _ ?_
  exact reads_e w W1 _ _ _ _ _ _ _ _ _ _ _ _ _ _ _ _ _ _ _ _ _ _ _ _ _ _ _ _ _ _ _ _ _ _ _ _ _ _ _ _ _ _ _ _ _ _ _ _ _ _ _ _ _ _ _ _ _ _ _ _ _ _ _ _ _ _ _ _ _ _ _ _ _ _ _ _ _ _ _ _ _ _ _ _ _ _ _ _ _ _ _ _ _ _ _ _ _ _ _ _ _ _ _ _ _ _ _ hb z0 z1 z4 z5 z6 z7 z8 b2 b3 B A1 A2 A3 A4 n k c1 o c2 n3 c3 n4 c4 bs os xs ys HN.out hn400 ho hn3 hn4 S1.out
end Go.Proofs.Ytcclneaabnpbkaa

/- Qm -/
namespace Go.Proofs.Ytcclneaabnpbkaa
open Go.RowKit
attribute [local go_sem] undef

set_option maxRecDepth 100000 in
set_option maxHeartbeats 8000000 in
theorem reads_all (w : World) (B : Option Addr) (n k : Nat) (bs : List UInt8) (hn : bs.length = n) (hnk : n ≤ k) (hB : B = none → k = 0) (RB : Rds w B bs) (hn400 : n ≤ 400)
    (v1 id : Nat) (df mf : Bool) (off ttl pro src dst o z t : Nat) (er : Int) (os : List UInt8) (n3 : Nat) (xs : List UInt8) (e2 : Int) (n4 : Nat) (ys : List UInt8) (e3 : Int) (ho400 : o ≤ 400) (hn3 : n3 ≤ 70000) (hn4 : n4 ≤ 70000)
    (R1 : ∀ W A c, n ≤ c → Rds W A bs → Calls Try.prog 18 #[.slice A n c] W (ReadV v1 id df mf off ttl pro src dst o z t er os W))
    (R2 : ∀ W A c, n ≤ c → Rds W A bs → Calls Try.prog 29 #[.slice A n c] W (ReadV v1 id df mf off ttl pro src dst o z t er os W))
    (H1 : ∀ W A c, n ≤ c → Rds W A bs → Calls Try.prog 24 #[.slice A n c] W (OutV n3 xs e2 W))
    (H2 : ∀ W A c, n ≤ c → Rds W A bs → Calls Try.prog 30 #[.slice A n c] W (OutV n3 xs e2 W))
    (T1 : ∀ W A c, n ≤ c → Rds W A bs → Calls Try.prog 26 #[.slice A n c] W (OutV n4 ys e3 W))
    (T2 : ∀ W A c, n ≤ c → Rds W A bs → Calls Try.prog 31 #[.slice A n c] W (OutV n4 ys e3 W)) :
    Calls Try.prog 12 #[.slice B n k] w (BoolNo true w) := by
  have g1 : ¬ (n : Int) > 400 := by omega
  have HL := Lib.hid (lent w B k n bs hn ⟨RB, by omega, hB⟩ (by omega))
  unfold Lent at HL
  rw [hn] at HL
  unfold ReadV at R1 R2
  unfold OutV at H1 H2 T1 T2
  have HR1 := Lib.hid R1
  have HR2 := Lib.hid R2
  have HH1 := Lib.hid H1
  have HH2 := Lib.hid H2
  have HT1 := Lib.hid T1
  have HT2 := Lib.hid T2
  have RB0 := Lib.hid RB
  have HN := Lib.hid hn
  clear RB R1 R2 H1 H2 T1 T2 hn hB
  go_enter Try.func12, Try.ntmps12
  go_wp2_with fail
  refine HL.out.mono ?_
  rintro e w1 ⟨A1, c1, rfl, ho1, hf⟩
  have F1 := Lib.hid hf
  have RB1 := Lib.hid (RB0.out.frm hf (fun _ _ x => x))
  have oa1 : w1.ownsRow w.heap.size 5 1 (.slice A1 (n + 12) c1) (n + 12) (byts (bs ++ marks 12)) := ho1
  have OA1 := Lib.hid oa1
  have hc1 : n ≤ c1 := by have := (own_caps oa1).1; omega
  have HRA := Lib.hid (fun (W' : World) (h : W'.ownsRow w.heap.size 5 1 (.slice A1 (n + 12) c1) (n + 12) (byts (bs ++ marks 12))) => (by
    have h1 := (own_caps h).2.2.take n
    have hn := HN.out
    rwa [List.take_append_of_le_length (by omega), List.take_of_length_le (by omega)] at h1 : Rds W' A1 bs))
  clear hf ho1 oa1 HL
  go_wp2_with fail
  refine (HR1.out w1 A1 c1 hc1 (HRA.out _ OA1.out)).mono ?_
  rintro e w2 ⟨A2, c2, rfl, hrow, hf⟩
  have F2 := Lib.hid (F1.out.new0 hf)
  have RB2 := Lib.hid (RB1.out.frm hf (fun _ _ x => x))
  have OA2 := Lib.hid (hf.own OA1.out (fun _ _ x => x))
  have OB2 := Lib.hid (own_more hrow F1.out.size)
  have AP1 := Lib.hid (apart_new OA1.out (Nat.le_refl _) hrow)
  obtain ⟨W3, hW3⟩ : ∃ W, W = w2.alloc (.cells #[.int .u8 (v1 : Int), .int .u16 (id : Int), .bool df, .bool mf, .int .i64 (off : Int), .int .u8 (ttl : Int), .int .u8 (pro : Int), .int .u32 (src : Int), .int .u32 (dst : Int), .slice A2 o c2] 28) := ⟨_, rfl⟩
  obtain ⟨hb, hhb⟩ : ∃ b, b = w2.heap.size := ⟨_, rfl⟩
  have S3 : Hid (RdSt w W3 hb #[.int .u8 (v1 : Int), .int .u16 (id : Int), .bool df, .bool mf, .int .i64 (off : Int), .int .u8 (ttl : Int), .int .u8 (pro : Int), .int .u32 (src : Int), .int .u32 (dst : Int), .slice A2 o c2] B bs os [] [] A1 A2 none none n c1 o c2 0 0 0 0) := by
    show RdSt w W3 _ _ _ _ _ _ _ _ _ _ _ _ _ _ _ _ _ _ _
    have fa : Frm No w2 W3 := by rw [hW3]; exact (Frm.refl No w2).alloc _
    exact ⟨F2.out.new0 fa, RB2.out.frm fa (fun _ _ x => x), by rw [hW3, hhb]; exact Blk.new w2 28 _, fa.own OA2.out (fun _ _ x => x), fa.own OB2.out (fun _ _ x => x), own_nil _ _, own_nil _ _, AP1.out, fun i _ h => by simp [blk] at h, fun i _ h => by simp [blk] at h, fun i _ h => by simp [blk] at h, fun i _ h => by simp [blk] at h, fun i _ h => by simp [blk] at h⟩
  clear hrow hf F1 RB1 OA1 F2 RB2 OA2 OB2 AP1 HR1
  go_wp2_with fail
  rw [← hW3, ← hhb]
  refine (HR2.out W3 B k hnk S3.out.rb).mono ?_
  clear hW3 hhb
  rintro e w4 ⟨Ag, cg, rfl, hrow, hf⟩
  have S4 := Lib.hid (S3.out.no hf)
  have RG4 := Lib.hid (own_caps hrow).2.2
  obtain ⟨W5, hW5⟩ : ∃ W, W = w4.alloc (.cells #[.int .u8 (v1 : Int), .int .u16 (id : Int), .bool df, .bool mf, .int .i64 (off : Int), .int .u8 (ttl : Int), .int .u8 (pro : Int), .int .u32 (src : Int), .int .u32 (dst : Int), .slice Ag o cg] 54) := ⟨_, rfl⟩
  obtain ⟨gb, hgb⟩ : ∃ b, b = w4.heap.size := ⟨_, rfl⟩
  have fa : Frm No w4 W5 := by rw [hW5]; exact (Frm.refl No w4).alloc _
  have S5 := Lib.hid (S4.out.no fa)
  have RG5 := Lib.hid (RG4.out.frm fa (fun _ _ x => x))
  have BG5 : Hid (Blk W5 gb 54 #[.int .u8 (v1 : Int), .int .u16 (id : Int), .bool df, .bool mf, .int .i64 (off : Int), .int .u8 (ttl : Int), .int .u8 (pro : Int), .int .u32 (src : Int), .int .u32 (dst : Int), .slice Ag o cg]) := by show Blk W5 _ _ _; rw [hW5, hgb]; exact Blk.new w4 54 _
  clear hrow hf fa S3 S4 RG4 HR2
  go_wp2_with fail
  rw [← hW5, ← hgb]
  refine (HH1.out W5 A1 c1 hc1 (HRA.out _ S5.out.o1)).mono ?_
  clear hW5 hgb
  rintro e w6 ⟨A3, c3, rfl, hrow, hf⟩
  have S6 := Lib.hid (S5.out.no hf)
  have RG6 := Lib.hid (RG5.out.frm hf (fun _ _ x => x))
  have BG6 := Lib.hid (BG5.out.frm hf (fun x => x))
  have T6 : Hid (RdSt w w6 hb #[.int .u8 (v1 : Int), .int .u16 (id : Int), .bool df, .bool mf, .int .i64 (off : Int), .int .u8 (ttl : Int), .int .u8 (pro : Int), .int .u32 (src : Int), .int .u32 (dst : Int), .slice A2 o c2] B bs os xs [] A1 A2 A3 none n c1 o c2 n3 c3 0 0) :=
    Lib.hid ⟨S6.out.frm, S6.out.rb, S6.out.bh, S6.out.o1, S6.out.o2, own_more hrow S5.out.frm.size, S6.out.o4, S6.out.h1, apart_new S5.out.o1 (Nat.le_refl _) hrow, apart_new S5.out.o2 (Nat.le_refl _) hrow, S6.out.h4, S6.out.h5, fun i _ h => by simp [blk] at h⟩
  clear hrow hf S5 RG5 BG5 S6 HH1
  go_wp2_with fail
  refine (HH2.out w6 B k hnk T6.out.rb).mono ?_
  rintro e w7 ⟨A5, c5, rfl, hrow, hf⟩
  have T7 := Lib.hid (T6.out.no hf)
  have RG7 := Lib.hid (RG6.out.frm hf (fun _ _ x => x))
  have BG7 := Lib.hid (BG6.out.frm hf (fun x => x))
  have RX7 := Lib.hid (own_caps hrow).2.2
  clear hrow hf T6 RG6 BG6 HH2
  go_wp2_with fail
  refine (HT1.out w7 A1 c1 hc1 (HRA.out _ T7.out.o1)).mono ?_
  rintro e w8 ⟨A4, c4, rfl, hrow, hf⟩
  have T8 := Lib.hid (T7.out.no hf)
  have RG8 := Lib.hid (RG7.out.frm hf (fun _ _ x => x))
  have BG8 := Lib.hid (BG7.out.frm hf (fun x => x))
  have RX8 := Lib.hid (RX7.out.frm hf (fun _ _ x => x))
  have U8 : Hid (RdSt w w8 hb #[.int .u8 (v1 : Int), .int .u16 (id : Int), .bool df, .bool mf, .int .i64 (off : Int), .int .u8 (ttl : Int), .int .u8 (pro : Int), .int .u32 (src : Int), .int .u32 (dst : Int), .slice A2 o c2] B bs os xs ys A1 A2 A3 A4 n c1 o c2 n3 c3 n4 c4) :=
    Lib.hid ⟨T8.out.frm, T8.out.rb, T8.out.bh, T8.out.o1, T8.out.o2, T8.out.o3, own_more hrow T7.out.frm.size, T8.out.h1, T8.out.h2, T8.out.h3, apart_new T7.out.o1 (Nat.le_refl _) hrow, apart_new T7.out.o2 (Nat.le_refl _) hrow, apart_new T7.out.o3 (Nat.le_refl _) hrow⟩
  clear hrow hf T7 T8 RG7 BG7 RX7 HT1
  go_wp2_with fail
  refine (HT2.out w8 B k hnk U8.out.rb).mono ?_
  rintro e w9 ⟨A6, c6, rfl, hrow, hf⟩
  have U9 := Lib.hid (U8.out.no hf)
  have RG9 := Lib.hid (RG8.out.frm hf (fun _ _ x => x))
  have BG9 := Lib.hid (BG8.out.frm hf (fun x => x))
  have RX9 := Lib.hid (RX8.out.frm hf (fun _ _ x => x))
  have RY9 := Lib.hid (own_caps hrow).2.2
  clear hrow hf U8 RG8 BG8 RX8 HT2
  go_upto_region 10 with fail
  exact reads_d w w9 _ _ _ _ _ _ _ _ _ _ _ _ _ _ _ _ _ _ _ _ _ _ _ _ _ _ _ _ _ _ _ _ _ _ _ _ _ _ _ _ _ _ _ _ _ _ _ _ _ _ _ _ _ _ _ _ _ _ _ _ _ _ _ _ _ _ _ _ _ _ _ _ _ _ _ _ _ _ _ _ _ _ _ _ _ _ _ _ _ _ _ _ _ _ _ _ _ _ _ hb gb _ _ _ _ _ _ _ df mf B A1 A2 A3 A4 A5 A6 Ag n k c1 o c2 cg n3 c3 c5 n4 c4 c6 bs os xs ys _ _ (by assumption) (by assumption) HN.out hn400 ho400 hn3 hn4 RX9.out RY9.out RG9.out BG9.out U9.out
end Go.Proofs.Ytcclneaabnpbkaa

/- Qr -/
namespace Go.Proofs.Ytcclneaabnpbkaa
open Go.RowKit
attribute [local go_sem] undef

set_option maxRecDepth 100000 in
set_option maxHeartbeats 2000000 in
theorem reads_long (w : World) (B : Option Addr) (n k : Nat) (h400 : ¬ n ≤ 400) : Calls Try.prog 12 #[.slice B n k] w (BoolNo true w) := by
  have g1 : (n : Int) > 400 := by omega
  clear h400
  go_enter Try.func12, Try.ntmps12
  go_wp2_with fail
  go_ret
  exact ⟨rfl, Frm.refl No w⟩

theorem reads_any (w : World) (B : Option Addr) (n k : Nat) (bs : List UInt8) (hn : bs.length = n) (hnk : n ≤ k) (RB : Rds w B bs) (hB : B = none → k = 0) :
    Calls Try.prog 12 #[.slice B n k] w (BoolNo true w) := by
  by_cases h400 : n ≤ 400
  · by_cases hf : faultB bs = 0
    · have nf := fault_zero.1 hf
      have hs := nf.sizes
      by_cases ht : byteAt bs 8 ≤ 1
      · exact reads_all w B n k bs hn hnk hB RB h400 (byteAt bs 1) (wordAt bs 4) (dfAt bs) (mfAt bs) (offAt bs) (byteAt bs 8) (byteAt bs 9) (addrAt bs 12) (addrAt bs 16) (sizeAt bs - 20) (sizeAt bs) (totAt bs) 0 (optsAt bs) 0 [] 57 (totAt bs) (turnOf bs) 0 (by omega) (by omega) (by omega)
          (fun W A c hc h => (read_ok W A n c bs hn hc (by omega) h nf).mono fun _ _ => readV_ok)
          (fun W A c hc h => (refRead_ok W A n c bs hn hc h400 h nf).mono fun _ _ => readV_ref)
          (fun W A c hc h => (hop_ttl W A n c bs hn hc (by omega) h nf ht).mono fun _ _ => outV_no)
          (fun W A c hc h => (refHop_ttl W A n c bs hn hc h400 h nf ht).mono fun _ _ => outV_no)
          (fun W A c hc h => (turn_yes W A n c bs hn hc (by omega) h nf (totAt bs) rfl).mono fun _ _ => outV_turn)
          (fun W A c hc h => (refTurn_yes W A n c bs hn hc h400 h nf (totAt bs) rfl).mono fun _ _ => outV_turn)
      · exact reads_all w B n k bs hn hnk hB RB h400 (byteAt bs 1) (wordAt bs 4) (dfAt bs) (mfAt bs) (offAt bs) (byteAt bs 8) (byteAt bs 9) (addrAt bs 12) (addrAt bs 16) (sizeAt bs - 20) (sizeAt bs) (totAt bs) 0 (optsAt bs) (totAt bs) (pkt (hdHop bs) (optsAt bs) (dataAt bs)) 0 (totAt bs) (turnOf bs) 0 (by omega) (by omega) (by omega)
          (fun W A c hc h => (read_ok W A n c bs hn hc (by omega) h nf).mono fun _ _ => readV_ok)
          (fun W A c hc h => (refRead_ok W A n c bs hn hc h400 h nf).mono fun _ _ => readV_ref)
          (fun W A c hc h => (hop_yes W A n c bs hn hc (by omega) h nf (by omega) (totAt bs) rfl).mono fun _ _ => outV_hop)
          (fun W A c hc h => (refHop_yes W A n c bs hn hc h400 h nf (by omega) (totAt bs) rfl).mono fun _ _ => outV_hop)
          (fun W A c hc h => (turn_yes W A n c bs hn hc (by omega) h nf (totAt bs) rfl).mono fun _ _ => outV_turn)
          (fun W A c hc h => (refTurn_yes W A n c bs hn hc h400 h nf (totAt bs) rfl).mono fun _ _ => outV_turn)
    · obtain ⟨q, hq⟩ : ∃ q, faultB bs = q := ⟨_, rfl⟩
      have hq0 : q ≠ 0 := by omega
      exact reads_all w B n k bs hn hnk hB RB h400 0 0 false false 0 0 0 0 0 0 0 0 (q : Int) [] 0 [] (q : Int) 0 [] (q : Int) (by omega) (by omega) (by omega)
          (fun W A c hc h => (read_bad W A n c bs hn hc (by omega) h q q rfl hq hq0).mono fun _ _ => readV_bad)
          (fun W A c hc h => (refRead_bad W A n c bs hn hc h400 h q q rfl hq hq0).mono fun _ _ => readV_bad)
          (fun W A c hc h => (hop_bad W A n c bs hn hc (by omega) h q hq hq0).mono fun _ _ => outV_no)
          (fun W A c hc h => (refHop_bad W A n c bs hn hc h400 h q hq hq0).mono fun _ _ => outV_no)
          (fun W A c hc h => (turn_bad W A n c bs hn hc (by omega) h q hq hq0).mono fun _ _ => outV_no)
          (fun W A c hc h => (refTurn_bad W A n c bs hn hc h400 h q hq hq0).mono fun _ _ => outV_no)
  · exact reads_long w B n k h400

set_option maxRecDepth 100000 in
set_option maxHeartbeats 1000000 in
theorem ip_reads (w : World) (B : Option Addr) (n k : Nat) (bs : List UInt8) (hn : bs.length = n) (hnk : n ≤ k) (RB : Rds w B bs) (hB : B = none → k = 0) :
    Calls Try.prog 3 #[.slice B n k] w (BoolNo true w) := by
  have HW := Lib.hid (reads_any w B n k bs hn hnk RB hB)
  clear RB hB hn hnk
  go_enter Try.func3, Try.ntmps3
  go_wp2_with fail
  refine HW.out.mono ?_
  rintro e w1 ⟨rfl, hf⟩
  have F1 := Lib.hid hf
  clear hf HW
  go_wp2_with fail
  refine (awake _).mono ?_
  rintro e w2 ⟨rfl, hf⟩
  have F2 := Lib.hid (F1.out.new0 hf)
  clear hf
  go_wp2_with fail
  go_ret
  exact ⟨rfl, F2.out⟩
end Go.Proofs.Ytcclneaabnpbkaa
