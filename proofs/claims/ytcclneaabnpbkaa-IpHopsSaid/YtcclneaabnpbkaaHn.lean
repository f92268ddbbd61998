/-
  IpHops: a packet makes as many hops as its TTL, less 1; with each one the TTL is 1 less, the header right, and all else as it was.
-/
import Derived.Test.YtcclneaabnpbkaaHc
namespace Go.Proofs.Ytcclneaabnpbkaa
open Go.RowKit
attribute [local go_sem] undef

set_option maxRecDepth 100000 in
set_option maxHeartbeats 8000000 in
theorem ipHops (w : World) (a0 a1 a2 a3 a4 a5 a6 a7 a8 a9 a10 a11 wd fr mn : UInt8) (df mf : Bool) (D : Option Addr) (dn dc : Nat) (ds : List UInt8) (hs1 : ds.length = dn) (hs2 : dn ≤ dc) (hs3 : Rds w D ds) (hs4 : D = none → dc = 0) (bh : Nat) (_hbh : bh < 256) :
    Calls Try.prog 8 #[.agg #[.int .u8 (a0.toNat : Int), .int .u8 (a1.toNat : Int), .int .u8 (a2.toNat : Int), .int .u8 (a3.toNat : Int), .int .u8 (a4.toNat : Int), .int .u8 (a5.toNat : Int), .int .u8 (a6.toNat : Int), .int .u8 (a7.toNat : Int), .int .u8 (a8.toNat : Int), .int .u8 (a9.toNat : Int), .int .u8 (a10.toNat : Int), .int .u8 (a11.toNat : Int), .int .u8 (wd.toNat : Int), .int .u8 (fr.toNat : Int), .int .u8 (mn.toNat : Int), .bool df, .bool mf, .slice D dn dc], .int .u8 (bh : Int)] w (BoolNo true w) := by
  have HM := Lib.hid (fun W (hf : Frm No w W) => made_any W a0 a1 a2 a3 a4 a5 a6 a7 a8 a9 a10 a11 wd fr mn df mf D dn dc ds hs1 (hs3.frm hf (fun _ _ x => x)) hs4 hs2)
  clear hs1 hs2 hs3 hs4
  go_enter Try.func8, Try.ntmps8
  go_wp2_with fail
  refine (awake _).mono ?_
  rintro e w1 ⟨rfl, hf⟩
  have F1 := Lib.hid (((Frm.refl No w).alloc _).new0 hf)
  have T1 := Lib.hid ((Blk.new w 40 #[.int .u8 (a0.toNat : Int), .int .u8 (a1.toNat : Int), .int .u8 (a2.toNat : Int), .int .u8 (a3.toNat : Int), .int .u8 (a4.toNat : Int), .int .u8 (a5.toNat : Int), .int .u8 (a6.toNat : Int), .int .u8 (a7.toNat : Int), .int .u8 (a8.toNat : Int), .int .u8 (a9.toNat : Int), .int .u8 (a10.toNat : Int), .int .u8 (a11.toNat : Int), .int .u8 (wd.toNat : Int), .int .u8 (fr.toNat : Int), .int .u8 (mn.toNat : Int), .bool df, .bool mf, .slice D dn dc]).frm hf (fun x => x))
  clear hf
  obtain ⟨b0, b1, b2, b3, b4, b5, b6, b7, b8, b9, b10, b11, b12, b13, b14, b15, b16, b17⟩ := blk18 T1.out
  go_wp2_with fail
  refine (HM.out w1 F1.out).mono ?_
  rintro e w2 ⟨h, A, DD, o, oc, n, dc2, opts, data, rfl, hmk⟩
  have MK := Lib.hid hmk
  have F2 := Lib.hid (F1.out.new0 hmk.frm)
  clear hmk b0 b1 b2 b3 b4 b5 b6 b7 b8 b9 b10 b11 b12 b13 b14 b15 b16 b17 T1 F1 HM
  obtain ⟨tos, id, hdf, hmf, off, ttl, pro, src, dst⟩ := h
  unfold hdVal
  dsimp only
  go_upto_region 4 with fail
  obtain ⟨SV, hSV⟩ : ∃ v : Value, v = .agg #[.int .u8 (a0.toNat : Int), .int .u8 (a1.toNat : Int), .int .u8 (a2.toNat : Int), .int .u8 (a3.toNat : Int), .int .u8 (a4.toNat : Int), .int .u8 (a5.toNat : Int), .int .u8 (a6.toNat : Int), .int .u8 (a7.toNat : Int), .int .u8 (a8.toNat : Int), .int .u8 (a9.toNat : Int), .int .u8 (a10.toNat : Int), .int .u8 (a11.toNat : Int), .int .u8 (wd.toNat : Int), .int .u8 (fr.toNat : Int), .int .u8 (mn.toNat : Int), .bool df, .bool mf, .slice D dn dc] := ⟨_, rfl⟩
  rw [← hSV]
  clear hSV
  obtain ⟨W3, hW3⟩ : ∃ W, W = w2.alloc (.cells #[.int .u8 (tos : Int), .int .u16 (id : Int), .bool hdf, .bool hmf, .int .i64 (off : Int), .int .u8 (ttl : Int), .int .u8 (pro : Int), .int .u32 (src : Int), .int .u32 (dst : Int), .slice A o oc] 28) := ⟨_, rfl⟩
  have F3 : Hid (Frm No w W3) := by show Frm No w W3; rw [hW3]; exact F2.out.alloc _
  have T3 : Hid (Blk W3 w2.heap.size 28 #[.int .u8 (tos : Int), .int .u16 (id : Int), .bool hdf, .bool hmf, .int .i64 (off : Int), .int .u8 (ttl : Int), .int .u8 (pro : Int), .int .u32 (src : Int), .int .u32 (dst : Int), .slice A o oc]) := by show Blk W3 _ _ _; rw [hW3]; exact Blk.new w2 28 _
  have mk := MK.out
  have caps1 := own_caps mk.own
  have caps2 := own_caps mk.ownD
  have RA : Hid (Rds W3 A opts) := by show Rds W3 _ _; rw [hW3]; exact caps1.2.2.alloc _
  have RD : Hid (Rds W3 DD data) := by show Rds W3 _ _; rw [hW3]; exact caps2.2.2.alloc _
  rw [← hW3]
  obtain ⟨hb, hhb⟩ : ∃ b, b = w2.heap.size := ⟨_, rfl⟩
  rw [← hhb] at T3 ⊢
  obtain ⟨f1, f2, f3, f4, f5, f6⟩ := right_facts mk.right
  have mho := mk.ho
  have mhn := mk.hn
  have m80 := mk.n80
  obtain ⟨N, hN⟩ : ∃ N, N = 20 + o + n := ⟨_, rfl⟩
  obtain ⟨t, ht, ht2⟩ : ∃ t : Nat, (ttl : Int) % 21 = (t : Int) ∧ t < 21 := ⟨ttl % 21, by omega, by omega⟩
  have ok0 := mk.ok
  have ok : Hd.Ok ⟨tos, id, hdf, hmf, off, t, pro, src, dst⟩ := ⟨ok0.tos, ok0.id, ok0.off, by show t < 256; omega, ok0.pro, ok0.src, ok0.dst⟩
  have okt : ttl < 256 := ok0.ttl
  obtain ⟨W4, hW4⟩ : ∃ W, W = W3.setCell ⟨hb, 5, none⟩ (.int .u8 (t : Int)) := ⟨_, rfl⟩
  have hR := mk.right
  have hbA := fun q (hq : blk A = some q) => (World.ownsRow.lt mk.own q (blk_own hq)).2
  have hbD := fun q (hq : blk DD = some q) => (World.ownsRow.lt mk.ownD q (blk_own hq)).2
  have hwb := F2.out.size
  rw [← hhb] at hbA hbD hwb
  have f4 : Frm (One hb) W3 W4 := by rw [hW4]; exact (Frm.refl (One hb) W3).set1 5 _
  have F4 : Hid (Frm No w W4) := by show Frm No w W4; exact F3.out.trans f4 (fun i hi h => by have h1 : i = hb := h; exact absurd hi (by omega))
  have T4 : Hid (Blk W4 hb 28 #[.int .u8 (tos : Int), .int .u16 (id : Int), .bool hdf, .bool hmf, .int .i64 (off : Int), .int .u8 (t : Int), .int .u8 (pro : Int), .int .u32 (src : Int), .int .u32 (dst : Int), .slice A o oc]) := by show Blk W4 _ _ _; rw [hW4]; exact T3.out.set_ 5 _
  have RA4 : Hid (Rds W4 A opts) := RA.out.frm f4 (fun q hq h => by have := hbA q hq; have h1 : q = hb := h; omega)
  have RD4 : Hid (Rds W4 DD data) := RD.out.frm f4 (fun q hq h => by have := hbD q hq; have h1 : q = hb := h; omega)
  have HWR := Lib.hid (write_yes W4 tos id hdf hmf off t pro src dst ok A DD o oc n dc2 opts data mk.ho mk.hn RA4.out RD4.out caps1.1 caps2.2.1 mk.right N hN)
  unfold WroteOk at HWR
  obtain ⟨k, hk, hk2⟩ : ∃ k : Nat, (bh : Int) % 9 = (k : Int) ∧ k < 9 := ⟨bh % 9, by omega, by omega⟩
  have htw : IntKind.u8.wrap (t : Int) = t := by
    have e : IntKind.u8.wrap (t : Int) = (t : Int) % 256 := rfl
    rw [e]; omega
  have MHO := Lib.hid mho
  have MHN := Lib.hid mhn
  have HNN := Lib.hid hN
  have HK9 := Lib.hid hk
  have o40 : o ≤ 40 := f1
  have n80 : n ≤ 80 := m80
  have HRA := Lib.hid hbA
  have HRD := Lib.hid hbD
  have HWB := Lib.hid hwb
  have HOK := Lib.hid ok
  rw [← mk.ho, ← mk.hn] at hR
  have HRT := Lib.hid hR
  have z5 := T3.out.frozen 5
  clear hW3 hhb mk caps1 caps2 f1 f2 f3 f4 f5 f6 F2 MK mho mhn m80 hN hk hbA hbD hwb ok ok0 hR
  obtain ⟨b0, b1, b2, b3, b4, b5, b6, b7, b8, b9⟩ := blk10 T3.out
  go_upto_region 5 with fail
  try rw [ht]
  rw [← hW4]
  clear hW4 ht b0 b1 b2 b3 b4 b5 b6 b7 b8 b9 z5 F3 T3 RA RD
  obtain ⟨b0, b1, b2, b3, b4, b5, b6, b7, b8, b9⟩ := blk10 T4.out
  go_wp2_with fail
  refine HWR.out.mono ?_
  rintro e w5 ⟨g, c4, rfl, hrow, hf⟩
  have F5 := Lib.hid (F4.out.new0 hf)
  have T5 := Lib.hid (T4.out.frm hf (fun x => x))
  have RA5 := Lib.hid (RA4.out.frm hf (fun _ _ x => x))
  have RD5 := Lib.hid (RD4.out.frm hf (fun _ _ x => x))
  have R5 := Lib.hid hrow
  have hbW := Lib.hid T4.out.lt
  clear hrow hf b0 b1 b2 b3 b4 b5 b6 b7 b8 b9 F4 T4 RA4 RD4 HWR
  go_upto_region 8 with fail
  exact hops_a w W4 w5 _ _ _ _ _ _ _ _ _ _ _ _ _ _ _ _ _ _ _ _ _ _ _ _ _ _ _ _ _ _ _ _ _ _ _ _ _ _ _ _ _ _ _ _ _ _ _ _ _ _ _ _ _ _ _ _ _ _ _ _ _ _ _ _ _ _ _ _ _ _ _ _ _ _ _ _ _ _ _ _ _ _ _ _ _ _ _ _ _ _ _ _ _ _ _ _ _ _ _ _ _ _ _ _ _ _ _ _ _ _ _ _ _ _ _ _ _ _ _ _ _ _ _ _ _ _ _ _ _ _ _ _ _ _ _ _ _ _ _ _ _ _ _ _ _ _ _ _ _ _ _ hb g N c4 k bh t tos id hdf hmf off pro src dst A DD o oc n dc2 opts data _ _ (by assumption) MHO.out o40 MHN.out n80 HNN.out HRT.out HK9.out hk2 HWB.out hbW.out HRA.out HRD.out HOK.out rfl F5.out T5.out RA5.out RD5.out R5.out
end Go.Proofs.Ytcclneaabnpbkaa
