/-
  IpTurned: a packet turned has both addresses exchanged, the same checksum, and is right; turned twice it is as it was.
-/
import Derived.Test.YtcclneaabnpbkaaTb
namespace Go.Proofs.Ytcclneaabnpbkaa
open Go.RowKit
attribute [local go_sem] undef

set_option maxRecDepth 100000 in
set_option maxHeartbeats 8000000 in
theorem ipTurned (w : World) (a0 a1 a2 a3 a4 a5 a6 a7 a8 a9 a10 a11 wd fr mn : UInt8) (df mf : Bool) (D : Option Addr) (dn dc : Nat) (ds : List UInt8) (hs1 : ds.length = dn) (hs2 : dn ≤ dc) (hs3 : Rds w D ds) (hs4 : D = none → dc = 0) (bh : Nat) (_hbh : bh < 256) :
    Calls Try.prog 9 #[.agg #[.int .u8 (a0.toNat : Int), .int .u8 (a1.toNat : Int), .int .u8 (a2.toNat : Int), .int .u8 (a3.toNat : Int), .int .u8 (a4.toNat : Int), .int .u8 (a5.toNat : Int), .int .u8 (a6.toNat : Int), .int .u8 (a7.toNat : Int), .int .u8 (a8.toNat : Int), .int .u8 (a9.toNat : Int), .int .u8 (a10.toNat : Int), .int .u8 (a11.toNat : Int), .int .u8 (wd.toNat : Int), .int .u8 (fr.toNat : Int), .int .u8 (mn.toNat : Int), .bool df, .bool mf, .slice D dn dc], .int .u8 (bh : Int)] w (BoolNo true w) := by
  have HM := Lib.hid (fun W (hf : Frm No w W) => made_any W a0 a1 a2 a3 a4 a5 a6 a7 a8 a9 a10 a11 wd fr mn df mf D dn dc ds hs1 (hs3.frm hf (fun _ _ x => x)) hs4 hs2)
  clear hs1 hs2 hs3 hs4
  go_enter Try.func9, Try.ntmps9
  go_wp2_with fail
  refine (awake _).mono ?_
  rintro e w1 ⟨rfl, hf⟩
  have F1 := Lib.hid (((Frm.refl No w).alloc _).new0 hf)
  have T1 := Lib.hid ((Blk.new w 40 #[.int .u8 (a0.toNat : Int), .int .u8 (a1.toNat : Int), .int .u8 (a2.toNat : Int), .int .u8 (a3.toNat : Int), .int .u8 (a4.toNat : Int), .int .u8 (a5.toNat : Int), .int .u8 (a6.toNat : Int), .int .u8 (a7.toNat : Int), .int .u8 (a8.toNat : Int), .int .u8 (a9.toNat : Int), .int .u8 (a10.toNat : Int), .int .u8 (a11.toNat : Int), .int .u8 (wd.toNat : Int), .int .u8 (fr.toNat : Int), .int .u8 (mn.toNat : Int), .bool df, .bool mf, .slice D dn dc]).frm hf (fun x => x))
  clear hf
  obtain ⟨b0, b1, b2, b3, b4, b5, b6, b7, b8, b9, b10, b11, b12, b13, b14, b15, b16, b17⟩ := blk18 T1.out
  go_wp2_with fail
  refine (HM.out w1 F1.out).mono ?_
  rintro e w2 ⟨h, A, DD, o, oc, n, dc2, opts, data, rfl, hmk⟩
  have MK := Lib.hid hmk
  have F2 := Lib.hid (F1.out.new0 hmk.frm)
  clear hmk b0 b1 b2 b3 b4 b5 b6 b7 b8 b9 b10 b11 b12 b13 b14 b15 b16 b17 T1 F1 HM
  obtain ⟨tos, id, hdf, hmf, off, ttl, pro, src, dst⟩ := h
  unfold hdVal
  dsimp only
  go_upto_region 4 with fail
  obtain ⟨SV, hSV⟩ : ∃ v : Value, v = .agg #[.int .u8 (a0.toNat : Int), .int .u8 (a1.toNat : Int), .int .u8 (a2.toNat : Int), .int .u8 (a3.toNat : Int), .int .u8 (a4.toNat : Int), .int .u8 (a5.toNat : Int), .int .u8 (a6.toNat : Int), .int .u8 (a7.toNat : Int), .int .u8 (a8.toNat : Int), .int .u8 (a9.toNat : Int), .int .u8 (a10.toNat : Int), .int .u8 (a11.toNat : Int), .int .u8 (wd.toNat : Int), .int .u8 (fr.toNat : Int), .int .u8 (mn.toNat : Int), .bool df, .bool mf, .slice D dn dc] := ⟨_, rfl⟩
  rw [← hSV]
  clear hSV
  obtain ⟨W3, hW3⟩ : ∃ W, W = w2.alloc (.cells #[.int .u8 (tos : Int), .int .u16 (id : Int), .bool hdf, .bool hmf, .int .i64 (off : Int), .int .u8 (ttl : Int), .int .u8 (pro : Int), .int .u32 (src : Int), .int .u32 (dst : Int), .slice A o oc] 28) := ⟨_, rfl⟩
  have F3 : Hid (Frm No w W3) := by show Frm No w W3; rw [hW3]; exact F2.out.alloc _
  have T3 : Hid (Blk W3 w2.heap.size 28 #[.int .u8 (tos : Int), .int .u16 (id : Int), .bool hdf, .bool hmf, .int .i64 (off : Int), .int .u8 (ttl : Int), .int .u8 (pro : Int), .int .u32 (src : Int), .int .u32 (dst : Int), .slice A o oc]) := by show Blk W3 _ _ _; rw [hW3]; exact Blk.new w2 28 _
  have mk := MK.out
  have caps1 := own_caps mk.own
  have caps2 := own_caps mk.ownD
  have RA : Hid (Rds W3 A opts) := by show Rds W3 _ _; rw [hW3]; exact caps1.2.2.alloc _
  have RD : Hid (Rds W3 DD data) := by show Rds W3 _ _; rw [hW3]; exact caps2.2.2.alloc _
  rw [← hW3]
  obtain ⟨hb, hhb⟩ : ∃ b, b = w2.heap.size := ⟨_, rfl⟩
  rw [← hhb] at T3 ⊢
  obtain ⟨f1, f2, f3, f4, f5, f6⟩ := right_facts mk.right
  have mho := mk.ho
  have mhn := mk.hn
  have m80 := mk.n80
  obtain ⟨N, hN⟩ : ∃ N, N = 20 + o + n := ⟨_, rfl⟩
  obtain ⟨z, hz⟩ : ∃ N, N = 20 + o := ⟨_, rfl⟩
  have HWR := Lib.hid (write_yes W3 tos id hdf hmf off ttl pro src dst mk.ok A DD o oc n dc2 opts data mk.ho mk.hn RA.out RD.out caps1.1 caps2.2.1 mk.right N hN)
  have htf := fun X => turned_finds ⟨tos, id, hdf, hmf, off, ttl, pro, src, dst⟩ opts data X mk.ok (by rw [mk.ho, mk.hn]; exact mk.right)
  have hpf := fun beh => pkt_finds ⟨tos, id, hdf, hmf, off, ttl, pro, src, dst⟩ opts data beh mk.ok (by rw [mk.ho, mk.hn]; exact mk.right)
  have hpl := pkt_len ⟨tos, id, hdf, hmf, off, ttl, pro, src, dst⟩ opts data
  obtain ⟨L, hL⟩ : ∃ L, pkt ⟨tos, id, hdf, hmf, off, ttl, pro, src, dst⟩ opts data = L := ⟨_, rfl⟩
  unfold WroteOk at HWR
  rw [hL] at hpl HWR
  simp only [hL] at hpf htf
  have hlen : L.length = N := by rw [hpl, mho, mhn, hN]
  obtain ⟨k, hk, hk2⟩ : ∃ k : Nat, (bh : Int) % 9 = (k : Int) ∧ k < 9 := ⟨bh % 9, by omega, by omega⟩
  have htf := htf (List.replicate k 0)
  have hpf := hpf (List.replicate k 0)
  obtain ⟨TT, hTT⟩ : ∃ q, turnOf (L ++ List.replicate k 0) = q := ⟨_, rfl⟩
  rw [hTT] at htf
  obtain ⟨t1, t2, t3, t4, t5⟩ := htf
  have hTL : TT.length = N := by rw [t3, mho, mhn, hN]
  have HF := Lib.hid (⟨t1, t2, hTT, hpf, hlen, hTL, t4, t5⟩ : Finds TT ⟨tos, id, hdf, hmf, off, ttl, pro, dst, src⟩ opts data ∧ turnOf TT = L ∧ turnOf (L ++ List.replicate k 0) = TT ∧ Finds (L ++ List.replicate k 0) ⟨tos, id, hdf, hmf, off, ttl, pro, src, dst⟩ opts data ∧ L.length = N ∧ TT.length = N ∧ TT.getD 10 0 = L.getD 10 0 ∧ TT.getD 11 0 = L.getD 11 0)
  have MHO := Lib.hid mho
  have MHN := Lib.hid mhn
  have HZ := Lib.hid hz
  have HNN := Lib.hid hN
  have HK9 := Lib.hid hk
  have o40 : o ≤ 40 := f1
  have n80 : n ≤ 80 := m80
  have HRA := Lib.hid (fun q (hq : blk A = some q) => (World.ownsRow.lt mk.own q (blk_own hq)).2)
  have HRD := Lib.hid (fun q (hq : blk DD = some q) => (World.ownsRow.lt mk.ownD q (blk_own hq)).2)
  have HWB := Lib.hid F2.out.size
  rw [← hhb] at HRA HRD HWB
  clear hW3 hhb mk caps1 caps2 f1 f2 f3 f4 f5 f6 hL hpf hpl hlen F2 MK mho mhn m80 hz hN hTT t1 t2 t3 t4 t5 hTL hk
  obtain ⟨b0, b1, b2, b3, b4, b5, b6, b7, b8, b9⟩ := blk10 T3.out
  go_wp2_with fail
  refine HWR.out.mono ?_
  rintro e w4 ⟨g, c4, rfl, hrow, hf⟩
  have F4 := Lib.hid (F3.out.new0 hf)
  have T4 := Lib.hid (T3.out.frm hf (fun x => x))
  have RA4 := Lib.hid (RA.out.frm hf (fun _ _ x => x))
  have RD4 := Lib.hid (RD.out.frm hf (fun _ _ x => x))
  have R4 := Lib.hid hrow
  clear hrow hf b0 b1 b2 b3 b4 b5 b6 b7 b8 b9 F3 RA RD HWR
  go_upto_region 5 with fail
  obtain ⟨t1, t2, t3, hpf, hll, htl, t4, t5⟩ := HF.out
  exact turned_b w W3 w4 _ _ _ _ _ _ _ _ _ _ _ _ _ _ _ _ _ _ _ _ _ _ _ _ _ _ _ _ _ _ _ _ _ _ _ _ _ _ _ _ _ _ _ _ _ _ _ _ _ _ _ _ _ _ _ _ _ _ _ _ _ _ _ _ _ _ _ _ _ _ _ _ _ _ _ _ _ _ _ _ _ _ _ _ _ _ _ _ _ _ _ _ _ _ _ _ _ _ _ _ _ _ _ _ _ hb g N c4 z k bh tos id hdf hmf off ttl pro src dst A DD o oc n dc2 opts data TT L _ (by assumption) MHO.out o40 MHN.out n80 HZ.out HNN.out HK9.out hk2 t1 t2 t3 hpf hll htl t4 t5 HWB.out T3.out.lt HRA.out HRD.out F4.out T4.out RA4.out RD4.out R4.out
end Go.Proofs.Ytcclneaabnpbkaa
