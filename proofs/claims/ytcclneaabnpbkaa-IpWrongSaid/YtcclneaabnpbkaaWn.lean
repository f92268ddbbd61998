/-
  IpWrong: headers that are not right for some data are rejected; packets that are wrong in one of twelve places are rejected with the first error.
-/
import Derived.Test.YtcclneaabnpbkaaWd
namespace Go.Proofs.Ytcclneaabnpbkaa
open Go.RowKit
attribute [local go_sem] undef

set_option maxRecDepth 100000 in
set_option maxHeartbeats 8000000 in
theorem ipWrong (w : World) (a0 a1 a2 a3 a4 a5 a6 a7 a8 a9 a10 a11 wd fr mn : UInt8) (df mf : Bool) (D : Option Addr) (dn dc : Nat) (ds : List UInt8) (hs1 : ds.length = dn) (hs2 : dn ≤ dc) (hs3 : Rds w D ds) (hs4 : D = none → dc = 0) (way : Nat) (_hway : way < 256) (nn : Int) (hnn : -9223372036854775808 ≤ nn ∧ nn ≤ 9223372036854775807) :
    Calls Try.prog 11 #[.agg #[.int .u8 (a0.toNat : Int), .int .u8 (a1.toNat : Int), .int .u8 (a2.toNat : Int), .int .u8 (a3.toNat : Int), .int .u8 (a4.toNat : Int), .int .u8 (a5.toNat : Int), .int .u8 (a6.toNat : Int), .int .u8 (a7.toNat : Int), .int .u8 (a8.toNat : Int), .int .u8 (a9.toNat : Int), .int .u8 (a10.toNat : Int), .int .u8 (a11.toNat : Int), .int .u8 (wd.toNat : Int), .int .u8 (fr.toNat : Int), .int .u8 (mn.toNat : Int), .bool df, .bool mf, .slice D dn dc], .int .u8 (way : Int), .int .i64 nn] w (BoolNo true w) := by
  have HM := Lib.hid (fun W (hf : Frm No w W) => made_any W a0 a1 a2 a3 a4 a5 a6 a7 a8 a9 a10 a11 wd fr mn df mf D dn dc ds hs1 (hs3.frm hf (fun _ _ x => x)) hs4 hs2)
  clear hs1 hs2 hs3 hs4
  go_enter Try.func11, Try.ntmps11
  go_wp2_with fail
  refine (awake _).mono ?_
  rintro e w1 ⟨rfl, hf⟩
  have F1 := Lib.hid (((Frm.refl No w).alloc _).new0 hf)
  have T1 := Lib.hid ((Blk.new w 40 #[.int .u8 (a0.toNat : Int), .int .u8 (a1.toNat : Int), .int .u8 (a2.toNat : Int), .int .u8 (a3.toNat : Int), .int .u8 (a4.toNat : Int), .int .u8 (a5.toNat : Int), .int .u8 (a6.toNat : Int), .int .u8 (a7.toNat : Int), .int .u8 (a8.toNat : Int), .int .u8 (a9.toNat : Int), .int .u8 (a10.toNat : Int), .int .u8 (a11.toNat : Int), .int .u8 (wd.toNat : Int), .int .u8 (fr.toNat : Int), .int .u8 (mn.toNat : Int), .bool df, .bool mf, .slice D dn dc]).frm hf (fun x => x))
  clear hf
  obtain ⟨b0, b1, b2, b3, b4, b5, b6, b7, b8, b9, b10, b11, b12, b13, b14, b15, b16, b17⟩ := blk18 T1.out
  go_wp2_with fail
  refine (HM.out w1 F1.out).mono ?_
  rintro e w2 ⟨h, A, DD, o, oc, n, dc2, opts, data, rfl, hmk⟩
  have MK := Lib.hid hmk
  have F2 := Lib.hid (F1.out.new0 hmk.frm)
  clear hmk b0 b1 b2 b3 b4 b5 b6 b7 b8 b9 b10 b11 b12 b13 b14 b15 b16 b17 T1 F1 HM
  obtain ⟨tos, id, hdf, hmf, off, ttl, pro, src, dst⟩ := h
  unfold hdVal
  dsimp only
  go_upto_region 4 with fail
  obtain ⟨SV, hSV⟩ : ∃ v : Value, v = .agg #[.int .u8 (a0.toNat : Int), .int .u8 (a1.toNat : Int), .int .u8 (a2.toNat : Int), .int .u8 (a3.toNat : Int), .int .u8 (a4.toNat : Int), .int .u8 (a5.toNat : Int), .int .u8 (a6.toNat : Int), .int .u8 (a7.toNat : Int), .int .u8 (a8.toNat : Int), .int .u8 (a9.toNat : Int), .int .u8 (a10.toNat : Int), .int .u8 (a11.toNat : Int), .int .u8 (wd.toNat : Int), .int .u8 (fr.toNat : Int), .int .u8 (mn.toNat : Int), .bool df, .bool mf, .slice D dn dc] := ⟨_, rfl⟩
  rw [← hSV]
  clear hSV
  obtain ⟨W3, hW3⟩ : ∃ W, W = w2.alloc (.cells #[.int .u8 (tos : Int), .int .u16 (id : Int), .bool hdf, .bool hmf, .int .i64 (off : Int), .int .u8 (ttl : Int), .int .u8 (pro : Int), .int .u32 (src : Int), .int .u32 (dst : Int), .slice A o oc] 28) := ⟨_, rfl⟩
  have F3 : Hid (Frm No w W3) := by show Frm No w W3; rw [hW3]; exact F2.out.alloc _
  have T3 : Hid (Blk W3 w2.heap.size 28 #[.int .u8 (tos : Int), .int .u16 (id : Int), .bool hdf, .bool hmf, .int .i64 (off : Int), .int .u8 (ttl : Int), .int .u8 (pro : Int), .int .u32 (src : Int), .int .u32 (dst : Int), .slice A o oc]) := by show Blk W3 _ _ _; rw [hW3]; exact Blk.new w2 28 _
  have mk := MK.out
  have caps1 := own_caps mk.own
  have caps2 := own_caps mk.ownD
  have RA : Hid (Rds W3 A opts) := by show Rds W3 _ _; rw [hW3]; exact caps1.2.2.alloc _
  have RD : Hid (Rds W3 DD data) := by show Rds W3 _ _; rw [hW3]; exact caps2.2.2.alloc _
  rw [← hW3]
  obtain ⟨hb, hhb⟩ : ∃ b, b = w2.heap.size := ⟨_, rfl⟩
  rw [← hhb] at T3 ⊢
  obtain ⟨f1, f2, f3, f4, f5, f6⟩ := right_facts mk.right
  have mho := mk.ho
  have mhn := mk.hn
  have m80 := mk.n80
  obtain ⟨N, hN⟩ : ∃ N, N = 20 + o + n := ⟨_, rfl⟩
  obtain ⟨z, hz⟩ : ∃ N, N = 20 + o := ⟨_, rfl⟩
  have HWR := Lib.hid (write_yes W3 tos id hdf hmf off ttl pro src dst mk.ok A DD o oc n dc2 opts data mk.ho mk.hn RA.out RD.out caps1.1 caps2.2.1 mk.right N hN)
  have hpf := pkt_finds0 ⟨tos, id, hdf, hmf, off, ttl, pro, src, dst⟩ opts data mk.ok (by rw [mk.ho, mk.hn]; exact mk.right)
  have hpl := pkt_len ⟨tos, id, hdf, hmf, off, ttl, pro, src, dst⟩ opts data
  obtain ⟨L, hL⟩ : ∃ L, pkt ⟨tos, id, hdf, hmf, off, ttl, pro, src, dst⟩ opts data = L := ⟨_, rfl⟩
  unfold WroteOk at HWR
  rw [hL] at hpl HWR hpf
  have HLN := Lib.hid (by rw [hpl, mho, mhn, hN] : L.length = N)
  have HSZ := Lib.hid (by rw [hpf.size, mho, hz] : sizeAt L = z)
  have HTT := Lib.hid (by rw [hpf.tot, mho, mhn, hN] : totAt L = N)
  have HNF := Lib.hid hpf.nf
  have HC1 := Lib.hid (⟨caps1.1, caps1.2.1, caps2.1, caps2.2.1⟩ : o ≤ oc ∧ (A = none → oc = 0) ∧ n ≤ dc2 ∧ (DD = none → dc2 = 0))
  have o40 : o ≤ 40 := f1
  have n80 : n ≤ 80 := m80
  have o4 : o % 4 = 0 := f2
  have off8 : off % 8 = 0 := f4
  have offl : off ≤ 65528 := mk.ok.off
  have HDN := Lib.hid (show n = N - z by omega)
  have hN3 : N ≤ 300 := by omega
  have e2 : IntKind.i64.wrap (20 + (o : Int)) = (z : Int) := by rw [IntWalk.i64_in] <;> omega
  have HWB := Lib.hid F2.out.size
  rw [← hhb] at HWB
  have MHO := Lib.hid mho
  have MHN := Lib.hid mhn
  have HNN := Lib.hid hnn
  have HO4 := Lib.hid o4
  have HO8 := Lib.hid off8
  obtain ⟨j, hj, hj12⟩ : ∃ j : Nat, way % 12 = j ∧ j < 12 := ⟨_, rfl, Nat.mod_lt _ (by omega)⟩
  have HJ := Lib.hid hj
  clear hW3 hhb mk caps1 caps2 f1 f2 f3 f4 f5 f6 hL hpf hpl F2 MK mho mhn m80 hz hN hnn o4 off8 hj
  obtain ⟨b0, b1, b2, b3, b4, b5, b6, b7, b8, b9⟩ := blk10 T3.out
  go_wp2_with fail
  refine HWR.out.mono ?_
  rintro e w4 ⟨g, c4, rfl, hrow, hf⟩
  have F4 := Lib.hid (F3.out.new0 hf)
  have T4 := Lib.hid (T3.out.frm hf (fun x => x))
  have RA4 := Lib.hid (RA.out.frm hf (fun _ _ x => x))
  have RD4 := Lib.hid (RD.out.frm hf (fun _ _ x => x))
  have R4 := Lib.hid hrow
  have HG := Lib.hid (Nat.le_trans F3.out.size hrow.cap.2.1)
  clear hrow hf b0 b1 b2 b3 b4 b5 b6 b7 b8 b9 F3 RA RD HWR
  obtain ⟨b0, b1, b2, b3, b4, b5, b6, b7, b8, b9⟩ := blk10 T4.out
  go_upto_region 8 with fail
  have hj0 : j = 0 ∨ j = 1 ∨ j = 2 ∨ j = 3 ∨ j = 4 ∨ j = 5 ∨ j = 6 ∨ j = 7 ∨ j = 8 ∨ j = 9 ∨ j = 10 ∨ j = 11 := by omega
  clear hj12 b0 b1 b2 b3 b4 b5 b6 b7 b8 b9
  rcases hj0 with rfl | rfl | rfl | rfl | rfl | rfl | rfl | rfl | rfl | rfl | rfl | rfl
  · have hj : (way : Int) % 12 = 0 := by have := HJ.out; omega
    as_aux_lemma =>
      go_upto_region 9 with fail
      exact bad_0 w w4 _ _ _ _ _ _ _ _ _ _ _ _ _ _ _ _ _ _ _ _ _ _ _ _ _ _ _ _ _ _ _ _ _ _ _ _ _ _ _ _ _ _ _ _ _ _ _ _ _ _ _ _ _ _ _ _ _ _ _ _ _ _ _ _ _ _ _ _ _ _ _ _ _ _ _ _ _ _ _ _ _ _ _ _ _ _ _ _ _ _ _ _ _ _ _ _ _ _ _ _ _ _ _ _ _ _ _ _ _ _ _ _ _ _ _ _ _ _ _ _ _ _ _ _ _ _ _ _ _ _ _ _ _ _ _ _ _ _ _ _ _ _ _ _ _ _ _ _ _ _ _ _ _ _ _ _ _ _ _ _ _ _ _ _ _ _ _ _ _ _ _ _ _ _ _ _ _ _ _ _ _ _ _ _ _ _ _ _ _ _ _ _ _ _ _ _ _ _ _ _ _ _ _ _ _ _ _ _ _ _ _ _ _ _ _ _ _ _ _ _ _ _ _ _ _ _ _ _ _ _ _ _ way nn hb tos id hdf hmf off ttl pro src dst A DD o oc n dc2 opts data _ _ (by assumption) hj HNN.out o40 offl HO8.out HO4.out n80 HC1.out.1 HC1.out.2.2.1 MHO.out MHN.out HC1.out.2.1 HC1.out.2.2.2 HWB.out F4.out T4.out RA4.out RD4.out
  · have hj : (way : Int) % 12 = 1 := by have := HJ.out; omega
    as_aux_lemma =>
      go_upto_region 9 with fail
      exact bad_1 w w4 _ _ _ _ _ _ _ _ _ _ _ _ _ _ _ _ _ _ _ _ _ _ _ _ _ _ _ _ _ _ _ _ _ _ _ _ _ _ _ _ _ _ _ _ _ _ _ _ _ _ _ _ _ _ _ _ _ _ _ _ _ _ _ _ _ _ _ _ _ _ _ _ _ _ _ _ _ _ _ _ _ _ _ _ _ _ _ _ _ _ _ _ _ _ _ _ _ _ _ _ _ _ _ _ _ _ _ _ _ _ _ _ _ _ _ _ _ _ _ _ _ _ _ _ _ _ _ _ _ _ _ _ _ _ _ _ _ _ _ _ _ _ _ _ _ _ _ _ _ _ _ _ _ _ _ _ _ _ _ _ _ _ _ _ _ _ _ _ _ _ _ _ _ _ _ _ _ _ _ _ _ _ _ _ _ _ _ _ _ _ _ _ _ _ _ _ _ _ _ _ _ _ _ _ _ _ _ _ _ _ _ _ _ _ _ _ _ _ _ _ _ _ _ _ _ _ _ _ _ _ _ _ way nn hb tos id hdf hmf off ttl pro src dst A DD o oc n dc2 opts data _ _ (by assumption) hj HNN.out o40 offl HO8.out HO4.out n80 HC1.out.1 HC1.out.2.2.1 MHO.out MHN.out HC1.out.2.1 HC1.out.2.2.2 HWB.out F4.out T4.out RA4.out RD4.out
  · have hj : (way : Int) % 12 = 2 := by have := HJ.out; omega
    as_aux_lemma =>
      go_upto_region 9 with fail
      exact bad_2 w w4 _ _ _ _ _ _ _ _ _ _ _ _ _ _ _ _ _ _ _ _ _ _ _ _ _ _ _ _ _ _ _ _ _ _ _ _ _ _ _ _ _ _ _ _ _ _ _ _ _ _ _ _ _ _ _ _ _ _ _ _ _ _ _ _ _ _ _ _ _ _ _ _ _ _ _ _ _ _ _ _ _ _ _ _ _ _ _ _ _ _ _ _ _ _ _ _ _ _ _ _ _ _ _ _ _ _ _ _ _ _ _ _ _ _ _ _ _ _ _ _ _ _ _ _ _ _ _ _ _ _ _ _ _ _ _ _ _ _ _ _ _ _ _ _ _ _ _ _ _ _ _ _ _ _ _ _ _ _ _ _ _ _ _ _ _ _ _ _ _ _ _ _ _ _ _ _ _ _ _ _ _ _ _ _ _ _ _ _ _ _ _ _ _ _ _ _ _ _ _ _ _ _ _ _ _ _ _ _ _ _ _ _ _ _ _ _ _ _ _ _ _ _ _ _ _ _ _ _ _ _ _ _ way nn hb tos id hdf hmf off ttl pro src dst A DD o oc n dc2 opts data _ _ (by assumption) hj HNN.out o40 offl HO8.out HO4.out n80 HC1.out.1 HC1.out.2.2.1 MHO.out MHN.out HC1.out.2.1 HC1.out.2.2.2 HWB.out F4.out T4.out RA4.out RD4.out
  · have hj : (way : Int) % 12 = 3 := by have := HJ.out; omega
    as_aux_lemma =>
      go_upto_region 9 with fail
      exact bad_3 w w4 _ _ _ _ _ _ _ _ _ _ _ _ _ _ _ _ _ _ _ _ _ _ _ _ _ _ _ _ _ _ _ _ _ _ _ _ _ _ _ _ _ _ _ _ _ _ _ _ _ _ _ _ _ _ _ _ _ _ _ _ _ _ _ _ _ _ _ _ _ _ _ _ _ _ _ _ _ _ _ _ _ _ _ _ _ _ _ _ _ _ _ _ _ _ _ _ _ _ _ _ _ _ _ _ _ _ _ _ _ _ _ _ _ _ _ _ _ _ _ _ _ _ _ _ _ _ _ _ _ _ _ _ _ _ _ _ _ _ _ _ _ _ _ _ _ _ _ _ _ _ _ _ _ _ _ _ _ _ _ _ _ _ _ _ _ _ _ _ _ _ _ _ _ _ _ _ _ _ _ _ _ _ _ _ _ _ _ _ _ _ _ _ _ _ _ _ _ _ _ _ _ _ _ _ _ _ _ _ _ _ _ _ _ _ _ _ _ _ _ _ _ _ _ _ _ _ _ _ _ _ _ _ way nn hb tos id hdf hmf off ttl pro src dst A DD o oc n dc2 opts data _ _ (by assumption) hj HNN.out o40 offl HO8.out HO4.out n80 HC1.out.1 HC1.out.2.2.1 MHO.out MHN.out HC1.out.2.1 HC1.out.2.2.2 HWB.out F4.out T4.out RA4.out RD4.out
  · have hj : (way : Int) % 12 = 4 := by have := HJ.out; omega
    as_aux_lemma =>
      go_upto_region 9 with fail
      exact bad_4 w w4 _ _ _ _ _ _ _ _ _ _ _ _ _ _ _ _ _ _ _ _ _ _ _ _ _ _ _ _ _ _ _ _ _ _ _ _ _ _ _ _ _ _ _ _ _ _ _ _ _ _ _ _ _ _ _ _ _ _ _ _ _ _ _ _ _ _ _ _ _ _ _ _ _ _ _ _ _ _ _ _ _ _ _ _ _ _ _ _ _ _ _ _ _ _ _ _ _ _ _ _ _ _ _ _ _ _ _ _ _ _ _ _ _ _ _ _ _ _ _ _ _ _ _ _ _ _ _ _ _ _ _ _ _ _ _ _ _ _ _ _ _ _ _ _ _ _ _ _ _ _ _ _ _ _ _ _ _ _ _ _ _ _ _ _ _ _ _ _ _ _ _ _ _ _ _ _ _ _ _ _ _ _ _ _ _ _ _ _ _ _ _ _ _ _ _ _ _ _ _ _ _ _ _ _ _ _ _ _ _ _ _ _ _ _ _ _ _ _ _ _ _ _ _ _ _ _ _ _ _ _ _ _ way nn hb tos id hdf hmf off ttl pro src dst A DD o oc n dc2 opts data _ _ (by assumption) hj HNN.out o40 offl HO8.out HO4.out n80 HC1.out.1 HC1.out.2.2.1 MHO.out MHN.out HC1.out.2.1 HC1.out.2.2.2 HWB.out F4.out T4.out RA4.out RD4.out
  · have hj : (way : Int) % 12 = 5 := by have := HJ.out; omega
    as_aux_lemma =>
      go_upto_region 9 with fail
      exact bad_5 w w4 _ _ _ _ _ _ _ _ _ _ _ _ _ _ _ _ _ _ _ _ _ _ _ _ _ _ _ _ _ _ _ _ _ _ _ _ _ _ _ _ _ _ _ _ _ _ _ _ _ _ _ _ _ _ _ _ _ _ _ _ _ _ _ _ _ _ _ _ _ _ _ _ _ _ _ _ _ _ _ _ _ _ _ _ _ _ _ _ _ _ _ _ _ _ _ _ _ _ _ _ _ _ _ _ _ _ _ _ _ _ _ _ _ _ _ _ _ _ _ _ _ _ _ _ _ _ _ _ _ _ _ _ _ _ _ _ _ _ _ _ _ _ _ _ _ _ _ _ _ _ _ _ _ _ _ _ _ _ _ _ _ _ _ _ _ _ _ _ _ _ _ _ _ _ _ _ _ _ _ _ _ _ _ _ _ _ _ _ _ _ _ _ _ _ _ _ _ _ _ _ _ _ _ _ _ _ _ _ _ _ _ _ _ _ _ _ _ _ _ _ _ _ _ _ _ _ _ _ _ _ _ _ way nn hb tos id hdf hmf off ttl pro src dst A DD o oc n dc2 opts data _ _ (by assumption) hj HNN.out o40 offl HO8.out HO4.out n80 HC1.out.1 HC1.out.2.2.1 MHO.out MHN.out HC1.out.2.1 HC1.out.2.2.2 HWB.out F4.out T4.out RA4.out RD4.out
  · have hj : (way : Int) % 12 = 6 := by have := HJ.out; omega
    as_aux_lemma =>
      go_upto_region 24 with fail
      exact wrong_6 w w4 _ _ _ _ _ _ _ _ _ _ _ _ _ _ _ _ _ _ _ _ _ _ _ _ _ _ _ _ _ _ _ _ _ _ _ _ _ _ _ _ _ _ _ _ _ _ _ _ _ _ _ _ _ _ _ _ _ _ _ _ _ _ _ _ _ _ _ _ _ _ _ _ _ _ _ _ _ _ _ _ _ _ _ _ _ _ _ _ _ _ _ _ _ _ _ _ _ _ _ _ _ _ _ _ _ _ _ _ _ _ _ _ _ _ _ _ _ _ _ _ _ _ _ _ _ _ _ _ _ _ _ _ _ _ _ _ _ _ _ _ _ _ _ _ _ _ _ _ _ _ _ _ _ _ _ _ _ _ _ _ _ _ _ _ _ _ _ _ _ _ _ _ _ _ _ _ _ _ _ _ _ _ _ _ _ _ _ _ _ _ _ _ _ _ _ _ _ _ _ _ _ _ _ _ _ _ _ _ _ _ _ _ _ _ _ _ _ _ _ _ _ _ _ _ _ _ _ _ _ _ way nn hb g N c4 z n dc2 W3.heap.size DD L _ (by assumption) hj HNN.out HNF.out HLN.out HSZ.out HTT.out hN3 HDN.out HG.out F4.out R4.out
  · have hj : (way : Int) % 12 = 7 := by have := HJ.out; omega
    as_aux_lemma =>
      go_upto_region 24 with fail
      exact wrong_7 w w4 _ _ _ _ _ _ _ _ _ _ _ _ _ _ _ _ _ _ _ _ _ _ _ _ _ _ _ _ _ _ _ _ _ _ _ _ _ _ _ _ _ _ _ _ _ _ _ _ _ _ _ _ _ _ _ _ _ _ _ _ _ _ _ _ _ _ _ _ _ _ _ _ _ _ _ _ _ _ _ _ _ _ _ _ _ _ _ _ _ _ _ _ _ _ _ _ _ _ _ _ _ _ _ _ _ _ _ _ _ _ _ _ _ _ _ _ _ _ _ _ _ _ _ _ _ _ _ _ _ _ _ _ _ _ _ _ _ _ _ _ _ _ _ _ _ _ _ _ _ _ _ _ _ _ _ _ _ _ _ _ _ _ _ _ _ _ _ _ _ _ _ _ _ _ _ _ _ _ _ _ _ _ _ _ _ _ _ _ _ _ _ _ _ _ _ _ _ _ _ _ _ _ _ _ _ _ _ _ _ _ _ _ _ _ _ _ _ _ _ _ _ _ _ _ _ _ _ _ _ _ way nn hb g N c4 z n dc2 W3.heap.size DD L _ (by assumption) hj HNN.out HNF.out HLN.out HSZ.out HTT.out hN3 HDN.out HG.out F4.out R4.out
  · have hj : (way : Int) % 12 = 8 := by have := HJ.out; omega
    as_aux_lemma =>
      go_upto_region 24 with fail
      exact wrong_8 w w4 _ _ _ _ _ _ _ _ _ _ _ _ _ _ _ _ _ _ _ _ _ _ _ _ _ _ _ _ _ _ _ _ _ _ _ _ _ _ _ _ _ _ _ _ _ _ _ _ _ _ _ _ _ _ _ _ _ _ _ _ _ _ _ _ _ _ _ _ _ _ _ _ _ _ _ _ _ _ _ _ _ _ _ _ _ _ _ _ _ _ _ _ _ _ _ _ _ _ _ _ _ _ _ _ _ _ _ _ _ _ _ _ _ _ _ _ _ _ _ _ _ _ _ _ _ _ _ _ _ _ _ _ _ _ _ _ _ _ _ _ _ _ _ _ _ _ _ _ _ _ _ _ _ _ _ _ _ _ _ _ _ _ _ _ _ _ _ _ _ _ _ _ _ _ _ _ _ _ _ _ _ _ _ _ _ _ _ _ _ _ _ _ _ _ _ _ _ _ _ _ _ _ _ _ _ _ _ _ _ _ _ _ _ _ _ _ _ _ _ _ _ _ _ _ _ _ _ _ _ _ way nn hb g N c4 z n dc2 W3.heap.size DD L _ (by assumption) hj HNN.out HNF.out HLN.out HSZ.out HTT.out hN3 HDN.out HG.out F4.out R4.out
  · have hj : (way : Int) % 12 = 9 := by have := HJ.out; omega
    as_aux_lemma =>
      go_upto_region 24 with fail
      exact wrong_9 w w4 _ _ _ _ _ _ _ _ _ _ _ _ _ _ _ _ _ _ _ _ _ _ _ _ _ _ _ _ _ _ _ _ _ _ _ _ _ _ _ _ _ _ _ _ _ _ _ _ _ _ _ _ _ _ _ _ _ _ _ _ _ _ _ _ _ _ _ _ _ _ _ _ _ _ _ _ _ _ _ _ _ _ _ _ _ _ _ _ _ _ _ _ _ _ _ _ _ _ _ _ _ _ _ _ _ _ _ _ _ _ _ _ _ _ _ _ _ _ _ _ _ _ _ _ _ _ _ _ _ _ _ _ _ _ _ _ _ _ _ _ _ _ _ _ _ _ _ _ _ _ _ _ _ _ _ _ _ _ _ _ _ _ _ _ _ _ _ _ _ _ _ _ _ _ _ _ _ _ _ _ _ _ _ _ _ _ _ _ _ _ _ _ _ _ _ _ _ _ _ _ _ _ _ _ _ _ _ _ _ _ _ _ _ _ _ _ _ _ _ _ _ _ _ _ _ _ _ _ _ _ way nn hb g N c4 z n dc2 W3.heap.size DD L _ (by assumption) hj HNN.out HNF.out HLN.out HSZ.out HTT.out hN3 HDN.out HG.out F4.out R4.out
  · have hj : (way : Int) % 12 = 10 := by have := HJ.out; omega
    as_aux_lemma =>
      go_upto_region 24 with fail
      exact wrong_10 w w4 _ _ _ _ _ _ _ _ _ _ _ _ _ _ _ _ _ _ _ _ _ _ _ _ _ _ _ _ _ _ _ _ _ _ _ _ _ _ _ _ _ _ _ _ _ _ _ _ _ _ _ _ _ _ _ _ _ _ _ _ _ _ _ _ _ _ _ _ _ _ _ _ _ _ _ _ _ _ _ _ _ _ _ _ _ _ _ _ _ _ _ _ _ _ _ _ _ _ _ _ _ _ _ _ _ _ _ _ _ _ _ _ _ _ _ _ _ _ _ _ _ _ _ _ _ _ _ _ _ _ _ _ _ _ _ _ _ _ _ _ _ _ _ _ _ _ _ _ _ _ _ _ _ _ _ _ _ _ _ _ _ _ _ _ _ _ _ _ _ _ _ _ _ _ _ _ _ _ _ _ _ _ _ _ _ _ _ _ _ _ _ _ _ _ _ _ _ _ _ _ _ _ _ _ _ _ _ _ _ _ _ _ _ _ _ _ _ _ _ _ _ _ _ _ _ _ _ _ _ _ way nn hb g N c4 z n dc2 W3.heap.size DD L _ (by assumption) hj HNN.out HNF.out HLN.out HSZ.out HTT.out hN3 HDN.out HG.out F4.out R4.out
  · have hj : (way : Int) % 12 = 11 := by have := HJ.out; omega
    as_aux_lemma =>
      go_upto_region 24 with fail
      exact wrong_11 w w4 _ _ _ _ _ _ _ _ _ _ _ _ _ _ _ _ _ _ _ _ _ _ _ _ _ _ _ _ _ _ _ _ _ _ _ _ _ _ _ _ _ _ _ _ _ _ _ _ _ _ _ _ _ _ _ _ _ _ _ _ _ _ _ _ _ _ _ _ _ _ _ _ _ _ _ _ _ _ _ _ _ _ _ _ _ _ _ _ _ _ _ _ _ _ _ _ _ _ _ _ _ _ _ _ _ _ _ _ _ _ _ _ _ _ _ _ _ _ _ _ _ _ _ _ _ _ _ _ _ _ _ _ _ _ _ _ _ _ _ _ _ _ _ _ _ _ _ _ _ _ _ _ _ _ _ _ _ _ _ _ _ _ _ _ _ _ _ _ _ _ _ _ _ _ _ _ _ _ _ _ _ _ _ _ _ _ _ _ _ _ _ _ _ _ _ _ _ _ _ _ _ _ _ _ _ _ _ _ _ _ _ _ _ _ _ _ _ _ _ _ _ _ _ _ _ _ _ _ _ _ way nn hb g N c4 z n dc2 W3.heap.size DD L _ (by assumption) hj HNN.out HNF.out HLN.out HSZ.out HTT.out hN3 HDN.out HG.out F4.out R4.out
end Go.Proofs.Ytcclneaabnpbkaa
