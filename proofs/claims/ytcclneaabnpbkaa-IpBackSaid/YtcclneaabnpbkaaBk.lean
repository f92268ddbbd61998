/-
  IpBack: what is written is read as it was, whatever follows.
-/
import Derived.Test.YtcclneaabnpbkaaBb
namespace Go.Proofs.Ytcclneaabnpbkaa
open Go.RowKit
attribute [local go_sem] undef

set_option maxRecDepth 100000 in
set_option maxHeartbeats 8000000 in
theorem ipBack (w : World) (a0 a1 a2 a3 a4 a5 a6 a7 a8 a9 a10 a11 wd fr mn : UInt8) (df mf : Bool) (D : Option Addr) (dn dc : Nat) (ds : List UInt8) (hs1 : ds.length = dn) (hs2 : dn ≤ dc) (hs3 : Rds w D ds) (hs4 : D = none → dc = 0) (B : Option Addr) (bn bc : Nat) (beh : List UInt8) (hb1 : beh.length = bn) (hb2 : bn ≤ bc) (hb3 : Rds w B beh) :
    Calls Try.prog 6 #[.agg #[.int .u8 (a0.toNat : Int), .int .u8 (a1.toNat : Int), .int .u8 (a2.toNat : Int), .int .u8 (a3.toNat : Int), .int .u8 (a4.toNat : Int), .int .u8 (a5.toNat : Int), .int .u8 (a6.toNat : Int), .int .u8 (a7.toNat : Int), .int .u8 (a8.toNat : Int), .int .u8 (a9.toNat : Int), .int .u8 (a10.toNat : Int), .int .u8 (a11.toNat : Int), .int .u8 (wd.toNat : Int), .int .u8 (fr.toNat : Int), .int .u8 (mn.toNat : Int), .bool df, .bool mf, .slice D dn dc], .slice B bn bc] w (BoolNo true w) := by
  have HM := Lib.hid (fun W (hf : Frm No w W) => made_any W a0 a1 a2 a3 a4 a5 a6 a7 a8 a9 a10 a11 wd fr mn df mf D dn dc ds hs1 (hs3.frm hf (fun _ _ x => x)) hs4 hs2)
  have HB := Lib.hid hb3
  clear hs1 hs2 hs3 hs4 hb3
  go_enter Try.func6, Try.ntmps6
  go_wp2_with fail
  refine (awake _).mono ?_
  rintro e w1 ⟨rfl, hf⟩
  have F1 := Lib.hid (((Frm.refl No w).alloc _).new0 hf)
  have T1 := Lib.hid ((Blk.new w 40 #[.int .u8 (a0.toNat : Int), .int .u8 (a1.toNat : Int), .int .u8 (a2.toNat : Int), .int .u8 (a3.toNat : Int), .int .u8 (a4.toNat : Int), .int .u8 (a5.toNat : Int), .int .u8 (a6.toNat : Int), .int .u8 (a7.toNat : Int), .int .u8 (a8.toNat : Int), .int .u8 (a9.toNat : Int), .int .u8 (a10.toNat : Int), .int .u8 (a11.toNat : Int), .int .u8 (wd.toNat : Int), .int .u8 (fr.toNat : Int), .int .u8 (mn.toNat : Int), .bool df, .bool mf, .slice D dn dc]).frm hf (fun x => x))
  clear hf
  obtain ⟨b0, b1, b2, b3, b4, b5, b6, b7, b8, b9, b10, b11, b12, b13, b14, b15, b16, b17⟩ := blk18 T1.out
  go_wp2_with fail
  refine (HM.out w1 F1.out).mono ?_
  rintro e w2 ⟨h, A, DD, o, oc, n, dc2, opts, data, rfl, hmk⟩
  have MK := Lib.hid hmk
  have F2 := Lib.hid (F1.out.new0 hmk.frm)
  clear hmk b0 b1 b2 b3 b4 b5 b6 b7 b8 b9 b10 b11 b12 b13 b14 b15 b16 b17 T1 F1 HM
  obtain ⟨tos, id, hdf, hmf, off, ttl, pro, src, dst⟩ := h
  unfold hdVal
  dsimp only
  go_upto_region 4 with fail
  obtain ⟨SV, hSV⟩ : ∃ v : Value, v = .agg #[.int .u8 (a0.toNat : Int), .int .u8 (a1.toNat : Int), .int .u8 (a2.toNat : Int), .int .u8 (a3.toNat : Int), .int .u8 (a4.toNat : Int), .int .u8 (a5.toNat : Int), .int .u8 (a6.toNat : Int), .int .u8 (a7.toNat : Int), .int .u8 (a8.toNat : Int), .int .u8 (a9.toNat : Int), .int .u8 (a10.toNat : Int), .int .u8 (a11.toNat : Int), .int .u8 (wd.toNat : Int), .int .u8 (fr.toNat : Int), .int .u8 (mn.toNat : Int), .bool df, .bool mf, .slice D dn dc] := ⟨_, rfl⟩
  rw [← hSV]
  clear hSV
  obtain ⟨W3, hW3⟩ : ∃ W, W = w2.alloc (.cells #[.int .u8 (tos : Int), .int .u16 (id : Int), .bool hdf, .bool hmf, .int .i64 (off : Int), .int .u8 (ttl : Int), .int .u8 (pro : Int), .int .u32 (src : Int), .int .u32 (dst : Int), .slice A o oc] 28) := ⟨_, rfl⟩
  have F3 : Hid (Frm No w W3) := by show Frm No w W3; rw [hW3]; exact F2.out.alloc _
  have T3 : Hid (Blk W3 w2.heap.size 28 #[.int .u8 (tos : Int), .int .u16 (id : Int), .bool hdf, .bool hmf, .int .i64 (off : Int), .int .u8 (ttl : Int), .int .u8 (pro : Int), .int .u32 (src : Int), .int .u32 (dst : Int), .slice A o oc]) := by show Blk W3 _ _ _; rw [hW3]; exact Blk.new w2 28 _
  have mk := MK.out
  have caps1 := own_caps mk.own
  have caps2 := own_caps mk.ownD
  have RA : Hid (Rds W3 A opts) := by show Rds W3 _ _; rw [hW3]; exact caps1.2.2.alloc _
  have RD : Hid (Rds W3 DD data) := by show Rds W3 _ _; rw [hW3]; exact caps2.2.2.alloc _
  rw [← hW3]
  obtain ⟨hb, hhb⟩ : ∃ b, b = w2.heap.size := ⟨_, rfl⟩
  rw [← hhb] at T3 ⊢
  obtain ⟨f1, f2, f3, f4, f5, f6⟩ := right_facts mk.right
  have mho := mk.ho
  have mhn := mk.hn
  have m80 := mk.n80
  obtain ⟨N, hN⟩ : ∃ N, N = 20 + o + n := ⟨_, rfl⟩
  obtain ⟨z, hz⟩ : ∃ N, N = 20 + o := ⟨_, rfl⟩
  have HWR := Lib.hid (write_yes W3 tos id hdf hmf off ttl pro src dst mk.ok A DD o oc n dc2 opts data mk.ho mk.hn RA.out RD.out caps1.1 caps2.2.1 mk.right N hN)
  have o40 : o ≤ 40 := f1
  have n80 : n ≤ 80 := m80
  have ho8 : off ≤ 65528 := mk.ok.off
  have HRT := Lib.hid (fun W => right20 W (tos : Int) (id : Int) (off : Int) (ttl : Int) (pro : Int) (src : Int) (dst : Int) hdf hmf A o oc (n : Int) (by omega) (by omega))
  rw [mk.right] at HRT
  have hsp := pkt_split ⟨tos, id, hdf, hmf, off, ttl, pro, src, dst⟩ opts data
  have hpf := fun beh => pkt_finds ⟨tos, id, hdf, hmf, off, ttl, pro, src, dst⟩ opts data beh mk.ok (by rw [mk.ho, mk.hn]; exact mk.right)
  have hpl := pkt_len ⟨tos, id, hdf, hmf, off, ttl, pro, src, dst⟩ opts data
  obtain ⟨L, hL⟩ : ∃ L, pkt ⟨tos, id, hdf, hmf, off, ttl, pro, src, dst⟩ opts data = L := ⟨_, rfl⟩
  unfold WroteOk at HWR
  rw [hL] at hsp hpl HWR
  simp only [hL] at hpf
  rw [mk.ho, ← hz] at hsp
  have HPF := Lib.hid hpf
  have HSP := Lib.hid hsp
  have hlen : L.length = N := by rw [hpl, mho, mhn, hN]
  have HLN := Lib.hid hlen
  have HSU := Lib.hid (fun W (c : Nat) (hc : z ≤ c) (g : Nat) (hr : Rds W (some ⟨g, 0, none⟩) L) => right_any W (some ⟨g, 0, none⟩) z c (L.take z) (by rw [List.length_take]; omega) hc (hr.take z) (by omega))
  rw [show decide (sumOf (L.take z) = 65535) = true from decide_eq_true hsp.1] at HSU
  have HSM := Lib.hid (fun W (c : Nat) (hc : N ≤ c) (g : Nat) (hr : Rds W (some ⟨g, 0, none⟩) L) (hd : Rds W DD data) (ab : Addr) (hA : (if c = z then some (⟨g, 0, none⟩ : Addr) else some ⟨g, z, none⟩) = some ab) (k : Nat) => (by
    have h1 : Rds W (some ab) data := by
      have := hr.drop z c (by omega) (some ab) (by rw [← hA]; have hz0 : ¬ z = 0 := (by omega); simp [Addr.add, hz0])
      rwa [hsp.2] at this
    have h2 := sames_any W (some ab) DD k dc2 data data h1 hd (by omega)
    rw [mhn, show decide (data = data) = true from decide_eq_true rfl] at h2
    exact h2 : Calls Try.prog 22 #[.slice (some ab) n k, .slice DD n dc2] W fun e w' => e = .returned (.bool true) ∧ ∃ m, w' = W.drewN m))
  have HSAME := Lib.hid (fun W (g1 k1 : Nat) (h1 : Rds W (some ⟨g1, 0, none⟩) opts) (h2 : Rds W A opts) => same_yes W (tos : Int) (id : Int) (off : Int) (ttl : Int) (pro : Int) (src : Int) (dst : Int) hdf hmf (some ⟨g1, 0, none⟩) A o k1 oc opts mho h1 h2 (by omega))
  have e1 : IntKind.i64.wrap (20 + (o : Int)) = (z : Int) := by rw [IntWalk.i64_in] <;> omega
  have e2 : IntKind.i64.wrap ((z : Int) + n) = (N : Int) := by rw [IntWalk.i64_in] <;> omega
  have e3 : ((N : Int) != (N : Int)) = false := by simp
  have e4 : N - z = n := by omega
  have e5 : (z : Int) ≤ N := by omega
  have e6 : (0 : Int) ≤ (z : Int) := by omega
  have hzN : z ≤ N := by omega
  have hN7 : N ≤ 200 := by omega
  have z20 : 20 ≤ z := by omega
  have HZ := Lib.hid hz
  have HNN := Lib.hid hN
  have MHO := Lib.hid mho
  have MHN := Lib.hid mhn
  have HLB := Lib.hid T3.out.lt
  clear hW3 hhb mk caps1 caps2 f1 f2 f3 f4 f5 f6 hL hsp hpf hpl hlen F2 MK mho mhn m80 hz hN
  obtain ⟨b0, b1, b2, b3, b4, b5, b6, b7, b8, b9⟩ := blk10 T3.out
  go_wp2_with fail
  refine HWR.out.mono ?_
  rintro e w4 ⟨g, c4, rfl, hrow, hf⟩
  have F4 := Lib.hid (F3.out.new0 hf)
  have T4 := Lib.hid (T3.out.frm hf (fun x => x))
  have RA4 := Lib.hid (RA.out.frm hf (fun _ _ x => x))
  have RD4 := Lib.hid (RD.out.frm hf (fun _ _ x => x))
  have R4 := Lib.hid hrow
  have hc4 : N ≤ c4 := hrow.cap.1
  have e7 : (z : Int) ≤ c4 := by omega
  have e8 : (N : Int) ≤ c4 := by omega
  have hgW : W3.heap.size ≤ g := hrow.cap.2.1
  clear hrow hf b0 b1 b2 b3 b4 b5 b6 b7 b8 b9 F3 T3 RA RD HWR
  obtain ⟨b0, b1, b2, b3, b4, b5, b6, b7, b8, b9⟩ := blk10 T4.out
  go_wp2_with fail
  refine (HRT.out _).mono ?_
  rintro e w5 ⟨rfl, hf⟩
  have F5 := Lib.hid (F4.out.new0 hf)
  have T5 := Lib.hid (T4.out.frm hf (fun x => x))
  have RA5 := Lib.hid (RA4.out.frm hf (fun _ _ x => x))
  have RD5 := Lib.hid (RD4.out.frm hf (fun _ _ x => x))
  have R5 := Lib.hid (R4.out.frm hf (fun x => x))
  clear hf b0 b1 b2 b3 b4 b5 b6 b7 b8 b9 F4 T4 RA4 RD4 R4 HRT
  go_wp2_with fail
  refine (HSU.out _ c4 (by omega) g R5.out.rds).mono ?_
  rintro e w6 ⟨rfl, hf⟩
  have F6 := Lib.hid (F5.out.new0 hf)
  have T6 := Lib.hid (T5.out.frm hf (fun x => x))
  have RA6 := Lib.hid (RA5.out.frm hf (fun _ _ x => x))
  have RD6 := Lib.hid (RD5.out.frm hf (fun _ _ x => x))
  have R6 := Lib.hid (R5.out.frm hf (fun x => x))
  obtain ⟨ab, hab⟩ : ∃ a, (if c4 = z then some (⟨g, 0, none⟩ : Addr) else some ⟨g, z, none⟩) = some a := by split <;> exact ⟨_, rfl⟩
  clear hf F5 T5 RA5 RD5 R5 HSU
  go_wp2_with fail
  refine (HSM.out _ c4 hc4 g R6.out.rds RD6.out ab hab _).mono ?_
  rintro e w7 ⟨rfl, k7, hw7⟩
  have F7 : Hid (Frm No w w7) := by show Frm No w w7; rw [hw7]; exact F6.out.drewN k7
  have T7 : Hid (Blk w7 hb 28 #[.int .u8 (tos : Int), .int .u16 (id : Int), .bool hdf, .bool hmf, .int .i64 (off : Int), .int .u8 (ttl : Int), .int .u8 (pro : Int), .int .u32 (src : Int), .int .u32 (dst : Int), .slice A o oc]) := by show Blk w7 _ _ _; rw [hw7]; exact T6.out.drewN k7
  have RA7 : Hid (Rds w7 A opts) := by show Rds w7 _ _; rw [hw7]; exact RA6.out.drewN k7
  have R7 : Hid (Row w7 W3.heap.size g N c4 L) := by show Row w7 _ _ _ _ _; rw [hw7]; exact R6.out
  clear hw7 F6 T6 RA6 RD6 R6 HSM
  go_upto_region 8 with fail
  obtain ⟨m, hm50, hmb, hmin⟩ : ∃ m : Nat, m ≤ 50 ∧ m ≤ bn ∧ ∀ w, (Builtin.min_ #[3, 3] 3 #[.int .i64 bn, .int .i64 50]).run Try.prog w = .ok (.int .i64 m) w := by
    by_cases h : (50 : Int) < bn
    · exact ⟨50, by omega, by omega, min_50 bn h⟩
    · exact ⟨bn, by omega, by omega, min_n bn h⟩
  exact back_reg w w7 _ _ _ _ _ _ _ _ _ _ _ _ _ _ _ _ _ _ _ _ _ _ _ _ _ _ _ _ _ _ _ _ _ _ _ _ _ _ _ _ _ _ _ _ _ _ _ _ _ _ _ _ _ _ _ _ _ _ _ _ _ _ _ _ _ _ _ _ _ _ _ _ _ _ _ _ _ _ _ _ _ _ _ _ _ _ _ _ _ _ _ _ _ _ _ _ B bn bc m hb g N c4 z W3.heap.size tos id hdf hmf off ttl pro src dst A o oc opts n data L (beh.take m) _ (by assumption) MHO.out o40 n80 MHN.out HZ.out HNN.out hm50 (by omega) (by rw [List.length_take]; omega) hmin (HPF.out (beh.take m)) HLN.out F7.out T7.out RA7.out R7.out ((HB.out.frm F7.out (fun _ _ x => x)).take m)
end Go.Proofs.Ytcclneaabnpbkaa
