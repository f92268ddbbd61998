/-
  IpBit: a packet with one bit of its header changed is not read; with one bit of its data changed it is, with the same header.
-/
import Derived.Test.YtcclneaabnpbkaaB18
import Derived.Test.YtcclneaabnpbkaaBj
import Derived.Deep.QuietTactic
import Derived.BigQuiet
namespace Go.Proofs.Ytcclneaabnpbkaa
open Go.RowKit
attribute [local go_sem] undef

theorem flip_bits (b v : UInt8) (r : Nat) (hr : r < 8) (hv : v.toNat = b.toNat ^^^ 2 ^ r) : ∃ sh : Nat, IntKind.u8.wrap (1 * 2 ^ r) = (sh : Int) ∧ bits .xor .u8 (b.toNat : Int) (sh : Int) = (v.toNat : Int) := by
  have hl : (2 : Nat) ^ r < 2 ^ 8 := Nat.pow_lt_pow_right (by omega) hr
  have e : ((1 : Int) * 2 ^ r) = ((2 ^ r : Nat) : Int) := by simp
  rw [e]
  obtain ⟨p, hp⟩ : ∃ p, 2 ^ r = p := ⟨_, rfl⟩
  rw [hp] at hl hv ⊢
  refine ⟨p, ?_, ?_⟩
  · have e2 : IntKind.u8.wrap (p : Int) = (p : Int) % 256 := rfl
    rw [e2]
    omega
  · rw [u8_xor_nat _ _ b.toNat_lt (by omega), hv]
theorem own_lt {W w2 : World} {A : Option Addr} {base o oc q : Nat} {bs : List UInt8} {ob : Obj} (h : w2.ownsRow base 5 1 (.slice A o oc) o (byts bs)) (hW : W = w2.alloc ob) (hq : blk A = some q) : q < W.heap.size := by
  have := (World.ownsRow.lt h q (blk_own hq)).2
  rw [hW]
  simp
  omega

set_option maxRecDepth 100000 in
set_option maxHeartbeats 8000000 in
theorem ipBit (w : World) (a0 a1 a2 a3 a4 a5 a6 a7 a8 a9 a10 a11 wd fr mn : UInt8) (df mf : Bool) (D : Option Addr) (dn dc : Nat) (ds : List UInt8) (hs1 : ds.length = dn) (hs2 : dn ≤ dc) (hs3 : Rds w D ds) (hs4 : D = none → dc = 0) (at_ : Nat) (hat : at_ < 65536) :
    Calls Try.prog 10 #[.agg #[.int .u8 (a0.toNat : Int), .int .u8 (a1.toNat : Int), .int .u8 (a2.toNat : Int), .int .u8 (a3.toNat : Int), .int .u8 (a4.toNat : Int), .int .u8 (a5.toNat : Int), .int .u8 (a6.toNat : Int), .int .u8 (a7.toNat : Int), .int .u8 (a8.toNat : Int), .int .u8 (a9.toNat : Int), .int .u8 (a10.toNat : Int), .int .u8 (a11.toNat : Int), .int .u8 (wd.toNat : Int), .int .u8 (fr.toNat : Int), .int .u8 (mn.toNat : Int), .bool df, .bool mf, .slice D dn dc], .int .u16 (at_ : Int)] w (BoolNo true w) := by
  have HM := Lib.hid (fun W (hf : Frm No w W) => made_any W a0 a1 a2 a3 a4 a5 a6 a7 a8 a9 a10 a11 wd fr mn df mf D dn dc ds hs1 (hs3.frm hf (fun _ _ x => x)) hs4 hs2)
  clear hs1 hs2 hs3 hs4
  go_enter Try.func10, Try.ntmps10
  go_wp2_with fail
  refine (awake _).mono ?_
  rintro e w1 ⟨rfl, hf⟩
  have F1 := Lib.hid (((Frm.refl No w).alloc _).new0 hf)
  have T1 := Lib.hid ((Blk.new w 40 #[.int .u8 (a0.toNat : Int), .int .u8 (a1.toNat : Int), .int .u8 (a2.toNat : Int), .int .u8 (a3.toNat : Int), .int .u8 (a4.toNat : Int), .int .u8 (a5.toNat : Int), .int .u8 (a6.toNat : Int), .int .u8 (a7.toNat : Int), .int .u8 (a8.toNat : Int), .int .u8 (a9.toNat : Int), .int .u8 (a10.toNat : Int), .int .u8 (a11.toNat : Int), .int .u8 (wd.toNat : Int), .int .u8 (fr.toNat : Int), .int .u8 (mn.toNat : Int), .bool df, .bool mf, .slice D dn dc]).frm hf (fun x => x))
  clear hf
  obtain ⟨b0, b1, b2, b3, b4, b5, b6, b7, b8, b9, b10, b11, b12, b13, b14, b15, b16, b17⟩ := blk18 T1.out
  go_wp2_with fail
  refine (HM.out w1 F1.out).mono ?_
  rintro e w2 ⟨h, A, DD, o, oc, n, dc2, opts, data, rfl, hmk⟩
  have MK := Lib.hid hmk
  have F2 := Lib.hid (F1.out.new0 hmk.frm)
  clear hmk b0 b1 b2 b3 b4 b5 b6 b7 b8 b9 b10 b11 b12 b13 b14 b15 b16 b17 T1 F1 HM
  obtain ⟨tos, id, hdf, hmf, off, ttl, pro, src, dst⟩ := h
  unfold hdVal
  dsimp only
  go_upto_region 4 with fail
  obtain ⟨SV, hSV⟩ : ∃ v : Value, v = .agg #[.int .u8 (a0.toNat : Int), .int .u8 (a1.toNat : Int), .int .u8 (a2.toNat : Int), .int .u8 (a3.toNat : Int), .int .u8 (a4.toNat : Int), .int .u8 (a5.toNat : Int), .int .u8 (a6.toNat : Int), .int .u8 (a7.toNat : Int), .int .u8 (a8.toNat : Int), .int .u8 (a9.toNat : Int), .int .u8 (a10.toNat : Int), .int .u8 (a11.toNat : Int), .int .u8 (wd.toNat : Int), .int .u8 (fr.toNat : Int), .int .u8 (mn.toNat : Int), .bool df, .bool mf, .slice D dn dc] := ⟨_, rfl⟩
  rw [← hSV]
  clear hSV
  obtain ⟨W3, hW3⟩ : ∃ W, W = w2.alloc (.cells #[.int .u8 (tos : Int), .int .u16 (id : Int), .bool hdf, .bool hmf, .int .i64 (off : Int), .int .u8 (ttl : Int), .int .u8 (pro : Int), .int .u32 (src : Int), .int .u32 (dst : Int), .slice A o oc] 28) := ⟨_, rfl⟩
  have F3 : Hid (Frm No w W3) := by show Frm No w W3; rw [hW3]; exact F2.out.alloc _
  have T3 : Hid (Blk W3 w2.heap.size 28 #[.int .u8 (tos : Int), .int .u16 (id : Int), .bool hdf, .bool hmf, .int .i64 (off : Int), .int .u8 (ttl : Int), .int .u8 (pro : Int), .int .u32 (src : Int), .int .u32 (dst : Int), .slice A o oc]) := by show Blk W3 _ _ _; rw [hW3]; exact Blk.new w2 28 _
  have mk := MK.out
  have caps1 := own_caps mk.own
  have caps2 := own_caps mk.ownD
  have RA : Hid (Rds W3 A opts) := by show Rds W3 _ _; rw [hW3]; exact caps1.2.2.alloc _
  have RD : Hid (Rds W3 DD data) := by show Rds W3 _ _; rw [hW3]; exact caps2.2.2.alloc _
  rw [← hW3]
  obtain ⟨hb, hhb⟩ : ∃ b, b = w2.heap.size := ⟨_, rfl⟩
  rw [← hhb] at T3 ⊢
  obtain ⟨f1, f2, f3, f4, f5, f6⟩ := right_facts mk.right
  have mho := mk.ho
  have mhn := mk.hn
  have m80 := mk.n80
  obtain ⟨N, hN⟩ : ∃ N, N = 20 + o + n := ⟨_, rfl⟩
  obtain ⟨z, hz⟩ : ∃ N, N = 20 + o := ⟨_, rfl⟩
  have HWR := Lib.hid (write_yes W3 tos id hdf hmf off ttl pro src dst mk.ok A DD o oc n dc2 opts data mk.ho mk.hn RA.out RD.out caps1.1 caps2.2.1 mk.right N hN)
  have hpf := fun data' (hd' : data'.length = n) => pkt_finds0 ⟨tos, id, hdf, hmf, off, ttl, pro, src, dst⟩ opts data' mk.ok (by rw [mk.ho, hd']; exact mk.right)
  have hfd := fun i v (h1 : z ≤ i) => flip_data ⟨tos, id, hdf, hmf, off, ttl, pro, src, dst⟩ opts data i v (by omega)
  rw [mho, ← hz] at hfd
  have hpl := pkt_len ⟨tos, id, hdf, hmf, off, ttl, pro, src, dst⟩ opts data
  have hp0 := hpf data mhn
  obtain ⟨L, hL⟩ : ∃ L, pkt ⟨tos, id, hdf, hmf, off, ttl, pro, src, dst⟩ opts data = L := ⟨_, rfl⟩
  unfold WroteOk at HWR
  rw [hL] at hpl HWR hp0
  rw [hL] at hfd
  have hlen : L.length = N := by rw [hpl, mho, mhn, hN]
  have hsz : sizeAt L = z := by rw [hp0.size, mho, hz]
  have hb0 : ∃ q, q < 16 ∧ (L.getD 0 0).toNat = 64 + q := by
    have h2 := hp0.nf.h2
    unfold q2 at h2
    have h3 : byteAt L 0 / 16 = 4 := by simpa using h2
    unfold byteAt at h3
    exact ⟨(L.getD 0 0).toNat - 64, by omega, by omega⟩
  obtain ⟨M, hM⟩ : ∃ M, M = 8 * N := ⟨_, rfl⟩
  obtain ⟨k, hk, hk2⟩ : ∃ k : Nat, (at_ : Int) % (M : Int) = (k : Int) ∧ k < M := ⟨at_ % M, by omega, Nat.mod_lt _ (by omega)⟩
  obtain ⟨i, r, hi, hr, hr8, hkk⟩ : ∃ i r : Nat, (k : Int) / 8 = (i : Int) ∧ (k : Int) % 8 = (r : Int) ∧ r < 8 ∧ k = 8 * i + r := ⟨k / 8, k % 8, by omega, by omega, by omega, by omega⟩
  have hiN : i < N := by omega
  obtain ⟨b, hbb⟩ : ∃ b, L.getD i 0 = b := ⟨_, rfl⟩
  have HLI := Lib.hid hbb
  have hvN := flipB_nat b r hr8
  have hvne := flipB_ne b r hr8
  obtain ⟨v, hv⟩ : ∃ v, flipB b r = v := ⟨_, rfl⟩
  rw [hv] at hvN hvne
  obtain ⟨sh, hs1, hX⟩ := flip_bits b v r hr8 hvN
  -- what is found
  have CASES : (k < 8 ∧ r < 4) ∨ (¬ (k < 8 ∧ r < 4) ∧ BitOk L i r v k z n opts ⟨tos, id, hdf, hmf, off, ttl, pro, src, dst⟩) := by
    by_cases c1 : k < 8
    · by_cases c2 : r < 4
      · exact Or.inl ⟨c1, c2⟩
      · have i0 : i = 0 := by omega
        subst i0
        obtain ⟨q, hq1, hq2⟩ := hb0
        exact Or.inr ⟨by omega, Or.inl ⟨c1, c2, flip_version L hp0.nf v (by rw [hvN, ← hbb, hq2]; exact bit_version q hq1 r (by omega) hr8)⟩⟩
    · refine Or.inr ⟨by omega, Or.inr ?_⟩
      by_cases c3 : k < 8 * z
      · rcases flip_head L hp0.nf i v (by omega) (by rw [hsz]; omega) (by rw [hbb]; exact hvne) with h | ⟨h1, h2, h3⟩
        · exact Or.inl ⟨c1, c3, h⟩
        · exact Or.inr (Or.inl ⟨c1, c3, h1, h2, h3⟩)
      · have hd : (data.set (i - z) v).length = n := by rw [List.length_set]; exact mhn
        refine Or.inr (Or.inr ⟨c1, c3, _, hd, ?_⟩)
        rw [hfd i v (by omega)]
        exact hpf _ hd
  have HLN := Lib.hid hlen
  have MHO := Lib.hid mho
  have HZ := Lib.hid hz
  have HNN := Lib.hid hN
  have e1 : IntKind.i64.wrap (8 * (N : Int)) = (M : Int) := by rw [IntWalk.i64_in] <;> omega
  have e2 : IntKind.i64.wrap (20 + (o : Int)) = (z : Int) := by rw [IntWalk.i64_in] <;> omega
  have e3 : IntKind.i64.wrap (8 * (z : Int)) = 8 * (z : Int) := by rw [IntWalk.i64_in] <;> omega
  have j0 : (0 : Int) < M := by omega
  have j1 : (i : Int) < N := by omega
  have j2 : (r : Int) < 64 := by omega
  have z20 : 20 ≤ z := by omega
  have hzN : z ≤ N := by omega
  have hN7 : N ≤ 200 := by omega
  have hM7 : M ≤ 1600 := by omega
  have hoz : o ≤ 60 := by omega
  have CS := Lib.hid CASES
  have HS1 := Lib.hid hs1
  have HX := Lib.hid hX
  have o40 : o ≤ 40 := f1
  have n80 : n ≤ 80 := m80
  have HLF := Lib.hid F3.out.size
  have HRA := Lib.hid (fun q (hq : blk A = some q) => own_lt mk.own hW3 hq)
  clear hs1 hX hW3 hhb mk caps1 caps2 f1 f2 f3 f4 f5 f6 hL hpf hpl hp0 hfd hlen hsz hb0 F2 MK mho mhn m80 hz hN hM hk2 hkk hvN hvne hv hbb CASES RD
  obtain ⟨b0, b1, b2, b3, b4, b5, b6, b7, b8, b9⟩ := blk10 T3.out
  go_wp2_with fail
  refine HWR.out.mono ?_
  rintro e w4 ⟨g, c4, rfl, hrow, hf⟩
  have F4 := Lib.hid (F3.out.new0 hf)
  have T4 := Lib.hid (T3.out.frm hf (fun x => x))
  have RA4 := Lib.hid (RA.out.frm hf (fun _ _ x => x))
  have R4 := Lib.hid hrow
  have hc4 : N ≤ c4 := hrow.cap.1
  have hgW : W3.heap.size ≤ g := hrow.cap.2.1
  have HLB := Lib.hid T3.out.lt
  clear hrow hf b0 b1 b2 b3 b4 b5 b6 b7 b8 b9 F3 RA HWR
  obtain ⟨b0, b1, b2, b3, b4, b5, b6, b7, b8, b9⟩ := blk10 T4.out
  go_upto_region 9 with fail
  rw [hk]
  have HB : Hid (∀ k, blk A = some k → k < W3.heap.size) := fun q hq => by
    have := HRA.out q hq
    exact this
  clear hk
  rcases CS.out with ⟨c1, c2⟩ | ⟨c1, c2⟩
  · have d1 : (k : Int) < 8 := by omega
    have d2 : (r : Int) < 4 := by omega
    clear c1 c2
    go_wp2_with fail
    go_ret
    exact ⟨rfl, F4.out⟩
  · by_cases c3 : k < 8
    · have d1 : (k : Int) < 8 := by omega
      have d2 : ¬ (r : Int) < 4 := by omega
      clear c1
      go_upto_region 11 with fail
      exact bit_tail w W3 w4 _ _ _ _ _ _ _ _ _ _ _ _ _ _ _ _ _ _ _ _ _ _ _ _ _ _ _ _ _ _ _ _ _ _ _ _ _ _ _ _ _ _ _ _ _ _ _ _ _ _ _ _ _ _ _ _ _ _ _ _ _ _ _ _ _ _ _ _ _ _ _ _ _ _ _ _ _ _ _ _ _ _ _ _ _ _ _ _ _ _ _ _ _ _ _ _ _ _ _ _ _ _ _ _ hb g N c4 k z i r b v L tos id hdf hmf off ttl pro src dst A o oc n opts _ (by assumption) hi hr hr8 hiN HLN.out HLI.out sh HS1.out HX.out c2 MHO.out HZ.out HNN.out o40 n80 HLB.out F4.out T4.out RA4.out R4.out (Nat.le_trans HLF.out hgW) HB.out
    · have d1 : ¬ (k : Int) < 8 := by omega
      clear c1
      go_upto_region 11 with fail
      exact bit_tail w W3 w4 _ _ _ _ _ _ _ _ _ _ _ _ _ _ _ _ _ _ _ _ _ _ _ _ _ _ _ _ _ _ _ _ _ _ _ _ _ _ _ _ _ _ _ _ _ _ _ _ _ _ _ _ _ _ _ _ _ _ _ _ _ _ _ _ _ _ _ _ _ _ _ _ _ _ _ _ _ _ _ _ _ _ _ _ _ _ _ _ _ _ _ _ _ _ _ _ _ _ _ _ _ _ _ _ hb g N c4 k z i r b v L tos id hdf hmf off ttl pro src dst A o oc n opts _ (by assumption) hi hr hr8 hiN HLN.out HLI.out sh HS1.out HX.out c2 MHO.out HZ.out HNN.out o40 n80 HLB.out F4.out T4.out RA4.out R4.out (Nat.le_trans HLF.out hgW) HB.out
end Go.Proofs.Ytcclneaabnpbkaa
