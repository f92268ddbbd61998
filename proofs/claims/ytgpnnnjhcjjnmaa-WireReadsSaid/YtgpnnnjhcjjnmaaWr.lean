/-
  WireReads: the walk.
-/
import Derived.Test.YtgpnnnjhcjjnmaaWs
import Derived.Test.YtgpnnnjhcjjnmaaL3
import Derived.BigRegion
import Derived.IntWalk
import Derived.BigQuiet
import Derived.Deep.Cut
import Derived.Deep.CutRange
import Derived.Deep.CutBlock
import Derived.Deep.RegionHeld3
import Derived.Deep.RegionLaw
namespace Go.Proofs.Ytgpnnnjhcjjnmaa
open Go.RowKit
attribute [local go_sem] undef
attribute [local irreducible] wpList

set_option maxRecDepth 100000 in
set_option maxHeartbeats 4000000 in
theorem reads_ok (w : World) (A B : Option Addr) (c n l d : Nat) (bs : List UInt8) (hn : bs.length = n) (acts : List (Nat × Int)) (hl : acts.length = l) (hs : Src w A c bs) (ha : Acts w B acts) (h1 : l ≤ 100) (h2 : n ≤ 131072) :
    Calls Try.prog 12 #[.slice A n c, .slice B l d] w fun e w' => e = .returned (.bool true) ∧ Frm No w w' := by
  subst hn
  obtain ⟨i0, hi, hz0, hz1, hz2⟩ := info_parts info22
  have q1 : ¬ (100 : Int) < l := by omega
  have q2 : ¬ (131072 : Int) < bs.length := by omega
  have HS := Lib.hid hs
  have HA := Lib.hid ha
  have HL := Lib.hid hl
  clear hs ha hl
  go_enter Try.func12, Try.ntmps12
  go_wp2_with fail
  refine (lent _ A c bs.length bs rfl HS.out (by omega)).mono ?_
  rintro e w1 ⟨A5, c5, rfl, ho5, hf5⟩
  obtain ⟨g5, k5, he5⟩ := own_some ho5 (by omega)
  injection he5 with e1 e2 e3
  subst e1 e3
  have O5 := Lib.hid ho5
  have F5 := Lib.hid hf5
  clear ho5 hf5 e2
  have NR := Lib.hid (newReader w1 (some ⟨g5, 0, none⟩) c5 bs (lent_src O5.out).1.rds (by omega))
  go_wp2_with fail
  refine NR.out.mono ?_
  rintro e w2 ⟨gr, vr, rfl, hgr, hvr, hrd, hf2⟩
  have R2 := Lib.hid hrd
  have F2 := Lib.hid hf2
  have G2 := Lib.hid hgr
  have V2 := Lib.hid hvr
  clear hrd hf2 hgr hvr NR
  have O2 := Lib.hid (F2.out.own O5.out (fun _ _ x => x))
  go_wp2_with fail
  refine (kept_bytes _ (some ⟨g5, 0, none⟩) A c5 c bs.length bs rfl (lent_src O5.out).2.2 (lent_src O2.out).2.1 (HS.out.rds.frm (F5.out.new0 F2.out) (fun _ _ x => x)) (by omega)).mono ?_
  rintro e w3 ⟨rfl, n3, rfl⟩
  have O3 : Hid ((w2.drewN n3).ownsRow w.heap.size 5 1 (.slice (some ⟨g5, 0, none⟩) bs.length c5) bs.length (byts bs)) :=
    own_short (show (w2.drewN n3).ownsRow w.heap.size 5 1 (.slice (some ⟨g5, 0, none⟩) (bs.length + 12) c5) (bs.length + 12) (byts (bs ++ marks 12)) from O2.out) rfl (by decide)
  have OK := Lib.hid (over_keep (w2.drewN n3) O3.out (.inr (by simp [Value.ownBlock])) (by omega))
  go_wp2_with fail
  refine OK.out.mono ?_
  rintro e w4 ⟨⟨rfl, hf4⟩, zs, hz4⟩
  have F4 : Hid (Frm No w w4) := ((F5.out.new0 F2.out).drewN n3).trans hf4 (fun i hi e => by have := (own_lt O5.out e).1; omega)
  have R4 : Hid (Rd w4 gr vr bs 0 false) := (R2.out.drewN n3).frm hf4 (fun e => own_blk_ne O3.out (R2.out.drewN n3).blk (by decide) e) (fun i hi e => by have := V2.out i hi; have := (own_lt O5.out e).2; omega)
  have Z4 := Lib.hid hz4
  clear hf4 hz4 OK
  go_wp2_with fail
  have RS0 : Hid (RS w (w4.alloc (.cells #[.slice A bs.length c, .int .i64 0, .bool false] 75)) gr vr bs 0 false 0 false w4.heap.size A c g5 c5 (.slice none 0 0) 0 (fun _ => .slice none 0 0) (fun _ => 0) (fun _ => [])) := by
    refine ⟨R4.out.frm ((Frm.refl No w4).alloc _) (fun x => x) (fun _ _ x => x), Blk.new _ _ _, F4.out.alloc _, Nat.le_trans F5.out.size G2.out, F4.out.size, ⟨by simp, .inl ⟨rfl, rfl⟩⟩,
      ⟨fun k h => absurd h (Nat.not_lt_zero k), fun k h => absurd h (Nat.not_lt_zero k), fun k h => absurd h (Nat.not_lt_zero k), fun k _ h => absurd h (Nat.not_lt_zero k)⟩, fun k h => absurd h (Nat.not_lt_zero k), ⟨zs, Z4.out.alloc _⟩, fun k h => absurd h (Nat.not_lt_zero k)⟩
  obtain ⟨W2, hW2⟩ : ∃ W, w4.alloc (.cells #[.slice A bs.length c, .int .i64 0, .bool false] 75) = W := ⟨_, rfl⟩
  obtain ⟨gx, hgx⟩ : ∃ g, w4.heap.size = g := ⟨_, rfl⟩
  rw [hW2, hgx] at RS0
  rw [hW2, hgx]
  clear hW2 hgx F4 R4 Z4 O3 O2 O5 F5 R2 F2 G2 V2
  clear q1 q2
  go_loopw [9, 59] (fun V i wr => ∃ (j k : Nat) (f : Bool) (q : Nat) (vs : Nat → Value) (ns : Nat → Nat) (cs : Nat → List UInt8), j ≤ l ∧ i = .int .i64 (j : Int) ∧ q ≤ j ∧ Hid (RS w wr gr vr bs k f k f gx A c g5 c5 V q vs ns cs)) (fun _ i _ => l - (intOf i).toNat)
  case atStart => exact ⟨0, 0, false, 0, _, _, _, Nat.zero_le _, rfl, Nat.le_refl _, RS0⟩
  case round =>
    obtain ⟨j, k, f, q, vs, ns, cs, hj, rfl, hqj, HW⟩ := hrel
    clear RS0
    by_cases hlt : j < l
    · have q0 : (j : Int) < l := by omega
      obtain ⟨ad, rfl, had, hcell⟩ := (HA.out.frm HW.out.frm) (by have := HL.out; omega)
      obtain ⟨h0, h1, hk0, hn0, hn1⟩ := hcell j (by have := HL.out; omega)
      obtain ⟨kd, hkd⟩ : ∃ x, x = (acts[j]'(by have := HL.out; omega)).1 := ⟨_, rfl⟩
      obtain ⟨nn, hnn⟩ : ∃ x, x = (acts[j]'(by have := HL.out; omega)).2 := ⟨_, rfl⟩
      rw [← hkd] at h0 hk0
      rw [← hnn] at h1 hn0 hn1
      clear hkd hnn hcell
      have h2' : wr.cell? ⟨(ad.add (j * 2)).block, (ad.add (j * 2)).off + 1, none⟩ = some (.int .i64 nn) := by rw [add_next]; exact h1
      clear h1 had
      go_upto_region 15 with fail
      have AX : ∃ gl W4, wr.heap.size = gl ∧ wr.alloc (.cells #[.int .u8 (kd : Int), .int .i64 nn] 30) = W4 ∧ Hid (Blk W4 gl 30 #[.int .u8 (kd : Int), .int .i64 nn]) ∧ Hid (Frm No wr W4) :=
        ⟨_, _, rfl, rfl, Blk.new _ _ _, (Frm.refl No _).alloc _⟩
      obtain ⟨gl, W4, hgl, hW4, BX, FX⟩ := AX
      have HW4 := Lib.hid (HW.out.no FX.out)
      rw [hW4, hgl]
      clear hW4 hgl h0 h2' HW FX
      have hgl0 : W4.cell? ⟨gl, 0, none⟩ = some (.int .u8 (kd : Int)) := BX.out.cell 0
      go_upto_block 2 with fail
      go_cut [9, 12, 13, 14, 15, 16] from 65 to 139 (fun s9 _ _ _ _ _ wx => ∃ (k' : Nat) (f' : Bool) (q' : Nat) (vs' : Nat → Value) (ns' : Nat → Nat) (cs' : Nat → List UInt8), q' ≤ j + 1 ∧ Hid (RS w wx gr vr bs k' f' k' f' gx A c g5 c5 s9 q' vs' ns' cs'))
      case first =>
        have hgl1 : W4.cell? ⟨gl, 1, none⟩ = some (.int .i64 nn) := BX.out.cell 1
        rcases (show kd % 5 = 0 ∨ kd % 5 = 1 ∨ kd % 5 = 2 ∨ kd % 5 = 3 ∨ kd % 5 = 4 by omega) with hq | hq | hq | hq | hq
        · have q1 : (kd : Int) % 5 = 0 := by omega
          clear hq
          as_aux_lemma =>
            obtain ⟨ys, hys⟩ : ∃ x, rOut bs k f 1 = x := ⟨_, rfl⟩
            obtain ⟨kk, hkk⟩ : ∃ x, rAt bs k f 1 = x := ⟨_, rfl⟩
            obtain ⟨ff, hff⟩ : ∃ x, (!fits bs k f 1) = x := ⟨_, rfl⟩
            obtain ⟨z, hz⟩ : ∃ x, be (rOut bs k f 1) = x := ⟨_, rfl⟩
            have hyl : (rOut bs k f 1).length ≤ 1 := rOut_le bs k f 1
            have hzl := be_lt _ (rOut bs k f 1) rfl
            have hpow : 256 ^ (rOut bs k f 1).length ≤ 256 ^ 1 := Nat.pow_le_pow_right (by decide) hyl
            have RU := Lib.hid (rU8 HW4.out.rd)
            rw [hz] at RU hzl
            have qz : (z : Int) < 256 := by omega
            clear hzl hpow
            rw [hys] at hyl hz
            have HY := Lib.hid hyl
            have HZ := Lib.hid hz
            clear hyl hz
            go_wp2_with fail
            refine RU.out.mono ?_
            rintro e w5 ⟨rfl, hr5, hf5⟩
            rw [hkk, hff] at hr5
            have H5 := Lib.hid (HW4.out.read hr5 hf5)
            have RD := Lib.hid (ref_read w5 A c k bs f (HS.out.frm H5.out.frm (fun _ _ x => x)) HW4.out.rd.le h2 1)
            have x0 := H5.out.x.cell 0
            have x1 := H5.out.x.cell 1
            have x2 := H5.out.x.cell 2
            have y1 := (BX.out.frm hf5 (fun e => blk_apart BX.out HW4.out.rd.blk (by decide) e)).cell 1
            clear hr5 hf5 hgl1 hgl0
            go_wp2_with fail
            refine RD.out.mono ?_
            rintro e w6 ⟨u6, he, ho6, hf6⟩
            rw [hkk, hff] at he
            rw [hys] at ho6
            subst he
            have H6 := Lib.hid (H5.out.no hf6)
            have d0 := H6.out.x.cell 0
            have d1 := H6.out.x.cell 1
            have d2 := H6.out.x.cell 2
            have e0 := H6.out.x.frozen 0
            have e1 := H6.out.x.frozen 1
            have e2 := H6.out.x.frozen 2
            have WF := Lib.hid (H6.out.stored kk ff)
            have hoS := H6.out.keeps ho6 kk ff
            obtain ⟨A6, c6, rfl, -, hs6, -⟩ := Src.of_own hoS
            have S6 := Lib.hid hs6
            have RN := Lib.hid (ref_number _ A6 c6 ys S6.out.rds (by have := HY.out; omega))
            rw [HZ.out] at RN
            clear hf6 ho6 hs6 hoS hys hkk hff x0 x1 x2 y1
            go_wp2_with fail
            refine RN.out.mono ?_
            rintro e w7 ⟨rfl, rfl⟩
            go_wp2_with fail
            go_meet
            exact ⟨_, _, _, _, _, _, by omega, WF.out⟩
        · have q1 : (kd : Int) % 5 = 1 := by omega
          clear hq
          as_aux_lemma =>
            obtain ⟨ys, hys⟩ : ∃ x, rOut bs k f 2 = x := ⟨_, rfl⟩
            obtain ⟨kk, hkk⟩ : ∃ x, rAt bs k f 2 = x := ⟨_, rfl⟩
            obtain ⟨ff, hff⟩ : ∃ x, (!fits bs k f 2) = x := ⟨_, rfl⟩
            obtain ⟨z, hz⟩ : ∃ x, be (rOut bs k f 2) = x := ⟨_, rfl⟩
            have hyl : (rOut bs k f 2).length ≤ 2 := rOut_le bs k f 2
            have hzl := be_lt _ (rOut bs k f 2) rfl
            have hpow : 256 ^ (rOut bs k f 2).length ≤ 256 ^ 2 := Nat.pow_le_pow_right (by decide) hyl
            have RU := Lib.hid (rU16 HW4.out.rd)
            rw [hz] at RU hzl
            have qz : (z : Int) < 65536 := by omega
            clear hzl hpow
            rw [hys] at hyl hz
            have HY := Lib.hid hyl
            have HZ := Lib.hid hz
            clear hyl hz
            go_wp2_with fail
            refine RU.out.mono ?_
            rintro e w5 ⟨rfl, hr5, hf5⟩
            rw [hkk, hff] at hr5
            have H5 := Lib.hid (HW4.out.read hr5 hf5)
            have RD := Lib.hid (ref_read w5 A c k bs f (HS.out.frm H5.out.frm (fun _ _ x => x)) HW4.out.rd.le h2 2)
            have x0 := H5.out.x.cell 0
            have x1 := H5.out.x.cell 1
            have x2 := H5.out.x.cell 2
            have y1 := (BX.out.frm hf5 (fun e => blk_apart BX.out HW4.out.rd.blk (by decide) e)).cell 1
            clear hr5 hf5 hgl1 hgl0
            go_wp2_with fail
            refine RD.out.mono ?_
            rintro e w6 ⟨u6, he, ho6, hf6⟩
            rw [hkk, hff] at he
            rw [hys] at ho6
            subst he
            have H6 := Lib.hid (H5.out.no hf6)
            have d0 := H6.out.x.cell 0
            have d1 := H6.out.x.cell 1
            have d2 := H6.out.x.cell 2
            have e0 := H6.out.x.frozen 0
            have e1 := H6.out.x.frozen 1
            have e2 := H6.out.x.frozen 2
            have WF := Lib.hid (H6.out.stored kk ff)
            have hoS := H6.out.keeps ho6 kk ff
            obtain ⟨A6, c6, rfl, -, hs6, -⟩ := Src.of_own hoS
            have S6 := Lib.hid hs6
            have RN := Lib.hid (ref_number _ A6 c6 ys S6.out.rds (by have := HY.out; omega))
            rw [HZ.out] at RN
            clear hf6 ho6 hs6 hoS hys hkk hff x0 x1 x2 y1
            go_wp2_with fail
            refine RN.out.mono ?_
            rintro e w7 ⟨rfl, rfl⟩
            go_wp2_with fail
            go_meet
            exact ⟨_, _, _, _, _, _, by omega, WF.out⟩
        · have q1 : (kd : Int) % 5 = 2 := by omega
          clear hq
          as_aux_lemma =>
            obtain ⟨ys, hys⟩ : ∃ x, rOut bs k f 4 = x := ⟨_, rfl⟩
            obtain ⟨kk, hkk⟩ : ∃ x, rAt bs k f 4 = x := ⟨_, rfl⟩
            obtain ⟨ff, hff⟩ : ∃ x, (!fits bs k f 4) = x := ⟨_, rfl⟩
            obtain ⟨z, hz⟩ : ∃ x, be (rOut bs k f 4) = x := ⟨_, rfl⟩
            have hyl : (rOut bs k f 4).length ≤ 4 := rOut_le bs k f 4
            have hzl := be_lt _ (rOut bs k f 4) rfl
            have hpow : 256 ^ (rOut bs k f 4).length ≤ 256 ^ 4 := Nat.pow_le_pow_right (by decide) hyl
            have RU := Lib.hid (rU32 HW4.out.rd)
            rw [hz] at RU hzl
            have qz : (z : Int) < 4294967296 := by omega
            clear hzl hpow
            rw [hys] at hyl hz
            have HY := Lib.hid hyl
            have HZ := Lib.hid hz
            clear hyl hz
            go_wp2_with fail
            refine RU.out.mono ?_
            rintro e w5 ⟨rfl, hr5, hf5⟩
            rw [hkk, hff] at hr5
            have H5 := Lib.hid (HW4.out.read hr5 hf5)
            have RD := Lib.hid (ref_read w5 A c k bs f (HS.out.frm H5.out.frm (fun _ _ x => x)) HW4.out.rd.le h2 4)
            have x0 := H5.out.x.cell 0
            have x1 := H5.out.x.cell 1
            have x2 := H5.out.x.cell 2
            have y1 := (BX.out.frm hf5 (fun e => blk_apart BX.out HW4.out.rd.blk (by decide) e)).cell 1
            clear hr5 hf5 hgl1 hgl0
            go_wp2_with fail
            refine RD.out.mono ?_
            rintro e w6 ⟨u6, he, ho6, hf6⟩
            rw [hkk, hff] at he
            rw [hys] at ho6
            subst he
            have H6 := Lib.hid (H5.out.no hf6)
            have d0 := H6.out.x.cell 0
            have d1 := H6.out.x.cell 1
            have d2 := H6.out.x.cell 2
            have e0 := H6.out.x.frozen 0
            have e1 := H6.out.x.frozen 1
            have e2 := H6.out.x.frozen 2
            have WF := Lib.hid (H6.out.stored kk ff)
            have hoS := H6.out.keeps ho6 kk ff
            obtain ⟨A6, c6, rfl, -, hs6, -⟩ := Src.of_own hoS
            have S6 := Lib.hid hs6
            have RN := Lib.hid (ref_number _ A6 c6 ys S6.out.rds (by have := HY.out; omega))
            rw [HZ.out] at RN
            clear hf6 ho6 hs6 hoS hys hkk hff x0 x1 x2 y1
            go_wp2_with fail
            refine RN.out.mono ?_
            rintro e w7 ⟨rfl, rfl⟩
            go_wp2_with fail
            go_meet
            exact ⟨_, _, _, _, _, _, by omega, WF.out⟩
        · have q1 : (kd : Int) % 5 = 3 := by omega
          clear hq
          as_aux_lemma =>
            obtain ⟨ys, hys⟩ : ∃ x, rOut bs k f nn = x := ⟨_, rfl⟩
            obtain ⟨kk, hkk⟩ : ∃ x, rAt bs k f nn = x := ⟨_, rfl⟩
            obtain ⟨ff, hff⟩ : ∃ x, (!fits bs k f nn) = x := ⟨_, rfl⟩
            have hyl := rOut_le2 bs k f nn
            rw [hys] at hyl
            have HY := Lib.hid hyl
            clear hyl
            go_wp2_with fail
            refine (rBytes HW4.out.rd nn).mono ?_
            rintro e w5 ⟨x5, rfl, ho5, hr5, hf5⟩
            rw [hkk, hff] at hr5
            rw [hys] at ho5
            have H5 := Lib.hid (HW4.out.read hr5 hf5)
            have O5 := Lib.hid ho5
            obtain ⟨A5, k5, rfl⟩ := own_slice ho5
            clear ho5
            have RD := Lib.hid (ref_read w5 A c k bs f (HS.out.frm H5.out.frm (fun _ _ x => x)) HW4.out.rd.le h2 nn)
            have x0 := H5.out.x.cell 0
            have x1 := H5.out.x.cell 1
            have x2 := H5.out.x.cell 2
            have y1 := (BX.out.frm hf5 (fun e => blk_apart BX.out HW4.out.rd.blk (by decide) e)).cell 1
            clear hr5 hf5 hgl1 hgl0
            go_wp2_with fail
            refine RD.out.mono ?_
            rintro e w6 ⟨u6, he, ho6, hf6⟩
            rw [hkk, hff] at he
            rw [hys] at ho6
            subst he
            have H6 := Lib.hid (H5.out.no hf6)
            have d0 := H6.out.x.cell 0
            have d1 := H6.out.x.cell 1
            have d2 := H6.out.x.cell 2
            have e0 := H6.out.x.frozen 0
            have e1 := H6.out.x.frozen 1
            have e2 := H6.out.x.frozen 2
            have WF := Lib.hid (H6.out.stored kk ff)
            have hoS := H6.out.keeps ho6 kk ff
            obtain ⟨A6, c6, rfl, -, hs6, -⟩ := Src.of_own hoS
            have S6 := Lib.hid hs6
            have O6 := Lib.hid (H6.out.keeps (hf6.own O5.out (fun _ _ x => x)) kk ff)
            obtain ⟨A5', k5', he5, -, hs5, -⟩ := Src.of_own O6.out
            injection he5 with i1 i2 i3
            subst i1 i3
            have SB := Lib.hid (sames_any _ A5 A6 k5 c6 ys ys hs5.rds S6.out.rds (by have := HY.out; omega))
            clear hf6 ho6 hs6 hoS hys hkk hff x0 x1 x2 y1 hs5 i2
            go_wp2_with fail
            refine SB.out.mono ?_
            rintro e w8 ⟨he, n8, rfl⟩
            replace he : e = .returned (.bool true) := by simpa using he
            subst he
            have HD := Lib.hid (WF.out.no ((Frm.refl No _).drewN n8))
            have OD := Lib.hid (((Frm.refl No _).drewN n8).own O6.out (fun _ _ x => x))
            obtain ⟨W8, hW8⟩ : ∃ W, ((((w6.setCell ⟨gx, 0, none⟩ (.slice A bs.length c)).setCell ⟨gx, 1, none⟩ (.int .i64 (kk : Int))).setCell ⟨gx, 2, none⟩ (.bool ff)).drewN n8) = W := ⟨_, rfl⟩
            rw [hW8] at HD OD ⊢
            clear hW8 SB S6 WF
            go_wp2_with (at_builtin; refine wpList_append_own _ rfl (.tmp 136) (.tmp 138) 76 rfl w.heap.size 22 i0 (.slice none 0 0) 1 24 Try.underlying76 hi hz0 hz1 hz2 rfl (by decide) _ _ _ rfl (HD.out.row.alloc _) ⟨_, 0, none⟩ 1 1 [.slice A5 ys.length k5] rfl rfl (news22 _ _) (by simp [Value.oneCell']) (by unfold maxLen; omega) (by omega) (Nat.le_trans HD.out.frm.size (by simp)) ?_; intro v' w9 hown' hgr _)
            have HP := Lib.hid (HD.out.push HW4.out.frm.size OD.out (by have := HY.out; omega)
              (fun e => by obtain ⟨zs, hz⟩ := HW4.out.lent; have h3 : g5 < W4.heap.size := (own_lt hz rfl).2; have h4 := (own_lt O6.out e).1; omega)
              (fun i hi a h3 e => by have h4 := (own_lt (HW4.out.duo.own i hi) h3).2; have h5 := (own_lt O6.out e).1; omega) hown' hgr)
            go_meet
            exact ⟨_, _, _, _, _, _, by omega, HP.out⟩
        · have q1 : (kd : Int) % 5 = 4 := by omega
          clear hq
          as_aux_lemma =>
            obtain ⟨ys, hys⟩ : ∃ x, rOut bs k f nn = x := ⟨_, rfl⟩
            obtain ⟨kk, hkk⟩ : ∃ x, rAt bs k f nn = x := ⟨_, rfl⟩
            obtain ⟨ff, hff⟩ : ∃ x, (!fits bs k f nn) = x := ⟨_, rfl⟩
            go_wp2_with fail
            refine (rSkip HW4.out.rd nn).mono ?_
            rintro e w5 ⟨rfl, hr5, hf5⟩
            rw [hkk, hff] at hr5
            have H5 := Lib.hid (HW4.out.read hr5 hf5)
            have RD := Lib.hid (ref_read w5 A c k bs f (HS.out.frm H5.out.frm (fun _ _ x => x)) HW4.out.rd.le h2 nn)
            have x0 := H5.out.x.cell 0
            have x1 := H5.out.x.cell 1
            have x2 := H5.out.x.cell 2
            have y1 := (BX.out.frm hf5 (fun e => blk_apart BX.out HW4.out.rd.blk (by decide) e)).cell 1
            clear hr5 hf5 hgl1 hgl0
            go_wp2_with fail
            refine RD.out.mono ?_
            rintro e w6 ⟨u6, he, ho6, hf6⟩
            rw [hkk, hff] at he
            rw [hys] at ho6
            subst he
            have H6 := Lib.hid (H5.out.no hf6)
            have d0 := H6.out.x.cell 0
            have d1 := H6.out.x.cell 1
            have d2 := H6.out.x.cell 2
            have e0 := H6.out.x.frozen 0
            have e1 := H6.out.x.frozen 1
            have e2 := H6.out.x.frozen 2
            have WF := Lib.hid (H6.out.stored kk ff)
            have hoS := H6.out.keeps ho6 kk ff
            obtain ⟨A6, c6, rfl, -, hs6, -⟩ := Src.of_own hoS
            have S6 := Lib.hid hs6
            clear hf6 ho6 hs6 hoS hys hkk hff x0 x1 x2 y1
            go_wp2_with fail
            go_meet
            exact ⟨_, _, _, _, _, _, by omega, WF.out⟩
      case rest =>
        obtain ⟨k', f', q', vs', ns', cs', hq', HW5⟩ := hcut
        clear HW4 BX hgl0
        have hkl := HW5.out.rd.le
        have qw : IntKind.i64.wrap ((bs.length : Int) - k') = bs.length - k' := by rw [IntWalk.i64_in] <;> omega
        have g0 := HW5.out.x.cell 0
        have g1 := HW5.out.x.cell 1
        have g2 := HW5.out.x.cell 2
        have QA : Hid (∀ n, Calls Try.prog 32 #[.pointer (some ⟨gr, 0, none⟩)] (wc.drewN n) fun e w'' => e = .returned (.int .i64 (k' : Int)) ∧ ∃ k, w'' = wc.drewN k) :=
          Lib.hid fun n => (rAt_ (HW5.out.rd.drewN n)).mono fun e w'' ⟨he, hw⟩ => ⟨he, n, hw.symm⟩
        have QF : Hid (∀ n, Calls Try.prog 33 #[.pointer (some ⟨gr, 0, none⟩)] (wc.drewN n) fun e w'' => e = .returned (.bool f') ∧ ∃ k, w'' = wc.drewN k) :=
          Lib.hid fun n => (rFailed (HW5.out.rd.drewN n)).mono fun e w'' ⟨he, hw⟩ => ⟨he, n, hw.symm⟩
        have QL : Hid (∀ n, Calls Try.prog 31 #[.pointer (some ⟨gr, 0, none⟩)] (wc.drewN n) fun e w'' => e = .returned (.int .i64 ((bs.length : Int) - k')) ∧ ∃ k, w'' = wc.drewN k) :=
          Lib.hid fun n => (rLeft (HW5.out.rd.drewN n)).mono fun e w'' ⟨he, k, hw⟩ => ⟨he, n + k, by rw [hw, World.drewN_drewN]⟩
        cases f' with
        | false =>
          go_wp2_with fail
          go_quiet (first | (go_at_call 32; exact QA.out _) | (go_at_call 31; exact QL.out _) | (go_at_call 33; exact QF.out _))
          go_wp2_with fail
          go_roundw
          case rel => exact ⟨j + 1, k', false, q', vs', ns', cs', by omega, by go_num, hq', Lib.hid (HW5.out.no ((Frm.refl No _).drewN _))⟩
          case measure => simp [intOf]; omega
        | true =>
          go_wp2_with fail
          go_quiet (first | (go_at_call 32; exact QA.out _) | (go_at_call 31; exact QL.out _) | (go_at_call 33; exact QF.out _))
          go_wp2_with fail
          go_roundw
          case rel => exact ⟨j + 1, k', true, q', vs', ns', cs', by omega, by go_num, hq', Lib.hid (HW5.out.no ((Frm.refl No _).drewN _))⟩
          case measure => simp [intOf]; omega
    · obtain rfl : j = l := by omega
      go_wp2_with (at_builtin; refine wpList_append_own _ rfl (.tmp 164) (.tmp 166) 76 rfl w.heap.size 22 i0 (.slice none 0 0) 1 24 Try.underlying76 hi hz0 hz1 hz2 rfl (by decide) _ _ _ rfl (HW.out.row.alloc _) ⟨_, 0, none⟩ 1 1 [.slice (some ⟨g5, 0, none⟩) bs.length c5] rfl rfl (news22 _ _) (by simp [Value.oneCell']) (by unfold maxLen; omega) (by omega) (Nat.le_trans HW.out.frm.size (by simp)) ?_; intro v' w9 hown' hgr _)
      have FN := HW.out.fin (by omega) h2 hown' hgr
      refine FN.mono ?_
      rintro e w10 ⟨rfl, hf10⟩
      have F10 := Lib.hid hf10
      clear hf10 FN
      go_wp2
      go_ret
      exact ⟨rfl, F10.out⟩
end Go.Proofs.Ytgpnnnjhcjjnmaa
