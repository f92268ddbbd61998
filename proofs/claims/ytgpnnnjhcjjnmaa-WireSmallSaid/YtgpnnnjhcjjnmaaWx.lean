/-
  WireWrites: the walk.
-/
import Derived.Test.YtgpnnnjhcjjnmaaWw
import Derived.BigRegion
import Derived.IntWalk
import Derived.BigQuiet
import Derived.Deep.Cut
import Derived.Deep.CutRange
import Derived.Deep.CutBlock
import Derived.Deep.RegionHeld3
import Derived.Deep.RegionLaw
namespace Go.Proofs.Ytgpnnnjhcjjnmaa
open Go.RowKit
attribute [local go_sem] undef
attribute [local irreducible] wpList

set_option maxRecDepth 100000 in
set_option maxHeartbeats 1000000 in
theorem writes_much (w : World) (lim : Int) (A B : Option Addr) (n c l d : Nat) (h : 100 < l ∨ 2000 < n) : Calls Try.prog 14 #[.int .i64 lim, .slice A n c, .slice B l d] w fun e w' => e = .returned (.bool true) ∧ Frm No w w' := by
  by_cases h1 : 100 < l
  · have q1 : (100 : Int) < l := by omega
    go_enter Try.func14, Try.ntmps14
    go_wp2
    go_ret
    exact ⟨rfl, Frm.refl _ _⟩
  · have q1 : ¬ (100 : Int) < l := by omega
    have q2 : (2000 : Int) < n := by omega
    go_enter Try.func14, Try.ntmps14
    go_wp2
    go_ret
    exact ⟨rfl, Frm.refl _ _⟩

set_option maxRecDepth 100000 in
set_option maxHeartbeats 1000000 in
theorem writes_bad (w : World) (lim : Int) (A B : Option Addr) (n c l d : Nat) (h1 : l ≤ 100) (h2 : n ≤ 2000) (h : lim < 0 ∨ 131072 < lim) : Calls Try.prog 14 #[.int .i64 lim, .slice A n c, .slice B l d] w fun e w' => e = .returned (.bool true) ∧ Frm No w w' := by
  have q1 : ¬ (100 : Int) < l := by omega
  have q2 : ¬ (2000 : Int) < n := by omega
  have NB := Lib.hid (newWriter_bad w lim h)
  by_cases h0 : lim < 0
  · clear h
    go_enter Try.func14, Try.ntmps14
    go_wp2_with fail
    refine NB.out.mono ?_
    rintro e w' ⟨rfl, rfl⟩
    go_wp2
    go_ret
    exact ⟨rfl, Frm.refl _ _⟩
  · have h3 : 131072 < lim := by omega
    clear h
    go_enter Try.func14, Try.ntmps14
    go_wp2_with fail
    refine NB.out.mono ?_
    rintro e w' ⟨rfl, rfl⟩
    go_wp2
    go_ret
    exact ⟨rfl, Frm.refl _ _⟩

theorem two_far {w : World} {g gw t : Nat} {cs : Array Value} {vw : Value} {m : Nat} {ys : List UInt8} {f : Bool} (hb : Blk w g t cs) (h1 : t ≠ 44) (h2 : 5 ≠ t) (hw : Wr w gw vw m ys f) : ¬ Two gw vw g := by
  rintro (e | e)
  · exact blk_apart hb hw.blk h1 e
  · exact own_blk_ne hw.own hb h2 e

set_option maxRecDepth 100000 in
set_option maxHeartbeats 20000000 in
theorem writes_ok (w : World) (m : Nat) (hm : m ≤ 131072) (A B : Option Addr) (c n l d : Nat) (bs : List UInt8) (hn : bs.length = n) (acts : List (Nat × Int)) (hl : acts.length = l) (hs : Src w A c bs) (ha : Acts w B acts) (h1 : l ≤ 100) (h2 : n ≤ 2000) :
    Calls Try.prog 14 #[.int .i64 (m : Int), .slice A n c, .slice B l d] w fun e w' => e = .returned (.bool true) ∧ Frm No w w' := by
  have q1 : ¬ (100 : Int) < l := by omega
  have q2 : ¬ (2000 : Int) < n := by omega
  have q3 : ¬ (131072 : Int) < m := by omega
  have HS := Lib.hid hs
  have HA := Lib.hid ha
  have HN := Lib.hid hn
  have HL := Lib.hid hl
  clear hs ha hn hl
  go_enter Try.func14, Try.ntmps14
  go_wp2_with fail
  refine (newWriter _ m hm).mono ?_
  rintro e w1 ⟨gw, rfl, hgw, hwr, hf⟩
  have F1 := Lib.hid hf
  have W1 := Lib.hid hwr
  have G1 := Lib.hid hgw
  clear hwr hf hgw
  go_wp2_with fail
  have WS0 : Hid (WS w (w1.alloc (.cells #[.int .i64 (m : Int), .slice none 0 0, .bool false] 82)) gw (.slice none 0 0) m [] false w1.heap.size (.slice none 0 0)) :=
    ⟨W1.out.frm ((Frm.refl No w1).alloc _) (fun x => x) (fun _ _ x => x), Blk.new _ _ _, World.ownsRow_nil _ _ _ _, F1.out.alloc _, G1.out, F1.out.size, (fun i hi => by cases hi), (fun i hi => by cases hi)⟩
  obtain ⟨W2, hW2⟩ : ∃ W, w1.alloc (.cells #[.int .i64 (m : Int), .slice none 0 0, .bool false] 82) = W := ⟨_, rfl⟩
  obtain ⟨gx, hgx⟩ : ∃ g, w1.heap.size = g := ⟨_, rfl⟩
  rw [hW2, hgx] at WS0
  rw [hW2, hgx]
  clear hW2 hgx F1 W1 G1
  clear q1 q2 q3
  go_loopw [51] (fun i wr => ∃ (j : Nat) (vw : Value) (ys : List UInt8) (f : Bool) (u : Value), j ≤ l ∧ i = .int .i64 (j : Int) ∧ Hid (WS w wr gw vw m ys f gx u)) (fun i _ => l - (intOf i).toNat)
  case atStart => exact ⟨0, _, [], false, _, Nat.zero_le _, rfl, WS0⟩
  case round =>
    obtain ⟨j, vw, ys, f, u, hj, rfl, HW⟩ := hrel
    clear WS0
    by_cases hlt : j < l
    · have q0 : (j : Int) < l := by omega
      obtain ⟨ad, rfl, had, hcell⟩ := (HA.out.frm HW.out.frm) (by have := HL.out; omega)
      obtain ⟨h0, h1, hk0, hn0, hn1⟩ := hcell j (by have := HL.out; omega)
      obtain ⟨kd, hkd⟩ : ∃ x, x = (acts[j]'(by have := HL.out; omega)).1 := ⟨_, rfl⟩
      obtain ⟨nn, hnn⟩ : ∃ x, x = (acts[j]'(by have := HL.out; omega)).2 := ⟨_, rfl⟩
      rw [← hkd] at h0 hk0
      rw [← hnn] at h1 hn0 hn1
      clear hkd hnn hcell
      have h2' : wr.cell? ⟨(ad.add (j * 2)).block, (ad.add (j * 2)).off + 1, none⟩ = some (.int .i64 nn) := by rw [add_next]; exact h1
      clear h1
      obtain ⟨U, cu, rfl, -, hsu, -⟩ := Src.of_own HW.out.row
      obtain ⟨ly, hly⟩ : ∃ L, ys.length = L := ⟨_, rfl⟩
      have hlm : ly ≤ m := hly ▸ HW.out.wr.le
      have HLY := Lib.hid hly
      clear hly hsu had
      go_upto_region 12 with fail
      have AX : ∃ gl W4, wr.heap.size = gl ∧ wr.alloc (.cells #[.int .u8 (kd : Int), .int .i64 nn] 30) = W4 ∧ Hid (Blk W4 gl 30 #[.int .u8 (kd : Int), .int .i64 nn]) ∧ Hid (Frm No wr W4) :=
        ⟨_, _, rfl, rfl, Blk.new _ _ _, (Frm.refl No _).alloc _⟩
      obtain ⟨gl, W4, hgl, hW4, BX, FX⟩ := AX
      have HW4 := Lib.hid (HW.out.no FX.out)
      rw [hW4, hgl]
      clear hW4 hgl h0 h2' HW FX
      have hgl0 : W4.cell? ⟨gl, 0, none⟩ = some (.int .u8 (kd : Int)) := BX.out.cell 0
      go_upto_block 2 with fail
      go_cut [12] from 57 to 144 (fun _ wx => ∃ (v' : Value) (ys' : List UInt8) (f' : Bool) (u' : Value), Hid (WS w wx gw v' m ys' f' gx u'))
      case first =>
        have hgl1 : W4.cell? ⟨gl, 1, none⟩ = some (.int .i64 nn) := BX.out.cell 1
        rcases (show kd % 6 = 0 ∨ kd % 6 = 1 ∨ kd % 6 = 2 ∨ kd % 6 = 3 ∨ kd % 6 = 4 ∨ kd % 6 = 5 by omega) with hq | hq | hq | hq | hq | hq
        · have q1 : (kd : Int) % 6 = 0 := by omega
          obtain ⟨z, hz, hz2⟩ : ∃ z : Nat, nn % 256 = (z : Int) ∧ z < 256 := ⟨(nn % 256).toNat, by omega, by omega⟩
          have qb : IntKind.u8.wrap nn = (z : Int) := by rw [IntKind.wrap_u8]; exact hz
          have qz : (z : Int) < 256 := by omega
          have qy : IntKind.i64.wrap (z : Int) = (z : Int) := by rw [IntWalk.i64_in] <;> omega
          have HZ := Lib.hid hz2
          clear hq hz2
          as_aux_lemma =>
            go_wp2_with fail
            refine (wU8 HW4.out.wr z HZ.out).mono ?_
            rintro e w5 ⟨v5, rfl, hw5, hf5, hb5⟩
            have BX5 := Lib.hid (BX.out.frm hf5 (two_far BX.out (by decide) (by decide) HW4.out.wr))
            have HH0 := HW4.out.half hw5 hf5 hb5
            obtain ⟨zs, hzs⟩ : ∃ zs, (if wfits m ys f ((digs 1 z).length : Int) = true then ys ++ digs 1 z else ys) = zs := ⟨_, rfl⟩
            obtain ⟨f2, hf2⟩ : ∃ b, (!wfits m ys f ((digs 1 z).length : Int)) = b := ⟨_, rfl⟩
            rw [hzs, hf2] at HH0
            have HH := Lib.hid HH0
            have RW : Hid (∀ W, Frm No w5 W → ∀ A' c', Src W A' c' (digs 1 z) → Calls Try.prog 47 #[.agg #[.int .i64 (m : Int), .slice U ys.length cu, .bool f], .slice A' (digs 1 z).length c'] W (RWDone W m (.slice U ys.length cu) zs f2)) := by
              refine Lib.hid fun W hW A' c' hs => ?_
              have h := ref_write W m _ ys f (HH.out.no hW).row HH.out.le hm A' c' _ _ hs rfl (by rw [digs_len]; omega)
              rw [hzs, hf2] at h
              exact h
            have PC := Lib.hid (fun W (hW : Frm No w5 W) => And.intro ((BX5.out.frm hW (fun x => x)).cell 1) (And.intro ((HH.out.no hW).x.cell 0) (And.intro ((HH.out.no hW).x.cell 1) ((HH.out.no hW).x.cell 2))))
            have RB := Lib.hid (fun W => ref_bytes1 W z HZ.out)
            clear HH0 hw5 hf5 hb5 hzs hf2 hgl1 hgl0 HW4 BX
            obtain ⟨d0, d1, d2, d3⟩ := PC.out _ (Frm.refl No w5)
            go_wp2_with fail
            go_region_law (first
              | (go_simp; go_at_call 47; refine (RW.out _ K6.out A6 c6 S6.out).mono ?_; rintro e w7 ⟨u7, rfl, ho7, hf7, hb7⟩; obtain ⟨d0, d1, d2, d3⟩ := PC.out _ (K6.out.new0 hf7); have X7 := (HH.out.no (K6.out.new0 hf7)).x; have e0 := X7.frozen 0; have e1 := X7.frozen 1; have e2 := X7.frozen 2; have WF := Lib.hid ((HH.out.no K6.out).stored ho7 hf7 hb7); obtain ⟨U7, c7, rfl⟩ := own_slice ho7; clear ho7 hf7 hb7 X7)
              | (go_simp; go_at_call 48; refine (RB.out _).mono ?_; rintro e w6 ⟨x6, rfl, ho6, hf6⟩; obtain ⟨A6, c6, rfl, -, hs6, -⟩ := Src.of_own ho6; have K6 := Lib.hid ((Frm.refl No w5).drew.new0 hf6); have S6 := Lib.hid hs6; obtain ⟨d0, d1, d2, d3⟩ := PC.out _ K6.out; clear ho6 hf6 hs6))
            all_goals
              go_wp2_with fail
              go_meet
              exact ⟨_, _, _, _, WF.out⟩
        · have q1 : (kd : Int) % 6 = 1 := by omega
          obtain ⟨z, hz, hz2⟩ : ∃ z : Nat, nn % 65536 = (z : Int) ∧ z < 65536 := ⟨(nn % 65536).toNat, by omega, by omega⟩
          have qb : IntKind.u16.wrap nn = (z : Int) := by rw [IntKind.wrap_u16]; exact hz
          have qz : (z : Int) < 65536 := by omega
          have qy : IntKind.i64.wrap (z : Int) = (z : Int) := by rw [IntWalk.i64_in] <;> omega
          have HZ := Lib.hid hz2
          clear hq hz2
          as_aux_lemma =>
            go_wp2_with fail
            refine (wU16 HW4.out.wr z HZ.out).mono ?_
            rintro e w5 ⟨v5, rfl, hw5, hf5, hb5⟩
            have BX5 := Lib.hid (BX.out.frm hf5 (two_far BX.out (by decide) (by decide) HW4.out.wr))
            have HH0 := HW4.out.half hw5 hf5 hb5
            obtain ⟨zs, hzs⟩ : ∃ zs, (if wfits m ys f ((digs 2 z).length : Int) = true then ys ++ digs 2 z else ys) = zs := ⟨_, rfl⟩
            obtain ⟨f2, hf2⟩ : ∃ b, (!wfits m ys f ((digs 2 z).length : Int)) = b := ⟨_, rfl⟩
            rw [hzs, hf2] at HH0
            have HH := Lib.hid HH0
            have RW : Hid (∀ W, Frm No w5 W → ∀ A' c', Src W A' c' (digs 2 z) → Calls Try.prog 47 #[.agg #[.int .i64 (m : Int), .slice U ys.length cu, .bool f], .slice A' (digs 2 z).length c'] W (RWDone W m (.slice U ys.length cu) zs f2)) := by
              refine Lib.hid fun W hW A' c' hs => ?_
              have h := ref_write W m _ ys f (HH.out.no hW).row HH.out.le hm A' c' _ _ hs rfl (by rw [digs_len]; omega)
              rw [hzs, hf2] at h
              exact h
            have PC := Lib.hid (fun W (hW : Frm No w5 W) => And.intro ((BX5.out.frm hW (fun x => x)).cell 1) (And.intro ((HH.out.no hW).x.cell 0) (And.intro ((HH.out.no hW).x.cell 1) ((HH.out.no hW).x.cell 2))))
            have RB := Lib.hid (fun W => ref_bytes2 W z HZ.out)
            clear HH0 hw5 hf5 hb5 hzs hf2 hgl1 hgl0 HW4 BX
            obtain ⟨d0, d1, d2, d3⟩ := PC.out _ (Frm.refl No w5)
            go_wp2_with fail
            go_region_law (first
              | (go_simp; go_at_call 47; refine (RW.out _ K6.out A6 c6 S6.out).mono ?_; rintro e w7 ⟨u7, rfl, ho7, hf7, hb7⟩; obtain ⟨d0, d1, d2, d3⟩ := PC.out _ (K6.out.new0 hf7); have X7 := (HH.out.no (K6.out.new0 hf7)).x; have e0 := X7.frozen 0; have e1 := X7.frozen 1; have e2 := X7.frozen 2; have WF := Lib.hid ((HH.out.no K6.out).stored ho7 hf7 hb7); obtain ⟨U7, c7, rfl⟩ := own_slice ho7; clear ho7 hf7 hb7 X7)
              | (go_simp; go_at_call 48; refine (RB.out _).mono ?_; rintro e w6 ⟨x6, rfl, ho6, hf6⟩; obtain ⟨A6, c6, rfl, -, hs6, -⟩ := Src.of_own ho6; have K6 := Lib.hid ((Frm.refl No w5).drew.new0 hf6); have S6 := Lib.hid hs6; obtain ⟨d0, d1, d2, d3⟩ := PC.out _ K6.out; clear ho6 hf6 hs6))
            all_goals
              go_wp2_with fail
              go_meet
              exact ⟨_, _, _, _, WF.out⟩
        · have q1 : (kd : Int) % 6 = 2 := by omega
          obtain ⟨z, hz, hz2⟩ : ∃ z : Nat, nn % 4294967296 = (z : Int) ∧ z < 4294967296 := ⟨(nn % 4294967296).toNat, by omega, by omega⟩
          have qb : IntKind.u32.wrap nn = (z : Int) := by rw [IntKind.wrap_u32]; exact hz
          have qz : (z : Int) < 4294967296 := by omega
          have qy : IntKind.i64.wrap (z : Int) = (z : Int) := by rw [IntWalk.i64_in] <;> omega
          have HZ := Lib.hid hz2
          clear hq hz2
          as_aux_lemma =>
            go_wp2_with fail
            refine (wU32 HW4.out.wr z HZ.out).mono ?_
            rintro e w5 ⟨v5, rfl, hw5, hf5, hb5⟩
            have BX5 := Lib.hid (BX.out.frm hf5 (two_far BX.out (by decide) (by decide) HW4.out.wr))
            have HH0 := HW4.out.half hw5 hf5 hb5
            obtain ⟨zs, hzs⟩ : ∃ zs, (if wfits m ys f ((digs 4 z).length : Int) = true then ys ++ digs 4 z else ys) = zs := ⟨_, rfl⟩
            obtain ⟨f2, hf2⟩ : ∃ b, (!wfits m ys f ((digs 4 z).length : Int)) = b := ⟨_, rfl⟩
            rw [hzs, hf2] at HH0
            have HH := Lib.hid HH0
            have RW : Hid (∀ W, Frm No w5 W → ∀ A' c', Src W A' c' (digs 4 z) → Calls Try.prog 47 #[.agg #[.int .i64 (m : Int), .slice U ys.length cu, .bool f], .slice A' (digs 4 z).length c'] W (RWDone W m (.slice U ys.length cu) zs f2)) := by
              refine Lib.hid fun W hW A' c' hs => ?_
              have h := ref_write W m _ ys f (HH.out.no hW).row HH.out.le hm A' c' _ _ hs rfl (by rw [digs_len]; omega)
              rw [hzs, hf2] at h
              exact h
            have PC := Lib.hid (fun W (hW : Frm No w5 W) => And.intro ((BX5.out.frm hW (fun x => x)).cell 1) (And.intro ((HH.out.no hW).x.cell 0) (And.intro ((HH.out.no hW).x.cell 1) ((HH.out.no hW).x.cell 2))))
            have RB := Lib.hid (fun W => ref_bytes4 W z HZ.out)
            clear HH0 hw5 hf5 hb5 hzs hf2 hgl1 hgl0 HW4 BX
            obtain ⟨d0, d1, d2, d3⟩ := PC.out _ (Frm.refl No w5)
            go_wp2_with fail
            go_region_law (first
              | (go_simp; go_at_call 47; refine (RW.out _ K6.out A6 c6 S6.out).mono ?_; rintro e w7 ⟨u7, rfl, ho7, hf7, hb7⟩; obtain ⟨d0, d1, d2, d3⟩ := PC.out _ (K6.out.new0 hf7); have X7 := (HH.out.no (K6.out.new0 hf7)).x; have e0 := X7.frozen 0; have e1 := X7.frozen 1; have e2 := X7.frozen 2; have WF := Lib.hid ((HH.out.no K6.out).stored ho7 hf7 hb7); obtain ⟨U7, c7, rfl⟩ := own_slice ho7; clear ho7 hf7 hb7 X7)
              | (go_simp; go_at_call 48; refine (RB.out _).mono ?_; rintro e w6 ⟨x6, rfl, ho6, hf6⟩; obtain ⟨A6, c6, rfl, -, hs6, -⟩ := Src.of_own ho6; have K6 := Lib.hid ((Frm.refl No w5).drew.new0 hf6); have S6 := Lib.hid hs6; obtain ⟨d0, d1, d2, d3⟩ := PC.out _ K6.out; clear ho6 hf6 hs6))
            all_goals
              go_wp2_with fail
              go_meet
              exact ⟨_, _, _, _, WF.out⟩
        · have q1 : (kd : Int) % 6 = 3 := by omega
          clear hq
          as_aux_lemma =>
            go_wp2_with fail
            refine (lent _ A c n bs HN.out (HS.out.frm HW4.out.frm (fun _ _ x => x)) (by omega)).mono ?_
            rintro e w5 ⟨A5, c5, he, ho5, hf5⟩
            rw [HN.out] at he
            subst he
            have HW5 := Lib.hid (HW4.out.no hf5)
            obtain ⟨hs5, hm5, hc5⟩ := lent_src ho5
            have S5 := Lib.hid hs5
            have O5 := Lib.hid ho5
            have HC5 := Lib.hid hc5
            have F5 := Lib.hid hf5
            clear hs5 hm5 ho5 hc5 hf5
            go_wp2_with fail
            refine (wBytes2 HW5.out.wr S5.out HN.out (fun _ h => own_blk_ne O5.out HW5.out.wr.blk (by decide) (by cases A5 <;> exact h))).mono ?_
            rintro e w6 ⟨v6, rfl, hw6, hf6, hb6⟩
            have HH0 := HW5.out.half hw6 hf6 hb6
            obtain ⟨zs, hzs⟩ : ∃ zs, (if wfits m ys f (bs.length : Int) = true then ys ++ bs else ys) = zs := ⟨_, rfl⟩
            obtain ⟨f2, hf2⟩ : ∃ b, (!wfits m ys f (bs.length : Int)) = b := ⟨_, rfl⟩
            rw [hzs, hf2] at HH0
            have HH := Lib.hid HH0
            have O6 := Lib.hid (hf6.own O5.out (by
              rintro i hi (e | e)
              · exact own_blk_ne O5.out HW5.out.wr.blk (by decide) (by rw [hi, e])
              · have h1 := (own_lt O5.out hi).1
                have h2 := (own_lt HW4.out.wr.own e).2
                omega))
            have NV : Hid (∀ i, (Value.slice A5 (bs.length + 12) c5).ownBlock = some i → v6.ownBlock ≠ some i) := by
              intro i hi e
              have h1 := own_lt O5.out hi
              rcases hb6 with h | h
              · rw [h] at e
                have h2 := (own_lt HW4.out.wr.own e).2
                omega
              · have := h i e
                omega
            have NU : Hid (∀ i, (Value.slice A5 (bs.length + 12) c5).ownBlock = some i → (Value.slice U ys.length cu).ownBlock ≠ some i) := by
              intro i hi e
              have h1 := (own_lt O5.out hi).1
              have h2 := (own_lt HW4.out.row e).2
              omega
            have HZF := Lib.hid (And.intro hzs hf2)
            have F4 := Lib.hid HW4.out.frm.size
            clear HH0 hw6 hf6 hb6 hzs hf2
            go_wp2_with fail
            refine (kept_bytes _ A5 A c5 c n bs HN.out (by have := HC5.out; have := HN.out; omega) (lent_src O6.out).2.1 (HS.out.rds.frm HH.out.frm (fun _ _ x => x)) (by omega)).mono ?_
            rintro e w7 ⟨rfl, n7, rfl⟩
            have O7 : Hid ((w6.drewN n7).ownsRow W4.heap.size 5 1 (.slice A5 (bs.length + 12) c5) (bs.length + 12) (byts (bs ++ marks 12))) := O6.out
            have HH7 := Lib.hid (HH.out.no ((Frm.refl No w6).drewN n7))
            have OV := over_lent O7.out (by have := HN.out; omega)
            rw [HN.out] at OV
            have OV := Lib.hid OV
            go_wp2_with fail
            refine OV.out.mono ?_
            rintro e w8 ⟨rfl, hf8⟩
            have HH8 := Lib.hid (HH7.out.over O7.out F4.out (HN.out ▸ NU.out) (HN.out ▸ NV.out) (HN.out ▸ hf8))
            clear hf8 OV
            have RW : Hid (Calls Try.prog 47 #[.agg #[.int .i64 (m : Int), .slice U ys.length cu, .bool f], .slice A n c] w8 (RWDone w8 m (.slice U ys.length cu) zs f2)) := by
              have h := ref_write w8 m _ ys f HH8.out.row HH8.out.le hm A c n bs (HS.out.frm HH8.out.frm (fun _ _ x => x)) HN.out (by omega)
              rw [← HN.out, HZF.out.1, HZF.out.2] at h
              rw [← HN.out]
              exact h
            have x0 := HH8.out.x.cell 0
            have x1 := HH8.out.x.cell 1
            have x2 := HH8.out.x.cell 2
            clear hgl1 hgl0
            go_wp2_with fail
            refine RW.out.mono ?_
            rintro e w9 ⟨u9, rfl, ho9, hf9, hb9⟩
            have X9 := (HH8.out.no hf9).x
            have d0 := X9.cell 0
            have d1 := X9.cell 1
            have d2 := X9.cell 2
            have e0 := X9.frozen 0
            have e1 := X9.frozen 1
            have e2 := X9.frozen 2
            have WF := Lib.hid (HH8.out.stored ho9 hf9 hb9)
            obtain ⟨U9, c9, rfl⟩ := own_slice ho9
            clear ho9 hf9 hb9 X9 x0 x1 x2
            go_wp2_with fail
            go_meet
            exact ⟨_, _, _, _, WF.out⟩
        · have q1 : (kd : Int) % 6 = 4 := by omega
          clear hq
          as_aux_lemma =>
            go_wp2_with fail
            refine (wZeros HW4.out.wr nn).mono ?_
            rintro e w5 ⟨v5, rfl, hw5, hf5, hb5⟩
            have HH0 := HW4.out.half hw5 hf5 hb5
            obtain ⟨zs, hzs⟩ : ∃ zs, (if wfits m ys f nn = true then ys ++ List.replicate nn.toNat 0 else ys) = zs := ⟨_, rfl⟩
            obtain ⟨f2, hf2⟩ : ∃ b, (!wfits m ys f nn) = b := ⟨_, rfl⟩
            rw [hzs, hf2] at HH0
            have HH := Lib.hid HH0
            have BX5 := Lib.hid (BX.out.frm hf5 (two_far BX.out (by decide) (by decide) HW4.out.wr))
            have RW : Hid (Calls Try.prog 49 #[.agg #[.int .i64 (m : Int), .slice U ys.length cu, .bool f], .int .i64 nn] w5 (RWDone w5 m (.slice U ys.length cu) zs f2)) := by
              have h := ref_zeros w5 m _ ys f HH.out.row HH.out.le hm nn
              rw [hzs, hf2] at h
              exact h
            have y1 := BX5.out.cell 1
            have x0 := HH.out.x.cell 0
            have x1 := HH.out.x.cell 1
            have x2 := HH.out.x.cell 2
            clear HH0 hw5 hf5 hzs hf2 hgl1 hgl0 HW4 BX
            go_wp2_with fail
            refine RW.out.mono ?_
            rintro e w9 ⟨u9, rfl, ho9, hf9, hb9⟩
            have X9 := (HH.out.no hf9).x
            have d0 := X9.cell 0
            have d1 := X9.cell 1
            have d2 := X9.cell 2
            have e0 := X9.frozen 0
            have e1 := X9.frozen 1
            have e2 := X9.frozen 2
            have WF := Lib.hid (HH.out.stored ho9 hf9 hb9)
            obtain ⟨U9, c9, rfl⟩ := own_slice ho9
            clear ho9 hf9 hb9 X9 x0 x1 x2 y1
            go_wp2_with fail
            go_meet
            exact ⟨_, _, _, _, WF.out⟩
        · have q1 : (kd : Int) % 6 = 5 := by omega
          clear hq
          obtain ⟨z, hz, hz2⟩ : ∃ z : Nat, ((ys.length : Int) * 257) % 65536 = (z : Int) ∧ z < 65536 := ⟨ys.length * 257 % 65536, by omega, by omega⟩
          have qb : IntKind.u16.wrap ((ys.length : Int) * 257) = (z : Int) := by rw [IntKind.wrap_u16]; exact hz
          have hb : (ys.length : Int) ≤ 131072 := by have := HLY.out; omega
          have qz : (z : Int) < 65536 := by omega
          have HZ := Lib.hid hz2
          have g0 := HW4.out.x.cell 0
          have g1 := HW4.out.x.cell 1
          clear hz hz2
          as_aux_lemma =>
            go_wp2_with fail
            refine (wSet16 HW4.out.wr nn z HZ.out).mono ?_
            rintro e w5 ⟨rfl, hw5, hf5⟩
            have HH0 := HW4.out.half hw5 hf5 (.inl rfl)
            clear g0 g1
            obtain ⟨zs, hzs⟩ : ∃ zs, (if sfits ys f nn = true then setTwo ys nn.toNat z else ys) = zs := ⟨_, rfl⟩
            obtain ⟨f2, hf2⟩ : ∃ b, (!sfits ys f nn) = b := ⟨_, rfl⟩
            rw [hzs, hf2] at HH0
            have HH := Lib.hid HH0
            have BX5 := Lib.hid (BX.out.frm hf5 (two_far BX.out (by decide) (by decide) HW4.out.wr))
            have RW : Hid (Calls Try.prog 50 #[.agg #[.int .i64 (m : Int), .slice U ys.length cu, .bool f], .int .i64 nn, .int .i64 (z : Int)] w5 (RWDone w5 m (.slice U ys.length cu) zs f2)) := by
              have h := ref_set w5 m _ ys f HH.out.row HH.out.le hm nn z HZ.out
              rw [hzs, hf2] at h
              exact h
            have y1 := BX5.out.cell 1
            have x0 := HH.out.x.cell 0
            have x1 := HH.out.x.cell 1
            have x2 := HH.out.x.cell 2
            clear HH0 hw5 hf5 hzs hf2 hgl1 hgl0 HW4 BX
            go_wp2_with fail
            refine RW.out.mono ?_
            rintro e w9 ⟨u9, rfl, ho9, hf9, hb9⟩
            have X9 := (HH.out.no hf9).x
            have d0 := X9.cell 0
            have d1 := X9.cell 1
            have d2 := X9.cell 2
            have e0 := X9.frozen 0
            have e1 := X9.frozen 1
            have e2 := X9.frozen 2
            have WF := Lib.hid (HH.out.stored ho9 hf9 hb9)
            obtain ⟨U9, c9, rfl⟩ := own_slice ho9
            clear ho9 hf9 hb9 X9 x0 x1 x2 y1
            go_wp2_with fail
            go_meet
            exact ⟨_, _, _, _, WF.out⟩
      case rest =>
        obtain ⟨v', ys', f', u', HW5⟩ := hcut
        clear HW4 BX hgl0 HLY hlm
        obtain ⟨U', cu', rfl, -, hsu, -⟩ := Src.of_own HW5.out.row
        cases f' with
        | false =>
          go_wp2_with fail
          refine (wDone HW5.out.wr).mono ?_
          rintro e w6 ⟨x6, rfl, ho6, hf6⟩
          have O6' : w6.ownsRow wc.heap.size 5 1 x6 (ys' : List UInt8).length (byts ys') := ho6
          obtain ⟨X, cx, rfl, -, hs6, -⟩ := Src.of_own O6'
          have O6 := Lib.hid O6'
          have HW6 := Lib.hid (HW5.out.no hf6)
          have S6 := Lib.hid hs6
          have SU := Lib.hid hsu.rds
          have N1 : Hid (∀ i, (Value.slice X (ys' : List UInt8).length cx).ownBlock = some i → (Value.slice U' ys'.length cu').ownBlock ≠ some i) := by
            intro i hi e
            have h1 := (own_lt O6.out hi).1
            have h2 := (own_lt HW5.out.row e).2
            omega
          have N2 : Hid (∀ i, (Value.slice X (ys' : List UInt8).length cx).ownBlock = some i → v'.ownBlock ≠ some i) := by
            intro i hi e
            have h1 := (own_lt O6.out hi).1
            have h2 := (own_lt HW5.out.wr.own e).2
            omega
          have BS := Lib.hid HW5.out.frm.size
          have F6 := Lib.hid hf6
          clear O6' ho6 hs6 hsu
          have g1 := HW6.out.x.cell 1
          have g2 := HW6.out.x.cell 2
          have QL : Hid (∀ n, Calls Try.prog 34 #[.pointer (some ⟨gw, 0, none⟩)] (w6.drewN n) fun e w'' => e = .returned (.int .i64 (ys'.length : Int)) ∧ ∃ k, w'' = w6.drewN k) :=
            Lib.hid fun n => (wLen (HW6.out.wr.drewN n)).mono fun e w'' ⟨he, hw⟩ => ⟨he, n, hw.symm⟩
          have QF : Hid (∀ n, Calls Try.prog 35 #[.pointer (some ⟨gw, 0, none⟩)] (w6.drewN n) fun e w'' => e = .returned (.bool false) ∧ ∃ k, w'' = w6.drewN k) :=
            Lib.hid fun n => (wFailed (HW6.out.wr.drewN n)).mono fun e w'' ⟨he, hw⟩ => ⟨he, n, hw.symm⟩
          have QS : Hid (∀ n, Calls Try.prog 45 #[.slice X ys'.length cx, .slice U' ys'.length cu'] (w6.drewN n) fun e w'' => e = .returned (.bool true) ∧ ∃ k, w'' = w6.drewN k) := by
            refine Lib.hid fun n => (sames_any (w6.drewN n) X U' cx cu' ys' ys' (S6.out.rds.drewN n) ((SU.out.frm F6.out (fun _ _ x => x)).drewN n) (by have := HW5.out.wr.le; omega)).mono ?_
            rintro e w'' ⟨he, k, hw⟩
            exact ⟨by rw [he]; simp, n + k, by rw [hw, World.drewN_drewN]⟩
          go_wp2_with fail
          go_quiet (first | (go_at_call 34; exact QL.out _) | (go_at_call 35; exact QF.out _) | (go_at_call 45; exact QS.out _))
          go_wp2_with fail
          refine (over_own _ (((Frm.refl No w6).drewN _).own O6.out (fun _ _ x => x)) (by have := HW5.out.wr.le; omega)).mono ?_
          rintro e w7 ⟨rfl, hf7⟩
          have WF := Lib.hid ((HW6.out.no ((Frm.refl No w6).drewN _)).over (((Frm.refl No w6).drewN _).own O6.out (fun _ _ x => x)) BS.out N1.out N2.out hf7)
          clear hf7 g1 g2 QL QF QS
          go_wp2_with fail
          go_roundw
          case rel => exact ⟨j + 1, v', ys', false, _, by omega, by go_num, WF.out⟩
          case measure => simp [intOf]; omega
        | true =>
          go_wp2_with fail
          refine (wDone HW5.out.wr).mono ?_
          rintro e w6 ⟨x6, rfl, ho6, hf6⟩
          have O6' : w6.ownsRow wc.heap.size 5 1 x6 ([] : List UInt8).length (byts []) := ho6
          obtain ⟨X, cx, rfl, -, hs6, -⟩ := Src.of_own O6'
          have O6 := Lib.hid O6'
          have HW6 := Lib.hid (HW5.out.no hf6)
          have S6 := Lib.hid hs6
          have SU := Lib.hid hsu.rds
          have N1 : Hid (∀ i, (Value.slice X ([] : List UInt8).length cx).ownBlock = some i → (Value.slice U' ys'.length cu').ownBlock ≠ some i) := by
            intro i hi e
            have h1 := (own_lt O6.out hi).1
            have h2 := (own_lt HW5.out.row e).2
            omega
          have N2 : Hid (∀ i, (Value.slice X ([] : List UInt8).length cx).ownBlock = some i → v'.ownBlock ≠ some i) := by
            intro i hi e
            have h1 := (own_lt O6.out hi).1
            have h2 := (own_lt HW5.out.wr.own e).2
            omega
          have BS := Lib.hid HW5.out.frm.size
          have F6 := Lib.hid hf6
          clear O6' ho6 hs6 hsu
          have g1 := HW6.out.x.cell 1
          have g2 := HW6.out.x.cell 2
          have QL : Hid (∀ n, Calls Try.prog 34 #[.pointer (some ⟨gw, 0, none⟩)] (w6.drewN n) fun e w'' => e = .returned (.int .i64 (ys'.length : Int)) ∧ ∃ k, w'' = w6.drewN k) :=
            Lib.hid fun n => (wLen (HW6.out.wr.drewN n)).mono fun e w'' ⟨he, hw⟩ => ⟨he, n, hw.symm⟩
          have QF : Hid (∀ n, Calls Try.prog 35 #[.pointer (some ⟨gw, 0, none⟩)] (w6.drewN n) fun e w'' => e = .returned (.bool true) ∧ ∃ k, w'' = w6.drewN k) :=
            Lib.hid fun n => (wFailed (HW6.out.wr.drewN n)).mono fun e w'' ⟨he, hw⟩ => ⟨he, n, hw.symm⟩
          have QS : Hid (∀ n, Calls Try.prog 45 #[.slice X 0 cx, .slice none 0 0] (w6.drewN n) fun e w'' => e = .returned (.bool true) ∧ ∃ k, w'' = w6.drewN k) :=
            Lib.hid fun n => (sames_any (w6.drewN n) X none cx 0 [] [] (S6.out.rds.drewN n) (Rds.nil _ _) (by simp)).mono fun e w'' ⟨he, k, hw⟩ => ⟨he, n + k, by rw [hw, World.drewN_drewN]⟩
          go_wp2_with fail
          go_quiet (first | (go_at_call 34; exact QL.out _) | (go_at_call 35; exact QF.out _) | (go_at_call 45; exact QS.out _))
          go_wp2_with fail
          refine (over_own _ (((Frm.refl No w6).drewN _).own O6.out (fun _ _ x => x)) (by simp)).mono ?_
          rintro e w7 ⟨rfl, hf7⟩
          have WF := Lib.hid ((HW6.out.no ((Frm.refl No w6).drewN _)).over (((Frm.refl No w6).drewN _).own O6.out (fun _ _ x => x)) BS.out N1.out N2.out hf7)
          clear hf7 g1 g2 QL QF QS
          go_wp2_with fail
          go_roundw
          case rel => exact ⟨j + 1, v', ys', true, _, by omega, by go_num, WF.out⟩
          case measure => simp [intOf]; omega
    · go_wp2
      go_ret
      exact ⟨rfl, HW.out.frm⟩
end Go.Proofs.Ytgpnnnjhcjjnmaa
