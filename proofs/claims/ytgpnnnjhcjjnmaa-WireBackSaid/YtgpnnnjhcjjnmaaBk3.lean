/-
  WireBack: the walk.
-/
import Derived.Test.YtgpnnnjhcjjnmaaBk4
import Derived.BigRegion
import Derived.BigQuiet
import Derived.Deep.Cut
import Derived.Deep.CutRange
import Derived.Deep.CutBlock
import Derived.Deep.RegionHeld3
namespace Go.Proofs.Ytgpnnnjhcjjnmaa
open Go.RowKit
attribute [local go_sem] undef
attribute [local irreducible] wpList

theorem blk3 {w : World} {g t : Nat} {x y z : Value} (h : Blk w g t #[x, y, z]) : w.cell? ⟨g, 0, none⟩ = some x ∧ w.cell? ⟨g, 1, none⟩ = some y ∧ w.cell? ⟨g, 2, none⟩ = some z := ⟨h.cell 0, h.cell 1, h.cell 2⟩

set_option maxRecDepth 100000 in
set_option maxHeartbeats 20000000 in
theorem wireBack (w : World) (B : Option Addr) (n d : Nat) (l0 : List Pt) (hn : l0.length = n) (hd : n ≤ d) (h : Parts w B l0) :
    Calls Try.prog 7 #[.slice B n d] w fun e w' => e = .returned (.bool true) ∧ Frm No w w' := by
  obtain ⟨ps, hps⟩ : ∃ l, l = l0.take 50 := ⟨_, rfl⟩
  have hpl : ps.length = min 50 n := by rw [hps, List.length_take, hn]
  have HB : Hid (Parts w B ps) := by
    show Parts w B ps
    rw [hps]
    exact h.take 50
  obtain ⟨k, hk⟩ : ∃ k, ps.length = k := ⟨_, rfl⟩
  have hk1 : k = min 50 n := hk ▸ hpl
  have hk2 : k ≤ 50 := by omega
  obtain ⟨T, hT⟩ : ∃ T, (encs ps).length = T := ⟨_, rfl⟩
  have hT2 : T ≤ 2000 := by
    have := encs_le ps
    omega
  have HK := Lib.hid hk
  have HT := Lib.hid hT
  have HL := Lib.hid (fun j (hj : j ≤ k) => hT ▸ fore_le ps j (hk ▸ hj))
  clear h hps hpl hk hT hn
  have HK1 := Lib.hid hk1
  clear hk1
  go_enter Try.func7, Try.ntmps7
  go_wp2_with fail
  refine (awake w).mono ?_
  rintro e w1 ⟨rfl, f1⟩
  have F1 := Lib.hid f1
  clear f1
  go_upto_region 3 with fail
  go_cut [0] from 24 to 28 (fun a wx => a = .slice B k d ∧ wx = w1)
  case first =>
    by_cases hb : n ≤ 50
    · have c1 : (n : Int) ≤ 50 := by omega
      have c2 : (n : Int) ≤ d := by omega
      have E := Lib.hid (show k = n by have := HK1.out; omega)
      go_wp2_with fail
      go_meet
      exact ⟨by rw [E.out], rfl⟩
    · have c1 : ¬ (n : Int) ≤ 50 := by omega
      have c2 : (50 : Int) ≤ d := by omega
      have E := Lib.hid (show k = 50 by have := HK1.out; omega)
      go_wp2_with fail
      go_meet
      exact ⟨by rw [E.out] <;> rfl, rfl⟩
  case rest =>
  obtain ⟨rfl, rfl⟩ := hcut
  clear HK1 hd
  go_wp2_with fail
  go_loopw [3, 31] (fun tot i wr => ∃ j : Nat, j ≤ k ∧ i = .int .i64 (j : Int) ∧ tot = .int .i64 ((fore ps j).length : Int) ∧ Hid (Frm No w wr)) (fun _ i _ => k - (intOf i).toNat)
  case atStart => exact ⟨0, Nat.zero_le _, rfl, rfl, F1.out⟩
  case round =>
    obtain ⟨j, hj, rfl, rfl, HF⟩ := hrel
    by_cases hlt : j < k
    · obtain ⟨ad, p, A, c, pk, pn, pm, s, rfl, h0, h1', h2', hs40, hpc, hpi⟩ := part_of HB.out HF.out HK.out hlt
      have PI := Lib.hid hpi
      have SZ := Lib.hid (fun W => hpi.size W)
      obtain ⟨L, hL⟩ : ∃ L, (fore ps j).length = L := ⟨_, rfl⟩
      have hL2 : L ≤ T := hL ▸ HL.out j hj
      have HNX : Hid ((fore ps (j + 1)).length = L + s) := by
        show (fore ps (j + 1)).length = L + s
        rw [hpi.next, hL]
      rw [hL]
      clear hpi hL
      go_upto_region 8 with fail
      have BX := Lib.hid (Blk.new wr 63 #[.int .u8 (pk : Int), .int .u32 (pn : Int), .slice A pm c])
      obtain ⟨b0, b1, b2⟩ := blk3 BX.out
      go_wp2_with fail
      refine (SZ.out _).mono ?_
      rintro e w2 ⟨rfl, hf⟩
      have HF2 := Lib.hid ((HF.out.alloc _).new0 hf)
      clear hf h0 h1' h2' b0 b1 b2
      go_wp2
      go_roundw
      case rel => exact ⟨j + 1, by omega, by go_num, by rw [HNX.out]; go_num, HF2.out⟩
      case measure => simp [intOf]; omega
    · have ejk : k = j := by omega
      subst ejk
      have hTT : Hid ((fore ps k).length = T) := by
        show (fore ps k).length = T
        rw [← HT.out, ← HK.out, fore_all]
      rw [hTT.out]
      go_wp2
      obtain ⟨W2, hW2⟩ : ∃ W, wr.alloc (.cells #[.int .i64 0, .int .i64 1] 3) = W := ⟨_, rfl⟩
      have F2 : Hid (Frm No w W2) := by
        show Frm No w W2
        rw [← hW2]
        exact HF.out.alloc _
      have B2 : Hid (Blk W2 wr.heap.size 3 #[.int .i64 0, .int .i64 1]) := by
        show Blk W2 _ _ _
        rw [← hW2]
        exact Blk.new _ _ _
      rw [hW2]
      obtain ⟨g, hg⟩ : ∃ g, wr.heap.size = g := ⟨_, rfl⟩
      rw [hg] at B2 ⊢
      clear hW2 HF F1 hg
      go_loopw [42] (fun i wq => ∃ a : Nat, a ≤ 2 ∧ i = .int .i64 (a : Int) ∧ Hid (Frm No w wq) ∧ Hid (Blk wq g 3 #[.int .i64 0, .int .i64 1])) (fun i _ => 2 - (intOf i).toNat)
      case atStart => exact ⟨0, by omega, rfl, F2, B2⟩
      case round =>
        obtain ⟨a, ha, rfl, HF, HG⟩ := hrel
        clear F2 B2
        by_cases ha2 : a < 2
        · have q0 : (a : Int) < 2 := by omega
          have hca : wr.cell? ⟨g, a, none⟩ = some (.int .i64 (a : Int)) := by
            rw [HG.out.cell]
            rcases (show a = 0 ∨ a = 1 by omega) with rfl | rfl <;> rfl
          obtain ⟨m, hm⟩ : ∃ m, T - a = m := ⟨_, rfl⟩
          have hm2 : m ≤ 2000 := by omega
          have HM := Lib.hid hm
          clear hm
          go_upto_region 13 with fail
          go_cut [8, 9] from 46 to 53 (fun s8 s9 wx => ∃ gw : Nat, s8 = .pointer (some ⟨gw, 0, none⟩) ∧ s9 = .int .i64 0 ∧ Hid (WSt w wx gw (.slice none 0 0) m ps 0 false) ∧ Hid (Blk wx g 3 #[.int .i64 0, .int .i64 1]))
          case first =>
            by_cases hTa : T < a
            · have q1 : ¬ 0 ≤ (T : Int) - a := by omega
              obtain rfl : m = 0 := by have := HM.out; omega
              go_wp2_with fail
              refine (newWriter _ 0 (by omega)).mono ?_
              rintro e w3 ⟨gw, rfl, hgw, hw3, hf3⟩
              have W3 : Hid (WSt w w3 gw (.slice none 0 0) 0 ps 0 false) := ⟨[], hw3, by simp [fore_zero], fun _ => rfl, HF.out.new0 hf3, Nat.le_trans HF.out.size hgw, fun i hi => by cases hi⟩
              have G3 := Lib.hid (HG.out.frm hf3 (fun x => x))
              clear hw3 hf3 hgw
              go_wp2_with fail
              go_meet
              exact ⟨gw, rfl, rfl, W3, G3⟩
            · have q1 : 0 ≤ (T : Int) - a := by omega
              have q3 : (T : Int) - a = (m : Int) := by have := HM.out; omega
              go_wp2_with fail
              refine (newWriter _ m (by omega)).mono ?_
              rintro e w3 ⟨gw, rfl, hgw, hw3, hf3⟩
              have W3 : Hid (WSt w w3 gw (.slice none 0 0) m ps 0 false) := ⟨[], hw3, by simp [fore_zero], fun _ => rfl, HF.out.new0 hf3, Nat.le_trans HF.out.size hgw, fun i hi => by cases hi⟩
              have G3 := Lib.hid (HG.out.frm hf3 (fun x => x))
              clear hw3 hf3 hgw
              go_wp2_with fail
              go_meet
              exact ⟨gw, rfl, rfl, W3, G3⟩
          case rest =>
            obtain ⟨gw, rfl, rfl, WS, BG⟩ := hcut
            clear HF HG hca
            clear q0
            go_wp2_with fail
            go_loopw [58] (fun i wq => ∃ (j : Nat) (v : Value) (f : Bool), j ≤ k ∧ i = .int .i64 (j : Int) ∧ Hid (WSt w wq gw v m ps j f) ∧ Hid (Blk wq g 3 #[.int .i64 0, .int .i64 1])) (fun i _ => k - (intOf i).toNat)
            case atStart => exact ⟨0, _, false, Nat.zero_le _, rfl, WS, BG⟩
            case round =>
              obtain ⟨j, v, f, hj, rfl, HW, HG⟩ := hrel
              clear WS BG
              by_cases hlt : j < k
              · have q0 : (j : Int) < k := by omega
                obtain ⟨ys, hw, hfm, hys, hF, hgw, hv⟩ := HW.out
                obtain ⟨ad, p, A, c, pk, pn, pm, s, rfl, h0, h1', h2', hs40, hpc, hpi⟩ := part_of HB.out hF HK.out hlt
                have PI := Lib.hid hpi
                have HX := Lib.hid (And.intro hfm (And.intro hys (And.intro hF (And.intro hgw hv))))
                have WR := Lib.hid hw
                clear hpi hw hfm hys hF hgw hv
                go_upto_region 19 with fail
                have W4X : ∃ gl W4, wr.heap.size = gl ∧ wr.alloc (.cells #[.int .u8 (pk : Int), .int .u32 (pn : Int), .slice A pm c] 63) = W4 ∧ Hid (Blk W4 gl 63 #[.int .u8 (pk : Int), .int .u32 (pn : Int), .slice A pm c]) ∧ Hid (Frm No wr W4) :=
                  ⟨_, _, rfl, rfl, Blk.new _ _ _, (Frm.refl No _).alloc _⟩
                obtain ⟨gl, W4, hgl, hW4, BX, FX⟩ := W4X
                have WR4 := Lib.hid (WR.out.frm FX.out (fun x => x) (fun _ _ x => x))
                have HG4 := Lib.hid (HG.out.frm FX.out (fun x => x))
                rw [hW4, hgl]
                clear hW4 hgl HG WR h0 h1' h2'
                obtain ⟨b0, b1, b2⟩ := blk3 BX.out
                rcases (show pk % 4 = 0 ∨ pk % 4 = 1 ∨ pk % 4 = 2 ∨ pk % 4 = 3 by omega) with hq | hq | hq | hq
                · have q1 : (pk : Int) % 4 = 0 := by omega
                  have E := Lib.hid (PI.out.enc0 hq)
                  clear hq
                  obtain ⟨x, hx⟩ : ∃ x, pn % 256 = x := ⟨_, rfl⟩
                  have q2 : (pn : Int) % 256 = (x : Int) := by omega
                  have q3 : x < 256 := by omega
                  rw [hx] at E
                  have Q3 := Lib.hid q3
                  clear hx q3
                  as_aux_lemma =>
                    go_wp2_with fail
                    refine (wU8 WR4.out x Q3.out).mono ?_
                    intro e w5 hd
                    obtain ⟨v5, f5, rfl, HW5, HG5⟩ := w_step HX.out FX.out WR4.out HG4.out PI.out E.out hd
                    clear hd
                    go_wp2_with fail
                    go_roundw
                    case rel => exact ⟨j + 1, v5, f5, by omega, by go_num, HW5, HG5⟩
                    case measure => simp [intOf]; omega
                · have q1 : (pk : Int) % 4 = 1 := by omega
                  have E := Lib.hid (PI.out.enc1 hq)
                  clear hq
                  obtain ⟨x, hx⟩ : ∃ x, pn % 65536 = x := ⟨_, rfl⟩
                  have q2 : IntKind.u16.wrap (pn : Int) = (x : Int) := by rw [IntKind.wrap_u16]; omega
                  have q3 : x < 65536 := by omega
                  rw [hx] at E
                  have Q3 := Lib.hid q3
                  clear hx q3
                  as_aux_lemma =>
                    go_wp2_with fail
                    refine (wU16 WR4.out x Q3.out).mono ?_
                    intro e w5 hd
                    obtain ⟨v5, f5, rfl, HW5, HG5⟩ := w_step HX.out FX.out WR4.out HG4.out PI.out E.out hd
                    clear hd
                    go_wp2_with fail
                    go_roundw
                    case rel => exact ⟨j + 1, v5, f5, by omega, by go_num, HW5, HG5⟩
                    case measure => simp [intOf]; omega
                · have q1 : (pk : Int) % 4 = 2 := by omega
                  have E := Lib.hid (PI.out.enc2 hq)
                  clear hq
                  as_aux_lemma =>
                    go_wp2_with fail
                    refine (wU32 WR4.out pn PI.out.nlt).mono ?_
                    intro e w5 hd
                    obtain ⟨v5, f5, rfl, HW5, HG5⟩ := w_step HX.out FX.out WR4.out HG4.out PI.out E.out hd
                    clear hd
                    go_wp2_with fail
                    go_roundw
                    case rel => exact ⟨j + 1, v5, f5, by omega, by go_num, HW5, HG5⟩
                    case measure => simp [intOf]; omega
                · have q1 : (pk : Int) % 4 = 3 := by omega
                  have E := Lib.hid (PI.out.enc3 hq)
                  have q2 : (s : Int) ≤ c := by have := E.out.2; omega
                  have SZ := Lib.hid (fun W => PI.out.size W)
                  have PC := Lib.hid (fun W (hW : Frm No W4 W) => blk3 (BX.out.frm hW (fun x => x)))
                  clear hq
                  have S1 := Lib.hid (fun W (hW : Frm No W4 W) => PI.out.src_take (((HX.out.2.2.1).new0 FX.out).new0 hW))
                  as_aux_lemma =>
                    go_upto_region 20 with fail
                    go_region_held3 (fun W => W.cell? ⟨gl, 0, none⟩ = some (.int .u8 (pk : Int)) ∧ W.cell? ⟨gl, 1, none⟩ = some (.int .u32 (pn : Int)) ∧ W.cell? ⟨gl, 2, none⟩ = some (.slice A pm c)) (go_keep)
                      (first
                        | (go_at_call 36; refine (SZ.out _).mono ?_; rintro e w6 ⟨rfl, hf6⟩; obtain ⟨d0, d1, d2⟩ := PC.out _ ((Frm.refl No W4).drew.new0 hf6); have K6 := Lib.hid ((Frm.refl No W4).drew.new0 hf6); clear hf6)
                        | (go_at_call 22; refine (wBytes2 (WR4.out.frm K6.out (fun x => x) (fun _ _ x => x)) (S1.out _ K6.out) (by rw [List.length_take]; have := PI.out.m; have := E.out.2; omega) (fun h0 e => by have := PI.out.blk _ e (by have := PI.out.m; have := E.out.2; omega); have := HX.out.2.2.2.1; omega)).mono ?_; intro e w7 hd; obtain ⟨x0, x1, x2⟩ := blk3 (box_far (BX.out.frm K6.out (fun x => x)) (WR4.out.frm K6.out (fun x => x) (fun _ _ x => x)) hd); obtain ⟨v5, f5, rfl, HW5, HG5⟩ := w_step HX.out (FX.out.new0 K6.out) (WR4.out.frm K6.out (fun x => x) (fun _ _ x => x)) (HG4.out.frm K6.out (fun x => x)) PI.out E.out.1 hd; clear hd))
                    all_goals
                      go_wp2_with fail
                      go_roundw
                      case rel => exact ⟨j + 1, v5, f5, by omega, by go_num, HW5, HG5⟩
                      case measure => simp [intOf]; omega
              · have ejk : k = j := by omega
                subst ejk
                have hTT : Hid ((fore ps k).length = T) := by
                  show (fore ps k).length = T
                  rw [← HT.out, ← HK.out, fore_all]
                obtain ⟨ys, hw, hfm, hys, hF, hgw, hv⟩ := HW.out
                rw [hTT.out] at hfm
                have hyl : f = false → ys = encs ps := fun h => by rw [hys h, ← HK.out, fore_all]
                have HX := Lib.hid (And.intro hyl (And.intro hF (And.intro hgw hv)))
                have WR := Lib.hid hw
                clear hw hys hF hgw hv hyl HW
                by_cases hmT : m < T
                · obtain rfl : f = true := by rw [hfm]; exact decide_eq_true hmT
                  clear hfm
                  obtain rfl : a = 1 := by have := HM.out; omega
                  have q1 : (0 : Int) < T := by omega
                  go_wp2_with fail
                  refine (wDone WR.out).mono ?_
                  rintro e w5 ⟨x, rfl, hx, f5⟩
                  have F5 := Lib.hid (HX.out.2.1.new0 f5)
                  have W5 := Lib.hid (WR.out.frm f5 (fun x => x) (fun _ _ x => x))
                  have G5 := Lib.hid (HG.out.frm f5 (fun x => x))
                  clear f5 hx HG WR
                  go_wp2_with fail
                  refine (wFailed W5.out).mono ?_
                  rintro e w6 ⟨rfl, rfl⟩
                  go_wp2_with fail
                  go_roundw
                  case rel => exact ⟨1 + 1, by omega, by go_num, F5.out, G5.out⟩
                  case measure => simp [intOf]
                · obtain rfl : f = false := by rw [hfm]; exact decide_eq_false hmT
                  clear hfm
                  obtain rfl : ys = encs ps := HX.out.1 rfl
                  obtain rfl : m = T := by have := HM.out; omega
                  go_wp2_with fail
                  refine (wDone WR.out).mono ?_
                  rintro e w5 ⟨x, rfl, hx, f5⟩
                  have F5 := Lib.hid (HX.out.2.1.new0 f5)
                  have W5 := Lib.hid (WR.out.frm f5 (fun x => x) (fun _ _ x => x))
                  have G5 := Lib.hid (HG.out.frm f5 (fun x => x))
                  have O5 : w5.ownsRow wr.heap.size 5 1 x (encs ps).length (byts (encs ps)) := hx
                  rw [HT.out] at O5
                  obtain ⟨X, cx, rfl, -, hs5, -⟩ := Src.of_own O5
                  have hcx : (m : Int) ≤ cx := by have := hs5.le; have := HT.out; omega
                  have OW5 := Lib.hid (own_mono O5 (Nat.zero_le _))
                  clear f5 hx HG WR O5 hs5
                  have HAM : Hid (a = 0 ∨ m = 0) := Lib.hid (by have := HM.out; omega)
                  go_upto_region 29 with fail
                  go_cut [103] from 98 to 103 (fun t wx => t = .bool false ∧ wx = w5)
                  case first =>
                    by_cases ha0 : a = 0
                    · subst ha0
                      go_wp2_with fail
                      go_meet
                      exact ⟨rfl, rfl⟩
                    · have q5 : ¬ (0 : Int) < m := by have := HAM.out; omega
                      have q6 : decide (0 < m) = false := decide_eq_false (by have := HAM.out; omega)
                      obtain rfl : a = 1 := by omega
                      go_wp2_with fail
                      go_meet
                      exact ⟨rfl, rfl⟩
                  case rest =>
                  obtain ⟨rfl, rfl⟩ := hcut
                  go_wp2_with fail
                  refine (wLenN W5.out HT.out).mono ?_
                  rintro e w6 ⟨rfl, rfl⟩
                  go_wp2_with fail
                  go_loopw [125] (fun i wq => ∃ b : Nat, b ≤ 2 ∧ i = .int .i64 (b : Int) ∧ Hid (Frm No w wq) ∧ Hid (wq.ownsRow 0 5 1 (.slice X m cx) m (byts (encs ps))) ∧ Hid (Blk wq g 3 #[.int .i64 0, .int .i64 1])) (fun i _ => 2 - (intOf i).toNat)
                  case atStart => exact ⟨0, by omega, rfl, F5.out, OW5.out, G5.out⟩
                  case round =>
                    obtain ⟨b, hb, rfl, HF, HO, HG⟩ := hrel
                    clear F5 W5 G5 OW5
                    by_cases hb2 : b < 2
                    · have q0 : (b : Int) < 2 := by omega
                      obtain ⟨mm, hmm⟩ : ∃ mm, m - b = mm := ⟨_, rfl⟩
                      have HMM := Lib.hid hmm
                      have hmmc : (mm : Int) ≤ cx := by omega
                      have hmm2 : mm ≤ 2000 := by omega
                      have hmt : mm ≤ m := by omega
                      clear hmm
                      go_upto_region 37 with fail
                      go_cut [14, 15] from 128 to 137 (fun s14 s15 wx => ∃ (gr : Nat) (vr : Value), s14 = .pointer (some ⟨gr, 0, none⟩) ∧ s15 = .int .i64 0 ∧ Hid (RSt w wx gr vr mm ps 0 false) ∧ Hid (wx.ownsRow 0 5 1 (.slice X m cx) m (byts (encs ps))) ∧ Hid (Blk wx g 3 #[.int .i64 0, .int .i64 1]))
                      case first =>
                        have NR := Lib.hid (fun W (hW : Frm No wr W) => newReader_m W X cx mm ((encs ps).take mm) (by rw [List.length_take, HT.out]; omega) ((Rds.of_own (HT.out ▸ hW.own HO.out (fun _ _ x => x))).take mm) (by omega))
                        by_cases hTb : m < b
                        · have q1 : ¬ 0 ≤ (m : Int) - b := by omega
                          obtain rfl : mm = 0 := by have := HMM.out; omega
                          go_wp2_with fail
                          refine (NR.out _ (Frm.refl _ _)).mono ?_
                          rintro e w7 ⟨gr, vr, rfl, hgr, -, hrd, hf7⟩
                          have RS : Hid (RSt w w7 gr vr 0 ps 0 false) := ⟨0, hrd, by simp [fore_zero], fun _ => by simp [fore_zero], HF.out.new0 hf7, Nat.le_trans HF.out.size hgr⟩
                          have O7 := Lib.hid (hf7.own HO.out (fun _ _ x => x))
                          have G7 := Lib.hid (HG.out.frm hf7 (fun x => x))
                          clear hf7 hrd hgr
                          go_wp2_with fail
                          go_meet
                          exact ⟨gr, vr, rfl, rfl, RS, O7, G7⟩
                        · have q1 : 0 ≤ (m : Int) - b := by omega
                          have q3 : (m : Int) - b = (mm : Int) := by have := HMM.out; omega
                          go_wp2_with fail
                          refine (NR.out _ (Frm.refl _ _)).mono ?_
                          rintro e w7 ⟨gr, vr, rfl, hgr, -, hrd, hf7⟩
                          have RS : Hid (RSt w w7 gr vr mm ps 0 false) := ⟨0, hrd, by simp [fore_zero], fun _ => by simp [fore_zero], HF.out.new0 hf7, Nat.le_trans HF.out.size hgr⟩
                          have O7 := Lib.hid (hf7.own HO.out (fun _ _ x => x))
                          have G7 := Lib.hid (HG.out.frm hf7 (fun x => x))
                          clear hf7 hrd hgr
                          go_wp2_with fail
                          go_meet
                          exact ⟨gr, vr, rfl, rfl, RS, O7, G7⟩
                      case rest =>
                        obtain ⟨gr, vr, rfl, rfl, RS, OX, BG⟩ := hcut
                        clear HF HO HG
                        clear q0
                        go_wp2_with fail
                        go_loopw [16, 142] (fun at_ i wq => ∃ (j : Nat) (f : Bool), j ≤ k ∧ i = .int .i64 (j : Int) ∧ at_ = .int .i64 ((fore ps j).length : Int) ∧ Hid (RSt w wq gr vr mm ps j f) ∧ Hid (wq.ownsRow 0 5 1 (.slice X m cx) m (byts (encs ps))) ∧ Hid (Blk wq g 3 #[.int .i64 0, .int .i64 1])) (fun _ i _ => k - (intOf i).toNat)
                        case atStart => exact ⟨0, false, Nat.zero_le _, rfl, by rw [fore_zero]; rfl, RS, OX, BG⟩
                        case round =>
                          obtain ⟨j, f, hj, rfl, rfl, HR, HO, HG⟩ := hrel
                          clear RS OX BG
                          by_cases hlt : j < k
                          · have q0 : (j : Int) < k := by omega
                            obtain ⟨kk, hrd, hfm, hkk, hF, hgr⟩ := HR.out
                            obtain ⟨ad, p, A, c, pk, pn, pm, s, rfl, h0, h1', h2', hs40, hpc, hpi⟩ := part_of HB.out hF HK.out hlt
                            obtain ⟨L, hL⟩ : ∃ L, (fore ps j).length = L := ⟨_, rfl⟩
                            have hLs : L + s ≤ m := by have := hpi.next; have := HL.out (j + 1) hlt; omega
                            have HNX : Hid ((fore ps (j + 1)).length = L + s) := by
                              show (fore ps (j + 1)).length = L + s
                              rw [hpi.next, hL]
                            have PI := Lib.hid hpi
                            have SZ := Lib.hid (fun W => hpi.size W)
                            have HLL := Lib.hid hL
                            have HX := Lib.hid (And.intro hfm (And.intro hkk (And.intro hF hgr)))
                            have RD := Lib.hid hrd
                            have HFL : Hid (f = decide (mm < L)) := by
                              show f = decide (mm < L)
                              rw [← hL]
                              exact hfm
                            rw [hL]
                            clear hpi hrd hfm hkk hF hgr hL HR
                            go_upto_region 44 with fail
                            have W4X : ∃ gl W4, wr.heap.size = gl ∧ wr.alloc (.cells #[.int .u8 (pk : Int), .int .u32 (pn : Int), .slice A pm c] 63) = W4 ∧ Hid (Blk W4 gl 63 #[.int .u8 (pk : Int), .int .u32 (pn : Int), .slice A pm c]) ∧ Hid (Frm No wr W4) :=
                              ⟨_, _, rfl, rfl, Blk.new _ _ _, (Frm.refl No _).alloc _⟩
                            obtain ⟨gl, W4, hgl, hW4, BX, FX⟩ := W4X
                            rw [hW4, hgl]
                            clear hW4 hgl h0 h1' h2'
                            obtain ⟨f2, hf2⟩ : ∃ f2, decide (mm < L + s) = f2 := ⟨_, rfl⟩
                            have HF2 := Lib.hid hf2
                            clear hf2
                            have PC := Lib.hid (fun W (hW : Frm No W4 W) => blk3 (BX.out.frm hW (fun x => x)))
                            have RC := Lib.hid (fun W (hW : Frm No W4 W) => RD.out.frm (FX.out.new0 hW) (fun x => x) (fun _ _ x => x))
                            go_cut [19] from 146 to 163 (fun t wx => t = .bool (!f2) ∧ Hid (Frm No W4 wx))
                            case first =>
                              obtain ⟨b0, b1, b2⟩ := PC.out _ (Frm.refl No W4)
                              by_cases hTb : m < b
                              · have q1 : ¬ (L : Int) + s ≤ (m : Int) - b := by omega
                                obtain rfl : s = 0 := by omega
                                obtain rfl : f2 = false := by rw [← HF2.out]; exact decide_eq_false (by omega)
                                obtain rfl : f = false := by rw [HFL.out]; exact decide_eq_false (by omega)
                                clear HFL
                                as_aux_lemma =>
                                  go_wp2_with fail
                                  refine (SZ.out _).mono ?_
                                  rintro e v1 ⟨rfl, hf⟩
                                  have K1 := Lib.hid ((Frm.refl No W4).new0 hf)
                                  clear hf b0 b1 b2
                                  obtain ⟨b0, b1, b2⟩ := PC.out _ K1.out
                                  go_wp2_with fail
                                  refine (SZ.out _).mono ?_
                                  rintro e v2 ⟨rfl, hf⟩
                                  have K2 := Lib.hid (K1.out.new0 hf)
                                  clear hf b0 b1 b2
                                  obtain ⟨b0, b1, b2⟩ := PC.out _ K2.out
                                  go_wp2_with fail
                                  refine (rFailed (RC.out _ K2.out)).mono ?_
                                  rintro e v9 ⟨rfl, rfl⟩
                                  go_wp2_with fail
                                  go_meet
                                  exact ⟨by first | rfl | exact congrArg Value.bool (decide_eq_false (by omega)), K2.out⟩
                              · by_cases hq : mm < L + s
                                · have q1 : ¬ (L : Int) + s ≤ (m : Int) - b := by have := HMM.out; omega
                                  obtain rfl : f2 = true := by rw [← HF2.out]; exact decide_eq_true hq
                                  by_cases hs0 : s = 0
                                  · subst hs0
                                    obtain rfl : f = true := by rw [HFL.out]; exact decide_eq_true (by omega)
                                    clear HFL
                                    as_aux_lemma =>
                                      go_wp2_with fail
                                      refine (SZ.out _).mono ?_
                                      rintro e v1 ⟨rfl, hf⟩
                                      have K1 := Lib.hid ((Frm.refl No W4).new0 hf)
                                      clear hf b0 b1 b2
                                      obtain ⟨b0, b1, b2⟩ := PC.out _ K1.out
                                      go_wp2_with fail
                                      refine (SZ.out _).mono ?_
                                      rintro e v2 ⟨rfl, hf⟩
                                      have K2 := Lib.hid (K1.out.new0 hf)
                                      clear hf b0 b1 b2
                                      obtain ⟨b0, b1, b2⟩ := PC.out _ K2.out
                                      go_wp2_with fail
                                      refine (rFailed (RC.out _ K2.out)).mono ?_
                                      rintro e v9 ⟨rfl, rfl⟩
                                      go_wp2_with fail
                                      go_meet
                                      exact ⟨by first | rfl | exact congrArg Value.bool (decide_eq_false (by omega)), K2.out⟩
                                  · have q2 : ((s : Int) == 0) = false := by simp; omega
                                    have q3 : ¬ (s : Int) = 0 := by omega
                                    clear hs0
                                    as_aux_lemma =>
                                      go_wp2_with fail
                                      refine (SZ.out _).mono ?_
                                      rintro e v1 ⟨rfl, hf⟩
                                      have K1 := Lib.hid ((Frm.refl No W4).new0 hf)
                                      clear hf b0 b1 b2
                                      obtain ⟨b0, b1, b2⟩ := PC.out _ K1.out
                                      go_wp2_with fail
                                      refine (SZ.out _).mono ?_
                                      rintro e v2 ⟨rfl, hf⟩
                                      have K2 := Lib.hid (K1.out.new0 hf)
                                      clear hf b0 b1 b2
                                      obtain ⟨b0, b1, b2⟩ := PC.out _ K2.out
                                      go_wp2_with fail
                                      go_meet
                                      exact ⟨by first | rfl | exact congrArg Value.bool (decide_eq_false (by omega)), K2.out⟩
                                · have q1 : (L : Int) + s ≤ (m : Int) - b := by have := HMM.out; omega
                                  obtain rfl : f2 = false := by rw [← HF2.out]; exact decide_eq_false hq
                                  clear hq
                                  as_aux_lemma =>
                                    go_wp2_with fail
                                    refine (SZ.out _).mono ?_
                                    rintro e v1 ⟨rfl, hf⟩
                                    have K1 := Lib.hid ((Frm.refl No W4).new0 hf)
                                    clear hf b0 b1 b2
                                    obtain ⟨b0, b1, b2⟩ := PC.out _ K1.out
                                    go_wp2_with fail
                                    go_meet
                                    exact ⟨rfl, K1.out⟩
                            case rest =>
                              obtain ⟨rfl, HC⟩ := hcut
                              have RD5 := Lib.hid (RC.out _ HC.out)
                              have BX5 := Lib.hid (BX.out.frm HC.out (fun x => x))
                              have HO5 := Lib.hid ((FX.out.new0 HC.out).own HO.out (fun _ _ x => x))
                              have HG5 := Lib.hid (HG.out.frm (FX.out.new0 HC.out) (fun x => x))
                              have F5 := Lib.hid (HX.out.2.2.1.new0 (FX.out.new0 HC.out))
                              clear RC RD BX HO HG FX HC PC
                              obtain ⟨b0, b1, b2⟩ := blk3 BX5.out
                              go_wp2_with fail
                              refine (rFailed RD5.out).mono ?_
                              rintro e v9 ⟨rfl, rfl⟩
                              have hmT' : mm ≤ (encs ps).length := by rw [HT.out]; exact hmt
                              have RG : Hid (∀ W, Frm No wc W → ∀ (w' : World) (n : Int), n = (s : Int) → Rd w' gr vr ((encs ps).take mm) (rAt ((encs ps).take mm) kk f n) (!fits ((encs ps).take mm) kk f n) → Frm (One gr) W w' → RGo w w' gr vr mm ps j s L (.slice X m cx) m g gl #[.int .i64 0, .int .i64 1] #[.int .u8 (pk : Int), .int .u32 (pn : Int), .slice A pm c]) :=
                                Lib.hid fun W hW w' n hn hr hf => r_go PI.out hmT' HLL.out HX.out.1 HX.out.2.1 (F5.out.new0 hW) HX.out.2.2.2 hn (RD5.out.frm hW (fun x => x) (fun _ _ x => x)) (hW.own HO5.out (fun _ _ x => x)) (HG5.out.frm hW (fun x => x)) (BX5.out.frm hW (fun x => x)) hr hf
                              have RO : Hid (∀ n : Int, n = (s : Int) → f2 = false → rOut ((encs ps).take mm) kk f n = p.enc) :=
                                Lib.hid fun n hn h => by
                                  have := r_out PI.out.lt (by rw [PI.out.is]; exact PI.out.s) HX.out.1 HX.out.2.1 hn (by rw [HLL.out, HF2.out]; exact h)
                                  rw [PI.out.is] at this
                                  exact this
                              clear hmT'
                              go_upto_block 11 with fail
                              go_cut [21] from 166 to 201 (fun t wx => ∃ sm : Bool, t = .bool sm ∧ Hid (f2 = false → sm = true) ∧ Hid (RGo w wx gr vr mm ps j s L (.slice X m cx) m g gl #[.int .i64 0, .int .i64 1] #[.int .u8 (pk : Int), .int .u32 (pn : Int), .slice A pm c]))
                              case first =>
                                rcases (show pk % 4 = 0 ∨ pk % 4 = 1 ∨ pk % 4 = 2 ∨ pk % 4 = 3 by omega) with hq | hq | hq | hq
                                · have q1 : (pk : Int) % 4 = 0 := by omega
                                  obtain ⟨x, hx⟩ : ∃ x, pn % 256 = x := ⟨_, rfl⟩
                                  obtain ⟨y, hy⟩ : ∃ y, be (rOut ((encs ps).take mm) kk f 1) = y := ⟨_, rfl⟩
                                  have ES : Hid ((1 : Int) = (s : Int)) := by
                                    have h1 := PI.out.s
                                    rw [PI.out.enc0 hq, digs_len] at h1
                                    show (1 : Int) = s
                                    omega
                                  have YX : Hid (f2 = false → y = x) := by
                                    intro h
                                    rw [← hy, RO.out 1 ES.out h, PI.out.enc0 hq, hx, be_digs1 x (by have := PI.out.nlt; omega)]
                                  have CL : Hid (∀ W, Frm No wc W → Calls Try.prog 27 #[.pointer (some ⟨gr, 0, none⟩)] W fun e w' => e = .returned (.int .u8 (y : Int)) ∧ RGo w w' gr vr mm ps j s L (.slice X m cx) m g gl #[.int .i64 0, .int .i64 1] #[.int .u8 (pk : Int), .int .u32 (pn : Int), .slice A pm c]) :=
                                    Lib.hid fun W hW => (rU8 (RD5.out.frm hW (fun x => x) (fun _ _ x => x))).mono fun e w' ⟨he, hr, hf⟩ => ⟨hy ▸ he, RG.out W hW w' 1 ES.out hr hf⟩
                                  have q2 : IntKind.u8.wrap (pn : Int) = (x : Int) := by rw [IntKind.wrap_u8]; omega
                                  clear hq hx hy RG RO
                                  as_aux_lemma =>
                                    go_wp2_with fail
                                    go_region_held3 (fun W => W.cell? ⟨gl, 0, none⟩ = some (.int .u8 (pk : Int)) ∧ W.cell? ⟨gl, 1, none⟩ = some (.int .u32 (pn : Int)) ∧ W.cell? ⟨gl, 2, none⟩ = some (.slice A pm c)) (go_keep)
                                      ((go_at_call 27; refine (CL.out _ (Frm.refl No wc).drew).mono ?_; rintro e w8 ⟨rfl, hgo⟩; obtain ⟨d0, d1, d2⟩ := blk3 hgo.box; have GO := Lib.hid hgo; clear hgo))
                                    all_goals
                                      go_wp2_with fail
                                      go_meet
                                      exact ⟨_, rfl, fun h => by rw [YX.out h]; simp, GO.out⟩
                                · have q1 : (pk : Int) % 4 = 1 := by omega
                                  obtain ⟨x, hx⟩ : ∃ x, pn % 65536 = x := ⟨_, rfl⟩
                                  obtain ⟨y, hy⟩ : ∃ y, be (rOut ((encs ps).take mm) kk f 2) = y := ⟨_, rfl⟩
                                  have ES : Hid ((2 : Int) = (s : Int)) := by
                                    have h1 := PI.out.s
                                    rw [PI.out.enc1 hq, digs_len] at h1
                                    show (2 : Int) = s
                                    omega
                                  have YX : Hid (f2 = false → y = x) := by
                                    intro h
                                    rw [← hy, RO.out 2 ES.out h, PI.out.enc1 hq, hx, be_digs2 x (by have := PI.out.nlt; omega)]
                                  have CL : Hid (∀ W, Frm No wc W → Calls Try.prog 28 #[.pointer (some ⟨gr, 0, none⟩)] W fun e w' => e = .returned (.int .u16 (y : Int)) ∧ RGo w w' gr vr mm ps j s L (.slice X m cx) m g gl #[.int .i64 0, .int .i64 1] #[.int .u8 (pk : Int), .int .u32 (pn : Int), .slice A pm c]) :=
                                    Lib.hid fun W hW => (rU16 (RD5.out.frm hW (fun x => x) (fun _ _ x => x))).mono fun e w' ⟨he, hr, hf⟩ => ⟨hy ▸ he, RG.out W hW w' 2 ES.out hr hf⟩
                                  have q2 : IntKind.u16.wrap (pn : Int) = (x : Int) := by rw [IntKind.wrap_u16]; omega
                                  clear hq hx hy RG RO
                                  as_aux_lemma =>
                                    go_wp2_with fail
                                    go_region_held3 (fun W => W.cell? ⟨gl, 0, none⟩ = some (.int .u8 (pk : Int)) ∧ W.cell? ⟨gl, 1, none⟩ = some (.int .u32 (pn : Int)) ∧ W.cell? ⟨gl, 2, none⟩ = some (.slice A pm c)) (go_keep)
                                      ((go_at_call 28; refine (CL.out _ (Frm.refl No wc).drew).mono ?_; rintro e w8 ⟨rfl, hgo⟩; obtain ⟨d0, d1, d2⟩ := blk3 hgo.box; have GO := Lib.hid hgo; clear hgo))
                                    all_goals
                                      go_wp2_with fail
                                      go_meet
                                      exact ⟨_, rfl, fun h => by rw [YX.out h]; simp, GO.out⟩
                                · have q1 : (pk : Int) % 4 = 2 := by omega
                                  obtain ⟨x, hx⟩ : ∃ x, pn = x := ⟨_, rfl⟩
                                  obtain ⟨y, hy⟩ : ∃ y, be (rOut ((encs ps).take mm) kk f 4) = y := ⟨_, rfl⟩
                                  have ES : Hid ((4 : Int) = (s : Int)) := by
                                    have h1 := PI.out.s
                                    rw [PI.out.enc2 hq, digs_len] at h1
                                    show (4 : Int) = s
                                    omega
                                  have YX : Hid (f2 = false → y = x) := by
                                    intro h
                                    rw [← hy, RO.out 4 ES.out h, PI.out.enc2 hq, hx, be_digs4 x (by have := PI.out.nlt; omega)]
                                  have CL : Hid (∀ W, Frm No wc W → Calls Try.prog 29 #[.pointer (some ⟨gr, 0, none⟩)] W fun e w' => e = .returned (.int .u32 (y : Int)) ∧ RGo w w' gr vr mm ps j s L (.slice X m cx) m g gl #[.int .i64 0, .int .i64 1] #[.int .u8 (pk : Int), .int .u32 (pn : Int), .slice A pm c]) :=
                                    Lib.hid fun W hW => (rU32 (RD5.out.frm hW (fun x => x) (fun _ _ x => x))).mono fun e w' ⟨he, hr, hf⟩ => ⟨hy ▸ he, RG.out W hW w' 4 ES.out hr hf⟩
                                  subst hx
                                  clear hq hy RG RO
                                  as_aux_lemma =>
                                    go_wp2_with fail
                                    go_region_held3 (fun W => W.cell? ⟨gl, 0, none⟩ = some (.int .u8 (pk : Int)) ∧ W.cell? ⟨gl, 1, none⟩ = some (.int .u32 (pn : Int)) ∧ W.cell? ⟨gl, 2, none⟩ = some (.slice A pm c)) (go_keep)
                                      ((go_at_call 29; refine (CL.out _ (Frm.refl No wc).drew).mono ?_; rintro e w8 ⟨rfl, hgo⟩; obtain ⟨d0, d1, d2⟩ := blk3 hgo.box; have GO := Lib.hid hgo; clear hgo))
                                    all_goals
                                      go_wp2_with fail
                                      go_meet
                                      exact ⟨_, rfl, fun h => by rw [YX.out h]; simp, GO.out⟩
                                · have q1 : (pk : Int) % 4 = 3 := by omega
                                  have E := Lib.hid (PI.out.enc3 hq)
                                  have q2 : (s : Int) ≤ c := by have := E.out.2; omega
                                  obtain ⟨ys, hys⟩ : ∃ ys, rOut ((encs ps).take mm) kk f (s : Int) = ys := ⟨_, rfl⟩
                                  obtain ⟨ny, hny⟩ : ∃ ny, ys.length = ny := ⟨_, rfl⟩
                                  obtain ⟨bb, hbb⟩ : ∃ bb, decide (ys = p.bs.take s) = bb := ⟨_, rfl⟩
                                  have SM : Hid (f2 = false → bb = true) := by
                                    intro h
                                    rw [← hbb, ← hys, RO.out s rfl h, E.out.1]
                                    exact decide_eq_true rfl
                                  have CL : Hid (∀ W, Frm No wc W → Calls Try.prog 30 #[.pointer (some ⟨gr, 0, none⟩), .int .i64 (s : Int)] W fun e w' => ∃ A' c', e = .returned (.slice A' ny c') ∧ Rds w' A' ys ∧ RGo w w' gr vr mm ps j s L (.slice X m cx) m g gl #[.int .i64 0, .int .i64 1] #[.int .u8 (pk : Int), .int .u32 (pn : Int), .slice A pm c]) := by
                                    refine Lib.hid fun W hW => (rBytes (RD5.out.frm hW (fun x => x) (fun _ _ x => x)) s).mono ?_
                                    rintro e w' ⟨x, rfl, ho, hr, hf⟩
                                    rw [hys] at ho
                                    obtain ⟨A', c', hx, -, hs, -⟩ := Src.of_own ho
                                    exact ⟨A', c', by rw [hx, hny], hs.rds, RG.out W hW w' s rfl hr hf⟩
                                  have hnys : ny ≤ 140737488355328 := by
                                    rw [← hny, ← hys]
                                    have := rOut_le ((encs ps).take mm) kk f (s : Int)
                                    omega
                                  have EQ : Hid (∀ W A' c' (c2 : Nat), Frm No wc W ∨ (∃ W8, RGo w W8 gr vr mm ps j s L (.slice X m cx) m g gl #[.int .i64 0, .int .i64 1] #[.int .u8 (pk : Int), .int .u32 (pn : Int), .slice A pm c] ∧ Frm No W8 W ∧ Frm No w W) → Rds W A' ys → Calls Try.prog 37 #[.slice A' ny c', .slice A s c2] W (Answers bb W)) := by
                                    refine Lib.hid fun W A' c' c2 hW hr => equal_n W A' A c' c2 ny s ys (p.bs.take s) hny (by rw [List.length_take, PI.out.m]; have := E.out.2; omega) hr ?_ hnys bb hbb
                                    rcases hW with hW | ⟨_, _, _, hW⟩
                                    · exact (PI.out.src_take (F5.out.new0 hW)).rds
                                    · exact (PI.out.src_take hW).rds
                                  clear hq hys hny hbb hnys RG RO
                                  as_aux_lemma =>
                                    go_wp2_with fail
                                    go_region_held3 (fun W => W.cell? ⟨gl, 0, none⟩ = some (.int .u8 (pk : Int)) ∧ W.cell? ⟨gl, 1, none⟩ = some (.int .u32 (pn : Int)) ∧ W.cell? ⟨gl, 2, none⟩ = some (.slice A pm c)) (go_keep)
                                      (first
                                        | (go_at_call 30; refine (CL.out _ K6.out).mono ?_; rintro e w8 ⟨A8, c8, rfl, hr8, hgo⟩; obtain ⟨d0, d1, d2⟩ := blk3 hgo.box; have GO := Lib.hid hgo; have R8 := Lib.hid hr8; clear hgo hr8)
                                        | (go_at_call 37; refine (EQ.out _ A8 c8 _ (.inr ⟨_, GO.out, K9.out, N9.out⟩) (R8.out.frm K9.out (fun _ _ x => x))).mono ?_; rintro e w10 ⟨rfl, n10, rfl⟩)
                                        | (go_at_call 36; refine (SZ.out _).mono ?_; rintro e w9 ⟨rfl, hf9⟩; have K9 := Lib.hid hf9; obtain ⟨d0, d1, d2⟩ := blk3 (GO.out.frm K9.out).box; have N9 := Lib.hid (GO.out.frm K9.out).base; clear hf9)
                                        | (go_at_call 36; refine (SZ.out _).mono ?_; rintro e w6 ⟨rfl, hf6⟩; have K6 := Lib.hid ((Frm.refl No wc).drew.new0 hf6); obtain ⟨d0, d1, d2⟩ := blk3 (BX5.out.frm K6.out (fun x => x)); clear hf6))
                                    all_goals
                                      go_wp2_with fail
                                      go_meet
                                      exact ⟨_, rfl, SM.out, (GO.out.frm K9.out).frm ((Frm.refl No _).drewN n10)⟩
                              case rest =>
                                obtain ⟨sm, rfl, SM, GO⟩ := hcut
                                clear RG RO RD5 BX5 HO5 HG5
                                obtain ⟨k5, hr5⟩ := GO.out.rd
                                rw [HF2.out] at hr5
                                have R5 := Lib.hid hr5
                                have PB := Lib.hid (fun W (hW : Frm No wc W) => blk3 (GO.out.box.frm hW (fun x => x)))
                                have ENDS := Lib.hid (fun W (hW : Frm No wc W) => GO.out.frm hW)
                                clear hr5
                                cases f2 with
                                | false =>
                                  obtain rfl : sm = true := SM.out rfl
                                  have hff : f = false := by rw [HFL.out]; exact decide_eq_false (by have := of_decide_eq_false HF2.out; omega)
                                  subst hff
                                  clear HFL SM
                                  as_aux_lemma =>
                                    go_wp2_with fail
                                    refine (rFailed R5.out).mono ?_
                                    rintro e v10 ⟨rfl, rfl⟩
                                    obtain ⟨b0, b1, b2⟩ := PB.out _ (Frm.refl _ _)
                                    go_wp2_with fail
                                    refine (SZ.out _).mono ?_
                                    rintro e v11 ⟨rfl, hf⟩
                                    have GE := Lib.hid (ENDS.out _ ((Frm.refl No _).new0 hf))
                                    clear hf b0 b1 b2
                                    go_wp2_with fail
                                    go_roundw
                                    case rel => exact ⟨j + 1, false, by omega, by go_num, by rw [HNX.out]; go_num, by rw [← HF2.out]; exact GE.out.st, GE.out.row, GE.out.two⟩
                                    case measure => simp [intOf]; omega
                                | true =>
                                  clear HFL SM
                                  as_aux_lemma =>
                                    go_wp2_with fail
                                    refine (rFailed R5.out).mono ?_
                                    rintro e v10 ⟨rfl, rfl⟩
                                    obtain ⟨b0, b1, b2⟩ := PB.out _ (Frm.refl _ _)
                                    go_wp2_with fail
                                    refine (SZ.out _).mono ?_
                                    rintro e v11 ⟨rfl, hf⟩
                                    have GE := Lib.hid (ENDS.out _ ((Frm.refl No _).new0 hf))
                                    clear hf b0 b1 b2
                                    go_wp2_with fail
                                    go_roundw
                                    case rel => exact ⟨j + 1, true, by omega, by go_num, by rw [HNX.out]; go_num, by rw [← HF2.out]; exact GE.out.st, GE.out.row, GE.out.two⟩
                                    case measure => simp [intOf]; omega
                          · have ejk : k = j := by omega
                            subst ejk
                            obtain ⟨kk, hrd, hfm, hkk, hF, hgr⟩ := HR.out
                            have hTT : (fore ps k).length = m := by rw [← HT.out, ← HK.out, fore_all]
                            rw [hTT] at hfm hkk
                            have hlen : ((encs ps).take mm).length = mm := by rw [List.length_take, HT.out]; omega
                            have HFF := Lib.hid hF
                            have RD := Lib.hid hrd
                            have HLN := Lib.hid hlen
                            have HKK := Lib.hid hkk
                            rw [hTT]
                            clear hF hrd hTT hgr HR hlen hkk
                            by_cases hb0 : b = 0
                            · subst hb0
                              have hmm : mm = m := by have := HMM.out; omega
                              obtain rfl : f = false := by rw [hfm]; exact decide_eq_false (by omega)
                              obtain rfl : kk = m := HKK.out rfl
                              subst hmm
                              clear hfm
                              as_aux_lemma =>
                                go_wp2_with fail
                                refine (rFailed RD.out).mono ?_
                                rintro e v10 ⟨rfl, rfl⟩
                                have hz : (((encs ps).take mm).length : Int) - mm = 0 := by rw [HLN.out]; omega
                                have RL := rLeft RD.out
                                rw [hz] at RL
                                have RL := Lib.hid RL
                                clear hz
                                go_wp2_with fail
                                refine RL.out.mono ?_
                                rintro e v11 ⟨rfl, n11, rfl⟩
                                go_wp2_with fail
                                refine (rAt_ (RD.out.drewN n11)).mono ?_
                                rintro e v12 ⟨rfl, rfl⟩
                                go_wp2_with fail
                                go_roundw
                                case rel => exact ⟨0 + 1, by omega, by go_num, HFF.out.drewN n11, HO.out, HG.out.drewN n11⟩
                                case measure => simp [intOf]
                            · obtain rfl : b = 1 := by omega
                              by_cases hm0 : m = 0
                              · obtain rfl : f = false := by rw [hfm]; exact decide_eq_false (by omega)
                                have q1 : ¬ (0 : Int) < m := by omega
                                have q2 : decide (0 < m) = false := decide_eq_false (by omega)
                                clear hfm hm0
                                as_aux_lemma =>
                                  go_wp2_with fail
                                  refine (rFailed RD.out).mono ?_
                                  rintro e v10 ⟨rfl, rfl⟩
                                  go_wp2_with fail
                                  go_roundw
                                  case rel => exact ⟨1 + 1, by omega, by go_num, HFF.out, HO.out, HG.out⟩
                                  case measure => simp [intOf]
                              · obtain rfl : f = true := by rw [hfm]; exact decide_eq_true (by have := HMM.out; omega)
                                have q1 : (0 : Int) < m := by omega
                                have q2 : decide (0 < m) = true := decide_eq_true (by omega)
                                clear hfm hm0
                                as_aux_lemma =>
                                  go_wp2_with fail
                                  refine (rFailed RD.out).mono ?_
                                  rintro e v10 ⟨rfl, rfl⟩
                                  go_wp2_with fail
                                  go_roundw
                                  case rel => exact ⟨1 + 1, by omega, by go_num, HFF.out, HO.out, HG.out⟩
                                  case measure => simp [intOf]
                    · go_wp2_with fail
                      go_roundw
                      case rel => exact ⟨a + 1, by omega, by go_num, HF.out, HG.out⟩
                      case measure => simp [intOf]; omega
        · go_wp2
          go_ret
          exact ⟨rfl, HF.out⟩
end Go.Proofs.Ytgpnnnjhcjjnmaa
