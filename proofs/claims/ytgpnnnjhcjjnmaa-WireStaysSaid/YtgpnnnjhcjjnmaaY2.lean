/-
  WireStays: what has failed stays failed.
-/
import Derived.Test.YtgpnnnjhcjjnmaaY1
import Derived.Test.YtgpnnnjhcjjnmaaT1
import Derived.BigRegion
import Derived.BigQuiet
import Derived.Deep.Cut
import Derived.Deep.CutRange
import Derived.Deep.CutBlock
namespace Go.Proofs.Ytgpnnnjhcjjnmaa
open Go.RowKit

theorem rOut_be (cs : List UInt8) (k : Nat) (f : Bool) (n : Int) (m : Nat) (hn : n = m) : be (rOut cs k f n) < 256 ^ m := by
  subst hn
  unfold rOut
  split
  · rename_i h
    refine be_lt m _ ?_
    simp [fits] at h
    simp
    omega
  · show 0 < 256 ^ m
    exact Nat.pow_pos (by omega)

theorem wrap_u32 (n : Int) : ∃ z : Nat, IntKind.u32.wrap n = z ∧ z < 4294967296 := by
  refine ⟨(n % 4294967296).toNat, ?_, by omega⟩
  have e : IntKind.u32.wrap n = n % 4294967296 := rfl
  rw [e]
  omega

theorem wU32' {w : World} {g : Nat} {v : Value} {bs : List UInt8} {m : Nat} {f : Bool} (h : Wr w g v m bs f) (n : Int) (x : Nat) (hn : IntKind.u32.wrap n = x) (hx : x < 4294967296) : Calls Try.prog 21 #[.pointer (some ⟨g, 0, none⟩), .int .u32 (IntKind.u32.wrap n)] w (WDone w g v m bs f (digs 4 x)) := by
  rw [hn]
  exact wU32 h x hx

attribute [local go_sem] undef
attribute [local irreducible] wpList

set_option maxRecDepth 100000 in
set_option maxHeartbeats 20000000 in
theorem wireStays (w : World) (A B : Option Addr) (c n d l : Nat) (bs : List UInt8) (hn : bs.length = n) (acts : List (Nat × Int)) (hl : acts.length = l) (hld : l ≤ d) (y : Nat) (h : Src w A c bs) (ha : Acts w B acts) (hy : y < 256) :
    Calls Try.prog 8 #[.slice A n c, .slice B l d, .int .u8 (y : Int)] w fun e w' => e = .returned (.bool true) ∧ Frm No w w' := by
  subst hn hl
  obtain ⟨cs, hcs⟩ : ∃ cs, cs = bs.take 2000 := ⟨_, rfl⟩
  have hcl : cs.length = min 2000 bs.length := by rw [hcs, List.length_take]
  have H : Hid (Src w A c cs) := by
    show Src w A c cs
    rw [hcs]
    exact ⟨h.rds.take 2000, by rw [List.length_take]; have := h.le; omega, h.nil⟩
  obtain ⟨bcs, hbcs⟩ : ∃ l, l = acts.take 100 := ⟨_, rfl⟩
  have hbl : bcs.length = min 100 acts.length := by rw [hbcs, List.length_take]
  have HB : Hid (Acts w B bcs) := by
    show Acts w B bcs
    rw [hbcs]
    exact ha.take 100
  have HCL := Lib.hid hcl
  have HBL := Lib.hid hbl
  have hc := h.le
  clear h hcs hcl ha hbcs hbl
  go_enter Try.func8, Try.ntmps8
  go_wp2_with fail
  refine (awake w).mono ?_
  rintro e w1 ⟨rfl, f1⟩
  have F1 := Lib.hid f1
  clear f1
  go_upto_region 3 with fail
  go_cut [0, 1] from 20 to 29 (fun a b wx => a = .slice A cs.length c ∧ b = .slice B bcs.length d ∧ wx = w1.drew)
  case first =>
    by_cases hb1 : 2000 < bs.length <;> by_cases hb2 : 100 < acts.length
    · have c1 : (2000 : Int) < bs.length := by omega
      have c2 : (100 : Int) < acts.length := by omega
      have c3 : (2000 : Int) ≤ c := by omega
      have c4 : (100 : Int) ≤ d := by omega
      have e1 : cs.length = 2000 := by have := HCL.out; omega
      have e2 : bcs.length = 100 := by have := HBL.out; omega
      have E1 := Lib.hid e1
      have E2 := Lib.hid e2
      clear e1 e2
      go_region
      go_wp2_with fail
      go_meet
      exact ⟨by rw [E1.out], by rw [E2.out], rfl⟩
    · have c1 : (2000 : Int) < bs.length := by omega
      have c2 : ¬ (100 : Int) < acts.length := by omega
      have c3 : (2000 : Int) ≤ c := by omega
      have c4 : (acts.length : Int) ≤ d := by omega
      have e1 : cs.length = 2000 := by have := HCL.out; omega
      have e2 : bcs.length = acts.length := by have := HBL.out; omega
      have E1 := Lib.hid e1
      have E2 := Lib.hid e2
      clear e1 e2
      go_region
      go_wp2_with fail
      go_meet
      exact ⟨by rw [E1.out], by rw [E2.out], rfl⟩
    · have c1 : ¬ (2000 : Int) < bs.length := by omega
      have c2 : (100 : Int) < acts.length := by omega
      have c3 : (bs.length : Int) ≤ c := by omega
      have c4 : (100 : Int) ≤ d := by omega
      have e1 : cs.length = bs.length := by have := HCL.out; omega
      have e2 : bcs.length = 100 := by have := HBL.out; omega
      have E1 := Lib.hid e1
      have E2 := Lib.hid e2
      clear e1 e2
      go_region
      go_wp2_with fail
      go_meet
      exact ⟨by rw [E1.out], by rw [E2.out], rfl⟩
    · have c1 : ¬ (2000 : Int) < bs.length := by omega
      have c2 : ¬ (100 : Int) < acts.length := by omega
      have c3 : (bs.length : Int) ≤ c := by omega
      have c4 : (acts.length : Int) ≤ d := by omega
      have e1 : cs.length = bs.length := by have := HCL.out; omega
      have e2 : bcs.length = acts.length := by have := HBL.out; omega
      have E1 := Lib.hid e1
      have E2 := Lib.hid e2
      clear e1 e2
      go_region
      go_wp2_with fail
      go_meet
      exact ⟨by rw [E1.out], by rw [E2.out], rfl⟩
  case rest =>
  obtain ⟨rfl, rfl, rfl⟩ := hcut
  have hcl2 : cs.length ≤ 2000 := by have := HCL.out; omega
  have hbl2 : bcs.length ≤ 100 := by have := HBL.out; omega
  clear HCL HBL hc hld
  go_wp2_with fail
  refine (newReader_n _ _ _ _ cs rfl (H.out.rds.frm F1.out.drew (fun _ _ x => x)) (by omega)).mono ?_
  rintro e w2 ⟨gr, vr, rfl, hgr, hvr, hrd, f2⟩
  have F2 := Lib.hid (F1.out.drew.new0 f2)
  have RD := Lib.hid hrd
  have GR : Hid (w.heap.size ≤ gr) := Nat.le_trans F1.out.drew.size hgr
  have VR : Hid (∀ i, vr.ownBlock = some i → w.heap.size ≤ i) := fun i hi => Nat.le_trans F1.out.drew.size (hvr i hi)
  clear f2 hrd hgr hvr
  obtain ⟨m, hm⟩ : ∃ m : Nat, (y : Int) % 101 = m ∧ m ≤ 100 := ⟨y % 101, by omega, by omega⟩
  have hm1 := hm.1
  have hm2 := hm.2
  clear hm
  go_wp2_with fail
  refine (newWriter _ m (by omega)).mono ?_
  rintro e w3 ⟨gw, rfl, hgw, hwr, f3⟩
  have BT : Hid (Both w w3 gr vr cs 0 false gw (.slice none 0 0) m [] false) :=
    ⟨RD.out.frm f3 (fun x => x) (fun _ _ x => x), hwr, F2.out.new0 f3, GR.out, Nat.le_trans F2.out.size hgw, VR.out, (fun i hi => by cases hi), (fun i _ hi => by cases hi)⟩
  clear f3 hwr hgw RD GR VR F1 F2
  go_wp2_with fail
  go_loopw [48] (fun i wr => ∃ (j k : Nat) (f : Bool) (vw : Value) (ys : List UInt8) (fw : Bool), j ≤ bcs.length ∧ i = .int .i64 j ∧ Hid (Both w wr gr vr cs k f gw vw m ys fw)) (fun i _ => bcs.length - (intOf i).toNat)
  case atStart => exact ⟨0, 0, false, _, [], false, Nat.zero_le _, rfl, BT⟩
  case round =>
    obtain ⟨j, k, f, vw, ys, fw, hj, rfl, HH⟩ := hrel
    clear BT
    by_cases hlt : j < bcs.length
    · obtain ⟨ad, rfl, had, hcell⟩ := (HB.out.frm HH.out.frm) (by omega)
      obtain ⟨h0, h1, hk0, hn0, hn1⟩ := hcell j hlt
      obtain ⟨kd, hkd⟩ : ∃ x, x = bcs[j].1 := ⟨_, rfl⟩
      obtain ⟨nn, hnn⟩ : ∃ x, x = bcs[j].2 := ⟨_, rfl⟩
      rw [← hkd] at h0 hk0
      rw [← hnn] at h1 hn0 hn1
      clear hkd hnn hcell
      have h2 : wr.cell? ⟨(ad.add (j * 2)).block, (ad.add (j * 2)).off + 1, none⟩ = some (.int .i64 nn) := by rw [add_next]; exact h1
      clear h1
      go_upto_region 11 with fail
      have AA0 : ∃ gl w4, gl = wr.heap.size ∧ w4 = wr.alloc (Obj.cells #[Value.int IntKind.u8 (kd : Int), Value.int IntKind.i64 nn] 30) ∧ Hid (AllB w w4 gr vr cs k f gw vw m ys fw gl 30 #[Value.int IntKind.u8 (kd : Int), Value.int IntKind.i64 nn]) :=
        ⟨_, _, rfl, rfl, HH.out.no ((Frm.refl No _).alloc _), Blk.new _ _ _⟩
      obtain ⟨gl, w4, hgl, hw4, AA⟩ := AA0
      rw [← hgl, ← hw4]
      clear hgl hw4 h0 h2 HH
      have h4 : w4.cell? ⟨gl, 0, none⟩ = some (.int .u8 (kd : Int)) := by rw [AA.out.var.cell]; rfl
      go_upto_block 2 with (first | (go_at_call 32; refine (rAt_ AA.out.both.rd).mono ?_; rintro e w' ⟨rfl, rfl⟩) | (go_at_call 33; refine (rFailed AA.out.both.rd).mono ?_; rintro e w' ⟨rfl, rfl⟩) | (go_at_call 34; refine (wLen AA.out.both.wr).mono ?_; rintro e w' ⟨rfl, rfl⟩) | (go_at_call 35; refine (wFailed AA.out.both.wr).mono ?_; rintro e w' ⟨rfl, rfl⟩))
      go_cut [17] from 62 to 98 (fun s17 wx => ∃ (k' : Nat) (f' : Bool) (v' : Value) (ys' : List UInt8) (fw' : Bool) (got : Int), s17 = .int .i64 got ∧ Hid (Kept k k' f f' got ys.length ys'.length fw fw') ∧ Hid (Both w wx gr vr cs k' f' gw v' m ys' fw'))
      case first =>
        clear h4
        have h5 : w4.cell? ⟨gl, 1, none⟩ = some (.int .i64 nn) := by rw [AA.out.var.cell]; rfl
        by_cases hq0 : (kd : Int) % 4 = 0
        · go_wp2_with fail
          obtain ⟨x, hx⟩ : ∃ x, be (rOut cs k f 1) = x := ⟨_, rfl⟩
          have hx2 : x < 256 := by rw [← hx]; exact rOut_be cs k f 1 1 rfl
          have hg : f = true → (x : Int) = 0 := by rintro rfl; rw [← hx, rOut_failed]; rfl
          refine (rU8 AA.out.both.rd).mono ?_
          rintro e w5 ⟨he, hr5, f5⟩
          rw [hx] at he
          subst he
          have AB := Lib.hid (AA.out.reads (by decide) hr5 f5)
          clear hr5 f5 h5 hx
          go_wp2_with fail
          refine (wU8 AB.out.both.wr 1 (by omega)).mono ?_
          rintro e w6 ⟨v6, rfl, hw6, f6, b6⟩
          have AC := Lib.hid (AB.out.writes (by decide) (by decide) hw6 f6 b6)
          clear hw6 f6 b6
          go_wp2_with fail
          go_meet
          exact ⟨_, _, _, _, _, _, rfl, kept_mk (read_keeps cs k f 1) hg (write_keeps m ys fw _ _), AC.out.both⟩
        by_cases hq1 : (kd : Int) % 4 = 1
        · go_wp2_with fail
          obtain ⟨x, hx⟩ : ∃ x, be (rOut cs k f 2) = x := ⟨_, rfl⟩
          have hx2 : x < 65536 := by rw [← hx]; exact rOut_be cs k f 2 2 rfl
          have hg : f = true → (x : Int) = 0 := by rintro rfl; rw [← hx, rOut_failed]; rfl
          refine (rU16 AA.out.both.rd).mono ?_
          rintro e w5 ⟨he, hr5, f5⟩
          rw [hx] at he
          subst he
          have AB := Lib.hid (AA.out.reads (by decide) hr5 f5)
          have h6 : w5.cell? ⟨gl, 1, none⟩ = some (.int .i64 nn) := by rw [AB.out.var.cell]; rfl
          clear hr5 f5 h5 hx
          go_wp2_with fail
          obtain ⟨z, hz, hz2⟩ : ∃ z : Nat, IntKind.u32.wrap nn = z ∧ z < 4294967296 := wrap_u32 nn
          refine (wU32' AB.out.both.wr _ z hz hz2).mono ?_
          rintro e w6 ⟨v6, rfl, hw6, f6, b6⟩
          have AC := Lib.hid (AB.out.writes (by decide) (by decide) hw6 f6 b6)
          clear hw6 f6 b6 h6 hz
          go_wp2_with fail
          go_meet
          exact ⟨_, _, _, _, _, _, rfl, kept_mk (read_keeps cs k f 2) hg (write_keeps m ys fw _ _), AC.out.both⟩
        by_cases hq2 : (kd : Int) % 4 = 2
        · go_wp2_with fail
          refine (rBytes AA.out.both.rd nn).mono ?_
          rintro e w5 ⟨x5, he, ho5, hr5, f5⟩
          obtain ⟨A5, c5, hx5, hl5, _, _⟩ := Src.of_own ho5
          obtain ⟨L5, hL5⟩ : ∃ L, (rOut cs k f nn).length = L := ⟨_, rfl⟩
          rw [hL5] at hx5
          subst hx5
          subst he
          have hg : f = true → (L5 : Int) = 0 := by rintro rfl; rw [← hL5, rOut_failed]; rfl
          have AB := Lib.hid (AA.out.reads (by decide) hr5 f5)
          have h6 : w5.cell? ⟨gl, 1, none⟩ = some (.int .i64 nn) := by rw [AB.out.var.cell]; rfl
          clear hr5 f5 h5 ho5 hl5 hL5
          go_wp2_with fail
          refine (wZeros AB.out.both.wr nn).mono ?_
          rintro e w6 ⟨v6, rfl, hw6, f6, b6⟩
          have AC := Lib.hid (AB.out.writes (by decide) (by decide) hw6 f6 b6)
          clear hw6 f6 b6 h6
          go_wp2_with fail
          go_meet
          exact ⟨_, _, _, _, _, _, rfl, kept_mk (read_keeps cs k f nn) hg (write_keeps m ys fw _ _), AC.out.both⟩
        · have hq3 : (kd : Int) % 4 = 3 := by omega
          go_wp2_with fail
          refine (rSkip AA.out.both.rd nn).mono ?_
          rintro e w5 ⟨rfl, hr5, f5⟩
          have AB := Lib.hid (AA.out.reads (by decide) hr5 f5)
          have h6 : w5.cell? ⟨gl, 1, none⟩ = some (.int .i64 nn) := by rw [AB.out.var.cell]; rfl
          clear hr5 f5 h5
          go_wp2_with fail
          refine (wSet16 AB.out.both.wr nn 7 (by omega)).mono ?_
          rintro e w6 ⟨rfl, hw6, f6⟩
          have AC := Lib.hid (AB.out.writes (by decide) (by decide) hw6 f6 (.inl rfl))
          clear hw6 f6 h6
          go_wp2_with fail
          go_meet
          exact ⟨_, _, _, _, _, _, rfl, kept_mk (read_keeps cs k f nn) (fun _ => rfl) (set_keeps ys fw _ _), AC.out.both⟩
      case rest =>
        clear h4
        obtain ⟨k', f', v', ys', fw', got, rfl, KP, BB⟩ := hcut
        clear AA
        obtain ⟨p1, p2, p3, p4, p5⟩ := KP.out
        clear KP
        have l1 := BB.out.rd.le
        have l2 := BB.out.wr.le
        obtain ⟨L', hL'⟩ : ∃ L', ys'.length = L' := ⟨_, rfl⟩
        have HL := Lib.hid hL'
        rw [hL'] at p3 p4 l2
        clear hL'
        go_wp2_with fail
        refine (rAt_ BB.out.rd).mono ?_
        rintro e w6 ⟨rfl, rfl⟩
        go_wp2_with fail
        refine (rLeft BB.out.rd).mono ?_
        rintro e w7 ⟨rfl, n7, hw7⟩
        have BC : Hid (Both w w7 gr vr cs k' f' gw v' m ys' fw') := by
          rw [hw7]
          exact BB.out.no ((Frm.refl No _).drewN n7)
        clear hw7 BB
        have hsum : IntKind.i64.wrap ((k' : Int) + ((cs.length : Int) - k')) = cs.length := by rw [IntWalk.i64_in] <;> omega
        have b1 : decide ((k' : Int) < k) = false := decide_eq_false (by omega)
        have b2 : decide ((L' : Int) < ys.length) = false := decide_eq_false (by omega)
        have b3 : decide ((m : Int) < L') = false := decide_eq_false (by omega)
        have n1 : ¬ k' < k := by omega
        have n2 : ¬ L' < ys.length := by omega
        have n3 : ¬ m < L' := by omega
        have d1 : decide (k' < k) = false := decide_eq_false n1
        have d2 : decide (L' < ys.length) = false := decide_eq_false n2
        have d3 : decide (m < L') = false := decide_eq_false n3
        clear l1 hn0 hn1 hk0 hcl2 hm2 H HB
        cases f with
        | true =>
          obtain ⟨rfl, rfl, rfl⟩ := p2 rfl
          clear p2 p5
          cases fw with
          | true =>
            obtain ⟨rfl, rfl⟩ := p4 rfl
            clear p4
            go_wp2_with (first | (go_at_call 32; refine (rAt_ BC.out.rd).mono ?_; rintro e w' ⟨rfl, rfl⟩) | (go_at_call 33; refine (rFailed BC.out.rd).mono ?_; rintro e w' ⟨rfl, rfl⟩) | (go_at_call 34; refine (wLenN BC.out.wr HL.out).mono ?_; rintro e w' ⟨rfl, rfl⟩) | (go_at_call 35; refine (wFailed BC.out.wr).mono ?_; rintro e w' ⟨rfl, rfl⟩))
            go_roundw
            case rel => exact ⟨j + 1, _, _, _, _, _, by omega, by go_num, BC⟩
            case measure => simp [intOf]; omega
          | false =>
            clear p4
            go_wp2_with (first | (go_at_call 32; refine (rAt_ BC.out.rd).mono ?_; rintro e w' ⟨rfl, rfl⟩) | (go_at_call 33; refine (rFailed BC.out.rd).mono ?_; rintro e w' ⟨rfl, rfl⟩) | (go_at_call 34; refine (wLenN BC.out.wr HL.out).mono ?_; rintro e w' ⟨rfl, rfl⟩) | (go_at_call 35; refine (wFailed BC.out.wr).mono ?_; rintro e w' ⟨rfl, rfl⟩))
            go_roundw
            case rel => exact ⟨j + 1, _, _, _, _, _, by omega, by go_num, BC⟩
            case measure => simp [intOf]; omega
        | false =>
          clear p2
          cases f' with
          | true =>
            obtain rfl : k' = k := by simpa using p5 rfl
            clear p5
            cases fw with
            | true =>
              obtain ⟨rfl, rfl⟩ := p4 rfl
              clear p4
              go_wp2_with (first | (go_at_call 32; refine (rAt_ BC.out.rd).mono ?_; rintro e w' ⟨rfl, rfl⟩) | (go_at_call 33; refine (rFailed BC.out.rd).mono ?_; rintro e w' ⟨rfl, rfl⟩) | (go_at_call 34; refine (wLenN BC.out.wr HL.out).mono ?_; rintro e w' ⟨rfl, rfl⟩) | (go_at_call 35; refine (wFailed BC.out.wr).mono ?_; rintro e w' ⟨rfl, rfl⟩))
              go_roundw
              case rel => exact ⟨j + 1, _, _, _, _, _, by omega, by go_num, BC⟩
              case measure => simp [intOf]; omega
            | false =>
              clear p4
              go_wp2_with (first | (go_at_call 32; refine (rAt_ BC.out.rd).mono ?_; rintro e w' ⟨rfl, rfl⟩) | (go_at_call 33; refine (rFailed BC.out.rd).mono ?_; rintro e w' ⟨rfl, rfl⟩) | (go_at_call 34; refine (wLenN BC.out.wr HL.out).mono ?_; rintro e w' ⟨rfl, rfl⟩) | (go_at_call 35; refine (wFailed BC.out.wr).mono ?_; rintro e w' ⟨rfl, rfl⟩))
              go_roundw
              case rel => exact ⟨j + 1, _, _, _, _, _, by omega, by go_num, BC⟩
              case measure => simp [intOf]; omega
          | false =>
            clear p5
            cases fw with
            | true =>
              obtain ⟨rfl, rfl⟩ := p4 rfl
              clear p4
              go_wp2_with (first | (go_at_call 32; refine (rAt_ BC.out.rd).mono ?_; rintro e w' ⟨rfl, rfl⟩) | (go_at_call 33; refine (rFailed BC.out.rd).mono ?_; rintro e w' ⟨rfl, rfl⟩) | (go_at_call 34; refine (wLenN BC.out.wr HL.out).mono ?_; rintro e w' ⟨rfl, rfl⟩) | (go_at_call 35; refine (wFailed BC.out.wr).mono ?_; rintro e w' ⟨rfl, rfl⟩))
              go_roundw
              case rel => exact ⟨j + 1, _, _, _, _, _, by omega, by go_num, BC⟩
              case measure => simp [intOf]; omega
            | false =>
              clear p4
              go_wp2_with (first | (go_at_call 32; refine (rAt_ BC.out.rd).mono ?_; rintro e w' ⟨rfl, rfl⟩) | (go_at_call 33; refine (rFailed BC.out.rd).mono ?_; rintro e w' ⟨rfl, rfl⟩) | (go_at_call 34; refine (wLenN BC.out.wr HL.out).mono ?_; rintro e w' ⟨rfl, rfl⟩) | (go_at_call 35; refine (wFailed BC.out.wr).mono ?_; rintro e w' ⟨rfl, rfl⟩))
              go_roundw
              case rel => exact ⟨j + 1, _, _, _, _, _, by omega, by go_num, BC⟩
              case measure => simp [intOf]; omega
    · go_wp2
      go_ret
      exact ⟨rfl, HH.out.frm⟩
end Go.Proofs.Ytgpnnnjhcjjnmaa
