/-
  WireSets: Set16 replaces just two bytes.
-/
import Derived.Test.YtgpnnnjhcjjnmaaW5
import Derived.Test.YtgpnnnjhcjjnmaaO1
namespace Go.Proofs.Ytgpnnnjhcjjnmaa
open Go.RowKit

theorem newReader_n (w : World) (A : Option Addr) (c n : Nat) (bs : List UInt8) (hn : bs.length = n) (h : Rds w A bs) (hs : n ≤ 131072) :
    Calls Try.prog 17 #[.slice A n c] w (NewR w bs) := by
  subst hn
  exact newReader w A c bs h hs

/-- What a bytes-writer that had room leaves. -/
theorem WDone.yes {w w' : World} {g : Nat} {v : Value} {m : Nat} {bs : List UInt8} {xs : List UInt8} {e : Ending} (h : WDone w g v m bs false xs e w') (hf : bs.length + xs.length ≤ m) :
    ∃ v', e = .returned (.tuple #[]) ∧ Wr w' g v' m (bs ++ xs) false ∧ Frm (Two g v) w w' ∧ (v'.ownBlock = v.ownBlock ∨ ∀ i, v'.ownBlock = some i → w.heap.size ≤ i) := by
  obtain ⟨v', h1, h2, h3, h4⟩ := h
  have hw : wfits m bs false xs.length = true := by simp [wfits]; omega
  rw [hw] at h2
  exact ⟨v', h1, h2, h3, h4⟩

set_option maxRecDepth 100000 in
set_option maxHeartbeats 1000000 in
theorem wireSets_no (w : World) (A : Option Addr) (c : Nat) (bs : List UInt8) (k : Int) (x : Nat) (h : Src w A c bs) (hA : ∀ i, blk A = some i → 0 < bs.length → i < w.heap.size) (hx : x < 65536) (hk : k < 0 ∨ ((min 2000 bs.length : Nat) : Int) - 2 < k) :
    Calls Try.prog 10 #[.slice A bs.length c, .int .i64 k, .int .u16 (x : Int)] w fun e w' => e = .returned (.bool true) ∧ Frm No w w' := by
  obtain ⟨cs, hcs⟩ : ∃ cs, cs = bs.take 2000 := ⟨_, rfl⟩
  have hcl : cs.length = min 2000 bs.length := by rw [hcs, List.length_take]
  have H : Hid (Src w A c cs) := by
    show Src w A c cs
    rw [hcs]
    exact ⟨h.rds.take 2000, by rw [List.length_take]; have := h.le; omega, h.nil⟩
  have HCL := Lib.hid hcl
  have HA := Lib.hid hA
  have hc := h.le
  have HK := Lib.hid hk
  clear h hcs hcl hA hk
  by_cases hneg : k < 0
  · go_enter Try.func10, Try.ntmps10
    go_wp2_with fail
    refine (awake w).mono ?_
    rintro e w1 ⟨rfl, f1⟩
    have F1 := Lib.hid f1
    clear f1
    go_wp2_with fail
    all_goals
      refine (newWriter _ 2000 (by omega)).mono ?_
      rintro e w2 ⟨g, rfl, hg, hw, f2⟩
      have F2 := Lib.hid (F1.out.new0 f2)
      have W2 := Lib.hid hw
      have HG : Hid (w.heap.size ≤ g) := Nat.le_trans F1.out.size hg
      clear f2 hw hg
      go_wp2_with fail
      refine (wBytes2 W2.out (H.out.frm F2.out (fun _ _ x => x)) (by have := HCL.out; omega) (fun h0 e => by have := HA.out _ e (by omega); have := HG.out; omega)).mono ?_
      intro e w3 hd
      obtain ⟨v3, rfl, hw3, f3, b3⟩ := hd.yes (by have := HCL.out; simp; omega)
      have F3 := Lib.hid (F2.out.new2 f3 HG.out (fun i hi => by cases hi))
      have B3 := Lib.hid (newer (v := .slice none 0 0) F2.out.size (fun i hi => by cases hi) b3)
      have W3 : Hid (Wr w3 g v3 2000 cs false) := hw3
      clear hd hw3 f3 b3
      go_wp2_with fail
      refine (wSet16 W3.out k x hx).mono ?_
      rintro e w4 ⟨rfl, hw4, f4⟩
      have hs : sfits cs false k = false := by have := HK.out; have := HCL.out; simp [sfits]; omega
      rw [hs] at hw4
      have F4 := Lib.hid (F3.out.new2 f4 HG.out B3.out)
      have W4 : Hid (Wr w4 g v3 2000 cs true) := hw4
      clear hw4 f4 hs
      go_wp2_with fail
      refine (wDone W4.out).mono ?_
      rintro e w5 ⟨y, rfl, hy, f5⟩
      have F5 := Lib.hid (F4.out.new0 f5)
      have W5 := Lib.hid (W4.out.frm f5 (fun x => x) (fun _ _ x => x))
      clear hy f5
      have hd1 : decide (k < 0) = true := decide_eq_true hneg
      go_wp2_with fail
      refine (wLen W5.out).mono ?_
      rintro e w6 ⟨rfl, rfl⟩
      go_wp2
      go_ret
      exact ⟨ret_bool (by have := HCL.out; simp; omega), F5.out⟩
  · go_enter Try.func10, Try.ntmps10
    go_wp2_with fail
    refine (awake w).mono ?_
    rintro e w1 ⟨rfl, f1⟩
    have F1 := Lib.hid f1
    clear f1
    go_wp2_with fail
    all_goals
      refine (newWriter _ 2000 (by omega)).mono ?_
      rintro e w2 ⟨g, rfl, hg, hw, f2⟩
      have F2 := Lib.hid (F1.out.new0 f2)
      have W2 := Lib.hid hw
      have HG : Hid (w.heap.size ≤ g) := Nat.le_trans F1.out.size hg
      clear f2 hw hg
      go_wp2_with fail
      refine (wBytes2 W2.out (H.out.frm F2.out (fun _ _ x => x)) (by have := HCL.out; omega) (fun h0 e => by have := HA.out _ e (by omega); have := HG.out; omega)).mono ?_
      intro e w3 hd
      obtain ⟨v3, rfl, hw3, f3, b3⟩ := hd.yes (by have := HCL.out; simp; omega)
      have F3 := Lib.hid (F2.out.new2 f3 HG.out (fun i hi => by cases hi))
      have B3 := Lib.hid (newer (v := .slice none 0 0) F2.out.size (fun i hi => by cases hi) b3)
      have W3 : Hid (Wr w3 g v3 2000 cs false) := hw3
      clear hd hw3 f3 b3
      go_wp2_with fail
      refine (wSet16 W3.out k x hx).mono ?_
      rintro e w4 ⟨rfl, hw4, f4⟩
      have hs : sfits cs false k = false := by have := HK.out; have := HCL.out; simp [sfits]; omega
      rw [hs] at hw4
      have F4 := Lib.hid (F3.out.new2 f4 HG.out B3.out)
      have W4 : Hid (Wr w4 g v3 2000 cs true) := hw4
      clear hw4 f4 hs
      go_wp2_with fail
      refine (wDone W4.out).mono ?_
      rintro e w5 ⟨y, rfl, hy, f5⟩
      have F5 := Lib.hid (F4.out.new0 f5)
      have W5 := Lib.hid (W4.out.frm f5 (fun x => x) (fun _ _ x => x))
      clear hy f5
      have hd1 : decide (k < 0) = false := decide_eq_false (by omega)
      first | (have hb : (1998 : Int) < k := (by have := HK.out; omega)) | (have hb : (bs.length : Int) - 2 < k := (by have := HK.out; omega))
      go_wp2_with fail
      refine (wLen W5.out).mono ?_
      rintro e w6 ⟨rfl, rfl⟩
      go_wp2
      go_ret
      exact ⟨ret_bool (by have := HCL.out; simp; omega), F5.out⟩

theorem setTwo_be (bs : List UInt8) (k x : Nat) (h : k + 2 ≤ bs.length) (hx : x < 65536) : be (((setTwo bs k x).drop k).take (2 : Int).toNat) = x := by
  have e1 : (bs.take k).length = k := by simp; omega
  have e2 : setTwo bs k x = bs.take k ++ (digs 2 x ++ bs.drop (k + 2)) := by rw [setTwo, List.append_assoc]
  rw [e2, List.drop_append_of_le_length (by omega), List.drop_of_length_le (by omega), List.nil_append]
  have e3 : (2 : Int).toNat = (digs 2 x).length := by simp [digs_len]
  rw [e3, List.take_left]
  simp [digs, be]
  omega

set_option maxRecDepth 100000 in
set_option maxHeartbeats 2000000 in
theorem wireSets_yes (w : World) (A : Option Addr) (c : Nat) (bs : List UInt8) (k : Nat) (x : Nat) (h : Src w A c bs) (hA : ∀ i, blk A = some i → 0 < bs.length → i < w.heap.size) (hx : x < 65536) (hk : k + 2 ≤ min 2000 bs.length) :
    Calls Try.prog 10 #[.slice A bs.length c, .int .i64 (k : Int), .int .u16 (x : Int)] w fun e w' => e = .returned (.bool true) ∧ Frm No w w' := by
  obtain ⟨cs, hcs⟩ : ∃ cs, cs = bs.take 2000 := ⟨_, rfl⟩
  have hcl : cs.length = min 2000 bs.length := by rw [hcs, List.length_take]
  have H : Hid (Src w A c cs) := by
    show Src w A c cs
    rw [hcs]
    exact ⟨h.rds.take 2000, by rw [List.length_take]; have := h.le; omega, h.nil⟩
  have HCL := Lib.hid hcl
  have HA := Lib.hid hA
  have hc := h.le
  have hkb : k + 2 ≤ bs.length := by omega
  have hk2 : k + 2 ≤ 2000 := by omega
  have HD := Lib.hid (setTwo_len cs k x (by omega))
  have HK := Lib.hid hk
  have hd1 : decide ((k : Int) < 0) = false := by simp
  clear h hcs hcl hA hk
  go_enter Try.func10, Try.ntmps10
  go_wp2_with fail
  refine (awake w).mono ?_
  rintro e w1 ⟨rfl, f1⟩
  have F1 := Lib.hid f1
  clear f1
  go_wp2_with fail
  all_goals
    refine (newWriter _ 2000 (by omega)).mono ?_
    rintro e w2 ⟨g, rfl, hg, hw, f2⟩
    have F2 := Lib.hid (F1.out.new0 f2)
    have W2 := Lib.hid hw
    have HG : Hid (w.heap.size ≤ g) := Nat.le_trans F1.out.size hg
    clear f2 hw hg
    go_wp2_with fail
    refine (wBytes2 W2.out (H.out.frm F2.out (fun _ _ x => x)) (by have := HCL.out; omega) (fun h0 e => by have := HA.out _ e (by omega); have := HG.out; omega)).mono ?_
    intro e w3 hd
    obtain ⟨v3, rfl, hw3, f3, b3⟩ := hd.yes (by have := HCL.out; simp; omega)
    have F3 := Lib.hid (F2.out.new2 f3 HG.out (fun i hi => by cases hi))
    have B3 := Lib.hid (newer (v := .slice none 0 0) F2.out.size (fun i hi => by cases hi) b3)
    have W3 : Hid (Wr w3 g v3 2000 cs false) := hw3
    clear hd hw3 f3 b3
    go_wp2_with fail
    refine (wSet16 W3.out (k : Int) x hx).mono ?_
    rintro e w4 ⟨rfl, hw4, f4⟩
    have hs : sfits cs false (k : Int) = true := by have := HK.out; have := HCL.out; simp [sfits]; omega
    rw [hs] at hw4
    have F4 := Lib.hid (F3.out.new2 f4 HG.out B3.out)
    have W4 : Hid (Wr w4 g v3 2000 (setTwo cs k x) false) := hw4
    clear hw4 f4 hs
    go_wp2_with fail
    refine (wDone W4.out).mono ?_
    rintro e w5 ⟨y, rfl, hy, f5⟩
    have O5 : w5.ownsRow w4.heap.size 5 1 y (setTwo cs k x).length (byts (setTwo cs k x)) := hy
    obtain ⟨A5, c5, rfl, hl5, hs5, hb5⟩ := Src.of_own O5
    have F5 := Lib.hid (F4.out.new0 f5)
    have S5 := Lib.hid hs5
    clear hy f5 O5 hl5 hb5 hs5
    obtain ⟨ys, hys⟩ : ∃ ys, ys = setTwo cs k x := ⟨_, rfl⟩
    have hyl : ys.length = cs.length := by rw [hys]; exact HD.out
    rw [← hys] at S5 ⊢
    have HYS := Lib.hid hys
    have HYL := Lib.hid hyl
    have hc5 := S5.out.le
    have h5k : k + 2 ≤ c5 := by have := HCL.out; omega
    clear hys hyl hc5
    first | (have hd2 : decide ((1998 : Int) < k) = false := decide_eq_false (by omega); have hyn : ys.length = 2000 := (by have := HYL.out; have := HCL.out; omega)) | (have hd2 : decide ((bs.length : Int) - 2 < k) = false := decide_eq_false (by omega); have hyn : ys.length = bs.length := (by have := HYL.out; have := HCL.out; omega))
    go_wp2_with fail
    refine (newReader_n _ _ _ _ ys hyn S5.out.rds (by omega)).mono ?_
    rintro e w6 ⟨g6, v6, rfl, hg6, hv6, hr6, f6⟩
    have F6 := Lib.hid (F5.out.new0 f6)
    have S6 := Lib.hid (S5.out.frm f6 (fun _ _ x => x))
    have H6 := Lib.hid (H.out.frm F6.out (fun _ _ x => x))
    have R6 := Lib.hid hr6
    have G6 : Hid (w.heap.size ≤ g6) := Nat.le_trans F5.out.size hg6
    clear f6 hr6 hg6 hv6
    go_wp2_with fail
    have hcl2 : k + 2 ≤ cs.length := by have := HCL.out; have := HK.out; omega
    have hyt : ys.take k = cs.take k := by
      have e1 : (cs.take k).length = k := by simp; omega
      have e2 : ys = cs.take k ++ (digs 2 x ++ cs.drop (k + 2)) := by rw [HYS.out, setTwo, List.append_assoc]
      rw [e2, List.take_append_of_le_length (by omega), List.take_of_length_le (by omega)]
    have hyd : ys.drop (k + 2) = cs.drop (k + 2) := by
      have e1 : (cs.take k ++ digs 2 x).length = k + 2 := by simp [digs_len]; omega
      have e2 : ys = (cs.take k ++ digs 2 x) ++ cs.drop (k + 2) := by rw [HYS.out, setTwo]
      rw [e2, List.drop_append_of_le_length (by omega), List.drop_of_length_le (by omega), List.nil_append]
    have hyl : cs.length = ys.length := HYL.out.symm
    have E1 : Hid (∀ n, Calls Try.prog 37 #[.slice A5 k c5, .slice A k c] (w6.drewN n) (Answers true (w6.drewN n))) := fun n =>
      equal_n _ A5 A c5 c k k (ys.take k) (cs.take k) (by rw [List.length_take]; omega) (by rw [List.length_take]; omega) ((S6.out.rds.take k).drewN _) ((H6.out.rds.take k).drewN _) (by omega) true (by rw [hyt]; exact decide_eq_true rfl)
    have E2 : Hid (∀ n (A1 A2 : Option Addr) (m1 m2 d1 d2 : Nat), m1 = ys.length - (k + 2) → m2 = ys.length - (k + 2) → A1 = (if c5 = k + 2 then A5 else A5.map (fun x => { block := x.block, off := x.off + (k + 1 + 1) })) → A2 = (if c = k + 2 then A else A.map (fun x => { block := x.block, off := x.off + (k + 1 + 1) })) →
        Calls Try.prog 37 #[.slice A1 m1 d1, .slice A2 m2 d2] (w6.drewN n) (Answers true (w6.drewN n))) := fun n A1 A2 m1 m2 d1 d2 hm1 hm2 h1 h2 =>
      equal_n _ A1 A2 d1 d2 m1 m2 (ys.drop (k + 2)) (cs.drop (k + 2)) (by rw [List.length_drop]; omega) (by rw [List.length_drop]; omega)
        ((S6.out.rds.drop (k + 2) c5 (by have := S6.out.le; omega) _ h1).drewN _) ((H6.out.rds.drop (k + 2) c (by have := H6.out.le; omega) _ h2).drewN _) (by omega) true (by rw [hyd]; exact decide_eq_true rfl)
    clear hyt hyd hyl hcl2
    have q1 : (k : Int) ≤ c5 := by omega
    have q2 : (k : Int) ≤ c := by omega
    have q3 : k ≤ c5 := by omega
    have q4 : k ≤ c := by omega
    have q5 : (k : Int) + 2 ≤ c5 := by omega
    have q6 : (k : Int) + 2 ≤ c := by omega
    have q7 : k + 2 ≤ c := by omega
    have hw1 : IntKind.i64.wrap ((k : Int) + 2) = k + 2 := by rw [IntWalk.i64_in]; omega
    refine wp_region_quiet_lit (by kernel_rfl) (by kernel_rfl) ?_
    repeat (first | go_big_quiet_step (fail) | quiet_step (fail))
    refine wpQuiet_step (fun K hK => ?_)
    go_simp
    apply Exists.intro
    refine ⟨fun n => Calls.quiet_of (E1.out n), hK _ ?_⟩
    clear hK K
    repeat (first | go_big_quiet_step (fail) | quiet_step (fail))
    refine wpQuiet_step (fun K hK => ?_)
    go_simp
    apply Exists.intro
    refine ⟨fun n => Calls.quiet_of (E2.out n _ _ _ _ _ _ ?_ ?_ ?_ ?_), hK _ ?_⟩
    · rw [hyn]; first | done | omega
    · rw [hyn]; first | done | omega
    · first | rfl | exact (if_neg (by omega)).symm | exact (if_pos (by omega)).symm
    · first | rfl | exact (if_neg (by omega)).symm | exact (if_pos (by omega)).symm
    clear hK K
    repeat (first | go_big_quiet_step (fail) | quiet_step (fail))
    refine wpQuiet_nil ?_
    intro _ hw'
    obtain ⟨nq, hw''⟩ := hw'
    subst hw''
    clear E1 E2
    have R7 := Lib.hid (R6.out.drewN nq)
    have F7 := Lib.hid (F6.out.drewN nq)
    go_wp2_with fail
    all_goals
      refine (rSkip R7.out (k : Int)).mono ?_
      rintro e w8 ⟨rfl, hr8, f8⟩
      have e8 : fits ys 0 false (k : Int) = true := by simp [fits]; omega
      have a8 : rAt ys 0 false (k : Int) = k := by rw [rAt, if_pos e8]; omega
      rw [e8, a8] at hr8
      have R8 : Hid (Rd w8 g6 v6 ys k false) := hr8
      have F8 := Lib.hid (F7.out.new1 f8 G6.out)
      clear hr8 f8 e8 a8
      go_wp2_with fail
      refine (rU16 R8.out).mono ?_
      rintro e w9 ⟨he, hr9, f9⟩
      have e9 : fits ys k false 2 = true := by simp [fits]; omega
      have a9 : rAt ys k false 2 = k + 2 := by rw [rAt, if_pos e9]; rfl
      have x9 : be (rOut ys k false 2) = x := by
        rw [rOut, if_pos e9, HYS.out]
        exact setTwo_be cs k x (by have := HCL.out; have := HK.out; omega) hx
      rw [x9] at he
      subst he
      rw [e9, a9] at hr9
      have R9 : Hid (Rd w9 g6 v6 ys (k + 2) false) := hr9
      have F9 := Lib.hid (F8.out.new1 f9 G6.out)
      clear hr9 f9 e9 a9 x9
      go_wp2_with fail
      refine (rLeft R9.out).mono ?_
      rintro e w10 ⟨rfl, n10, rfl⟩
      have F10 := Lib.hid (F9.out.drewN n10)
      go_wp2_with fail
      go_ret
      exact ⟨ret_bool (by simp; omega), F10.out⟩
end Go.Proofs.Ytgpnnnjhcjjnmaa
