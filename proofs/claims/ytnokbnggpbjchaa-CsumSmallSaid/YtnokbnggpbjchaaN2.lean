/-
  numbers answers true: Join, Update, Update32, Pseudo and Never return what the document specifies.
-/
import Derived.Test.YtnokbnggpbjchaaN1
import Derived.Deep.QuietTactic
import Derived.BigQuiet
import Derived.BigRegion
import Derived.Deep.Cut
import Derived.Deep.CutRange
import Derived.Deep.CutBlock
namespace Go.Proofs.Ytnokbnggpbjchaa
open Go.RowKit

theorem info23 : (Try.prog.info? 23).map (fun i => (i.zero, i.size, i.bytes)) = some (some (.int .u16 0), 1, 2) := by kernel_rfl

def w16l (xs : List UInt16) : List Value := xs.map fun x => Value.int .u16 (x.toNat : Int)
theorem w16l_len (xs : List UInt16) : (w16l xs).length = xs.length := by simp [w16l]
theorem w16l_one (xs : List UInt16) : ∀ u ∈ w16l xs, u.oneCell' = true := by
  intro u hu
  simp only [w16l, List.mem_map] at hu
  obtain ⟨b, _, rfl⟩ := hu
  rfl
theorem RdW.news {w : World} {ad : Addr} {xs : List UInt16} (h : RdW w (some ad) xs) : ∀ (j : Nat) (u : Value), (w16l xs)[j]? = some u → w.cell? (ad.add j) = some u := by
  intro j u hu
  have hj : j < xs.length := by
    have := (List.getElem?_eq_some_iff.1 hu).1
    rwa [w16l_len] at this
  obtain ⟨ad', e, hc⟩ := h (by omega)
  injection e with e
  subst e
  rw [hc j hj]
  rw [← hu]
  simp [w16l, hj]
theorem RdW.of_own {w : World} {A : Option Addr} {base n c : Nat} {xs : List UInt16} (h : w.ownsRow base 23 1 (.slice A n c) n (w16l xs)) : RdW w A xs := by
  intro h0
  have hl := h.1
  rw [w16l_len] at hl
  rcases h.2 with ⟨hv, hn⟩ | ⟨g, cap, cur, hv, _⟩
  · omega
  · have hA : A = some ⟨g, 0, none⟩ := by injection hv
    subst hA
    refine ⟨_, rfl, fun j hj => h.cells (g := g) rfl j _ ?_⟩
    simp [w16l, hj]

theorem pseudos (s d p : Nat) (n : Int) (hs : s < 4294967296) (hd : d < 4294967296) (hp : p < 256) : ∃ (z : Nat) (E : Int), z ≤ 65535 ∧ (E = 0 ∨ E = 2) ∧
    (∀ W, Calls Try.prog 28 #[.int .u32 (s : Int), .int .u32 (d : Int), .int .u8 (p : Int), .int .i64 n] W fun e w' => e = .returned (.tuple #[.int .u16 (z : Int), .int .i64 E]) ∧ Frm No W w') ∧
    (∀ W, Calls Try.prog 39 #[.int .i64 (s : Int), .int .i64 (d : Int), .int .i64 (p : Int), .int .i64 n] W fun e w' => e = .returned (.tuple #[.int .i64 (z : Int), .int .i64 E]) ∧ W = w') := by
  by_cases h : n < 0 ∨ 65535 < n
  · refine ⟨0, 2, by omega, .inr rfl, fun W => (pseudo_no W s d p n h).mono ?_, fun W => (refPseudo_no W s d p n h).mono ?_⟩
    · rintro e w' ⟨rfl, rfl⟩
      exact ⟨rfl, Frm.refl _ _⟩
    · rintro e w' ⟨rfl, rfl⟩
      exact ⟨rfl, rfl⟩
  · obtain ⟨m, rfl⟩ : ∃ m : Nat, n = m := ⟨n.toNat, by omega⟩
    exact ⟨psOf s d p m, 0, fold_le _, .inl rfl, fun W => pseudo_yes W s d p m hs hd hp (by omega), fun W => refPseudo_yes W s d p m hs hd hp (by omega)⟩

theorem never0 (w : World) : Calls Try.prog 30 #[.int .u16 0] w fun e w' => e = .returned (.int .u16 65535) ∧ w = w' := never_any w 0
theorem never1 (w : World) (k : Nat) (hk : ¬ k = 0) : Calls Try.prog 30 #[.int .u16 (k : Int)] w fun e w' => e = .returned (.int .u16 (k : Int)) ∧ w = w' := by
  have := never_any w k
  rwa [show neverOf k = k from if_neg hk] at this

attribute [local go_sem] undef
attribute [local irreducible] wpList wpQuiet

set_option maxRecDepth 100000 in
set_option maxHeartbeats 4000000 in
theorem numbers (w : World) (A : Option Addr) (n c : Nat) (xs : List UInt16) (k o x : Nat) (a b p : Nat) (len : Int) (hn : xs.length = n) (hA : A = none → c = 0) (hk : k ≤ 65535) (ho : o ≤ 65535) (hx : x ≤ 65535) (ha : a < 4294967296) (hb : b < 4294967296) (hp : p < 256) (h : RdW w A xs) :
    Calls Try.prog 13 #[.slice A n c, .int .u16 (k : Int), .int .u16 (o : Int), .int .u16 (x : Int), .int .u32 (a : Int), .int .u32 (b : Int), .int .u8 (p : Int), .int .i64 len] w fun e w' => e = .returned (.bool true) ∧ Frm No w w' := by
  by_cases hbig : 100000 < n
  · have h0 : (100000 : Int) < n := by omega
    go_enter Try.func13, Try.ntmps13
    go_wp2
    go_ret
    exact ⟨rfl, Frm.refl _ _⟩
  · have h0 : ¬ (100000 : Int) < n := by omega
    obtain ⟨i0, hi, hz0, hz1, hz2⟩ := info_parts info23
    have hown : (w.alloc (.cells #[] 23)).ownsRow w.heap.size 23 1 (.slice (some ⟨w.heap.size, 0, none⟩) 0 0) 0 [] := World.ownsRow_made w #[] 0 (Nat.le_refl _) (by unfold maxLen; omega) (by simp)
    obtain ⟨z, E, hz, hE, PS, PR⟩ := pseudos a b p len ha hb hp
    have PS := Lib.hid PS
    have PR := Lib.hid PR
    have H := Lib.hid h
    clear h
    have JO := Lib.hid (fun (W : World) (B : Option Addr) (c' : Nat) (h : RdW W B xs) => join_any W B n c' xs hn h (by omega))
    have RJ := Lib.hid (fun (W : World) (h : RdW W A xs) => refJoin W A n c xs hn h (by omega))
    have hJ := fold_le (addU xs)
    obtain ⟨J, hJJ⟩ : ∃ J, fold (addU xs) = J := ⟨_, rfl⟩
    rw [hJJ] at JO RJ hJ
    have UP := Lib.hid (fun W : World => update_any W k o x hk ho hx)
    have RU := Lib.hid (fun W : World => refUpdate W k o x hk ho hx)
    have hU := updOf_le k o x
    obtain ⟨u1, hu1⟩ : ∃ u, updOf k o x = u := ⟨_, rfl⟩
    rw [hu1] at UP RU hU
    have U3 := Lib.hid (fun W : World => update32_any W k a b hk ha hb)
    have RU3 := Lib.hid (fun W : World => refUpdate32 W k a b hk ha hb)
    have hU3 : upd32Of k a b ≤ 65535 := updOf_le _ _ _
    obtain ⟨u3, hu3⟩ : ∃ u, upd32Of k a b = u := ⟨_, rfl⟩
    rw [hu3] at U3 RU3 hU3
    clear hJJ hu1 hu3
    go_enter Try.func13, Try.ntmps13
    go_upto_region 3 with fail
    go_cut [17] from 26 to 28 (fun s wx => ∃ B c', s = .slice B n c' ∧ Hid (RdW wx B xs) ∧ Hid (Frm No w wx))
    case first =>
      cases A with
      | none =>
        have hx0 : xs = [] := by
          rcases Nat.eq_zero_or_pos xs.length with h0 | h0
          · exact List.eq_nil_of_length_eq_zero h0
          · obtain ⟨ad, h1, _⟩ := H.out h0
            cases h1
        obtain rfl := hA rfl
        subst hx0
        obtain rfl : n = 0 := hn.symm
        go_wp2_with (at_builtin; refine wpList_append_own_none rfl (.tmp 26) (.tmp 27) 26 rfl w.heap.size 23 i0 1 Try.underlying26 hi _ 0 [] rfl hown rfl ?_)
        go_meet
        exact ⟨_, _, rfl, fun h => absurd h (by simp), (Frm.refl No w).alloc _⟩
      | some ad =>
        have HN := Lib.hid ((RdW.frm H.out ((Frm.refl No w).alloc (.cells #[] 23)) (fun _ _ x => x)).news)
        go_wp2_with (at_builtin; refine wpList_append_own _ rfl (.tmp 26) (.tmp 27) 26 rfl w.heap.size 23 i0 (.int .u16 0) 1 2 Try.underlying26 hi hz0 hz1 hz2 rfl (by decide) _ _ _ rfl hown ad n c (w16l xs) rfl (by rw [w16l_len]; omega) HN.out (w16l_one xs) (by unfold maxLen; omega) (by omega) (by simp) ?_; intro v' w1 hown' hgr _; have HO := Lib.hid hown'; have HG := Lib.hid hgr; clear hown' hgr)
        go_meet
        have ho := HO.out
        rw [Nat.zero_add, List.nil_append] at ho
        have hf : Frm No w w1 := ((Frm.refl No w).alloc _).trans (Frm.of_grown HG.out) (fun i hi hs => by have hs' : some w.heap.size = some i := hs; injection hs' with hs'; omega)
        rcases ho.2 with ⟨rfl, hn0⟩ | ⟨g, cap, cur, rfl, _⟩
        · exact ⟨none, 0, by rw [hn0], fun h => absurd h (by omega), hf⟩
        · exact ⟨_, cap, rfl, RdW.of_own ho, hf⟩
    case rest =>
    obtain ⟨B, c', rfl, RB, HF⟩ := hcut
    have RA := Lib.hid (H.out.frm HF.out (fun _ _ x => x))
    have q1 : ((J : Int) != (J : Int)) = false := by simp
    have q2 : ((u1 : Int) != (u1 : Int)) = false := by simp
    have q3 : ((u3 : Int) != (u3 : Int)) = false := by simp
    have q4 : ((z : Int) != (z : Int)) = false := by simp
    have q5 : (E != E) = false := by simp
    clear hown hi hz0 hz1 hz2 H hE
    go_wp2_with fail
    refine (PS.out wc).mono ?_
    rintro e1 w1 ⟨rfl, hf⟩
    have F1 := Lib.hid (HF.out.new0 hf)
    have A1 := Lib.hid (RA.out.frm hf (fun _ _ x => x))
    have B1 := Lib.hid (RB.out.frm hf (fun _ _ x => x))
    clear hf HF RA RB PS
    go_wp2_with fail
    refine (PR.out w1).mono ?_
    rintro e2 w2 ⟨rfl, rfl⟩
    go_wp2_with fail
    refine (JO.out w1 B c' B1.out).mono ?_
    rintro e3 w3 ⟨rfl, hf⟩
    have F3 := Lib.hid (F1.out.new0 hf)
    have A3 := Lib.hid (A1.out.frm hf (fun _ _ x => x))
    have B3 := Lib.hid (B1.out.frm hf (fun _ _ x => x))
    clear hf F1 A1 B1 JO
    go_wp2_with fail
    refine (RJ.out w3 A3.out).mono ?_
    rintro e4 w4 ⟨rfl, rfl⟩
    go_wp2_with fail
    refine (UP.out w3).mono ?_
    rintro e5 w5 ⟨rfl, hf⟩
    have F5 := Lib.hid (F3.out.new0 hf)
    have A5 := Lib.hid (A3.out.frm hf (fun _ _ x => x))
    have B5 := Lib.hid (B3.out.frm hf (fun _ _ x => x))
    clear hf F3 A3 B3 UP
    go_wp2_with fail
    refine (RU.out w5).mono ?_
    rintro e6 w6 ⟨rfl, rfl⟩
    go_wp2_with fail
    refine (U3.out w5).mono ?_
    rintro e7 w7 ⟨rfl, hf⟩
    have F7 := Lib.hid (F5.out.new0 hf)
    have A7 := Lib.hid (A5.out.frm hf (fun _ _ x => x))
    have B7 := Lib.hid (B5.out.frm hf (fun _ _ x => x))
    clear hf F5 A5 B5 U3
    go_wp2_with fail
    refine (RU3.out w7).mono ?_
    rintro e8 w8 ⟨rfl, rfl⟩
    go_wp2_with fail
    clear q1 q2 q3 q4 q5 RJ RU RU3 PR hz hJ hU hU3
    go_loopw [97] (fun i wr => ∃ j m : Nat, j ≤ n ∧ i = .int .i64 j ∧ wr = w7.drewN m) (fun i _ => n - (intOf i).toNat)
    case atStart => exact ⟨0, 0, Nat.zero_le _, rfl, rfl⟩
    case round =>
      obtain ⟨j, m, hj, rfl, rfl⟩ := hrel
      by_cases hlt : j < n
      · have hjx : j < xs.length := by omega
        obtain ⟨ad, rfl, hc1⟩ := A7.out.at_ hjx
        obtain ⟨bd, rfl, hc2⟩ := B7.out.at_ hjx
        obtain ⟨y, hy⟩ : ∃ y, xs[j].toNat = y := ⟨_, rfl⟩
        rw [hy] at hc1 hc2
        have q1 : ((y : Int) != (y : Int)) = false := by simp
        clear hy
        go_wp2
        go_quiet (fail)
        go_wp2
        go_roundw
        case rel => exact ⟨j + 1, _, by omega, by go_num, rfl⟩
        case measure => simp [intOf]; omega
      · by_cases hk0 : k = 0
        · subst hk0
          have N0 := Lib.hid never0
          go_wp2_with fail
          refine (N0.out _).mono ?_
          rintro e9 w9 ⟨rfl, rfl⟩
          go_wp2_with fail
          refine (N0.out _).mono ?_
          rintro e9 w9 ⟨rfl, rfl⟩
          go_wp2
          go_ret
          exact ⟨rfl, F7.out.drewN m⟩
        · have N1 := Lib.hid (fun W : World => never1 W k hk0)
          have g0 : decide ((0 : Int) < k) = true := decide_eq_true (by omega)
          have g1 : (0 : Int) < k := by omega
          have g2 : 0 < k := by omega
          have g3 : ((k : Int) == (k : Int)) = true := by simp
          go_wp2_with fail
          refine (N1.out _).mono ?_
          rintro e9 w9 ⟨rfl, rfl⟩
          go_wp2
          go_ret
          exact ⟨rfl, F7.out.drewN m⟩

set_option maxRecDepth 100000 in
theorem csumNumbers (w : World) (A : Option Addr) (n c : Nat) (xs : List UInt16) (k o x : Nat) (a b p : Nat) (len : Int) (hn : xs.length = n) (hA : A = none → c = 0) (hk : k ≤ 65535) (ho : o ≤ 65535) (hx : x ≤ 65535) (ha : a < 4294967296) (hb : b < 4294967296) (hp : p < 256) (h : RdW w A xs) :
    Calls Try.prog 4 #[.slice A n c, .int .u16 (k : Int), .int .u16 (o : Int), .int .u16 (x : Int), .int .u32 (a : Int), .int .u32 (b : Int), .int .u8 (p : Int), .int .i64 len] w fun e w' => e = .returned (.bool true) ∧ Frm No w w' := by
  have HN := Lib.hid (numbers w A n c xs k o x a b p len hn hA hk ho hx ha hb hp h)
  clear h
  go_enter Try.func4, Try.ntmps4
  go_wp2_with fail
  refine HN.out.mono ?_
  rintro e w1 ⟨rfl, hf⟩
  have F1 := Lib.hid hf
  clear hf HN
  go_wp2_with fail
  refine (awake w1).mono ?_
  rintro e w2 ⟨rfl, hf⟩
  have F2 := Lib.hid (F1.out.new0 hf)
  clear hf
  go_wp2
  go_ret
  exact ⟨rfl, F2.out⟩
end Go.Proofs.Ytnokbnggpbjchaa
