/-
  tells: Sum, Of, Right, Fix and Over beside the document's own answers; the bytes are kept, and what Fix returns lies apart.
-/
import Derived.Test.YtnokbnggpbjchaaE13
import Derived.Test.YtnokbnggpbjchaaN4
import Derived.Test.YtnokbnggpbjchaaL3
import Derived.Test.YtnokbnggpbjchaaCsumPackets
import Derived.Deep.Cut
import Derived.Deep.CutRange
import Derived.Deep.CutBlock
namespace Go.Proofs.Ytnokbnggpbjchaa
open Go.RowKit

theorem own_base {w : World} {b b' : Nat} {e : TypeId} {size n : Nat} {v : Value} {xs : List Value} (h : w.ownsRow b e size v n xs) (hb : b' ≤ b) : w.ownsRow b' e size v n xs := by
  refine ⟨h.1, ?_⟩
  rcases h.2 with h2 | ⟨g, cap, cur, hv, hg, rest⟩
  · exact .inl h2
  · exact .inr ⟨g, cap, cur, hv, Nat.le_trans hb hg, rest⟩

/-- What was lent without the marks behind it. -/
theorem own_cut {w : World} {b : Nat} {A : Option Addr} {n c : Nat} {bs : List UInt8} (hn : bs.length = n) (h : w.ownsRow b 5 1 (.slice A (n + 12) c) (n + 12) (byts (bs ++ marks 12))) : w.ownsRow b 5 1 (.slice A n c) n (byts bs) := by
  refine ⟨by rw [byts_len]; omega, ?_⟩
  rcases h.2 with ⟨h2, h3⟩ | ⟨g, cap, cur, hv, hg, hh, h1, h2, h3, h4⟩
  · omega
  · injection hv with e1 e2 e3
    subst e1 e3
    refine .inr ⟨g, c, cur, rfl, hg, hh, by omega, h2, h3, ?_⟩
    have := congrArg (List.take (n * 1)) h4
    rw [List.take_take, show min (n * 1) ((n + 12) * 1) = n * 1 by omega] at this
    rw [this]
    simp [byts, hn]

/-- What Fix answers, in the program and in the document. -/
def Fixd (w : World) (bs ys : List UInt8) (E : Int) (e : Ending) (w' : World) : Prop :=
  ∃ B c, e = .returned (.tuple #[.slice B ys.length c, .int .i64 E]) ∧ w'.ownsRow w.heap.size 5 1 (.slice B ys.length c) ys.length (byts ys) ∧ ys.length ≤ bs.length ∧ Frm No w w'

theorem fix_any (w : World) (A : Option Addr) (n c : Nat) (bs : List UInt8) (k : Int) (hn : bs.length = n) (hA : A = none → c = 0) (h : Rds w A bs) (h4 : n ≤ 140737488355328) :
    ∃ ys E, (∀ W A' c', (A' = none → c' = 0) → Rds W A' bs → Calls Try.prog 14 #[.slice A' n c', .int .i64 k] W (Fixd W bs ys E)) ∧ (∀ W A' c', (A' = none → c' = 0) → Rds W A' bs → Calls Try.prog 32 #[.slice A' n c', .int .i64 k] W (Fixd W bs ys E)) := by
  by_cases hk : k < 0 ∨ k % 2 ≠ 0 ∨ (n : Int) - 2 < k
  · refine ⟨[], 2, fun W A' c' _ _ => (fix_no W A' n c' k hk h4).mono ?_, fun W A' c' _ _ => (refFix_no W A' n c' k hk h4).mono ?_⟩
    all_goals
      rintro e w' ⟨rfl, rfl⟩
      exact ⟨none, 0, rfl, World.ownsRow_nil _ _ _ _, Nat.zero_le _, Frm.refl _ _⟩
  · obtain ⟨j, rfl⟩ : ∃ j : Nat, k = j := ⟨k.toNat, by omega⟩
    have h1 : j % 2 = 0 := by omega
    have h2 : j + 1 < n := by omega
    have hl : (fixOf bs j).length = n := by rw [fixOf_length, hn]
    refine ⟨fixOf bs j, 0, fun W A' c' _ hr => (fix_yes W A' n c' bs j hn h1 h2 hr h4).mono ?_, fun W A' c' hA' hr => (refFix_yes W A' n c' bs j hn hA' h1 h2 hr h4).mono ?_⟩
    all_goals
      rintro e w' ⟨g, c2, rfl, hr2, hf⟩
      refine ⟨some ⟨g, 0, none⟩, c2, by rw [hl], ?_, by omega, hf⟩
      rw [hl]
      exact hr2

theorem same_true (w : World) (A B : Option Addr) (c d : Nat) (xs : List UInt8) (ha : Rds w A xs) (hb : Rds w B xs) (hs : xs.length ≤ 140737488355328) :
    Calls Try.prog 33 #[.slice A xs.length c, .slice B xs.length d] w (Answers true w) := by
  have := sames_any w A B c d xs xs ha hb hs
  rwa [decide_eq_true rfl] at this

set_option maxRecDepth 100000 in
set_option maxHeartbeats 4000000 in
theorem tells_any (w : World) (A : Option Addr) (n c : Nat) (bs : List UInt8) (k : Int) (p : Nat) (hp : p ≤ 65535) (hn : bs.length = n) (hc : n ≤ c) (hA : A = none → c = 0) (h : Rds w A bs) (h4 : n ≤ 140737488351232) :
    Calls Try.prog 11 #[.slice A n c, .int .i64 k, .int .u16 (p : Int)] w fun e w' => e = .returned (.bool true) ∧ Frm No w w' := by
  obtain ⟨ys, E, FX, RX⟩ := fix_any w A n c bs k hn hA h (by omega)
  have LX := Lib.hid (lent w A c n bs hn ⟨h, by omega, hA⟩ h4)
  have H := Lib.hid h
  have FX' := Lib.hid FX
  have RX' := Lib.hid RX
  have HA := Lib.hid hA
  clear FX RX h hA
  go_enter Try.func11, Try.ntmps11
  go_wp2_with fail
  refine LX.out.mono ?_
  rintro e w1 ⟨L, c1, rfl, hown, hf⟩
  rw [hn] at hown ⊢
  have hcap : n + 12 ≤ c1 ∧ (L = none → c1 = 0) ∧ (∀ i, blk L = some i → w.heap.size ≤ i ∧ i < w1.heap.size) := by
    rcases hown.2 with ⟨_, h0⟩ | ⟨g, cap, cur, hv, hg, hh, h1, _⟩
    · omega
    · injection hv with e1 e2 e3
      subst e1 e3
      refine ⟨h1, (fun hx => by cases hx), fun i hi => ?_⟩
      have : g = i := by simpa [blk] using hi
      subst this
      exact ⟨hg, lt_heap hh⟩
  obtain ⟨k1, k2, k3⟩ := hcap
  have K2 := Lib.hid k2
  have K3 := Lib.hid k3
  have OW := Lib.hid hown
  have OL := Lib.hid (own_cut hn hown)
  have F1 := Lib.hid hf
  have H1 := Lib.hid (H.out.frm hf (fun _ _ x => x))
  have L1 := Lib.hid (Rds.of_own OL.out)
  clear hown hf k2 k3 LX H
  go_wp2_with fail
  refine (FX'.out w1 L c1 K2.out L1.out).mono ?_
  rintro e w2 ⟨B, c2, rfl, hown2, hle, hf⟩
  have OB := Lib.hid hown2
  have F2 := Lib.hid (F1.out.new0 hf)
  have H2 := Lib.hid (H1.out.frm hf (fun _ _ x => x))
  have L2 := Lib.hid (L1.out.frm hf (fun _ _ x => x))
  have OW2 := Lib.hid (hf.own OW.out (fun _ _ x => x))
  have Z2 := Lib.hid hf.size
  clear hown2 hf H1 L1 FX' OW
  go_wp2_with fail
  refine (RX'.out w2 A c HA.out H2.out).mono ?_
  rintro e w3 ⟨C, c3, rfl, hown3, _, hf⟩
  have C3 := Lib.hid (Rds.of_own hown3)
  have B3 := Lib.hid (hf.own OB.out (fun _ _ x => x))
  have F3 := Lib.hid (F2.out.new0 hf)
  have H3 := Lib.hid (H2.out.frm hf (fun _ _ x => x))
  have L3 := Lib.hid (L2.out.frm hf (fun _ _ x => x))
  have OW3 := Lib.hid (hf.own OW2.out (fun _ _ x => x))
  clear hown3 hf H2 L2 OB RX' OW2 F2
  go_wp2_with fail
  refine (same_true w3 B C c2 c3 ys (Rds.of_own B3.out) C3.out (by omega)).mono ?_
  rintro e w4 ⟨rfl, m, rfl⟩
  have hs1 := sumOf_le bs
  have hs2 : ofOf bs ≤ 65535 := by unfold ofOf; omega
  have hs3 := overOf_le p bs
  have M1 := Lib.hid (fun W A' c' (hr : Rds W A' bs) (hc' : n ≤ c') => sum_any W A' n c' bs hn hc' hr (by omega))
  have M2 := Lib.hid (fun W A' c' (hr : Rds W A' bs) => refSum W A' n c' bs hn hr (by omega))
  have M3 := Lib.hid (fun W A' c' (hr : Rds W A' bs) (hc' : n ≤ c') => of_any W A' n c' bs hn hc' hr (by omega))
  have M4 := Lib.hid (fun W A' c' (hr : Rds W A' bs) => refOf W A' n c' bs hn hr (by omega))
  have M5 := Lib.hid (fun W A' c' (hr : Rds W A' bs) (hc' : n ≤ c') => right_any W A' n c' bs hn hc' hr (by omega))
  have M6 := Lib.hid (fun W A' c' (hr : Rds W A' bs) (hc' : n ≤ c') => over_any W p hp A' n c' bs hn hc' hr (by omega))
  have M7 := Lib.hid (fun W A' c' (hr : Rds W A' bs) => refOver W p hp A' n c' bs hn hr (by omega))
  obtain ⟨b, hb1, hb2⟩ : ∃ b : Bool, decide (sumOf bs = 65535) = b ∧ (((sumOf bs : Nat) : Int) == 65535) = b := by
    refine ⟨_, rfl, ?_⟩
    by_cases he : sumOf bs = 65535
    · rw [decide_eq_true he, he]; rfl
    · rw [decide_eq_false he]
      simp
      omega
  rw [hb1] at M5
  obtain ⟨s, hs⟩ : ∃ s, sumOf bs = s := ⟨_, rfl⟩
  obtain ⟨o, ho⟩ : ∃ s, ofOf bs = s := ⟨_, rfl⟩
  obtain ⟨v, hv⟩ : ∃ s, overOf p bs = s := ⟨_, rfl⟩
  rw [hs] at hs1 M1 M2 hb2
  rw [ho] at hs2 M3 M4
  rw [hv] at hs3 M6 M7
  clear hs ho hv hb1
  go_wp2_with fail
  refine (M1.out _ L c1 (L3.out.drewN m) (by omega)).mono ?_
  rintro e w5 ⟨rfl, hf⟩
  have G5 := Lib.hid (((Frm.refl No w3).drewN m).new0 hf)
  clear hf
  go_wp2_with fail
  refine (M2.out _ A c (H3.out.frm G5.out (fun _ _ x => x))).mono ?_
  rintro e w6 ⟨rfl, rfl⟩
  go_wp2_with fail
  refine (M3.out _ L c1 (L3.out.frm G5.out (fun _ _ x => x)) (by omega)).mono ?_
  rintro e w6 ⟨rfl, hf⟩
  have G6 := Lib.hid (G5.out.new0 hf)
  clear hf G5
  go_wp2_with fail
  refine (M4.out _ A c (H3.out.frm G6.out (fun _ _ x => x))).mono ?_
  rintro e w7 ⟨rfl, rfl⟩
  go_wp2_with fail
  refine (M5.out _ L c1 (L3.out.frm G6.out (fun _ _ x => x)) (by omega)).mono ?_
  rintro e w7 ⟨rfl, hf⟩
  have G7 := Lib.hid (G6.out.new0 hf)
  clear hf G6
  go_wp2_with fail
  refine (M2.out _ A c (H3.out.frm G7.out (fun _ _ x => x))).mono ?_
  rintro e w8 ⟨rfl, rfl⟩
  go_wp2_with fail
  refine (M6.out _ L c1 (L3.out.frm G7.out (fun _ _ x => x)) (by omega)).mono ?_
  rintro e w8 ⟨rfl, hf⟩
  have G8 := Lib.hid (G7.out.new0 hf)
  clear hf G7
  go_wp2_with fail
  refine (M7.out _ A c (H3.out.frm G8.out (fun _ _ x => x))).mono ?_
  rintro e w9 ⟨rfl, rfl⟩
  have HK := Lib.hid (kept_bytes w8 L A c1 c n bs hn k1 (Rds.of_own (G8.out.own OW3.out (fun _ _ x => x))) (H3.out.frm G8.out (fun _ _ x => x)) h4)
  go_wp2_with fail
  refine HK.out.mono ?_
  rintro e w9 ⟨rfl, m2, rfl⟩
  have F9 := Lib.hid ((F3.out.new0 G8.out).drewN m2)
  have OL9 := Lib.hid (((G8.out.drewN m2).alloc (.cells #[.slice L n c1, .slice B ys.length c2] 22)).own (own_cut hn OW3.out) (fun _ _ x => x))
  have OB9 := Lib.hid (own_base (((G8.out.drewN m2).alloc (.cells #[.slice L n c1, .slice B ys.length c2] 22)).own B3.out (fun _ _ x => x)) (Nat.le_trans F1.out.size (Nat.le_refl _)))
  have NE : Hid (∀ i, (Value.slice L n c1).ownBlock = some i → (Value.slice B ys.length c2).ownBlock ≠ some i) := by
    intro i h1 h2
    have q0 : Go.Proofs.Ytnokbnggpbjchaa.blk L = some i := by
      cases L with
      | none => cases h1
      | some a => exact h1
    have q1 := K3.out i q0
    have q2 := (B3.out.lt i h2).1
    omega
  have HAP := Lib.hid (apart_two ((w8.drewN m2).alloc (.cells #[.slice L n c1, .slice B ys.length c2] 22)) w8.heap.size w.heap.size _ _ n ys.length bs ys L B c1 c2 rfl rfl (Blk.new _ _ _) OL9.out OB9.out NE.out h4 (by omega) (F9.out.alloc _).size)
  go_wp2_with fail
  refine HAP.out.mono ?_
  rintro e w10 ⟨rfl, hf⟩
  have F10 : Hid (Frm No w w10) := (F9.out.alloc _).trans hf (fun i hi hs => by
    obtain ⟨j, hj, he⟩ := hs
    rcases j with _ | _ | j
    · have := (OL9.out.lt i he).1
      omega
    · have := (OB9.out.lt i he).1
      omega
    · omega)
  clear hf
  go_wp2
  go_ret
  exact ⟨rfl, F10.out⟩
end Go.Proofs.Ytnokbnggpbjchaa
