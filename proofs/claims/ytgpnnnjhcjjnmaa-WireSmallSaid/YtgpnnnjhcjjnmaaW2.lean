/-
  Writers: the contracts of package wire's exported methods, but Set16.
-/
import Derived.Test.YtgpnnnjhcjjnmaaW1
import Derived.Test.YtgpnnnjhcjjnmaaS1
import Derived.Test.YtgpnnnjhcjjnmaaZ1
import Derived.Laws.AppendOwnNone
namespace Go.Proofs.Ytgpnnnjhcjjnmaa
open Go.RowKit

/-- What is read at A, of the capacity c, is xs; a nil slice has no capacity. -/
structure Src (w : World) (A : Option Addr) (c : Nat) (xs : List UInt8) : Prop where
  rds : Rds w A xs
  le : xs.length ≤ c
  nil : A = none → c = 0

theorem Src.of_own {w : World} {base : Nat} {v : Value} {n : Nat} {bs : List UInt8} (h : w.ownsRow base 5 1 v n (byts bs)) :
    ∃ A c, v = .slice A n c ∧ n = bs.length ∧ Src w A c bs ∧ v.ownBlock = Go.Proofs.Ytgpnnnjhcjjnmaa.blk A := by
  have hl := h.1
  rw [byts_len] at hl
  have h' := h
  rcases h.2 with ⟨rfl, hn⟩ | ⟨g, cap, cur, rfl, _, _, h1, h2, _⟩
  · subst hn
    exact ⟨none, 0, rfl, by omega, ⟨Rds.of_own h', by omega, fun _ => rfl⟩, rfl⟩
  · exact ⟨_, _, rfl, by omega, ⟨Rds.of_own h', by omega, fun h => by cases h⟩, rfl⟩

section
variable {w w' : World} {g : Nat} {v : Value} {bs : List UInt8} {m : Nat} {f : Bool}

theorem Src.frm {S : Nat → Prop} {A : Option Addr} {c : Nat} {xs : List UInt8} (h : Src w A c xs) (hf : Frm S w w') (hS : ∀ k, Go.Proofs.Ytgpnnnjhcjjnmaa.blk A = some k → ¬ S k) : Src w' A c xs :=
  ⟨h.rds.frm hf hS, h.le, h.nil⟩

set_option maxRecDepth 100000 in
set_option maxHeartbeats 400000 in
theorem put_nil (h : Wr w g v m bs f) (hyes : wfits m bs f 0 = true) :
    Calls Try.prog 60 #[.pointer (some ⟨g, 0, none⟩), .slice none 0 0] w (WDone w g v m bs f []) := by
  obtain ⟨i0, hi, hz0, hz1, hz2⟩ := info_parts info5
  have H := Lib.hid h
  have HN := Lib.hid hyes
  clear h hyes
  go_enter Try.func60, Try.ntmps60
  go_wp2_with fail
  refine (room H.out 0).mono ?_
  rintro e w1 ⟨rfl, hw1, hf1⟩
  rw [HN.out] at hw1 ⊢
  obtain ⟨A, cv, hv, _, hnc, hc, hrv, _⟩ := own_form hw1.own
  have h2 : w1.cell? ⟨g, 2, none⟩ = some (.slice A bs.length cv) := by rw [hw1.blk.cell, ← hv]; rfl
  have q2 := hw1.blk.frozen 2
  have hown : w1.ownsRow 0 5 1 (.slice A bs.length cv) bs.length (byts bs) := by rw [← hv]; exact hw1.own
  have HW := Lib.hid hw1
  have HF := Lib.hid hf1
  have HV := Lib.hid hv
  clear hw1 hf1 hv hrv hc
  go_wp2_with (at_builtin; refine wpList_append_own_none rfl (.tmp 12) (.tmp 13) 22 rfl 0 5 i0 1 Try.underlying22 hi (.slice A bs.length cv) bs.length (byts bs) rfl hown rfl ?_)
  go_end0
  refine ⟨v, rfl, ?_, ((HF.out.more (Two.one w))).setCell (p := ⟨g, 2, none⟩) (fun _ => .inl rfl) _, .inl rfl⟩
  rw [← HV.out]
  have hh := HW.out
  simp only [List.length_nil, List.append_nil, Int.ofNat_zero, HN.out, if_true]
  exact ⟨by simpa using hh.blk.set_ 2 v, ownsRow_setCell_other hh.own hh.ne _, hh.le, hh.small⟩

theorem put (h : Wr w g v m bs f) {A : Option Addr} {c n : Nat} {xs : List UInt8} (hs : Src w A c xs) (hn : xs.length = n) (hne : Go.Proofs.Ytgpnnnjhcjjnmaa.blk A ≠ some g) :
    Calls Try.prog 60 #[.pointer (some ⟨g, 0, none⟩), .slice A n c] w (WDone w g v m bs f xs) := by
  cases hf : wfits m bs f n with
  | false => exact put_no h A c n xs hn hf
  | true =>
    rcases A with _ | ad
    · have hc := hs.nil rfl
      have h0 : xs = [] := by
        have := hs.le
        exact List.eq_nil_of_length_eq_zero (by omega)
      subst h0 hc hn
      exact put_nil h hf
    · exact put_yes h ad c n xs hs.rds (fun h => hne (by rw [← h]; rfl)) hn hf

set_option maxRecDepth 100000 in
set_option maxHeartbeats 400000 in
theorem wBytes (h : Wr w g v m bs f) {A : Option Addr} {c n : Nat} {xs : List UInt8} (hs : Src w A c xs) (hn : xs.length = n) (hne : Go.Proofs.Ytgpnnnjhcjjnmaa.blk A ≠ some g) :
    Calls Try.prog 22 #[.pointer (some ⟨g, 0, none⟩), .slice A n c] w (WDone w g v m bs f xs) := by
  have H := Lib.hid (put h hs hn hne)
  clear h hs hn hne
  go_enter Try.func22, Try.ntmps22
  go_wp2_with fail
  refine H.out.mono ?_
  rintro e w1 ⟨v', rfl, h1, h2, h3⟩
  have HH : Hid _ := Lib.hid (And.intro h1 (And.intro h2 h3))
  clear h1 h2 h3
  go_wp2
  go_end0
  exact ⟨v', rfl, HH.out⟩

set_option maxRecDepth 100000 in
set_option maxHeartbeats 400000 in
theorem wU8 (h : Wr w g v m bs f) (x : Nat) (hx : x < 256) : Calls Try.prog 19 #[.pointer (some ⟨g, 0, none⟩), .int .u8 (x : Int)] w (WDone w g v m bs f (digs 1 x)) := by
  have H := Lib.hid h
  clear h
  go_enter Try.func19, Try.ntmps19
  go_wp2_with fail
  refine (split8 w x hx).mono ?_
  rintro e w1 ⟨y, rfl, hy, hf⟩
  obtain ⟨A, c, rfl, hn, hs, hb⟩ := Src.of_own hy
  have hne : Go.Proofs.Ytgpnnnjhcjjnmaa.blk A ≠ some g := by
    intro h0
    have := (own_lt hy (hb.trans h0)).1
    have := H.out.blk.lt
    omega
  have hw1 : Wr w1 g v m bs f := H.out.frm hf (fun x => x) (fun _ _ x => x)
  have HP := Lib.hid (put hw1 hs rfl hne)
  have HF := Lib.hid hf
  clear hy hs hb hne hw1 hf
  go_wp2_with fail
  refine HP.out.mono ?_
  rintro e w2 ⟨v', rfl, h1, h2, h3⟩
  have HH := Lib.hid (And.intro h1 (And.intro h2 h3))
  clear h1 h2 h3
  go_wp2
  go_end0
  refine ⟨v', rfl, HH.out.1, (HF.out.of_no _).trans HH.out.2.1 (fun _ _ x => x), ?_⟩
  rcases HH.out.2.2 with h | h
  · exact .inl h
  · exact .inr fun i hi => Nat.le_trans HF.out.size (h i hi)

set_option maxRecDepth 100000 in
set_option maxHeartbeats 400000 in
theorem wU16 (h : Wr w g v m bs f) (x : Nat) (hx : x < 65536) : Calls Try.prog 20 #[.pointer (some ⟨g, 0, none⟩), .int .u16 (x : Int)] w (WDone w g v m bs f (digs 2 x)) := by
  have H := Lib.hid h
  clear h
  go_enter Try.func20, Try.ntmps20
  go_wp2_with fail
  refine (split16 w x hx).mono ?_
  rintro e w1 ⟨y, rfl, hy, hf⟩
  obtain ⟨A, c, rfl, hn, hs, hb⟩ := Src.of_own hy
  have hne : Go.Proofs.Ytgpnnnjhcjjnmaa.blk A ≠ some g := by
    intro h0
    have := (own_lt hy (hb.trans h0)).1
    have := H.out.blk.lt
    omega
  have hw1 : Wr w1 g v m bs f := H.out.frm hf (fun x => x) (fun _ _ x => x)
  have HP := Lib.hid (put hw1 hs rfl hne)
  have HF := Lib.hid hf
  clear hy hs hb hne hw1 hf
  go_wp2_with fail
  refine HP.out.mono ?_
  rintro e w2 ⟨v', rfl, h1, h2, h3⟩
  have HH := Lib.hid (And.intro h1 (And.intro h2 h3))
  clear h1 h2 h3
  go_wp2
  go_end0
  refine ⟨v', rfl, HH.out.1, (HF.out.of_no _).trans HH.out.2.1 (fun _ _ x => x), ?_⟩
  rcases HH.out.2.2 with h | h
  · exact .inl h
  · exact .inr fun i hi => Nat.le_trans HF.out.size (h i hi)

set_option maxRecDepth 100000 in
set_option maxHeartbeats 400000 in
theorem wU32 (h : Wr w g v m bs f) (x : Nat) (hx : x < 4294967296) : Calls Try.prog 21 #[.pointer (some ⟨g, 0, none⟩), .int .u32 (x : Int)] w (WDone w g v m bs f (digs 4 x)) := by
  have H := Lib.hid h
  clear h
  go_enter Try.func21, Try.ntmps21
  go_wp2_with fail
  refine (split32 w x hx).mono ?_
  rintro e w1 ⟨y, rfl, hy, hf⟩
  obtain ⟨A, c, rfl, hn, hs, hb⟩ := Src.of_own hy
  have hne : Go.Proofs.Ytgpnnnjhcjjnmaa.blk A ≠ some g := by
    intro h0
    have := (own_lt hy (hb.trans h0)).1
    have := H.out.blk.lt
    omega
  have hw1 : Wr w1 g v m bs f := H.out.frm hf (fun x => x) (fun _ _ x => x)
  have HP := Lib.hid (put hw1 hs rfl hne)
  have HF := Lib.hid hf
  clear hy hs hb hne hw1 hf
  go_wp2_with fail
  refine HP.out.mono ?_
  rintro e w2 ⟨v', rfl, h1, h2, h3⟩
  have HH := Lib.hid (And.intro h1 (And.intro h2 h3))
  clear h1 h2 h3
  go_wp2
  go_end0
  refine ⟨v', rfl, HH.out.1, (HF.out.of_no _).trans HH.out.2.1 (fun _ _ x => x), ?_⟩
  rcases HH.out.2.2 with h | h
  · exact .inl h
  · exact .inr fun i hi => Nat.le_trans HF.out.size (h i hi)
end
end Go.Proofs.Ytgpnnnjhcjjnmaa
