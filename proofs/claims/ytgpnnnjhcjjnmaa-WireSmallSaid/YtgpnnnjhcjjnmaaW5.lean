/-
  Writers: Bytes of a slice that is empty, whatever its address.
-/
import Derived.Test.YtgpnnnjhcjjnmaaA1
namespace Go.Proofs.Ytgpnnnjhcjjnmaa
open Go.RowKit
section
variable {w w' : World} {g : Nat} {v : Value} {bs : List UInt8} {m : Nat} {f : Bool}

set_option maxRecDepth 100000 in
set_option maxHeartbeats 400000 in
theorem put_empty (h : Wr w g v m bs f) (ad : Addr) (c n : Nat) (xs : List UInt8) (h0 : xs = []) (hx : xs.length = n) (hyes : wfits m bs f n = true) :
    Calls Try.prog 60 #[.pointer (some ⟨g, 0, none⟩), .slice (some ad) n c] w (WDone w g v m bs f xs) := by
  obtain ⟨i0, hi, hz0, hz1, hz2⟩ := info_parts info5
  have H := Lib.hid h
  have HN := Lib.hid hyes
  have HX := Lib.hid hx
  have H0 := Lib.hid h0
  clear h hyes hx h0
  go_enter Try.func60, Try.ntmps60
  go_wp2_with fail
  refine (room H.out _).mono ?_
  rintro e w1 ⟨rfl, hw1, hf1⟩
  rw [HN.out] at hw1 ⊢
  obtain ⟨A, cv, hv, _, hnc, hc, hrv, _⟩ := own_form hw1.own
  have h2 : w1.cell? ⟨g, 2, none⟩ = some (.slice A bs.length cv) := by rw [hw1.blk.cell, ← hv]; rfl
  have hown : w1.ownsRow 0 5 1 (.slice A bs.length cv) bs.length (byts bs) := by rw [← hv]; exact hw1.own
  have hfit : (n : Int) ≤ (m : Int) - bs.length := by
    have := HN.out
    simp [wfits] at this
    omega
  have hsm := hw1.small
  have hr1 : Rds w1 (some ad) xs := by rw [H0.out]; exact Rds.nil _ _
  have HNEWS := Lib.hid hr1.news
  have HW := Lib.hid hw1
  have HF := Lib.hid hf1
  have HV := Lib.hid hv
  clear hw1 hf1 hv hrv hc hr1
  go_wp2_with (at_builtin; refine wpList_append_own_at _ rfl (.tmp 12) (.tmp 13) 22 rfl 0 5 i0 (.int .u8 0) 1 1 Try.underlying22 hi hz0 hz1 hz2 rfl (by decide) (.slice A bs.length cv) bs.length (byts bs) rfl hown ad n c (byts xs) rfl (by rw [byts_len, HX.out]; omega) HNEWS.out (byts_one xs) (by unfold maxLen; omega) (by omega) (by omega) ?_; intro v' w2 hown' hgr _ hnew; obtain ⟨A', c', rfl⟩ := own_slice hown'; rw [← HV.out] at hgr hnew; have hg2 := Wr.after HW.out hgr; have c2 := (hg2.cell 2).trans rfl; have q2 := hg2.frozen 2; have HO := Lib.hid hown'; have HG := Lib.hid hgr; have HG2 := Lib.hid hg2; have HNW := Lib.hid hnew; clear hown' hgr hg2 hnew)
  go_end0
  have h3 : Frm (Two g v) w w2 := (HF.out.more (Two.one w)).trans (Frm.of_grown HG.out) (fun i _ hi => .inr hi)
  refine ⟨.slice A' (bs.length + n) c', rfl, ?_, h3.setCell (p := ⟨g, 2, none⟩) (fun _ => .inl rfl) _, ?_⟩
  · rw [HX.out, HN.out]
    have ho : w2.ownsRow 0 5 1 (.slice A' (bs.length + n) c') (bs ++ xs).length (byts (bs ++ xs)) := by
      have := HO.out
      rw [List.length_append, HX.out]
      simpa [byts] using this
    have hne2 : (Value.slice A' (bs.length + n) c').ownBlock ≠ some g := own_blk_ne ho HG2.out (by decide)
    refine ⟨by simpa using HG2.out.set_ 2 (.slice A' (bs.length + n) c'), ownsRow_setCell_other ho hne2 _, ?_, hsm⟩
    simp only [if_true, List.length_append, HX.out]
    omega
  · rcases HNW.out with h | h
    · exact .inl h
    · refine .inr fun i hi => ?_
      rw [h] at hi
      injection hi with hi
      have := HF.out.size
      omega

theorem put2 (h : Wr w g v m bs f) {A : Option Addr} {c n : Nat} {xs : List UInt8} (hs : Src w A c xs) (hn : xs.length = n) (hne : 0 < n → Go.Proofs.Ytgpnnnjhcjjnmaa.blk A ≠ some g) :
    Calls Try.prog 60 #[.pointer (some ⟨g, 0, none⟩), .slice A n c] w (WDone w g v m bs f xs) := by
  rcases Nat.eq_zero_or_pos n with h0 | h0
  · have hx : xs = [] := List.eq_nil_of_length_eq_zero (by omega)
    cases hf : wfits m bs f n with
    | false => exact put_no h A c n xs hn hf
    | true =>
      rcases A with _ | ad
      · have hc := hs.nil rfl
        subst hx hc hn
        exact put_nil h hf
      · exact put_empty h ad c n xs hx hn hf
  · exact put h hs hn (hne h0)

set_option maxRecDepth 100000 in
set_option maxHeartbeats 400000 in
theorem wBytes2 (h : Wr w g v m bs f) {A : Option Addr} {c n : Nat} {xs : List UInt8} (hs : Src w A c xs) (hn : xs.length = n) (hne : 0 < n → Go.Proofs.Ytgpnnnjhcjjnmaa.blk A ≠ some g) :
    Calls Try.prog 22 #[.pointer (some ⟨g, 0, none⟩), .slice A n c] w (WDone w g v m bs f xs) := by
  have H := Lib.hid (put2 h hs hn hne)
  clear h hs hn hne
  go_enter Try.func22, Try.ntmps22
  go_wp2_with fail
  refine H.out.mono ?_
  rintro e w1 ⟨v', rfl, h1, h2, h3⟩
  have HH : Hid _ := Lib.hid (And.intro h1 (And.intro h2 h3))
  clear h1 h2 h3
  go_wp2
  go_end0
  exact ⟨v', rfl, HH.out⟩
end
end Go.Proofs.Ytgpnnnjhcjjnmaa
