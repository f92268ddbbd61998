/-
  Writers: NewWriter, Zeros, Done, Set16.
-/
import Derived.Test.YtgpnnnjhcjjnmaaW2
import Derived.Laws.CopyOwn
import Derived.Deep.RegionLaw
import Derived.Deep.RegionWith
namespace Go.Proofs.Ytgpnnnjhcjjnmaa
open Go.RowKit

/-- What NewWriter leaves. -/
def NewW (w : World) (m : Nat) (e : Ending) (w' : World) : Prop :=
  ∃ g, e = .returned (.tuple #[.pointer (some ⟨g, 0, none⟩), .int .i64 0]) ∧ w.heap.size ≤ g ∧ Wr w' g (.slice none 0 0) m [] false ∧ Frm No w w'

set_option maxRecDepth 100000 in
set_option maxHeartbeats 400000 in
theorem newWriter (w : World) (m : Nat) (hm : m ≤ 131072) : Calls Try.prog 18 #[.int .i64 (m : Int)] w (NewW w m) := by
  go_enter Try.func18, Try.ntmps18
  go_wp2
  go_ret2
  exact ⟨w.heap.size, rfl, Nat.le_refl _, ⟨Blk.new _ _ _, World.ownsRow_nil _ _ _ _, Nat.zero_le _, hm⟩, (Frm.refl _ _).alloc _⟩

set_option maxRecDepth 100000 in
set_option maxHeartbeats 400000 in
theorem newWriter_bad (w : World) (n : Int) (hn : n < 0 ∨ 131072 < n) : Calls Try.prog 18 #[.int .i64 n] w fun e w' => e = .returned (.tuple #[.pointer none, .int .i64 2]) ∧ w = w' := by
  rcases hn with hn | hn
  · go_enter Try.func18, Try.ntmps18
    go_wp2
    go_ret2
    exact ⟨rfl, rfl⟩
  · have h0 : ¬ n < 0 := by omega
    go_enter Try.func18, Try.ntmps18
    go_wp2
    go_ret2
    exact ⟨rfl, rfl⟩

/-- What Done leaves. -/
def DoneOf (w : World) (bs : List UInt8) (f : Bool) (e : Ending) (w' : World) : Prop :=
  ∃ x, e = .returned (.tuple #[x, .int .i64 (if f = true then 4 else 0)]) ∧ w'.ownsRow w.heap.size 5 1 x (if f = true then [] else bs).length (byts (if f = true then [] else bs)) ∧ Frm No w w'

section
variable {w w' : World} {g : Nat} {v : Value} {bs : List UInt8} {m : Nat} {f : Bool}

set_option maxRecDepth 100000 in
set_option maxHeartbeats 400000 in
theorem wDone (h : Wr w g v m bs f) : Calls Try.prog 26 #[.pointer (some ⟨g, 0, none⟩)] w (DoneOf w bs f) := by
  obtain ⟨A, c, hv, _, hnc, hc, hr, _⟩ := own_form h.own
  have h2 : w.cell? ⟨g, 2, none⟩ = some (.slice A bs.length c) := by rw [h.blk.cell, ← hv]; rfl
  have h3 : w.cell? ⟨g, 3, none⟩ = some (.bool f) := by rw [h.blk.cell]; rfl
  have hle := h.le
  have hsm := h.small
  have H := Lib.hid h
  have HR := Lib.hid hr
  clear h hv hr hc
  cases f with
  | true =>
    go_enter Try.func26, Try.ntmps26
    go_wp2_with (go_at_call 66; refine (wreal _ _ _ _ _ H.out.blk).mono ?_; rintro e w' ⟨rfl, rfl⟩)
    go_ret2
    exact ⟨.slice none 0 0, rfl, World.ownsRow_nil _ _ _ _, Frm.refl _ _⟩
  | false =>
    go_enter Try.func26, Try.ntmps26
    go_wp2_with (go_at_call 66; refine (wreal _ _ _ _ _ H.out.blk).mono ?_; rintro e w' ⟨rfl, rfl⟩)
    refine (clone_any w A c bs HR.out (by omega)).mono ?_
    rintro e w1 ⟨x, rfl, hx, hf⟩
    have HX := Lib.hid hx
    have HF := Lib.hid hf
    clear hx hf
    go_wp2
    go_ret2
    exact ⟨x, rfl, HX.out, HF.out⟩

/-- What Zeros leaves. -/
def ZDone (w : World) (g : Nat) (v : Value) (m : Nat) (bs : List UInt8) (f : Bool) (n : Int) (e : Ending) (w' : World) : Prop :=
  ∃ v', e = .returned (.tuple #[]) ∧ Wr w' g v' m (if wfits m bs f n = true then bs ++ List.replicate n.toNat 0 else bs) (!wfits m bs f n) ∧ Frm (Two g v) w w' ∧ (v'.ownBlock = v.ownBlock ∨ ∀ i, v'.ownBlock = some i → w.heap.size ≤ i)

set_option maxRecDepth 100000 in
set_option maxHeartbeats 400000 in
theorem zeros_no (h : Wr w g v m bs f) (n : Int) (hno : wfits m bs f n = false) : Calls Try.prog 23 #[.pointer (some ⟨g, 0, none⟩), .int .i64 n] w (ZDone w g v m bs f n) := by
  have H := Lib.hid h
  have HN := Lib.hid hno
  clear h hno
  go_enter Try.func23, Try.ntmps23
  go_wp2_with fail
  refine (room H.out _).mono ?_
  rintro e w1 ⟨rfl, hw1, hf1⟩
  have HW := Lib.hid hw1
  have HF := Lib.hid hf1
  clear hw1 hf1
  rw [HN.out]
  go_wp2
  go_end0
  refine ⟨v, rfl, ?_, HF.out.more (Two.one w), .inl rfl⟩
  have := HW.out
  rw [HN.out] at this ⊢
  exact this

set_option maxRecDepth 100000 in
set_option maxHeartbeats 400000 in
theorem zeros_yes (h : Wr w g v m bs f) (n : Nat) (hyes : wfits m bs f n = true) : Calls Try.prog 23 #[.pointer (some ⟨g, 0, none⟩), .int .i64 (n : Int)] w (ZDone w g v m bs f n) := by
  obtain ⟨i0, hi, hz0, hz1, hz2⟩ := info_parts info5
  have H := Lib.hid h
  have HN := Lib.hid hyes
  clear h hyes
  go_enter Try.func23, Try.ntmps23
  go_wp2_with fail
  refine (room H.out _).mono ?_
  rintro e w1 ⟨rfl, hw1, hf1⟩
  rw [HN.out] at hw1 ⊢
  obtain ⟨A, cv, hv, _, hnc, hc, hrv, _⟩ := own_form hw1.own
  have h2 : w1.cell? ⟨g, 2, none⟩ = some (.slice A bs.length cv) := by rw [hw1.blk.cell, ← hv]; rfl
  have hown : w1.ownsRow 0 5 1 (.slice A bs.length cv) bs.length (byts bs) := by rw [← hv]; exact hw1.own
  have hfit : (n : Int) ≤ (m : Int) - bs.length := by
    have := HN.out
    simp [wfits] at this
    omega
  have hsm := hw1.small
  obtain ⟨v', w2, hrun, hown', hgr, hnew⟩ := run_append_own_zeros (P := Try.prog) w1 22 3 22 5 i0 .i64 .i64 Try.underlying22 Try.underlying3 hi hz0 hz1 hz2 _ bs hown n (by omega)
  obtain ⟨A', c', rfl⟩ := own_slice hown'
  rw [← hv] at hgr hnew
  have hg2 := Wr.after hw1 hgr
  have c2 := (hg2.cell 2).trans rfl
  have q2 := hg2.frozen 2
  have HRUN := Lib.hid hrun
  have HO := Lib.hid hown'
  have HG := Lib.hid hgr
  have HG2 := Lib.hid hg2
  have HNW := Lib.hid hnew
  have HW := Lib.hid hw1
  have HF := Lib.hid hf1
  have HV := Lib.hid hv
  clear hw1 hf1 hv hrv hc hrun hown' hgr hg2 hnew hown
  go_wp2_with (at_builtin; refine Lib.wpList_append_run _ rfl (.tmp 11) (.tmp 12) 22 3 rfl _ _ rfl rfl _ _ HRUN.out ?_)
  go_end0
  have h3 : Frm (Two g v) w w2 := (HF.out.more (Two.one w)).trans (Frm.of_grown HG.out) (fun i _ hi => .inr hi)
  refine ⟨.slice A' (bs.length + n) c', rfl, ?_, h3.setCell (p := ⟨g, 2, none⟩) (fun _ => .inl rfl) _, ?_⟩
  · rw [HN.out]
    have ho : w2.ownsRow 0 5 1 (.slice A' (bs.length + n) c') (bs ++ List.replicate n 0).length (byts (bs ++ List.replicate n 0)) := by
      have := HO.out
      simpa using this
    have hne2 : (Value.slice A' (bs.length + n) c').ownBlock ≠ some g := own_blk_ne ho HG2.out (by decide)
    refine ⟨by simpa using HG2.out.set_ 2 (.slice A' (bs.length + n) c'), ownsRow_setCell_other ho hne2 _, ?_, hsm⟩
    simp only [if_true, List.length_append, List.length_replicate, Int.toNat_natCast]
    omega
  · rcases HNW.out with h | h
    · exact .inl h
    · refine .inr fun i hi => ?_
      rw [h] at hi
      injection hi with hi
      have := HF.out.size
      omega

theorem wZeros (h : Wr w g v m bs f) (n : Int) : Calls Try.prog 23 #[.pointer (some ⟨g, 0, none⟩), .int .i64 n] w (ZDone w g v m bs f n) := by
  cases hf : wfits m bs f n with
  | false => exact zeros_no h n hf
  | true =>
    have h0 : 0 ≤ n := by
      simp [wfits] at hf
      omega
    obtain ⟨k, rfl⟩ := Int.eq_ofNat_of_zero_le h0
    exact zeros_yes h k hf
end
end Go.Proofs.Ytgpnnnjhcjjnmaa
