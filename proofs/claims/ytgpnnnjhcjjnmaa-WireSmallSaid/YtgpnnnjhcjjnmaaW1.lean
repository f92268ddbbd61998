/-
  Writers: room and put.
-/
import Derived.Test.YtgpnnnjhcjjnmaaR2
import Derived.BigRegion
namespace Go.Proofs.Ytgpnnnjhcjjnmaa
open Go.RowKit

/-- g is a writer with the limit m and the bytes bs. -/
structure Wr (w : World) (g : Nat) (v : Value) (m : Nat) (bs : List UInt8) (failed : Bool) : Prop where
  blk : Blk w g 44 #[.pointer (some ⟨g, 0, none⟩), .int .i64 (m : Int), v, .bool failed]
  own : w.ownsRow 0 5 1 v bs.length (byts bs)
  le : bs.length ≤ m
  small : m ≤ 131072

/-- The blocks of a writer. -/
def Two (g : Nat) (v : Value) : Nat → Prop := fun k => k = g ∨ v.ownBlock = some k

theorem own_slice {w : World} {base : Nat} {e : TypeId} {v : Value} {n : Nat} {xs : List Value} (h : w.ownsRow base e 1 v n xs) : ∃ A c, v = .slice A n c := by
  rcases h.2 with ⟨rfl, rfl⟩ | ⟨g, cap, cur, rfl, _⟩
  · exact ⟨_, _, rfl⟩
  · exact ⟨_, _, rfl⟩

section
variable {w w' : World} {g : Nat} {v : Value} {bs : List UInt8} {m : Nat} {f : Bool}

theorem Wr.frm {S : Nat → Prop} (h : Wr w g v m bs f) (hf : Frm S w w') (hg : ¬ S g) (hv : ∀ i, v.ownBlock = some i → ¬ S i) : Wr w' g v m bs f :=
  ⟨h.blk.frm hf hg, hf.own h.own hv, h.le, h.small⟩
theorem Wr.ne (h : Wr w g v m bs f) : v.ownBlock ≠ some g := own_blk_ne h.own h.blk (by decide)
theorem Wr.drewN (h : Wr w g v m bs f) (n : Nat) : Wr (w.drewN n) g v m bs f := h.frm ((Frm.refl No w).drewN n) (fun x => x) (fun _ _ x => x)
theorem Wr.after (h : Wr w g v m bs f) (hg : w.grownBy w' v.ownBlock) : Blk w' g 44 #[.pointer (some ⟨g, 0, none⟩), .int .i64 (m : Int), v, .bool f] :=
  (hg.block g h.blk.lt (fun e => h.ne e.symm)).trans h.blk
theorem Wr.put_ (h : Wr w g v m bs f) (b : Bool) : Wr (w.setCell ⟨g, 3, none⟩ (.bool b)) g v m bs b :=
  ⟨by simpa using h.blk.set_ 3 (.bool b), ownsRow_setCell_other h.own h.ne _, h.le, h.small⟩
theorem Two.one (w : World) : ∀ i, i < w.heap.size → One g i → Two g v i := fun _ _ h => .inl h

set_option maxRecDepth 100000 in
set_option maxHeartbeats 400000 in
theorem wFailed (h : Wr w g v m bs f) : Calls Try.prog 35 #[.pointer (some ⟨g, 0, none⟩)] w fun e w' => e = .returned (.bool f) ∧ w = w' := by
  have h3 : w.cell? ⟨g, 3, none⟩ = some (.bool f) := by rw [h.blk.cell]; rfl
  have H := Lib.hid h
  clear h
  go_enter Try.func35, Try.ntmps35
  go_wp2_with (go_at_call 66; refine (wreal _ _ _ _ _ H.out.blk).mono ?_; rintro e w' ⟨rfl, rfl⟩)
  go_ret
  exact ⟨rfl, rfl⟩

set_option maxRecDepth 100000 in
set_option maxHeartbeats 400000 in
theorem wLen (h : Wr w g v m bs f) : Calls Try.prog 34 #[.pointer (some ⟨g, 0, none⟩)] w fun e w' => e = .returned (.int .i64 (bs.length : Int)) ∧ w = w' := by
  obtain ⟨A, c, hv, _, hnc, hc, hr, _⟩ := own_form h.own
  have h2 : w.cell? ⟨g, 2, none⟩ = some (.slice A bs.length c) := by rw [h.blk.cell, ← hv]; rfl
  have H := Lib.hid h
  clear h hv hr hc
  go_enter Try.func34, Try.ntmps34
  go_wp2_with (go_at_call 66; refine (wreal _ _ _ _ _ H.out.blk).mono ?_; rintro e w' ⟨rfl, rfl⟩)
  go_ret
  exact ⟨rfl, rfl⟩

/-- Is there room for n bytes more? -/
def wfits (m : Nat) (bs : List UInt8) (f : Bool) (n : Int) : Bool := !f && decide (0 ≤ n) && decide (n ≤ (m : Int) - bs.length)

/-- What room leaves. -/
def RoomDone (w : World) (g : Nat) (v : Value) (m : Nat) (bs : List UInt8) (f : Bool) (n : Int) (e : Ending) (w' : World) : Prop :=
  e = .returned (.bool (wfits m bs f n)) ∧ Wr w' g v m bs (!wfits m bs f n) ∧ Frm (One g) w w'

set_option maxRecDepth 100000 in
set_option maxHeartbeats 400000 in
theorem room_failed (h : Wr w g v m bs true) (n : Int) : Calls Try.prog 64 #[.pointer (some ⟨g, 0, none⟩), .int .i64 n] w (RoomDone w g v m bs true n) := by
  have H := Lib.hid h
  clear h
  go_enter Try.func64, Try.ntmps64
  go_wp2_with (go_at_call 35; refine (wFailed H.out).mono ?_; rintro e w' ⟨rfl, rfl⟩)
  go_ret
  exact ⟨by simp [wfits], by simpa [wfits] using H.out, Frm.refl _ _⟩

set_option maxRecDepth 100000 in
set_option maxHeartbeats 400000 in
theorem room_neg (h : Wr w g v m bs false) (n : Int) (hn : n < 0) : Calls Try.prog 64 #[.pointer (some ⟨g, 0, none⟩), .int .i64 n] w (RoomDone w g v m bs false n) := by
  have h3 : w.cell? ⟨g, 3, none⟩ = some (.bool false) := by rw [h.blk.cell]; rfl
  have f3 := h.blk.frozen 3
  have hd1 : decide (n < 0) = true := by simp; omega
  have H := Lib.hid h
  clear h
  go_enter Try.func64, Try.ntmps64
  go_wp2_with (go_at_call 35; refine (wFailed H.out).mono ?_; rintro e w' ⟨rfl, rfl⟩)
  go_region
  go_wp2
  go_ret
  have hw : wfits m bs false n = false := by simp [wfits]; omega
  rw [RoomDone, hw]
  exact ⟨rfl, (H.out.put_ _).drewN 1, ((Frm.refl _ w).set1 3 _).drew⟩

set_option maxRecDepth 100000 in
set_option maxHeartbeats 400000 in
theorem room_any (h : Wr w g v m bs false) (n : Int) (b : Bool) (hn : decide (n < 0) = false) (hb : decide ((m : Int) - bs.length < n) = b) :
    Calls Try.prog 64 #[.pointer (some ⟨g, 0, none⟩), .int .i64 n] w (RoomDone w g v m bs false n) := by
  obtain ⟨A, c, hv, _, hnc, hc, hr, _⟩ := own_form h.own
  have h1 : w.cell? ⟨g, 1, none⟩ = some (.int .i64 (m : Int)) := by rw [h.blk.cell]; rfl
  have h2 : w.cell? ⟨g, 2, none⟩ = some (.slice A bs.length c) := by rw [h.blk.cell, ← hv]; rfl
  have h3 : w.cell? ⟨g, 3, none⟩ = some (.bool false) := by rw [h.blk.cell]; rfl
  have f3 := h.blk.frozen 3
  have hle := h.le
  have hsm := h.small
  have hwr : IntKind.i64.wrap ((m : Int) - bs.length) = (m : Int) - bs.length := by rw [IntWalk.i64_in]; omega
  have hfin : wfits m bs false n = !b := by
    subst hb
    have h0 : 0 ≤ n := by simpa using hn
    by_cases hq : (m : Int) - bs.length < n
    · have h1 : ¬ n ≤ (m : Int) - bs.length := by omega
      simp [wfits, hq, h0, h1]
    · have h1 : n ≤ (m : Int) - bs.length := by omega
      simp [wfits, hq, h0, h1]
  have HFIN := Lib.hid hfin
  have H := Lib.hid h
  clear h hv hr hc hfin
  go_enter Try.func64, Try.ntmps64
  go_wp2_with (go_at_call 35; refine (wFailed H.out).mono ?_; rintro e w' ⟨rfl, rfl⟩)
  go_region
  go_wp2
  go_ret
  rw [RoomDone, HFIN.out]
  rw [Bool.not_not]
  exact ⟨rfl, (H.out.put_ b).drewN 1, ((Frm.refl _ w).set1 3 _).drew⟩

theorem room (h : Wr w g v m bs f) (n : Int) : Calls Try.prog 64 #[.pointer (some ⟨g, 0, none⟩), .int .i64 n] w (RoomDone w g v m bs f n) := by
  cases f with
  | true => exact room_failed h n
  | false =>
    by_cases hn : n < 0
    · exact room_neg h n hn
    · exact room_any h n _ (by simpa using hn) rfl

/-- What a writing of xs leaves. -/
def WDone (w : World) (g : Nat) (v : Value) (m : Nat) (bs : List UInt8) (f : Bool) (xs : List UInt8) (e : Ending) (w' : World) : Prop :=
  ∃ v', e = .returned (.tuple #[]) ∧ Wr w' g v' m (if wfits m bs f xs.length = true then bs ++ xs else bs) (!wfits m bs f xs.length) ∧ Frm (Two g v) w w' ∧ (v'.ownBlock = v.ownBlock ∨ ∀ i, v'.ownBlock = some i → w.heap.size ≤ i)

set_option maxRecDepth 100000 in
set_option maxHeartbeats 400000 in
theorem put_no (h : Wr w g v m bs f) (A : Option Addr) (c n : Nat) (xs : List UInt8) (hx : xs.length = n) (hno : wfits m bs f n = false) :
    Calls Try.prog 60 #[.pointer (some ⟨g, 0, none⟩), .slice A n c] w (WDone w g v m bs f xs) := by
  have H := Lib.hid h
  have HN := Lib.hid hno
  have HX := Lib.hid hx
  clear h hno hx
  go_enter Try.func60, Try.ntmps60
  go_wp2_with fail
  refine (room H.out _).mono ?_
  rintro e w1 ⟨rfl, hw1, hf1⟩
  have HW := Lib.hid hw1
  have HF := Lib.hid hf1
  clear hw1 hf1
  rw [HN.out]
  go_wp2
  go_end0
  refine ⟨v, rfl, ?_, HF.out.more (Two.one w), .inl rfl⟩
  have := HW.out
  rw [HX.out, HN.out]
  rw [HN.out] at this
  exact this

set_option maxRecDepth 100000 in
set_option maxHeartbeats 400000 in
theorem put_yes (h : Wr w g v m bs f) (ad : Addr) (c n : Nat) (xs : List UInt8) (hr : Rds w (some ad) xs) (hne : ad.block ≠ g) (hx : xs.length = n) (hyes : wfits m bs f n = true) :
    Calls Try.prog 60 #[.pointer (some ⟨g, 0, none⟩), .slice (some ad) n c] w (WDone w g v m bs f xs) := by
  obtain ⟨i0, hi, hz0, hz1, hz2⟩ := info_parts info5
  have H := Lib.hid h
  have HN := Lib.hid hyes
  have HX := Lib.hid hx
  have HR := Lib.hid hr
  clear h hyes hx hr
  go_enter Try.func60, Try.ntmps60
  go_wp2_with fail
  refine (room H.out _).mono ?_
  rintro e w1 ⟨rfl, hw1, hf1⟩
  rw [HN.out] at hw1 ⊢
  obtain ⟨A, cv, hv, _, hnc, hc, hrv, _⟩ := own_form hw1.own
  have h2 : w1.cell? ⟨g, 2, none⟩ = some (.slice A bs.length cv) := by rw [hw1.blk.cell, ← hv]; rfl
  have hown : w1.ownsRow 0 5 1 (.slice A bs.length cv) bs.length (byts bs) := by rw [← hv]; exact hw1.own
  have hfit : (n : Int) ≤ (m : Int) - bs.length := by
    have := HN.out
    simp [wfits] at this
    omega
  have hsm := hw1.small
  have hr1 : Rds w1 (some ad) xs := HR.out.frm hf1 (fun k hk => by
    simp only [Go.Proofs.Ytgpnnnjhcjjnmaa.blk, Option.map_some, Option.some.injEq] at hk
    intro h
    exact hne (hk.trans h))
  have HNEWS := Lib.hid hr1.news
  have HW := Lib.hid hw1
  have HF := Lib.hid hf1
  have HV := Lib.hid hv
  clear hw1 hf1 hv hrv hc hr1
  go_wp2_with (at_builtin; refine wpList_append_own_at _ rfl (.tmp 12) (.tmp 13) 22 rfl 0 5 i0 (.int .u8 0) 1 1 Try.underlying22 hi hz0 hz1 hz2 rfl (by decide) (.slice A bs.length cv) bs.length (byts bs) rfl hown ad n c (byts xs) rfl (by rw [byts_len, HX.out]; omega) HNEWS.out (byts_one xs) (by unfold maxLen; omega) (by omega) (by omega) ?_; intro v' w2 hown' hgr _ hnew; obtain ⟨A', c', rfl⟩ := own_slice hown'; rw [← HV.out] at hgr hnew; have hg2 := Wr.after HW.out hgr; have c2 := (hg2.cell 2).trans rfl; have q2 := hg2.frozen 2; have HO := Lib.hid hown'; have HG := Lib.hid hgr; have HG2 := Lib.hid hg2; have HNW := Lib.hid hnew; clear hown' hgr hg2 hnew)
  go_end0
  have h3 : Frm (Two g v) w w2 := (HF.out.more (Two.one w)).trans (Frm.of_grown HG.out) (fun i _ hi => .inr hi)
  refine ⟨.slice A' (bs.length + n) c', rfl, ?_, h3.setCell (p := ⟨g, 2, none⟩) (fun _ => .inl rfl) _, ?_⟩
  · rw [HX.out, HN.out]
    have ho : w2.ownsRow 0 5 1 (.slice A' (bs.length + n) c') (bs ++ xs).length (byts (bs ++ xs)) := by
      have := HO.out
      rw [List.length_append, HX.out]
      simpa [byts] using this
    have hne2 : (Value.slice A' (bs.length + n) c').ownBlock ≠ some g := own_blk_ne ho HG2.out (by decide)
    refine ⟨by simpa using HG2.out.set_ 2 (.slice A' (bs.length + n) c'), ownsRow_setCell_other ho hne2 _, ?_, hsm⟩
    simp only [if_true, List.length_append, HX.out]
    omega
  · rcases HNW.out with h | h
    · exact .inl h
    · refine .inr fun i hi => ?_
      rw [h] at hi
      injection hi with hi
      have := HF.out.size
      omega
end
end Go.Proofs.Ytgpnnnjhcjjnmaa
