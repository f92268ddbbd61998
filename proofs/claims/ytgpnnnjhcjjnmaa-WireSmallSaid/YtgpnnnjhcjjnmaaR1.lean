/-
  Readers: the contracts of package wire's small methods.
-/
import Derived.Test.YtgpnnnjhcjjnmaaBase
import Derived.Test.YtgpnnnjhcjjnmaaRows
import Derived.LaidEqlPtr
import Derived.Lib.Builder
import Derived.Deep.QuietTactic
import Derived.BigQuiet
import Derived.RegionTactic
namespace Go.Proofs.Ytgpnnnjhcjjnmaa
open Go.RowKit

theorem info41 : (Try.prog.info? 41).map (fun i => i.size) = some 4 := by kernel_rfl
theorem info44 : (Try.prog.info? 44).map (fun i => i.size) = some 4 := by kernel_rfl

theorem eqlR (g : Nat) (w : World) : (binOp .eql 33 (.pointer (some ⟨g, 0, none⟩)) (.pointer (some ⟨g, 0, none⟩))).run Try.prog w = .ok (.bool true) w := by
  obtain ⟨j, hj, _⟩ := Option.map_eq_some_iff.1 info41
  exact run_eql_ptr_same w ⟨g, 0, none⟩ Try.underlying33 hj
theorem eqlW (g : Nat) (w : World) : (binOp .eql 37 (.pointer (some ⟨g, 0, none⟩)) (.pointer (some ⟨g, 0, none⟩))).run Try.prog w = .ok (.bool true) w := by
  obtain ⟨j, hj, _⟩ := Option.map_eq_some_iff.1 info44
  exact run_eql_ptr_same w ⟨g, 0, none⟩ Try.underlying37 hj

set_option maxRecDepth 100000 in
set_option maxHeartbeats 400000 in
theorem rreal (g : Nat) (v i f : Value) (w : World) (hb : Blk w g 41 #[.pointer (some ⟨g, 0, none⟩), v, i, f]) :
    Calls Try.prog 70 #[.pointer (some ⟨g, 0, none⟩)] w fun e w' => e = .returned (.bool true) ∧ w = w' := by
  have h0 : w.cell? ⟨g, 0, none⟩ = some (.pointer (some ⟨g, 0, none⟩)) := by rw [hb.cell]; rfl
  have hE := eqlR g
  clear hb
  go_enter Try.func70, Try.ntmps70
  go_wp2
  go_ret
  exact ⟨rfl, rfl⟩

set_option maxRecDepth 100000 in
set_option maxHeartbeats 400000 in
theorem wreal (g : Nat) (v i f : Value) (w : World) (hb : Blk w g 44 #[.pointer (some ⟨g, 0, none⟩), v, i, f]) :
    Calls Try.prog 66 #[.pointer (some ⟨g, 0, none⟩)] w fun e w' => e = .returned (.bool true) ∧ w = w' := by
  have h0 : w.cell? ⟨g, 0, none⟩ = some (.pointer (some ⟨g, 0, none⟩)) := by rw [hb.cell]; rfl
  have hE := eqlW g
  clear hb
  go_enter Try.func66, Try.ntmps66
  go_wp2
  go_ret
  exact ⟨rfl, rfl⟩

/-- g is a reader of bs at the place k. -/
structure Rd (w : World) (g : Nat) (v : Value) (bs : List UInt8) (k : Nat) (failed : Bool) : Prop where
  blk : Blk w g 41 #[.pointer (some ⟨g, 0, none⟩), v, .int .i64 (k : Int), .bool failed]
  own : w.ownsRow 0 5 1 v bs.length (byts bs)
  le : k ≤ bs.length
  small : bs.length ≤ 131072

theorem own_form {w : World} {base : Nat} {v : Value} {n : Nat} {bs : List UInt8} (h : w.ownsRow base 5 1 v n (byts bs)) :
    ∃ A c, v = .slice A n c ∧ n = bs.length ∧ n ≤ c ∧ c ≤ maxLen ∧ Rds w A bs ∧ v.ownBlock = Go.Proofs.Ytgpnnnjhcjjnmaa.blk A := by
  have hl := h.1
  rw [byts_len] at hl
  have h' := h
  rcases h.2 with ⟨rfl, hn⟩ | ⟨g, cap, cur, rfl, _, _, h1, h2, _⟩
  · subst hn
    exact ⟨none, 0, rfl, by omega, by omega, by omega, Rds.of_own h', rfl⟩
  · exact ⟨_, _, rfl, by omega, h1, h2, Rds.of_own h', rfl⟩

section
variable {w w' : World} {g : Nat} {v : Value} {bs : List UInt8} {k : Nat} {f : Bool}

theorem Rd.frm {S : Nat → Prop} (h : Rd w g v bs k f) (hf : Frm S w w') (hg : ¬ S g) (hv : ∀ i, v.ownBlock = some i → ¬ S i) : Rd w' g v bs k f :=
  ⟨h.blk.frm hf hg, hf.own h.own hv, h.le, h.small⟩
theorem Rd.ne (h : Rd w g v bs k f) : v.ownBlock ≠ some g := own_blk_ne h.own h.blk (by decide)
theorem Rd.rds (h : Rd w g v bs k f) {A : Option Addr} {n c : Nat} (hv : v = .slice A n c) : Rds w A bs := by
  subst hv
  have := h.own
  have hn : n = bs.length := by
    rcases this.2 with ⟨hv, h0⟩ | ⟨g', cap, cur, hv, _⟩
    · injection hv with _ h1 _
      exact h1.trans h0.symm
    · injection hv
  subst hn
  exact Rds.of_own this
theorem Rd.drewN (h : Rd w g v bs k f) (n : Nat) : Rd (w.drewN n) g v bs k f := h.frm ((Frm.refl No w).drewN n) (fun x => x) (fun _ _ x => x)
theorem Rd.fail (h : Rd w g v bs k f) : Rd (w.setCell ⟨g, 3, none⟩ (.bool true)) g v bs k true :=
  ⟨by simpa using h.blk.set_ 3 (.bool true), ownsRow_setCell_other h.own h.ne _, h.le, h.small⟩
theorem Rd.move (h : Rd w g v bs k f) (n : Nat) (hn : n ≤ bs.length) : Rd (w.setCell ⟨g, 2, none⟩ (.int .i64 (n : Int))) g v bs n f :=
  ⟨by simpa using h.blk.set_ 2 (.int .i64 (n : Int)), ownsRow_setCell_other h.own h.ne _, hn, h.small⟩

set_option maxRecDepth 100000 in
set_option maxHeartbeats 400000 in
theorem take_failed (h : Rd w g v bs k true) (n : Int) :
    Calls Try.prog 65 #[.pointer (some ⟨g, 0, none⟩), .int .i64 n] w fun e w' => e = .returned (.slice none 0 0) ∧ w = w' := by
  have h3 : w.cell? ⟨g, 3, none⟩ = some (.bool true) := by rw [h.blk.cell]; rfl
  have hb := Lib.hid h.blk
  clear h
  go_enter Try.func65, Try.ntmps65
  go_wp2_with (go_at_call 70; refine (rreal _ _ _ _ _ hb.out).mono ?_; rintro e w' ⟨rfl, rfl⟩)
  go_ret
  exact ⟨rfl, rfl⟩

set_option maxRecDepth 100000 in
set_option maxHeartbeats 400000 in
theorem take_neg (h : Rd w g v bs k false) (n : Int) (hn : n < 0) :
    Calls Try.prog 65 #[.pointer (some ⟨g, 0, none⟩), .int .i64 n] w fun e w' => e = .returned (.slice none 0 0) ∧ Rd w' g v bs k true ∧ Frm (One g) w w' := by
  have h3 : w.cell? ⟨g, 3, none⟩ = some (.bool false) := by rw [h.blk.cell]; rfl
  have f3 := h.blk.frozen 3
  have H := Lib.hid h
  clear h
  go_enter Try.func65, Try.ntmps65
  go_wp2_with (go_at_call 70; refine (rreal _ _ _ _ _ H.out.blk).mono ?_; rintro e w' ⟨rfl, rfl⟩)
  go_quiet (fail)
  go_wp2
  go_ret
  exact ⟨rfl, (H.out.drewN _).fail, ((Frm.refl _ w).drewN _).set1 3 _⟩

set_option maxRecDepth 100000 in
set_option maxHeartbeats 400000 in
theorem take_more (h : Rd w g v bs k false) (n : Int) (h0 : 0 ≤ n) (hn : (bs.length : Int) - k < n) :
    Calls Try.prog 65 #[.pointer (some ⟨g, 0, none⟩), .int .i64 n] w fun e w' => e = .returned (.slice none 0 0) ∧ Rd w' g v bs k true ∧ Frm (One g) w w' := by
  obtain ⟨A, c, hv, _, hnc, hc, hr, _⟩ := own_form h.own
  have h1 : w.cell? ⟨g, 1, none⟩ = some (.slice A bs.length c) := by rw [h.blk.cell, ← hv]; rfl
  have h2 : w.cell? ⟨g, 2, none⟩ = some (.int .i64 (k : Int)) := by rw [h.blk.cell]; rfl
  have h3 : w.cell? ⟨g, 3, none⟩ = some (.bool false) := by rw [h.blk.cell]; rfl
  have f3 := h.blk.frozen 3
  have hle := h.le
  have hsm := h.small
  have H := Lib.hid h
  have hw : IntKind.i64.wrap ((bs.length : Int) - k) = (bs.length : Int) - k := by rw [IntWalk.i64_in]; omega
  have hd1 : decide (n < 0) = false := by simp; omega
  have hd2 : decide ((bs.length : Int) - k < n) = true := by simp; omega
  clear h hv hr hc
  go_enter Try.func65, Try.ntmps65
  go_wp2_with (go_at_call 70; refine (rreal _ _ _ _ _ H.out.blk).mono ?_; rintro e w' ⟨rfl, rfl⟩)
  go_quiet (fail)
  go_wp2
  go_ret
  exact ⟨rfl, (H.out.drewN _).fail, ((Frm.refl _ w).drewN _).set1 3 _⟩


/-- Reading n bytes: do they fit; what is read; the place behind them. -/
def fits (bs : List UInt8) (k : Nat) (f : Bool) (n : Int) : Bool := !f && decide (0 ≤ n) && decide (n ≤ (bs.length : Int) - k)
def rOut (bs : List UInt8) (k : Nat) (f : Bool) (n : Int) : List UInt8 := if fits bs k f n = true then (bs.drop k).take n.toNat else []
def rAt (bs : List UInt8) (k : Nat) (f : Bool) (n : Int) : Nat := if fits bs k f n = true then k + n.toNat else k

/-- What take leaves. -/
def Took (w : World) (g : Nat) (v : Value) (bs : List UInt8) (k : Nat) (f : Bool) (n : Int) (e : Ending) (w' : World) : Prop :=
  ∃ A c, e = .returned (.slice A (rOut bs k f n).length c) ∧ (rOut bs k f n).length ≤ c ∧ Rds w' A (rOut bs k f n) ∧ Rd w' g v bs (rAt bs k f n) (!fits bs k f n) ∧ Frm (One g) w w'

theorem ret_slice {a a' : Option Addr} {n n' c c' : Nat} (ha : a = a') (hn : n = n') (hc : c = c') : Ending.returned (.slice a n c) = .returned (.slice a' n' c') := by rw [ha, hn, hc]

theorem Took.no {w w' : World} {g : Nat} {v : Value} {bs : List UInt8} {k : Nat} {f : Bool} {n : Int} (hf : fits bs k f n = false) (hr : Rd w' g v bs k true) (hw : Frm (One g) w w') :
    Took w g v bs k f n (.returned (.slice none 0 0)) w' := by
  refine ⟨none, 0, ?_, ?_, ?_, ?_, hw⟩ <;> simp [rOut, rAt, hf, Rds.nil, hr]

set_option maxRecDepth 100000 in
set_option maxHeartbeats 400000 in
theorem take_ok (h : Rd w g v bs k false) (n : Nat) (hn : k + n ≤ bs.length) :
    Calls Try.prog 65 #[.pointer (some ⟨g, 0, none⟩), .int .i64 (n : Int)] w (Took w g v bs k false n) := by
  obtain ⟨A, c, hv, _, hnc, hc, hr, _⟩ := own_form h.own
  have h1 : w.cell? ⟨g, 1, none⟩ = some (.slice A bs.length c) := by rw [h.blk.cell, ← hv]; rfl
  have h2 : w.cell? ⟨g, 2, none⟩ = some (.int .i64 (k : Int)) := by rw [h.blk.cell]; rfl
  have h3 : w.cell? ⟨g, 3, none⟩ = some (.bool false) := by rw [h.blk.cell]; rfl
  have f2 := h.blk.frozen 2
  have hle := h.le
  have hsm := h.small
  have hw : IntKind.i64.wrap ((bs.length : Int) - k) = (bs.length : Int) - k := by rw [IntWalk.i64_in]; omega
  have hd1 : decide ((n : Int) < 0) = false := by simp
  have hd2 : decide ((bs.length : Int) - k < n) = false := by simp; omega
  have hR : ∀ a b, Rd (((w.drewN a).setCell ⟨g, 2, none⟩ (.int .i64 ((k : Int) + n))).drewN b) g v bs (k + n) false := fun a b => ((h.drewN a).move (k + n) hn).drewN b
  have HR := Lib.hid hR
  have H := Lib.hid h
  have HV := Lib.hid hv
  clear h hv hr hc hR
  go_enter Try.func65, Try.ntmps65
  go_wp2_with (go_at_call 70; refine (rreal _ _ _ _ _ H.out.blk).mono ?_; rintro e w' ⟨rfl, rfl⟩)
  go_quiet (fail)
  go_wp2
  go_quiet (fail)
  go_wp2
  · go_ret
    have hf : fits bs k false n = true := by simp [fits]; omega
    have hl : ((bs.drop k).take n).length = n := by rw [List.length_take, List.length_drop]; omega
    have hck : c = k := by assumption
    refine ⟨A, c - k, ?_, ?_, ?_, ?_, (((Frm.refl _ w).drewN _).set1 2 _).drewN _⟩
    · simp only [rOut, hf, if_true, Int.toNat_natCast, hl]
      exact ret_slice rfl (by omega) (by omega)
    · simp only [rOut, hf, if_true, Int.toNat_natCast, hl]
      omega
    · simp only [rOut, hf, if_true, Int.toNat_natCast]
      exact (((HR.out _ _).rds HV.out).drop k c hnc _ (by rw [if_pos hck])).take n
    · simp only [rAt, hf, if_true, Int.toNat_natCast]
      exact HR.out _ _
  · go_ret
    have hf : fits bs k false n = true := by simp [fits]; omega
    have hl : ((bs.drop k).take n).length = n := by rw [List.length_take, List.length_drop]; omega
    have hck : ¬ c = k := by assumption
    refine ⟨A.map (·.add k), c - k, ?_, ?_, ?_, ?_, (((Frm.refl _ w).drewN _).set1 2 _).drewN _⟩
    · simp only [rOut, hf, if_true, Int.toNat_natCast, hl]
      exact ret_slice rfl (by omega) (by omega)
    · simp only [rOut, hf, if_true, Int.toNat_natCast, hl]
      omega
    · simp only [rOut, hf, if_true, Int.toNat_natCast]
      exact (((HR.out _ _).rds HV.out).drop k c hnc _ (by rw [if_neg hck])).take n
    · simp only [rAt, hf, if_true, Int.toNat_natCast]
      exact HR.out _ _

theorem take_any (h : Rd w g v bs k f) (n : Int) : Calls Try.prog 65 #[.pointer (some ⟨g, 0, none⟩), .int .i64 n] w (Took w g v bs k f n) := by
  cases f with
  | true =>
    refine (take_failed h n).mono ?_
    rintro e w' ⟨rfl, rfl⟩
    exact Took.no (by simp [fits]) h (Frm.refl _ _)
  | false =>
    by_cases h0 : n < 0
    · refine (take_neg h n h0).mono ?_
      rintro e w' ⟨rfl, h1, h2⟩
      exact Took.no (by simp [fits]; omega) h1 h2
    · by_cases h1 : (bs.length : Int) - k < n
      · refine (take_more h n (by omega) h1).mono ?_
        rintro e w' ⟨rfl, h1, h2⟩
        exact Took.no (by simp [fits]; omega) h1 h2
      · obtain ⟨m, rfl⟩ := Int.eq_ofNat_of_zero_le (by omega : 0 ≤ n)
        exact take_ok h m (by have := h.le; omega)
end
end Go.Proofs.Ytgpnnnjhcjjnmaa
