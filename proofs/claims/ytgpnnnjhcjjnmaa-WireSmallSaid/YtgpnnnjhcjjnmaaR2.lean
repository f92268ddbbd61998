/-
  Readers: the contracts of package wire's exported methods.
-/
import Derived.Test.YtgpnnnjhcjjnmaaR1
import Derived.Test.YtgpnnnjhcjjnmaaJ1
import Derived.Test.YtgpnnnjhcjjnmaaK1
namespace Go.Proofs.Ytgpnnnjhcjjnmaa
open Go.RowKit

theorem rOut_le (bs : List UInt8) (k : Nat) (f : Bool) (n : Int) : (rOut bs k f n).length ≤ n.toNat := by
  unfold rOut
  split
  · rw [List.length_take]; omega
  · simp
theorem rOut_le2 (bs : List UInt8) (k : Nat) (f : Bool) (n : Int) : (rOut bs k f n).length ≤ bs.length := by
  unfold rOut
  split
  · rw [List.length_take, List.length_drop]; omega
  · simp

/-- What a reading of n bytes leaves that answers the value x. -/
def RDone (w : World) (g : Nat) (v : Value) (bs : List UInt8) (k : Nat) (f : Bool) (n : Int) (x : Value) (e : Ending) (w' : World) : Prop :=
  e = .returned x ∧ Rd w' g v bs (rAt bs k f n) (!fits bs k f n) ∧ Frm (One g) w w'

section
variable {w w' : World} {g : Nat} {v : Value} {bs : List UInt8} {k : Nat} {f : Bool}

set_option maxRecDepth 100000 in
set_option maxHeartbeats 400000 in
theorem rU8 (h : Rd w g v bs k f) : Calls Try.prog 27 #[.pointer (some ⟨g, 0, none⟩)] w (RDone w g v bs k f 1 (.int .u8 (be (rOut bs k f 1) : Int))) := by
  have hl := rOut_le bs k f 1
  have H := Lib.hid h
  clear h
  go_enter Try.func27, Try.ntmps27
  go_wp2_with fail
  refine (take_any H.out 1).mono ?_
  rintro e w1 ⟨A, c, rfl, hc, hr, h1, hf⟩
  have HR := Lib.hid hr
  have HF := Lib.hid hf
  have H1 := Lib.hid h1
  clear hr hf h1
  go_wp2_with fail
  refine (join8 w1 A c _ HR.out (by simpa using hl)).mono ?_
  rintro e w2 ⟨rfl, rfl⟩
  go_wp2_with fail
  go_ret
  exact ⟨rfl, H1.out, HF.out⟩
set_option maxRecDepth 100000 in
set_option maxHeartbeats 400000 in
theorem rU16 (h : Rd w g v bs k f) : Calls Try.prog 28 #[.pointer (some ⟨g, 0, none⟩)] w (RDone w g v bs k f 2 (.int .u16 (be (rOut bs k f 2) : Int))) := by
  have hl := rOut_le bs k f 2
  have H := Lib.hid h
  clear h
  go_enter Try.func28, Try.ntmps28
  go_wp2_with fail
  refine (take_any H.out 2).mono ?_
  rintro e w1 ⟨A, c, rfl, hc, hr, h1, hf⟩
  have HR := Lib.hid hr
  have HF := Lib.hid hf
  have H1 := Lib.hid h1
  clear hr hf h1
  go_wp2_with fail
  refine (join16 w1 A c _ HR.out (by simpa using hl)).mono ?_
  rintro e w2 ⟨rfl, rfl⟩
  go_wp2_with fail
  go_ret
  exact ⟨rfl, H1.out, HF.out⟩
set_option maxRecDepth 100000 in
set_option maxHeartbeats 400000 in
theorem rU32 (h : Rd w g v bs k f) : Calls Try.prog 29 #[.pointer (some ⟨g, 0, none⟩)] w (RDone w g v bs k f 4 (.int .u32 (be (rOut bs k f 4) : Int))) := by
  have hl := rOut_le bs k f 4
  have H := Lib.hid h
  clear h
  go_enter Try.func29, Try.ntmps29
  go_wp2_with fail
  refine (take_any H.out 4).mono ?_
  rintro e w1 ⟨A, c, rfl, hc, hr, h1, hf⟩
  have HR := Lib.hid hr
  have HF := Lib.hid hf
  have H1 := Lib.hid h1
  clear hr hf h1
  go_wp2_with fail
  refine (join32 w1 A c _ HR.out (by simpa using hl)).mono ?_
  rintro e w2 ⟨rfl, rfl⟩
  go_wp2_with fail
  go_ret
  exact ⟨rfl, H1.out, HF.out⟩
set_option maxRecDepth 100000 in
set_option maxHeartbeats 400000 in
theorem rSkip (h : Rd w g v bs k f) (n : Int) : Calls Try.prog 25 #[.pointer (some ⟨g, 0, none⟩), .int .i64 n] w (RDone w g v bs k f n (.tuple #[])) := by
  have H := Lib.hid h
  clear h
  go_enter Try.func25, Try.ntmps25
  go_wp2_with fail
  refine (take_any H.out n).mono ?_
  rintro e w1 ⟨A, c, rfl, hc, hr, h1, hf⟩
  have HF := Lib.hid hf
  have H1 := Lib.hid h1
  clear hr hf h1
  go_wp2_with fail
  go_end0
  exact ⟨rfl, H1.out, HF.out⟩

/-- What Bytes leaves. -/
def RBytes (w : World) (g : Nat) (v : Value) (bs : List UInt8) (k : Nat) (f : Bool) (n : Int) (e : Ending) (w' : World) : Prop :=
  ∃ x, e = .returned x ∧ w'.ownsRow w.heap.size 5 1 x (rOut bs k f n).length (byts (rOut bs k f n)) ∧ Rd w' g v bs (rAt bs k f n) (!fits bs k f n) ∧ Frm (One g) w w'

theorem own_mono {w : World} {b b' : Nat} {e : TypeId} {size n : Nat} {v : Value} {xs : List Value} (h : w.ownsRow b e size v n xs) (hb : b' ≤ b) : w.ownsRow b' e size v n xs := by
  refine ⟨h.1, ?_⟩
  rcases h.2 with hn | ⟨g, cap, cur, rfl, hg, r⟩
  · exact .inl hn
  · exact .inr ⟨g, cap, cur, rfl, by omega, r⟩
theorem own_lt {w : World} {b : Nat} {e : TypeId} {size n : Nat} {v : Value} {xs : List Value} (h : w.ownsRow b e size v n xs) {i : Nat} (hi : v.ownBlock = some i) : b ≤ i ∧ i < w.heap.size := h.lt i hi

set_option maxRecDepth 100000 in
set_option maxHeartbeats 400000 in
theorem rBytes (h : Rd w g v bs k f) (n : Int) : Calls Try.prog 30 #[.pointer (some ⟨g, 0, none⟩), .int .i64 n] w (RBytes w g v bs k f n) := by
  have hl := rOut_le2 bs k f n
  have hs := h.small
  have H := Lib.hid h
  clear h
  go_enter Try.func30, Try.ntmps30
  go_wp2_with fail
  refine (take_any H.out n).mono ?_
  rintro e w1 ⟨A, c, rfl, hc, hr, h1, hf⟩
  have HR := Lib.hid hr
  have HF := Lib.hid hf
  have H1 := Lib.hid h1
  clear hr hf h1
  go_wp2_with fail
  refine (clone_any w1 A c _ HR.out (by omega)).mono ?_
  rintro e w2 ⟨x, rfl, hx, hf2⟩
  have HX := Lib.hid hx
  have HF2 := Lib.hid hf2
  clear hx hf2
  go_wp2_with fail
  go_ret
  refine ⟨x, rfl, own_mono HX.out HF.out.size, H1.out.frm HF2.out (fun x => x) (fun _ _ x => x), HF.out.trans HF2.out (fun _ _ x => x.elim)⟩

set_option maxRecDepth 100000 in
set_option maxHeartbeats 400000 in
theorem rAt_ (h : Rd w g v bs k f) : Calls Try.prog 32 #[.pointer (some ⟨g, 0, none⟩)] w fun e w' => e = .returned (.int .i64 (k : Int)) ∧ w = w' := by
  have h2 : w.cell? ⟨g, 2, none⟩ = some (.int .i64 (k : Int)) := by rw [h.blk.cell]; rfl
  have H := Lib.hid h
  clear h
  go_enter Try.func32, Try.ntmps32
  go_wp2_with (go_at_call 70; refine (rreal _ _ _ _ _ H.out.blk).mono ?_; rintro e w' ⟨rfl, rfl⟩)
  go_ret
  exact ⟨rfl, rfl⟩

set_option maxRecDepth 100000 in
set_option maxHeartbeats 400000 in
theorem rFailed (h : Rd w g v bs k f) : Calls Try.prog 33 #[.pointer (some ⟨g, 0, none⟩)] w fun e w' => e = .returned (.bool f) ∧ w = w' := by
  have h3 : w.cell? ⟨g, 3, none⟩ = some (.bool f) := by rw [h.blk.cell]; rfl
  have H := Lib.hid h
  clear h
  go_enter Try.func33, Try.ntmps33
  go_wp2_with (go_at_call 70; refine (rreal _ _ _ _ _ H.out.blk).mono ?_; rintro e w' ⟨rfl, rfl⟩)
  go_ret
  exact ⟨rfl, rfl⟩

/-- It answers the number x, and has only drawn. -/
def Tells (x : Int) (w : World) (e : Ending) (w' : World) : Prop := e = .returned (.int .i64 x) ∧ ∃ n, w' = w.drewN n

set_option maxRecDepth 100000 in
set_option maxHeartbeats 400000 in
theorem rLeft (h : Rd w g v bs k f) : Calls Try.prog 31 #[.pointer (some ⟨g, 0, none⟩)] w (Tells ((bs.length : Int) - k) w) := by
  obtain ⟨A, c, hv, _, hnc, hc, hr, _⟩ := own_form h.own
  have h1 : w.cell? ⟨g, 1, none⟩ = some (.slice A bs.length c) := by rw [h.blk.cell, ← hv]; rfl
  have h2 : w.cell? ⟨g, 2, none⟩ = some (.int .i64 (k : Int)) := by rw [h.blk.cell]; rfl
  have hle := h.le
  have hsm := h.small
  have hw : IntKind.i64.wrap ((bs.length : Int) - k) = (bs.length : Int) - k := by rw [IntWalk.i64_in]; omega
  have H := Lib.hid h
  clear h hv hr hc
  go_enter Try.func31, Try.ntmps31
  go_wp2_with (go_at_call 70; refine (rreal _ _ _ _ _ H.out.blk).mono ?_; rintro e w' ⟨rfl, rfl⟩)
  go_quiet (fail)
  go_wp2
  go_ret
  exact ⟨rfl, _, rfl⟩
end

/-- What NewReader leaves. -/
def NewR (w : World) (bs : List UInt8) (e : Ending) (w' : World) : Prop :=
  ∃ g v, e = .returned (.tuple #[.pointer (some ⟨g, 0, none⟩), .int .i64 0]) ∧ w.heap.size ≤ g ∧ (∀ i, v.ownBlock = some i → w.heap.size ≤ i) ∧ Rd w' g v bs 0 false ∧ Frm No w w'

set_option maxRecDepth 100000 in
set_option maxHeartbeats 400000 in
theorem newReader (w : World) (A : Option Addr) (c : Nat) (bs : List UInt8) (h : Rds w A bs) (hs : bs.length ≤ 131072) :
    Calls Try.prog 17 #[.slice A bs.length c] w (NewR w bs) := by
  have H := Lib.hid h
  clear h
  go_enter Try.func17, Try.ntmps17
  go_wp2_with fail
  refine (clone_any w A c _ H.out (by omega)).mono ?_
  rintro e w1 ⟨x, rfl, hx, hf⟩
  obtain ⟨X, cx, rfl, _, hxc, hcm, hrx, hbx⟩ := own_form hx
  have HX := Lib.hid hx
  have HF := Lib.hid hf
  clear hx hf hrx hbx hcm hxc
  go_wp2
  go_ret2
  refine ⟨w1.heap.size, .slice X bs.length cx, rfl, HF.out.size, fun i hi => (own_lt HX.out hi).1, ⟨Blk.new _ _ _, own_mono (HX.out.alloc _) (Nat.zero_le _), Nat.zero_le _, hs⟩, HF.out.alloc _⟩

set_option maxRecDepth 100000 in
set_option maxHeartbeats 400000 in
theorem newReader_long (w : World) (A : Option Addr) (c n : Nat) (hs : 131072 < n) :
    Calls Try.prog 17 #[.slice A n c] w fun e w' => e = .returned (.tuple #[.pointer none, .int .i64 3]) ∧ w = w' := by
  go_enter Try.func17, Try.ntmps17
  go_wp2
  go_ret2
  exact ⟨rfl, rfl⟩
end Go.Proofs.Ytgpnnnjhcjjnmaa
