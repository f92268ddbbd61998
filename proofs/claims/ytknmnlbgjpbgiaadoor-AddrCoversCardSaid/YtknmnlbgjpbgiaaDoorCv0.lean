/-
  AddrCovers: a range that ends before it begins; what the calls of one round answer.
-/
import Derived.Test.YtknmnlbgjpbgiaaDoorV3
import Derived.Test.YtknmnlbgjpbgiaaDoorN1
namespace Go.Proofs.YtknmnlbgjpbgiaaDoor
open Go.RowKit
attribute [local go_sem] undef
attribute [local irreducible] wpList wpQuiet

set_option maxRecDepth 100000 in
set_option maxHeartbeats 2000000 in
theorem covers_no (w : World) (htab : Tab w) (f t x : Nat) (h : t < f) :
    Calls Tryd.prog 6 #[.int .u32 (f : Int), .int .u32 (t : Int), .int .u32 (x : Int)] w fun e w' => e = .returned (.bool true) ∧ Frm No w w' := by
  have T0 := Lib.hid htab
  clear htab
  have X1 := Lib.hid (fun W => cover_no W f t h)
  have hlt : (t : Int) < f := by omega
  go_enter Tryd.func6, Tryd.ntmps6
  go_wp2_with fail
  refine (awake _ T0.out).mono ?_
  rintro e w1 ⟨rfl, hf⟩
  have F1 := Lib.hid hf
  clear hf
  go_wp2_with fail
  refine (X1.out _).mono ?_
  rintro e w2 ⟨rfl, rfl⟩
  go_wp2_with fail
  go_ret
  exact ⟨rfl, F1.out⟩

/-- What the calls of one round answer: (c, n) the prefix, d its last address. -/
structure CvR (c n d x : Nat) (vx : Bool) : Prop where
  B : ∀ W, Calls Tryd.prog 16 #[.agg #[.int .u32 (c : Int), .int .u8 (n : Int)]] W fun e w' => e = .returned (.tuple #[.int .u32 (c : Int), .int .u32 (d : Int), .int .i64 0]) ∧ Frm No W w'
  R : ∀ W, Calls Tryd.prog 17 #[.agg #[.int .u32 (c : Int), .int .u8 (n : Int)]] W (BoolNo true W)
  L : ∀ W, Calls Tryd.prog 18 #[.agg #[.int .u32 (c : Int), .int .u8 (n : Int)], .int .u32 (c : Int)] W (BoolNo true W)
  D : ∀ W, Calls Tryd.prog 18 #[.agg #[.int .u32 (c : Int), .int .u8 (n : Int)], .int .u32 (d : Int)] W (BoolNo true W)
  X : ∀ W, Calls Tryd.prog 18 #[.agg #[.int .u32 (c : Int), .int .u8 (n : Int)], .int .u32 (x : Int)] W (BoolNo vx W)
  M : 0 < c → ∀ W, Calls Tryd.prog 18 #[.agg #[.int .u32 (c : Int), .int .u8 (n : Int)], .int .u32 ((c : Int) - 1)] W (BoolNo false W)
  P : d < 4294967295 → ∀ W, Calls Tryd.prog 18 #[.agg #[.int .u32 (c : Int), .int .u8 (n : Int)], .int .u32 ((d : Int) + 1)] W (BoolNo false W)

theorem cvR_of (c n t x : Nat) (hc : c < 4294967296) (hn : n ≤ 32) (ht : t < 4294967296) (hx : x < 4294967296) (hr : rightB c n = true) (hd : top c n ≤ t) : CvR c n (top c n) x (decide (c ≤ x ∧ x ≤ top c n)) := by
  have hge := top_ge c n
  refine ⟨fun W => ?_, fun W => hr ▸ right_pfx W c n hc (by omega), fun W => ?_, fun W => ?_, fun W => ?_, fun h W => ?_, fun h W => ?_⟩
  · refine (bounds_pfx W c n hc (by omega)).mono ?_
    rintro e w' ⟨he, hw⟩
    unfold boundsV at he
    rw [if_pos hr] at he
    exact ⟨he, hw⟩
  · have h := has_pfx W c n c hc (by omega) hc
    rw [has_iff hr, decide_eq_true ⟨Nat.le_refl _, hge⟩] at h
    exact h
  · have h := has_pfx W c n (top c n) hc (by omega) (by omega)
    rw [has_iff hr, decide_eq_true ⟨hge, Nat.le_refl _⟩] at h
    exact h
  · have h := has_pfx W c n x hc (by omega) hx
    rw [has_iff hr] at h
    exact h
  · have h1 := has_pfx W c n (c - 1) hc (by omega) (by omega)
    rw [has_iff hr, decide_eq_false (by omega), show ((c - 1 : Nat) : Int) = (c : Int) - 1 by omega] at h1
    exact h1
  · have h1 := has_pfx W c n (top c n + 1) hc (by omega) (by omega)
    rw [has_iff hr, decide_eq_false (by omega), show ((top c n + 1 : Nat) : Int) = (top c n : Int) + 1 by omega] at h1
    exact h1

theorem pfs_at {W : World} {g N cap : Nat} {L : List (Nat × Nat)} (h : Pfs W (.slice (some ⟨g, 0, none⟩) N cap) L) {j a m : Nat} (hj : L[j]? = some (a, m)) : W.cell? ⟨g, j * 2, none⟩ = some (.int .u32 (a : Int)) ∧ W.cell? ⟨g, j * 2 + 1, none⟩ = some (.int .u8 (m : Int)) := by
  obtain ⟨A, c, he, hc⟩ := h
  obtain ⟨hlt, hx⟩ := List.getElem?_eq_some_iff.1 hj
  cases he
  obtain ⟨g', hg, hcell⟩ := hc (by omega)
  cases hg
  have := hcell j hlt
  rw [hx] at this
  exact this

end Go.Proofs.YtknmnlbgjpbgiaaDoor
