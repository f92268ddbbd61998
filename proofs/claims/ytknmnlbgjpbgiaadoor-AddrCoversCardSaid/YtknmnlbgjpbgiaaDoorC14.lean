/-
  The widest prefix from an address on: last, widest.
-/
import Derived.Test.YtknmnlbgjpbgiaaDoorC11
import Derived.Deep.LoopGhost
namespace Go.Proofs.YtknmnlbgjpbgiaaDoor
open Go.RowKit
attribute [local go_sem] undef

set_option maxRecDepth 100000 in
set_option maxHeartbeats 1000000 in
theorem last_any (w : World) (a n : Nat) (ha : a < 4294967296) (hn : n < 256) (h : rightB a n = true) : Calls Tryd.prog 71 #[.agg #[.int .u32 (a : Int), .int .u8 (n : Int)]] w (RetNo (.int .u32 (top a n : Int)) w) := by
  have HB := Lib.hid (fun W => bounds_pfx W a n ha hn)
  have hv : boundsV a n = .tuple #[.int .u32 (a : Int), .int .u32 (top a n : Int), .int .i64 0] := by unfold boundsV; rw [if_pos h]
  rw [hv] at HB
  clear hv h
  go_enter Tryd.func71, Tryd.ntmps71
  go_wp2_with fail
  refine (HB.out _).mono ?_
  rintro e w1 ⟨rfl, hf⟩
  have F1 := Lib.hid hf
  clear hf
  go_wp2
  go_ret
  exact ⟨rfl, ((Frm.refl No w).alloc _).new0 F1.out⟩

/-- It begins at f, and has no address after t. -/
def goodB (f t n : Nat) : Bool := rightB f n && decide (top f n ≤ t)
def widGo (f t : Nat) : Nat → Nat → Nat
  | 0, n => n
  | k + 1, n => if goodB f t n = true then n else widGo f t k (n + 1)
/-- The length of the widest prefix from f on with no address after t. -/
def wid (f t : Nat) : Nat := widGo f t 32 0

theorem widGo_good {f t n : Nat} (h : goodB f t n = true) (k : Nat) : widGo f t k n = n := by
  cases k with
  | zero => rfl
  | succ k => rw [widGo, if_pos h]
theorem widGo_bad {f t n k : Nat} (h : goodB f t n = false) : widGo f t (k + 1) n = widGo f t k (n + 1) := by
  rw [widGo, if_neg (by rw [h]; decide)]

theorem set1 {w : World} {g t : Nat} {x y v : Value} (h : Blk w g t #[x, y]) : Blk (w.setCell ⟨g, 1, none⟩ v) g t #[x, v] := h.set_ 1 v

def WidEnds (f t : Nat) (w : World) (e : Ending) (w' : World) : Prop := e = .returned (.agg #[.int .u32 (f : Int), .int .u8 (wid f t : Int)]) ∧ Frm No w w'

set_option maxRecDepth 100000 in
set_option maxHeartbeats 4000000 in
theorem widest_any (w : World) (f t : Nat) (hf0 : f < 4294967296) (ht : t < 4294967296) : Calls Tryd.prog 70 #[.int .u32 (f : Int), .int .u32 (t : Int)] w (WidEnds f t w) := by
  go_enter Tryd.func70, Tryd.ntmps70
  go_wp2
  go_loopg [] 33 (fun k wr => ∃ n : Nat, n + k = 33 ∧ n ≤ 32 ∧ Hid (wid f t = widGo f t (32 - n) n) ∧ Hid (Blk wr w.heap.size 24 #[.int .u32 0, .int .u8 0]) ∧ Hid (Blk wr (w.heap.size + 1) 24 #[.int .u32 (f : Int), .int .u8 (n : Int)]) ∧ Hid (Frm No w wr))
  case atStart =>
    refine ⟨0, rfl, by omega, rfl, ?_, ?_, ?_⟩
    · exact (Blk.new w 24 _).alloc _
    · have := Blk.new (w.alloc (.cells #[.int .u32 0, .int .u8 0] 24)) 24 #[.int .u32 (f : Int), .int .u8 0]
      show Blk _ _ _ _
      simpa using this
    · exact ((Frm.refl No w).alloc _).alloc _
  case round =>
    obtain ⟨n, hk, hn, HW, B0, B1, HF⟩ := hrel
    obtain ⟨r0, r1, r2, r3⟩ := blk_cells2 B0.out
    obtain ⟨p0, p1, p2, p3⟩ := blk_cells2 B1.out
    by_cases hlt : n < 32
    · have q : (n : Int) < 32 := by omega
      have HR := Lib.hid (fun W => right_pfx W f n hf0 (by omega))
      by_cases hr : rightB f n = true
      · have HL := Lib.hid (fun W => last_any W f n hf0 (by omega) hr)
        by_cases htop : top f n ≤ t
        · have HE := Lib.hid (HW.out.trans (widGo_good (by unfold goodB; rw [hr, decide_eq_true htop]; rfl) _))
          have q2 : (top f n : Int) ≤ t := by omega
          rw [hr] at HR
          clear hr htop
          go_wp2_with fail
          refine (HR.out _).mono ?_
          rintro e w1 ⟨rfl, hf⟩
          have F1 := Lib.hid (HF.out.new0 hf)
          have B2 := Lib.hid (B0.out.frm hf (fun x => x))
          have B3 := Lib.hid (B1.out.frm hf (fun x => x))
          clear hf r0 r1 r2 r3 p0 p1 p2 p3
          obtain ⟨r0, r1, r2, r3⟩ := blk_cells2 B2.out
          obtain ⟨p0, p1, p2, p3⟩ := blk_cells2 B3.out
          go_wp2_with fail
          refine (HL.out _).mono ?_
          rintro e w2 ⟨rfl, hf⟩
          have F2 := Lib.hid (F1.out.new0 hf)
          have B4 := Lib.hid (B2.out.frm hf (fun x => x))
          have B5 := Lib.hid (B3.out.frm hf (fun x => x))
          clear hf r0 r1 r2 r3 p0 p1 p2 p3
          obtain ⟨r0, r1, r2, r3⟩ := blk_cells2 B4.out
          obtain ⟨p0, p1, p2, p3⟩ := blk_cells2 B5.out
          have BZ := Lib.hid (set2 (u := .int .u32 (f : Int)) (v := .int .u8 (n : Int)) B4.out)
          go_wp2
          have z0 := BZ.out.cell 0
          have z1 := BZ.out.cell 1
          refine bodyPost_ret (v := .agg #[.int .u32 (f : Int), .int .u8 (n : Int)]) (by simp [results, Tryd.results70, go_sem, z0, z1]) rfl ⟨by rw [HE.out], ?_⟩
          exact F2.out.set2 (Nat.le_refl _) _ _
        · have HE := Lib.hid (HW.out.trans ((by rw [show 32 - n = (31 - n) + 1 by omega]) : widGo f t (32 - n) n = widGo f t ((31 - n) + 1) n))
          have HE2 := Lib.hid (HE.out.trans (widGo_bad (by unfold goodB; rw [decide_eq_false htop]; simp)))
          have q2 : ¬ (top f n : Int) ≤ t := by omega
          have q3 : (t : Int) < top f n := by omega
          rw [hr] at HR
          clear hr htop
          go_wp2_with fail
          refine (HR.out _).mono ?_
          rintro e w1 ⟨rfl, hf⟩
          have F1 := Lib.hid (HF.out.new0 hf)
          have B2 := Lib.hid (B0.out.frm hf (fun x => x))
          have B3 := Lib.hid (B1.out.frm hf (fun x => x))
          clear hf r0 r1 r2 r3 p0 p1 p2 p3
          obtain ⟨r0, r1, r2, r3⟩ := blk_cells2 B2.out
          obtain ⟨p0, p1, p2, p3⟩ := blk_cells2 B3.out
          go_wp2_with fail
          refine (HL.out _).mono ?_
          rintro e w2 ⟨rfl, hf⟩
          have F2 := Lib.hid (F1.out.new0 hf)
          have B4 := Lib.hid (B2.out.frm hf (fun x => x))
          have B5 := Lib.hid (B3.out.frm hf (fun x => x))
          clear hf r0 r1 r2 r3 p0 p1 p2 p3
          obtain ⟨r0, r1, r2, r3⟩ := blk_cells2 B4.out
          obtain ⟨p0, p1, p2, p3⟩ := blk_cells2 B5.out
          go_wp2
          go_roundg (gk - 1)
          case measure => omega
          case rel => exact ⟨n + 1, by omega, by omega, by show Hid _; rw [show 32 - (n + 1) = 31 - n by omega]; exact HE2, (B4.out.far (by simp) _), by have := set1 (v := .int .u8 ((n : Int) + 1)) B5.out; show Blk _ _ _ _; simpa using this, F2.out.setCell (p := ⟨w.heap.size + 1, 1, none⟩) (fun hx => absurd hx (by show ¬ w.heap.size + 1 < _; omega)) _⟩
      · have HE := Lib.hid (HW.out.trans ((by rw [show 32 - n = (31 - n) + 1 by omega]) : widGo f t (32 - n) n = widGo f t ((31 - n) + 1) n))
        have hr' : rightB f n = false := by simpa using hr
        have HE2 := Lib.hid (HE.out.trans (widGo_bad (by unfold goodB; rw [hr']; rfl)))
        rw [hr'] at HR
        clear hr hr'
        go_wp2_with fail
        refine (HR.out _).mono ?_
        rintro e w1 ⟨rfl, hf⟩
        have F1 := Lib.hid (HF.out.new0 hf)
        have B2 := Lib.hid (B0.out.frm hf (fun x => x))
        have B3 := Lib.hid (B1.out.frm hf (fun x => x))
        clear hf r0 r1 r2 r3 p0 p1 p2 p3
        obtain ⟨r0, r1, r2, r3⟩ := blk_cells2 B2.out
        obtain ⟨p0, p1, p2, p3⟩ := blk_cells2 B3.out
        go_wp2
        go_roundg (gk - 1)
        case measure => omega
        case rel => exact ⟨n + 1, by omega, by omega, by show Hid _; rw [show 32 - (n + 1) = 31 - n by omega]; exact HE2, (B2.out.far (by simp) _), by have := set1 (v := .int .u8 ((n : Int) + 1)) B3.out; show Blk _ _ _ _; simpa using this, F1.out.setCell (p := ⟨w.heap.size + 1, 1, none⟩) (fun hx => absurd hx (by show ¬ w.heap.size + 1 < _; omega)) _⟩
    · obtain rfl : n = 32 := by omega
      have HE := Lib.hid HW.out
      have BZ := Lib.hid (set2 (u := .int .u32 (f : Int)) (v := .int .u8 32) B0.out)
      go_wp2
      have z0 := BZ.out.cell 0
      have z1 := BZ.out.cell 1
      refine bodyPost_ret (v := .agg #[.int .u32 (f : Int), .int .u8 32]) (by simp [results, Tryd.results70, go_sem, z0, z1]) rfl ⟨by rw [HE.out]; rfl, ?_⟩
      exact HF.out.set2 (Nat.le_refl _) _ _
end Go.Proofs.YtknmnlbgjpbgiaaDoor
