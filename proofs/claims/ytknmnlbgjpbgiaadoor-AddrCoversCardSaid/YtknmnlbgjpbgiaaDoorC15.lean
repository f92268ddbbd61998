/-
  The prefixes that cover a range, one after the other: covering.
-/
import Derived.Test.YtknmnlbgjpbgiaaDoorC14
import Derived.Test.YtknmnlbgjpbgiaaDoorRF
import Derived.RangeFuncBox
import Derived.WalkKit
import Derived.OwnWalkIn
import Derived.TacticsInMore
import Derived.LoopNIn
import Derived.LoopIn
import Derived.Sort.CutIn
import Derived.Sort.LoopGhostIn
import Derived.Stop.RegionWithIn
namespace Go.Proofs.YtknmnlbgjpbgiaaDoor
open Go.RowKit
attribute [local go_sem] Oper.semAt_some

theorem good_32 (f t : Nat) (h : f ≤ t) : goodB f t 32 = true := by
  unfold goodB rightB top sz
  simp [Nat.mod_one]
  exact h
theorem widGo_spec (f t : Nat) (h : f ≤ t) : ∀ k n, n + k = 32 → goodB f t (widGo f t k n) = true ∧ widGo f t k n ≤ 32
  | 0, n, hn => by
    obtain rfl : n = 32 := by omega
    exact ⟨good_32 f t h, Nat.le_refl _⟩
  | k + 1, n, hn => by
    by_cases hg : goodB f t n = true
    · rw [widGo_good hg]
      exact ⟨hg, by omega⟩
    · rw [widGo_bad (by simpa using hg)]
      exact widGo_spec f t h k (n + 1) (by omega)
theorem wid_spec (f t : Nat) (h : f ≤ t) : rightB f (wid f t) = true ∧ top f (wid f t) ≤ t ∧ wid f t ≤ 32 := by
  have := widGo_spec f t h 32 0 rfl
  unfold goodB at this
  simp only [Bool.and_eq_true, decide_eq_true_eq] at this
  exact ⟨this.1.1, this.1.2, this.2⟩
theorem top_ge (a n : Nat) : a ≤ top a n := by
  have := sz_pos n
  unfold top
  omega

/-- The prefixes that cover a range, as many as k. -/
def covGo (t : Nat) : Nat → Nat → List (Nat × Nat)
  | 0, _ => []
  | k + 1, a => (a, wid a t) :: if top a (wid a t) < t then covGo t k (top a (wid a t) + 1) else []
def cov (f t : Nat) : List (Nat × Nat) := covGo t (t - f + 1) f

theorem covGo_len (t : Nat) : ∀ k a, (covGo t k a).length ≤ k
  | 0, _ => Nat.le_refl _
  | k + 1, a => by
    rw [covGo, List.length_cons]
    split
    · have := covGo_len t k (top a (wid a t) + 1)
      omega
    · simp

def pv (x : Nat × Nat) : Value := .agg #[.int .u32 (x.1 : Int), .int .u8 (x.2 : Int)]

theorem grown_of_frm {A B : World} (h : Frm No A B) (row : Option Nat) : A.grownBy B row := ⟨h.os, h.tape, h.output, h.size, fun k hk _ => h.block k hk (fun x => x)⟩
theorem grown_of_one {A B : World} {g : Nat} (h : Frm (One g) A B) : A.grownBy B (some g) := ⟨h.os, h.tape, h.output, h.size, fun k hk hne => h.block k hk (fun e => hne (by rw [show k = g from e]))⟩
theorem below_of_frm {A B : World} (h : Frm No A B) (m : Nat) (hm : m ≤ A.heap.size) : Below m A B := h.below hm (fun _ x => x.elim)

set_option maxRecDepth 100000 in
set_option maxHeartbeats 4000000 in
theorem cov_in (n : Nat) (hn : 1 ≤ n) (l b1 b2 f t : Nat) (V : Nat → Prop) (hf0 : f < 4294967296) (ht : t < 4294967296) (hft : f ≤ t) (J : Nat → List (Nat × Nat) → World → Prop) (W : World)
    (hJ : ∀ bp s A B, J bp s A → A.grownBy B (some bp) → J bp s B)
    (h0 : ∀ bp A, Below W.heap.size W A → W.heap.size ≤ bp → bp < A.heap.size → J bp [] A)
    (hY : ∀ bp pre x W1, J bp pre W1 → pre.length < (cov f t).length → YieldAt Fence.wide (n - 1) Tryd.prog l #[pv x] W1 fun e W' =>
      e = .returned (.bool true) ∧ J bp (pre ++ [x]) W' ∧ W'.heap[bp]? = W1.heap[bp]? ∧ KeptV V W1 W')
    (hV2 : V b2) (hb2 : b2 < W.heap.size) (c1 : W.cell? ⟨b1, 0, none⟩ = some (.int .u32 (f : Int))) (c2 : W.cell? ⟨b2, 0, none⟩ = some (.int .u32 (t : Int))) :
    CallsIn Fence.wide n Tryd.prog 69 #[.func (.yield l) #[] #[], .pointer (some ⟨b1, 0, none⟩), .pointer (some ⟨b2, 0, none⟩)] W fun e W' => (∃ v, e = .returned v) ∧ ∃ bp xs, xs = cov f t ∧ J bp xs W' := by
  refine callsIn_of_wp Tryd.func69 rfl trivial ?_ rfl
  simp only [Tryd.ntmps69, List.size_toArray, List.length_cons, List.length_nil, Nat.reduceAdd, Nat.reduceSub, Array.replicate_succ, Array.replicate_zero, List.push_toArray, List.append_toArray, List.nil_append, List.cons_append]
  have HJ := Lib.hid hJ
  have H0 := Lib.hid h0
  have HY := Lib.hid hY
  clear hJ h0 hY
  gi_wp2_with fail
  refine ⟨trivial, (callsIn_wide.2 (widest_any _ f t hf0 ht)).mono ?_⟩
  rintro e w1 ⟨rfl, hf⟩
  have F1 := Lib.hid hf
  have D2 := Lib.hid ((hf.cell (p := ⟨b2, 0, none⟩) (by show b2 < _; omega) (fun x => x)).trans c2)
  have BP := Lib.hid (Blk.new w1 24 #[.int .u32 (f : Int), .int .u8 (wid f t : Int)])
  clear hf
  gi_wp2
  gi_loopg [] (t - f + 1) (fun k wr => ∃ (a : Nat) (pre : List (Nat × Nat)), a ≤ t ∧ t - a + 1 ≤ k ∧ Hid (cov f t = pre ++ covGo t k a) ∧ Hid (Blk wr w1.heap.size 24 #[.int .u32 (a : Int), .int .u8 (wid a t : Int)]) ∧ Hid (wr.cell? ⟨b2, 0, none⟩ = some (.int .u32 (t : Int))) ∧ b2 < wr.heap.size ∧ Hid (J w1.heap.size pre wr))
  case atStart =>
    refine ⟨f, [], hft, Nat.le_refl _, rfl, BP.out, ?_, ?_, ?_⟩
    · show World.cell? _ _ = _
      rw [Below.cell (p := ⟨b2, 0, none⟩) ((Below.refl w1.heap.size w1).alloc (Nat.le_refl _) _) (by show b2 < _; have := F1.out.size; omega)]
      exact D2.out
    · have := F1.out.size
      simp
      omega
    · refine H0.out _ _ ((below_of_frm F1.out _ (Nat.le_refl _)).alloc F1.out.size _) F1.out.size (by simp)
  case round =>
    obtain ⟨a, pre, hat, hk, HC, HB, HD, hmw, HJJ⟩ := hrel
    obtain ⟨k, rfl⟩ : ∃ k, gk = k + 1 := ⟨gk - 1, by omega⟩
    obtain ⟨hg1, hg2, hg3⟩ := wid_spec a t hat
    obtain ⟨nn, hnn⟩ : ∃ nn, wid a t = nn := ⟨_, rfl⟩
    have hcov : cov f t = pre ++ (a, nn) :: (if top a nn < t then covGo t k (top a nn + 1) else []) := by rw [HC.out, covGo, hnn]
    have hlen : pre.length < (cov f t).length := by rw [hcov]; simp
    have HJd := Lib.hid (HJ.out _ _ _ _ HJJ.out (grown_of_frm (Frm.refl No wr).drew (some w1.heap.size)))
    obtain ⟨fn, tmps, assign, body, hy, hR⟩ := HY.out w1.heap.size pre (a, nn) wr.drew HJd.out hlen
    dsimp only [pv] at hy
    have HR := Lib.hid hR
    have HC' := Lib.hid hcov
    rw [hnn] at HB hg1 hg2 hg3
    have c0 : wr.cell? ⟨w1.heap.size, 0, none⟩ = some (.int .u32 (a : Int)) := HB.out.cell 0
    have c3 : wr.cell? ⟨w1.heap.size, 1, none⟩ = some (.int .u8 (nn : Int)) := HB.out.cell 1
    have HL := Lib.hid (fun W => last_any W a nn (by omega) (by omega) hg1)
    clear hR hcov hlen c1 c2
    gi_wp2_with fail
    gi_cut [16] from 8 (fun s16 wx => s16 = .bool (decide (top a nn < t)) ∧ Hid (J w1.heap.size (pre ++ [(a, nn)]) wx) ∧ Hid (Blk wx w1.heap.size 24 #[.int .u32 (a : Int), .int .u8 (nn : Int)]) ∧ Hid (wx.cell? ⟨b2, 0, none⟩ = some (.int .u32 (t : Int))) ∧ b2 < wx.heap.size)
    case first =>
      gi_region_with (first
        | (refine HR.out.mono ?_; rintro e W3 ⟨rfl, hj3, hs3, hb3⟩; have HB3 : Hid (Blk W3 w1.heap.size 24 #[.int .u32 (a : Int), .int .u8 (nn : Int)]) := hs3.trans HB.out; have e0 := HB3.out.cell 0; have e1 := HB3.out.cell 1; have e2 : W3.cell? ⟨b2, 0, none⟩ = some (.int .u32 (t : Int)) := (World.cell?_of_block (w := wr.drew) (hb3 b2 hV2)).trans HD.out; have HJ3 := Lib.hid hj3; have HM3 : b2 < W3.heap.size := World.block_lt_of_cell? W3 _ e2; clear hj3 hs3 hb3)
        | (refine ⟨trivial, ?_⟩; gi_at_call 71; refine (callsIn_wide.2 (HL.out _)).mono ?_; rintro e W4 ⟨rfl, hf4⟩; have e3 : W4.cell? ⟨b2, 0, none⟩ = some (.int .u32 (t : Int)) := (hf4.cell (p := ⟨b2, 0, none⟩) HM3 (fun x => x)).trans e2; have HF4 := Lib.hid hf4; clear hf4))
      all_goals
        gi_wp2_with fail
        gi_meet
        exact ⟨rfl, HJ.out _ _ _ _ HJ3.out (grown_of_frm HF4.out _), HB3.out.frm HF4.out (fun x => x), e3, Nat.lt_of_lt_of_le HM3 HF4.out.size⟩
    case rest =>
      obtain ⟨rfl, HJ5, HB5, HD5, hm5⟩ := hcut
      by_cases htt : top a nn < t
      · rw [decide_eq_true htt]
        have e0 : wc.cell? ⟨w1.heap.size, 0, none⟩ = some (.int .u32 (a : Int)) := HB5.out.cell 0
        have e1 : wc.cell? ⟨w1.heap.size, 1, none⟩ = some (.int .u8 (nn : Int)) := HB5.out.cell 1
        have e2 := HD5.out
        have hw : IntKind.u32.wrap ((top a nn : Int) + 1) = ((top a nn + 1 : Nat) : Int) := by rw [IntKind.wrap_u32]; omega
        have HX := Lib.hid (fun W => widest_any W (top a nn + 1) t (by omega) ht)
        have hpos : ∀ W', Frm No wc W' → W'.cell? ⟨w1.heap.size, 0, none⟩ = some (.int .u32 (a : Int)) ∧ W'.frozen? ⟨w1.heap.size, 0, none⟩ = false ∧ W'.cell? ⟨w1.heap.size, 1, none⟩ = some (.int .u8 (nn : Int)) ∧ W'.frozen? ⟨w1.heap.size, 1, none⟩ = false := fun W' h => ⟨(HB5.out.frm h (fun x => x)).cell 0, (HB5.out.frm h (fun x => x)).frozen 0, (HB5.out.frm h (fun x => x)).cell 1, (HB5.out.frm h (fun x => x)).frozen 1⟩
        have HP := Lib.hid hpos
        clear hpos
        gi_wp2_with fail
        gi_region_with (first
          | (refine ⟨trivial, ?_⟩; gi_at_call 71; refine (callsIn_wide.2 (HL.out _)).mono ?_; rintro e W4 ⟨rfl, hf4⟩; have e3 : W4.cell? ⟨b2, 0, none⟩ = some (.int .u32 (t : Int)) := (hf4.cell (p := ⟨b2, 0, none⟩) hm5 (fun x => x)).trans e2; have HF4 := Lib.hid ((Frm.refl No wc).drew.new0 hf4); clear hf4)
          | (refine ⟨trivial, ?_⟩; gi_at_call 70; refine (callsIn_wide.2 (HX.out _)).mono ?_; rintro e W5 ⟨rfl, hf5⟩; have HF5 := Lib.hid (HF4.out.new0 hf5); clear hf5; obtain ⟨g0, g1, g2, g3⟩ := HP.out _ HF5.out))
        all_goals
          gi_wp2
          gi_roundg k
          case measure => omega
          case rel =>
            refine ⟨top a nn + 1, pre ++ [(a, nn)], by omega, ?_, ?_, ?_, ?_, ?_, ?_⟩
            · have := top_ge a nn
              omega
            · show cov f t = _
              rw [HC'.out, if_pos htt]
              simp
            · exact set2 (HB5.out.frm HF5.out (fun x => x))
            · show World.cell? _ _ = _
              exact (Frm.cell (p := ⟨b2, 0, none⟩) (((HF5.out.of_no (One w1.heap.size)).set1 0 _).set1 1 _) hm5 (by have := F1.out.size; show ¬ b2 = w1.heap.size; omega)).trans HD5.out
            · exact Nat.lt_of_lt_of_le hm5 (((HF5.out.of_no (One w1.heap.size)).set1 0 _).set1 1 _).size
            · exact HJ.out _ _ _ _ HJ5.out (grown_of_one (((HF5.out.of_no (One w1.heap.size)).set1 0 _).set1 1 _))
      · rw [decide_eq_false htt]
        have HE : Hid (cov f t = pre ++ [(a, nn)]) := by
          show cov f t = _
          rw [HC'.out, if_neg htt]
        gi_wp2
        go_end0
        exact ⟨⟨_, rfl⟩, _, _, HE.out.symm, HJ5.out⟩

theorem cov_seq (n : Nat) (hn : 1 ≤ n) (b1 b2 f t : Nat) (V : Nat → Prop) (hf0 : f < 4294967296) (ht : t < 4294967296) (hft : f ≤ t) (w : World) (hb1 : b1 < w.heap.size) (hb2 : b2 < w.heap.size) (hV2 : V b2)
    (c1 : w.cell? ⟨b1, 0, none⟩ = some (.int .u32 (f : Int))) (c2 : w.cell? ⟨b2, 0, none⟩ = some (.int .u32 (t : Int))) :
    SeqC Fence.wide n Tryd.prog 69 #[.pointer (some ⟨b1, 0, none⟩), .pointer (some ⟨b2, 0, none⟩)] (fun x : Nat × Nat => #[pv x]) V (fun ys => ys = cov f t) (cov f t).length w :=
  fun l J W hW hJ h0 hY =>
    cov_in n hn l b1 b2 f t V hf0 ht hft J W hJ h0 hY hV2 (Nat.lt_of_lt_of_le hb2 hW.size) ((hW.cell (p := ⟨b1, 0, none⟩) hb1).trans c1) ((hW.cell (p := ⟨b2, 0, none⟩) hb2).trans c2)
end Go.Proofs.YtknmnlbgjpbgiaaDoor
