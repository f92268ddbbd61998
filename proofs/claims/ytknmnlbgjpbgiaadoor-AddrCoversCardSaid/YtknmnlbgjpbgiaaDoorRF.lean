/-
  A range over a function whose iterator keeps one block of cells of its own: the law of such a loop. Nothing of a program.
-/
import Derived.RangeFuncNested
import Derived.RangeFuncBound
import Derived.RangeFuncCalls
import Derived.RangeFuncLeaves
namespace Go.Proofs.YtknmnlbgjpbgiaaDoor
open Go Go.RowKit

/-- What a round keeps: what is no cells from B on; the iterator's own block; the blocks of V. -/
def KeptV (V : Nat → Prop) (W W' : World) : Prop := ∀ k, V k → W'.heap[k]? = W.heap[k]?
theorem KeptV.trans {V : Nat → Prop} {X Y Z : World} (h : KeptV V X Y) (k : KeptV V Y Z) : KeptV V X Z := fun i hi => (k i hi).trans (h i hi)
theorem KeptV.refl (V : Nat → Prop) (X : World) : KeptV V X X := fun _ _ => rfl
theorem KeptV.putObj {V : Nat → Prop} {w : World} (hm : ∀ k, V k → k < w.heap.size) (W : World) (l : Nat) (o' : Obj) (hl : w.heap.size ≤ l) : KeptV V W (W.putObj l o') := fun k hk => World.putObj_heap_other (by have := hm k hk; omega)

structure Stp (B : Nat) (m : Nat → Prop) (bp : Nat) (W W' : World) : Prop where
  keeps : KeepsFrom B W W'
  same : W'.heap[bp]? = W.heap[bp]?
  low : KeptV m W W'

theorem Stp.trans {B bp : Nat} {m : Nat → Prop} {X Y Z : World} (h : Stp B m bp X Y) (k : Stp B m bp Y Z) : Stp B m bp X Z :=
  ⟨h.keeps.trans k.keeps, k.same.trans h.same, h.low.trans k.low⟩
theorem Stp.refl (B : Nat) (m : Nat → Prop) (bp : Nat) (X : World) : Stp B m bp X X := ⟨KeepsFrom.refl B X, rfl, KeptV.refl m X⟩

/-- An iterator that lays one block bp of its own ahead of the first round, and may write it between two rounds. No round ends the loop. -/
def SeqC {α : Type} (F : Fence) (n : Nat) (P : Program) (g : Nat) (lb : Array Value) (encs : α → Array Value) (m : Nat → Prop) (S : List α → Prop) (N : Nat) (w : World) : Prop :=
  ∀ (l : Nat) (J : Nat → List α → World → Prop) (W : World), Below w.heap.size w W →
    (∀ bp s A B, J bp s A → A.grownBy B (some bp) → J bp s B) →
    (∀ bp A, Below W.heap.size W A → W.heap.size ≤ bp → bp < A.heap.size → J bp [] A) →
    (∀ bp pre x W1, J bp pre W1 → pre.length < N → YieldAt F (n - 1) P l (encs x) W1 fun e W' =>
      e = .returned (.bool true) ∧ J bp (pre ++ [x]) W' ∧ W'.heap[bp]? = W1.heap[bp]? ∧ KeptV m W1 W') →
    CallsIn F n P g (#[.func (.yield l) #[] #[]] ++ lb) W fun e W' => (∃ v, e = .returned v) ∧ ∃ bp xs, S xs ∧ J bp xs W'

def postC {α : Type} (B : Nat) (m : Nat → Prop) (bp : Nat) (I : Nat → List α → World → Prop) (xs : List α) (W : World) : Exit → Act → World → Prop
  | .normal, _, W' => Stp B m bp W W' ∧ I bp xs W'
  | .ret, _, _ => False
  | .exit _, _, _ => False
  | .goto _, _, _ => False
  | .panic _, _, _ => False
  | .outgrown, _, _ => False

variable {F : Fence} {n : Nat} {P : Program}

theorem wpIn_rangeFunc_cells {α : Type} {g : Operand} {ps : Array Tmp} {assign body : Code} {Q : Exit → Act → World → Prop} {a : Act} {w : World}
    (hro : F.round = none) (h1 : 1 ≤ n) {gf : Nat} {lb : Array Value} (hg : a.eval g = .func (.func gf) #[] lb) (hFg : F.fn gf) (eg : ∀ args w, (callFunc gf args).run P w = .ok (.enter gf args) w)
    {encs : α → Array Value} {m : Nat → Prop} {S : List α → Prop} {N : Nat} {w0 : World} (hseq : SeqC F (n - 1) P gf lb encs m S N w0) (hm : ∀ k, m k → k < w.heap.size) (hb0 : Below w0.heap.size w0 w) (hps : ∀ x, (encs x).size = ps.size)
    (I : Nat → List α → World → Prop)
    (hI1 : ∀ bp s A B, w.heap.size ≤ bp → I bp s A → A.grownBy B (some bp) → I bp s B)
    (hI2 : ∀ bp s A l o o', I bp s A → w.heap.size ≤ l → A.heap[l]? = some o → o.isCells = false → I bp s (A.putObj l o'))
    (h0 : ∀ bp A, Below w.heap.size w A → w.heap.size ≤ bp → I bp [] A)
    (Ax : α → Act → World → Prop) (hAx : ∀ x a' A l o o', Ax x a' A → w.heap.size ≤ l → A.heap[l]? = some o → o.isCells = false → Ax x a' (A.putObj l o'))
    (hassign : ∀ (l bp : Nat) (pre : List α) (x : α) (W : World) (K : Act → World → Prop), w.heap.size ≤ bp → bp < W.heap.size → I bp pre W → (∀ a' W', Stp w.heap.size m bp W W' → I bp pre W' → Ax x a' W' → K a' W') →
      assign.wpIn (F.inRound l) (n - 1 - 1) P (Exit.then K (fun _ _ _ => False)) { tmps := (ps.zip (encs x)).foldl (fun t (p, v) => t.setIfInBounds p v) a.tmps, defers := [] } W)
    (hbody : ∀ (l bp : Nat) (pre : List α) (x : α) (a' : Act) (W : World), w.heap.size ≤ bp → bp < W.heap.size → I bp pre W → Ax x a' W → pre.length < N → body.wpIn (F.inRound l) (n - 1 - 1) P (postC w.heap.size m bp I (pre ++ [x]) W) a' W)
    (hdone : ∀ (D bp : Nat) (xs : List α) (W : World), w.heap.size ≤ D → S xs → I bp xs W → W.heap[D]? = some (.deferred (some [])) → Q .normal { a with defers := { target := .collected D, args := #[] } :: a.defers } W) :
    (Code.rangeFunc g ps assign body).wpIn F n P Q a w := by
  refine wpIn_rangeFunc ?_
  intro fn hfn
  rw [hro]
  obtain ⟨rec, hrec⟩ : ∃ rec : LoopState → Option Code → Loop, rec = fun st pe => { state := st, pending := pe, fn, tmps := a.tmps, params := ps, assign, body, defers := w.heap.size } := ⟨_, rfl⟩
  obtain ⟨W1, hW1⟩ : ∃ W1, (w.alloc (.deferred (some []))).alloc (.loop (rec .ready none)) = W1 := ⟨_, rfl⟩
  have hL1 : W1.heap[w.heap.size + 1]? = some (.loop (rec .ready none)) := by
    rw [← hW1]; have := World.alloc_heap_new (w.alloc (.deferred (some []))) (.loop (rec .ready none)); rwa [World.size_alloc] at this
  have hK1 : W1.heap[w.heap.size]? = some (.deferred (some [])) := by
    rw [← hW1]; exact (Below.heap_alloc _ _ _ (by simp)).trans (World.alloc_heap_new w _)
  have hww : Below w.heap.size w W1 := by
    rw [← hW1]; exact ((Below.refl _ w).alloc (Nat.le_refl _) _).alloc (by simp) _
  have hb1 : Below w0.heap.size w0 W1 := hb0.trans (hww.mono hb0.size)
  have hs1 : W1.heap.size = w.heap.size + 2 := by rw [← hW1]; simp
  refine ⟨w.heap.size + 1, [{ target := .collected w.heap.size, args := #[] }], W1, { target := .fn (.func gf) lb, args := #[.func (.yield (w.heap.size + 1)) #[] #[]] }, W1, gf,
    #[.func (.yield (w.heap.size + 1)) #[] #[]] ++ lb, W1, ?_, ?_, ?_, ?_, fun _ => h1, ?_⟩
  · rw [← hW1, hrec]; exact run_enterLoop_outer _ _ _ _ _
  · simp only [resolve, hg]
    simp [go_sem]
  · intro f' hf'; simp [Target.leads] at hf'; subst hf'; exact hFg
  · simp [invoke, go_sem, eg]
  · refine (hseq (w.heap.size + 1)
      (fun bp pre W => W1.heap.size ≤ bp ∧ bp < W.heap.size ∧ I bp pre W ∧ W.heap[w.heap.size + 1]? = some (.loop (rec .ready none)) ∧ W.heap[w.heap.size]? = some (.deferred (some [])))
      W1 hb1
      (fun bp s A B hs hg' => by
        obtain ⟨q1, q2, q3, q4, q5⟩ := hs
        refine ⟨q1, Nat.lt_of_lt_of_le q2 hg'.size, hI1 bp s A B (by omega) q3 hg', ?_, ?_⟩
        · rw [hg'.block _ (Array.getElem?_eq_some_iff.1 q4).1 (fun e => by injection e with e; omega)]; exact q4
        · rw [hg'.block _ (Array.getElem?_eq_some_iff.1 q5).1 (fun e => by injection e with e; omega)]; exact q5)
      (fun bp A hA hB hlt => by
        have := hA.size
        refine ⟨hB, hlt, h0 bp A (hww.trans (hA.mono (by omega))) (by omega), ?_, ?_⟩
        · rw [hA.block _ (by omega)]; exact hL1
        · rw [hA.block _ (by omega)]; exact hK1)
      ?_).mono ?_
    · rintro bp pre x W ⟨hB, hbl, hi, hl, hk⟩ hlen
      have hy := run_yield (P := P) (args := encs x) hl (by rw [hrec]; exact hps x)
      rw [hrec] at hy
      refine ⟨fn, _, assign, body, hy, roundIn_of_wpIn hfn (hassign _ bp pre x W _ (by omega) hbl hi ?_)⟩
      clear hy
      intro a' Wa hst hia hax
      have hla := hst.keeps.same _ _ (by omega) hl rfl
      have hka := hst.keeps.same _ _ (Nat.le_refl _) hk rfl
      have hlt : w.heap.size + 1 < Wa.heap.size := (Array.getElem?_eq_some_iff.1 hla).1
      have hba : bp < Wa.heap.size := Nat.lt_of_lt_of_le hbl hst.keeps.size
      refine ⟨_, run_beginRound hla (by rw [hrec]), ?_⟩
      have hl2 : (Wa.putObj (w.heap.size + 1) (.loop { rec .ready none with state := .busy })).heap[w.heap.size + 1]? = some (.loop { rec .ready none with state := .busy }) := World.putObj_heap_same hlt
      have hk2 : (Wa.putObj (w.heap.size + 1) (.loop { rec .ready none with state := .busy })).heap[w.heap.size]? = some (.deferred (some [])) := (World.putObj_heap_other (by omega)).trans hka
      refine wpIn_mono (hbody _ bp pre x a' _ (by omega) (by simpa using hba) (hI2 _ _ _ _ _ _ hia (by omega) hla rfl) (hAx x a' _ _ _ _ hax (by omega) hla rfl) hlen) ?_
      rintro e a3 W3 hp
      cases e with
      | normal =>
        obtain ⟨hst3, hi3⟩ := hp
        have hl3 := hst3.keeps.same _ _ (by omega) hl2 rfl
        have hk3 := hst3.keeps.same _ _ (Nat.le_refl _) hk2 rfl
        have hr := run_endRound (P := P) none hl3
        rw [hrec] at hr hl3
        refine ⟨_, _, hr, rfl, ⟨hB, ?_, hI2 _ _ _ _ _ _ hi3 (by omega) hl3 rfl, ?_, ?_⟩, ?_, ?_⟩
        · have h3 := hst3.keeps.size
          have h4 : bp < (Wa.putObj (w.heap.size + 1) (.loop { rec .ready none with state := .busy })).heap.size := by simpa using hba
          have h5 : bp < W3.heap.size := Nat.lt_of_lt_of_le h4 h3
          simpa using h5
        · rw [hrec]
          exact World.putObj_heap_same (Array.getElem?_eq_some_iff.1 hl3).1
        · exact (World.putObj_heap_other (by omega)).trans hk3
        · rw [World.putObj_heap_other (by omega), hst3.same, World.putObj_heap_other (by omega), hst.same]
        · exact ((hst.low.trans (KeptV.putObj hm _ _ _ (by omega))).trans hst3.low).trans (KeptV.putObj hm _ _ _ (by omega))
      | ret => exact hp.elim
      | exit id => exact hp.elim
      | goto t => exact hp.elim
      | panic ch => exact hp.elim
      | outgrown => exact hp.elim
    · rintro e W2 ⟨⟨v, rfl⟩, bp, xs, hS, hB, hbl, hi, hl, hk⟩
      exact ⟨none, _, by have := run_endLoop (P := P) hl (by rw [hrec]; simp); rw [hrec] at this; exact this, hdone _ bp xs _ (Nat.le_refl _) hS (hI2 _ _ _ _ _ _ hi (by omega) hl rfl) ((World.putObj_heap_other (by omega)).trans hk)⟩
end Go.Proofs.YtknmnlbgjpbgiaaDoor
