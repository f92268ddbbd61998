/-
  An argument of acts opened.
-/
import Derived.Test.YtgpnnnjhcjjnmaaY1
import Derived.Test.YtgpnnnjhcjjnmaaM0
import Derived.Deep.SlicePairs
namespace Go.Proofs.Ytgpnnnjhcjjnmaa
open Go.ChangeShapes Go.WideShapes Go.ChangeAt Go.RowKit Go.Deep

section
variable {H : Type} {enc : TypeId × Value → H}

set_option maxRecDepth 100000 in
theorem open_acts {W : World} {base : Nat} {v : Value} {d : DataW H} {p : List MemPlace} (hv : Value.okWide Try.prog W .any base 23 v) (h : DataW.Trod enc Try.prog W 0 (fun _ => true) true 23 v d p) :
    ∃ (B : Option Addr) (n c : Nat) (acts : List (Nat × Int)), v = .slice B n c ∧ acts.length = n ∧ n ≤ c ∧ Acts W B acts := by
  obtain ⟨a0, len, cap, rfl⟩ := okWide_slice Try.underlying23 hv
  obtain ⟨fuel, hf⟩ := h
  rcases open_slice_pairs Try.underlying23 Try.underlying30 (by kernel_rfl) rfl rfl (by kernel_rfl) (by kernel_rfl) hf with ⟨hcs, _⟩ | ⟨a, len', cap', m, n, V0, V1, D0, D1, P0, P1, hcs, _, hl, _, hm, _, hcell⟩
  · simp [Value.cells] at hcs
    obtain ⟨rfl, rfl, rfl⟩ := hcs
    exact ⟨none, 0, 0, [], rfl, rfl, Nat.le_refl _, fun h => absurd h (by simp)⟩
  · simp [Value.cells] at hcs
    obtain ⟨rfl, rfl, rfl⟩ := hcs
    simp only [if_true] at hm
    have hx : ∀ i, i < len → ∃ q : Nat × Int, W.cell? (a.add (i * 2)) = some (.int .u8 (q.1 : Int)) ∧ W.cell? (a.add (i * 2 + 1)) = some (.int .i64 q.2) ∧ q.1 < 256 ∧ -9223372036854775808 ≤ q.2 ∧ q.2 ≤ 9223372036854775807 := by
      intro i hi
      obtain ⟨h0, h1, t0, t1⟩ := hcell i (by omega)
      obtain ⟨x, e0, _, w0⟩ := DataW.trod_int Try.underlying5 t0
      obtain ⟨y, e1, _, w1⟩ := DataW.trod_int Try.underlying3 t1
      simp only [List.cons.injEq, and_true] at e0 e1
      have b0 : 0 ≤ x ∧ x ≤ 255 := by simpa [Lit.wf, IntKind.min, IntKind.max, IntKind.signed, IntKind.bits] using w0
      have b1 : -9223372036854775808 ≤ y ∧ y ≤ 9223372036854775807 := by simpa [Lit.wf, IntKind.min, IntKind.max, IntKind.signed, IntKind.bits] using w1
      refine ⟨(x.toNat, y), ?_, ?_, by show x.toNat < 256; omega, b1.1, b1.2⟩
      · rw [h0, e0]
        show some (Value.int .u8 x) = some (Value.int .u8 (x.toNat : Int))
        rw [Int.toNat_of_nonneg b0.1]
      · rw [h1, e1]
    obtain ⟨q, hq⟩ := choose_lt hx
    refine ⟨some a, len, cap, (List.range len).map q, rfl, by simp, hl, ?_⟩
    intro h0
    have h0' : 0 < len := by simpa using h0
    refine ⟨a, rfl, ?_, fun j hj => ?_⟩
    · have := World.block_lt_of_cell? W _ (hq 0 h0').1
      rwa [block_of_add] at this
    · have hj' : j < len := by simpa using hj
      have := hq j hj'
      simpa using this
end
end Go.Proofs.Ytgpnnnjhcjjnmaa
