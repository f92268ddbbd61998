/-
  An argument of parts opened.
-/
import Derived.Test.YtgpnnnjhcjjnmaaBk2
import Derived.Test.YtgpnnnjhcjjnmaaM0
import Derived.Deep.SlicePairs
namespace Go.Proofs.Ytgpnnnjhcjjnmaa
open Go.ChangeShapes Go.WideShapes Go.ChangeAt Go.RowKit Go.Deep

section
variable {H : Type} {enc : TypeId × Value → H}

set_option maxRecDepth 100000 in
theorem bytes_cell {W : World} {fuel : Nat} {u : Value} {x : DataW H × List MemPlace} (h : DataW.trod enc Try.prog W 0 (fun _ => true) true fuel 22 [u] = some x) :
    ∃ (A : Option Addr) (c : Nat) (bs : List UInt8), u = .slice A bs.length c ∧ Src W A c bs := by
  rcases open_ints Try.underlying22 Try.underlying5 cells5 h with ⟨hcs, _⟩ | ⟨a, len, cap, zs, hcs, _, hl, hm, hz, _, hcell, hwz⟩
  · simp only [List.cons.injEq, and_true] at hcs
    exact ⟨none, 0, [], hcs, Rds.nil _ _, Nat.le_refl _, fun _ => rfl⟩
  · simp only [List.cons.injEq, and_true] at hcs
    simp only [if_true] at hz
    have hlen : ((zs.take len).map (fun z => UInt8.ofNat z.toNat)).length = len := by simp; omega
    refine ⟨some a, cap, (zs.take len).map (fun z => UInt8.ofNat z.toNat), by rw [hlen]; exact hcs, ?_, by omega, fun h => by cases h⟩
    intro _
    refine ⟨a, rfl, fun j u hu => ?_⟩
    have hj : j < len := by
      have := (List.getElem?_eq_some_iff.1 hu).1
      simp [byts_len] at this
      omega
    have hjz : j < zs.length := by omega
    rw [hcell j (by omega)]
    have hw := hwz zs[j] (List.getElem_mem hjz)
    have hb : 0 ≤ zs[j] ∧ zs[j] ≤ 255 := by simpa [Lit.wf, IntKind.min, IntKind.max, IntKind.signed, IntKind.bits] using hw
    have e : (byts ((zs.take len).map (fun z => UInt8.ofNat z.toNat)))[j]? = some (byt (UInt8.ofNat zs[j].toNat)) := by
      simp [byts, hj, List.getElem?_eq_getElem hjz]
    rw [e] at hu
    rw [← hu]
    simp [byt, List.getD_eq_getElem?_getD, List.getElem?_eq_getElem hjz]
    omega

instance : Inhabited Pt := ⟨⟨0, 0, []⟩⟩
theorem cells63 : Try.prog.cellsOf 63 = 3 := by kernel_rfl
theorem cells50 : Try.prog.cellsOf 50 = 1 := by kernel_rfl
theorem cells22 : Try.prog.cellsOf 22 = 1 := by kernel_rfl

set_option maxRecDepth 100000 in
theorem open_parts {W : World} {base : Nat} {v : Value} {d : DataW H} {p : List MemPlace} (hv : Value.okWide Try.prog W .any base 61 v) (h : DataW.Trod enc Try.prog W 0 (fun _ => true) true 61 v d p) :
    ∃ (B : Option Addr) (n c : Nat) (l : List Pt), v = .slice B n c ∧ l.length = n ∧ n ≤ c ∧ Parts W B l := by
  obtain ⟨a0, len, cap, rfl⟩ := okWide_slice Try.underlying61 hv
  obtain ⟨fuel, hf⟩ := h
  rcases open_slice Try.underlying61 hf with ⟨hcs, _⟩ | ⟨a, len', cap', m, n, D, Pl, hcs, _, hl, hm, hmm, _, hx⟩
  · simp [Value.cells] at hcs
    obtain ⟨rfl, rfl, rfl⟩ := hcs
    exact ⟨none, 0, 0, [], rfl, rfl, Nat.le_refl _, fun h => absurd h (by simp)⟩
  · simp [Value.cells] at hcs
    obtain ⟨rfl, rfl, rfl⟩ := hcs
    simp only [if_true] at hmm
    have each : ∀ i, i < len → ∃ q : Pt, PartAt W a i q := by
      intro i hi
      obtain ⟨cs', h1, h2⟩ := hx i (by omega)
      rw [cells63] at h1
      obtain ⟨_, hlen, hcell⟩ := World.cells?_some h1
      obtain ⟨xs, k, _, _, _, hxl, hfl⟩ := DataW.trod_struct Try.underlying63 h2
      match xs, hxl, cs', hlen with
      | [y0, y1, y2], _, [v0, v1, v2], _ =>
        have g0 := hfl 0 _ rfl
        have g1 := hfl 1 _ rfl
        have g2 := hfl 2 _ rfl
        simp [cells5, cells50, cells22] at g0 g1 g2
        have e0 := hcell 0 (by omega)
        have e1 := hcell 1 (by omega)
        have e2 := hcell 2 (by omega)
        simp only [add_of_add] at e0 e1 e2
        obtain ⟨x, x0, _, w0⟩ := DataW.trod_int Try.underlying5 g0
        obtain ⟨y, x1, _, w1⟩ := DataW.trod_int Try.underlying50 g1
        obtain ⟨A, c, bs, x2, hs⟩ := bytes_cell g2
        simp only [List.cons.injEq, and_true] at x0 x1
        have b0 : 0 ≤ x ∧ x ≤ 255 := by simpa [Lit.wf, IntKind.min, IntKind.max, IntKind.signed, IntKind.bits] using w0
        have b1 : 0 ≤ y ∧ y ≤ 4294967295 := by simpa [Lit.wf, IntKind.min, IntKind.max, IntKind.signed, IntKind.bits] using w1
        refine ⟨⟨x.toNat, y.toNat, bs⟩, by show x.toNat < 256; omega, by show y.toNat < 4294967296; omega, A, c, ?_, ?_, ?_, hs, fun i hi h0 => hs.rds.lt h0 hi⟩
        · rw [show a.add (i * 3) = a.add (i * 3 + 0) from rfl, e0]
          simp [x0]
          omega
        · rw [e1]
          simp [x1]
          omega
        · rw [e2]
          simp [x2]
    obtain ⟨q, hq⟩ := choose_lt each
    refine ⟨some a, len, cap, (List.range len).map q, rfl, by simp, hl, ?_⟩
    intro h0
    have h0' : 0 < len := by simpa using h0
    refine ⟨a, rfl, ?_, fun j hj => ?_⟩
    · obtain ⟨_, _, A, c, k0, _⟩ := hq 0 h0'
      have := World.block_lt_of_cell? W _ k0
      rwa [block_of_add] at this
    · have hj' : j < len := by simpa using hj
      have := hq j hj'
      simpa using this
end
end Go.Proofs.Ytgpnnnjhcjjnmaa
