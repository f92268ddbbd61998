/-
  Arguments opened: a packet in small numbers.
-/
import Derived.Test.YtcclneaabnpbkaaM0
import Derived.Lib.SmallJoins
namespace Go.Proofs.Ytcclneaabnpbkaa
open Go.ChangeShapes Go.WideShapes Go.ChangeAt Go.RowKit

section
variable {H : Type} {enc : TypeId × Value → H}
theorem cells40 : Try.prog.cellsOf 40 = 18 := by kernel_rfl
theorem cells38 : Try.prog.cellsOf 38 = 12 := by kernel_rfl
theorem cells4 : Try.prog.cellsOf 4 = 1 := by kernel_rfl
theorem cells22 : Try.prog.cellsOf 22 = 1 := by kernel_rfl

theorem array18 {α : Type} {cs : Array α} (h : cs.size = 18) : ∃ c0 c1 c2 c3 c4 c5 c6 c7 c8 c9 c10 c11 c12 c13 c14 c15 c16 c17, cs = #[c0, c1, c2, c3, c4, c5, c6, c7, c8, c9, c10, c11, c12, c13, c14, c15, c16, c17] := by
  obtain ⟨l⟩ := cs
  match l, h with
  | [c0, c1, c2, c3, c4, c5, c6, c7, c8, c9, c10, c11, c12, c13, c14, c15, c16, c17], _ => exact ⟨c0, c1, c2, c3, c4, c5, c6, c7, c8, c9, c10, c11, c12, c13, c14, c15, c16, c17, rfl⟩

theorem u8_cell {W : World} {fuel : Nat} {u : Value} {x : DataW H × List MemPlace} (h : DataW.trod enc Try.prog W 0 (fun _ => true) true fuel 5 [u] = some x) : ∃ a : UInt8, u = .int .u8 (a.toNat : Int) := by
  obtain ⟨z, e, _, wz⟩ := DataW.trod_int Try.underlying5 h
  simp only [List.cons.injEq, and_true] at e
  have : 0 ≤ z ∧ z ≤ 255 := by simpa [Lit.wf, IntKind.min, IntKind.max, IntKind.signed, IntKind.bits] using wz
  refine ⟨UInt8.ofNat z.toNat, ?_⟩
  rw [e, UInt8.toNat_ofNat']
  congr 1
  omega
theorem bool_cell {W : World} {fuel : Nat} {u : Value} {x : DataW H × List MemPlace} (h : DataW.trod enc Try.prog W 0 (fun _ => true) true fuel 4 [u] = some x) : ∃ b : Bool, u = .bool b := by
  obtain ⟨b, e, _⟩ := DataW.trod_bool Try.underlying4 h
  simp only [List.cons.injEq, and_true] at e
  exact ⟨b, e⟩
theorem bytes_cell {W : World} {fuel : Nat} {u : Value} {x : DataW H × List MemPlace} (h : DataW.trod enc Try.prog W 0 (fun _ => true) true fuel 22 [u] = some x) :
    ∃ (A : Option Addr) (n c : Nat) (bs : List UInt8), u = .slice A n c ∧ bs.length = n ∧ n ≤ c ∧ Rds W A bs ∧ (A = none → c = 0) := by
  rcases open_ints Try.underlying22 Try.underlying5 cells5 h with ⟨hcs, _⟩ | ⟨a, len, cap, zs, hcs, _, hl, hm, hz, _, hcell, hwz⟩
  · simp only [List.cons.injEq, and_true] at hcs
    exact ⟨none, 0, 0, [], hcs, rfl, Nat.le_refl _, Rds.nil _ _, fun _ => rfl⟩
  · simp only [List.cons.injEq, and_true] at hcs
    simp only [if_true] at hz
    refine ⟨some a, len, cap, (zs.take len).map (fun z => UInt8.ofNat z.toNat), hcs, by simp; omega, hl, ?_, fun h => by cases h⟩
    intro _
    refine ⟨a, rfl, fun j u hu => ?_⟩
    have hj : j < len := by
      have := (List.getElem?_eq_some_iff.1 hu).1
      simp [byts_len] at this
      omega
    have hjz : j < zs.length := by omega
    rw [hcell j (by omega)]
    have hw := hwz zs[j] (List.getElem_mem hjz)
    have hb : 0 ≤ zs[j] ∧ zs[j] ≤ 255 := by simpa [Lit.wf, IntKind.min, IntKind.max, IntKind.signed, IntKind.bits] using hw
    have e : (byts ((zs.take len).map (fun z => UInt8.ofNat z.toNat)))[j]? = some (byt (UInt8.ofNat zs[j].toNat)) := by
      simp [byts, hj, List.getElem?_eq_getElem hjz]
    rw [e] at hu
    rw [← hu]
    simp [byt, List.getD_eq_getElem?_getD, List.getElem?_eq_getElem hjz]
    omega

set_option maxRecDepth 100000 in
set_option maxHeartbeats 1000000 in
theorem open_small {W : World} {base : Nat} {v : Value} {d : DataW H} {p : List MemPlace} (hv : Value.okWide Try.prog W .any base 40 v) (h : DataW.Trod enc Try.prog W 0 (fun _ => true) true 40 v d p) :
    ∃ (a0 a1 a2 a3 a4 a5 a6 a7 a8 a9 a10 a11 wd fr mn : UInt8) (df mf : Bool) (D : Option Addr) (dn dc : Nat) (ds : List UInt8), v = .agg #[.int .u8 (a0.toNat : Int), .int .u8 (a1.toNat : Int), .int .u8 (a2.toNat : Int), .int .u8 (a3.toNat : Int), .int .u8 (a4.toNat : Int), .int .u8 (a5.toNat : Int), .int .u8 (a6.toNat : Int), .int .u8 (a7.toNat : Int), .int .u8 (a8.toNat : Int), .int .u8 (a9.toNat : Int), .int .u8 (a10.toNat : Int), .int .u8 (a11.toNat : Int), .int .u8 (wd.toNat : Int), .int .u8 (fr.toNat : Int), .int .u8 (mn.toNat : Int), .bool df, .bool mf, .slice D dn dc] ∧ ds.length = dn ∧ dn ≤ dc ∧ Rds W D ds ∧ (D = none → dc = 0) := by
  obtain ⟨cs, rfl, hsz⟩ := okWide_struct Try.underlying40 hv
  obtain ⟨c0, c1, c2, c3, c4, c5, c6, c7, c8, c9, c10, c11, c12, c13, c14, c15, c16, c17, rfl⟩ := array18 (hsz.trans cells40)
  obtain ⟨fuel, hf⟩ := h
  obtain ⟨xs, k, _, _, _, hxl, hfl⟩ := DataW.trod_struct Try.underlying40 hf
  match xs, hxl with
  | [y0, y1, y2, y3, y4, y5, y6], _ =>
    have g0 := hfl 0 _ rfl
    have g1 := hfl 1 _ rfl
    have g2 := hfl 2 _ rfl
    have g3 := hfl 3 _ rfl
    have g4 := hfl 4 _ rfl
    have g5 := hfl 5 _ rfl
    have g6 := hfl 6 _ rfl
    simp [cells5, cells4, cells22, cells38, Value.cells] at g0 g1 g2 g3 g4 g5 g6
    obtain ⟨zs, m, _, _, _, hzl, hall⟩ := DataW.trod_array Try.underlying38 g0
    match zs, hzl with
    | [w0, w1, w2, w3, w4, w5, w6, w7, w8, w9, w10, w11], _ =>
      have s0 := hall 0 (by decide)
      have s1 := hall 1 (by decide)
      have s2 := hall 2 (by decide)
      have s3 := hall 3 (by decide)
      have s4 := hall 4 (by decide)
      have s5 := hall 5 (by decide)
      have s6 := hall 6 (by decide)
      have s7 := hall 7 (by decide)
      have s8 := hall 8 (by decide)
      have s9 := hall 9 (by decide)
      have s10 := hall 10 (by decide)
      have s11 := hall 11 (by decide)
      simp [cells5] at s0 s1 s2 s3 s4 s5 s6 s7 s8 s9 s10 s11
      obtain ⟨a0, rfl⟩ := u8_cell s0
      obtain ⟨a1, rfl⟩ := u8_cell s1
      obtain ⟨a2, rfl⟩ := u8_cell s2
      obtain ⟨a3, rfl⟩ := u8_cell s3
      obtain ⟨a4, rfl⟩ := u8_cell s4
      obtain ⟨a5, rfl⟩ := u8_cell s5
      obtain ⟨a6, rfl⟩ := u8_cell s6
      obtain ⟨a7, rfl⟩ := u8_cell s7
      obtain ⟨a8, rfl⟩ := u8_cell s8
      obtain ⟨a9, rfl⟩ := u8_cell s9
      obtain ⟨a10, rfl⟩ := u8_cell s10
      obtain ⟨a11, rfl⟩ := u8_cell s11
      obtain ⟨wd, rfl⟩ := u8_cell g1
      obtain ⟨fr, rfl⟩ := u8_cell g2
      obtain ⟨mn, rfl⟩ := u8_cell g3
      obtain ⟨df, rfl⟩ := bool_cell g4
      obtain ⟨mf, rfl⟩ := bool_cell g5
      obtain ⟨D, dn, dc, ds, rfl, h1, h2, h3, h4⟩ := bytes_cell g6
      exact ⟨a0, a1, a2, a3, a4, a5, a6, a7, a8, a9, a10, a11, wd, fr, mn, df, mf, D, dn, dc, ds, rfl, h1, h2, h3, h4⟩
end
end Go.Proofs.Ytcclneaabnpbkaa
