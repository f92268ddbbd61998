/-
  Arguments opened: a header.
-/
import Derived.Test.YtcclneaabnpbkaaOp
namespace Go.Proofs.Ytcclneaabnpbkaa
open Go.ChangeShapes Go.WideShapes Go.ChangeAt Go.RowKit

section
variable {H : Type} {enc : TypeId × Value → H}
theorem cells28 : Try.prog.cellsOf 28 = 10 := by kernel_rfl
theorem cells25 : Try.prog.cellsOf 25 = 1 := by kernel_rfl
theorem cells26 : Try.prog.cellsOf 26 = 1 := by kernel_rfl
theorem cells3 : Try.prog.cellsOf 3 = 1 := by kernel_rfl

theorem array10 {α : Type} {cs : Array α} (h : cs.size = 10) : ∃ c0 c1 c2 c3 c4 c5 c6 c7 c8 c9, cs = #[c0, c1, c2, c3, c4, c5, c6, c7, c8, c9] := by
  obtain ⟨l⟩ := cs
  match l, h with
  | [c0, c1, c2, c3, c4, c5, c6, c7, c8, c9], _ => exact ⟨c0, c1, c2, c3, c4, c5, c6, c7, c8, c9, rfl⟩

theorem n8_cell {W : World} {fuel : Nat} {u : Value} {x : DataW H × List MemPlace} (h : DataW.trod enc Try.prog W 0 (fun _ => true) true fuel 5 [u] = some x) : ∃ a : Nat, u = .int .u8 (a : Int) ∧ a < 256 := by
  obtain ⟨z, e, _, wz⟩ := DataW.trod_int Try.underlying5 h
  simp only [List.cons.injEq, and_true] at e
  have hb : 0 ≤ z ∧ z ≤ 255 := by simpa [Lit.wf, IntKind.min, IntKind.max, IntKind.signed, IntKind.bits] using wz
  refine ⟨z.toNat, ?_, by omega⟩
  rw [e]
  congr 1
  omega
theorem n16_cell {W : World} {fuel : Nat} {u : Value} {x : DataW H × List MemPlace} (h : DataW.trod enc Try.prog W 0 (fun _ => true) true fuel 25 [u] = some x) : ∃ a : Nat, u = .int .u16 (a : Int) ∧ a < 65536 := by
  obtain ⟨z, e, _, wz⟩ := DataW.trod_int Try.underlying25 h
  simp only [List.cons.injEq, and_true] at e
  have hb : 0 ≤ z ∧ z ≤ 65535 := by simpa [Lit.wf, IntKind.min, IntKind.max, IntKind.signed, IntKind.bits] using wz
  refine ⟨z.toNat, ?_, by omega⟩
  rw [e]
  congr 1
  omega
theorem n32_cell {W : World} {fuel : Nat} {u : Value} {x : DataW H × List MemPlace} (h : DataW.trod enc Try.prog W 0 (fun _ => true) true fuel 26 [u] = some x) : ∃ a : Nat, u = .int .u32 (a : Int) ∧ a < 4294967296 := by
  obtain ⟨z, e, _, wz⟩ := DataW.trod_int Try.underlying26 h
  simp only [List.cons.injEq, and_true] at e
  have hb : 0 ≤ z ∧ z ≤ 4294967295 := by simpa [Lit.wf, IntKind.min, IntKind.max, IntKind.signed, IntKind.bits] using wz
  refine ⟨z.toNat, ?_, by omega⟩
  rw [e]
  congr 1
  omega
theorem i64_cell {W : World} {fuel : Nat} {u : Value} {x : DataW H × List MemPlace} (h : DataW.trod enc Try.prog W 0 (fun _ => true) true fuel 3 [u] = some x) : ∃ z : Int, u = .int .i64 z ∧ -9223372036854775808 ≤ z ∧ z ≤ 9223372036854775807 := by
  obtain ⟨z, e, _, wz⟩ := DataW.trod_int Try.underlying3 h
  simp only [List.cons.injEq, and_true] at e
  have hb : -9223372036854775808 ≤ z ∧ z ≤ 9223372036854775807 := by simpa [Lit.wf, IntKind.min, IntKind.max, IntKind.signed, IntKind.bits] using wz
  exact ⟨z, e, hb.1, hb.2⟩

set_option maxRecDepth 100000 in
set_option maxHeartbeats 1000000 in
theorem open_header {W : World} {base : Nat} {v : Value} {d : DataW H} {p : List MemPlace} (hv : Value.okWide Try.prog W .any base 28 v) (h : DataW.Trod enc Try.prog W 0 (fun _ => true) true 28 v d p) :
    ∃ (tos id : Nat) (hdf hmf : Bool) (z4 : Int) (ttl pro src dst : Nat) (A : Option Addr) (o c : Nat) (opts : List UInt8), v = .agg #[.int .u8 (tos : Int), .int .u16 (id : Int), .bool hdf, .bool hmf, .int .i64 z4, .int .u8 (ttl : Int), .int .u8 (pro : Int), .int .u32 (src : Int), .int .u32 (dst : Int), .slice A o c] ∧
      tos < 256 ∧ id < 65536 ∧ (-9223372036854775808 ≤ z4 ∧ z4 ≤ 9223372036854775807) ∧ ttl < 256 ∧ pro < 256 ∧ src < 4294967296 ∧ dst < 4294967296 ∧ opts.length = o ∧ o ≤ c ∧ Rds W A opts ∧ (A = none → c = 0) := by
  obtain ⟨cs, rfl, hsz⟩ := okWide_struct Try.underlying28 hv
  obtain ⟨c0, c1, c2, c3, c4, c5, c6, c7, c8, c9, rfl⟩ := array10 (hsz.trans cells28)
  obtain ⟨fuel, hf⟩ := h
  obtain ⟨xs, k, _, _, _, hxl, hfl⟩ := DataW.trod_struct Try.underlying28 hf
  match xs, hxl with
  | [y0, y1, y2, y3, y4, y5, y6, y7, y8, y9], _ =>
    have g0 := hfl 0 _ rfl
    have g1 := hfl 1 _ rfl
    have g2 := hfl 2 _ rfl
    have g3 := hfl 3 _ rfl
    have g4 := hfl 4 _ rfl
    have g5 := hfl 5 _ rfl
    have g6 := hfl 6 _ rfl
    have g7 := hfl 7 _ rfl
    have g8 := hfl 8 _ rfl
    have g9 := hfl 9 _ rfl
    simp [cells5, cells4, cells22, cells25, cells26, cells3, Value.cells] at g0 g1 g2 g3 g4 g5 g6 g7 g8 g9
    obtain ⟨tos, rfl, l0⟩ := n8_cell g0
    obtain ⟨id, rfl, l1⟩ := n16_cell g1
    obtain ⟨hdf, rfl⟩ := bool_cell g2
    obtain ⟨hmf, rfl⟩ := bool_cell g3
    obtain ⟨z4, rfl, l4⟩ := i64_cell g4
    obtain ⟨ttl, rfl, l5⟩ := n8_cell g5
    obtain ⟨pro, rfl, l6⟩ := n8_cell g6
    obtain ⟨src, rfl, l7⟩ := n32_cell g7
    obtain ⟨dst, rfl, l8⟩ := n32_cell g8
    obtain ⟨A, o, c, opts, rfl, h1, h2, h3, h4⟩ := bytes_cell g9
    exact ⟨tos, id, hdf, hmf, z4, ttl, pro, src, dst, A, o, c, opts, rfl, l0, l1, l4, l5, l6, l7, l8, h1, h2, h3, h4⟩
end
end Go.Proofs.Ytcclneaabnpbkaa
