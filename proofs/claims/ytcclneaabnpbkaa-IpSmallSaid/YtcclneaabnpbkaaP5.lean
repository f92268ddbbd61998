/-
  Read: the header of a packet, and where its data is; or the first fault.
-/
import Derived.Test.YtcclneaabnpbkaaP4
namespace Go.Proofs.Ytcclneaabnpbkaa
open Go.RowKit
attribute [local go_sem] undef

def FaultsEnds (A : Option Addr) (n c : Nat) (w : World) (e : Ending) (w' : World) : Prop :=
  ∃ B, e = .returned (.agg #[.func (.func 63) #[] #[.pointer (some ⟨B, 0, none⟩)], .func (.func 64) #[] #[.pointer (some ⟨B, 0, none⟩)], .func (.func 65) #[] #[.pointer (some ⟨B, 0, none⟩)], .func (.func 66) #[] #[.pointer (some ⟨B, 0, none⟩)], .func (.func 67) #[] #[.pointer (some ⟨B, 0, none⟩)], .func (.func 68) #[] #[.pointer (some ⟨B, 0, none⟩)], .func (.func 70) #[] #[.pointer (some ⟨B, 0, none⟩)]]) ∧ w.heap.size ≤ B ∧ Box w' B A n c ∧ Frm No w w'

def fnil : Value := .func (.func 0) #[] #[]

set_option maxRecDepth 100000 in
set_option maxHeartbeats 1000000 in
theorem faults_any (w : World) (A : Option Addr) (n c : Nat) : Calls Try.prog 39 #[.slice A n c] w (FaultsEnds A n c w) := by
  have hmf : ∀ (fn : Fn) (first cap : Array Value) (w : World), (Instr.makeFunc fn first cap).run Try.prog w = .ok (.func fn first cap) w := fun _ _ _ _ => rfl
  go_enter Try.func39, Try.ntmps39
  go_wp2
  refine bodyPost_ret (v := .agg #[.func (.func 63) #[] #[.pointer (some ⟨w.heap.size, 0, none⟩)], .func (.func 64) #[] #[.pointer (some ⟨w.heap.size, 0, none⟩)], .func (.func 65) #[] #[.pointer (some ⟨w.heap.size, 0, none⟩)], .func (.func 66) #[] #[.pointer (some ⟨w.heap.size, 0, none⟩)], .func (.func 67) #[] #[.pointer (some ⟨w.heap.size, 0, none⟩)], .func (.func 68) #[] #[.pointer (some ⟨w.heap.size, 0, none⟩)], .func (.func 70) #[] #[.pointer (some ⟨w.heap.size, 0, none⟩)]]) (by simp [results, Try.results39, go_sem]) rfl ⟨w.heap.size, rfl, Nat.le_refl _, (Blk.new w 22 #[.slice A n c]).alloc _, ((Frm.refl No w).alloc _).alloc _⟩
theorem ix7 (x0 x1 x2 x3 x4 x5 x6 : Value) (W : World) : (Instr.index 66 (.agg #[x0, x1, x2, x3, x4, x5, x6]) (.int .i64 0)).run Try.prog W = .ok x0 W ∧ (Instr.index 66 (.agg #[x0, x1, x2, x3, x4, x5, x6]) (.int .i64 1)).run Try.prog W = .ok x1 W ∧ (Instr.index 66 (.agg #[x0, x1, x2, x3, x4, x5, x6]) (.int .i64 2)).run Try.prog W = .ok x2 W ∧ (Instr.index 66 (.agg #[x0, x1, x2, x3, x4, x5, x6]) (.int .i64 3)).run Try.prog W = .ok x3 W ∧ (Instr.index 66 (.agg #[x0, x1, x2, x3, x4, x5, x6]) (.int .i64 4)).run Try.prog W = .ok x4 W ∧ (Instr.index 66 (.agg #[x0, x1, x2, x3, x4, x5, x6]) (.int .i64 5)).run Try.prog W = .ok x5 W ∧ (Instr.index 66 (.agg #[x0, x1, x2, x3, x4, x5, x6]) (.int .i64 6)).run Try.prog W = .ok x6 W :=
  ⟨by kernel_rfl, by kernel_rfl, by kernel_rfl, by kernel_rfl, by kernel_rfl, by kernel_rfl, by kernel_rfl⟩

/-- The header of no packet. -/
def ReadBad (i : Int) (w : World) (e : Ending) (w' : World) : Prop := e = .returned (.tuple #[.agg #[.int .u8 0, .int .u16 0, .bool false, .bool false, .int .i64 0, .int .u8 0, .int .u8 0, .int .u32 0, .int .u32 0, .slice none 0 0], .int .i64 0, .int .i64 0, .int .i64 i]) ∧ Frm No w w'
def ReadOk (bs : List UInt8) (w : World) (e : Ending) (w' : World) : Prop :=
  ∃ g c, e = .returned (.tuple #[hdrV bs (.slice (some ⟨g, 0, none⟩) (sizeAt bs - 20) c), .int .i64 (sizeAt bs : Int), .int .i64 (totAt bs : Int), .int .i64 0]) ∧ Row w' w.heap.size g (sizeAt bs - 20) c (optsAt bs) ∧ Frm No w w'
end Go.Proofs.Ytcclneaabnpbkaa
