/-
  make of a list of rows.
-/
import Derived.Test.YtnokbnggpbjchaaE10
import Derived.Laws.MakeOwn
namespace Go.Proofs.Ytnokbnggpbjchaa
open Go.RowKit

theorem make_rows (m : Nat) (hm : m ≤ 100) : ∃ Z : Array Value, Z.size = m ∧ ∀ w : World, (Instr.makeSlice 58 (.int .i64 (m : Int)) (.int .i64 (m : Int))).run Try.prog w = .ok (.slice (some ⟨w.heap.size, 0, none⟩) m m) (w.alloc (.cells Z 22)) := by
  obtain ⟨i0, hi, hz0, hz1, hz2⟩ := info_parts info22
  refine ⟨madeCells (Value.slice none 0 0).cells (Int.toNat (m : Int) * 1), by simp [madeCells, Value.cells], fun w => ?_⟩
  have h := run_make (P := Try.prog) w 58 22 i0 (.slice none 0 0) Try.underlying58 hi hz0 .i64 .i64 (m : Int) (m : Int) (by omega) (by omega) (by rw [hz2]; omega) (by omega)
  rw [hz1] at h
  simpa using h

theorem two_of_fill {w : World} {base m : Nat} {vs : Nat → Value} {ns : Nat → Nat} {cs : Nat → List UInt8} (h : Two w base m vs ns cs vs ns cs) (hc : ∀ k, k < m → cs k = mk k (ns k)) :
    Two w base m vs ns (fun k => mk k (ns k)) vs ns (fun k => mk k (ns k)) := by
  have ho : ∀ k, k < m → w.ownsRow base 5 1 (vs k) (ns k) (byts (mk k (ns k))) := fun k hk => by
    rw [← hc k hk]
    exact h.own k hk
  exact { own := ho, long := ho, pre := fun _ _ => List.prefix_refl _, apart := h.apart }
end Go.Proofs.Ytnokbnggpbjchaa
