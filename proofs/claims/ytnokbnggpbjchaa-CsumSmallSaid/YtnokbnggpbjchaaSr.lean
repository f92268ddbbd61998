/-
  What a slice reads, with its capacity.
-/
import Derived.Test.YtnokbnggpbjchaaAp
namespace Go.Proofs.Ytnokbnggpbjchaa
open Go.RowKit

/-- What is read at A, of the capacity c, is xs; a nil slice has no capacity. -/
structure Src (w : World) (A : Option Addr) (c : Nat) (xs : List UInt8) : Prop where
  rds : Rds w A xs
  le : xs.length ≤ c
  nil : A = none → c = 0

theorem Src.of_own {w : World} {base : Nat} {v : Value} {n : Nat} {bs : List UInt8} (h : w.ownsRow base 5 1 v n (byts bs)) :
    ∃ A c, v = .slice A n c ∧ n = bs.length ∧ Src w A c bs ∧ v.ownBlock = Go.Proofs.Ytnokbnggpbjchaa.blk A := by
  have hl := h.1
  rw [byts_len] at hl
  have h' := h
  rcases h.2 with ⟨rfl, hn⟩ | ⟨g, cap, cur, rfl, _, _, h1, h2, _⟩
  · subst hn
    exact ⟨none, 0, rfl, by omega, ⟨Rds.of_own h', by omega, fun _ => rfl⟩, rfl⟩
  · exact ⟨_, _, rfl, by omega, ⟨Rds.of_own h', by omega, fun h => by cases h⟩, rfl⟩

theorem own_lt {w : World} {b : Nat} {e : TypeId} {size n : Nat} {v : Value} {xs : List Value} (h : w.ownsRow b e size v n xs) {i : Nat} (hi : v.ownBlock = some i) : b ≤ i ∧ i < w.heap.size := h.lt i hi

theorem Src.frm {w w' : World} {S : Nat → Prop} {A : Option Addr} {c : Nat} {xs : List UInt8} (h : Src w A c xs) (hf : Frm S w w') (hS : ∀ k, Go.Proofs.Ytnokbnggpbjchaa.blk A = some k → ¬ S k) : Src w' A c xs :=
  ⟨h.rds.frm hf hS, h.le, h.nil⟩

end Go.Proofs.Ytnokbnggpbjchaa
