/-
  Keys are in one order: whole numbers.
-/
import Derived.Test.YtknmnlbgjpbgiaaDoorC10
namespace Go.Proofs.YtknmnlbgjpbgiaaDoor
open Go.RowKit

theorem cmpN_cases (x y : Nat) : (x < y ∧ cmpN x y = -1) ∨ (x = y ∧ cmpN x y = 0) ∨ (y < x ∧ cmpN x y = 1) := by
  unfold cmpN
  by_cases h : x < y
  · exact .inl ⟨h, if_pos h⟩
  · rw [if_neg h]
    by_cases h2 : y < x
    · exact .inr (.inr ⟨h2, if_pos h2⟩)
    · exact .inr (.inl ⟨by omega, if_neg h2⟩)
theorem part_cases (z : Int) (x y : Nat) : (z = 0 ∧ part z x y = cmpN x y) ∨ (z ≠ 0 ∧ part z x y = z) := by
  unfold part
  by_cases h : z = 0
  · exact .inl ⟨h, if_pos h⟩
  · exact .inr ⟨h, if_neg h⟩
theorem part_zero (z : Int) (x y : Nat) : part z x y = 0 ↔ z = 0 ∧ x = y := by
  rcases part_cases z x y with ⟨h, e⟩ | ⟨h, e⟩ <;> rcases cmpN_cases x y with ⟨h2, e2⟩ | ⟨h2, e2⟩ | ⟨h2, e2⟩ <;> omega
theorem part_neg (z z' : Int) (x y : Nat) (h : z' = -z) : part z' y x = -part z x y := by
  rcases part_cases z x y with ⟨h1, e⟩ | ⟨h1, e⟩ <;> rcases part_cases z' y x with ⟨h2, e2⟩ | ⟨h2, e2⟩ <;> rcases cmpN_cases x y with ⟨h3, e3⟩ | ⟨h3, e3⟩ | ⟨h3, e3⟩ <;>
    rcases cmpN_cases y x with ⟨h4, e4⟩ | ⟨h4, e4⟩ | ⟨h4, e4⟩ <;> omega
theorem part_in (z : Int) (x y : Nat) (h : -1 ≤ z ∧ z ≤ 1) : -1 ≤ part z x y ∧ part z x y ≤ 1 := by
  rcases part_cases z x y with ⟨h1, e⟩ | ⟨h1, e⟩ <;> rcases cmpN_cases x y with ⟨h2, e2⟩ | ⟨h2, e2⟩ | ⟨h2, e2⟩ <;> omega
/-- How three orders hang together. -/
def Hang (x y z : Int) : Prop := (x = 0 → z = y) ∧ (y = 0 → z = x) ∧ (x = -1 → y = -1 → z = -1) ∧ (-1 ≤ x ∧ x ≤ 1) ∧ (-1 ≤ y ∧ y ≤ 1)
theorem part_hang {x y z : Int} (h : Hang x y z) (u v w : Nat) : Hang (part x u v) (part y v w) (part z u w) := by
  unfold Hang at *
  have i1 := part_in x u v h.2.2.2.1
  have i2 := part_in y v w h.2.2.2.2
  refine ⟨?_, ?_, ?_, i1, i2⟩
  all_goals
    clear i1 i2
    rcases part_cases x u v with ⟨h1, e1⟩ | ⟨h1, e1⟩ <;> rcases part_cases y v w with ⟨h2, e2⟩ | ⟨h2, e2⟩ <;> rcases part_cases z u w with ⟨h3, e3⟩ | ⟨h3, e3⟩ <;> rw [e1, e2, e3]
    all_goals try omega
    all_goals
      rcases cmpN_cases u v with ⟨g1, k1⟩ | ⟨g1, k1⟩ | ⟨g1, k1⟩ <;> rcases cmpN_cases v w with ⟨g2, k2⟩ | ⟨g2, k2⟩ | ⟨g2, k2⟩ <;> rcases cmpN_cases u w with ⟨g3, k3⟩ | ⟨g3, k3⟩ | ⟨g3, k3⟩ <;> omega
theorem key_neg (k j : Ky) : cmpKey j k = -cmpKey k j := by
  unfold cmpKey
  exact part_neg _ _ _ _ (part_neg _ _ _ _ (part_neg _ _ _ _ (part_neg _ _ _ _ (part_neg _ _ _ _ (by omega)))))
theorem key_zero (k j : Ky) : cmpKey k j = 0 ↔ k = j := by
  unfold cmpKey
  rw [part_zero, part_zero, part_zero, part_zero, part_zero]
  obtain ⟨pr, a, b, p, q⟩ := k
  obtain ⟨pr', a', b', p', q'⟩ := j
  constructor
  · rintro ⟨⟨⟨⟨⟨_, h0⟩, h1⟩, h2⟩, h3⟩, h4⟩
    dsimp only at h0 h1 h2 h3 h4
    subst h0 h1 h2 h3 h4
    rfl
  · intro h
    cases h
    exact ⟨⟨⟨⟨⟨rfl, rfl⟩, rfl⟩, rfl⟩, rfl⟩, rfl⟩
theorem key_in (k j : Ky) : -1 ≤ cmpKey k j ∧ cmpKey k j ≤ 1 :=
  part_in _ _ _ (part_in _ _ _ (part_in _ _ _ (part_in _ _ _ (part_in _ _ _ (by omega)))))
theorem key_hang (k j i : Ky) : Hang (cmpKey k j) (cmpKey j i) (cmpKey k i) :=
  part_hang (part_hang (part_hang (part_hang (part_hang (by unfold Hang; omega) _ _ _) _ _ _) _ _ _) _ _ _) _ _ _
end Go.Proofs.YtknmnlbgjpbgiaaDoor
