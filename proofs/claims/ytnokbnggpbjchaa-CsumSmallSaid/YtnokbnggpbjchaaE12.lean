/-
  flatBytes' state: back to the rows themselves; a cell elsewhere.
-/
import Derived.Test.YtnokbnggpbjchaaE11
namespace Go.Proofs.Ytnokbnggpbjchaa
open Go.RowKit

section
variable {w0 w : World} {base m p G : Nat} {vs : Nat → Value} {ns : Nat → Nat} {ls : Nat → Value} {ms : Nat → Nat} {ds : Nat → List UInt8} {cur : Array Value}

theorem big_back (h : Big w0 w base m p G vs ns ls ms ds cur) (k : Nat) : Big w0 w base m p G vs ns (upd ls k (vs k)) (upd ms k (ns k)) (upd ds k (mk k (ns k))) cur := by
  refine ⟨⟨h.two.own, fun j hj => ?_, fun j hj => ?_, fun a b ha hb hab i h1 h2 => ?_⟩, h.lst, h.lng, h.new, h.frm, fun j hj i hi => ?_⟩
  · by_cases hjk : j = k
    · subst hjk
      rw [upd_same, upd_same, upd_same]
      exact h.two.own j hj
    · rw [upd_other _ _ hjk, upd_other _ _ hjk, upd_other _ _ hjk]
      exact h.two.long j hj
  · by_cases hjk : j = k
    · subst hjk
      rw [upd_same]
      exact List.prefix_refl _
    · rw [upd_other _ _ hjk]
      exact h.two.pre j hj
  · have hG : ∀ j, Grp (vs j) (upd ls k (vs k) j) i → Grp (vs j) (ls j) i := by
      intro j hi
      by_cases hjk : j = k
      · subst hjk
        rw [upd_same] at hi
        rcases hi with hi | hi <;> exact .inl hi
      · rwa [upd_other _ _ hjk] at hi
    exact h.two.apart a b ha hb hab i (hG a h1) (hG b h2)
  · by_cases hjk : j = k
    · subst hjk
      rw [upd_same] at hi
      exact .inr ⟨j, hj, hi⟩
    · rw [upd_other _ _ hjk] at hi
      exact h.own j hj i hi

theorem big_far (h : Big w0 w base m p G vs ns ls ms ds cur) {g : Nat} (hg : w0.heap.size ≤ g) (hv : ∀ k, k < m → (vs k).ownBlock ≠ some g) (hl : ∀ k, k < m → (ls k).ownBlock ≠ some g)
    (hp : p ≠ g) (hG : G ≠ g) (i : Nat) (u : Value) : Big w0 (w.setCell ⟨g, i, none⟩ u) base m p G vs ns ls ms ds cur :=
  ⟨⟨fun k hk => ownsRow_setCell_other (h.two.own k hk) (hv k hk) _, fun k hk => ownsRow_setCell_other (h.two.long k hk) (hl k hk) _, h.two.pre, h.two.apart⟩,
    h.lst.far hp _ _, h.lng.far hG _, h.new, h.frm.setCell (p := ⟨g, i, none⟩) (fun hlt => by have h1 : g < w0.heap.size := hlt; omega) _, h.own⟩

/-- A block laid since lies apart from all. -/
theorem big_new (h : Big w0 w base m p G vs ns ls ms ds cur) {g : Nat} (hg : w.heap.size ≤ g) : w0.heap.size ≤ g ∧ (∀ k, k < m → (vs k).ownBlock ≠ some g) ∧ (∀ k, k < m → (ls k).ownBlock ≠ some g) ∧ p ≠ g ∧ G ≠ g := by
  have h1 := h.frm.size
  have h2 := h.lng.lt
  obtain ⟨c, hb, _⟩ := h.lst
  have h3 := hb.lt
  refine ⟨by omega, fun k hk e => ?_, fun k hk e => ?_, by omega, by omega⟩
  · have := ((h.two.own k hk).lt g e).2
    omega
  · have := ((h.two.long k hk).lt g e).2
    omega
end
end Go.Proofs.Ytnokbnggpbjchaa
