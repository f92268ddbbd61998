/-
  Rows that lie apart: a mark set in one of them; the list of the rows.
-/
import Derived.Test.YtnokbnggpbjchaaE7
import Derived.Test.YtnokbnggpbjchaaC5
namespace Go.Proofs.Ytnokbnggpbjchaa
open Go.RowKit

def mk (k n : Nat) : List UInt8 := (List.range n).map (markK k)
theorem mk_len (k n : Nat) : (mk k n).length = n := by simp [mk]
theorem mk_succ (k n : Nat) : mk k (n + 1) = mk k n ++ [markK k n] := by simp [mk, List.range_succ]
theorem mk_get (k n i : Nat) (h : i < n) : (mk k n)[i]? = some (markK k i) := by simp [mk, h]
theorem mk_pre (k n q : Nat) : mk k n <+: mk k (n + q) := by
  induction q with
  | zero => exact List.prefix_refl _
  | succ q ih => exact ih.trans (by rw [← Nat.add_assoc, mk_succ]; exact List.prefix_append _ _)

theorem take_set_succ {α : Type} (l : List α) (i : Nat) (x : α) (h : i < l.length) : (l.set i x).take (i + 1) = l.take i ++ [x] := by
  rw [List.take_add_one, List.take_set_of_le (Nat.le_refl i)]
  simp [h]

/-- The list of the rows. -/
def Lst (w : World) (p m : Nat) (vs : Nat → Value) : Prop := ∃ cur, Blk w p 22 cur ∧ ∀ k, k < m → cur[k]? = some (vs k)
theorem Lst.cell {w : World} {p m : Nat} {vs : Nat → Value} (h : Lst w p m vs) (k : Nat) (hk : k < m) : w.cell? ⟨p, k, none⟩ = some (vs k) := by
  obtain ⟨cur, hb, hc⟩ := h
  exact (hb.cell k).trans (hc k hk)
theorem Lst.frm {S : Nat → Prop} {w w' : World} {p m : Nat} {vs : Nat → Value} (h : Lst w p m vs) (hf : Frm S w w') (hS : ¬ S p) : Lst w' p m vs := by
  obtain ⟨cur, hb, hc⟩ := h
  exact ⟨cur, hb.frm hf hS, hc⟩
theorem Lst.ne {w : World} {p m base n : Nat} {vs : Nat → Value} {v : Value} {xs : List Value} (h : Lst w p m vs) (ho : w.ownsRow base 5 1 v n xs) : v.ownBlock ≠ some p := by
  obtain ⟨cur, hb, _⟩ := h
  exact own_blk_ne ho hb (by decide)

theorem Two.len {w : World} {base m : Nat} {vs : Nat → Value} {ns : Nat → Nat} {cs : Nat → List UInt8} {ls : Nat → Value} {ms : Nat → Nat} {ds : Nat → List UInt8}
    (h : Two w base m vs ns cs ls ms ds) (k : Nat) (hk : k < m) : (cs k).length = ns k := by
  have := (h.own k hk).1
  rw [byts_len] at this
  omega
theorem Two.form {w : World} {base m : Nat} {vs : Nat → Value} {ns : Nat → Nat} {cs : Nat → List UInt8} {ls : Nat → Value} {ms : Nat → Nat} {ds : Nat → List UInt8}
    (h : Two w base m vs ns cs ls ms ds) (k : Nat) (hk : k < m) : ∃ A c, vs k = .slice A (ns k) c ∧ ns k ≤ c ∧ (0 < ns k → ∃ g, A = some ⟨g, 0, none⟩) := by
  rcases (h.own k hk).2 with ⟨h1, h2⟩ | ⟨g, cap, cur, h1, _, _, h3, _⟩
  · exact ⟨none, 0, by rw [h1, h2], by omega, fun h => by omega⟩
  · exact ⟨_, cap, h1, h3, fun _ => ⟨g, rfl⟩⟩

theorem Two.set {w : World} {base m : Nat} {vs : Nat → Value} {ns : Nat → Nat} {cs : Nat → List UInt8} (h : Two w base m vs ns cs vs ns cs) (k : Nat) (hk : k < m) (g c : Nat)
    (hv : vs k = .slice (some ⟨g, 0, none⟩) (ns k) c) (i : Nat) (x : UInt8) (u : Value) (hu : u = byt x) :
    Two (w.setCell ⟨g, i, none⟩ u) base m vs ns (upd cs k ((cs k).set i x)) vs ns (upd cs k ((cs k).set i x)) := by
  have hgk : Grp (vs k) (vs k) g := .inl (by rw [hv]; rfl)
  have ho : ∀ j, j < m → (w.setCell ⟨g, i, none⟩ u).ownsRow base 5 1 (vs j) (ns j) (byts (upd cs k ((cs k).set i x) j)) := by
    intro j hj
    by_cases hjk : j = k
    · subst hjk
      rw [upd_same]
      have h1 := h.own j hj
      rw [hv] at h1 ⊢
      exact Row.set (h := h1) i x u hu
    · rw [upd_other _ _ hjk]
      exact ownsRow_setCell_other (h.own j hj) (fun e => h.apart k j hk hj (fun e => hjk e.symm) g hgk (.inl e)) _
  exact ⟨ho, ho, fun _ _ => List.prefix_refl _, h.apart⟩
end Go.Proofs.Ytnokbnggpbjchaa
