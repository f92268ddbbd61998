/-
  Rows of bytes that lie apart, each with what was made from it by appending.
-/
import Derived.Test.YtnokbnggpbjchaaE6
import Derived.Test.YtnokbnggpbjchaaSr
namespace Go.Proofs.Ytnokbnggpbjchaa
open Go.RowKit

def upd {α : Type} (f : Nat → α) (k : Nat) (v : α) : Nat → α := fun j => if j = k then v else f j
theorem upd_same {α : Type} (f : Nat → α) (k : Nat) (v : α) : upd f k v k = v := by simp [upd]
theorem upd_other {α : Type} (f : Nat → α) {k j : Nat} (v : α) (h : j ≠ k) : upd f k v j = f j := by simp [upd, h]

/-- The blocks of a row and of what was made from it. -/
def Grp (v l : Value) (i : Nat) : Prop := v.ownBlock = some i ∨ l.ownBlock = some i

structure Two (w : World) (base m : Nat) (vs : Nat → Value) (ns : Nat → Nat) (cs : Nat → List UInt8) (ls : Nat → Value) (ms : Nat → Nat) (ds : Nat → List UInt8) : Prop where
  own : ∀ k, k < m → w.ownsRow base 5 1 (vs k) (ns k) (byts (cs k))
  long : ∀ k, k < m → w.ownsRow base 5 1 (ls k) (ms k) (byts (ds k))
  pre : ∀ k, k < m → cs k <+: ds k
  apart : ∀ k j, k < m → j < m → k ≠ j → ∀ i, Grp (vs k) (ls k) i → ¬ Grp (vs j) (ls j) i

/-- Two rows of one block: the shorter reads what the longer's head is. -/
theorem own_same {w w' : World} {base n n1 n2 g cap : Nat} {v : Value} {xs ys zs : List UInt8} (h : w.ownsRow base 5 1 v n (byts xs)) (h1 : w.ownsRow base 5 1 (.slice (some ⟨g, 0, none⟩) n1 cap) n1 (byts ys))
    (h2 : w'.ownsRow base 5 1 (.slice (some ⟨g, 0, none⟩) n2 cap) n2 (byts zs)) (hv : v.ownBlock = some g) (hp : xs <+: zs) : w'.ownsRow base 5 1 v n (byts xs) := by
  rcases h.2 with ⟨rfl, rfl⟩ | ⟨g', c', cur, rfl, hb, hg, hnc, hcm, hcs, ht⟩
  · simp [Value.ownBlock] at hv
  · obtain rfl : g' = g := by simpa [Value.ownBlock] using hv
    rcases h1.2 with ⟨h0, _⟩ | ⟨g1, c1, cur1, he, _, hg1, _, _, hcs1, _⟩
    · cases h0
    · cases he
      rcases h2.2 with ⟨h0, _⟩ | ⟨g2, c2, cur2, he, _, hg2, _, _, hcs2, ht2⟩
      · cases h0
      · cases he
        rw [hg] at hg1
        injection hg1 with hg1
        injection hg1 with hg1
        subst hg1
        have hcc : c' = cap := by omega
        subst hcc
        refine ⟨h.1, .inr ⟨g', c', cur2, rfl, hb, hg2, hnc, hcm, hcs2, ?_⟩⟩
        obtain ⟨t, rfl⟩ := hp
        have hl : (byts xs).length = n * 1 := h.1
        have hl2 : (byts (xs ++ t)).length = n2 * 1 := h2.1
        have hle : n * 1 ≤ n2 * 1 := by rw [← hl, ← hl2, byts_len, byts_len, List.length_append]; omega
        have e : cur2.toList.take (n * 1) = (cur2.toList.take (n2 * 1)).take (n * 1) := by rw [List.take_take, Nat.min_eq_left hle]
        rw [e, ht2, ← hl]
        simp [byts]

theorem Two.app {w w' : World} {base m : Nat} {vs : Nat → Value} {ns : Nat → Nat} {cs : Nat → List UInt8} {ls : Nat → Value} {ms : Nat → Nat} {ds : Nat → List UInt8}
    (h : Two w base m vs ns cs ls ms ds) (k : Nat) (hk : k < m) (q : Nat) (ys : List UInt8) (g cap : Nat)
    (hown : w'.ownsRow base 5 1 (.slice (some ⟨g, 0, none⟩) (ms k + q) cap) (ms k + q) (byts (ds k ++ ys))) (hkeep : Keeps w (ls k) (ms k) g cap w') :
    Two w' base m vs ns cs (upd ls k (.slice (some ⟨g, 0, none⟩) (ms k + q) cap)) (upd ms k (ms k + q)) (upd ds k (ds k ++ ys)) := by
  have hpre : ∀ j, j < m → cs j <+: upd ds k (ds k ++ ys) j := by
    intro j hj
    by_cases hjk : j = k
    · subst hjk
      rw [upd_same]
      exact (h.pre j hj).trans (List.prefix_append _ _)
    · rw [upd_other _ _ hjk]
      exact h.pre j hj
  rcases hkeep with ⟨hl, hgr⟩ | ⟨hg, hgr⟩
  · have hlb : (ls k).ownBlock = some g := by rw [hl]; rfl
    have hne : ∀ j, j < m → j ≠ k → ¬ Grp (vs j) (ls j) g := fun j hj hjk => h.apart k j hk hj (fun e => hjk e.symm) g (.inr hlb)
    refine ⟨fun j hj => ?_, fun j hj => ?_, hpre, ?_⟩
    · by_cases hb : (vs j).ownBlock = some g
      · have hjk : j = k := Decidable.byContradiction fun e => hne j hj e (.inl hb)
        subst hjk
        have h1 := h.long j hj
        rw [hl] at h1
        exact own_same (h.own j hj) h1 hown hb ((h.pre j hj).trans (List.prefix_append _ _))
      · exact (Frm.of_grown hgr).own (h.own j hj) fun i hi e => hb (by rw [hi]; exact e.symm)
    · by_cases hjk : j = k
      · subst hjk
        rw [upd_same, upd_same, upd_same]
        exact hown
      · rw [upd_other _ _ hjk, upd_other _ _ hjk, upd_other _ _ hjk]
        refine (Frm.of_grown hgr).own (h.long j hj) fun i hi e => hne j hj hjk (.inr ?_)
        rw [hi]
        exact e.symm
    · have hG : ∀ j i, j < m → Grp (vs j) (upd ls k (.slice (some ⟨g, 0, none⟩) (ms k + q) cap) j) i → Grp (vs j) (ls j) i := by
        intro j i hj hi
        by_cases hjk : j = k
        · subst hjk
          rw [upd_same] at hi
          rcases hi with hi | hi
          · exact .inl hi
          · exact .inr (by rw [hlb]; exact hi)
        · rwa [upd_other _ _ hjk] at hi
      exact fun a b ha hb hab i h1 h2 => h.apart a b ha hb hab i (hG a i ha h1) (hG b i hb h2)
  · have hf := Frm.of_grown hgr
    refine ⟨fun j hj => hf.own (h.own j hj) fun i hi e => (by cases e), fun j hj => ?_, hpre, ?_⟩
    · by_cases hjk : j = k
      · subst hjk
        rw [upd_same, upd_same, upd_same]
        exact hown
      · rw [upd_other _ _ hjk, upd_other _ _ hjk, upd_other _ _ hjk]
        exact hf.own (h.long j hj) fun i hi e => (by cases e)
    · have hG : ∀ j i, j < m → Grp (vs j) (upd ls k (.slice (some ⟨g, 0, none⟩) (ms k + q) cap) j) i → Grp (vs j) (ls j) i ∨ (j = k ∧ i = g) := by
        intro j i hj hi
        by_cases hjk : j = k
        · subst hjk
          rw [upd_same] at hi
          rcases hi with hi | hi
          · exact .inl (.inl hi)
          · exact .inr ⟨rfl, by simpa [Value.ownBlock] using hi.symm⟩
        · rw [upd_other _ _ hjk] at hi
          exact .inl hi
      have hlt : ∀ j i, j < m → Grp (vs j) (ls j) i → i < w.heap.size := by
        intro j i hj hi
        rcases hi with hi | hi
        · exact (own_lt (h.own j hj) hi).2
        · exact (own_lt (h.long j hj) hi).2
      intro a b ha hb hab i h1 h2
      rcases hG a i ha h1 with h3 | ⟨ea, ei⟩
      · rcases hG b i hb h2 with h4 | ⟨eb, ei⟩
        · exact h.apart a b ha hb hab i h3 h4
        · have := hlt a i ha h3
          omega
      · rcases hG b i hb h2 with h4 | ⟨eb, _⟩
        · have := hlt b i hb h4
          omega
        · exact hab (ea.trans eb.symm)
end Go.Proofs.Ytnokbnggpbjchaa
