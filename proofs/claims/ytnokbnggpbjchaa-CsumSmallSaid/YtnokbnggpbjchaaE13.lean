/-
  ApartBytes of two own rows that lie apart.
-/
import Derived.Test.YtnokbnggpbjchaaE9
import Derived.Test.YtnokbnggpbjchaaE5
namespace Go.Proofs.Ytnokbnggpbjchaa
open Go.RowKit

def two {α : Type} (a b : α) (k : Nat) : α := if k = 0 then a else b

theorem lst_of_own {W : World} {base g k : Nat} {a b : Value} (h : W.ownsRow base 22 1 (.slice (some ⟨g, 0, none⟩) 2 k) 2 [a, b]) : Lst W g 2 (two a b) ∧ 2 ≤ k := by
  rcases h.2 with ⟨h0, _⟩ | ⟨g', cap, cur, he, _, hg, hnc, _, _, ht⟩
  · cases h0
  · cases he
    refine ⟨⟨cur, hg, fun j hj => ?_⟩, hnc⟩
    have e : (cur.toList.take (2 * 1))[j]? = cur.toList[j]? := List.getElem?_take_of_lt (by omega)
    rw [ht] at e
    rw [← Array.getElem?_toList, ← e]
    rcases j with _ | _ | j
    · rfl
    · rfl
    · omega

theorem apart_two (w : World) (p base : Nat) (a b : Value) (n m : Nat) (xs ys : List UInt8) (A B : Option Addr) (c d : Nat) (ea : a = .slice A n c) (eb : b = .slice B m d) (hp : Blk w p 22 #[a, b])
    (ha : w.ownsRow base 5 1 a n (byts xs)) (hb : w.ownsRow base 5 1 b m (byts ys)) (hne : ∀ i, a.ownBlock = some i → b.ownBlock ≠ some i) (hn : n ≤ 140737488351232) (hm : m ≤ 140737488351232) (hbase : base ≤ w.heap.size) :
    Calls Try.prog 38 #[.slice (some ⟨p, 0, none⟩) 2 2] w fun e w' => e = .returned (.bool true) ∧ Frm (Own 2 (two a b)) w w' := by
  have hlt : ∀ i, Own 2 (two a b) i → i < w.heap.size := by
    rintro i ⟨k, hk, hi⟩
    rcases k with _ | _ | k
    · exact (own_lt ha hi).2
    · exact (own_lt hb hi).2
    · omega
  have hT : ∀ W, Frm No w W → Two W base 2 (two a b) (two n m) (two xs ys) (two a b) (two n m) (two xs ys) := by
    intro W hW
    have ho : ∀ k, k < 2 → W.ownsRow base 5 1 (two a b k) (two n m k) (byts (two xs ys k)) := by
      intro k hk
      rcases k with _ | _ | k
      · exact hW.own ha (fun _ _ x => x)
      · exact hW.own hb (fun _ _ x => x)
      · omega
    refine ⟨ho, ho, fun _ _ => List.prefix_refl _, fun k j hk hj hkj i h1 h2 => ?_⟩
    have g1 : (two a b k).ownBlock = some i := h1.elim id id
    have g2 : (two a b j).ownBlock = some i := h2.elim id id
    rcases k with _ | _ | k
    · rcases j with _ | _ | j
      · omega
      · exact hne i g1 g2
      · omega
    · rcases j with _ | _ | j
      · exact hne i g2 g1
      · omega
      · omega
    · omega
  subst ea eb
  refine apart_bytes w p A B n c m d (Own 2 (two _ _)) hp (fun i hi hs => by have := hlt i hs; omega) fun V k W hW hown => ?_
  obtain ⟨g, c', he⟩ := own_some hown (by omega)
  cases he
  have hl := lst_of_own hown
  have := hW.size
  refine flat_bytes W base 2 g _ (two _ _) (two n m) (two xs ys) (by omega) hl.2 (fun j hj => ?_) hl.1 (hT W hW) (by omega)
  rcases j with _ | _ | j
  · exact hn
  · exact hm
  · omega
end Go.Proofs.Ytnokbnggpbjchaa
