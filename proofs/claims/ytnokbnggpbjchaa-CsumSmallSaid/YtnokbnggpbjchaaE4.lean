/-
  The kit's bag: putBytes.
-/
import Derived.Test.YtnokbnggpbjchaaE2
import Derived.Test.YtnokbnggpbjchaaE3
namespace Go.Proofs.Ytnokbnggpbjchaa
open Go.RowKit

theorem info22 : (Try.prog.info? 22).map (fun i => (i.zero, i.size, i.bytes)) = some (some (.slice none 0 0), 1, 24) := by kernel_rfl

/-- From b on. -/
def From (b : Nat) : Nat → Prop := fun i => b ≤ i

def PutB (b : Nat) (w : World) (g : Nat) (k : Nat) (l : List Value) (e : Ending) (w' : World) : Prop :=
  e = .returned (.tuple #[]) ∧ ∃ V, Blk w' g 90 (bagOf V) ∧ w'.ownsRow b 22 1 V k l ∧ Frm (From b) w w'

theorem own_some {w : World} {b n size : Nat} {e : TypeId} {v : Value} {l : List Value} (h : w.ownsRow b e size v n l) (hn : 0 < n) : ∃ g c, v = .slice (some ⟨g, 0, none⟩) n c := by
  rcases h.2 with ⟨_, h0⟩ | ⟨g, cap, cur, rfl, _⟩
  · omega
  · exact ⟨g, cap, rfl⟩

set_option maxRecDepth 100000 in
set_option maxHeartbeats 1000000 in
theorem put_bytes (b : Nat) (w : World) (g : Nat) (V : Value) (k : Nat) (l : List Value) (A : Option Addr) (n c : Nat) (hg : b ≤ g) (hb : Blk w g 90 (bagOf V)) (ho : w.ownsRow b 22 1 V k l) (hk : k ≤ 1000) :
    Calls Try.prog 54 #[.pointer (some ⟨g, 0, none⟩), .slice A n c] w (PutB b w g (k + 1) (l ++ [.slice A n c])) := by
  obtain ⟨i0, hi, hz0, hz1, hz2⟩ := info_parts info22
  have c2 : w.cell? ⟨g, 2, none⟩ = some V := (hb.cell 2).trans rfl
  have hlt := hb.lt
  have hne := own_blk_ne ho hb (by decide)
  have hown : (w.alloc (.cells #[.slice A n c] 22)).ownsRow b 22 1 V k l := ho.alloc _
  have hnews : ∀ (j : Nat) (u : Value), [Value.slice A n c][j]? = some u → (w.alloc (.cells #[.slice A n c] 22)).cell? ((⟨w.heap.size, 0, none⟩ : Addr).add j) = some u := by
    intro j u hu
    have hj : j = 0 := by
      have := (List.getElem?_eq_some_iff.1 hu).1
      simp at this
      omega
    subst hj
    simp at hu
    subst hu
    exact (Blk.new w 22 #[.slice A n c]).cell 0
  have HB := Lib.hid (hb.alloc (.cells #[.slice A n c] 22))
  clear hb ho
  go_enter Try.func54, Try.ntmps54
  go_wp2_with (at_builtin; refine wpList_append_own _ rfl (.tmp 8) (.tmp 10) 58 rfl b 22 i0 (.slice none 0 0) 1 24 Try.underlying58 hi hz0 hz1 hz2 rfl (by decide) _ _ _ rfl hown ⟨w.heap.size, 0, none⟩ 1 1 [.slice A n c] rfl rfl hnews (by simp [Value.oneCell']) (by unfold maxLen; omega) (by omega) (by simp; omega) ?_; intro v' w1 hown' hgr _; obtain ⟨g', cap', rfl⟩ := own_some hown' (by omega); have HO := Lib.hid hown'; have HG := Lib.hid hgr; have B1 := Lib.hid (HB.out.frm (Frm.of_grown hgr) hne); have d0 : w1.cell? ⟨g, 2, none⟩ = some V := (B1.out.cell 2).trans rfl; have d1 := B1.out.frozen 2; clear hown' hgr)
  have hne2 := own_blk_ne HO.out B1.out (by decide)
  go_end0
  refine ⟨rfl, _, B1.out.set_ 2 _, ownsRow_setCell_other HO.out hne2 _, ?_⟩
  refine Frm.setCell ?_ (fun _ => hg) _
  refine ((Frm.refl (From b) w).alloc _).trans (Frm.of_grown HG.out) (fun i _ hs => ?_)
  exact (World.ownsRow.lt hown i hs).1
end Go.Proofs.Ytnokbnggpbjchaa
