/-
  An append to an own row of bytes, and what it leaves as it was: with room, all but the row's block; with none, all.
-/
import Derived.Test.YtnokbnggpbjchaaE5
import Derived.Test.YtnokbnggpbjchaaAp
import Derived.Deep.DeepAppendRoom
namespace Go.Proofs.Ytnokbnggpbjchaa
open Go.RowKit

/-- Where the row lies afterwards, and what was left. -/
def Keeps (w : World) (v : Value) (n g cap : Nat) (w' : World) : Prop :=
  (v = .slice (some ⟨g, 0, none⟩) n cap ∧ w.grownBy w' (some g)) ∨ (g = w.heap.size ∧ w.grownBy w' none)

theorem run_append_keep (w : World) (base : Nat) (ty : TypeId) (v : Value) (n : Nat) (xs : List UInt8) (hown : w.ownsRow base 5 1 v n (byts xs))
    (ad : Addr) (m c : Nat) (ys : List UInt8) (hl : ys.length = m) (hnews : ∀ j u, (byts ys)[j]? = some u → w.cell? (ad.add j) = some u) (hm : 0 < m)
    (hbytes : n + m ≤ 140737488355328) (hbase : base ≤ w.heap.size) :
    ∃ g cap w', (Builtin.append_ #[22, 22] ty #[v, .slice (some ad) m c]).run Try.prog w = .ok (.slice (some ⟨g, 0, none⟩) (n + m) cap) w' ∧
      w'.ownsRow base 5 1 (.slice (some ⟨g, 0, none⟩) (n + m) cap) (n + m) (byts (xs ++ ys)) ∧ Keeps w v n g cap w' := by
  obtain ⟨i0, hi, hz0, hz1, hz2⟩ := info_parts info5
  have hl1 : (byts ys).length = m * 1 := by rw [byts_len]; omega
  have hone : ∀ u ∈ byts ys, u.oneCell' = true := byts_one ys
  have hx : byts (xs ++ ys) = byts xs ++ byts ys := by simp [byts]
  rw [hx]
  obtain ⟨v', w', hr, h2, h3, _⟩ := run_append_own (P := Try.prog) w base 22 ty 5 i0 (.int .u8 0) 1 1 Try.underlying22 hi hz0 hz1 hz2 rfl (by decide) v n (byts xs) hown ad m c (byts ys) hl1 hnews hone (by unfold maxLen; omega) (by omega) hbase
  rcases hown.2 with ⟨rfl, rfl⟩ | ⟨g, cap, cur, rfl, hbg, hg, hnc, hcm, hcs, htake⟩
  · obtain ⟨v2, w2, hr2, h5, h6, _, h7⟩ := run_append_own_at (P := Try.prog) w base 22 ty 5 i0 (.int .u8 0) 1 1 Try.underlying22 hi hz0 hz1 hz2 rfl (by decide) (.slice none 0 0) 0 (byts xs) hown ad m c (byts ys) hl1 hnews hone (by unfold maxLen; omega) (by omega) hbase
    obtain ⟨g, cap, rfl, _, hlt⟩ := h5.form (by omega)
    refine ⟨g, cap, w2, hr2, h5, .inr ⟨?_, h6⟩⟩
    rcases h7 with h7 | h7
    · simp [Value.ownBlock] at h7
    · simpa [Value.ownBlock] using h7
  · by_cases hroom : n + m ≤ cap
    · obtain ⟨w2, hr2, h5, h6⟩ := run_append_own_spare (P := Try.prog) w base 22 ty 5 i0 1 Try.underlying22 hi hz1 g n cap (byts xs) hown ad m c (byts ys) hl1 hnews hone hroom
      exact ⟨g, cap, w2, hr2, h5, .inl ⟨rfl, h6⟩⟩
    · have holds : ∀ j u, (byts xs)[j]? = some u → w.cell? ((⟨g, 0, none⟩ : Addr).add j) = some u := hown.cells (g := g) rfl
      have hr2 := run_append_grow (P := Try.prog) w 22 ty 5 i0 (.int .u8 0) Try.underlying22 hi hz0 ⟨g, 0, none⟩ n cap (byts xs) (by rw [hz1]; exact hown.1) holds ad m c (byts ys) (by rw [hz1]; exact hl1) hnews (by omega) (by omega) (growslice_fits (by omega) (by rw [hz2]; omega))
      rw [hr2] at hr
      injection hr with e1 e2
      subst e1 e2
      exact ⟨_, _, _, hr2, h2, .inr ⟨rfl, rfl, rfl, rfl, by simp, fun k hk _ => heap_alloc_old w.drew _ hk⟩⟩
end Go.Proofs.Ytnokbnggpbjchaa
