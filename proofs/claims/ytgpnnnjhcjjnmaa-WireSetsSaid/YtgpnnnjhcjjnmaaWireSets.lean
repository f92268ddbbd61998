/-
  WireSets answers true, for every slice of bytes, every index and every number.
-/
import Derived.Test.YtgpnnnjhcjjnmaaT1
import Derived.Test.YtgpnnnjhcjjnmaaM0
namespace Go.Proofs.Ytgpnnnjhcjjnmaa
open Go.ChangeShapes Go.WideShapes Go.ChangeAt Go.RowKit

theorem wireSets (w : World) (A : Option Addr) (c n : Nat) (bs : List UInt8) (hn : bs.length = n) (k : Int) (x : Int) (h : Src w A c bs) (hx : 0 ≤ x) (hx2 : x < 65536) :
    Calls Try.prog 10 #[.slice A n c, .int .i64 k, .int .u16 x] w fun e w' => e = .returned (.bool true) ∧ Frm No w w' := by
  subst hn
  obtain ⟨y, rfl⟩ : ∃ y : Nat, x = y := ⟨x.toNat, by omega⟩
  have hA : ∀ i, blk A = some i → 0 < bs.length → i < w.heap.size := fun i hi h0 => h.rds.lt h0 hi
  by_cases hk : k < 0 ∨ ((min 2000 bs.length : Nat) : Int) - 2 < k
  · exact wireSets_no w A c bs k y h hA (by omega) hk
  · obtain ⟨m, rfl⟩ : ∃ m : Nat, k = m := ⟨k.toNat, by omega⟩
    exact wireSets_yes w A c bs m y h hA (by omega) (by omega)

set_option maxRecDepth 100000 in
theorem wireSets_lifted (os : Os) (started : os.Started) (H : Type) (enc : TypeId × Value → H) :
    ReturnsInHanded {} Try.checked os 10 .any (Rows.wireSetsSpec.pre6 enc Try.prog Try.f10 Rows.wireSetsRow.domain false) (Rows.wireSetsSpec.post enc Try.prog Try.f10 false true false false) := by
  refine returnsInHanded_of_change_sized (C := Try.checked) Try.own started (by kernel_rfl) Try.func10
    (ChangeSpec.witness6 (enc := enc) (C := Try.checked) false ⟨#[], #[.slice none 0 0, .int .i64 0, .int .u16 0], []⟩ 8 (by kernel_rfl) (by kernel_rfl) (by kernel_rfl) (by kernel_rfl)) ?_
  intro W base args ds gs before hval0 hW _ hsz0 _
  have hval : ∀ (j : Nat) t v, Try.f10.params[j]? = some t → args[j]? = some v → Value.okWide Try.prog W .any base t v := hval0
  have hW' := hW
  obtain ⟨p, q, hA0, hV, rfl, hfz, hnd⟩ := hW
  have hA : DataW.TrodAll enc Try.prog W 0 (fun _ => true) true Try.f10.params.toList args.toList ds p := hA0
  rw [Try.params10] at hA hval
  obtain ⟨v0, v1, v2, d0, d1, d2, p0, p1, p2, rfl, rfl, rfl, h0, h1, h2⟩ := trodAll_three hA
  obtain ⟨rfl, rfl⟩ := trodVars_none hV
  obtain ⟨A, n, c, bs, rfl, hn, hc, hr, hnil, _⟩ := open_bytes (hval 0 22 v0 rfl rfl) h0
  obtain ⟨k, rfl, rfl, rfl, _⟩ := open_int Try.underlying3 (hval 1 3 v1 rfl rfl) h1
  obtain ⟨x, rfl, rfl, rfl, hwf⟩ := open_int Try.underlying48 (hval 2 48 v2 rfl rfl) h2
  have hb : 0 ≤ x ∧ x ≤ 65535 := by simpa [Lit.wf, IntKind.min, IntKind.max, IntKind.signed, IntKind.bits] using hwf
  refine (wireSets W A c n bs hn k x ⟨hr, by omega, hnil⟩ hb.1 (by omega)).mono fun e W' ⟨he, hf⟩ => ?_
  subst he
  exact ⟨_, rfl, post_true rfl hW' (by rw [Try.params10]; intro t ht; simp at ht; rcases ht with rfl | rfl | rfl <;> exact ⟨by kernel_rfl, of_decide_eq_true (by kernel_rfl)⟩) rfl rfl rfl rfl rfl (hf.below (Nat.le_refl _) (fun _ h => h.elim))⟩

theorem wireSets_holds : Rows.WireSetsSaid :=
  OpenClaim.holds_of_wide 10 Try.f10 rfl rfl rfl rfl rfl rfl rfl ⟨rfl, rfl, rfl, rfl, rfl⟩ rfl rfl rfl rfl rfl (by kernel_rfl) Try.func10 (by kernel_rfl)
    (of_decide_eq_true (by kernel_rfl)) (by unfold Func.isWrapper; first | (rw [if_pos (by decide +kernel)]; kernel_rfl) | (rw [if_neg (by decide +kernel)]; exact ⟨rfl, rfl⟩))
    (fun os started H enc _ => wireSets_lifted os started H enc)
end Go.Proofs.Ytgpnnnjhcjjnmaa
