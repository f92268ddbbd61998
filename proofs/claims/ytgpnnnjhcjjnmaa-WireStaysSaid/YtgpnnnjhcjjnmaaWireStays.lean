/-
  WireStays answers true, for every slice of bytes, every list of acts and every limit.
-/
import Derived.Test.YtgpnnnjhcjjnmaaY2
import Derived.Test.YtgpnnnjhcjjnmaaM1
namespace Go.Proofs.Ytgpnnnjhcjjnmaa
open Go.ChangeShapes Go.WideShapes Go.ChangeAt Go.RowKit

theorem wireStays_int (w : World) (A B : Option Addr) (c n d l : Nat) (bs : List UInt8) (hn : bs.length = n) (acts : List (Nat × Int)) (hl : acts.length = l) (hld : l ≤ d) (y : Int) (h : Src w A c bs) (ha : Acts w B acts) (hy : 0 ≤ y) (hy2 : y < 256) :
    Calls Try.prog 8 #[.slice A n c, .slice B l d, .int .u8 y] w fun e w' => e = .returned (.bool true) ∧ Frm No w w' := by
  obtain ⟨b, rfl⟩ : ∃ b : Nat, y = b := ⟨y.toNat, by omega⟩
  exact wireStays w A B c n d l bs hn acts hl hld b h ha (by omega)

set_option maxRecDepth 100000 in
theorem wireStays_lifted (os : Os) (started : os.Started) (H : Type) (enc : TypeId × Value → H) :
    ReturnsInHanded {} Try.checked os 8 .any (Rows.wireStaysSpec.pre6 enc Try.prog Try.f8 Rows.wireStaysRow.domain false) (Rows.wireStaysSpec.post enc Try.prog Try.f8 false true false false) := by
  refine returnsInHanded_of_change_sized (C := Try.checked) Try.own started (by kernel_rfl) Try.func8
    (ChangeSpec.witness6 (enc := enc) (C := Try.checked) false ⟨#[], #[.slice none 0 0, .slice none 0 0, .int .u8 0], []⟩ 8 (by kernel_rfl) (by kernel_rfl) (by kernel_rfl) (by kernel_rfl)) ?_
  intro W base args ds gs before hval0 hW _ hsz0 _
  have hval : ∀ (j : Nat) t v, Try.f8.params[j]? = some t → args[j]? = some v → Value.okWide Try.prog W .any base t v := hval0
  have hW' := hW
  obtain ⟨p, q, hA0, hV, rfl, hfz, hnd⟩ := hW
  have hA : DataW.TrodAll enc Try.prog W 0 (fun _ => true) true Try.f8.params.toList args.toList ds p := hA0
  rw [Try.params8] at hA hval
  obtain ⟨v0, v1, v2, d0, d1, d2, p0, p1, p2, rfl, rfl, rfl, h0, h1, h2⟩ := trodAll_three hA
  obtain ⟨rfl, rfl⟩ := trodVars_none hV
  obtain ⟨A, n, c, bs, rfl, hn, hc, hr, hnil, _⟩ := open_bytes (hval 0 22 v0 rfl rfl) h0
  obtain ⟨B, l, d, acts, rfl, hl, hld, ha⟩ := open_acts (hval 1 23 v1 rfl rfl) h1
  obtain ⟨y, rfl, rfl, rfl, hwg⟩ := open_int Try.underlying5 (hval 2 5 v2 rfl rfl) h2
  have hd : 0 ≤ y ∧ y ≤ 255 := by simpa [Lit.wf, IntKind.min, IntKind.max, IntKind.signed, IntKind.bits] using hwg
  refine (wireStays_int W A B c n d l bs hn acts hl hld y ⟨hr, by omega, hnil⟩ ha hd.1 (by omega)).mono fun e W' ⟨he, hf⟩ => ?_
  subst he
  exact ⟨_, rfl, post_true rfl hW' (by rw [Try.params8]; intro t ht; simp at ht; rcases ht with rfl | rfl | rfl <;> exact ⟨by kernel_rfl, of_decide_eq_true (by kernel_rfl)⟩) rfl rfl rfl rfl rfl (hf.below (Nat.le_refl _) (fun _ h => h.elim))⟩

theorem wireStays_holds : Rows.WireStaysSaid :=
  OpenClaim.holds_of_wide 8 Try.f8 rfl rfl rfl rfl rfl rfl rfl ⟨rfl, rfl, rfl, rfl, rfl⟩ rfl rfl rfl rfl rfl (by kernel_rfl) Try.func8 (by kernel_rfl)
    (of_decide_eq_true (by kernel_rfl)) (by unfold Func.isWrapper; first | (rw [if_pos (by decide +kernel)]; kernel_rfl) | (rw [if_neg (by decide +kernel)]; exact ⟨rfl, rfl⟩))
    (fun os started H enc _ => wireStays_lifted os started H enc)
end Go.Proofs.Ytgpnnnjhcjjnmaa
