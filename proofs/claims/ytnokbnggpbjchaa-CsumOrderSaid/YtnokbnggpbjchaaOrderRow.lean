/-
  CsumOrder answers true: the order of words does not matter; the sum of bytes that are put together is that of both sums, if the first ones are even in number; a byte 0 after an odd number of bytes changes nothing. For all slices of bytes and every number.
-/
import Derived.Test.YtnokbnggpbjchaaCsumOrder
namespace Go.Proofs.Ytnokbnggpbjchaa
open Go.ChangeShapes Go.WideShapes Go.ChangeAt Go.RowKit

theorem csumOrder_int (w : World) (A B : Option Addr) (n c m d : Nat) (xs bs : List UInt8) (t : Int) (ht : 0 ≤ t ∧ t ≤ 65535) (hn : xs.length = n) (hm : bs.length = m) (hc : n ≤ c) (hd : m ≤ d) (hA : A = none → c = 0) (hB : B = none → d = 0) (ha : Rds w A xs) (hb : Rds w B bs) (h4 : n ≤ 140737488355328) (h5 : m ≤ 140737488355328) :
    Calls Try.prog 7 #[.slice A n c, .slice B m d, .int .u16 t] w fun e w' => e = .returned (.bool true) ∧ Frm No w w' := by
  obtain ⟨t', rfl⟩ : ∃ b : Nat, t = b := ⟨t.toNat, by omega⟩
  exact csumOrder w A B n c m d xs bs t' (by omega) hn hm hc hd hA hB ha hb h4 h5

theorem csumOrder_small {n c : Nat} {H : Type} {ts : List TypeId} {ds : List (DataW H)} {dj : DataW H} (hsz : (DataW.weightsEach Try.prog ts ds).all (· ≤ reachBytes) = true) (j : Nat) (ht : ts[j]? = some 22) (hj : ds[j]? = some dj) (hc : n ≤ c)
    (hd : (dj = .nil ∧ c = 0) ∨ ∃ es sp, dj = .slice es sp ∧ es.length + sp.length = c) : n ≤ 140737488355328 := by
  rcases hd with ⟨_, rfl⟩ | ⟨es, sp, rfl, hl⟩
  · omega
  · have := sized_slice hsz (j := j) (t := 22) (e := 5) ht hj Try.underlying22
    rw [show Try.prog.bytesOf 5 = 1 from by kernel_rfl] at this
    unfold reachBytes at this
    omega

set_option maxRecDepth 100000 in
theorem csumOrder_lifted (os : Os) (started : os.Started) (H : Type) (enc : TypeId × Value → H) :
    ReturnsInHanded {} Try.checked os 7 .any (Rows.csumOrderSpec.pre6 enc Try.prog Try.f7 Rows.csumOrderRow.domain false) (Rows.csumOrderSpec.post enc Try.prog Try.f7 false true false false) := by
  refine returnsInHanded_of_change_sized (C := Try.checked) Try.own started (by kernel_rfl) Try.func7
    (ChangeSpec.witness6 (enc := enc) (C := Try.checked) false ⟨#[], #[.slice none 0 0, .slice none 0 0, .int .u16 0], []⟩ 8 (by kernel_rfl) (by kernel_rfl) (by kernel_rfl) (by kernel_rfl)) ?_
  intro W base args ds gs before hval0 hW _ hsz0 _
  have hval : ∀ (j : Nat) t v, Try.f7.params[j]? = some t → args[j]? = some v → Value.okWide Try.prog W .any base t v := hval0
  have hW' := hW
  obtain ⟨p, q, hA0, hV, rfl, hfz, hnd⟩ := hW
  have hA : DataW.TrodAll enc Try.prog W 0 (fun _ => true) true Try.f7.params.toList args.toList ds p := hA0
  have hsz : (DataW.weightsEach Try.prog (Try.f7.params.toList ++ Rows.csumOrderSpec.plain.varTypes Try.prog) (ds ++ gs)).all (· ≤ reachBytes) = true := hsz0
  rw [Try.params7] at hA hval hsz
  obtain ⟨v0, v1, v2, d0, d1, d2, p0, p1, p2, rfl, rfl, rfl, h0, h1, h2⟩ := trodAll_three hA
  obtain ⟨rfl, rfl⟩ := trodVars_none hV
  obtain ⟨A, n, c, bs, rfl, hn, hc, hr, hnil, hd⟩ := open_bytes (hval 0 22 v0 rfl rfl) h0
  obtain ⟨B, m, d, cs, rfl, hm, hc2, hr2, hnil2, hd2⟩ := open_bytes (hval 1 22 v1 rfl rfl) h1
  obtain ⟨x2, rfl, rfl, rfl, w2⟩ := open_int Try.underlying23 (hval 2 23 v2 rfl rfl) h2
  have b2 : 0 ≤ x2 ∧ x2 ≤ 65535 := by simpa [Lit.wf, IntKind.min, IntKind.max, IntKind.signed, IntKind.bits] using w2
  have s1 := csumOrder_small hsz 0 rfl rfl hc hd
  have s2 := csumOrder_small hsz 1 rfl rfl hc2 hd2
  refine (csumOrder_int W A B n c m d bs cs x2 b2 hn hm hc hc2 hnil hnil2 hr hr2 s1 s2).mono fun e W' ⟨he, hf⟩ => ?_
  subst he
  exact ⟨_, rfl, post_true rfl hW' (by rw [Try.params7]; intro t ht; simp at ht; rcases ht with rfl | rfl <;> exact ⟨by kernel_rfl, of_decide_eq_true (by kernel_rfl)⟩) rfl rfl rfl rfl rfl (hf.below (Nat.le_refl _) (fun _ h => h.elim))⟩

theorem csumOrder_holds : Rows.CsumOrderSaid :=
  OpenClaim.holds_of_wide 7 Try.f7 rfl rfl rfl rfl rfl rfl rfl ⟨rfl, rfl, rfl, rfl, rfl⟩ rfl rfl rfl rfl rfl (by kernel_rfl) Try.func7 (by kernel_rfl)
    (of_decide_eq_true (by kernel_rfl)) (by unfold Func.isWrapper; first | (rw [if_pos (by decide +kernel)]; kernel_rfl) | (rw [if_neg (by decide +kernel)]; exact ⟨rfl, rfl⟩))
    (fun os started H enc _ => csumOrder_lifted os started H enc)
end Go.Proofs.Ytnokbnggpbjchaa
