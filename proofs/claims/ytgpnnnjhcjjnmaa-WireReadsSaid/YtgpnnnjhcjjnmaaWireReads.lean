/-
  WireReads answers true, for every slice of bytes and every list of acts.
-/
import Derived.Test.YtgpnnnjhcjjnmaaWr
import Derived.Test.YtgpnnnjhcjjnmaaWq
import Derived.Test.YtgpnnnjhcjjnmaaA1
namespace Go.Proofs.Ytgpnnnjhcjjnmaa
open Go.ChangeShapes Go.WideShapes Go.ChangeAt Go.RowKit

theorem reads (w : World) (A B : Option Addr) (c n l d : Nat) (bs : List UInt8) (hn : bs.length = n) (acts : List (Nat × Int)) (hl : acts.length = l) (hs : Src w A c bs) (ha : Acts w B acts) (h4 : n ≤ 140737488351232) :
    Calls Try.prog 12 #[.slice A n c, .slice B l d] w fun e w' => e = .returned (.bool true) ∧ Frm No w w' := by
  by_cases h : 100 < l
  · exact reads_much w A B n c l d h
  · by_cases h2 : 131072 < n
    · exact reads_long w A B n c l d bs hn hs (by omega) h2 h4
    · exact reads_ok w A B c n l d bs hn acts hl hs ha (by omega) (by omega)

set_option maxRecDepth 100000 in
theorem wireReads (w : World) (A B : Option Addr) (c n l d : Nat) (bs : List UInt8) (hn : bs.length = n) (acts : List (Nat × Int)) (hl : acts.length = l) (hs : Src w A c bs) (ha : Acts w B acts) (h4 : n ≤ 140737488351232) :
    Calls Try.prog 3 #[.slice A n c, .slice B l d] w fun e w' => e = .returned (.bool true) ∧ Frm No w w' := by
  have HT := Lib.hid (reads w A B c n l d bs hn acts hl hs ha h4)
  clear hn hl hs ha
  go_enter Try.func3, Try.ntmps3
  go_wp2_with fail
  refine HT.out.mono ?_
  rintro e w1 ⟨rfl, hf⟩
  have F1 := Lib.hid hf
  clear hf HT
  go_wp2_with fail
  refine (awake _).mono ?_
  rintro e w2 ⟨rfl, hf⟩
  have F2 := Lib.hid (F1.out.trans hf (fun _ _ x => x))
  clear hf
  go_wp2_with fail
  go_ret
  exact ⟨rfl, F2.out⟩

set_option maxRecDepth 100000 in
theorem wireReads_lifted (os : Os) (started : os.Started) (H : Type) (enc : TypeId × Value → H) :
    ReturnsInHanded {} Try.checked os 3 .any (Rows.wireReadsSpec.pre6 enc Try.prog Try.f3 Rows.wireReadsRow.domain false) (Rows.wireReadsSpec.post enc Try.prog Try.f3 false true false false) := by
  refine returnsInHanded_of_change_sized (C := Try.checked) Try.own started (by kernel_rfl) Try.func3
    (ChangeSpec.witness6 (enc := enc) (C := Try.checked) false ⟨#[], #[.slice none 0 0, .slice none 0 0], []⟩ 8 (by kernel_rfl) (by kernel_rfl) (by kernel_rfl) (by kernel_rfl)) ?_
  intro W base args ds gs before hval0 hW _ hsz0 _
  have hval : ∀ (j : Nat) t v, Try.f3.params[j]? = some t → args[j]? = some v → Value.okWide Try.prog W .any base t v := hval0
  have hW' := hW
  obtain ⟨p, q, hA0, hV, rfl, hfz, hnd⟩ := hW
  have hA : DataW.TrodAll enc Try.prog W 0 (fun _ => true) true Try.f3.params.toList args.toList ds p := hA0
  have hsz : (DataW.weightsEach Try.prog (Try.f3.params.toList ++ Rows.wireReadsSpec.plain.varTypes Try.prog) (ds ++ gs)).all (· ≤ reachBytes) = true := hsz0
  rw [Try.params3] at hA hval hsz
  obtain ⟨v0, v1, d0, d1, p0, p1, rfl, rfl, rfl, h0, h1⟩ := trodAll_two hA
  obtain ⟨rfl, rfl⟩ := trodVars_none hV
  obtain ⟨A, n, c, bs, rfl, rfl, hc, hr, hnil, hd⟩ := open_bytes (hval 0 22 v0 rfl rfl) h0
  obtain ⟨B, l, d, acts, rfl, hl, hld, ha⟩ := open_acts (hval 1 23 v1 rfl rfl) h1
  have hs : bs.length ≤ 140737488351232 := by
    rcases hd with ⟨_, rfl⟩ | ⟨es, sp, rfl, hl⟩
    · omega
    · have := sized_slice hsz (j := 0) (t := 22) (e := 5) rfl rfl Try.underlying22
      rw [show Try.prog.bytesOf 5 = 1 from by kernel_rfl] at this
      unfold reachBytes at this
      omega
  refine (wireReads W A B c bs.length l d bs rfl acts hl ⟨hr, hc, hnil⟩ ha hs).mono fun e W' ⟨he, hf⟩ => ?_
  subst he
  exact ⟨_, rfl, post_true rfl hW' (by rw [Try.params3]; intro t ht; simp at ht; rcases ht with rfl | rfl <;> exact ⟨by kernel_rfl, of_decide_eq_true (by kernel_rfl)⟩) rfl rfl rfl rfl rfl (hf.below (Nat.le_refl _) (fun _ h => h.elim))⟩

theorem wireReads_holds : Rows.WireReadsSaid :=
  OpenClaim.holds_of_wide 3 Try.f3 rfl rfl rfl rfl rfl rfl rfl ⟨rfl, rfl, rfl, rfl, rfl⟩ rfl rfl rfl rfl rfl (by kernel_rfl) Try.func3 (by kernel_rfl)
    (of_decide_eq_true (by kernel_rfl)) (by unfold Func.isWrapper; first | (rw [if_pos (by decide +kernel)]; kernel_rfl) | (rw [if_neg (by decide +kernel)]; exact ⟨rfl, rfl⟩))
    (fun os started H enc _ => wireReads_lifted os started H enc)
end Go.Proofs.Ytgpnnnjhcjjnmaa
