/-
  WireTexts answers true: Hex and Unhex return what the document specifies, and the bytes are not modified. For every slice of bytes and every string.
-/
import Derived.Test.YtgpnnnjhcjjnmaaX4
import Derived.Test.YtgpnnnjhcjjnmaaO1
import Derived.Test.YtgpnnnjhcjjnmaaM0
namespace Go.Proofs.Ytgpnnnjhcjjnmaa
open Go.ChangeShapes Go.WideShapes Go.ChangeAt Go.RowKit
open Go.ChangeMaps (open_string)

theorem sames_n (w : World) (A B : Option Addr) (c d n : Nat) (xs : List UInt8) (hn : xs.length = n) (ha : Rds w A xs) (hb : Rds w B xs) (hs : n ≤ 140737488355328) :
    Calls Try.prog 45 #[.slice A n c, .slice B n d] w (Answers true w) := by
  subst hn
  have := sames_any w A B c d xs xs ha hb hs
  rwa [decide_eq_true rfl] at this

theorem Lent.parts {w w' : World} {bs : List UInt8} {e : Ending} {n : Nat} (h : Lent w bs e w') (hn : bs.length = n) :
    ∃ A c, e = .returned (.slice A n c) ∧ n + 12 ≤ c ∧ Rds w' A (bs ++ marks 12) ∧ (∀ i, blk A = some i → w.heap.size ≤ i) ∧ Frm No w w' := by
  subst hn
  obtain ⟨A, c, rfl, ho, hf⟩ := h
  obtain ⟨A', c', he, hl, hs, hb⟩ := Src.of_own ho
  cases he
  have hle := hs.le
  rw [← hl] at hle
  exact ⟨A, c, rfl, hle, hs.rds, fun i hi => (own_lt ho (hb.trans hi)).1, hf⟩

set_option maxRecDepth 100000 in
set_option maxHeartbeats 2000000 in
theorem texts (w : World) (A : Option Addr) (c n : Nat) (bs : List UInt8) (s : ByteArray) (hn : bs.length = n) (h : Src w A c bs) (h4 : n ≤ 140737488351232) :
    Calls Try.prog 15 #[.slice A n c, .string s] w fun e w' => e = .returned (.bool true) ∧ Frm No w w' := by
  obtain ⟨T, E, _, H1, H2⟩ := hexes bs n hn
  obtain ⟨ys, m, G, hm, hm2, _, U1, U2⟩ := unhexes s
  have H := Lib.hid h
  have HM := Lib.hid hm
  have HN := Lib.hid hn
  have H1 := Lib.hid H1
  have H2 := Lib.hid H2
  have U1 := Lib.hid U1
  have U2 := Lib.hid U2
  clear h hm hn
  go_enter Try.func15, Try.ntmps15
  go_wp2_with fail
  refine (lent w A c n bs HN.out H.out h4).mono ?_
  rintro e w1 he
  obtain ⟨A1, c1, rfl, hc1, hr1, hb1, hf1⟩ := he.parts HN.out
  have F1 := Lib.hid hf1
  have R1 := Lib.hid hr1
  have HB1 := Lib.hid hb1
  clear he hf1 hr1 hb1
  go_wp2_with fail
  refine (H1.out _ _ _ (by simpa using R1.out.take bs.length)).mono ?_
  rintro e w2 ⟨rfl, hf⟩
  have F2 := Lib.hid hf
  clear hf
  go_wp2_with fail
  refine (H2.out _ _ _ (H.out.rds.frm (F1.out.trans F2.out (fun _ _ x => x)) (fun _ _ x => x))).mono ?_
  rintro e w3 ⟨rfl, hf⟩
  have F3 := Lib.hid (F2.out.trans hf (fun _ _ x => x))
  clear hf F2 H1 H2
  go_wp2_with fail
  refine (U1.out _).mono ?_
  rintro e w4 ⟨A4, c4, rfl, hr, hb, hf⟩
  have F4 := Lib.hid (F3.out.trans hf (fun _ _ x => x))
  have R4 := Lib.hid hr
  clear hf hr hb F3
  go_wp2_with fail
  refine (U2.out _).mono ?_
  rintro e w5 ⟨A5, c5, rfl, hr, hb, hf⟩
  have F5 := Lib.hid (F4.out.trans hf (fun _ _ x => x))
  have R5 := Lib.hid hr
  have R4' := Lib.hid (R4.out.frm hf (fun _ _ x => x))
  clear hf hr hb F4 R4 U1 U2
  go_wp2_with fail
  refine (kept_bytes _ _ _ _ _ n bs HN.out hc1 (R1.out.frm F5.out (fun _ _ x => x)) (H.out.rds.frm (F1.out.trans F5.out (fun _ _ x => x)) (fun _ _ x => x)) h4).mono ?_
  rintro e w6 ⟨rfl, n6, rfl⟩
  go_wp2_with fail
  refine (sames_n _ _ _ _ _ m ys HM.out (R4'.out.drewN n6) (R5.out.drewN n6) (by omega)).mono ?_
  rintro e w7 ⟨rfl, n7, rfl⟩
  go_wp2_with fail
  go_ret
  exact ⟨rfl, (F1.out.trans F5.out (fun _ _ x => x)).drewN _⟩

set_option maxRecDepth 100000 in
theorem wireTexts (w : World) (A : Option Addr) (c n : Nat) (bs : List UInt8) (s : ByteArray) (hn : bs.length = n) (h : Src w A c bs) (h4 : n ≤ 140737488351232) :
    Calls Try.prog 5 #[.slice A n c, .string s] w fun e w' => e = .returned (.bool true) ∧ Frm No w w' := by
  have HT := Lib.hid (texts w A c n bs s hn h h4)
  clear h hn h4
  go_enter Try.func5, Try.ntmps5
  go_wp2_with fail
  refine HT.out.mono ?_
  rintro e w1 ⟨rfl, hf⟩
  have F1 := Lib.hid hf
  clear hf HT
  go_wp2_with fail
  refine (awake _).mono ?_
  rintro e w2 ⟨rfl, hf⟩
  have F2 := Lib.hid (F1.out.trans hf (fun _ _ x => x))
  clear hf
  go_wp2_with fail
  go_ret
  exact ⟨rfl, F2.out⟩

set_option maxRecDepth 100000 in
theorem wireTexts_lifted (os : Os) (started : os.Started) (H : Type) (enc : TypeId × Value → H) :
    ReturnsInHanded {} Try.checked os 5 .any (Rows.wireTextsSpec.pre6 enc Try.prog Try.f5 Rows.wireTextsRow.domain false) (Rows.wireTextsSpec.post enc Try.prog Try.f5 false true false false) := by
  refine returnsInHanded_of_change_sized (C := Try.checked) Try.own started (by kernel_rfl) Try.func5
    (ChangeSpec.witness6 (enc := enc) (C := Try.checked) false ⟨#[], #[.slice none 0 0, .string ⟨#[]⟩], []⟩ 8 (by kernel_rfl) (by kernel_rfl) (by kernel_rfl) (by kernel_rfl)) ?_
  intro W base args ds gs before hval0 hW _ hsz0 _
  have hval : ∀ (j : Nat) t v, Try.f5.params[j]? = some t → args[j]? = some v → Value.okWide Try.prog W .any base t v := hval0
  have hW' := hW
  obtain ⟨p, q, hA0, hV, rfl, hfz, hnd⟩ := hW
  have hA : DataW.TrodAll enc Try.prog W 0 (fun _ => true) true Try.f5.params.toList args.toList ds p := hA0
  have hsz : (DataW.weightsEach Try.prog (Try.f5.params.toList ++ Rows.wireTextsSpec.plain.varTypes Try.prog) (ds ++ gs)).all (· ≤ reachBytes) = true := hsz0
  rw [Try.params5] at hA hval hsz
  obtain ⟨v0, v1, d0, d1, p0, p1, rfl, rfl, rfl, h0, h1⟩ := trodAll_two hA
  obtain ⟨rfl, rfl⟩ := trodVars_none hV
  obtain ⟨A, n, c, bs, rfl, rfl, hc, hr, hnil, hd⟩ := open_bytes (hval 0 22 v0 rfl rfl) h0
  obtain ⟨s, rfl, rfl, rfl, _⟩ := open_string Try.underlying9 (hval 1 9 v1 rfl rfl) h1
  have hs : bs.length ≤ 140737488351232 := by
    rcases hd with ⟨_, rfl⟩ | ⟨es, sp, rfl, hl⟩
    · omega
    · have := sized_slice hsz (j := 0) (t := 22) (e := 5) rfl rfl Try.underlying22
      rw [show Try.prog.bytesOf 5 = 1 from by kernel_rfl] at this
      unfold reachBytes at this
      omega
  refine (wireTexts W A c bs.length bs s rfl ⟨hr, hc, hnil⟩ hs).mono fun e W' ⟨he, hf⟩ => ?_
  subst he
  exact ⟨_, rfl, post_true rfl hW' (by rw [Try.params5]; intro t ht; simp at ht; rcases ht with rfl | rfl <;> exact ⟨by kernel_rfl, of_decide_eq_true (by kernel_rfl)⟩) rfl rfl rfl rfl rfl (hf.below (Nat.le_refl _) (fun _ h => h.elim))⟩

theorem wireTexts_holds : Rows.WireTextsSaid :=
  OpenClaim.holds_of_wide 5 Try.f5 rfl rfl rfl rfl rfl rfl rfl ⟨rfl, rfl, rfl, rfl, rfl⟩ rfl rfl rfl rfl rfl (by kernel_rfl) Try.func5 (by kernel_rfl)
    (of_decide_eq_true (by kernel_rfl)) (by unfold Func.isWrapper; first | (rw [if_pos (by decide +kernel)]; kernel_rfl) | (rw [if_neg (by decide +kernel)]; exact ⟨rfl, rfl⟩))
    (fun os started H enc _ => wireTexts_lifted os started H enc)
end Go.Proofs.Ytgpnnnjhcjjnmaa
