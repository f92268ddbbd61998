/-
  Ranges: RightRange, In, everyPort, RangeText.
-/
import Derived.Test.YtknmnlbgjpbgiaaDoorC8
namespace Go.Proofs.YtknmnlbgjpbgiaaDoor
open Go.RowKit
open Go.Lib (decDigits)
attribute [local go_sem] undef

theorem rng_cells {w : World} {x y : Int} : ∀ W, Frm No (w.alloc (.cells #[.int .u16 x, .int .u16 y] 29)) W → W.cell? ⟨w.heap.size, 0, none⟩ = some (.int .u16 x) ∧ W.cell? ⟨w.heap.size, 1, none⟩ = some (.int .u16 y) := by
  intro W hW
  have hb : Blk (w.alloc (.cells #[.int .u16 x, .int .u16 y] 29)) w.heap.size 29 #[.int .u16 x, .int .u16 y] := Blk.new _ _ _
  have h2 := hb.frm hW (fun x => x)
  exact ⟨h2.cell 0, h2.cell 1⟩

set_option maxRecDepth 100000 in
set_option maxHeartbeats 1000000 in
theorem rright_any (w : World) (f t : Nat) : Calls Tryd.prog 32 #[.agg #[.int .u16 (f : Int), .int .u16 (t : Int)]] w (BoolNo (decide (f ≤ t)) w) := by
  by_cases h : f ≤ t
  · rw [decide_eq_true h]
    have q : (f : Int) ≤ t := by omega
    go_enter Tryd.func32, Tryd.ntmps32
    go_wp2
    all_goals (try go_quiet (fail))
    all_goals go_wp2
    go_ret
    first | exact ⟨rfl, ((Frm.refl No w).alloc _).drewN _⟩ | exact ⟨rfl, ((Frm.refl No w).alloc _)⟩
  · rw [decide_eq_false h]
    have q : ¬ (f : Int) ≤ t := by omega
    go_enter Tryd.func32, Tryd.ntmps32
    go_wp2
    all_goals (try go_quiet (fail))
    all_goals go_wp2
    go_ret
    first | exact ⟨rfl, ((Frm.refl No w).alloc _).drewN _⟩ | exact ⟨rfl, ((Frm.refl No w).alloc _)⟩

set_option maxRecDepth 100000 in
set_option maxHeartbeats 1000000 in
theorem every_any (w : World) : Calls Tryd.prog 59 #[] w (RetNo (.agg #[.int .u16 0, .int .u16 65535]) w) := by
  go_enter Tryd.func59, Tryd.ntmps59
  go_wp2
  exact bodyPost_ret (v := .agg #[.int .u16 0, .int .u16 65535]) (by simp [results, Tryd.results59, go_sem]) rfl ⟨rfl, (Frm.refl No w).alloc _⟩

def rngText (f t : Nat) : List UInt8 := if f = 0 ∧ t = 65535 then [42] else if f = t then decDigits f else decDigits f ++ 45 :: decDigits t
def rngTextV (f t : Nat) : Value := if f ≤ t then .tuple #[.string ⟨(rngText f t).toArray⟩, .int .i64 0] else .tuple #[.string ⟨#[]⟩, .int .i64 32]

attribute [local irreducible] wpList wpQuiet

set_option maxRecDepth 100000 in
set_option maxHeartbeats 2000000 in
theorem rtext_no (w : World) (f t : Nat) (h : ¬ f ≤ t) : Calls Tryd.prog 27 #[.agg #[.int .u16 (f : Int), .int .u16 (t : Int)]] w (RetNo (rngTextV f t) w) := by
  have hv : rngTextV f t = .tuple #[.string ⟨#[]⟩, .int .i64 32] := by unfold rngTextV; rw [if_neg h]
  rw [hv]
  have HR := Lib.hid (fun W => rright_any W f t)
  rw [decide_eq_false h] at HR
  clear h hv
  go_enter Tryd.func27, Tryd.ntmps27
  go_wp2_with fail
  refine (HR.out _).mono ?_
  rintro e w1 ⟨rfl, hf⟩
  have F1 := Lib.hid hf
  clear hf
  go_wp2
  go_ret2
  exact ⟨rfl, ((Frm.refl No w).alloc _).new0 F1.out⟩

set_option maxRecDepth 100000 in
set_option maxHeartbeats 2000000 in
theorem rtext_all (w : World) : Calls Tryd.prog 27 #[.agg #[.int .u16 0, .int .u16 65535]] w (RetNo (rngTextV 0 65535) w) := by
  have hv : rngTextV 0 65535 = .tuple #[.string ⟨#[42]⟩, .int .i64 0] := rfl
  rw [hv]
  have HR := Lib.hid (fun W => rright_any W 0 65535)
  rw [decide_eq_true (by omega)] at HR
  have HE := Lib.hid every_any
  clear hv
  go_enter Tryd.func27, Tryd.ntmps27
  go_wp2_with fail
  refine (HR.out _).mono ?_
  rintro e w1 ⟨rfl, hf⟩
  have F1 := Lib.hid hf
  have C0 := Lib.hid (fun W (hW : Frm No w1 W) => rng_cells W (hf.new0 hW))
  clear hf
  go_wp2_with fail
  refine region_no (by kernel_rfl) (by kernel_rfl) ?_
  repeat (refine wpQuiet_step (fun K hK => ?_); go_simp; first
      | (refine hK _ ?_; clear hK K)
      | (apply Exists.intro; refine ⟨fun W hW => ?_, hK _ ?_⟩; (first | rfl | ((obtain ⟨c0, c1⟩ := C0.out W hW); go_simp; rfl)); clear hK K))
  refine wpQuiet_step (fun K hK => ?_)
  go_simp
  apply Exists.intro
  refine ⟨fun W hW => (HE.out W).mono fun e w' he => ⟨he.1, hW.new0 he.2⟩, hK _ ?_⟩
  clear hK K
  repeat (refine wpQuiet_step (fun K hK => ?_); go_simp; first
      | (refine hK _ ?_; clear hK K)
      | (apply Exists.intro; refine ⟨fun W hW => ?_, hK _ ?_⟩; (first | rfl | ((obtain ⟨c0, c1⟩ := C0.out W hW); go_simp; rfl)); clear hK K))
  refine wpQuiet_nil ?_
  intro W hW
  go_wp2
  go_ret2
  exact ⟨rfl, (((Frm.refl No w).alloc _).new0 F1.out).new0 hW⟩

theorem rngText_one {f t : Nat} (hne : ¬ (f = 0 ∧ t = 65535)) (h : f = t) : rngText f t = decDigits f := by
  unfold rngText
  rw [if_neg hne, if_pos h]
theorem rngText_two {f t : Nat} (hne : ¬ (f = 0 ∧ t = 65535)) (h : ¬ f = t) : rngText f t = decDigits f ++ 45 :: decDigits t := by
  unfold rngText
  rw [if_neg hne, if_neg h]

set_option maxRecDepth 100000 in
set_option maxHeartbeats 4000000 in
theorem rtext_two (w : World) (htab : Tab w) (f t : Nat) (hf0 : f < 65536) (ht : t < 65536) (h : f ≤ t) (hne : ¬ (f = 0 ∧ t = 65535)) : Calls Tryd.prog 27 #[.agg #[.int .u16 (f : Int), .int .u16 (t : Int)]] w (RetNo (rngTextV f t) w) := by
  have hv : rngTextV f t = .tuple #[.string ⟨(rngText f t).toArray⟩, .int .i64 0] := by unfold rngTextV; rw [if_pos h]
  rw [hv]
  have HR := Lib.hid (fun W => rright_any W f t)
  rw [decide_eq_true h] at HR
  have HE := Lib.hid every_any
  have HT := Lib.hid htab
  clear htab hv
  have l1 := nDigits_5 f (by omega)
  have l2 := nDigits_5 t (by omega)
  have X1 := Lib.hid (fun W (hW : Tab W) => dec16_any W hW f hf0)
  have X2 := Lib.hid (fun W (hW : Tab W) => dec16_any W hW t ht)
  have e0 : ((f : Int) == 0) = true ∧ ((t : Int) == 65535) = false ∨ ((f : Int) == 0) = false := by
    by_cases h0 : f = 0
    · subst h0
      refine .inl ⟨rfl, ?_⟩
      simp
      omega
    · right
      simp
      omega
  by_cases heq : f = t
  · have HX := Lib.hid (rngText_one hne heq)
    have e3 : ((f : Int) == t) = true := by rw [heq]; simp
    clear h heq hne
    rcases e0 with ⟨e1, e2⟩ | e1
    all_goals
      go_enter Tryd.func27, Tryd.ntmps27
      go_wp2_with fail
      refine (HR.out _).mono ?_
      rintro e w1 ⟨rfl, hf⟩
      have F1 := Lib.hid hf
      have C0 := Lib.hid (fun W (hW : Frm No w1 W) => rng_cells W (hf.new0 hW))
      clear hf
      go_wp2_with fail
      refine region_no (by kernel_rfl) (by kernel_rfl) ?_
      repeat (refine wpQuiet_step (fun K hK => ?_); go_simp; first
          | (refine hK _ ?_; clear hK K)
          | (apply Exists.intro; refine ⟨fun W hW => ?_, hK _ ?_⟩; (first | rfl | ((obtain ⟨c0, c1⟩ := C0.out W hW); go_simp; rfl)); clear hK K))
      refine wpQuiet_step (fun K hK => ?_)
      go_simp
      apply Exists.intro
      refine ⟨fun W hW => (HE.out W).mono fun e w' he => ⟨he.1, hW.new0 he.2⟩, hK _ ?_⟩
      clear hK K
      repeat (refine wpQuiet_step (fun K hK => ?_); go_simp; first
          | (refine hK _ ?_; clear hK K)
          | (apply Exists.intro; refine ⟨fun W hW => ?_, hK _ ?_⟩; (first | rfl | ((obtain ⟨c0, c1⟩ := C0.out W hW); go_simp; rfl)); clear hK K))
      refine wpQuiet_nil ?_
      intro w2 hf
      have F2 := Lib.hid (F1.out.new0 hf)
      have c0 := (C0.out w2 hf).1
      have c1 := (C0.out w2 hf).2
      have C2 := Lib.hid (fun W (hW : Frm No w2 W) => C0.out W (hf.new0 hW))
      have T2 := Lib.hid (((HT.out.frm ((Frm.refl No w).alloc _)).frm F1.out).frm hf)
      clear hf C0
      go_wp2_with fail
      refine (X1.out _ T2.out).mono ?_
      rintro e w3 ⟨rfl, hf⟩
      have F3 := Lib.hid (F2.out.new0 hf)
      clear hf
      go_wp2
      go_ret2
      refine ⟨ret_str0 ?_, ((Frm.refl No w).alloc _).new0 F3.out⟩
      rw [HX.out]
  · have HX := Lib.hid (rngText_two hne heq)
    have e3 : ((f : Int) == t) = false := by simp; omega
    have e4 : ¬ (f : Int) = t := by omega
    clear h heq hne
    generalize decDigits f = d1 at *
    generalize decDigits t = d2 at *
    have q1 : ¬ 9223372036854775807 < d1.length + 1 := by omega
    have q2 : ¬ 9223372036854775807 < d1.length + 1 + d2.length := by omega
    rcases e0 with ⟨e1, e2⟩ | e1
    all_goals
      go_enter Tryd.func27, Tryd.ntmps27
      go_wp2_with fail
      refine (HR.out _).mono ?_
      rintro e w1 ⟨rfl, hf⟩
      have F1 := Lib.hid hf
      have C0 := Lib.hid (fun W (hW : Frm No w1 W) => rng_cells W (hf.new0 hW))
      clear hf
      go_wp2_with fail
      refine region_no (by kernel_rfl) (by kernel_rfl) ?_
      repeat (refine wpQuiet_step (fun K hK => ?_); go_simp; first
          | (refine hK _ ?_; clear hK K)
          | (apply Exists.intro; refine ⟨fun W hW => ?_, hK _ ?_⟩; (first | rfl | ((obtain ⟨c0, c1⟩ := C0.out W hW); go_simp; rfl)); clear hK K))
      refine wpQuiet_step (fun K hK => ?_)
      go_simp
      apply Exists.intro
      refine ⟨fun W hW => (HE.out W).mono fun e w' he => ⟨he.1, hW.new0 he.2⟩, hK _ ?_⟩
      clear hK K
      repeat (refine wpQuiet_step (fun K hK => ?_); go_simp; first
          | (refine hK _ ?_; clear hK K)
          | (apply Exists.intro; refine ⟨fun W hW => ?_, hK _ ?_⟩; (first | rfl | ((obtain ⟨c0, c1⟩ := C0.out W hW); go_simp; rfl)); clear hK K))
      refine wpQuiet_nil ?_
      intro w2 hf
      have F2 := Lib.hid (F1.out.new0 hf)
      have c0 := (C0.out w2 hf).1
      have c1 := (C0.out w2 hf).2
      have C2 := Lib.hid (fun W (hW : Frm No w2 W) => C0.out W (hf.new0 hW))
      have T2 := Lib.hid (((HT.out.frm ((Frm.refl No w).alloc _)).frm F1.out).frm hf)
      clear hf C0
      go_wp2_with fail
      refine region_no (by kernel_rfl) (by kernel_rfl) ?_
      repeat (refine wpQuiet_step (fun K hK => ?_); go_simp; first
          | (refine hK _ ?_; clear hK K)
          | (apply Exists.intro; refine ⟨fun W hW => ?_, hK _ ?_⟩; (first | rfl | ((obtain ⟨c0, c1⟩ := C2.out W hW); go_simp; rfl)); clear hK K))
      refine wpQuiet_step (fun K hK => ?_)
      go_simp
      apply Exists.intro
      refine ⟨fun W hW => (X1.out W (T2.out.frm hW)).mono fun e w' he => ⟨he.1, hW.new0 he.2⟩, hK _ ?_⟩
      clear hK K
      repeat (refine wpQuiet_step (fun K hK => ?_); go_simp; first
          | (refine hK _ ?_; clear hK K)
          | (apply Exists.intro; refine ⟨fun W hW => ?_, hK _ ?_⟩; (first | rfl | ((obtain ⟨c0, c1⟩ := C2.out W hW); go_simp; rfl)); clear hK K))
      refine wpQuiet_step (fun K hK => ?_)
      go_simp
      apply Exists.intro
      refine ⟨fun W hW => (X2.out W (T2.out.frm hW)).mono fun e w' he => ⟨he.1, hW.new0 he.2⟩, hK _ ?_⟩
      clear hK K
      repeat (refine wpQuiet_step (fun K hK => ?_); go_simp; first
          | (refine hK _ ?_; clear hK K)
          | (apply Exists.intro; refine ⟨fun W hW => ?_, hK _ ?_⟩; (first | rfl | ((obtain ⟨c0, c1⟩ := C2.out W hW); go_simp; rfl)); clear hK K))
      refine wpQuiet_nil ?_
      intro w3 hf
      have F3 := Lib.hid (F2.out.new0 hf)
      clear hf
      go_wp2
      go_ret2
      refine ⟨ret_str0 ?_, ((Frm.refl No w).alloc _).new0 F3.out⟩
      rw [HX.out]
      show (⟨d1.toArray⟩ ++ ⟨[45].toArray⟩) ++ ⟨d2.toArray⟩ = (⟨_⟩ : ByteArray)
      rw [app_list, app_list]
      simp

theorem rtext_any (w : World) (htab : Tab w) (f t : Nat) (hf0 : f < 65536) (ht : t < 65536) : Calls Tryd.prog 27 #[.agg #[.int .u16 (f : Int), .int .u16 (t : Int)]] w (RetNo (rngTextV f t) w) := by
  by_cases h : f ≤ t
  · by_cases hne : f = 0 ∧ t = 65535
    · obtain ⟨rfl, rfl⟩ := hne
      exact rtext_all w
    · exact rtext_two w htab f t hf0 ht h hne
  · exact rtext_no w f t h
end Go.Proofs.YtknmnlbgjpbgiaaDoor
