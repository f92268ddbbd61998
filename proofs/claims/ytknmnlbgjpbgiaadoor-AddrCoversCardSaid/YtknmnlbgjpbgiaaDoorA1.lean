/-
  The examples of the chapter, call by call.
-/
import Derived.Test.YtknmnlbgjpbgiaaDoorC12
import Derived.Test.YtknmnlbgjpbgiaaDoorC13
import Derived.Test.YtknmnlbgjpbgiaaDoorC17
namespace Go.Proofs.YtknmnlbgjpbgiaaDoor
open Go.RowKit
open Go.Lib (decDigits)

/-- The digits of a number up to 999, by cases. -/
def digs3 (u : Nat) : List UInt8 :=
  if u < 10 then [UInt8.ofNat (48 + u)] else if u < 100 then [UInt8.ofNat (48 + u / 10), UInt8.ofNat (48 + u % 10)]
  else [UInt8.ofNat (48 + u / 10 / 10), UInt8.ofNat (48 + u / 10 % 10), UInt8.ofNat (48 + u % 10)]
theorem digs3_eq (u : Nat) (h : u < 1000) : decDigits u = digs3 u := by
  unfold digs3
  split
  · rw [dec_small (by omega)]
  · split
    · rw [dec_big (by omega), dec_small (by omega)]; rfl
    · rw [dec_big (by omega), dec_big (by omega), dec_small (by omega)]; rfl
def text3 (a : Nat) : List UInt8 := digs3 (a / 16777216 % 256) ++ 46 :: (digs3 (a / 65536 % 256) ++ 46 :: (digs3 (a / 256 % 256) ++ 46 :: digs3 (a % 256)))
theorem text3_eq (a : Nat) : textOf a = text3 a := by
  unfold textOf text3
  rw [digs3_eq _ (by omega), digs3_eq _ (by omega), digs3_eq _ (by omega), digs3_eq _ (by omega)]

theorem lit_read (w : World) : Calls Tryd.prog 21 #[.string ⟨#[49, 48, 46, 48, 46, 48, 46, 49]⟩] w fun e w' => e = .returned (.tuple #[.int .u32 167772161, .int .i64 0]) ∧ Frm No w w' :=
  read_yes [49, 48, 46, 48, 46, 48, 46, 49] w (by decide) (a := 167772161) (by kernel_rfl)
theorem lit_cut (w : World) : Calls Tryd.prog 19 #[.int .u32 167838211, .int .u8 8] w fun e w' => e = .returned (.tuple #[.agg #[.int .u32 167772160, .int .u8 8], .int .i64 0]) ∧ Frm No w w' := by
  have h := cut_pfx w 167838211 8 (by omega) (by omega)
  have e : cutV 167838211 8 = .tuple #[.agg #[.int .u32 167772160, .int .u8 8], .int .i64 0] := by kernel_rfl
  rw [e] at h
  exact h
theorem right_lit : rightB 167772160 8 = true := by kernel_rfl
theorem lit_ptext (w : World) (ht : Tab w) : Calls Tryd.prog 23 #[.agg #[.int .u32 167772160, .int .u8 8]] w fun e w' => e = .returned (.tuple #[.string ⟨#[49, 48, 46, 48, 46, 48, 46, 48, 47, 56]⟩, .int .i64 0]) ∧ Frm No w w' := by
  have h := ptext_pfx w ht 167772160 8 (by omega) (by omega)
  have e : pfxTextV 167772160 8 = .tuple #[.string ⟨#[49, 48, 46, 48, 46, 48, 46, 48, 47, 56]⟩, .int .i64 0] := by
    unfold pfxTextV pfxText
    rw [right_lit, text3_eq, digs3_eq 8 (by omega)]
    kernel_rfl
  rw [e] at h
  exact h
theorem lit_bounds (w : World) : Calls Tryd.prog 16 #[.agg #[.int .u32 167772160, .int .u8 8]] w fun e w' => e = .returned (.tuple #[.int .u32 167772160, .int .u32 184549375, .int .i64 0]) ∧ Frm No w w' := by
  have h := bounds_pfx w 167772160 8 (by omega) (by omega)
  have e : boundsV 167772160 8 = .tuple #[.int .u32 167772160, .int .u32 184549375, .int .i64 0] := by kernel_rfl
  rw [e] at h
  exact h
theorem frm_of_below {w w' : World} (h : Below w.heap.size w w') : Frm No w w' := Frm.of_below h (fun i hi h2 => absurd hi (by omega))
def LitCov (l : List (Nat × Nat)) (w : World) (e : Ending) (w' : World) : Prop := ∃ g c, e = .returned (.tuple #[.slice (some ⟨g, 0, none⟩) l.length c, .int .i64 0]) ∧ Pfs w' (.slice (some ⟨g, 0, none⟩) l.length c) l ∧ Frm No w w'
theorem lit_cover (w : World) (f t : Nat) (hf0 : f < 4294967296) (ht : t < 4294967296) (hft : f ≤ t) (x : Nat × Nat) (l : List (Nat × Nat)) (h : cov f t = x :: l) : Calls Tryd.prog 15 #[.int .u32 (f : Int), .int .u32 (t : Int)] w (LitCov (x :: l) w) := by
  refine (cover_yes w f t hf0 ht hft).mono ?_
  rintro e w' ⟨v, rfl, hr, hb⟩
  rw [h] at hr
  have hr' := hr
  rw [List.length_cons] at hr'
  obtain ⟨g, c, rfl⟩ := ownsRow_succ hr'
  exact ⟨g, c, rfl, Pfs.of_own rfl hr, frm_of_below hb⟩
theorem cov_lit1 : cov 167772161 167772166 = (167772161, 32) :: [(167772162, 31), (167772164, 31), (167772166, 32)] := by kernel_rfl
theorem cov_lit2 : cov 0 4294967295 = (0, 0) :: [] := by kernel_rfl
theorem lit_text1 (w : World) (ht : Tab w) : Calls Tryd.prog 22 #[.int .u32 167772161] w fun e w' => e = .returned (.string ⟨#[49, 48, 46, 48, 46, 48, 46, 49]⟩) ∧ Frm No w w' := by
  have h := text_any w ht 167772161 (by omega)
  rw [text3_eq, show text3 167772161 = [49, 48, 46, 48, 46, 48, 46, 49] by kernel_rfl] at h
  exact h
theorem lit_text2 (w : World) (ht : Tab w) : Calls Tryd.prog 22 #[.int .u32 167838211] w fun e w' => e = .returned (.string ⟨#[49, 48, 46, 49, 46, 50, 46, 51]⟩) ∧ Frm No w w' := by
  have h := text_any w ht 167838211 (by omega)
  rw [text3_eq, show text3 167838211 = [49, 48, 46, 49, 46, 50, 46, 51] by kernel_rfl] at h
  exact h
theorem lit_has (w : World) : Calls Tryd.prog 18 #[.agg #[.int .u32 167772160, .int .u8 8], .int .u32 184549375] w fun e w' => e = .returned (.bool true) ∧ Frm No w w' := by
  have h := has_pfx w 167772160 8 184549375 (by omega) (by omega) (by omega)
  rw [show hasB 167772160 8 184549375 = true by kernel_rfl] at h
  exact h
theorem lit_inside (w : World) : Calls Tryd.prog 20 #[.agg #[.int .u32 167772160, .int .u8 8], .agg #[.int .u32 0, .int .u8 0]] w fun e w' => e = .returned (.bool true) ∧ Frm No w w' := by
  have h := inside_pfx w 167772160 8 0 0 (by omega) (by omega) (by omega) (by omega)
  rw [show insideB 167772160 8 0 0 = true by kernel_rfl] at h
  exact h

/-- The strings that are no texts. -/
def badTexts : List (List UInt8) := [[49, 48, 46, 48, 46, 48, 46, 48, 49], [49, 48, 46, 48, 46, 48], [49, 48, 46, 48, 46, 48, 46, 50, 53, 54], [49, 48, 46, 48, 46, 48, 46, 49, 46], [], [49, 48, 46, 48, 46, 48, 46, 49, 47, 56], [49, 48, 46, 48, 46, 48, 46, 48, 47, 51, 51], [48, 45, 54, 53, 53, 51, 53], [56, 48, 45, 56, 48], [57, 45, 56]]
theorem bad_all : ∀ l ∈ badTexts, readOf l = none ∧ pfxOf l = none ∧ rngOf l = none ∧ l ≠ [42] ∧ l.length ≤ 100 := by
  intro l hl
  simp only [badTexts, List.mem_cons, List.not_mem_nil, or_false] at hl
  rcases hl with rfl | rfl | rfl | rfl | rfl | rfl | rfl | rfl | rfl | rfl <;> exact ⟨by kernel_rfl, by kernel_rfl, by kernel_rfl, by decide, by decide⟩

theorem rpfx_no (l : List UInt8) (w : World) (hs : l.length ≤ 9223372036854775807) (h : pfxOf l = none) : Calls Tryd.prog 24 #[.string ⟨l.toArray⟩] w fun e w' => e = .returned (.tuple #[.agg #[.int .u32 0, .int .u8 0], .int .i64 30]) ∧ Frm No w w' := by
  refine (rpfx_any l w hs).mono ?_
  rintro e w' ⟨he, hf⟩
  unfold pfxV at he
  rw [h] at he
  exact ⟨he, hf⟩
theorem rrng_no (l : List UInt8) (w : World) (hs : l.length ≤ 9223372036854775807) (h42 : l ≠ [42]) (h : rngOf l = none) : Calls Tryd.prog 28 #[.string ⟨l.toArray⟩] w fun e w' => e = .returned (.tuple #[.agg #[.int .u16 0, .int .u16 0], .int .i64 30]) ∧ Frm No w w' := by
  refine (rrng_any l w hs h42).mono ?_
  rintro e w' ⟨he, hf⟩
  rw [h] at he
  exact ⟨he, hf⟩

theorem lit_ktext (w : World) (ht : Tab w) : Calls Tryd.prog 26 #[.agg #[.int .u8 6, .int .u32 167772161, .int .u32 167772162, .int .u16 80, .int .u16 90]] w fun e w' => e = .returned (.string ⟨#[54, 32, 49, 48, 46, 48, 46, 48, 46, 49, 58, 56, 48, 32, 49, 48, 46, 48, 46, 48, 46, 50, 58, 57, 48]⟩) ∧ Frm No w w' := by
  have h := ktext_any w ht 6 167772161 167772162 80 90 (by omega) (by omega) (by omega) (by omega) (by omega)
  have e : keyText ⟨6, 167772161, 167772162, 80, 90⟩ = [54, 32, 49, 48, 46, 48, 46, 48, 46, 49, 58, 56, 48, 32, 49, 48, 46, 48, 46, 48, 46, 50, 58, 57, 48] := by
    unfold keyText endText
    rw [text3_eq, text3_eq, digs3_eq 6 (by omega), digs3_eq 80 (by omega), digs3_eq 90 (by omega)]
    kernel_rfl
  rw [e] at h
  exact h
theorem lit_ktext2 (w : World) (ht : Tab w) : Calls Tryd.prog 26 #[.agg #[.int .u8 6, .int .u32 167772162, .int .u32 167772161, .int .u16 90, .int .u16 80]] w fun e w' => e = .returned (.string ⟨#[54, 32, 49, 48, 46, 48, 46, 48, 46, 50, 58, 57, 48, 32, 49, 48, 46, 48, 46, 48, 46, 49, 58, 56, 48]⟩) ∧ Frm No w w' := by
  have h := ktext_any w ht 6 167772162 167772161 90 80 (by omega) (by omega) (by omega) (by omega) (by omega)
  have e : keyText ⟨6, 167772162, 167772161, 90, 80⟩ = [54, 32, 49, 48, 46, 48, 46, 48, 46, 50, 58, 57, 48, 32, 49, 48, 46, 48, 46, 48, 46, 49, 58, 56, 48] := by
    unfold keyText endText
    rw [text3_eq, text3_eq, digs3_eq 6 (by omega), digs3_eq 80 (by omega), digs3_eq 90 (by omega)]
    kernel_rfl
  rw [e] at h
  exact h
end Go.Proofs.YtknmnlbgjpbgiaaDoor
