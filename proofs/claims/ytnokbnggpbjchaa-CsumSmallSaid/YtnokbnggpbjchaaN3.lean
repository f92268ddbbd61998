/-
  The document's own Sum, Of, Over, Fix.
-/
import Derived.Test.YtnokbnggpbjchaaN1
namespace Go.Proofs.Ytnokbnggpbjchaa
open Go.RowKit

theorem wsum_next (bs : List UInt8) (j : Nat) (hj : j < bs.length) : wsum (bs.take (j + 1)) = wsum (bs.take j) + (if j % 2 = 0 then bs[j].toNat * 256 else bs[j].toNat) := by
  rw [List.take_succ_eq_append_getElem hj]
  by_cases he : j % 2 = 0
  · rw [if_pos he, wsum_append _ _ (by rw [List.length_take]; omega)]
    simp [wsum, wordsOf, addUp, word]
  · rw [if_neg he]
    obtain ⟨i, rfl⟩ : ∃ i, j = i + 1 := ⟨j - 1, by omega⟩
    have hi : i < bs.length := by omega
    rw [List.take_succ_eq_append_getElem hi]
    have hl : (bs.take i).length % 2 = 0 := by rw [List.length_take]; omega
    rw [List.append_assoc, wsum_append _ _ hl, wsum_append _ _ hl]
    simp [wsum, wordsOf, addUp, word]
    omega

theorem wsum_bound (bs : List UInt8) : wsum bs ≤ bs.length * 65535 := by
  have h := addUp_le (wordsOf bs) (wordsOf_lt bs)
  rw [wordsOf_length] at h
  unfold wsum
  have : (bs.length + 1) / 2 ≤ bs.length ∨ bs.length = 0 := by omega
  rcases this with h2 | h2
  · exact Nat.le_trans h (Nat.mul_le_mul_right _ h2)
  · rw [h2] at h ⊢
    simpa using h

set_option maxRecDepth 100000 in
set_option maxHeartbeats 1000000 in
theorem refSum (w : World) (A : Option Addr) (n c : Nat) (bs : List UInt8) (hn : bs.length = n) (h : Rds w A bs) (h4 : n ≤ 140737488355328) :
    Calls Try.prog 34 #[.slice A n c] w fun e w' => e = .returned (.int .i64 (sumOf bs : Int)) ∧ w = w' := by
  have H := Lib.hid h
  clear h
  go_enter Try.func34, Try.ntmps34
  go_wp2
  go_loop [3, 4] (fun s i => ∃ j : Nat, j ≤ n ∧ i = .int .i64 j ∧ s = .int .i64 (wsum (bs.take j) : Int)) (fun _ i => n - (intOf i).toNat)
  case atStart => exact ⟨0, Nat.zero_le _, rfl, rfl⟩
  case round =>
    obtain ⟨j, hj, rfl, rfl⟩ := hrel
    by_cases hlt : j < n
    · have hjx : j < bs.length := by omega
      obtain ⟨ad, rfl, hc⟩ := H.out.at_ hjx
      have hb := wsum_bound (bs.take j)
      have hx := bs[j].toNat_lt
      have hl : (bs.take j).length ≤ 140737488355328 := by rw [List.length_take]; omega
      have hs := wsum_next bs j hjx
      obtain ⟨s, hss⟩ : ∃ s, wsum (bs.take j) = s := ⟨_, rfl⟩
      rw [hss] at hb hs ⊢
      obtain ⟨x, hxx⟩ : ∃ x, bs[j].toNat = x := ⟨_, rfl⟩
      rw [hxx] at hc hx hs
      by_cases he : j % 2 = 0
      · rw [if_pos he] at hs
        have he2 : (j : Int) % 2 = 0 := by omega
        have a0 : IntKind.i64.wrap (256 * (x : Int)) = 256 * x := by rw [IntWalk.i64_in] <;> omega
        have a1 : IntKind.i64.wrap ((s : Int) + 256 * x) = s + 256 * x := by rw [IntWalk.i64_in] <;> omega
        have HS := Lib.hid hs
        clear hss hxx hs hb hl he
        go_wp2
        go_round
        case rel => exact ⟨j + 1, by omega, by go_num, by rw [HS.out]; simp; omega⟩
        case measure => simp [intOf]; omega
      · rw [if_neg he] at hs
        have he2 : (j : Int) % 2 = 1 := by omega
        have a1 : IntKind.i64.wrap ((s : Int) + x) = s + x := by rw [IntWalk.i64_in] <;> omega
        have HS := Lib.hid hs
        clear hss hxx hs hb hl he
        go_wp2
        go_round
        case rel => exact ⟨j + 1, by omega, by go_num, by rw [HS.out]; simp⟩
        case measure => simp [intOf]; omega
    · have ht : bs.take j = bs := List.take_of_length_le (by omega)
      have hb := wsum_bound bs
      rw [ht]
      have HF := Lib.hid (refFold w (wsum bs) (wsum bs) rfl (by omega))
      clear ht hb
      go_wp2_with fail
      refine HF.out.mono ?_
      rintro e w' ⟨rfl, rfl⟩
      go_wp2
      go_ret
      exact ⟨rfl, rfl⟩

set_option maxRecDepth 100000 in
theorem refOf (w : World) (A : Option Addr) (n c : Nat) (bs : List UInt8) (hn : bs.length = n) (h : Rds w A bs) (h4 : n ≤ 140737488355328) :
    Calls Try.prog 35 #[.slice A n c] w fun e w' => e = .returned (.int .i64 (ofOf bs : Int)) ∧ w = w' := by
  have HS := Lib.hid (refSum w A n c bs hn h h4)
  have hl := sumOf_le bs
  obtain ⟨u, hu⟩ : ∃ u, ofOf bs = u := ⟨_, rfl⟩
  obtain ⟨s, hs⟩ : ∃ s, sumOf bs = s := ⟨_, rfl⟩
  have hus : u = 65535 - s := by rw [← hu, ← hs]; rfl
  rw [hs] at HS hl
  rw [hu]
  have e1 : IntKind.i64.wrap (65535 - (s : Int)) = u := by rw [IntWalk.i64_in] <;> omega
  clear h hu hs hus
  go_enter Try.func35, Try.ntmps35
  go_wp2_with fail
  refine HS.out.mono ?_
  rintro e w1 ⟨rfl, rfl⟩
  go_wp2
  go_ret
  exact ⟨rfl, rfl⟩
end Go.Proofs.Ytnokbnggpbjchaa
