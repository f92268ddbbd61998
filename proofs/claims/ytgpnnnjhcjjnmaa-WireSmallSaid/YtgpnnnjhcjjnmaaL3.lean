/-
  Lent bytes: KeptBytes.
-/
import Derived.Test.YtgpnnnjhcjjnmaaL2
namespace Go.Proofs.Ytgpnnnjhcjjnmaa
open Go.RowKit

theorem mark_quiet (w : World) (i : Nat) (hi : i < 12) : Calls Try.prog 72 #[.int .i64 1, .int .i64 (i : Int)] w fun e w' => e = .returned (.int .u8 ((markB i).toNat : Int)) ∧ w' = w :=
  (mark_byte w i hi).mono fun _ _ h => ⟨h.1, h.2.symm⟩

set_option maxRecDepth 100000 in
set_option maxHeartbeats 2000000 in
theorem kept_bytes (w : World) (A B : Option Addr) (c d n : Nat) (bs : List UInt8) (hn : bs.length = n) (hc : n + 12 ≤ c) (ha : Rds w A (bs ++ marks 12)) (hb : Rds w B bs) (h4 : n ≤ 140737488351232) :
    Calls Try.prog 41 #[.slice A n c, .slice B n d] w (Answers true w) := by
  subst hn
  have hw1 : IntKind.i64.wrap ((bs.length : Int) + 12) = bs.length + 12 := by rw [IntWalk.i64_in]; omega
  have q1 : (bs.length : Int) + 12 ≤ c := by omega
  go_enter Try.func41, Try.ntmps41
  go_wp2_with fail
  go_loopw [6] (fun i wr => ∃ j m : Nat, j ≤ bs.length + 12 ∧ i = .int .i64 j ∧ wr = w.drewN m) (fun i _ => bs.length + 12 - (intOf i).toNat)
  case atStart => exact ⟨0, 0, Nat.zero_le _, rfl, rfl⟩
  case round =>
    obtain ⟨j, m, hj, rfl, rfl⟩ := hrel
    by_cases hlt : j < bs.length + 12
    · obtain ⟨ad, rfl, hcell⟩ := ha.at_ (k := j) (by rw [List.length_append, marks_len]; exact hlt)
      have hlt2 : (j : Int) < (bs.length : Int) + 12 := by omega
      by_cases hl : j < bs.length
      · obtain ⟨bd, rfl, hcb⟩ := hb.at_ hl
        have e1 : (bs ++ marks 12)[j]'(by rw [List.length_append, marks_len]; exact hlt) = bs[j] := List.getElem_append_left hl
        rw [e1] at hcell
        have g0 : decide ((j : Int) < (bs.length : Int)) = true := decide_eq_true (by omega)
        have g1 : decide ((bs.length : Int) ≤ j) = false := decide_eq_false (by omega)
        have g2 : decide ((j : Int) ≥ (bs.length : Int)) = false := decide_eq_false (by omega)
        have g3 : decide (bs.length ≤ j) = false := decide_eq_false (by omega)
        have g4 : (!decide ((j : Int) < (bs.length : Int))) = false := by rw [g0]; rfl
        clear e1
        go_wp2_with fail
        go_quiet (fail)
        go_wp2
        go_roundw
        case rel => exact ⟨j + 1, _, by omega, by go_num, rfl⟩
        case measure => simp [intOf]; omega
      · obtain ⟨q, hq⟩ : ∃ q, j = bs.length + q := ⟨j - bs.length, by omega⟩
        have hq2 : q < 12 := by omega
        have e1 : (bs ++ marks 12)[j]'(by rw [List.length_append, marks_len]; exact hlt) = markB q := by
          subst hq
          rw [List.getElem_append_right (by omega)]
          simp [marks]
        rw [e1] at hcell
        have hw2 : IntKind.i64.wrap ((j : Int) - (bs.length : Int)) = q := by rw [IntWalk.i64_in] <;> omega
        have g0 : decide ((j : Int) < (bs.length : Int)) = false := decide_eq_false (by omega)
        have g1 : decide ((bs.length : Int) ≤ j) = true := decide_eq_true (by omega)
        have g2 : decide ((j : Int) ≥ (bs.length : Int)) = true := decide_eq_true (by omega)
        have g3 : decide (bs.length ≤ j) = true := decide_eq_true (by omega)
        have M := Lib.hid (fun W : World => mark_quiet W q hq2)
        obtain ⟨x, hx⟩ : ∃ x : Nat, (markB q).toNat = x := ⟨_, rfl⟩
        rw [hx] at hcell M
        clear e1 hx hq
        go_wp2_with fail
        refine wp_region_quiet_lit (by kernel_rfl) (by kernel_rfl) ?_
        repeat (first | go_big_quiet_step (fail) | quiet_step (fail))
        refine wpQuiet_step (fun K hK => ?_)
        go_simp
        apply Exists.intro
        refine ⟨fun n => ?_, hK _ ?_⟩
        · refine (M.out _).mono ?_
          rintro e w' ⟨rfl, rfl⟩
          exact ⟨rfl, n, rfl⟩
        clear hK K
        repeat (first | go_big_quiet_step (fail) | quiet_step (fail))
        refine wpQuiet_nil ?_
        intro _ hw'
        obtain ⟨nq, hw''⟩ := hw'
        subst hw''
        go_wp2
        go_roundw
        case rel => exact ⟨j + 1, _, by omega, by go_num, rfl⟩
        case measure => simp [intOf]; omega
    · go_wp2
      go_ret
      exact ⟨rfl, m, rfl⟩
end Go.Proofs.Ytgpnnnjhcjjnmaa
