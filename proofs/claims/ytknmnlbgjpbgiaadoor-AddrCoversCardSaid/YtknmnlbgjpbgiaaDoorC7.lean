/-
  The address whose text a string is: Read.
-/
import Derived.Test.YtknmnlbgjpbgiaaDoorC6
namespace Go.Proofs.YtknmnlbgjpbgiaaDoor
open Go.RowKit Go.Lib Go.Sort

theorem or_byte (x n : Nat) (hx : x ≤ 16777215) (hn : n < 256) : bits .or .u32 ((x : Int) * 256) (n : Int) = ((x * 256 + n : Nat) : Int) := by
  have e : bits .or .u32 ((x : Int) * 256) (n : Int) = IntKind.u32.wrap ((BitVec.ofInt 32 ((x : Int) * 256) ||| BitVec.ofInt 32 (n : Int)).toNat : Int) := rfl
  have e1 : (x : Int) * 256 = ((x * 256 : Nat) : Int) := by simp
  rw [e, e1, BitVec.toNat_or, toNat_u32 _ (by omega), toNat_u32 _ (by omega)]
  have h1 := Nat.two_pow_add_eq_or_of_lt (i := 8) (b := n) hn x
  rw [show 2 ^ 8 * x = x * 256 by omega] at h1
  rw [← h1, wrap_u32_nat _ (by omega)]

def ReadEnds (l : List UInt8) (w : World) (e : Ending) (w' : World) : Prop := e = .returned (readV l) ∧ Frm No w w'
theorem ReadEnds.none {l : List UInt8} {w w' : World} (h : readOf l = none) (hf : Frm No w w') : ReadEnds l w (.returned (.tuple #[.int .u32 0, .int .i64 30])) w' := by
  unfold ReadEnds readV
  rw [h]
  exact ⟨rfl, hf⟩
theorem ReadEnds.some {l : List UInt8} {w w' : World} {m : Nat} (h : readOf l = some m) (hf : Frm No w w') : ReadEnds l w (.returned (.tuple #[.int .u32 (m : Int), .int .i64 0])) w' := by
  unfold ReadEnds readV
  rw [h]
  exact ⟨rfl, hf⟩

theorem readN_none {k x : Nat} {l t r : List UInt8} {f : Bool} (hc : cutB 46 l = (t, r, f)) (h : numOf 255 t = none) : readN (k + 1) x l = none := by
  rw [readN, hc]
  simp only [h, Option.bind_none]
theorem readN_some {k x n : Nat} {l t r : List UInt8} {f : Bool} (hc : cutB 46 l = (t, r, f)) (h : numOf 255 t = some n) (hf : f = decide (0 < k)) : readN (k + 1) x l = readN k (x * 256 + n) r := by
  rw [readN, hc]
  simp only [h, Option.bind_some]
  rw [if_pos hf]
theorem readN_bad {k x n : Nat} {l t r : List UInt8} {f : Bool} (hc : cutB 46 l = (t, r, f)) (h : numOf 255 t = some n) (hf : f ≠ decide (0 < k)) : readN (k + 1) x l = none := by
  rw [readN, hc]
  simp only [h, Option.bind_some]
  rw [if_neg hf]

theorem num8_no (l : List UInt8) (w : World) (hs : l.length ≤ 9223372036854775807) (h : numOf 255 l = none) : Calls Tryd.prog 55 #[.string ⟨l.toArray⟩] w fun e w' => e = .returned (.tuple #[.int .u8 0, .bool false]) ∧ w = w' := by
  refine (num8_l l w hs).mono ?_
  rintro e w' ⟨he, hw⟩
  rw [h] at he
  exact ⟨he, hw⟩
theorem num8_yes (l : List UInt8) (w : World) (hs : l.length ≤ 9223372036854775807) {n : Nat} (h : numOf 255 l = some n) : Calls Tryd.prog 55 #[.string ⟨l.toArray⟩] w fun e w' => e = .returned (.tuple #[.int .u8 (n : Int), .bool true]) ∧ w = w' := by
  refine (num8_l l w hs).mono ?_
  rintro e w' ⟨he, hw⟩
  rw [h] at he
  exact ⟨he, hw⟩
theorem num16_no (l : List UInt8) (w : World) (hs : l.length ≤ 9223372036854775807) (h : numOf 65535 l = none) : Calls Tryd.prog 61 #[.string ⟨l.toArray⟩] w fun e w' => e = .returned (.tuple #[.int .u16 0, .bool false]) ∧ w = w' := by
  refine (num16_l l w hs).mono ?_
  rintro e w' ⟨he, hw⟩
  rw [h] at he
  exact ⟨he, hw⟩
theorem num16_yes (l : List UInt8) (w : World) (hs : l.length ≤ 9223372036854775807) {n : Nat} (h : numOf 65535 l = some n) : Calls Tryd.prog 61 #[.string ⟨l.toArray⟩] w fun e w' => e = .returned (.tuple #[.int .u16 (n : Int), .bool true]) ∧ w = w' := by
  refine (num16_l l w hs).mono ?_
  rintro e w' ⟨he, hw⟩
  rw [h] at he
  exact ⟨he, hw⟩

set_option maxRecDepth 100000 in
set_option maxHeartbeats 4000000 in
theorem read_any (l0 : List UInt8) (w : World) (hs : l0.length ≤ 9223372036854775807) : Calls Tryd.prog 21 #[.string ⟨l0.toArray⟩] w (ReadEnds l0 w) := by
  go_enter Tryd.func21, Tryd.ntmps21
  go_wp2
  go_loopw [4, 5, 13] (fun a r i wr => ∃ (j x : Nat) (l : List UInt8), j ≤ 4 ∧ a = .int .u32 (x : Int) ∧ r = .string ⟨l.toArray⟩ ∧ i = .int .i64 (j : Int) ∧ Hid (readOf l0 = readN (4 - j) x l) ∧ l.length ≤ 9223372036854775807 ∧ x < 256 ^ j ∧ Hid (Frm No w wr)) (fun _ _ i _ => 4 - (RowKit.intOf i).toNat)
  case atStart => exact ⟨0, 0, l0, by omega, rfl, rfl, rfl, rfl, hs, by simp, Frm.refl _ _⟩
  case round =>
    obtain ⟨j, x, l, hj, rfl, rfl, rfl, HR, hl, hx, HF⟩ := hrel
    by_cases hlt : j < 4
    · obtain ⟨k, hk⟩ : ∃ k, 4 - j = k + 1 := ⟨3 - j, by omega⟩
      rw [hk] at HR
      have hx2 : x ≤ 16777215 := by
        have h1 : 256 ^ j ≤ 256 ^ 3 := Nat.pow_le_pow_right (by omega) (by omega)
        have h2 : 256 ^ 3 = 16777216 := rfl
        omega
      have HX := Lib.hid hx
      clear hx
      obtain ⟨t, r, f, hc⟩ : ∃ t r f, cutB 46 l = (t, r, f) := ⟨_, _, _, rfl⟩
      have hsz := cut_sz' hc hl
      have HC := Lib.hid hc
      have CU := Lib.hid (cut_l l 46 wr hl hc)
      clear hc
      go_wp2_with fail
      refine CU.out.mono ?_
      rintro e w1 ⟨rfl, m, rfl⟩
      have F1 := Lib.hid (HF.out.drewN m)
      clear CU
      cases hn : numOf 255 t with
      | none =>
        have HE := Lib.hid (ReadEnds.none (HR.out.trans (readN_none HC.out hn)) F1.out)
        have NU := Lib.hid (num8_no t (wr.drewN m) hsz.1 hn)
        clear hn
        go_wp2_with fail
        refine NU.out.mono ?_
        rintro e w1 ⟨rfl, rfl⟩
        go_wp2
        go_ret2
        exact HE.out
      | some n =>
        have hn2 := (numOf_inv 255 t n hn).2
        have NU := Lib.hid (num8_yes t (wr.drewN m) hsz.1 hn)
        have HN := Lib.hid hn
        clear hn
        have ho := or_byte x n hx2 (by omega)
        go_wp2_with fail
        refine NU.out.mono ?_
        rintro e w1 ⟨rfl, rfl⟩
        clear NU
        by_cases hf : f = decide (0 < k)
        · have HG := Lib.hid (HR.out.trans (readN_some HC.out HN.out hf))
          have hx3 : x * 256 + n < 256 ^ (j + 1) := by
            have := HX.out
            rw [Nat.pow_succ]
            omega
          have HX3 := Lib.hid hx3
          clear hx3
          rcases Nat.eq_zero_or_pos k with h0 | h0
          · have h1 : f = false := by rw [hf]; simp; omega
            subst h1
            have q : ¬ (j : Int) + 1 < 4 := by omega
            have qd : decide ((j : Int) + 1 < 4) = false := decide_eq_false q
            clear hf
            go_wp2
            go_roundw
            case rel => exact ⟨j + 1, x * 256 + n, r, by omega, rfl, rfl, by go_num, by show Hid _; rw [show 4 - (j + 1) = k by omega]; exact HG, hsz.2, HX3.out, F1⟩
            case measure => simp [RowKit.intOf]; omega
          · have h1 : f = true := by rw [hf]; simp; omega
            subst h1
            have q : (j : Int) + 1 < 4 := by omega
            have qd : decide ((j : Int) + 1 < 4) = true := decide_eq_true q
            clear hf
            go_wp2
            go_roundw
            case rel => exact ⟨j + 1, x * 256 + n, r, by omega, rfl, rfl, by go_num, by show Hid _; rw [show 4 - (j + 1) = k by omega]; exact HG, hsz.2, HX3.out, F1⟩
            case measure => simp [RowKit.intOf]; omega
        · have HE := Lib.hid (ReadEnds.none (HR.out.trans (readN_bad HC.out HN.out hf)) F1.out)
          rcases Nat.eq_zero_or_pos k with h0 | h0
          · have h1 : f = true := by
              cases f
              · exact absurd (by simp; omega) hf
              · rfl
            subst h1
            have q : ¬ (j : Int) + 1 < 4 := by omega
            have qd : decide ((j : Int) + 1 < 4) = false := decide_eq_false q
            clear hf
            go_wp2
            go_ret2
            exact HE.out
          · have h1 : f = false := by
              cases f
              · rfl
              · exact absurd (by simp; omega) hf
            subst h1
            have q : (j : Int) + 1 < 4 := by omega
            have qd : decide ((j : Int) + 1 < 4) = true := decide_eq_true q
            clear hf
            go_wp2
            go_ret2
            exact HE.out
    · obtain rfl : j = 4 := by omega
      have HE := Lib.hid (ReadEnds.some (HR.out.trans rfl) HF.out)
      go_wp2
      go_ret2
      exact HE.out
end Go.Proofs.YtknmnlbgjpbgiaaDoor
