/-
  The document's own answer: Unhex.
-/
import Derived.Test.YtgpnnnjhcjjnmaaX2
namespace Go.Proofs.Ytgpnnnjhcjjnmaa
open Go.RowKit

theorem digit_good {x : Nat} (h : good x = true) : digitOf x = (val x : Int) := by rw [digitOf, if_pos h]
theorem digit_bad {x : Nat} (h : good x = false) : digitOf x = -1 := by rw [digitOf, if_neg (by rw [h]; exact Bool.false_ne_true)]

theorem digit_is {W : World} {x : Nat} {v : Int} (h : Calls Try.prog 75 #[.int .u8 (x : Int)] W fun e w' => e = .returned (.int .i64 (digitOf x)) ∧ W = w') (hd : digitOf x = v) : Calls Try.prog 75 #[.int .u8 (x : Int)] W fun e w' => e = .returned (.int .i64 v) ∧ W = w' := by
  rw [hd] at h
  exact h

set_option maxRecDepth 100000 in
set_option maxHeartbeats 2000000 in
theorem refUnhex (s : ByteArray) (w : World) (hs : s.size ≤ 262144) : Calls Try.prog 52 #[.string s] w (Parsed w s.data.toList) := by
  obtain ⟨i0, hi, hz0, hz1, hz2⟩ := info_parts info5
  go_enter Try.func52, Try.ntmps52
  go_wp2_with fail
  go_loopw [4, 5] (fun v i wr => ∃ (j : Nat) (r : List UInt8), 2 * j ≤ s.size ∧ i = .int .i64 (2 * (j : Int)) ∧ Hid (unhexs (s.data.toList.take (2 * j)) = some r) ∧ Hid (wr.ownsRow w.heap.size 5 1 v r.length (byts r)) ∧ Hid (Frm No w wr)) (fun _ i _ => s.size - (intOf i).toNat)
  case atStart => exact ⟨0, [], by omega, rfl, rfl, World.ownsRow_nil _ _ _ _, Frm.refl _ _⟩
  case round =>
    obtain ⟨j, r, hj, rfl, HU, HO, HF⟩ := hrel
    by_cases hlt : 2 * j < s.size
    · have hlt' : 2 * (j : Int) < s.size := by omega
      have hw2 : IntKind.i64.wrap (2 * (j : Int) + 1) = 2 * j + 1 := by rw [IntWalk.i64_in]; omega
      have hw3 : IntKind.i64.wrap (2 * (j : Int) + 2) = 2 * j + 2 := by rw [IntWalk.i64_in]; omega
      have hq1 : 0 ≤ 2 * (j : Int) := by omega
      by_cases hodd : 2 * j + 1 = s.size
      · have hu := Lib.hid (unhexs_odd j s.data.toList (by rw [Array.length_toList, show s.data.size = s.size from rfl]; omega))
        have ho : (2 * (j : Int) + 1 == (s.size : Int)) = true := by simp; omega
        go_wp2
        go_ret2
        exact Parsed.no hu.out HF.out
      · have ho : (2 * (j : Int) + 1 == (s.size : Int)) = false := by simp; omega
        have hA : (2 * (j : Int)).toNat < s.size := by omega
        have hB : (2 * (j : Int) + 1).toNat < s.size := by omega
        have hq4 : 2 * (j : Int) + 1 < s.size := by omega
        have hq3 : 0 ≤ 2 * (j : Int) + 1 := by omega
        have HP0 := step_pair s j hA hB HU.out
        obtain ⟨x0, hx0⟩ : ∃ x0, (s[(2 * (j : Int)).toNat]'hA).toNat = x0 := ⟨_, rfl⟩
        obtain ⟨x1, hx1⟩ : ∃ x1, (s[(2 * (j : Int) + 1).toNat]'hB).toNat = x1 := ⟨_, rfl⟩
        have HP := HP0
        rw [hx0, hx1] at HP
        have b0 : x0 < 256 := by rw [← hx0]; exact UInt8.toNat_lt _
        have b1 : x1 < 256 := by rw [← hx1]; exact UInt8.toNat_lt _
        clear HP0
        have D0 := Lib.hid (fun W : World => ref_digit W x0 b0)
        have D1 := Lib.hid (fun W : World => ref_digit W x1 b1)
        cases g0 : good x0 with
        | false =>
          have hd0 : digitOf x0 = -1 := digit_bad g0
          have HN := Lib.hid (HP.out.2 (by rw [g0]; rfl))
          clear HP g0
          go_wp2_with fail
          refine (D0.out _).mono ?_
          rintro e w' ⟨he, rfl⟩
          rw [hd0] at he
          subst he
          go_wp2
          go_ret2
          exact Parsed.no HN.out HF.out
        | true =>
          have hd0 : digitOf x0 = (val x0 : Int) := digit_good g0
          have l0 := val_le g0
          obtain ⟨a, ha⟩ : ∃ a, val x0 = a := ⟨_, rfl⟩
          rw [ha] at hd0 l0
          have p0 : decide ((a : Int) < 0) = false := decide_eq_false (by omega)
          cases g1 : good x1 with
          | false =>
            have hd1 : digitOf x1 = -1 := digit_bad g1
            have HN := Lib.hid (HP.out.2 (by rw [g1, Bool.and_false]))
            clear HP g0 g1 ha
            go_wp2_with fail
            refine (D0.out _).mono ?_
            rintro e w' ⟨he, rfl⟩
            rw [hd0] at he
            subst he
            go_wp2_with fail
            refine (D1.out _).mono ?_
            rintro e w' ⟨he, rfl⟩
            rw [hd1] at he
            subst he
            go_wp2
            go_ret2
            exact Parsed.no HN.out HF.out
          | true =>
            have hd1 : digitOf x1 = (val x1 : Int) := digit_good g1
            have l1 := val_le g1
            obtain ⟨b, hb⟩ : ∃ b, val x1 = b := ⟨_, rfl⟩
            rw [hb] at hd1 l1
            have p1 : decide ((b : Int) < 0) = false := decide_eq_false (by omega)
            have hstep := HP.out.1 g0 g1
            rw [ha, hb] at hstep
            obtain ⟨B, hB'⟩ : ∃ B, UInt8.ofNat (a * 16 + b) = B := ⟨_, rfl⟩
            have w2 : IntKind.u8.wrap (16 * (a : Int) + b) = (B.toNat : Int) := by
              have e : IntKind.u8.wrap (16 * (a : Int) + b) = (16 * (a : Int) + b) % 256 := rfl
              rw [e, ← hB']
              simp
              omega
            rw [hB'] at hstep
            have HS := Lib.hid hstep
            clear HP g0 g1 ha hb hstep hB'
            go_wp2_with fail
            refine (D0.out _).mono ?_
            rintro e w' ⟨he, rfl⟩
            rw [hd0] at he
            subst he
            go_wp2_with fail
            refine (D1.out _).mono ?_
            rintro e w' ⟨he, rfl⟩
            rw [hd1] at he
            subst he
            have w0 : IntKind.i64.wrap (16 * (a : Int)) = 16 * a := by rw [IntWalk.i64_in] <;> omega
            have w1 : IntKind.i64.wrap (16 * (a : Int) + b) = 16 * a + b := by rw [IntWalk.i64_in] <;> omega
            have HRL := Lib.hid (unhexs_len j _ r (by rw [List.length_take, Array.length_toList, show s.data.size = s.size from rfl]; omega) HU.out)
            clear D0 D1
            go_wp2_with fail
            go_region_law (first
              | (go_simp; go_at_call 75; refine (ref_digit _ _ (by assumption)).mono ?_; rintro e w' ⟨rfl, rfl⟩)
              | (refine step_append_own rfl (.tmp 35) (.tmp 48) 22 rfl w.heap.size 5 i0 (.int .u8 0) 1 1 Try.underlying22 hi hz0 hz1 hz2 rfl (by decide) u4 r.length (byts r) rfl (by first | exact HO.out.alloc _ | exact World.ownsRow.alloc (w := wr.drew) HO.out _) ⟨wr.heap.size, 0, none⟩ 1 1 (byts [B]) rfl rfl (by exact news3 wr.drew _ _ rfl) (byts_one _) (by have := HRL.out; unfold maxLen; omega) (by have := HRL.out; omega) (by have := HF.out.size; simp; omega) ?_; intro v' w2 hown' hgr _; have HS2 : Hid (w2.ownsRow w.heap.size 5 1 v' (r ++ [B]).length (byts (r ++ [B]))) ∧ Hid (Frm No w w2) := (by rw [List.length_append]; first | exact push_step HO.out HF.out hown' hgr | exact push_step (wr := wr.drew) HO.out HF.out.drew hown' hgr); clear hown' hgr))
            all_goals
              go_wp2
              go_roundw
              case rel => exact ⟨j + 1, _, by omega, by go_num, HS.out, HS2.1, HS2.2⟩
              case measure => simp [intOf]; omega
    · have hj2 : 2 * j = s.size := by omega
      have hsz : s.data.toList.length = s.size := Array.length_toList
      have hu : unhexs s.data.toList = some r := by
        have := HU.out
        rwa [List.take_of_length_le (by omega)] at this
      have HUU := Lib.hid hu
      clear hu hsz
      go_wp2
      go_ret2
      unfold Parsed
      rw [HUU.out]
      exact ⟨_, rfl, HO.out, HF.out⟩
end Go.Proofs.Ytgpnnnjhcjjnmaa
