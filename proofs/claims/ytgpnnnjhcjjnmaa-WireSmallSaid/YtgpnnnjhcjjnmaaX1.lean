/-
  The document's own answer: Hex.
-/
import Derived.Test.YtgpnnnjhcjjnmaaL2
import Derived.Test.YtgpnnnjhcjjnmaaO1
namespace Go.Proofs.Ytgpnnnjhcjjnmaa
open Go.RowKit

theorem dig_low {h : Nat} (hh : h < 10) : ((dig h).toNat : Int) = 48 + h := by
  unfold dig
  rw [if_pos hh]
  simp
  omega
theorem dig_high {h : Nat} (hh : ¬ h < 10) (h2 : h < 16) : ((dig h).toNat : Int) = 87 + h := by
  unfold dig
  rw [if_neg hh]
  simp
  omega

theorem push_step {w wr w2 : World} {ys : List UInt8} {v v' : Value} {j n : Nat} {o : Obj} {x : UInt8} (HO : wr.ownsRow w.heap.size 5 1 v j (byts ys)) (HF : Frm No w wr)
    (hown : w2.ownsRow w.heap.size 5 1 v' n (byts ys ++ byts [x])) (hgr : (wr.alloc o).grownBy w2 v.ownBlock) :
    Hid (w2.ownsRow w.heap.size 5 1 v' n (byts (ys ++ [x]))) ∧ Hid (Frm No w w2) := by
  constructor
  · show w2.ownsRow w.heap.size 5 1 v' n (byts (ys ++ [x]))
    simpa [byts] using hown
  · show Frm No w w2
    exact (HF.alloc o).trans (Frm.of_grown hgr) (fun i hi hs => by
      have := (World.ownsRow.lt HO i hs).1
      omega)

theorem news3 (w : World) (x : UInt8) (z : Int) (hz : z = (x.toNat : Int)) : ∀ (j : Nat) (u : Value), (byts [x])[j]? = some u → (w.alloc (.cells #[.int .u8 z] 5)).cell? ((⟨w.heap.size, 0, none⟩ : Addr).add j) = some u := by
  subst hz
  exact news1 w x

theorem hex_two {w w2 : World} {bs : List UInt8} {j : Nat} {v : Value} {x h l : Nat} (hlt : j < bs.length) (hx : x = bs[j].toNat) (hh : h = x / 16) (hl : l = x % 16)
    (HO : w2.ownsRow w.heap.size 5 1 v (2 * j + 1 + 1) (byts (hexs (bs.take j) ++ [dig h] ++ [dig l]))) : Hid (w2.ownsRow w.heap.size 5 1 v (2 * (j + 1)) (byts (hexs (bs.take (j + 1))))) := by
  show w2.ownsRow w.heap.size 5 1 v (2 * (j + 1)) (byts (hexs (bs.take (j + 1))))
  subst hh hl hx
  rw [take_succ _ j hlt, hexs_snoc]
  have e : 2 * (j + 1) = 2 * j + 1 + 1 := by omega
  rw [e]
  simpa using HO

set_option maxRecDepth 100000 in
set_option maxHeartbeats 2000000 in
theorem refHex (w : World) (A : Option Addr) (c n : Nat) (bs : List UInt8) (hn : bs.length = n) (h : Rds w A bs) (hs : n ≤ 131072) :
    Calls Try.prog 51 #[.slice A n c] w (Text w bs n) := by
  subst hn
  obtain ⟨i0, hi, hz0, hz1, hz2⟩ := info_parts info5
  have H := Lib.hid h
  clear h
  go_enter Try.func51, Try.ntmps51
  go_wp2_with fail
  go_loopw [4, 5] (fun v i wr => ∃ j : Nat, j ≤ bs.length ∧ i = .int .i64 j ∧ Hid (wr.ownsRow w.heap.size 5 1 v (2 * j) (byts (hexs (bs.take j)))) ∧ Hid (Frm No w wr)) (fun _ i _ => bs.length - (intOf i).toNat)
  case atStart => exact ⟨0, Nat.zero_le _, rfl, World.ownsRow_nil _ _ _ _, Frm.refl _ _⟩
  case round =>
    obtain ⟨j, hj, rfl, HO, HF⟩ := hrel
    by_cases hlt : j < bs.length
    · obtain ⟨ad, rfl, hc⟩ := (H.out.frm HF.out (fun _ _ x => x)).at_ hlt
      obtain ⟨x, hx⟩ : ∃ x : Nat, x = bs[j].toNat := ⟨_, rfl⟩
      have hx8 : x < 256 := by rw [hx]; exact bs[j].toNat_lt
      rw [← hx] at hc
      have HX := Lib.hid hx
      clear hx
      obtain ⟨hh, hhe, b1, hx1⟩ : ∃ h : Nat, (x : Int) / 16 = h ∧ h < 16 ∧ h = x / 16 := ⟨x / 16, by omega, by omega, rfl⟩
      obtain ⟨ll, hle, b2, hx2⟩ : ∃ l : Nat, (x : Int) % 16 = l ∧ l < 16 ∧ l = x % 16 := ⟨x % 16, by omega, by omega, rfl⟩
      have HX1 := Lib.hid hx1
      have HX2 := Lib.hid hx2
      clear hx1 hx2
      have hsz := HF.out.size
      by_cases a1 : hh < 10 <;> by_cases a2 : ll < 10
      · go_wp2_with fail
        refine wp_loop_rounds 3 ?_
        rw [rounds_succ]
        go_wp2_with (at_builtin; refine wpList_append_own _ rfl (.tmp 35) (.tmp 38) 22 rfl w.heap.size 5 i0 (.int .u8 0) 1 1 Try.underlying22 hi hz0 hz1 hz2 rfl (by decide) _ _ _ rfl (HO.out.alloc _) ⟨_, 0, none⟩ 1 1 (byts [dig hh]) rfl rfl (news3 _ _ _ ((dig_low a1).symm)) (byts_one _) (by unfold maxLen; omega) (by omega) (by simp; omega) ?_; intro v' w' hown' hgr _)
        have HS1 := push_step HO.out HF.out hown' hgr
        have HO1 := HS1.1
        have HF1 := HS1.2
        have hsz1 := HF1.out.size
        clear hown' hgr HS1
        have hcw : w'.cell? (ad.add j) = some (.int .u8 (x : Int)) := by
          obtain ⟨ad', e, h⟩ := (H.out.frm HF1.out (fun _ _ x => x)).at_ hlt
          cases e
          rw [h, HX.out]
        rw [rounds_succ]
        go_wp2_with (at_builtin; refine wpList_append_own _ rfl (.tmp 35) (.tmp 38) 22 rfl w.heap.size 5 i0 (.int .u8 0) 1 1 Try.underlying22 hi hz0 hz1 hz2 rfl (by decide) _ _ _ rfl (HO1.out.alloc _) ⟨_, 0, none⟩ 1 1 (byts [dig ll]) rfl rfl (news3 _ _ _ ((dig_low a2).symm)) (byts_one _) (by unfold maxLen; omega) (by omega) (by simp; omega) ?_; intro v' w' hown' hgr _)
        have HS2 := push_step HO1.out HF1.out hown' hgr
        have HO2 := HS2.1
        have HF2 := HS2.2
        have hsz2 := HF2.out.size
        clear hown' hgr HS2
        rw [rounds_succ]
        go_wp2
        go_roundw
        case rel => exact ⟨j + 1, by omega, by go_num, hex_two hlt HX.out HX1.out HX2.out HO2.out, HF2⟩
        case measure => simp [intOf]; omega
      · go_wp2_with fail
        refine wp_loop_rounds 3 ?_
        rw [rounds_succ]
        go_wp2_with (at_builtin; refine wpList_append_own _ rfl (.tmp 35) (.tmp 38) 22 rfl w.heap.size 5 i0 (.int .u8 0) 1 1 Try.underlying22 hi hz0 hz1 hz2 rfl (by decide) _ _ _ rfl (HO.out.alloc _) ⟨_, 0, none⟩ 1 1 (byts [dig hh]) rfl rfl (news3 _ _ _ ((dig_low a1).symm)) (byts_one _) (by unfold maxLen; omega) (by omega) (by simp; omega) ?_; intro v' w' hown' hgr _)
        have HS1 := push_step HO.out HF.out hown' hgr
        have HO1 := HS1.1
        have HF1 := HS1.2
        have hsz1 := HF1.out.size
        clear hown' hgr HS1
        have hcw : w'.cell? (ad.add j) = some (.int .u8 (x : Int)) := by
          obtain ⟨ad', e, h⟩ := (H.out.frm HF1.out (fun _ _ x => x)).at_ hlt
          cases e
          rw [h, HX.out]
        rw [rounds_succ]
        go_wp2_with (at_builtin; refine wpList_append_own _ rfl (.tmp 40) (.tmp 44) 22 rfl w.heap.size 5 i0 (.int .u8 0) 1 1 Try.underlying22 hi hz0 hz1 hz2 rfl (by decide) _ _ _ rfl (HO1.out.alloc _) ⟨_, 0, none⟩ 1 1 (byts [dig ll]) rfl rfl (news3 _ _ _ (by rw [dig_high a2 b2]; omega)) (byts_one _) (by unfold maxLen; omega) (by omega) (by simp; omega) ?_; intro v' w' hown' hgr _)
        have HS2 := push_step HO1.out HF1.out hown' hgr
        have HO2 := HS2.1
        have HF2 := HS2.2
        have hsz2 := HF2.out.size
        clear hown' hgr HS2
        rw [rounds_succ]
        go_wp2
        go_roundw
        case rel => exact ⟨j + 1, by omega, by go_num, hex_two hlt HX.out HX1.out HX2.out HO2.out, HF2⟩
        case measure => simp [intOf]; omega
      · go_wp2_with fail
        refine wp_loop_rounds 3 ?_
        rw [rounds_succ]
        go_wp2_with (at_builtin; refine wpList_append_own _ rfl (.tmp 40) (.tmp 44) 22 rfl w.heap.size 5 i0 (.int .u8 0) 1 1 Try.underlying22 hi hz0 hz1 hz2 rfl (by decide) _ _ _ rfl (HO.out.alloc _) ⟨_, 0, none⟩ 1 1 (byts [dig hh]) rfl rfl (news3 _ _ _ (by rw [dig_high a1 b1]; omega)) (byts_one _) (by unfold maxLen; omega) (by omega) (by simp; omega) ?_; intro v' w' hown' hgr _)
        have HS1 := push_step HO.out HF.out hown' hgr
        have HO1 := HS1.1
        have HF1 := HS1.2
        have hsz1 := HF1.out.size
        clear hown' hgr HS1
        have hcw : w'.cell? (ad.add j) = some (.int .u8 (x : Int)) := by
          obtain ⟨ad', e, h⟩ := (H.out.frm HF1.out (fun _ _ x => x)).at_ hlt
          cases e
          rw [h, HX.out]
        rw [rounds_succ]
        go_wp2_with (at_builtin; refine wpList_append_own _ rfl (.tmp 35) (.tmp 38) 22 rfl w.heap.size 5 i0 (.int .u8 0) 1 1 Try.underlying22 hi hz0 hz1 hz2 rfl (by decide) _ _ _ rfl (HO1.out.alloc _) ⟨_, 0, none⟩ 1 1 (byts [dig ll]) rfl rfl (news3 _ _ _ ((dig_low a2).symm)) (byts_one _) (by unfold maxLen; omega) (by omega) (by simp; omega) ?_; intro v' w' hown' hgr _)
        have HS2 := push_step HO1.out HF1.out hown' hgr
        have HO2 := HS2.1
        have HF2 := HS2.2
        have hsz2 := HF2.out.size
        clear hown' hgr HS2
        rw [rounds_succ]
        go_wp2
        go_roundw
        case rel => exact ⟨j + 1, by omega, by go_num, hex_two hlt HX.out HX1.out HX2.out HO2.out, HF2⟩
        case measure => simp [intOf]; omega
      · go_wp2_with fail
        refine wp_loop_rounds 3 ?_
        rw [rounds_succ]
        go_wp2_with (at_builtin; refine wpList_append_own _ rfl (.tmp 40) (.tmp 44) 22 rfl w.heap.size 5 i0 (.int .u8 0) 1 1 Try.underlying22 hi hz0 hz1 hz2 rfl (by decide) _ _ _ rfl (HO.out.alloc _) ⟨_, 0, none⟩ 1 1 (byts [dig hh]) rfl rfl (news3 _ _ _ (by rw [dig_high a1 b1]; omega)) (byts_one _) (by unfold maxLen; omega) (by omega) (by simp; omega) ?_; intro v' w' hown' hgr _)
        have HS1 := push_step HO.out HF.out hown' hgr
        have HO1 := HS1.1
        have HF1 := HS1.2
        have hsz1 := HF1.out.size
        clear hown' hgr HS1
        have hcw : w'.cell? (ad.add j) = some (.int .u8 (x : Int)) := by
          obtain ⟨ad', e, h⟩ := (H.out.frm HF1.out (fun _ _ x => x)).at_ hlt
          cases e
          rw [h, HX.out]
        rw [rounds_succ]
        go_wp2_with (at_builtin; refine wpList_append_own _ rfl (.tmp 40) (.tmp 44) 22 rfl w.heap.size 5 i0 (.int .u8 0) 1 1 Try.underlying22 hi hz0 hz1 hz2 rfl (by decide) _ _ _ rfl (HO1.out.alloc _) ⟨_, 0, none⟩ 1 1 (byts [dig ll]) rfl rfl (news3 _ _ _ (by rw [dig_high a2 b2]; omega)) (byts_one _) (by unfold maxLen; omega) (by omega) (by simp; omega) ?_; intro v' w' hown' hgr _)
        have HS2 := push_step HO1.out HF1.out hown' hgr
        have HO2 := HS2.1
        have HF2 := HS2.2
        have hsz2 := HF2.out.size
        clear hown' hgr HS2
        rw [rounds_succ]
        go_wp2
        go_roundw
        case rel => exact ⟨j + 1, by omega, by go_num, hex_two hlt HX.out HX1.out HX2.out HO2.out, HF2⟩
        case measure => simp [intOf]; omega
    · have hcv : (convert 22 9 u4).run Try.prog wr = .ok (.string ⟨(hexs bs).toArray⟩) wr := by
        have := string_of HO.out
        rwa [List.take_of_length_le (by omega)] at this
      go_wp2
      go_ret2
      exact ⟨_, rfl, rfl, by show (hexs bs).toArray.size = _; rw [List.size_toArray, hexs_len], HF.out⟩
end Go.Proofs.Ytgpnnnjhcjjnmaa
