/-
  number: the number whose text a string is.
-/
import Derived.Test.YtknmnlbgjpbgiaaDoorBase
import Derived.Test.YtknmnlbgjpbgiaaDoorD1
import Derived.Test.YtknmnlbgjpbgiaaDoorProg
import Derived.Lib.Walk
import Derived.BigQuiet
import Derived.Deep.QuietTactic
import Derived.Outline
namespace Go.Proofs.YtknmnlbgjpbgiaaDoor
open Go.RowKit

/-- What number answers. -/
def numR (k : IntKind) : Option Nat → Value
  | none => .tuple #[.int k 0, .bool false]
  | some n => .tuple #[.int k (n : Int), .bool true]

theorem take_drop (s : ByteArray) (k : Nat) (h : k < s.size) : s.data.toList.drop k = s[k] :: s.data.toList.drop (k + 1) := by
  rw [List.drop_eq_getElem_cons (by simpa using h)]
  rfl

theorem go_next (most m : Nat) (s : ByteArray) (k : Nat) (h : k < s.size) (h1 : 48 ≤ s[k].toNat) (h2 : s[k].toNat ≤ 57) (h3 : m * 10 + (s[k].toNat - 48) ≤ most) :
    numGo most m (s.data.toList.drop k) = numGo most (m * 10 + (s[k].toNat - 48)) (s.data.toList.drop (k + 1)) := by
  rw [take_drop s k h, numGo, if_neg (by omega), if_neg (by omega)]
theorem go_bad (most m : Nat) (s : ByteArray) (k : Nat) (h : k < s.size) (h1 : s[k].toNat < 48 ∨ 57 < s[k].toNat) : numGo most m (s.data.toList.drop k) = none := by
  rw [take_drop s k h, numGo, if_pos h1]
theorem go_much (most m : Nat) (s : ByteArray) (k : Nat) (h : k < s.size) (h1 : 48 ≤ s[k].toNat) (h2 : s[k].toNat ≤ 57) (h3 : most < m * 10 + (s[k].toNat - 48)) : numGo most m (s.data.toList.drop k) = none := by
  rw [take_drop s k h, numGo, if_neg (by omega), if_pos h3]
theorem go_done (most m : Nat) (s : ByteArray) : numGo most m (s.data.toList.drop s.size) = some m := by
  rw [List.drop_of_length_le (by simp)]
  rfl
theorem num_go (most : Nat) (s : ByteArray) (h0 : 0 < s.size) (h : s[0].toNat ≠ 48 ∨ s.data.toList = [48]) : numOf most s.data.toList = numGo most 0 (s.data.toList.drop 0) := by
  have hd := take_drop s 0 h0
  rw [List.drop_zero] at hd ⊢
  unfold numOf
  rw [if_neg]
  rw [hd]
  rintro (h1 | ⟨h1, h2⟩)
  · cases h1
  · have e : s[0] = 48 := by simpa using h1
    rcases h with h | h
    · exact h (by rw [e]; rfl)
    · exact h2 (by rw [← hd]; exact h)
theorem num_zero (most : Nat) (s : ByteArray) (h0 : 0 < s.size) (h : s[0].toNat = 48) (h1 : s.data.toList ≠ [48]) : numOf most s.data.toList = none := by
  have hd := take_drop s 0 h0
  rw [List.drop_zero] at hd
  unfold numOf
  rw [if_pos]
  refine Or.inr ⟨?_, h1⟩
  rw [hd]
  have e : s[0] = 48 := UInt8.toNat_inj.1 h
  simp [e]
theorem toList_eq (s : ByteArray) : s.toList = s.data.toList := Lib.toList_data s

def NumEnds (k : IntKind) (most : Nat) (l : List UInt8) (w : World) (e : Ending) (w' : World) : Prop := e = .returned (numR k (numOf most l)) ∧ w = w'
theorem NumEnds.none {k : IntKind} {most : Nat} {l : List UInt8} (w : World) (h : numOf most l = none) : NumEnds k most l w (.returned (.tuple #[.int k 0, .bool false])) w := by
  unfold NumEnds
  rw [h]
  exact ⟨rfl, rfl⟩
theorem NumEnds.some {k : IntKind} {most : Nat} {l : List UInt8} (w : World) {m : Nat} {z : Int} (h : numOf most l = some m) (hz : (m : Int) = z) : NumEnds k most l w (.returned (.tuple #[.int k z, .bool true])) w := by
  unfold NumEnds
  rw [h, ← hz]
  exact ⟨rfl, rfl⟩

set_option maxRecDepth 100000 in
set_option maxHeartbeats 2000000 in
theorem num8_any (s : ByteArray) (w : World) (hs : s.size ≤ 9223372036854775807) :
    Calls Tryd.prog 55 #[.string s] w (NumEnds .u8 255 s.data.toList w) := by
  rcases Nat.eq_zero_or_pos s.size with h0 | h0
  · have hl : s.data.toList = [] := List.eq_nil_of_length_eq_zero (by simpa using h0)
    have h1 : s.toList = [] := by rw [toList_eq, hl]
    have hn := NumEnds.none (k := .u8) w (show numOf 255 s.data.toList = none by rw [hl]; rfl)
    have HN := Lib.hid hn
    clear hn hl h0
    go_enter Tryd.func55, Tryd.ntmps55
    go_wp2
    go_ret2
    exact HN.out
  · have hne : ¬ s.toList = [] := by
      rw [toList_eq]
      intro h
      have h1 := congrArg List.length h
      have h2 : s.data.toList.length = s.size := by simp
      rw [h2, List.length_nil] at h1
      omega
    have hem : s.toList.isEmpty = false := by simpa using hne
    by_cases hz : s[0].toNat = 48 ∧ s.data.toList ≠ [48]
    · have h48 : ((s[0].toNat : Nat) : Int) = 48 := by omega
      have hx : (!s.toList == [48]) = true := by
        rw [toList_eq]
        simpa using hz.2
      have hn := NumEnds.none (k := .u8) w (num_zero 255 s h0 hz.1 hz.2)
      have HN := Lib.hid hn
      clear hn hz
      go_enter Tryd.func55, Tryd.ntmps55
      go_wp2
      go_ret2
      exact HN.out
    · have hgo := num_go 255 s h0 (by
        by_cases h : s[0].toNat = 48
        · exact .inr (Classical.byContradiction fun h2 => hz ⟨h, h2⟩)
        · exact .inl h)
      have HG := Lib.hid hgo
      clear hgo
      have htest : (((s[0].toNat : Nat) : Int) = 48 ∧ (!s.toList == [48]) = false) ∨ ¬ ((s[0].toNat : Nat) : Int) = 48 := by
        by_cases h : s[0].toNat = 48
        · refine .inl ⟨by omega, ?_⟩
          rw [toList_eq]
          have : s.data.toList = [48] := Classical.byContradiction fun h2 => hz ⟨h, h2⟩
          simp [this]
        · exact .inr (by omega)
      clear hz
      have hxor : bits BinOp.xor IntKind.u8 IntKind.u8.max 0 = 255 := by decide
      rcases htest with ⟨t1, t2⟩ | t1
      all_goals
        go_enter Tryd.func55, Tryd.ntmps55
        go_wp2
        go_loop [5, 23] (fun n i => ∃ k m : Nat, k ≤ s.size ∧ m ≤ 255 ∧ n = .int .u32 (m : Int) ∧ i = .int .i64 (k : Int) ∧ Hid (numOf 255 s.data.toList = numGo 255 m (s.data.toList.drop k))) (fun _ i => s.size - (intOf i).toNat)
        case atStart => exact ⟨0, 0, Nat.zero_le _, by omega, rfl, rfl, HG⟩
        case round =>
          obtain ⟨k, m, hk, hm, rfl, rfl, HK⟩ := hrel
          clear t1
          by_cases hlt : k < s.size
          · by_cases hd1 : s[k].toNat < 48
            · have hn := NumEnds.none (k := .u8) w (HK.out.trans (go_bad 255 m s k hlt (.inl hd1)))
              have HN := Lib.hid hn
              clear hn
              go_wp2
              go_ret2
              exact HN.out
            · by_cases hd2 : 57 < s[k].toNat
              · have hn := NumEnds.none (k := .u8) w (HK.out.trans (go_bad 255 m s k hlt (.inr hd2)))
                have HN := Lib.hid hn
                clear hn
                go_wp2
                go_ret2
                exact HN.out
              · by_cases hd3 : 255 < m * 10 + (s[k].toNat - 48)
                · have hn := NumEnds.none (k := .u8) w (HK.out.trans (go_much 255 m s k hlt (by omega) (by omega) hd3))
                  have HN := Lib.hid hn
                  clear hn
                  have q3 : (255 : Int) < (m : Int) * 10 + (((s[k].toNat : Nat) : Int) - 48) := by omega
                  go_wp2
                  go_ret2
                  exact HN.out
                · have hn := HK.out.trans (go_next 255 m s k hlt (by omega) (by omega) (by omega))
                  have HN := Lib.hid hn
                  clear hn
                  have q3 : (m : Int) * 10 + (((s[k].toNat : Nat) : Int) - 48) ≤ 255 := by omega
                  go_wp2
                  go_round
                  case rel => exact ⟨k + 1, m * 10 + (s[k].toNat - 48), by omega, by omega, congrArg (Value.int .u32) (by omega), by go_num, HN⟩
                  case measure => simp [intOf]; omega
          · obtain rfl : k = s.size := by omega
            have hn := NumEnds.some (k := .u8) w (HK.out.trans (go_done 255 m s)) rfl
            have HN := Lib.hid hn
            clear hn
            go_wp2
            go_ret2
            exact HN.out

set_option maxRecDepth 100000 in
set_option maxHeartbeats 2000000 in
theorem num16_any (s : ByteArray) (w : World) (hs : s.size ≤ 9223372036854775807) :
    Calls Tryd.prog 61 #[.string s] w (NumEnds .u16 65535 s.data.toList w) := by
  rcases Nat.eq_zero_or_pos s.size with h0 | h0
  · have hl : s.data.toList = [] := List.eq_nil_of_length_eq_zero (by simpa using h0)
    have h1 : s.toList = [] := by rw [toList_eq, hl]
    have hn := NumEnds.none (k := .u16) w (show numOf 65535 s.data.toList = none by rw [hl]; rfl)
    have HN := Lib.hid hn
    clear hn hl h0
    go_enter Tryd.func61, Tryd.ntmps61
    go_wp2
    go_ret2
    exact HN.out
  · have hne : ¬ s.toList = [] := by
      rw [toList_eq]
      intro h
      have h1 := congrArg List.length h
      have h2 : s.data.toList.length = s.size := by simp
      rw [h2, List.length_nil] at h1
      omega
    have hem : s.toList.isEmpty = false := by simpa using hne
    by_cases hz : s[0].toNat = 48 ∧ s.data.toList ≠ [48]
    · have h48 : ((s[0].toNat : Nat) : Int) = 48 := by omega
      have hx : (!s.toList == [48]) = true := by
        rw [toList_eq]
        simpa using hz.2
      have hn := NumEnds.none (k := .u16) w (num_zero 65535 s h0 hz.1 hz.2)
      have HN := Lib.hid hn
      clear hn hz
      go_enter Tryd.func61, Tryd.ntmps61
      go_wp2
      go_ret2
      exact HN.out
    · have hgo := num_go 65535 s h0 (by
        by_cases h : s[0].toNat = 48
        · exact .inr (Classical.byContradiction fun h2 => hz ⟨h, h2⟩)
        · exact .inl h)
      have HG := Lib.hid hgo
      clear hgo
      have htest : (((s[0].toNat : Nat) : Int) = 48 ∧ (!s.toList == [48]) = false) ∨ ¬ ((s[0].toNat : Nat) : Int) = 48 := by
        by_cases h : s[0].toNat = 48
        · refine .inl ⟨by omega, ?_⟩
          rw [toList_eq]
          have : s.data.toList = [48] := Classical.byContradiction fun h2 => hz ⟨h, h2⟩
          simp [this]
        · exact .inr (by omega)
      clear hz
      have hxor : bits BinOp.xor IntKind.u16 IntKind.u16.max 0 = 65535 := by decide
      rcases htest with ⟨t1, t2⟩ | t1
      all_goals
        go_enter Tryd.func61, Tryd.ntmps61
        go_wp2
        go_loop [5, 23] (fun n i => ∃ k m : Nat, k ≤ s.size ∧ m ≤ 65535 ∧ n = .int .u32 (m : Int) ∧ i = .int .i64 (k : Int) ∧ Hid (numOf 65535 s.data.toList = numGo 65535 m (s.data.toList.drop k))) (fun _ i => s.size - (intOf i).toNat)
        case atStart => exact ⟨0, 0, Nat.zero_le _, by omega, rfl, rfl, HG⟩
        case round =>
          obtain ⟨k, m, hk, hm, rfl, rfl, HK⟩ := hrel
          clear t1
          by_cases hlt : k < s.size
          · by_cases hd1 : s[k].toNat < 48
            · have hn := NumEnds.none (k := .u16) w (HK.out.trans (go_bad 65535 m s k hlt (.inl hd1)))
              have HN := Lib.hid hn
              clear hn
              go_wp2
              go_ret2
              exact HN.out
            · by_cases hd2 : 57 < s[k].toNat
              · have hn := NumEnds.none (k := .u16) w (HK.out.trans (go_bad 65535 m s k hlt (.inr hd2)))
                have HN := Lib.hid hn
                clear hn
                go_wp2
                go_ret2
                exact HN.out
              · by_cases hd3 : 65535 < m * 10 + (s[k].toNat - 48)
                · have hn := NumEnds.none (k := .u16) w (HK.out.trans (go_much 65535 m s k hlt (by omega) (by omega) hd3))
                  have HN := Lib.hid hn
                  clear hn
                  have q3 : (65535 : Int) < (m : Int) * 10 + (((s[k].toNat : Nat) : Int) - 48) := by omega
                  go_wp2
                  go_ret2
                  exact HN.out
                · have hn := HK.out.trans (go_next 65535 m s k hlt (by omega) (by omega) (by omega))
                  have HN := Lib.hid hn
                  clear hn
                  have q3 : (m : Int) * 10 + (((s[k].toNat : Nat) : Int) - 48) ≤ 65535 := by omega
                  go_wp2
                  go_round
                  case rel => exact ⟨k + 1, m * 10 + (s[k].toNat - 48), by omega, by omega, congrArg (Value.int .u32) (by omega), by go_num, HN⟩
                  case measure => simp [intOf]; omega
          · obtain rfl : k = s.size := by omega
            have hn := NumEnds.some (k := .u16) w (HK.out.trans (go_done 65535 m s)) rfl
            have HN := Lib.hid hn
            clear hn
            go_wp2
            go_ret2
            exact HN.out
end Go.Proofs.YtknmnlbgjpbgiaaDoor
