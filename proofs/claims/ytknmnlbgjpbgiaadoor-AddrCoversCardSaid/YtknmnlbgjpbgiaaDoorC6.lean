/-
  The text of an address: Text; the address whose text a string is: Read.
-/
import Derived.Test.YtknmnlbgjpbgiaaDoorC2
import Derived.Test.YtknmnlbgjpbgiaaDoorC3
import Derived.Test.YtknmnlbgjpbgiaaDoorC4
import Derived.LoopN
namespace Go.Proofs.YtknmnlbgjpbgiaaDoor
open Go.RowKit Go.Lib Go.Sort

theorem app_list (l m : List UInt8) : (⟨l.toArray⟩ : ByteArray) ++ ⟨m.toArray⟩ = ⟨(l ++ m).toArray⟩ := by
  apply ByteArray.ext
  simp [ByteArray.data_append]
theorem dec8_z (w : World) (htab : Tab w) (u : Nat) (z : Int) (hz : (u : Int) = z) (hu : u < 256) :
    Calls Tryd.prog 56 #[.int .u8 z] w fun e w' => e = .returned (.string ⟨(decDigits u).toArray⟩) ∧ Frm No w w' := by
  subst hz
  exact dec8_any w htab u hu
theorem dec16_z (w : World) (htab : Tab w) (u : Nat) (z : Int) (hz : (u : Int) = z) (hu : u < 65536) :
    Calls Tryd.prog 60 #[.int .u16 z] w fun e w' => e = .returned (.string ⟨(decDigits u).toArray⟩) ∧ Frm No w w' := by
  subst hz
  exact dec16_any w htab u hu

theorem ret_str {a b : ByteArray} (h : a = b) : Ending.returned (.string a) = .returned (.string b) := by rw [h]
theorem Tab.no {w w' : World} (h : Tab w) (hf : Frm No w w') : Tab w' := h.frm hf

set_option maxRecDepth 100000 in
set_option maxHeartbeats 2000000 in
theorem text_any (w : World) (htab : Tab w) (a : Nat) (ha : a < 4294967296) : Calls Tryd.prog 22 #[.int .u32 (a : Int)] w (RetNo (.string ⟨(textOf a).toArray⟩) w) := by
  have HT := Lib.hid htab
  clear htab
  go_enter Tryd.func22, Tryd.ntmps22
  go_wp2_with fail
  have l1 := nDigits_3 (a / 16777216 % 256) (by omega)
  have l2 := nDigits_3 (a / 65536 % 256) (by omega)
  have l3 := nDigits_3 (a / 256 % 256) (by omega)
  have l4 := nDigits_3 (a % 256) (by omega)
  refine (dec8_z _ HT.out (a / 16777216 % 256) _ (by omega) (by omega)).mono ?_
  rintro e w1 ⟨rfl, hf⟩
  have F1 := Lib.hid hf
  have T1 := Lib.hid (HT.out.frm hf)
  clear hf
  have hD : Hid (textOf a = decDigits (a / 16777216 % 256) ++ 46 :: (decDigits (a / 65536 % 256) ++ 46 :: (decDigits (a / 256 % 256) ++ 46 :: decDigits (a % 256)))) := rfl
  generalize decDigits (a / 16777216 % 256) = d1 at *
  go_wp2_with fail
  refine wp_loop_rounds 4 ?_
  rw [rounds_succ]
  go_wp2_with fail
  refine (dec8_z _ T1.out (a / 65536 % 256) _ (by omega) (by omega)).mono ?_
  rintro e w2 ⟨rfl, hf⟩
  have F2 := Lib.hid (F1.out.new0 hf)
  have T2 := Lib.hid (T1.out.frm hf)
  clear hf
  generalize decDigits (a / 65536 % 256) = d2 at *
  have q1 : ¬ 9223372036854775807 < 1 + d2.length := by omega
  have q2 : ¬ 9223372036854775807 < d1.length + (1 + d2.length) := by omega
  go_wp2_with fail
  rw [rounds_succ]
  go_wp2_with fail
  refine (dec8_z _ T2.out (a / 256 % 256) _ (by omega) (by omega)).mono ?_
  rintro e w3 ⟨rfl, hf⟩
  have F3 := Lib.hid (F2.out.new0 hf)
  have T3 := Lib.hid (T2.out.frm hf)
  clear hf
  generalize decDigits (a / 256 % 256) = d3 at *
  have q3 : ¬ 9223372036854775807 < 1 + d3.length := by omega
  have q4 : ¬ 9223372036854775807 < d1.length + (1 + d2.length) + (1 + d3.length) := by omega
  go_wp2_with fail
  rw [rounds_succ]
  go_wp2_with fail
  refine (dec8_z _ T3.out (a % 256) _ (by omega) (by omega)).mono ?_
  rintro e w4 ⟨rfl, hf⟩
  have F4 := Lib.hid (F3.out.new0 hf)
  clear hf
  generalize decDigits (a % 256) = d4 at *
  have q5 : ¬ 9223372036854775807 < 1 + d4.length := by omega
  have q6 : ¬ 9223372036854775807 < d1.length + (1 + d2.length) + (1 + d3.length) + (1 + d4.length) := by omega
  go_wp2_with fail
  rw [rounds_succ]
  go_wp2
  go_ret
  refine ⟨ret_str ?_, F4.out⟩
  rw [hD.out]
  show ((⟨d1.toArray⟩ ++ (⟨[46].toArray⟩ ++ ⟨d2.toArray⟩)) ++ (⟨[46].toArray⟩ ++ ⟨d3.toArray⟩)) ++ (⟨[46].toArray⟩ ++ ⟨d4.toArray⟩) = (⟨_⟩ : ByteArray)
  rw [app_list, app_list, app_list, app_list, app_list, app_list]
  simp

theorem str_eta (s : ByteArray) : (⟨s.data.toList.toArray⟩ : ByteArray) = s := rfl

/-- What Read answers. -/
def readV (l : List UInt8) : Value := match readOf l with
  | none => .tuple #[.int .u32 0, .int .i64 30]
  | some a => .tuple #[.int .u32 (a : Int), .int .i64 0]

theorem cut_sz {s : ByteArray} {c : UInt8} {a b : List UInt8} {f : Bool} (h : cutB c s.data.toList = (a, b, f)) (hs : s.size ≤ 9223372036854775807) : a.length ≤ 9223372036854775807 ∧ b.length ≤ 9223372036854775807 := by
  have h1 := cutB_len c s.data.toList
  rw [h] at h1
  have h2 : s.data.toList.length = s.size := by simp
  exact ⟨by have := h1.1; simp only at this; omega, by have := h1.2; simp only at this; omega⟩
theorem cut_sz' {l : List UInt8} {c : UInt8} {a b : List UInt8} {f : Bool} (h : cutB c l = (a, b, f)) (hs : l.length ≤ 9223372036854775807) : a.length ≤ 9223372036854775807 ∧ b.length ≤ 9223372036854775807 := by
  have h1 := cutB_len c l
  rw [h] at h1
  exact ⟨by have := h1.1; simp only at this; omega, by have := h1.2; simp only at this; omega⟩

theorem cut_l (l : List UInt8) (c : UInt8) (w : World) (hs : l.length ≤ 9223372036854775807) {a b : List UInt8} {f : Bool} (h : cutB c l = (a, b, f)) :
    Calls Tryd.prog 54 #[.string ⟨l.toArray⟩, .string ⟨#[c]⟩] w fun e w' => e = .returned (.tuple #[.string ⟨a.toArray⟩, .string ⟨b.toArray⟩, .bool f]) ∧ ∃ n, w' = w.drewN n := by
  have h1 := cut_any ⟨l.toArray⟩ c w (by simpa [ByteArray.size] using hs)
  have e : (⟨l.toArray⟩ : ByteArray).data.toList = l := rfl
  rw [e, h] at h1
  exact h1
theorem num8_l (l : List UInt8) (w : World) (hs : l.length ≤ 9223372036854775807) : Calls Tryd.prog 55 #[.string ⟨l.toArray⟩] w (NumEnds .u8 255 l w) := num8_any ⟨l.toArray⟩ w (by simpa [ByteArray.size] using hs)
theorem num16_l (l : List UInt8) (w : World) (hs : l.length ≤ 9223372036854775807) : Calls Tryd.prog 61 #[.string ⟨l.toArray⟩] w (NumEnds .u16 65535 l w) := num16_any ⟨l.toArray⟩ w (by simpa [ByteArray.size] using hs)

end Go.Proofs.YtknmnlbgjpbgiaaDoor
