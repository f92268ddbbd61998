/-
  IpWrong: bytes that are wrong are rejected by Read, Hop and Turn.
-/
import Derived.Test.YtcclneaabnpbkaaWg
import Derived.Test.YtcclneaabnpbkaaHc
namespace Go.Proofs.Ytcclneaabnpbkaa
open Go.RowKit
attribute [local go_sem] undef

noncomputable def B11 : Code := Try.f11.body.getD .skip

def pickN (x : Int) (m : Nat) : Nat := (x % (m : Int)).toNat
theorem pickN_lt (x : Int) (m : Nat) (h : 1 ≤ m) : pickN x m < m := by
  unfold pickN
  have h1 := Int.emod_nonneg x (b := (m : Int)) (by omega)
  have h2 := Int.emod_lt_of_pos x (b := (m : Int)) (by omega)
  omega
theorem pickN_val (x : Int) (m : Nat) (h : 1 ≤ m) : (pickN x m : Int) = if x.tmod m < 0 then x.tmod m + m else x.tmod m := by
  unfold pickN
  have h1 := Int.emod_nonneg x (b := (m : Int)) (by omega)
  have h2 := Int.emod_lt_of_pos x (b := (m : Int)) (by omega)
  have he := Int.emod_eq_tmod (a := x) (b := (m : Int))
  rw [Int.toNat_of_nonneg h1]
  by_cases hc : 0 ≤ x ∨ (m : Int) ∣ x
  · rw [if_pos hc] at he
    rw [if_neg (by omega)]
    omega
  · rw [if_neg hc, show ((m : Int).natAbs : Int) = m from by omega] at he
    rw [if_pos (by omega)]
    omega

theorem pick_any (w : World) (x : Int) (m : Nat) (h : 1 ≤ m) (hm : m ≤ 1000) :
    Calls Try.prog 27 #[.int .i64 x, .int .i64 (m : Int)] w fun e w' => e = .returned (.int .i64 (pickN x m : Int)) ∧ w = w' := by
  have hv := pickN_val x m h
  obtain ⟨k, hk⟩ : ∃ k, pickN x m = k := ⟨_, rfl⟩
  rw [hk] at hv ⊢
  have hlt := pickN_lt x m h
  rw [hk] at hlt
  obtain ⟨r, hr⟩ : ∃ r, x.tmod m = r := ⟨_, rfl⟩
  rw [hr] at hv
  have g1 : ¬ (m : Int) < 1 := by omega
  have g2 : ¬ (m : Int) = 0 := by omega
  by_cases hr0 : r < 0
  · rw [if_pos hr0] at hv
    have e1 : IntKind.i64.wrap (r + (m : Int)) = (k : Int) := by rw [IntWalk.i64_in] <;> omega
    clear hk hlt h hv
    go_enter Try.func27, Try.ntmps27
    go_wp2_with fail
    go_ret
    exact ⟨rfl, rfl⟩
  · rw [if_neg hr0] at hv
    subst hv
    clear hk hlt h
    go_enter Try.func27, Try.ntmps27
    go_wp2_with fail
    go_ret
    exact ⟨rfl, rfl⟩

theorem same_zero2 (w : World) : Calls Try.prog 23 #[.agg #[.int .u8 0, .int .u16 0, .bool false, .bool false, .int .i64 0, .int .u8 0, .int .u8 0, .int .u32 0, .int .u32 0, .slice none 0 0], .agg #[.int .u8 0, .int .u16 0, .bool false, .bool false, .int .i64 0, .int .u8 0, .int .u8 0, .int .u32 0, .int .u32 0, .slice none 0 0]] w (BoolNo true w) :=
  same_yes w 0 0 0 0 0 0 0 false false none none 0 0 0 [] rfl (Rds.nil _ _) (Rds.nil _ _) (by omega)

set_option maxRecDepth 100000 in
set_option maxHeartbeats 4000000 in
theorem wrong_e (w W : World) (u0 u1 u2 u3 u4 u5 u6 u7 u8 u10 u11 u12 u13 u14 u16 u17 u18 u19 u20 u21 u22 u23 u24 u25 u26 u27 u28 u29 u30 u31 u32 u33 u34 u35 u36 u37 u38 u39 u40 u41 u42 u43 u44 u45 u46 u47 u48 u49 u50 u51 u52 u53 u54 u55 u56 u57 u58 u59 u60 u61 u62 u63 u64 u65 u66 u67 u68 u69 u70 u71 u72 u73 u74 u75 u76 u77 u78 u79 u80 u81 u82 u83 u84 u85 u86 u87 u88 u89 u90 u91 u92 u93 u94 u95 u96 u97 u98 u99 u100 u101 u102 u103 u104 u105 u106 u107 u108 u109 u110 u111 u112 u113 u114 u115 u116 u117 u118 u119 u120 u121 u122 u123 u124 u125 u126 u127 u128 u129 u130 u131 u132 u133 u134 u135 u136 u137 u138 u139 u140 u141 u142 u143 u144 u145 u146 u147 u148 u149 u150 u151 u152 u153 u154 u155 u156 u157 u158 u159 u160 u161 u162 u163 u164 u165 u166 u167 u168 u169 u170 u171 u172 u173 u174 u175 u176 u177 u178 u179 u180 u181 u182 u183 u184 u185 u186 u187 u188 u189 u190 u191 u192 u193 u194 u195 u196 u197 u198 u199 u200 u201 u202 u203 u204 u205 u206 u207 u208 u209 u210 u211 u212 u213 u214 u215 u216 u217 u218 u219 u220 u221 u222 u223 u224 u225 u226 u227 u228 u229 u230 u231 u232 u233 u234 u235 : Value) (A : Option Addr) (m c q : Nat) (bs : List UInt8) (K : Act → World → Prop)
    (hK : ∀ a W, Code.wp Try.prog (dropS 10 B11) (bodyPost Try.prog Try.f11 (BoolNo true w)) a W → K a W)
    (hm : bs.length = m) (hc : m ≤ c) (h4 : m ≤ 300) (hq : faultB bs = q) (hq0 : q ≠ 0) (F0 : Frm No w W) (R0 : Rds W A bs) :
    Code.wp Try.prog (headS (dropS 9 B11)) (Exit.then K (bodyPost Try.prog Try.f11 (BoolNo true w))) ⟨#[u0, u1, u2, u3, u4, u5, u6, u7, u8, .slice A m c, u10, u11, u12, u13, u14, .int .i64 (q : Int), u16, u17, u18, u19, u20, u21, u22, u23, u24, u25, u26, u27, u28, u29, u30, u31, u32, u33, u34, u35, u36, u37, u38, u39, u40, u41, u42, u43, u44, u45, u46, u47, u48, u49, u50, u51, u52, u53, u54, u55, u56, u57, u58, u59, u60, u61, u62, u63, u64, u65, u66, u67, u68, u69, u70, u71, u72, u73, u74, u75, u76, u77, u78, u79, u80, u81, u82, u83, u84, u85, u86, u87, u88, u89, u90, u91, u92, u93, u94, u95, u96, u97, u98, u99, u100, u101, u102, u103, u104, u105, u106, u107, u108, u109, u110, u111, u112, u113, u114, u115, u116, u117, u118, u119, u120, u121, u122, u123, u124, u125, u126, u127, u128, u129, u130, u131, u132, u133, u134, u135, u136, u137, u138, u139, u140, u141, u142, u143, u144, u145, u146, u147, u148, u149, u150, u151, u152, u153, u154, u155, u156, u157, u158, u159, u160, u161, u162, u163, u164, u165, u166, u167, u168, u169, u170, u171, u172, u173, u174, u175, u176, u177, u178, u179, u180, u181, u182, u183, u184, u185, u186, u187, u188, u189, u190, u191, u192, u193, u194, u195, u196, u197, u198, u199, u200, u201, u202, u203, u204, u205, u206, u207, u208, u209, u210, u211, u212, u213, u214, u215, u216, u217, u218, u219, u220, u221, u222, u223, u224, u225, u226, u227, u228, u229, u230, u231, u232, u233, u234, u235], []⟩ W := by
  have HR := Lib.hid (fun W' (hf : Frm No W W') => read_bad W' A m c bs hm hc (by omega) (R0.frm hf (fun _ _ x => x)) q q rfl hq hq0)
  have HH := Lib.hid (fun W' (hf : Frm No W W') => hop_bad W' A m c bs hm hc (by omega) (R0.frm hf (fun _ _ x => x)) q hq hq0)
  have HT := Lib.hid (fun W' (hf : Frm No W W') => turn_bad W' A m c bs hm hc (by omega) (R0.frm hf (fun _ _ x => x)) q hq hq0)
  have F := Lib.hid F0
  have HK := Lib.hid hK
  have hqq : ((q : Int) == (q : Int)) = true := by simp
  clear F0 R0 hq hq0 hm hK
  conv => arg 2; whnf
  go_wp2_with fail
  refine (HR.out W (Frm.refl No W)).mono ?_
  rintro e w1 ⟨rfl, hf⟩
  obtain ⟨W1, hW1⟩ : ∃ W, W = w1.alloc (.cells #[.int .u8 0, .int .u16 0, .bool false, .bool false, .int .i64 0, .int .u8 0, .int .u8 0, .int .u32 0, .int .u32 0, .slice none 0 0] 28) := ⟨_, rfl⟩
  have f1 : Hid (Frm No W W1) := by show Frm No W W1; rw [hW1]; exact hf.alloc _
  have B1 : Hid (Blk W1 w1.heap.size 28 #[.int .u8 0, .int .u16 0, .bool false, .bool false, .int .i64 0, .int .u8 0, .int .u8 0, .int .u32 0, .int .u32 0, .slice none 0 0]) := by show Blk W1 _ _ _; rw [hW1]; exact Blk.new w1 28 _
  obtain ⟨tb, htb⟩ : ∃ b, b = w1.heap.size := ⟨_, rfl⟩
  go_wp2_with fail
  rw [← hW1]
  rw [← htb] at B1 ⊢
  clear hf hW1 htb HR
  have hKK := HK.out
  refine hKK _ _ ?_
  clear hKK HK
  conv => arg 2; whnf
  go_wp2_with fail
  refine (HH.out W1 f1.out).mono ?_
  rintro e w2 ⟨rfl, hf⟩
  have f2 := Lib.hid (f1.out.new0 hf)
  have B2 := Lib.hid (B1.out.frm hf (fun x => x))
  clear hf f1 B1 HH
  go_wp2_with fail
  refine (HT.out w2 f2.out).mono ?_
  rintro e w3 ⟨rfl, hf⟩
  have f3 := Lib.hid (f2.out.new0 hf)
  have B3 := Lib.hid (B2.out.frm hf (fun x => x))
  clear hf f2 B2 HT
  obtain ⟨b0, b1, b2, b3, b4, b5, b6, b7, b8, b9⟩ := blk10 B3.out
  go_wp2_with fail
  refine (same_zero2 _).mono ?_
  rintro e w4 ⟨rfl, hf⟩
  have F4 := Lib.hid ((F.out.new0 f3.out).new0 hf)
  clear hf b0 b1 b2 b3 b4 b5 b6 b7 b8 b9
  go_wp2_with fail
  go_ret
  exact ⟨rfl, F4.out⟩
end Go.Proofs.Ytcclneaabnpbkaa
