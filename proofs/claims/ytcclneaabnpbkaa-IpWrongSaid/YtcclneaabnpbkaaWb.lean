/-
  IpWrong: the six ways to make a packet's bytes wrong.
-/
import Derived.Test.YtcclneaabnpbkaaWa
import Derived.StillTailTactics
namespace Go.Proofs.Ytcclneaabnpbkaa
open Go.RowKit
attribute [local go_sem] undef

theorem cellD {w : World} {base g n c : Nat} {bs : List UInt8} (h : Row w base g n c bs) (k : Nat) (hk : k < n) : w.cell? ⟨g, k, none⟩ = some (.int .u8 ((bs.getD k 0).toNat : Int)) := by
  have hl := h.len
  rw [getD_at (by omega)]
  exact h.cell k (by omega)
theorem flip_bits3 (b v : UInt8) (r : Nat) (hr : r < 8) (hv : v.toNat = b.toNat ^^^ 2 ^ r) : ∃ sh : Nat, IntKind.u8.wrap (1 * 2 ^ r) = (sh : Int) ∧ bits .xor .u8 (b.toNat : Int) (sh : Int) = (v.toNat : Int) := by
  have hl : (2 : Nat) ^ r < 2 ^ 8 := Nat.pow_lt_pow_right (by omega) hr
  have e : ((1 : Int) * 2 ^ r) = ((2 ^ r : Nat) : Int) := by simp
  rw [e]
  obtain ⟨p, hp⟩ : ∃ p, 2 ^ r = p := ⟨_, rfl⟩
  rw [hp] at hl hv ⊢
  refine ⟨p, ?_, ?_⟩
  · have e2 : IntKind.u8.wrap (p : Int) = (p : Int) % 256 := rfl
    rw [e2]
    omega
  · rw [u8_xor_nat _ _ b.toNat_lt (by omega), hv]

set_option maxRecDepth 100000 in
set_option maxHeartbeats 4000000 in
theorem wrong_6 (w W : World) (u0 u3 u4 u5 u6 u10 u12 u13 u14 u15 u16 u17 u18 u19 u20 u21 u22 u23 u24 u25 u26 u27 u28 u29 u30 u31 u32 u33 u34 u35 u36 u37 u38 u39 u40 u41 u42 u43 u44 u45 u46 u47 u48 u49 u50 u51 u52 u53 u54 u55 u56 u57 u58 u59 u60 u61 u62 u63 u64 u65 u66 u67 u68 u69 u70 u71 u72 u73 u74 u75 u76 u77 u78 u79 u80 u81 u82 u83 u84 u85 u86 u87 u88 u89 u90 u91 u92 u93 u94 u95 u96 u97 u98 u99 u100 u101 u102 u103 u104 u105 u106 u107 u108 u109 u110 u111 u112 u113 u114 u115 u116 u117 u118 u119 u120 u121 u122 u123 u124 u125 u126 u127 u128 u129 u130 u131 u132 u133 u134 u135 u136 u137 u138 u139 u140 u141 u142 u143 u144 u145 u146 u147 u148 u149 u150 u151 u152 u153 u154 u155 u156 u157 u158 u159 u160 u161 u162 u163 u164 u165 u166 u167 u168 u169 u170 u171 u172 u173 u174 u175 u176 u177 u178 u179 u180 u181 u182 u183 u184 u185 u186 u187 u188 u189 u190 u191 u192 u193 u194 u195 u196 u197 u198 u199 u200 u201 u202 u203 u204 u205 u206 u207 u208 u209 u210 u211 u212 u213 u214 u215 u216 u217 u218 u219 u220 u221 u222 u223 u224 u225 u226 u227 u228 u229 u230 u231 u232 u233 u234 u235 : Value) (way : Nat) (nn : Int) (hb g N c4 z n dc2 base : Nat) (DD : Option Addr) (L : List UInt8) (K : Act → World → Prop)
    (hK : ∀ a W, Code.wp Try.prog (dropS 8 B11) (bodyPost Try.prog Try.f11 (BoolNo true w)) a W → K a W)
    (hj : (way : Int) % 12 = 6) (_hnn : -9223372036854775808 ≤ nn ∧ nn ≤ 9223372036854775807) (nf : NoFault L) (hLL : L.length = N) (hz : sizeAt L = z) (htt : totAt L = N) (hN : N ≤ 300) (hdn : n = N - z) (_hgw : w.heap.size ≤ g) (F0 : Frm No w W) (R0 : Row W base g N c4 L) :
    Code.wp Try.prog (headS (dropS 7 B11)) (Exit.then K (bodyPost Try.prog Try.f11 (BoolNo true w))) ⟨#[u0, .int .u8 (way : Int), .int .i64 nn, u3, u4, u5, u6, .pointer (some ⟨hb, 0, none⟩), .slice DD n dc2, .slice (some ⟨g, 0, none⟩) N c4, u10, .int .i64 (z : Int), u12, u13, u14, u15, u16, u17, u18, u19, u20, u21, u22, u23, u24, u25, u26, u27, u28, u29, u30, u31, u32, u33, u34, u35, u36, u37, u38, u39, u40, u41, u42, u43, u44, u45, u46, u47, u48, u49, u50, u51, u52, u53, u54, u55, u56, u57, u58, u59, u60, u61, u62, u63, u64, u65, u66, u67, u68, u69, u70, u71, u72, u73, u74, u75, u76, u77, u78, u79, u80, u81, u82, u83, u84, u85, u86, u87, u88, u89, u90, u91, u92, u93, u94, u95, u96, u97, u98, u99, u100, u101, u102, u103, u104, u105, u106, u107, u108, u109, u110, u111, u112, u113, u114, u115, u116, u117, u118, u119, u120, u121, u122, u123, u124, u125, u126, u127, u128, u129, u130, u131, u132, u133, u134, u135, u136, u137, u138, u139, u140, u141, u142, u143, u144, u145, u146, u147, u148, u149, u150, u151, u152, u153, u154, u155, u156, u157, u158, u159, u160, u161, u162, u163, u164, u165, u166, u167, u168, u169, u170, u171, u172, u173, u174, u175, u176, u177, u178, u179, u180, u181, u182, u183, u184, u185, u186, u187, u188, u189, u190, u191, u192, u193, u194, u195, u196, u197, u198, u199, u200, u201, u202, u203, u204, u205, u206, u207, u208, u209, u210, u211, u212, u213, u214, u215, u216, u217, u218, u219, u220, u221, u222, u223, u224, u225, u226, u227, u228, u229, u230, u231, u232, u233, u234, u235], []⟩ W := by
  have hs := nf.sizes
  rw [hz, htt, hLL] at hs
  have hc4 : N ≤ c4 := R0.cap.1
  have HL := Lib.hid hLL
  have HZ := Lib.hid hz
  have HTT := Lib.hid htt
  have HNF := Lib.hid nf
  have F := Lib.hid F0
  have R := Lib.hid R0
  have HK := Lib.hid hK
  have HDN := Lib.hid hdn
  have n20 : 20 ≤ N := by omega
  have z20 : 20 ≤ z := by omega
  have zN : z ≤ N := by omega
  have HP := Lib.hid (fun W' => pick_any W' nn 20 (by decide) (by omega))
  have hkl := pickN_lt nn 20 (by decide)
  obtain ⟨k, hk⟩ : ∃ k, pickN nn 20 = k := ⟨_, rfl⟩
  rw [hk] at HP hkl
  have m1 : (0 : Int) ≤ k := by omega
  have m2 : (k : Int) ≤ c4 := by omega
  clear F0 R0 hK hLL hz htt nf hs hdn _hnn _hgw hk
  conv => arg 2; whnf
  go_wp2_with fail
  have hKK := HK.out
  refine hKK _ _ ?_
  clear hKK HK
  conv => arg 2; whnf
  go_wp2_with fail
  refine (HP.out _).mono ?_
  rintro e w' ⟨rfl, rfl⟩
  go_upto_region 41 with fail
  exact wrong_e w W _ _ _ _ _ _ _ _ _ _ _ _ _ _ _ _ _ _ _ _ _ _ _ _ _ _ _ _ _ _ _ _ _ _ _ _ _ _ _ _ _ _ _ _ _ _ _ _ _ _ _ _ _ _ _ _ _ _ _ _ _ _ _ _ _ _ _ _ _ _ _ _ _ _ _ _ _ _ _ _ _ _ _ _ _ _ _ _ _ _ _ _ _ _ _ _ _ _ _ _ _ _ _ _ _ _ _ _ _ _ _ _ _ _ _ _ _ _ _ _ _ _ _ _ _ _ _ _ _ _ _ _ _ _ _ _ _ _ _ _ _ _ _ _ _ _ _ _ _ _ _ _ _ _ _ _ _ _ _ _ _ _ _ _ _ _ _ _ _ _ _ _ _ _ _ _ _ _ _ _ _ _ _ _ _ _ _ _ _ _ _ _ _ _ _ _ _ _ _ _ _ _ _ _ _ _ _ _ _ _ _ _ _ _ _ _ _ _ _ _ _ _ _ _ _ _ _ _ _ _ _ _ _ _ (some ⟨g, 0, none⟩) k c4 50 (L.take k) _ (by assumption) (by rw [List.length_take, HL.out]; omega) (by omega) (by omega) (wrong_short _ (by rw [List.length_take]; omega)) (by decide) F.out (R.out.rds.take k)

set_option maxRecDepth 100000 in
set_option maxHeartbeats 4000000 in
theorem wrong_7 (w W : World) (u0 u3 u4 u5 u6 u10 u12 u13 u14 u15 u16 u17 u18 u19 u20 u21 u22 u23 u24 u25 u26 u27 u28 u29 u30 u31 u32 u33 u34 u35 u36 u37 u38 u39 u40 u41 u42 u43 u44 u45 u46 u47 u48 u49 u50 u51 u52 u53 u54 u55 u56 u57 u58 u59 u60 u61 u62 u63 u64 u65 u66 u67 u68 u69 u70 u71 u72 u73 u74 u75 u76 u77 u78 u79 u80 u81 u82 u83 u84 u85 u86 u87 u88 u89 u90 u91 u92 u93 u94 u95 u96 u97 u98 u99 u100 u101 u102 u103 u104 u105 u106 u107 u108 u109 u110 u111 u112 u113 u114 u115 u116 u117 u118 u119 u120 u121 u122 u123 u124 u125 u126 u127 u128 u129 u130 u131 u132 u133 u134 u135 u136 u137 u138 u139 u140 u141 u142 u143 u144 u145 u146 u147 u148 u149 u150 u151 u152 u153 u154 u155 u156 u157 u158 u159 u160 u161 u162 u163 u164 u165 u166 u167 u168 u169 u170 u171 u172 u173 u174 u175 u176 u177 u178 u179 u180 u181 u182 u183 u184 u185 u186 u187 u188 u189 u190 u191 u192 u193 u194 u195 u196 u197 u198 u199 u200 u201 u202 u203 u204 u205 u206 u207 u208 u209 u210 u211 u212 u213 u214 u215 u216 u217 u218 u219 u220 u221 u222 u223 u224 u225 u226 u227 u228 u229 u230 u231 u232 u233 u234 u235 : Value) (way : Nat) (nn : Int) (hb g N c4 z n dc2 base : Nat) (DD : Option Addr) (L : List UInt8) (K : Act → World → Prop)
    (hK : ∀ a W, Code.wp Try.prog (dropS 8 B11) (bodyPost Try.prog Try.f11 (BoolNo true w)) a W → K a W)
    (hj : (way : Int) % 12 = 7) (_hnn : -9223372036854775808 ≤ nn ∧ nn ≤ 9223372036854775807) (nf : NoFault L) (hLL : L.length = N) (hz : sizeAt L = z) (htt : totAt L = N) (hN : N ≤ 300) (hdn : n = N - z) (_hgw : w.heap.size ≤ g) (F0 : Frm No w W) (R0 : Row W base g N c4 L) :
    Code.wp Try.prog (headS (dropS 7 B11)) (Exit.then K (bodyPost Try.prog Try.f11 (BoolNo true w))) ⟨#[u0, .int .u8 (way : Int), .int .i64 nn, u3, u4, u5, u6, .pointer (some ⟨hb, 0, none⟩), .slice DD n dc2, .slice (some ⟨g, 0, none⟩) N c4, u10, .int .i64 (z : Int), u12, u13, u14, u15, u16, u17, u18, u19, u20, u21, u22, u23, u24, u25, u26, u27, u28, u29, u30, u31, u32, u33, u34, u35, u36, u37, u38, u39, u40, u41, u42, u43, u44, u45, u46, u47, u48, u49, u50, u51, u52, u53, u54, u55, u56, u57, u58, u59, u60, u61, u62, u63, u64, u65, u66, u67, u68, u69, u70, u71, u72, u73, u74, u75, u76, u77, u78, u79, u80, u81, u82, u83, u84, u85, u86, u87, u88, u89, u90, u91, u92, u93, u94, u95, u96, u97, u98, u99, u100, u101, u102, u103, u104, u105, u106, u107, u108, u109, u110, u111, u112, u113, u114, u115, u116, u117, u118, u119, u120, u121, u122, u123, u124, u125, u126, u127, u128, u129, u130, u131, u132, u133, u134, u135, u136, u137, u138, u139, u140, u141, u142, u143, u144, u145, u146, u147, u148, u149, u150, u151, u152, u153, u154, u155, u156, u157, u158, u159, u160, u161, u162, u163, u164, u165, u166, u167, u168, u169, u170, u171, u172, u173, u174, u175, u176, u177, u178, u179, u180, u181, u182, u183, u184, u185, u186, u187, u188, u189, u190, u191, u192, u193, u194, u195, u196, u197, u198, u199, u200, u201, u202, u203, u204, u205, u206, u207, u208, u209, u210, u211, u212, u213, u214, u215, u216, u217, u218, u219, u220, u221, u222, u223, u224, u225, u226, u227, u228, u229, u230, u231, u232, u233, u234, u235], []⟩ W := by
  have hs := nf.sizes
  rw [hz, htt, hLL] at hs
  have hc4 : N ≤ c4 := R0.cap.1
  have HL := Lib.hid hLL
  have HZ := Lib.hid hz
  have HTT := Lib.hid htt
  have HNF := Lib.hid nf
  have F := Lib.hid F0
  have R := Lib.hid R0
  have HK := Lib.hid hK
  have HDN := Lib.hid hdn
  have n20 : 20 ≤ N := by omega
  have z20 : 20 ≤ z := by omega
  have zN : z ≤ N := by omega
  have HP := Lib.hid (fun W' => pick_any W' nn 4 (by decide) (by omega))
  have hkl := pickN_lt nn 4 (by decide)
  obtain ⟨k, hk⟩ : ∃ k, pickN nn 4 = k := ⟨_, rfl⟩
  rw [hk] at HP hkl
  have hq1 : (L.getD 0 0).toNat / 16 = 4 := by have h2 := HNF.out.h2; unfold q2 byteAt at h2; simpa using h2
  have hcell := (R.out.cell 0 (by rw [HL.out]; omega)).trans (by rw [← getD_at (by rw [HL.out]; omega)]; rfl : some (byt (L[0]'(by rw [HL.out]; omega))) = some (.int .u8 ((L.getD 0 0).toNat : Int)))
  obtain ⟨b, hb0⟩ : ∃ b, L.getD 0 0 = b := ⟨_, rfl⟩
  rw [hb0] at hq1 hcell
  have hv := flipB_nat b (k + 4) (by omega)
  have hv2 := bit_version (b.toNat - 64) (by omega) (k + 4) (by omega) (by omega)
  rw [show 64 + (b.toNat - 64) = b.toNat by omega, ← hv] at hv2
  obtain ⟨v, hvv⟩ : ∃ v, flipB b (k + 4) = v := ⟨_, rfl⟩
  rw [hvv] at hv hv2
  obtain ⟨sh, hs1, hX⟩ := flip_bits3 b v (k + 4) (by omega) hv
  have hs2 : IntKind.u8.wrap (16 * 2 ^ k) = (sh : Int) := by rw [← hs1, Int.one_mul, Int.pow_add, Int.mul_comm]; rfl
  have hfz : W.frozen? ⟨g, 0, none⟩ = false := R.out.frozen 0
  have j0 : 0 < N := by omega
  have j1 : (0 : Int) < N := by omega
  have j3 : (k : Int) ≤ 8 := by omega
  have j4 : (0 : Int) ≤ k := by omega
  have HV := Lib.hid hv2
  have w2 : IntKind.u8.wrap (k : Int) = k := by have e : IntKind.u8.wrap (k : Int) = (k : Int) % 256 := rfl; rw [e]; omega
  have HGW := Lib.hid _hgw
  clear F0 R0 hK hLL hz htt nf hs hdn _hnn _hgw hk hb0 hv hvv hv2 hs1 hq1
  conv => arg 2; whnf
  go_wp2_with fail
  have hKK := HK.out
  refine hKK _ _ ?_
  clear hKK HK
  conv => arg 2; whnf
  go_upto_region 30 with fail
  go_still_tail 9, (by kernel_rfl)
  still_call ((HP.out _).mono fun _ _ ⟨h1, h2⟩ => ⟨h1, h2.symm⟩)
  repeat still_step
  refine wpStill_nil ?_
  obtain ⟨W1, hW1⟩ : ∃ W1, W1 = (W.setCell ⟨g, 0, none⟩ (.int .u8 (v.toNat : Int))).drew := ⟨_, rfl⟩
  have F1 : Hid (Frm No w W1) := by show Frm No w W1; rw [hW1]; exact (F.out.setCell (p := ⟨g, 0, none⟩) (fun h => absurd h (by show ¬ g < _; have := HGW.out; omega)) _).drew
  have R1 : Hid (Row W1 base g N c4 (L.set 0 v)) := by show Row W1 _ _ _ _ _; rw [hW1]; exact R.out.set 0 v _ rfl
  go_upto_region 41 with fail
  rw [← hW1]
  exact wrong_e w W1 _ _ _ _ _ _ _ _ _ _ _ _ _ _ _ _ _ _ _ _ _ _ _ _ _ _ _ _ _ _ _ _ _ _ _ _ _ _ _ _ _ _ _ _ _ _ _ _ _ _ _ _ _ _ _ _ _ _ _ _ _ _ _ _ _ _ _ _ _ _ _ _ _ _ _ _ _ _ _ _ _ _ _ _ _ _ _ _ _ _ _ _ _ _ _ _ _ _ _ _ _ _ _ _ _ _ _ _ _ _ _ _ _ _ _ _ _ _ _ _ _ _ _ _ _ _ _ _ _ _ _ _ _ _ _ _ _ _ _ _ _ _ _ _ _ _ _ _ _ _ _ _ _ _ _ _ _ _ _ _ _ _ _ _ _ _ _ _ _ _ _ _ _ _ _ _ _ _ _ _ _ _ _ _ _ _ _ _ _ _ _ _ _ _ _ _ _ _ _ _ _ _ _ _ _ _ _ _ _ _ _ _ _ _ _ _ _ _ _ _ _ _ _ _ _ _ _ _ _ _ _ _ _ _ (some ⟨g, 0, none⟩) N c4 51 (L.set 0 v) _ (by assumption) (by rw [List.length_set]; exact HL.out) hc4 (by omega) (flip_version _ HNF.out v HV.out) (by decide) F1.out R1.out.rds


set_option maxRecDepth 100000 in
set_option maxHeartbeats 4000000 in
theorem wrong_8 (w W : World) (u0 u3 u4 u5 u6 u10 u12 u13 u14 u15 u16 u17 u18 u19 u20 u21 u22 u23 u24 u25 u26 u27 u28 u29 u30 u31 u32 u33 u34 u35 u36 u37 u38 u39 u40 u41 u42 u43 u44 u45 u46 u47 u48 u49 u50 u51 u52 u53 u54 u55 u56 u57 u58 u59 u60 u61 u62 u63 u64 u65 u66 u67 u68 u69 u70 u71 u72 u73 u74 u75 u76 u77 u78 u79 u80 u81 u82 u83 u84 u85 u86 u87 u88 u89 u90 u91 u92 u93 u94 u95 u96 u97 u98 u99 u100 u101 u102 u103 u104 u105 u106 u107 u108 u109 u110 u111 u112 u113 u114 u115 u116 u117 u118 u119 u120 u121 u122 u123 u124 u125 u126 u127 u128 u129 u130 u131 u132 u133 u134 u135 u136 u137 u138 u139 u140 u141 u142 u143 u144 u145 u146 u147 u148 u149 u150 u151 u152 u153 u154 u155 u156 u157 u158 u159 u160 u161 u162 u163 u164 u165 u166 u167 u168 u169 u170 u171 u172 u173 u174 u175 u176 u177 u178 u179 u180 u181 u182 u183 u184 u185 u186 u187 u188 u189 u190 u191 u192 u193 u194 u195 u196 u197 u198 u199 u200 u201 u202 u203 u204 u205 u206 u207 u208 u209 u210 u211 u212 u213 u214 u215 u216 u217 u218 u219 u220 u221 u222 u223 u224 u225 u226 u227 u228 u229 u230 u231 u232 u233 u234 u235 : Value) (way : Nat) (nn : Int) (hb g N c4 z n dc2 base : Nat) (DD : Option Addr) (L : List UInt8) (K : Act → World → Prop)
    (hK : ∀ a W, Code.wp Try.prog (dropS 8 B11) (bodyPost Try.prog Try.f11 (BoolNo true w)) a W → K a W)
    (hj : (way : Int) % 12 = 8) (_hnn : -9223372036854775808 ≤ nn ∧ nn ≤ 9223372036854775807) (nf : NoFault L) (hLL : L.length = N) (hz : sizeAt L = z) (htt : totAt L = N) (hN : N ≤ 300) (hdn : n = N - z) (_hgw : w.heap.size ≤ g) (F0 : Frm No w W) (R0 : Row W base g N c4 L) :
    Code.wp Try.prog (headS (dropS 7 B11)) (Exit.then K (bodyPost Try.prog Try.f11 (BoolNo true w))) ⟨#[u0, .int .u8 (way : Int), .int .i64 nn, u3, u4, u5, u6, .pointer (some ⟨hb, 0, none⟩), .slice DD n dc2, .slice (some ⟨g, 0, none⟩) N c4, u10, .int .i64 (z : Int), u12, u13, u14, u15, u16, u17, u18, u19, u20, u21, u22, u23, u24, u25, u26, u27, u28, u29, u30, u31, u32, u33, u34, u35, u36, u37, u38, u39, u40, u41, u42, u43, u44, u45, u46, u47, u48, u49, u50, u51, u52, u53, u54, u55, u56, u57, u58, u59, u60, u61, u62, u63, u64, u65, u66, u67, u68, u69, u70, u71, u72, u73, u74, u75, u76, u77, u78, u79, u80, u81, u82, u83, u84, u85, u86, u87, u88, u89, u90, u91, u92, u93, u94, u95, u96, u97, u98, u99, u100, u101, u102, u103, u104, u105, u106, u107, u108, u109, u110, u111, u112, u113, u114, u115, u116, u117, u118, u119, u120, u121, u122, u123, u124, u125, u126, u127, u128, u129, u130, u131, u132, u133, u134, u135, u136, u137, u138, u139, u140, u141, u142, u143, u144, u145, u146, u147, u148, u149, u150, u151, u152, u153, u154, u155, u156, u157, u158, u159, u160, u161, u162, u163, u164, u165, u166, u167, u168, u169, u170, u171, u172, u173, u174, u175, u176, u177, u178, u179, u180, u181, u182, u183, u184, u185, u186, u187, u188, u189, u190, u191, u192, u193, u194, u195, u196, u197, u198, u199, u200, u201, u202, u203, u204, u205, u206, u207, u208, u209, u210, u211, u212, u213, u214, u215, u216, u217, u218, u219, u220, u221, u222, u223, u224, u225, u226, u227, u228, u229, u230, u231, u232, u233, u234, u235], []⟩ W := by
  have hs := nf.sizes
  rw [hz, htt, hLL] at hs
  have hc4 : N ≤ c4 := R0.cap.1
  have HL := Lib.hid hLL
  have HZ := Lib.hid hz
  have HTT := Lib.hid htt
  have HNF := Lib.hid nf
  have F := Lib.hid F0
  have R := Lib.hid R0
  have HK := Lib.hid hK
  have HDN := Lib.hid hdn
  have n20 : 20 ≤ N := by omega
  have z20 : 20 ≤ z := by omega
  have zN : z ≤ N := by omega
  have HP := Lib.hid (fun W' => pick_any W' nn 5 (by decide) (by omega))
  have hkl := pickN_lt nn 5 (by decide)
  obtain ⟨k, hk⟩ : ∃ k, pickN nn 5 = k := ⟨_, rfl⟩
  rw [hk] at HP hkl
  have hor := u8_or_nat 64 k (by decide) (by omega)
  have h64 : 64 ||| k = 64 + k := by
    have h5 : k = 0 ∨ k = 1 ∨ k = 2 ∨ k = 3 ∨ k = 4 := by omega
    rcases h5 with rfl | rfl | rfl | rfl | rfl <;> decide
  rw [h64] at hor
  have hv : (UInt8.ofNat (64 + k)).toNat = 64 + k := toN _ (by omega)
  obtain ⟨v, hvv⟩ : ∃ v, UInt8.ofNat (64 + k) = v := ⟨_, rfl⟩
  rw [hvv] at hv
  rw [← hv] at hor
  have hor2 : bits .or .u8 64 (k : Int) = (v.toNat : Int) := hor
  have HV := Lib.hid hv
  have hfz : W.frozen? ⟨g, 0, none⟩ = false := R.out.frozen 0
  have hcell := cellD R.out 0 (by omega)
  have j0 : 0 < N := by omega
  have j1 : (0 : Int) < N := by omega
  have w2 : IntKind.u8.wrap (k : Int) = k := by have e : IntKind.u8.wrap (k : Int) = (k : Int) % 256 := rfl; rw [e]; omega
  obtain ⟨W1, hW1⟩ : ∃ W1, W1 = W.setCell ⟨g, 0, none⟩ (.int .u8 (v.toNat : Int)) := ⟨_, rfl⟩
  have F1 : Hid (Frm No w W1) := by show Frm No w W1; rw [hW1]; exact F.out.setCell (p := ⟨g, 0, none⟩) (fun h => absurd h (by show ¬ g < _; omega)) _
  have R1 : Hid (Row W1 base g N c4 (L.set 0 v)) := by show Row W1 _ _ _ _ _; rw [hW1]; exact R.out.set 0 v _ rfl
  clear F0 R0 hK hLL hz htt nf hs hdn _hnn _hgw hk hv hvv hor h64
  conv => arg 2; whnf
  go_wp2_with fail
  have hKK := HK.out
  refine hKK _ _ ?_
  clear hKK HK
  conv => arg 2; whnf
  go_upto_region 32 with fail
  go_wp2_with fail
  refine (HP.out _).mono ?_
  rintro e w' ⟨rfl, rfl⟩
  go_upto_region 41 with fail
  rw [← hW1]
  exact wrong_e w W1 _ _ _ _ _ _ _ _ _ _ _ _ _ _ _ _ _ _ _ _ _ _ _ _ _ _ _ _ _ _ _ _ _ _ _ _ _ _ _ _ _ _ _ _ _ _ _ _ _ _ _ _ _ _ _ _ _ _ _ _ _ _ _ _ _ _ _ _ _ _ _ _ _ _ _ _ _ _ _ _ _ _ _ _ _ _ _ _ _ _ _ _ _ _ _ _ _ _ _ _ _ _ _ _ _ _ _ _ _ _ _ _ _ _ _ _ _ _ _ _ _ _ _ _ _ _ _ _ _ _ _ _ _ _ _ _ _ _ _ _ _ _ _ _ _ _ _ _ _ _ _ _ _ _ _ _ _ _ _ _ _ _ _ _ _ _ _ _ _ _ _ _ _ _ _ _ _ _ _ _ _ _ _ _ _ _ _ _ _ _ _ _ _ _ _ _ _ _ _ _ _ _ _ _ _ _ _ _ _ _ _ _ _ _ _ _ _ _ _ _ _ _ _ _ _ _ _ _ _ _ _ _ _ _ (some ⟨g, 0, none⟩) N c4 52 (L.set 0 v) _ (by assumption) (by rw [List.length_set]; exact HL.out) hc4 (by omega) (wrong_few _ HNF.out k hkl v HV.out) (by decide) F1.out R1.out.rds


set_option maxRecDepth 100000 in
set_option maxHeartbeats 4000000 in
theorem wrong_9 (w W : World) (u0 u3 u4 u5 u6 u10 u12 u13 u14 u15 u16 u17 u18 u19 u20 u21 u22 u23 u24 u25 u26 u27 u28 u29 u30 u31 u32 u33 u34 u35 u36 u37 u38 u39 u40 u41 u42 u43 u44 u45 u46 u47 u48 u49 u50 u51 u52 u53 u54 u55 u56 u57 u58 u59 u60 u61 u62 u63 u64 u65 u66 u67 u68 u69 u70 u71 u72 u73 u74 u75 u76 u77 u78 u79 u80 u81 u82 u83 u84 u85 u86 u87 u88 u89 u90 u91 u92 u93 u94 u95 u96 u97 u98 u99 u100 u101 u102 u103 u104 u105 u106 u107 u108 u109 u110 u111 u112 u113 u114 u115 u116 u117 u118 u119 u120 u121 u122 u123 u124 u125 u126 u127 u128 u129 u130 u131 u132 u133 u134 u135 u136 u137 u138 u139 u140 u141 u142 u143 u144 u145 u146 u147 u148 u149 u150 u151 u152 u153 u154 u155 u156 u157 u158 u159 u160 u161 u162 u163 u164 u165 u166 u167 u168 u169 u170 u171 u172 u173 u174 u175 u176 u177 u178 u179 u180 u181 u182 u183 u184 u185 u186 u187 u188 u189 u190 u191 u192 u193 u194 u195 u196 u197 u198 u199 u200 u201 u202 u203 u204 u205 u206 u207 u208 u209 u210 u211 u212 u213 u214 u215 u216 u217 u218 u219 u220 u221 u222 u223 u224 u225 u226 u227 u228 u229 u230 u231 u232 u233 u234 u235 : Value) (way : Nat) (nn : Int) (hb g N c4 z n dc2 base : Nat) (DD : Option Addr) (L : List UInt8) (K : Act → World → Prop)
    (hK : ∀ a W, Code.wp Try.prog (dropS 8 B11) (bodyPost Try.prog Try.f11 (BoolNo true w)) a W → K a W)
    (hj : (way : Int) % 12 = 9) (_hnn : -9223372036854775808 ≤ nn ∧ nn ≤ 9223372036854775807) (nf : NoFault L) (hLL : L.length = N) (hz : sizeAt L = z) (htt : totAt L = N) (hN : N ≤ 300) (hdn : n = N - z) (_hgw : w.heap.size ≤ g) (F0 : Frm No w W) (R0 : Row W base g N c4 L) :
    Code.wp Try.prog (headS (dropS 7 B11)) (Exit.then K (bodyPost Try.prog Try.f11 (BoolNo true w))) ⟨#[u0, .int .u8 (way : Int), .int .i64 nn, u3, u4, u5, u6, .pointer (some ⟨hb, 0, none⟩), .slice DD n dc2, .slice (some ⟨g, 0, none⟩) N c4, u10, .int .i64 (z : Int), u12, u13, u14, u15, u16, u17, u18, u19, u20, u21, u22, u23, u24, u25, u26, u27, u28, u29, u30, u31, u32, u33, u34, u35, u36, u37, u38, u39, u40, u41, u42, u43, u44, u45, u46, u47, u48, u49, u50, u51, u52, u53, u54, u55, u56, u57, u58, u59, u60, u61, u62, u63, u64, u65, u66, u67, u68, u69, u70, u71, u72, u73, u74, u75, u76, u77, u78, u79, u80, u81, u82, u83, u84, u85, u86, u87, u88, u89, u90, u91, u92, u93, u94, u95, u96, u97, u98, u99, u100, u101, u102, u103, u104, u105, u106, u107, u108, u109, u110, u111, u112, u113, u114, u115, u116, u117, u118, u119, u120, u121, u122, u123, u124, u125, u126, u127, u128, u129, u130, u131, u132, u133, u134, u135, u136, u137, u138, u139, u140, u141, u142, u143, u144, u145, u146, u147, u148, u149, u150, u151, u152, u153, u154, u155, u156, u157, u158, u159, u160, u161, u162, u163, u164, u165, u166, u167, u168, u169, u170, u171, u172, u173, u174, u175, u176, u177, u178, u179, u180, u181, u182, u183, u184, u185, u186, u187, u188, u189, u190, u191, u192, u193, u194, u195, u196, u197, u198, u199, u200, u201, u202, u203, u204, u205, u206, u207, u208, u209, u210, u211, u212, u213, u214, u215, u216, u217, u218, u219, u220, u221, u222, u223, u224, u225, u226, u227, u228, u229, u230, u231, u232, u233, u234, u235], []⟩ W := by
  have hs := nf.sizes
  rw [hz, htt, hLL] at hs
  have hc4 : N ≤ c4 := R0.cap.1
  have HL := Lib.hid hLL
  have HZ := Lib.hid hz
  have HTT := Lib.hid htt
  have HNF := Lib.hid nf
  have F := Lib.hid F0
  have R := Lib.hid R0
  have HK := Lib.hid hK
  have HDN := Lib.hid hdn
  have n20 : 20 ≤ N := by omega
  have z20 : 20 ≤ z := by omega
  have zN : z ≤ N := by omega
  obtain ⟨M, hM⟩ : ∃ M, M = z - 19 := ⟨_, rfl⟩
  have hMM : IntKind.i64.wrap ((z : Int) - 19) = (M : Int) := by rw [IntWalk.i64_in] <;> omega
  have HP := Lib.hid (fun W' => pick_any W' nn M (by omega) (by omega))
  have hkl := pickN_lt nn M (by omega)
  obtain ⟨k, hk⟩ : ∃ k, pickN nn M = k := ⟨_, rfl⟩
  rw [hk] at HP hkl
  obtain ⟨m, hm⟩ : ∃ m, m = 20 + k := ⟨_, rfl⟩
  have hm2 : IntKind.i64.wrap (20 + (k : Int)) = (m : Int) := by rw [IntWalk.i64_in] <;> omega
  have m1 : (0 : Int) ≤ m := by omega
  have m2 : (m : Int) ≤ c4 := by omega
  have m20 : 20 ≤ m := by omega
  have mz : m ≤ z := by omega
  have HLT := Lib.hid (by rw [List.length_take, HL.out]; omega : (L.take m).length = m)
  clear F0 R0 hK hLL hz htt nf hs hdn _hnn _hgw hk hM hm
  conv => arg 2; whnf
  go_wp2_with fail
  have hKK := HK.out
  refine hKK _ _ ?_
  clear hKK HK
  conv => arg 2; whnf
  go_upto_region 34 with fail
  go_wp2_with fail
  refine (HP.out _).mono ?_
  rintro e w' ⟨rfl, rfl⟩
  go_upto_region 35 with fail
  by_cases hlt : m < z
  · have g1 : (m : Int) < z := by omega
    have g2 : decide (m < z) = true := decide_eq_true hlt
    have HLTT := Lib.hid hlt
    clear hlt
    go_upto_region 41 with fail
    exact wrong_e w W _ _ _ _ _ _ _ _ _ _ _ _ _ _ _ _ _ _ _ _ _ _ _ _ _ _ _ _ _ _ _ _ _ _ _ _ _ _ _ _ _ _ _ _ _ _ _ _ _ _ _ _ _ _ _ _ _ _ _ _ _ _ _ _ _ _ _ _ _ _ _ _ _ _ _ _ _ _ _ _ _ _ _ _ _ _ _ _ _ _ _ _ _ _ _ _ _ _ _ _ _ _ _ _ _ _ _ _ _ _ _ _ _ _ _ _ _ _ _ _ _ _ _ _ _ _ _ _ _ _ _ _ _ _ _ _ _ _ _ _ _ _ _ _ _ _ _ _ _ _ _ _ _ _ _ _ _ _ _ _ _ _ _ _ _ _ _ _ _ _ _ _ _ _ _ _ _ _ _ _ _ _ _ _ _ _ _ _ _ _ _ _ _ _ _ _ _ _ _ _ _ _ _ _ _ _ _ _ _ _ _ _ _ _ _ _ _ _ _ _ _ _ _ _ _ _ _ _ _ _ _ _ _ _ (some ⟨g, 0, none⟩) m c4 52 (L.take m) _ (by assumption) HLT.out (by omega) (by omega) (wrong_cut _ HNF.out m m20 (by rw [HZ.out]; exact HLTT.out)) (by decide) F.out (R.out.rds.take m)
  · have g1 : ¬ (m : Int) < z := by omega
    have g2 : decide (m < z) = false := decide_eq_false hlt
    have hmz : m = z := by omega
    have HMZ := Lib.hid hmz
    clear hlt hmz
    by_cases hn0 : n = 0
    · subst hn0
      go_wp2_with fail
      go_ret
      exact ⟨rfl, F.out⟩
    · have g3 : ((n : Int) == 0) = false := by simp; omega
      have g4 : ¬ (n : Int) = 0 := by omega
      have HN0 := Lib.hid hn0
      clear hn0
      go_upto_region 41 with fail
      exact wrong_e w W _ _ _ _ _ _ _ _ _ _ _ _ _ _ _ _ _ _ _ _ _ _ _ _ _ _ _ _ _ _ _ _ _ _ _ _ _ _ _ _ _ _ _ _ _ _ _ _ _ _ _ _ _ _ _ _ _ _ _ _ _ _ _ _ _ _ _ _ _ _ _ _ _ _ _ _ _ _ _ _ _ _ _ _ _ _ _ _ _ _ _ _ _ _ _ _ _ _ _ _ _ _ _ _ _ _ _ _ _ _ _ _ _ _ _ _ _ _ _ _ _ _ _ _ _ _ _ _ _ _ _ _ _ _ _ _ _ _ _ _ _ _ _ _ _ _ _ _ _ _ _ _ _ _ _ _ _ _ _ _ _ _ _ _ _ _ _ _ _ _ _ _ _ _ _ _ _ _ _ _ _ _ _ _ _ _ _ _ _ _ _ _ _ _ _ _ _ _ _ _ _ _ _ _ _ _ _ _ _ _ _ _ _ _ _ _ _ _ _ _ _ _ _ _ _ _ _ _ _ _ _ _ _ _ (some ⟨g, 0, none⟩) m c4 53 (L.take m) _ (by assumption) HLT.out (by omega) (by omega) (wrong_cut2 _ HNF.out m (by rw [HZ.out]; exact HMZ.out) (by rw [HZ.out, HTT.out]; have := HN0.out; have := HDN.out; omega)) (by decide) F.out (R.out.rds.take m)


set_option maxRecDepth 100000 in
set_option maxHeartbeats 4000000 in
theorem wrong_10 (w W : World) (u0 u3 u4 u5 u6 u10 u12 u13 u14 u15 u16 u17 u18 u19 u20 u21 u22 u23 u24 u25 u26 u27 u28 u29 u30 u31 u32 u33 u34 u35 u36 u37 u38 u39 u40 u41 u42 u43 u44 u45 u46 u47 u48 u49 u50 u51 u52 u53 u54 u55 u56 u57 u58 u59 u60 u61 u62 u63 u64 u65 u66 u67 u68 u69 u70 u71 u72 u73 u74 u75 u76 u77 u78 u79 u80 u81 u82 u83 u84 u85 u86 u87 u88 u89 u90 u91 u92 u93 u94 u95 u96 u97 u98 u99 u100 u101 u102 u103 u104 u105 u106 u107 u108 u109 u110 u111 u112 u113 u114 u115 u116 u117 u118 u119 u120 u121 u122 u123 u124 u125 u126 u127 u128 u129 u130 u131 u132 u133 u134 u135 u136 u137 u138 u139 u140 u141 u142 u143 u144 u145 u146 u147 u148 u149 u150 u151 u152 u153 u154 u155 u156 u157 u158 u159 u160 u161 u162 u163 u164 u165 u166 u167 u168 u169 u170 u171 u172 u173 u174 u175 u176 u177 u178 u179 u180 u181 u182 u183 u184 u185 u186 u187 u188 u189 u190 u191 u192 u193 u194 u195 u196 u197 u198 u199 u200 u201 u202 u203 u204 u205 u206 u207 u208 u209 u210 u211 u212 u213 u214 u215 u216 u217 u218 u219 u220 u221 u222 u223 u224 u225 u226 u227 u228 u229 u230 u231 u232 u233 u234 u235 : Value) (way : Nat) (nn : Int) (hb g N c4 z n dc2 base : Nat) (DD : Option Addr) (L : List UInt8) (K : Act → World → Prop)
    (hK : ∀ a W, Code.wp Try.prog (dropS 8 B11) (bodyPost Try.prog Try.f11 (BoolNo true w)) a W → K a W)
    (hj : (way : Int) % 12 = 10) (_hnn : -9223372036854775808 ≤ nn ∧ nn ≤ 9223372036854775807) (nf : NoFault L) (hLL : L.length = N) (hz : sizeAt L = z) (htt : totAt L = N) (hN : N ≤ 300) (hdn : n = N - z) (_hgw : w.heap.size ≤ g) (F0 : Frm No w W) (R0 : Row W base g N c4 L) :
    Code.wp Try.prog (headS (dropS 7 B11)) (Exit.then K (bodyPost Try.prog Try.f11 (BoolNo true w))) ⟨#[u0, .int .u8 (way : Int), .int .i64 nn, u3, u4, u5, u6, .pointer (some ⟨hb, 0, none⟩), .slice DD n dc2, .slice (some ⟨g, 0, none⟩) N c4, u10, .int .i64 (z : Int), u12, u13, u14, u15, u16, u17, u18, u19, u20, u21, u22, u23, u24, u25, u26, u27, u28, u29, u30, u31, u32, u33, u34, u35, u36, u37, u38, u39, u40, u41, u42, u43, u44, u45, u46, u47, u48, u49, u50, u51, u52, u53, u54, u55, u56, u57, u58, u59, u60, u61, u62, u63, u64, u65, u66, u67, u68, u69, u70, u71, u72, u73, u74, u75, u76, u77, u78, u79, u80, u81, u82, u83, u84, u85, u86, u87, u88, u89, u90, u91, u92, u93, u94, u95, u96, u97, u98, u99, u100, u101, u102, u103, u104, u105, u106, u107, u108, u109, u110, u111, u112, u113, u114, u115, u116, u117, u118, u119, u120, u121, u122, u123, u124, u125, u126, u127, u128, u129, u130, u131, u132, u133, u134, u135, u136, u137, u138, u139, u140, u141, u142, u143, u144, u145, u146, u147, u148, u149, u150, u151, u152, u153, u154, u155, u156, u157, u158, u159, u160, u161, u162, u163, u164, u165, u166, u167, u168, u169, u170, u171, u172, u173, u174, u175, u176, u177, u178, u179, u180, u181, u182, u183, u184, u185, u186, u187, u188, u189, u190, u191, u192, u193, u194, u195, u196, u197, u198, u199, u200, u201, u202, u203, u204, u205, u206, u207, u208, u209, u210, u211, u212, u213, u214, u215, u216, u217, u218, u219, u220, u221, u222, u223, u224, u225, u226, u227, u228, u229, u230, u231, u232, u233, u234, u235], []⟩ W := by
  have hs := nf.sizes
  rw [hz, htt, hLL] at hs
  have hc4 : N ≤ c4 := R0.cap.1
  have HL := Lib.hid hLL
  have HZ := Lib.hid hz
  have HTT := Lib.hid htt
  have HNF := Lib.hid nf
  have F := Lib.hid F0
  have R := Lib.hid R0
  have HK := Lib.hid hK
  have HDN := Lib.hid hdn
  have n20 : 20 ≤ N := by omega
  have z20 : 20 ≤ z := by omega
  have zN : z ≤ N := by omega
  have HP := Lib.hid (fun W' => pick_any W' nn z (by omega) (by omega))
  have hkl := pickN_lt nn z (by omega)
  obtain ⟨k, hk⟩ : ∃ k, pickN nn z = k := ⟨_, rfl⟩
  rw [hk] at HP hkl
  have z60 : z ≤ 60 := by omega
  have w2 : IntKind.u8.wrap (k : Int) = k := by have e : IntKind.u8.wrap (k : Int) = (k : Int) % 256 := rfl; rw [e]; omega
  have HV := Lib.hid (toN k (by omega))
  have hfz : W.frozen? ⟨g, 2, none⟩ = false := R.out.frozen 2
  have hfz3 : W.frozen? ⟨g, 3, none⟩ = false := R.out.frozen 3
  have hcell := cellD R.out 2 (by omega)
  have hcell3 := cellD R.out 3 (by omega)
  have j0 : 2 < N := by omega
  have j1 : (2 : Int) < N := by omega
  have j2 : 3 < N := by omega
  have j3 : (3 : Int) < N := by omega
  obtain ⟨W1, hW1⟩ : ∃ W1, W1 = (W.setCell ⟨g, 2, none⟩ (.int .u8 0)).setCell ⟨g, 3, none⟩ (.int .u8 (k : Int)) := ⟨_, rfl⟩
  have F1 : Hid (Frm No w W1) := by show Frm No w W1; rw [hW1]; exact (F.out.setCell (p := ⟨g, 2, none⟩) (fun h => absurd h (by show ¬ g < _; omega)) _).setCell (p := ⟨g, 3, none⟩) (fun h => absurd h (by show ¬ g < _; omega)) _
  have R1 : Hid (Row W1 base g N c4 ((L.set 2 0).set 3 (UInt8.ofNat k))) := by show Row W1 _ _ _ _ _; rw [hW1]; exact (R.out.set 2 0 _ rfl).set 3 (UInt8.ofNat k) _ (by rw [byt, HV.out])
  clear F0 R0 hK hLL hz htt nf hs hdn _hnn _hgw hk
  conv => arg 2; whnf
  go_wp2_with fail
  have hKK := HK.out
  refine hKK _ _ ?_
  clear hKK HK
  conv => arg 2; whnf
  go_upto_region 40 with fail
  go_wp2_with fail
  refine (HP.out _).mono ?_
  rintro e w' ⟨rfl, rfl⟩
  go_upto_region 41 with fail
  rw [← hW1]
  exact wrong_e w W1 _ _ _ _ _ _ _ _ _ _ _ _ _ _ _ _ _ _ _ _ _ _ _ _ _ _ _ _ _ _ _ _ _ _ _ _ _ _ _ _ _ _ _ _ _ _ _ _ _ _ _ _ _ _ _ _ _ _ _ _ _ _ _ _ _ _ _ _ _ _ _ _ _ _ _ _ _ _ _ _ _ _ _ _ _ _ _ _ _ _ _ _ _ _ _ _ _ _ _ _ _ _ _ _ _ _ _ _ _ _ _ _ _ _ _ _ _ _ _ _ _ _ _ _ _ _ _ _ _ _ _ _ _ _ _ _ _ _ _ _ _ _ _ _ _ _ _ _ _ _ _ _ _ _ _ _ _ _ _ _ _ _ _ _ _ _ _ _ _ _ _ _ _ _ _ _ _ _ _ _ _ _ _ _ _ _ _ _ _ _ _ _ _ _ _ _ _ _ _ _ _ _ _ _ _ _ _ _ _ _ _ _ _ _ _ _ _ _ _ _ _ _ _ _ _ _ _ _ _ _ _ _ _ _ (some ⟨g, 0, none⟩) N c4 53 _ _ (by assumption) (by rw [List.length_set, List.length_set]; exact HL.out) hc4 (by omega) (wrong_total _ HNF.out _ _ (by rw [HZ.out]; left; unfold word; rw [HV.out]; show 0 * 256 + k < z; omega)) (by decide) F1.out R1.out.rds


set_option maxRecDepth 100000 in
set_option maxHeartbeats 4000000 in
theorem wrong_11 (w W : World) (u0 u3 u4 u5 u6 u10 u12 u13 u14 u15 u16 u17 u18 u19 u20 u21 u22 u23 u24 u25 u26 u27 u28 u29 u30 u31 u32 u33 u34 u35 u36 u37 u38 u39 u40 u41 u42 u43 u44 u45 u46 u47 u48 u49 u50 u51 u52 u53 u54 u55 u56 u57 u58 u59 u60 u61 u62 u63 u64 u65 u66 u67 u68 u69 u70 u71 u72 u73 u74 u75 u76 u77 u78 u79 u80 u81 u82 u83 u84 u85 u86 u87 u88 u89 u90 u91 u92 u93 u94 u95 u96 u97 u98 u99 u100 u101 u102 u103 u104 u105 u106 u107 u108 u109 u110 u111 u112 u113 u114 u115 u116 u117 u118 u119 u120 u121 u122 u123 u124 u125 u126 u127 u128 u129 u130 u131 u132 u133 u134 u135 u136 u137 u138 u139 u140 u141 u142 u143 u144 u145 u146 u147 u148 u149 u150 u151 u152 u153 u154 u155 u156 u157 u158 u159 u160 u161 u162 u163 u164 u165 u166 u167 u168 u169 u170 u171 u172 u173 u174 u175 u176 u177 u178 u179 u180 u181 u182 u183 u184 u185 u186 u187 u188 u189 u190 u191 u192 u193 u194 u195 u196 u197 u198 u199 u200 u201 u202 u203 u204 u205 u206 u207 u208 u209 u210 u211 u212 u213 u214 u215 u216 u217 u218 u219 u220 u221 u222 u223 u224 u225 u226 u227 u228 u229 u230 u231 u232 u233 u234 u235 : Value) (way : Nat) (nn : Int) (hb g N c4 z n dc2 base : Nat) (DD : Option Addr) (L : List UInt8) (K : Act → World → Prop)
    (hK : ∀ a W, Code.wp Try.prog (dropS 8 B11) (bodyPost Try.prog Try.f11 (BoolNo true w)) a W → K a W)
    (hj : (way : Int) % 12 = 11) (_hnn : -9223372036854775808 ≤ nn ∧ nn ≤ 9223372036854775807) (nf : NoFault L) (hLL : L.length = N) (hz : sizeAt L = z) (htt : totAt L = N) (hN : N ≤ 300) (hdn : n = N - z) (_hgw : w.heap.size ≤ g) (F0 : Frm No w W) (R0 : Row W base g N c4 L) :
    Code.wp Try.prog (headS (dropS 7 B11)) (Exit.then K (bodyPost Try.prog Try.f11 (BoolNo true w))) ⟨#[u0, .int .u8 (way : Int), .int .i64 nn, u3, u4, u5, u6, .pointer (some ⟨hb, 0, none⟩), .slice DD n dc2, .slice (some ⟨g, 0, none⟩) N c4, u10, .int .i64 (z : Int), u12, u13, u14, u15, u16, u17, u18, u19, u20, u21, u22, u23, u24, u25, u26, u27, u28, u29, u30, u31, u32, u33, u34, u35, u36, u37, u38, u39, u40, u41, u42, u43, u44, u45, u46, u47, u48, u49, u50, u51, u52, u53, u54, u55, u56, u57, u58, u59, u60, u61, u62, u63, u64, u65, u66, u67, u68, u69, u70, u71, u72, u73, u74, u75, u76, u77, u78, u79, u80, u81, u82, u83, u84, u85, u86, u87, u88, u89, u90, u91, u92, u93, u94, u95, u96, u97, u98, u99, u100, u101, u102, u103, u104, u105, u106, u107, u108, u109, u110, u111, u112, u113, u114, u115, u116, u117, u118, u119, u120, u121, u122, u123, u124, u125, u126, u127, u128, u129, u130, u131, u132, u133, u134, u135, u136, u137, u138, u139, u140, u141, u142, u143, u144, u145, u146, u147, u148, u149, u150, u151, u152, u153, u154, u155, u156, u157, u158, u159, u160, u161, u162, u163, u164, u165, u166, u167, u168, u169, u170, u171, u172, u173, u174, u175, u176, u177, u178, u179, u180, u181, u182, u183, u184, u185, u186, u187, u188, u189, u190, u191, u192, u193, u194, u195, u196, u197, u198, u199, u200, u201, u202, u203, u204, u205, u206, u207, u208, u209, u210, u211, u212, u213, u214, u215, u216, u217, u218, u219, u220, u221, u222, u223, u224, u225, u226, u227, u228, u229, u230, u231, u232, u233, u234, u235], []⟩ W := by
  have hs := nf.sizes
  rw [hz, htt, hLL] at hs
  have hc4 : N ≤ c4 := R0.cap.1
  have HL := Lib.hid hLL
  have HZ := Lib.hid hz
  have HTT := Lib.hid htt
  have HNF := Lib.hid nf
  have F := Lib.hid F0
  have R := Lib.hid R0
  have HK := Lib.hid hK
  have HDN := Lib.hid hdn
  have n20 : 20 ≤ N := by omega
  have z20 : 20 ≤ z := by omega
  have zN : z ≤ N := by omega
  have hfz : W.frozen? ⟨g, 2, none⟩ = false := R.out.frozen 2
  have hfz3 : W.frozen? ⟨g, 3, none⟩ = false := R.out.frozen 3
  have hcell := cellD R.out 2 (by omega)
  have hcell3 := cellD R.out 3 (by omega)
  have j0 : 2 < N := by omega
  have j1 : (2 : Int) < N := by omega
  have j2 : 3 < N := by omega
  have j3 : (3 : Int) < N := by omega
  obtain ⟨W1, hW1⟩ : ∃ W1, W1 = (W.setCell ⟨g, 2, none⟩ (.int .u8 255)).setCell ⟨g, 3, none⟩ (.int .u8 255) := ⟨_, rfl⟩
  have F1 : Hid (Frm No w W1) := by show Frm No w W1; rw [hW1]; exact (F.out.setCell (p := ⟨g, 2, none⟩) (fun h => absurd h (by show ¬ g < _; omega)) _).setCell (p := ⟨g, 3, none⟩) (fun h => absurd h (by show ¬ g < _; omega)) _
  have R1 : Hid (Row W1 base g N c4 ((L.set 2 255).set 3 255)) := by show Row W1 _ _ _ _ _; rw [hW1]; exact (R.out.set 2 255 _ rfl).set 3 255 _ rfl
  clear F0 R0 hK hLL hz htt nf hs hdn _hnn _hgw 
  conv => arg 2; whnf
  go_wp2_with fail
  have hKK := HK.out
  refine hKK _ _ ?_
  clear hKK HK
  conv => arg 2; whnf
  go_upto_region 41 with fail
  rw [← hW1]
  exact wrong_e w W1 _ _ _ _ _ _ _ _ _ _ _ _ _ _ _ _ _ _ _ _ _ _ _ _ _ _ _ _ _ _ _ _ _ _ _ _ _ _ _ _ _ _ _ _ _ _ _ _ _ _ _ _ _ _ _ _ _ _ _ _ _ _ _ _ _ _ _ _ _ _ _ _ _ _ _ _ _ _ _ _ _ _ _ _ _ _ _ _ _ _ _ _ _ _ _ _ _ _ _ _ _ _ _ _ _ _ _ _ _ _ _ _ _ _ _ _ _ _ _ _ _ _ _ _ _ _ _ _ _ _ _ _ _ _ _ _ _ _ _ _ _ _ _ _ _ _ _ _ _ _ _ _ _ _ _ _ _ _ _ _ _ _ _ _ _ _ _ _ _ _ _ _ _ _ _ _ _ _ _ _ _ _ _ _ _ _ _ _ _ _ _ _ _ _ _ _ _ _ _ _ _ _ _ _ _ _ _ _ _ _ _ _ _ _ _ _ _ _ _ _ _ _ _ _ _ _ _ _ _ _ _ _ _ _ (some ⟨g, 0, none⟩) N c4 53 _ _ (by assumption) (by rw [List.length_set, List.length_set]; exact HL.out) hc4 (by omega) (wrong_total _ HNF.out _ _ (by right; rw [HL.out]; show N < 255 * 256 + 255; omega)) (by decide) F1.out R1.out.rds


end Go.Proofs.Ytcclneaabnpbkaa
