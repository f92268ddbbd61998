/-
  IpWrong: headers that are wrong for their data are rejected.
-/
import Derived.Test.YtcclneaabnpbkaaWb
namespace Go.Proofs.Ytcclneaabnpbkaa
open Go.RowKit
attribute [local go_sem] undef

def condThen : Code → Code
  | .cond _ a _ => a
  | c => c
noncomputable def T11 : Code := condThen (tailS (headS (dropS 6 B11)))

theorem right_out (o : Nat) (off : Nat) (mf : Bool) (n : Int) (h : n < 0 ∨ 65515 < n) : rightB o (off : Int) mf n = false := by
  have e : holdsB o n = false := decide_eq_false (by omega)
  unfold rightB
  rw [e]
  rfl

set_option maxRecDepth 100000 in
set_option maxHeartbeats 4000000 in
theorem wrong_w (w W : World) (u0 u1 u3 u4 u5 u6 u9 u10 u11 u13 u14 u15 u16 u17 u18 u19 u20 u21 u22 u23 u24 u25 u26 u27 u28 u29 u30 u31 u32 u33 u34 u35 u36 u37 u38 u39 u40 u41 u42 u43 u44 u45 u46 u47 u48 u49 u50 u51 u52 u53 u54 u55 u56 u57 u58 u59 u60 u61 u62 u63 u64 u65 u66 u67 u68 u69 u70 u71 u72 u73 u74 u75 u76 u77 u78 u79 u80 u81 u82 u83 u84 u85 u86 u87 u88 u89 u90 u91 u92 u93 u94 u95 u96 u97 u98 u99 u100 u101 u102 u103 u104 u105 u106 u107 u108 u109 u110 u111 u112 u113 u114 u115 u116 u117 u118 u119 u120 u121 u122 u123 u124 u125 u126 u127 u128 u129 u130 u131 u132 u133 u134 u135 u136 u137 u138 u139 u140 u141 u142 u143 u144 u145 u146 u147 u148 u149 u150 u151 u152 u153 u154 u155 u156 u157 u158 u159 u160 u161 u162 u163 u164 u165 u166 u167 u168 u169 u170 u171 u172 u173 u174 u175 u176 u177 u178 u179 u180 u181 u182 u183 u184 u185 u186 u187 u188 u189 u190 u191 u192 u193 u194 u195 u196 u197 u198 u199 u200 u201 u202 u203 u204 u205 u206 u207 u208 u209 u210 u211 u212 u213 u214 u215 u216 u217 u218 u219 u220 u221 u222 u223 u224 u225 u226 u227 u228 u229 u230 u231 u232 u233 u234 u235 : Value) (nn : Int) (hb tb : Nat) (tos id : Nat) (hdf hmf mf1 : Bool) (off ttl pro src dst : Nat) (off1 : Int) (A A1 D1 : Option Addr) (o oc o1 oc1 m1 c1 : Nat) (K K7 : Act → World → Prop)
    (hK : ∀ a W, Code.wp Try.prog (dropS 3 T11) (Exit.then K7 (bodyPost Try.prog Try.f11 (BoolNo true w))) a W → K a W)
    (ho : o ≤ 40) (hoff : off ≤ 65528) (ho1 : o1 ≤ 1000) (h4 : -9223372036854775808 ≤ off1 ∧ off1 ≤ 9223372036854775807) (hbad : rightB o1 off1 mf1 (m1 : Int) = false)
    (F0 : Frm No w W) (T0 : Blk W hb 28 #[.int .u8 (tos : Int), .int .u16 (id : Int), .bool hdf, .bool hmf, .int .i64 (off : Int), .int .u8 (ttl : Int), .int .u8 (pro : Int), .int .u32 (src : Int), .int .u32 (dst : Int), .slice A o oc]) (B0 : Blk W tb 28 #[.int .u8 (tos : Int), .int .u16 (id : Int), .bool hdf, .bool mf1, .int .i64 off1, .int .u8 (ttl : Int), .int .u8 (pro : Int), .int .u32 (src : Int), .int .u32 (dst : Int), .slice A1 o1 oc1]) :
    Code.wp Try.prog (headS (dropS 2 T11)) (Exit.then K (Exit.then K7 (bodyPost Try.prog Try.f11 (BoolNo true w)))) ⟨#[u0, u1, .int .i64 nn, u3, u4, u5, u6, .pointer (some ⟨hb, 0, none⟩), .slice D1 m1 c1, u9, u10, u11, .pointer (some ⟨tb, 0, none⟩), u13, u14, u15, u16, u17, u18, u19, u20, u21, u22, u23, u24, u25, u26, u27, u28, u29, u30, u31, u32, u33, u34, u35, u36, u37, u38, u39, u40, u41, u42, u43, u44, u45, u46, u47, u48, u49, u50, u51, u52, u53, u54, u55, u56, u57, u58, u59, u60, u61, u62, u63, u64, u65, u66, u67, u68, u69, u70, u71, u72, u73, u74, u75, u76, u77, u78, u79, u80, u81, u82, u83, u84, u85, u86, u87, u88, u89, u90, u91, u92, u93, u94, u95, u96, u97, u98, u99, u100, u101, u102, u103, u104, u105, u106, u107, u108, u109, u110, u111, u112, u113, u114, u115, u116, u117, u118, u119, u120, u121, u122, u123, u124, u125, u126, u127, u128, u129, u130, u131, u132, u133, u134, u135, u136, u137, u138, u139, u140, u141, u142, u143, u144, u145, u146, u147, u148, u149, u150, u151, u152, u153, u154, u155, u156, u157, u158, u159, u160, u161, u162, u163, u164, u165, u166, u167, u168, u169, u170, u171, u172, u173, u174, u175, u176, u177, u178, u179, u180, u181, u182, u183, u184, u185, u186, u187, u188, u189, u190, u191, u192, u193, u194, u195, u196, u197, u198, u199, u200, u201, u202, u203, u204, u205, u206, u207, u208, u209, u210, u211, u212, u213, u214, u215, u216, u217, u218, u219, u220, u221, u222, u223, u224, u225, u226, u227, u228, u229, u230, u231, u232, u233, u234, u235], []⟩ W := by
  have HWR := Lib.hid (write_no W (tos : Int) (id : Int) off1 (ttl : Int) (pro : Int) (src : Int) (dst : Int) hdf mf1 A1 D1 o1 oc1 m1 c1 (by omega) h4 hbad)
  have HRB := Lib.hid (fun W' => right20 W' (tos : Int) (id : Int) off1 (ttl : Int) (pro : Int) (src : Int) (dst : Int) hdf mf1 A1 o1 oc1 (m1 : Int) (by omega) h4)
  rw [hbad] at HRB
  have HRG := Lib.hid (fun W' (x : Int) (hx : x < 0 ∨ 65515 < x) => (by
    have h := right20 W' (tos : Int) (id : Int) (off : Int) (ttl : Int) (pro : Int) (src : Int) (dst : Int) hdf hmf A o oc x (by omega) (by omega)
    rwa [right_out o off hmf x hx] at h : Calls Try.prog 20 #[.agg #[.int .u8 (tos : Int), .int .u16 (id : Int), .bool hdf, .bool hmf, .int .i64 (off : Int), .int .u8 (ttl : Int), .int .u8 (pro : Int), .int .u32 (src : Int), .int .u32 (dst : Int), .slice A o oc], .int .i64 x] W' (BoolNo false W')))
  have F := Lib.hid F0
  have T := Lib.hid T0
  have B := Lib.hid B0
  have HK := Lib.hid hK
  clear F0 T0 B0 hbad h4 hK
  obtain ⟨d0, d1, d2, d3, d4, d5, d6, d7, d8, d9⟩ := blk10 B.out
  conv => arg 2; whnf
  go_wp2_with fail
  refine HWR.out.mono ?_
  rintro e w1 ⟨rfl, hf⟩
  have F1 := Lib.hid (F.out.new0 hf)
  have T1 := Lib.hid (T.out.frm hf (fun x => x))
  have B1 := Lib.hid (B.out.frm hf (fun x => x))
  clear hf d0 d1 d2 d3 d4 d5 d6 d7 d8 d9 F T B HWR
  go_wp2_with fail
  have hKK := HK.out
  refine hKK _ _ ?_
  clear hKK HK
  conv => arg 2; whnf
  obtain ⟨d0, d1, d2, d3, d4, d5, d6, d7, d8, d9⟩ := blk10 B1.out
  go_wp2_with fail
  refine (HRB.out _).mono ?_
  rintro e w2 ⟨rfl, hf⟩
  have F2 := Lib.hid (F1.out.new0 hf)
  have T2 := Lib.hid (T1.out.frm hf (fun x => x))
  clear hf d0 d1 d2 d3 d4 d5 d6 d7 d8 d9 F1 T1 B1 HRB
  obtain ⟨d0, d1, d2, d3, d4, d5, d6, d7, d8, d9⟩ := blk10 T2.out
  go_wp2_with fail
  all_goals
    refine (HRG.out _ _ (by omega)).mono ?_
    rintro e w3 ⟨rfl, hf⟩
    have F3 := Lib.hid (F2.out.new0 hf)
    have T3 := Lib.hid (T2.out.frm hf (fun x => x))
    clear hf d0 d1 d2 d3 d4 d5 d6 d7 d8 d9
    obtain ⟨d0, d1, d2, d3, d4, d5, d6, d7, d8, d9⟩ := blk10 T3.out
    go_wp2_with fail
    all_goals
      refine (HRG.out _ _ (by omega)).mono ?_
      rintro e w4 ⟨rfl, hf⟩
      have F4 := Lib.hid (F3.out.new0 hf)
      clear hf d0 d1 d2 d3 d4 d5 d6 d7 d8 d9
      go_wp2_with fail
      go_ret
      exact ⟨rfl, F4.out⟩
end Go.Proofs.Ytcclneaabnpbkaa
