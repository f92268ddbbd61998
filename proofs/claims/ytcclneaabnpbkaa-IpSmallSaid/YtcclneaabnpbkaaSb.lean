/-
  IpSmall: the longest packets.
-/
import Derived.Test.YtcclneaabnpbkaaSa
import Derived.Test.YtcclneaabnpbkaaIb
namespace Go.Proofs.Ytcclneaabnpbkaa
open Go.RowKit
attribute [local go_sem] undef

theorem make_zero (m : Nat) (hm : m ≤ 140737488355328) : ∃ (Z : Array Value) (zs : List UInt8), zs.length = m ∧ ∀ w : World, (Instr.makeSlice 22 (.int .i64 (m : Int)) (.int .i64 (m : Int))).run Try.prog w = .ok (.slice (some ⟨w.heap.size, 0, none⟩) m m) (w.alloc (.cells Z 5)) ∧ Row (w.alloc (.cells Z 5)) w.heap.size w.heap.size m m zs :=
  ⟨_, List.replicate m 0, by simp, fun w => ⟨make_bytes m m (Nat.le_refl _) hm w, row_made w w.heap.size m (List.replicate m 0) (by simp) (Nat.le_refl _) hm⟩⟩

set_option maxRecDepth 100000 in
set_option maxHeartbeats 4000000 in
theorem small_c (w W : World) (u0 u1 u2 u3 u4 u5 u6 u7 u8 u9 u10 u11 u12 u13 u14 u15 u16 u17 u18 u19 u20 u21 u22 u23 u24 u25 u26 u27 u28 u29 u30 u31 u32 u33 u34 u35 u36 u37 u38 u39 u40 u41 u42 u43 u44 u45 u46 u47 u48 u49 u50 u51 u52 u53 u54 u55 u56 u57 u58 u59 u60 u61 u62 u63 u64 u65 u66 u67 u68 u69 u70 u71 u72 u73 u74 u75 u76 u77 u78 u79 u80 u81 u82 u83 u84 u85 u86 u87 u88 u89 u90 u91 u92 u93 u94 u95 u96 u97 u98 u99 u100 u101 u102 u103 u104 u105 u106 u107 u108 u109 u110 u111 u112 u113 u114 u115 u116 u117 u118 u119 u120 u121 u122 u123 u124 u125 u126 u127 u128 u129 u130 u131 u132 u133 u134 u135 u136 u137 u138 u139 u140 u141 u142 u143 u144 u145 u146 u147 u148 u149 u150 u151 u152 u153 u154 u155 u156 u157 u158 u159 u160 u161 u162 u163 u164 u165 u166 u167 u168 u169 u170 u171 u172 u173 u174 u175 u176 u177 u178 u179 u180 u181 : Value) (F0 : Frm No w W) :
    Code.wp Try.prog (dropS 4 B5) (bodyPost Try.prog Try.f5 (BoolNo true w)) ⟨#[u0, u1, u2, u3, u4, u5, u6, u7, u8, u9, u10, u11, u12, u13, u14, u15, u16, u17, u18, u19, u20, u21, u22, u23, u24, u25, u26, u27, u28, u29, u30, u31, u32, u33, u34, u35, u36, u37, u38, u39, u40, u41, u42, u43, u44, u45, u46, u47, u48, u49, u50, u51, u52, u53, u54, u55, u56, u57, u58, u59, u60, u61, u62, u63, u64, u65, u66, u67, u68, u69, u70, u71, u72, u73, u74, u75, u76, u77, u78, u79, u80, u81, u82, u83, u84, u85, u86, u87, u88, u89, u90, u91, u92, u93, u94, u95, u96, u97, u98, u99, u100, u101, u102, u103, u104, u105, u106, u107, u108, u109, u110, u111, u112, u113, u114, u115, u116, u117, u118, u119, u120, u121, u122, u123, u124, u125, u126, u127, u128, u129, u130, u131, u132, u133, u134, u135, u136, u137, u138, u139, u140, u141, u142, u143, u144, u145, u146, u147, u148, u149, u150, u151, u152, u153, u154, u155, u156, u157, u158, u159, u160, u161, u162, u163, u164, u165, u166, u167, u168, u169, u170, u171, u172, u173, u174, u175, u176, u177, u178, u179, u180, u181], []⟩ W := by
  have F := Lib.hid F0
  clear F0
  obtain ⟨Z, zs, hzl, hmk⟩ := make_zero 65516 (by decide)
  obtain ⟨Z4, z4, _, hmk4⟩ := make_zero 4 (by decide)
  have mk1 : ∀ w : World, (Instr.makeSlice 22 (.int .i64 65516) (.int .i64 65516)).run Try.prog w = .ok (.slice (some ⟨w.heap.size, 0, none⟩) 65516 65516) (w.alloc (.cells Z 5)) := fun w => (hmk w).1
  have mk4 : ∀ w : World, (Instr.makeSlice 22 (.int .i64 4) (.int .i64 4)).run Try.prog w = .ok (.slice (some ⟨w.heap.size, 0, none⟩) 4 4) (w.alloc (.cells Z4 5)) := fun w => (hmk4 w).1
  obtain ⟨W1, hW1⟩ : ∃ V, V = W.alloc (.cells Z 5) := ⟨_, rfl⟩
  obtain ⟨lb, hlb⟩ : ∃ b, b = W.heap.size := ⟨_, rfl⟩
  have R1 : Hid (Row W1 w.heap.size lb 65516 65516 zs) := by show Row _ _ _ _ _ _; rw [hW1, hlb]; exact own_more (hmk W).2 F.out.size
  have F1 : Hid (Frm No w W1) := by show Frm _ _ _; rw [hW1]; exact F.out.alloc _
  have D1 : Rds W1 (some ⟨lb, 1, none⟩) (zs.drop 1) := R1.out.rds.drop 1 65516 (by omega) (some ⟨lb, 1, none⟩) rfl
  obtain ⟨ds, hds⟩ : ∃ d, zs.drop 1 = d := ⟨_, rfl⟩
  have hdl : ds.length = 65515 := by rw [← hds, List.length_drop, hzl]
  rw [hds] at D1
  have ok : Hd.Ok ⟨0, 0, false, false, 0, 1, 0, 0, 0⟩ := ⟨by decide, by decide, by decide, by decide, by decide, by decide, by decide⟩
  have r1 : rightB 0 ((0 : Nat) : Int) false ((65515 : Nat) : Int) = true := by decide
  have HW1 : Hid (Calls Try.prog 17 #[.agg #[.int .u8 0, .int .u16 0, .bool false, .bool false, .int .i64 0, .int .u8 1, .int .u8 0, .int .u32 0, .int .u32 0, .slice none 0 0], .slice (some ⟨lb, 1, none⟩) 65515 65515] W1 (WroteOk ⟨0, 0, false, false, 0, 1, 0, 0, 0⟩ [] ds 65535 W1)) := Lib.hid (write_yes W1 0 0 false false 0 1 0 0 0 ok none (some ⟨lb, 1, none⟩) 0 0 65515 65515 [] ds rfl hdl (Rds.nil _ _) D1 (Nat.le_refl _) (fun h => by cases h) r1 65535 rfl)
  have HW2 : Hid (∀ W', Calls Try.prog 17 #[.agg #[.int .u8 0, .int .u16 0, .bool false, .bool false, .int .i64 0, .int .u8 1, .int .u8 0, .int .u32 0, .int .u32 0, .slice none 0 0], .slice (some ⟨lb, 0, none⟩) 65516 65516] W' (WroteNo W')) := Lib.hid (fun W' => write_no W' 0 0 0 1 0 0 0 false false none (some ⟨lb, 0, none⟩) 0 0 65516 65516 (by omega) (by omega) (by decide))
  have HW3 : Hid (∀ W' (hb : Nat), Calls Try.prog 17 #[.agg #[.int .u8 0, .int .u16 0, .bool false, .bool false, .int .i64 0, .int .u8 0, .int .u8 0, .int .u32 0, .int .u32 0, .slice (some ⟨hb, 0, none⟩) 4 4], .slice (some ⟨lb, 1, none⟩) 65515 65515] W' (WroteNo W')) := Lib.hid (fun W' hb => write_no W' 0 0 0 0 0 0 0 false false (some ⟨hb, 0, none⟩) (some ⟨lb, 1, none⟩) 4 4 65515 65515 (by omega) (by omega) (by decide))
  have r2 : rightB ([] : List UInt8).length ((0 : Nat) : Int) false (ds.length : Int) = true := by rw [hdl]; decide
  have PF := pkt_finds0 ⟨0, 0, false, false, 0, 1, 0, 0, 0⟩ [] ds ok r2
  have PL := pkt_len ⟨0, 0, false, false, 0, 1, 0, 0, 0⟩ [] ds
  unfold WroteOk at HW1
  obtain ⟨L, hL⟩ : ∃ l, pkt ⟨0, 0, false, false, 0, 1, 0, 0, 0⟩ [] ds = l := ⟨_, rfl⟩
  rw [hL] at HW1 PF PL
  have hLl : L.length = 65535 := by rw [PL, hdl]; rfl
  have HR : Hid (∀ W' g c, 65535 ≤ c → Rds W' (some ⟨g, 0, none⟩) L → Calls Try.prog 18 #[.slice (some ⟨g, 0, none⟩) 65535 c] W' (ReadFound2 0 0 false false 0 1 0 0 0 0 20 65535 [] W')) := Lib.hid (fun W' g c hc h => read_found2 W' (some ⟨g, 0, none⟩) 65535 c L hLl hc (by omega) h 0 0 false false 0 1 0 0 0 [] ds PF 0 20 65535 rfl rfl (by rw [hdl]))
  unfold ReadFound2 at HR
  clear hmk hmk4 R1 D1 hds hdl ok r1 r2 PF PL hL hLl hzl
  conv => arg 2; whnf
  go_wp2_with fail
  rw [← hW1, ← hlb]
  refine HW1.out.mono ?_
  rintro e w2 ⟨g, c, rfl, hrow, hf⟩
  have F2 := Lib.hid (F1.out.new0 hf)
  have R2 := Lib.hid hrow
  clear hf hrow hW1 hlb F F1 HW1
  go_wp2_with fail
  refine (HW2.out _).mono ?_
  rintro e w3 ⟨rfl, hf⟩
  have F3 := Lib.hid (F2.out.new0 hf)
  have R3 := Lib.hid (R2.out.frm hf (fun x => x))
  clear hf F2 R2 HW2
  go_upto_region 33 with fail
  go_region_held3 (fun _ => True) (trivial)
    (first
      | (go_at_call 17; refine (HW3.out _ _).mono ?_; rintro e w4 ⟨rfl, hf⟩; have F4 := Lib.hid (Frm.new0 (F3.out.drew.alloc _) hf); have R4 := Lib.hid (R3.out.frm (Frm.new0 ((Frm.refl No w3).drew.alloc _) hf) (fun x => x)); clear hf))
  go_wp2_with fail
  refine (HR.out _ g c R4.out.cap.1 R4.out.rds).mono ?_
  rintro e w5 ⟨g5, c5, rfl, _, hf⟩
  have F5 := Lib.hid (F4.out.new0 hf)
  clear hf HR HW3 F3 R3 F4 R4
  go_wp2_with fail
  refine (awake _).mono ?_
  rintro e w6 ⟨rfl, hf⟩
  have F6 := Lib.hid ((F5.out.alloc _).new0 hf)
  clear hf
  go_wp2_with fail
  go_ret
  exact ⟨rfl, F6.out⟩
end Go.Proofs.Ytcclneaabnpbkaa
