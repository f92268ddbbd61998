/-
  CsumSmall: many bytes.
-/
import Derived.Test.YtnokbnggpbjchaaSm
import Derived.Test.YtnokbnggpbjchaaN2
namespace Go.Proofs.Ytnokbnggpbjchaa
open Go.RowKit
attribute [local go_sem] undef

theorem make_zero (m : Nat) (hm : m ≤ 140737488355328) : ∃ (Z : Array Value) (zs : List UInt8), zs.length = m ∧ ∀ w : World, (Instr.makeSlice 22 (.int .i64 (m : Int)) (.int .i64 (m : Int))).run Try.prog w = .ok (.slice (some ⟨w.heap.size, 0, none⟩) m m) (w.alloc (.cells Z 5)) ∧ Row (w.alloc (.cells Z 5)) w.heap.size w.heap.size m m zs :=
  ⟨_, List.replicate m 0, by simp, fun w => ⟨make_bytes m m (Nat.le_refl _) hm w, row_made w w.heap.size m (List.replicate m 0) (by simp) (Nat.le_refl _) hm⟩⟩
theorem madeCells_words (k : Nat) : madeCells (Value.cells (.int .u16 0)) k = (w16l (List.replicate k 0)).toArray := by
  apply Array.ext
  · simp [madeCells, w16l, Value.cells]
  · intro i h1 h2
    simp [madeCells, Value.cells, w16l, Nat.mod_one]
theorem make_words (m : Nat) (hm : m ≤ 1000000) : ∃ (Z : Array Value) (zs : List UInt16), zs.length = m ∧ ∀ w : World, (Instr.makeSlice 26 (.int .i64 (m : Int)) (.int .i64 (m : Int))).run Try.prog w = .ok (.slice (some ⟨w.heap.size, 0, none⟩) m m) (w.alloc (.cells Z 23)) ∧ RdW (w.alloc (.cells Z 23)) (some ⟨w.heap.size, 0, none⟩) zs := by
  obtain ⟨i0, hi, hz0, hz1, hz2⟩ := info_parts info23
  refine ⟨(w16l (List.replicate m 0)).toArray, List.replicate m 0, by simp, fun w => ⟨?_, ?_⟩⟩
  · have h := run_make (P := Try.prog) w 26 23 i0 (.int .u16 0) Try.underlying26 hi hz0 .i64 .i64 (m : Int) (m : Int) (by omega) (by omega) (by rw [hz2]; omega) (by omega)
    rw [hz1, Int.toNat_natCast, Nat.mul_one, madeCells_words] at h
    exact h
  · exact RdW.of_own (base := w.heap.size) (n := m) (c := m) ⟨by simp [w16l], .inr ⟨w.heap.size, m, (w16l (List.replicate m 0)).toArray, rfl, Nat.le_refl _, heap_alloc_new w _, Nat.le_refl _, by unfold maxLen; omega, by simp [w16l], by rw [List.take_of_length_le (by simp [w16l])]⟩⟩

set_option maxRecDepth 100000 in
set_option maxHeartbeats 8000000 in
theorem small_c (w W : World) (u0 u1 u2 u3 u4 u5 u6 u7 u8 u9 u10 u11 u12 u13 u14 u15 u16 u17 u18 u19 u20 u21 u22 u23 u24 u25 u26 u27 u28 u29 u30 u31 u32 u33 u34 u35 u36 u37 u38 u39 u40 u41 u42 u43 u44 u45 u46 u47 u48 u49 u50 u51 u52 u53 u54 u55 u56 u57 u58 u59 u60 u61 u62 u63 u64 u65 u66 u67 u68 u69 u70 u71 u72 u73 u74 u75 u76 u77 u78 u79 u80 u81 u82 u83 u84 u85 u86 u87 u88 u89 u90 u91 u92 u93 u94 u95 u96 u97 u98 u99 u100 u101 u102 u103 u104 u105 u106 u107 u108 u109 u110 u111 u112 u113 u114 u115 u116 u117 u118 u119 u120 u121 u122 u123 u124 u125 u126 u127 u128 u129 u130 u131 u132 u133 u134 u135 u136 u137 u138 u139 u140 u141 u142 u143 u144 u145 u146 u147 u148 u149 u150 u151 u152 u153 : Value) (K : Act → World → Prop) (Q : Exit → Act → World → Prop)
    (F0 : Frm No w W) (hnext : ∀ (v0 v1 v2 v3 v4 v5 v6 v7 v8 v9 v10 v11 v12 v13 v14 v15 v16 v17 v18 v19 v20 v21 v22 v23 v24 v25 v26 v27 v28 v29 v30 v31 v32 v33 v34 v35 v36 v37 v38 v39 v40 v41 v42 v43 v44 v45 v46 v47 v48 v49 v50 v51 v52 v53 v54 v55 v56 v57 v58 v59 v60 v61 v62 v63 v64 v65 v66 v67 v68 v69 v70 v71 v72 v73 v74 v75 v76 v77 v78 v79 v80 v81 v82 v83 v84 v85 v86 v87 v88 v89 v90 v91 v92 v93 v94 v95 v96 v97 v98 v99 v100 v101 v102 v103 v104 v105 v106 v107 v108 v109 v110 v111 v112 v113 v114 v115 v116 v117 v118 v119 v120 v121 v122 v123 v124 v125 v126 v127 v128 v129 v130 v131 v132 v133 v134 v135 v136 v137 v138 v139 v140 v141 v142 v143 v144 v145 v146 v147 v148 v149 v150 v151 v152 v153 : Value) (W1 : World), Frm No w W1 → K ⟨#[v0, v1, v2, v3, v4, v5, v6, v7, v8, v9, v10, v11, v12, v13, v14, v15, v16, v17, v18, v19, v20, v21, v22, v23, v24, v25, v26, v27, v28, v29, v30, v31, v32, v33, v34, v35, v36, v37, v38, v39, v40, v41, v42, v43, v44, v45, v46, v47, v48, v49, v50, v51, v52, v53, v54, v55, v56, v57, v58, v59, v60, v61, v62, v63, v64, v65, v66, v67, v68, v69, v70, v71, v72, v73, v74, v75, v76, v77, v78, v79, v80, v81, v82, v83, v84, v85, v86, v87, v88, v89, v90, v91, v92, v93, v94, v95, v96, v97, v98, v99, v100, v101, v102, v103, v104, v105, v106, v107, v108, v109, v110, v111, v112, v113, v114, v115, v116, v117, v118, v119, v120, v121, v122, v123, v124, v125, v126, v127, v128, v129, v130, v131, v132, v133, v134, v135, v136, v137, v138, v139, v140, v141, v142, v143, v144, v145, v146, v147, v148, v149, v150, v151, v152, v153], []⟩ W1) :
    Code.wp Try.prog (headS (dropS 5 B5)) (Exit.then K Q) ⟨#[u0, u1, u2, u3, u4, u5, u6, u7, u8, u9, u10, u11, u12, u13, u14, u15, u16, u17, u18, u19, u20, u21, u22, u23, u24, u25, u26, u27, u28, u29, u30, u31, u32, u33, u34, u35, u36, u37, u38, u39, u40, u41, u42, u43, u44, u45, u46, u47, u48, u49, u50, u51, u52, u53, u54, u55, u56, u57, u58, u59, u60, u61, u62, u63, u64, u65, u66, u67, u68, u69, u70, u71, u72, u73, u74, u75, u76, u77, u78, u79, u80, u81, u82, u83, u84, u85, u86, u87, u88, u89, u90, u91, u92, u93, u94, u95, u96, u97, u98, u99, u100, u101, u102, u103, u104, u105, u106, u107, u108, u109, u110, u111, u112, u113, u114, u115, u116, u117, u118, u119, u120, u121, u122, u123, u124, u125, u126, u127, u128, u129, u130, u131, u132, u133, u134, u135, u136, u137, u138, u139, u140, u141, u142, u143, u144, u145, u146, u147, u148, u149, u150, u151, u152, u153], []⟩ W := by
  have F := Lib.hid F0
  have HX := Lib.hid hnext
  clear F0 hnext
  obtain ⟨Z, zs, hzl, hmk⟩ := make_zero 70001 (by decide)
  have mk1 : ∀ w : World, (Instr.makeSlice 22 (.int .i64 70001) (.int .i64 70001)).run Try.prog w = .ok (.slice (some ⟨w.heap.size, 0, none⟩) 70001 70001) (w.alloc (.cells Z 5)) := fun w => (hmk w).1
  have HMK := Lib.hid (fun w => (hmk w).2)
  clear hmk hzl
  obtain ⟨W2, hW2⟩ : ∃ V, V = W.alloc (.cells #[.int .u8 0, .int .u8 255, .int .u8 128] 5) := ⟨_, rfl⟩
  have F2 : Hid (Frm No w W2) := by show Frm _ _ _; rw [hW2]; exact F.out.alloc _
  have B2 : Hid (Row W2 w.heap.size W.heap.size 3 3 [0, 255, 128]) := by show Row _ _ _ _ _ _; rw [hW2]; exact row_made W w.heap.size 3 [0, 255, 128] rfl F.out.size (by decide)
  conv => arg 2; whnf
  go_upto_block 8 with fail
  rw [← hW2]
  obtain ⟨cb, hcb⟩ : ∃ b, b = W.heap.size := ⟨_, rfl⟩
  rw [← hcb] at B2 ⊢
  clear hcb hW2 F
  refine wp_block ?_
  go_loopw [106] (fun i wr => ∃ n : Nat, n ≤ 3 ∧ i = .int .i64 n ∧ Hid (Frm No w wr) ∧ Hid (Row wr w.heap.size cb 3 3 [0, 255, 128])) (fun i _ => 3 - (intOf i).toNat)
  case atStart => exact ⟨0, by omega, rfl, F2, B2⟩
  case round =>
    obtain ⟨n, hn, rfl, F3, B3⟩ := hrel
    clear F2 B2
    by_cases hlt : n < 3
    · have n1 : (n : Int) < 3 := by omega
      obtain ⟨x, hx⟩ : ∃ x, ([0, 255, 128] : List UInt8)[n]'hlt = x := ⟨_, rfl⟩
      have c1 : wr.cell? ⟨cb, n, none⟩ = some (.int .u8 (x.toNat : Int)) := by rw [← hx]; exact B3.out.cell n hlt
      clear hx
      obtain ⟨W4, hW4⟩ : ∃ V, V = wr.alloc (.cells Z 5) := ⟨_, rfl⟩
      have F4 : Hid (Frm No wr W4) := by show Frm _ _ _; rw [hW4]; exact (Frm.refl No wr).alloc _
      have R4 : Hid (Row W4 wr.heap.size wr.heap.size 70001 70001 zs) := by show Row _ _ _ _ _ _; rw [hW4]; exact HMK.out wr
      go_upto_block 10 with fail
      rw [← hW4]
      obtain ⟨hb, hhb⟩ : ∃ b, b = wr.heap.size := ⟨_, rfl⟩
      rw [← hhb] at R4 ⊢
      have hle : wr.heap.size ≤ hb := by omega
      clear hhb hW4 c1
      refine wp_block ?_
      go_loopw [113] (fun i wq => ∃ (j : Nat) (bs : List UInt8), j ≤ 70001 ∧ i = .int .i64 j ∧ Hid (Frm No wr wq) ∧ Hid (Row wq hb hb 70001 70001 bs)) (fun i _ => 70001 - (intOf i).toNat)
      case atStart => exact ⟨0, zs, by omega, rfl, F4, R4⟩
      case round =>
        obtain ⟨j, bs, hj, rfl, F5, R5⟩ := hrel
        clear F4 R4
        have bl : bs.length = 70001 := R5.out.len
        by_cases hlj : j < 70001
        · have j1 : (j : Int) < 70001 := by omega
          have d0 := R5.out.cell j (by omega)
          have d1 := R5.out.frozen j
          have R6 := Lib.hid (R5.out.set j x (.int .u8 (x.toNat : Int)) rfl)
          have F6 := Lib.hid (Frm.setCell (p := ⟨hb, j, none⟩) F5.out (fun hx => absurd hx (by show ¬ hb < _; omega)) (.int .u8 (x.toNat : Int)))
          clear F5 R5
          go_wp2_with fail
          go_roundw
          case rel => exact ⟨j + 1, _, by omega, by go_num, F6, R6⟩
          case measure => simp [intOf]; omega
        · obtain rfl : j = 70001 := by omega
          have RD := Lib.hid R5.out.rds
          have RD1 := Lib.hid (R5.out.rds.drop 1 70001 (by omega) (some ⟨hb, 1, none⟩) rfl)
          have bl1 : (bs.drop 1).length = 70000 := by rw [List.length_drop, bl]
          clear R5
          go_wp2_with fail
          refine (tells_any _ (some ⟨hb, 0, none⟩) 70001 70001 bs 69998 1 (by decide) bl (Nat.le_refl _) (fun h => by cases h) RD.out (by decide)).mono ?_
          rintro e w5 ⟨rfl, hf⟩
          have G5 := Lib.hid (F5.out.new0 hf)
          have RD5 := Lib.hid (RD.out.frm hf (fun _ _ x => x))
          have RE5 := Lib.hid (RD1.out.frm hf (fun _ _ x => x))
          clear hf F5 RD RD1
          go_wp2_with fail
          refine (tells_any _ (some ⟨hb, 1, none⟩) 70000 70000 (bs.drop 1) 69998 65535 (by decide) bl1 (Nat.le_refl _) (fun h => by cases h) RE5.out (by decide)).mono ?_
          rintro e w6 ⟨rfl, hf⟩
          have G6 := Lib.hid (G5.out.new0 hf)
          have RD6 := Lib.hid (RD5.out.frm hf (fun _ _ x => x))
          clear hf G5 RD5 RE5
          go_wp2_with fail
          refine (tells_any _ (some ⟨hb, 0, none⟩) 70001 70001 bs 70000 0 (by decide) bl (Nat.le_refl _) (fun h => by cases h) RD6.out (by decide)).mono ?_
          rintro e w7 ⟨rfl, hf⟩
          have G7 := Lib.hid (G6.out.new0 hf)
          have RD7 := Lib.hid (RD6.out.frm hf (fun _ _ x => x))
          clear hf G6 RD6
          go_wp2_with fail
          refine (tells_any _ (some ⟨hb, 0, none⟩) 70001 70001 bs 9223372036854775807 0 (by decide) bl (Nat.le_refl _) (fun h => by cases h) RD7.out (by decide)).mono ?_
          rintro e w8 ⟨rfl, hf⟩
          have G8 := Lib.hid (G7.out.new0 hf)
          have RD8 := Lib.hid (RD7.out.frm hf (fun _ _ x => x))
          clear hf G7 RD7
          go_wp2_with fail
          refine (tells_any _ (some ⟨hb, 0, none⟩) 70001 70001 bs (-9223372036854775808) 0 (by decide) bl (Nat.le_refl _) (fun h => by cases h) RD8.out (by decide)).mono ?_
          rintro e w9 ⟨rfl, hf⟩
          have G9 := Lib.hid (G8.out.new0 hf)
          have FN := Lib.hid (F3.out.new0 G9.out)
          have BN := Lib.hid (B3.out.frm G9.out (fun x => x))
          clear hf G8 RD8 G9 F3 B3
          go_wp2_with fail
          go_roundw
          case rel => exact ⟨n + 1, by omega, by go_num, FN, BN⟩
          case measure => simp [intOf]; omega
    · obtain rfl : n = 3 := by omega
      go_wp2_with fail
      exact HX.out _ _ _ _ _ _ _ _ _ _ _ _ _ _ _ _ _ _ _ _ _ _ _ _ _ _ _ _ _ _ _ _ _ _ _ _ _ _ _ _ _ _ _ _ _ _ _ _ _ _ _ _ _ _ _ _ _ _ _ _ _ _ _ _ _ _ _ _ _ _ _ _ _ _ _ _ _ _ _ _ _ _ _ _ _ _ _ _ _ _ _ _ _ _ _ _ _ _ _ _ _ _ _ _ _ _ _ _ _ _ _ _ _ _ _ _ _ _ _ _ _ _ _ _ _ _ _ _ _ _ _ _ _ _ _ _ _ _ _ _ _ _ _ _ _ _ _ _ _ _ _ _ _ _ _ F3.out

set_option maxRecDepth 100000 in
set_option maxHeartbeats 4000000 in
theorem small_d (w W : World) (u0 u1 u2 u3 u4 u5 u6 u7 u8 u9 u10 u11 u12 u13 u14 u15 u16 u17 u18 u19 u20 u21 u22 u23 u24 u25 u26 u27 u28 u29 u30 u31 u32 u33 u34 u35 u36 u37 u38 u39 u40 u41 u42 u43 u44 u45 u46 u47 u48 u49 u50 u51 u52 u53 u54 u55 u56 u57 u58 u59 u60 u61 u62 u63 u64 u65 u66 u67 u68 u69 u70 u71 u72 u73 u74 u75 u76 u77 u78 u79 u80 u81 u82 u83 u84 u85 u86 u87 u88 u89 u90 u91 u92 u93 u94 u95 u96 u97 u98 u99 u100 u101 u102 u103 u104 u105 u106 u107 u108 u109 u110 u111 u112 u113 u114 u115 u116 u117 u118 u119 u120 u121 u122 u123 u124 u125 u126 u127 u128 u129 u130 u131 u132 u133 u134 u135 u136 u137 u138 u139 u140 u141 u142 u143 u144 u145 u146 u147 u148 u149 u150 u151 u152 u153 : Value) (F0 : Frm No w W) :
    Code.wp Try.prog (dropS 6 B5) (bodyPost Try.prog Try.f5 (fun e w' => e = .returned (.bool true) ∧ Frm No w w')) ⟨#[u0, u1, u2, u3, u4, u5, u6, u7, u8, u9, u10, u11, u12, u13, u14, u15, u16, u17, u18, u19, u20, u21, u22, u23, u24, u25, u26, u27, u28, u29, u30, u31, u32, u33, u34, u35, u36, u37, u38, u39, u40, u41, u42, u43, u44, u45, u46, u47, u48, u49, u50, u51, u52, u53, u54, u55, u56, u57, u58, u59, u60, u61, u62, u63, u64, u65, u66, u67, u68, u69, u70, u71, u72, u73, u74, u75, u76, u77, u78, u79, u80, u81, u82, u83, u84, u85, u86, u87, u88, u89, u90, u91, u92, u93, u94, u95, u96, u97, u98, u99, u100, u101, u102, u103, u104, u105, u106, u107, u108, u109, u110, u111, u112, u113, u114, u115, u116, u117, u118, u119, u120, u121, u122, u123, u124, u125, u126, u127, u128, u129, u130, u131, u132, u133, u134, u135, u136, u137, u138, u139, u140, u141, u142, u143, u144, u145, u146, u147, u148, u149, u150, u151, u152, u153], []⟩ W := by
  have F := Lib.hid F0
  clear F0
  obtain ⟨Z, zs, hzl, hmk⟩ := make_words 70000 (by decide)
  have mk1 : ∀ w : World, (Instr.makeSlice 26 (.int .i64 70000) (.int .i64 70000)).run Try.prog w = .ok (.slice (some ⟨w.heap.size, 0, none⟩) 70000 70000) (w.alloc (.cells Z 23)) := fun w => (hmk w).1
  have HMK := Lib.hid (fun w => (hmk w).2)
  have HZL := Lib.hid hzl
  clear hmk hzl
  conv => arg 2; whnf
  go_wp2_with fail
  refine (numbers W none 0 0 [] 0 0 0 0 0 0 (-9223372036854775808) rfl (fun _ => rfl) (by decide) (by decide) (by decide) (by decide) (by decide) (by decide) (fun h => absurd h (by decide))).mono ?_
  rintro e w1 ⟨rfl, hf⟩
  have F1 := Lib.hid (F.out.new0 hf)
  clear hf F
  go_wp2_with fail
  refine (numbers _ (some ⟨w1.heap.size, 0, none⟩) 70000 70000 zs 0 65535 0 4294967295 0 255 65536 HZL.out (fun h => by cases h) (by decide) (by decide) (by decide) (by decide) (by decide) (by decide) (HMK.out _)).mono ?_
  rintro e w2 ⟨rfl, hf⟩
  have F2 := Lib.hid ((F1.out.alloc _).new0 hf)
  clear hf F1
  go_wp2_with fail
  refine (awake _).mono ?_
  rintro e w3 ⟨rfl, hf⟩
  have F3 := Lib.hid (F2.out.new0 hf)
  clear hf
  go_wp2_with fail
  go_ret
  exact ⟨rfl, F3.out⟩
end Go.Proofs.Ytnokbnggpbjchaa
