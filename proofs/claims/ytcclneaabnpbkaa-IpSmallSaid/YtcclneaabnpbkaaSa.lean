/-
  IpSmall: the first loops.
-/
import Derived.Test.YtcclneaabnpbkaaFx
import Derived.Test.YtcclneaabnpbkaaQQ
import Derived.BigFrame
namespace Go.Proofs.Ytcclneaabnpbkaa
open Go.RowKit
attribute [local go_sem] undef

noncomputable def B5 : Code := Try.f5.body.getD .skip
def exL : List UInt8 := [69, 0, 0, 22, 0, 1, 0, 0, 64, 17, 102, 212, 10, 0, 0, 1, 10, 0, 0, 2, 7, 8]
def kL : List UInt8 := [0, 1, 2, 4, 19, 20, 21, 22, 23, 31, 32, 64, 63, 65, 68, 70, 79, 80, 127, 128, 224, 254, 255]

/-- An append behind a guard that says yes. -/
theorem wpList_append_bytes_g {ops : Array Oper} {rest : List Oper} {o : Oper} {a : Act} {w : World} {Q : Exit → Act → World → Prop} (hw : Region.wanted o (yielded ops a.tmps) = true) (s x : Operand)
    (ho : o.op = .call { callee := .builtin .append, args := #[s, x], argTypes := #[22, 22] })
    (base : Nat) (v : Value) (n : Nat) (xs : List UInt8) (hs : a.eval s = v) (hown : w.ownsRow base 5 1 v n (byts xs))
    (A : Option Addr) (m c : Nat) (ys : List UInt8) (hx : a.eval x = .slice A m c) (hm : ys.length = m) (hr : Rds w A ys) (hnil : A = none → c = 0)
    (hbytes : n + m ≤ 140737488355328) (hbase : base ≤ w.heap.size)
    (h : ∀ v' w', w'.ownsRow base 5 1 v' (n + m) (byts (xs ++ ys)) → w.grownBy w' v.ownBlock → wpList Try.prog ops Q rest (a.put o.dst v') w') : wpList Try.prog ops Q (o :: rest) a w := by
  refine BigFrame.wpList_want hw fun K hK => ?_
  have h1 := step_append_bytes (ops := ops) (o := { o with guard := none }) (K := K) (Q := Q) (E := True) rfl s x ho base v n xs hs hown A m c ys hx hm hr hnil hbytes hbase (fun v' w' h1 h2 => hK _ _ (h v' w' h1 h2))
  rw [if_pos (show Region.wanted _ _ = true from rfl)] at h1
  cases o
  exact h1

set_option maxRecDepth 100000 in
set_option maxHeartbeats 1000000 in
theorem exampleSm (w : World) : Calls Try.prog 15 #[] w fun e w' => ∃ eb, e = .returned (.slice (some ⟨eb, 0, none⟩) 22 22) ∧ Row w' w.heap.size eb 22 22 exL ∧ Frm No w w' := by
  have h : Row (w.alloc (.cells #[.int .u8 69, .int .u8 0, .int .u8 0, .int .u8 22, .int .u8 0, .int .u8 1, .int .u8 0, .int .u8 0, .int .u8 64, .int .u8 17, .int .u8 102, .int .u8 212, .int .u8 10, .int .u8 0, .int .u8 0, .int .u8 1, .int .u8 10, .int .u8 0, .int .u8 0, .int .u8 2, .int .u8 7, .int .u8 8] 5)) w.heap.size w.heap.size 22 22 exL := row_made w w.heap.size 22 exL rfl (Nat.le_refl _) (by decide)
  have H := Lib.hid h
  clear h
  go_enter Try.func15, Try.ntmps15
  go_wp2_with fail
  go_ret
  exact ⟨_, rfl, H.out, (Frm.refl No w).alloc _⟩

/-- What is there in the loops. -/
structure SmE (w W : World) (eb : Nat) : Prop where
  frm : Frm No w W
  row : Row W w.heap.size eb 22 22 exL
theorem SmE.no {w W W2 : World} {eb : Nat} (h : SmE w W eb) (hf : Frm No W W2) : SmE w W2 eb := ⟨h.frm.new0 hf, h.row.frm hf (fun x => x)⟩

theorem copy_out {V w3 : World} {v' : Value} (hown : w3.ownsRow V.heap.size 5 1 v' (0 + 22) (byts ([] ++ exL))) (hgr : (V.alloc (.cells #[] 5)).grownBy w3 (Value.slice (some ⟨V.heap.size, 0, none⟩) 0 0).ownBlock) :
    ∃ g c, v' = .slice (some ⟨g, 0, none⟩) 22 c ∧ Row w3 V.heap.size g 22 c exL ∧ Frm No V w3 := by
  obtain ⟨g, c, hv, hrow⟩ := Row.of_own hown (by omega)
  exact ⟨g, c, hv, hrow, ((Frm.refl No V).alloc _).trans (Frm.of_grown hgr) (fun i hi hs => by have hs' : some V.heap.size = some i := hs; injection hs' with hs'; omega)⟩


set_option maxRecDepth 100000 in
set_option maxHeartbeats 8000000 in
theorem small_a (w W : World) (u0 u2 u3 u4 u5 u6 u7 u8 u9 u10 u11 u12 u13 u14 u15 u16 u17 u18 u19 u20 u21 u22 u23 u24 u25 u26 u27 u28 u29 u30 u31 u32 u33 u34 u35 u36 u37 u38 u39 u40 u41 u42 u43 u44 u45 u46 u47 u48 u49 u50 u51 u52 u53 u54 u55 u56 u57 u58 u59 u60 u61 u62 u63 u64 u65 u66 u67 u68 u69 u70 u71 u72 u73 u74 u75 u76 u77 u78 u79 u80 u81 u82 u83 u84 u85 u86 u87 u88 u89 u90 u91 u92 u93 u94 u95 u96 u97 u98 u99 u100 u101 u102 u103 u104 u105 u106 u107 u108 u109 u110 u111 u112 u113 u114 u115 u116 u117 u118 u119 u120 u121 u122 u123 u124 u125 u126 u127 u128 u129 u130 u131 u132 u133 u134 u135 u136 u137 u138 u139 u140 u141 u142 u143 u144 u145 u146 u147 u148 u149 u150 u151 u152 u153 u154 u155 u156 u157 u158 u159 u160 u161 u162 u163 u164 u165 u166 u167 u168 u169 u170 u171 u172 u173 u174 u175 u176 u177 u178 u179 u180 u181 : Value) (eb : Nat) (K : Act → World → Prop) (Q : Exit → Act → World → Prop)
    (S0 : SmE w W eb) (hnext : ∀ (v0 v2 v3 v4 v5 v6 v7 v8 v9 v10 v11 v12 v13 v14 v15 v16 v17 v18 v19 v20 v21 v22 v23 v24 v25 v26 v27 v28 v29 v30 v31 v32 v33 v34 v35 v36 v37 v38 v39 v40 v41 v42 v43 v44 v45 v46 v47 v48 v49 v50 v51 v52 v53 v54 v55 v56 v57 v58 v59 v60 v61 v62 v63 v64 v65 v66 v67 v68 v69 v70 v71 v72 v73 v74 v75 v76 v77 v78 v79 v80 v81 v82 v83 v84 v85 v86 v87 v88 v89 v90 v91 v92 v93 v94 v95 v96 v97 v98 v99 v100 v101 v102 v103 v104 v105 v106 v107 v108 v109 v110 v111 v112 v113 v114 v115 v116 v117 v118 v119 v120 v121 v122 v123 v124 v125 v126 v127 v128 v129 v130 v131 v132 v133 v134 v135 v136 v137 v138 v139 v140 v141 v142 v143 v144 v145 v146 v147 v148 v149 v150 v151 v152 v153 v154 v155 v156 v157 v158 v159 v160 v161 v162 v163 v164 v165 v166 v167 v168 v169 v170 v171 v172 v173 v174 v175 v176 v177 v178 v179 v180 v181 : Value) (W1 : World), SmE w W1 eb → K ⟨#[v0, .slice (some ⟨eb, 0, none⟩) 22 22, v2, v3, v4, v5, v6, v7, v8, v9, v10, v11, v12, v13, v14, v15, v16, v17, v18, v19, v20, v21, v22, v23, v24, v25, v26, v27, v28, v29, v30, v31, v32, v33, v34, v35, v36, v37, v38, v39, v40, v41, v42, v43, v44, v45, v46, v47, v48, v49, v50, v51, v52, v53, v54, v55, v56, v57, v58, v59, v60, v61, v62, v63, v64, v65, v66, v67, v68, v69, v70, v71, v72, v73, v74, v75, v76, v77, v78, v79, v80, v81, v82, v83, v84, v85, v86, v87, v88, v89, v90, v91, v92, v93, v94, v95, v96, v97, v98, v99, v100, v101, v102, v103, v104, v105, v106, v107, v108, v109, v110, v111, v112, v113, v114, v115, v116, v117, v118, v119, v120, v121, v122, v123, v124, v125, v126, v127, v128, v129, v130, v131, v132, v133, v134, v135, v136, v137, v138, v139, v140, v141, v142, v143, v144, v145, v146, v147, v148, v149, v150, v151, v152, v153, v154, v155, v156, v157, v158, v159, v160, v161, v162, v163, v164, v165, v166, v167, v168, v169, v170, v171, v172, v173, v174, v175, v176, v177, v178, v179, v180, v181], []⟩ W1) :
    Code.wp Try.prog (headS (dropS 2 B5)) (Exit.then K Q) ⟨#[u0, .slice (some ⟨eb, 0, none⟩) 22 22, u2, u3, u4, u5, u6, u7, u8, u9, u10, u11, u12, u13, u14, u15, u16, u17, u18, u19, u20, u21, u22, u23, u24, u25, u26, u27, u28, u29, u30, u31, u32, u33, u34, u35, u36, u37, u38, u39, u40, u41, u42, u43, u44, u45, u46, u47, u48, u49, u50, u51, u52, u53, u54, u55, u56, u57, u58, u59, u60, u61, u62, u63, u64, u65, u66, u67, u68, u69, u70, u71, u72, u73, u74, u75, u76, u77, u78, u79, u80, u81, u82, u83, u84, u85, u86, u87, u88, u89, u90, u91, u92, u93, u94, u95, u96, u97, u98, u99, u100, u101, u102, u103, u104, u105, u106, u107, u108, u109, u110, u111, u112, u113, u114, u115, u116, u117, u118, u119, u120, u121, u122, u123, u124, u125, u126, u127, u128, u129, u130, u131, u132, u133, u134, u135, u136, u137, u138, u139, u140, u141, u142, u143, u144, u145, u146, u147, u148, u149, u150, u151, u152, u153, u154, u155, u156, u157, u158, u159, u160, u161, u162, u163, u164, u165, u166, u167, u168, u169, u170, u171, u172, u173, u174, u175, u176, u177, u178, u179, u180, u181], []⟩ W := by
  have S := Lib.hid S0
  have HX := Lib.hid hnext
  clear S0 hnext
  conv => arg 2; whnf
  go_wp2_with fail
  go_loopw [26] (fun i wr => ∃ j : Nat, j ≤ 22 ∧ i = .int .i64 j ∧ Hid (SmE w wr eb)) (fun i _ => 22 - (intOf i).toNat)
  case atStart => exact ⟨0, by omega, rfl, S⟩
  case round =>
    obtain ⟨j, hj, rfl, S1⟩ := hrel
    clear S
    by_cases hlt : j < 22
    · have j1 : (j : Int) < 22 := by omega
      obtain ⟨W2, hW2⟩ : ∃ V, V = wr.alloc (.cells #[.int .u8 0, .int .u8 1, .int .u8 2, .int .u8 4, .int .u8 19, .int .u8 20, .int .u8 21, .int .u8 22, .int .u8 23, .int .u8 31, .int .u8 32, .int .u8 64, .int .u8 63, .int .u8 65, .int .u8 68, .int .u8 70, .int .u8 79, .int .u8 80, .int .u8 127, .int .u8 128, .int .u8 224, .int .u8 254, .int .u8 255] 5) := ⟨_, rfl⟩
      have RK : Hid (Row W2 w.heap.size wr.heap.size 23 23 kL) := by
        show Row _ _ _ _ _ _
        rw [hW2]
        exact row_made wr w.heap.size 23 kL rfl S1.out.frm.size (by decide)
      have S2 : Hid (SmE w W2 eb) := by show SmE w W2 eb; rw [hW2]; exact S1.out.no ((Frm.refl No wr).alloc _)
      go_upto_block 2 with fail
      rw [← hW2]
      clear hW2 S1
      obtain ⟨kb, hkb⟩ : ∃ b, b = wr.heap.size := ⟨_, rfl⟩
      rw [← hkb] at RK ⊢
      clear hkb
      refine wp_block ?_
      go_loopw [31] (fun i wr => ∃ q : Nat, q ≤ 23 ∧ i = .int .i64 q ∧ Hid (SmE w wr eb) ∧ Hid (Row wr w.heap.size kb 23 23 kL)) (fun i _ => 23 - (intOf i).toNat)
      case atStart => exact ⟨0, by omega, rfl, S2, RK⟩
      case round =>
        obtain ⟨q, hq, rfl, S3, RK3⟩ := hrel
        clear S2 RK
        by_cases hlq : q < 23
        · have q1 : (q : Int) < 23 := by omega
          have hql : q < kL.length := by exact hlq
          obtain ⟨x, hx⟩ : ∃ x, kL[q] = x := ⟨_, rfl⟩
          have c0 : wr.cell? ⟨kb, q, none⟩ = some (.int .u8 (x.toNat : Int)) := by rw [← hx]; exact RK3.out.cell q hql
          have hown : Hid ((wr.alloc (.cells #[] 5)).ownsRow wr.heap.size 5 1 (.slice (some ⟨wr.heap.size, 0, none⟩) 0 0) 0 (byts [])) := World.ownsRow_made wr #[] 0 (Nat.le_refl _) (by unfold maxLen; omega) (by simp)
          have RDA := Lib.hid (S3.out.row.rds.frm ((Frm.refl No wr).alloc (.cells #[] 5)) (fun _ _ x => x))
          have HXQ := Lib.hid hx
          clear hx
          go_upto_region 9 with (at_builtin; refine wpList_append_bytes rfl (.tmp 35) (.tmp 36) rfl wr.heap.size _ 0 [] rfl hown.out (some ⟨eb, 0, none⟩) 22 22 exL rfl rfl RDA.out (fun h => by cases h) (by omega) (by simp) ?_; intro v' w3 hown' hgr; obtain ⟨cb, cc, rfl, hrow, hf⟩ := copy_out hown' hgr; have R3 := Lib.hid hrow; have F3 := Lib.hid hf; clear hown' hgr hrow hf)
          have hcap := R3.out.cap
          have el : exL.length = 22 := rfl
          have d0 := R3.out.cell j (by omega)
          have d1 := R3.out.frozen j
          have T4 := Lib.hid (R3.out.set j x (.int .u8 (x.toNat : Int)) rfl)
          clear hown RDA c0
          go_upto_region 10 with fail
          obtain ⟨W4, hW4⟩ : ∃ V, w3.setCell ⟨cb, j, none⟩ (.int .u8 (x.toNat : Int)) = V := ⟨_, rfl⟩
          have F4 : Hid (Frm No wr W4) := by show Frm _ _ _; rw [← hW4]; exact F3.out.setCell (p := ⟨cb, j, none⟩) (fun hx => absurd hx (by show ¬ cb < _; omega)) _
          rw [hW4] at T4 ⊢
          obtain ⟨ys, hys⟩ : ∃ q, exL.set j x = q := ⟨_, rfl⟩
          rw [hys] at T4
          have yl : ys.length = 22 := T4.out.len
          clear hW4 d0 d1 R3 F3 hys el
          have hcc : 22 ≤ cc := hcap.1
          clear hcap
          go_wp2_with fail
          refine (reads_any W4 (some ⟨cb, 0, none⟩) 22 cc ys yl hcc T4.out.rds (fun h => by cases h)).mono ?_
          rintro e w5 ⟨rfl, hf⟩
          have F5 := Lib.hid (F4.out.new0 hf)
          have T5 := Lib.hid (T4.out.frm hf (fun x => x))
          clear hf T4 F4
          go_wp2_with fail
          refine (fixed_any w5 ⟨cb, 0, none⟩ cc ys yl T5.out.rds).mono ?_
          rintro e w6 ⟨g6, c6, xs6, rfl, hrow, hf⟩
          have F6 := Lib.hid (F5.out.new0 hf)
          have T6 := Lib.hid (T5.out.frm hf (fun x => x))
          have R6 := Lib.hid hrow
          clear hf hrow T5 F5
          go_wp2_with fail
          refine (reads_any w6 (some ⟨g6, 0, none⟩) 22 c6 xs6 R6.out.len R6.out.cap.1 R6.out.rds (fun h => by cases h)).mono ?_
          rintro e w7 ⟨rfl, hf⟩
          have F7 := Lib.hid (F6.out.new0 hf)
          have T7 := Lib.hid (T6.out.frm hf (fun x => x))
          clear hf R6 T6 F6
          go_wp2_with fail
          refine (fixed_any w7 ⟨cb, 0, none⟩ cc ys yl T7.out.rds).mono ?_
          rintro e w8 ⟨g8, c8, xs8, rfl, hrow, hf⟩
          have F8 := Lib.hid (F7.out.new0 hf)
          obtain ⟨W9, hW9⟩ : ∃ V, V = w8.alloc (.cells #[.int .u8 9, .int .u8 9] 5) := ⟨_, rfl⟩
          have R9 : Hid (Row W9 w7.heap.size g8 22 c8 xs8) := by show Row _ _ _ _ _ _; rw [hW9]; exact hrow.frm ((Frm.refl No w8).alloc _) (fun x => x)
          have G9 : Hid (Frm No w7 W9) := by show Frm _ _ _; rw [hW9]; exact hf.alloc _
          have N9 : Hid (Rds W9 (some ⟨w8.heap.size, 0, none⟩) [9, 9]) := by show Rds _ _ _; rw [hW9]; exact rds_new w8 [9, 9]
          have z9 := G9.out.size
          clear hf hrow T7
          go_wp2_with (at_builtin; rw [← hW9]; refine wpList_append_bytes_g (by rfl) (.tmp 53) (.tmp 54) rfl w7.heap.size _ 22 xs8 rfl R9.out (some ⟨w8.heap.size, 0, none⟩) 2 2 [9, 9] rfl rfl N9.out (fun h => by cases h) (by omega) z9 ?_; intro v' w10 hown hgr; obtain ⟨g10, c10, rfl, hF, hO⟩ := app_step G9.out R9.out hown hgr (by omega) 24 rfl; have G10 := Lib.hid hF; have R10 := Lib.hid hO; clear hown hgr hF hO)
          refine (reads_any w10 (some ⟨g10, 0, none⟩) 24 c10 (xs8 ++ [9, 9]) R10.out.len R10.out.cap.1 R10.out.rds (fun h => by cases h)).mono ?_
          rintro e w11 ⟨rfl, hf⟩
          have FE := Lib.hid ((F7.out.new0 G10.out).new0 hf)
          have S11 := Lib.hid (S3.out.no FE.out)
          have K11 := Lib.hid (RK3.out.frm FE.out (fun x => x))
          clear hf hW9 F7 G10 R10 F8 R9 G9 N9 z9 FE S3 RK3
          go_wp2_with fail
          go_roundw
          case rel => exact ⟨q + 1, by omega, by go_num, S11, K11⟩
          case measure => simp [intOf]; omega
        · obtain rfl : q = 23 := by omega
          clear RK3
          go_upto_region 13 with fail
          have hr := (S3.out.row.rds.take j)
          have HTK := Lib.hid hr
          clear hr
          have jc : (j : Int) ≤ 22 := by omega
          go_wp2_with fail
          refine (reads_any _ (some ⟨eb, 0, none⟩) j 22 (exL.take j) (by simp [exL]; omega) (by omega) HTK.out (fun h => by cases h)).mono ?_
          rintro e w5 ⟨rfl, hf⟩
          have S5 := Lib.hid (S3.out.no hf)
          clear hf S3 HTK
          go_wp2_with fail
          go_roundw
          case rel => exact ⟨j + 1, by omega, by go_num, S5⟩
          case measure => simp [intOf]; omega
    · obtain rfl : j = 22 := by omega
      go_wp2_with fail
      exact HX.out _ _ _ _ _ _ _ _ _ _ _ _ _ _ _ _ _ _ _ _ _ _ _ _ _ _ _ _ _ _ _ _ _ _ _ _ _ _ _ _ _ _ _ _ _ _ _ _ _ _ _ _ _ _ _ _ _ _ _ _ _ _ _ _ _ _ _ _ _ _ _ _ _ _ _ _ _ _ _ _ _ _ _ _ _ _ _ _ _ _ _ _ _ _ _ _ _ _ _ _ _ _ _ _ _ _ _ _ _ _ _ _ _ _ _ _ _ _ _ _ _ _ _ _ _ _ _ _ _ _ _ _ _ _ _ _ _ _ _ _ _ _ _ _ _ _ _ _ _ _ _ _ _ _ _ _ _ _ _ _ _ _ _ _ _ _ _ _ _ _ _ _ _ _ _ _ _ _ _ _ _ _ S1.out
end Go.Proofs.Ytcclneaabnpbkaa
