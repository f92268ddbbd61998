/-
  CsumSmall: the loops over bytes.
-/
import Derived.Test.YtnokbnggpbjchaaT1
import Derived.Deep.RegionHeld3
import Derived.LoopN
namespace Go.Proofs.Ytnokbnggpbjchaa
open Go.RowKit
attribute [local go_sem] undef

def dropS : Nat → Code → Code
  | 0, c => c
  | n + 1, .seq _ b => dropS n b
  | _, c => c
def headS : Code → Code
  | .seq a _ => a
  | c => c
noncomputable def B5 : Code := Try.f5.body.getD .skip
def someL : List UInt8 := [0, 1, 2, 127, 128, 254, 255]

set_option maxRecDepth 100000 in
set_option maxHeartbeats 8000000 in
theorem small_a (w W : World) (u0 u2 u3 u4 u5 u6 u7 u8 u9 u10 u11 u12 u13 u14 u15 u16 u17 u18 u19 u20 u21 u22 u23 u24 u25 u26 u27 u28 u29 u30 u31 u32 u33 u34 u35 u36 u37 u38 u39 u40 u41 u42 u43 u44 u45 u46 u47 u48 u49 u50 u51 u52 u53 u54 u55 u56 u57 u58 u59 u60 u61 u62 u63 u64 u65 u66 u67 u68 u69 u70 u71 u72 u73 u74 u75 u76 u77 u78 u79 u80 u81 u82 u83 u84 u85 u86 u87 u88 u89 u90 u91 u92 u93 u94 u95 u96 u97 u98 u99 u100 u101 u102 u103 u104 u105 u106 u107 u108 u109 u110 u111 u112 u113 u114 u115 u116 u117 u118 u119 u120 u121 u122 u123 u124 u125 u126 u127 u128 u129 u130 u131 u132 u133 u134 u135 u136 u137 u138 u139 u140 u141 u142 u143 u144 u145 u146 u147 u148 u149 u150 u151 u152 u153 : Value) (sb : Nat) (K : Act → World → Prop) (Q : Exit → Act → World → Prop)
    (F0 : Frm No w W) (R0 : Row W w.heap.size sb 7 7 someL) (hnext : ∀ (v0 v2 v3 v4 v5 v6 v7 v8 v9 v10 v11 v12 v13 v14 v15 v16 v17 v18 v19 v20 v21 v22 v23 v24 v25 v26 v27 v28 v29 v30 v31 v32 v33 v34 v35 v36 v37 v38 v39 v40 v41 v42 v43 v44 v45 v46 v47 v48 v49 v50 v51 v52 v53 v54 v55 v56 v57 v58 v59 v60 v61 v62 v63 v64 v65 v66 v67 v68 v69 v70 v71 v72 v73 v74 v75 v76 v77 v78 v79 v80 v81 v82 v83 v84 v85 v86 v87 v88 v89 v90 v91 v92 v93 v94 v95 v96 v97 v98 v99 v100 v101 v102 v103 v104 v105 v106 v107 v108 v109 v110 v111 v112 v113 v114 v115 v116 v117 v118 v119 v120 v121 v122 v123 v124 v125 v126 v127 v128 v129 v130 v131 v132 v133 v134 v135 v136 v137 v138 v139 v140 v141 v142 v143 v144 v145 v146 v147 v148 v149 v150 v151 v152 v153 : Value) (W1 : World), Frm No w W1 → K ⟨#[v0, .slice (some ⟨sb, 0, none⟩) 7 7, v2, v3, v4, v5, v6, v7, v8, v9, v10, v11, v12, v13, v14, v15, v16, v17, v18, v19, v20, v21, v22, v23, v24, v25, v26, v27, v28, v29, v30, v31, v32, v33, v34, v35, v36, v37, v38, v39, v40, v41, v42, v43, v44, v45, v46, v47, v48, v49, v50, v51, v52, v53, v54, v55, v56, v57, v58, v59, v60, v61, v62, v63, v64, v65, v66, v67, v68, v69, v70, v71, v72, v73, v74, v75, v76, v77, v78, v79, v80, v81, v82, v83, v84, v85, v86, v87, v88, v89, v90, v91, v92, v93, v94, v95, v96, v97, v98, v99, v100, v101, v102, v103, v104, v105, v106, v107, v108, v109, v110, v111, v112, v113, v114, v115, v116, v117, v118, v119, v120, v121, v122, v123, v124, v125, v126, v127, v128, v129, v130, v131, v132, v133, v134, v135, v136, v137, v138, v139, v140, v141, v142, v143, v144, v145, v146, v147, v148, v149, v150, v151, v152, v153], []⟩ W1) :
    Code.wp Try.prog (headS (dropS 2 B5)) (Exit.then K Q) ⟨#[u0, .slice (some ⟨sb, 0, none⟩) 7 7, u2, u3, u4, u5, u6, u7, u8, u9, u10, u11, u12, u13, u14, u15, u16, u17, u18, u19, u20, u21, u22, u23, u24, u25, u26, u27, u28, u29, u30, u31, u32, u33, u34, u35, u36, u37, u38, u39, u40, u41, u42, u43, u44, u45, u46, u47, u48, u49, u50, u51, u52, u53, u54, u55, u56, u57, u58, u59, u60, u61, u62, u63, u64, u65, u66, u67, u68, u69, u70, u71, u72, u73, u74, u75, u76, u77, u78, u79, u80, u81, u82, u83, u84, u85, u86, u87, u88, u89, u90, u91, u92, u93, u94, u95, u96, u97, u98, u99, u100, u101, u102, u103, u104, u105, u106, u107, u108, u109, u110, u111, u112, u113, u114, u115, u116, u117, u118, u119, u120, u121, u122, u123, u124, u125, u126, u127, u128, u129, u130, u131, u132, u133, u134, u135, u136, u137, u138, u139, u140, u141, u142, u143, u144, u145, u146, u147, u148, u149, u150, u151, u152, u153], []⟩ W := by
  have F := Lib.hid F0
  have R := Lib.hid R0
  have HX := Lib.hid hnext
  clear F0 R0 hnext
  conv => arg 2; whnf
  go_wp2_with fail
  go_loopw [16] (fun i wr => ∃ n : Nat, n ≤ 343 ∧ i = .int .i64 n ∧ Hid (Frm No w wr) ∧ Hid (Row wr w.heap.size sb 7 7 someL)) (fun i _ => 343 - (intOf i).toNat)
  case atStart => exact ⟨0, by omega, rfl, F, R⟩
  case round =>
    obtain ⟨n, hn, rfl, F1, R1⟩ := hrel
    clear F R
    by_cases hlt : n < 343
    · have n1 : (n : Int) < 343 := by omega
      obtain ⟨q1, e1, e1', l1⟩ : ∃ q : Nat, (n : Int).tmod 7 = (q : Int) ∧ (n : Int) % 7 = (q : Int) ∧ q < 7 := ⟨n % 7, by rw [Int.tmod_eq_emod_of_nonneg (by omega)]; omega, by omega, by omega⟩
      obtain ⟨d, e2, e2', l2⟩ : ∃ q : Nat, (n : Int).tdiv 7 = (q : Int) ∧ (n : Int) / 7 = (q : Int) ∧ q < 49 := ⟨n / 7, by rw [Int.tdiv_eq_ediv_of_nonneg (by omega)]; omega, by omega, by omega⟩
      obtain ⟨q2, e3, e3', l3⟩ : ∃ q : Nat, (d : Int).tmod 7 = (q : Int) ∧ (d : Int) % 7 = (q : Int) ∧ q < 7 := ⟨d % 7, by rw [Int.tmod_eq_emod_of_nonneg (by omega)]; omega, by omega, by omega⟩
      obtain ⟨q3, e4, e4', l4⟩ : ∃ q : Nat, (n : Int).tdiv 49 = (q : Int) ∧ (n : Int) / 49 = (q : Int) ∧ q < 7 := ⟨n / 49, by rw [Int.tdiv_eq_ediv_of_nonneg (by omega)]; omega, by omega, by omega⟩
      have wd : IntKind.i64.wrap (d : Int) = (d : Int) := by rw [IntWalk.i64_in] <;> omega
      have wq3 : IntKind.i64.wrap (q3 : Int) = (q3 : Int) := by rw [IntWalk.i64_in] <;> omega
      have b1 : (q1 : Int) < 7 := by omega
      have b2 : (q2 : Int) < 7 := by omega
      have b3 : (q3 : Int) < 7 := by omega
      have sl : someL.length = 7 := rfl
      obtain ⟨x1, hx1⟩ : ∃ x, someL[q1]'(by omega) = x := ⟨_, rfl⟩
      obtain ⟨x2, hx2⟩ : ∃ x, someL[q2]'(by omega) = x := ⟨_, rfl⟩
      obtain ⟨x3, hx3⟩ : ∃ x, someL[q3]'(by omega) = x := ⟨_, rfl⟩
      have c1 : wr.cell? ⟨sb, q1, none⟩ = some (.int .u8 (x1.toNat : Int)) := by rw [← hx1]; exact R1.out.cell q1 (by omega)
      have c2 : wr.cell? ⟨sb, q2, none⟩ = some (.int .u8 (x2.toNat : Int)) := by rw [← hx2]; exact R1.out.cell q2 (by omega)
      have c3 : wr.cell? ⟨sb, q3, none⟩ = some (.int .u8 (x3.toNat : Int)) := by rw [← hx3]; exact R1.out.cell q3 (by omega)
      clear hx1 hx2 hx3 sl
      obtain ⟨W2, hW2⟩ : ∃ V, V = (wr.drew).alloc (.cells #[.int .u8 (x1.toNat : Int), .int .u8 (x2.toNat : Int), .int .u8 (x3.toNat : Int)] 5) := ⟨_, rfl⟩
      have hW3 : W2 = (wr.alloc (.cells #[.int .u8 (x1.toNat : Int), .int .u8 (x2.toNat : Int), .int .u8 (x3.toNat : Int)] 5)).drew := hW2
      have F2 : Hid (Frm No wr W2) := by show Frm _ _ _; rw [hW2]; exact (Frm.refl No wr).drew.alloc _
      have RB : Hid (Row W2 wr.heap.size wr.heap.size 3 3 [x1, x2, x3]) := by show Row _ _ _ _ _ _; rw [hW2]; exact row_made wr.drew wr.heap.size 3 [x1, x2, x3] rfl (Nat.le_refl _) (by decide)
      obtain ⟨p, hp1, hp2, hp3⟩ : ∃ p : Nat, IntKind.u16.wrap ((n : Int) * 191) = (p : Int) ∧ ((n : Int) * 191) % 65536 = (p : Int) ∧ p ≤ 65535 := ⟨n * 191, by have e : IntKind.u16.wrap ((n : Int) * 191) = ((n : Int) * 191) % 65536 := rfl; rw [e]; omega, by omega, by omega⟩
      have hw1 : IntKind.u16.wrap (n : Int) = (n : Int) := by have e : IntKind.u16.wrap (n : Int) = (n : Int) % 65536 := rfl; rw [e]; omega
      have hw2 : (n : Int) % 65536 = (n : Int) := by omega
      have hw3 : IntKind.i64.wrap (n : Int) = (n : Int) := by rw [IntWalk.i64_in] <;> omega
      go_upto_region 5 with fail
      go_region_held3 (fun W => W.cell? ⟨sb, q1, none⟩ = some (.int .u8 (x1.toNat : Int)) ∧ W.cell? ⟨sb, q2, none⟩ = some (.int .u8 (x2.toNat : Int)) ∧ W.cell? ⟨sb, q3, none⟩ = some (.int .u8 (x3.toNat : Int))) (go_keep) (fail)
      clear c1 c2 c3
      first | rw [← hW2] | rw [← hW3]
      clear hW2 hW3
      obtain ⟨bb, hbb⟩ : ∃ b, b = wr.heap.size := ⟨_, rfl⟩
      rw [← hbb] at RB ⊢
      clear hbb
      go_upto_block 2 with fail
      refine wp_block ?_
      obtain ⟨V0, rfl⟩ : ∃ V, V = wr := ⟨_, rfl⟩
      go_loopw [36] (fun i wq => ∃ z : Nat, z ≤ 4 ∧ i = .int .i64 z ∧ Hid (Frm No V0 wq) ∧ Hid (Rds wq (some ⟨bb, 0, none⟩) [x1, x2, x3])) (fun i _ => 4 - (intOf i).toNat)
      case atStart => exact ⟨0, by omega, rfl, F2, Lib.hid RB.out.rds⟩
      case round =>
        obtain ⟨z, hz, rfl, F3, R3⟩ := hrel
        clear F2 RB
        by_cases hlz : z < 4
        · have z1 : (z : Int) < 4 := by omega
          have z3 : (z : Int) ≤ 3 := by omega
          go_upto_block 4 with fail
          refine wp_block ?_
          go_loopw [5] (fun i wq => ∃ a : Int, -2 ≤ a ∧ a ≤ 5 ∧ i = .int .i64 a ∧ Hid (Frm No V0 wq) ∧ Hid (Rds wq (some ⟨bb, 0, none⟩) [x1, x2, x3])) (fun i _ => (5 - intOf i).toNat)
          case atStart => exact ⟨-2, by omega, by omega, rfl, F3, R3⟩
          case round =>
            obtain ⟨a, ha1, ha2, rfl, F4, R4⟩ := hrel
            clear F3 R3
            by_cases hla : a < 5
            · have RT := Lib.hid (R4.out.take z)
              have hlen : ([x1, x2, x3].take z).length = z := by simp; omega
              go_wp2_with fail
              refine (tells_any _ (some ⟨bb, 0, none⟩) z 3 ([x1, x2, x3].take z) a p hp3 hlen (by omega) (fun h => by cases h) RT.out (by omega)).mono ?_
              rintro e w5 ⟨rfl, hf⟩
              have F5 := Lib.hid (F4.out.new0 hf)
              have R5 := Lib.hid (R4.out.frm hf (fun _ _ x => x))
              clear hf F4 R4 RT hlen
              go_wp2_with fail
              go_roundw
              case rel => exact ⟨a + 1, by omega, by omega, by go_num, F5, R5⟩
              case measure => simp [intOf]; omega
            · obtain rfl : a = 5 := by omega
              go_wp2_with fail
              go_roundw
              case rel => exact ⟨z + 1, by omega, by go_num, F4, R4⟩
              case measure => simp [intOf]; omega
        · obtain rfl : z = 4 := by omega
          have F9 := Lib.hid (F1.out.new0 F3.out)
          have R9 := Lib.hid (R1.out.frm F3.out (fun x => x))
          clear F3 R3 F1 R1
          go_wp2_with fail
          go_roundw
          case rel => exact ⟨n + 1, by omega, by go_num, F9, R9⟩
          case measure => simp [intOf]; omega
    · obtain rfl : n = 343 := by omega
      go_wp2_with fail
      exact HX.out _ _ _ _ _ _ _ _ _ _ _ _ _ _ _ _ _ _ _ _ _ _ _ _ _ _ _ _ _ _ _ _ _ _ _ _ _ _ _ _ _ _ _ _ _ _ _ _ _ _ _ _ _ _ _ _ _ _ _ _ _ _ _ _ _ _ _ _ _ _ _ _ _ _ _ _ _ _ _ _ _ _ _ _ _ _ _ _ _ _ _ _ _ _ _ _ _ _ _ _ _ _ _ _ _ _ _ _ _ _ _ _ _ _ _ _ _ _ _ _ _ _ _ _ _ _ _ _ _ _ _ _ _ _ _ _ _ _ _ _ _ _ _ _ _ _ _ _ _ _ _ _ _ _ F1.out
end Go.Proofs.Ytnokbnggpbjchaa
