/-
  CsumSmall: the loop over numbers.
-/
import Derived.Test.YtnokbnggpbjchaaSm
import Derived.Test.YtnokbnggpbjchaaN2
import Derived.BigQuiet
import Derived.Laws.BitsAllLaws
namespace Go.Proofs.Ytnokbnggpbjchaa
open Go.RowKit
attribute [local go_sem] undef

def wordC : Array Value := #[.int .u16 0, .int .u16 1, .int .u16 255, .int .u16 256, .int .u16 32767, .int .u16 32768, .int .u16 65279, .int .u16 65534, .int .u16 65535]
theorem word_at (q : Nat) (hq : q < 9) : ∃ x : Nat, x ≤ 65535 ∧ wordC[q]? = some (.int .u16 (x : Int)) := by
  have h : q = 0 ∨ q = 1 ∨ q = 2 ∨ q = 3 ∨ q = 4 ∨ q = 5 ∨ q = 6 ∨ q = 7 ∨ q = 8 := by omega
  rcases h with rfl | rfl | rfl | rfl | rfl | rfl | rfl | rfl | rfl
  · exact ⟨0, by omega, rfl⟩
  · exact ⟨1, by omega, rfl⟩
  · exact ⟨255, by omega, rfl⟩
  · exact ⟨256, by omega, rfl⟩
  · exact ⟨32767, by omega, rfl⟩
  · exact ⟨32768, by omega, rfl⟩
  · exact ⟨65279, by omega, rfl⟩
  · exact ⟨65534, by omega, rfl⟩
  · exact ⟨65535, by omega, rfl⟩
theorem or_named (x y : Nat) (hx : x ≤ 65535) (hy : y ≤ 65535) : ∃ a : Nat, bits .or .u32 ((x : Int) * 65536) (y : Int) = (a : Int) ∧ a < 4294967296 := by
  have e : ((x * 65536 : Nat) : Int) = (x : Int) * 65536 := by omega
  refine ⟨(x * 65536) ||| y, ?_, Nat.or_lt_two_pow (n := 32) (by omega) (by omega)⟩
  rw [← e]
  exact u32_or_nat (x * 65536) y (by omega) (by omega)
theorem w16N (x : Nat) (hx : x ≤ 65535) : (UInt16.ofNat x).toNat = x := by rw [UInt16.toNat_ofNat']; omega
theorem rdw3 (V : World) (x y z : Nat) (hx : x ≤ 65535) (hy : y ≤ 65535) (hz : z ≤ 65535) : RdW (V.alloc (.cells #[.int .u16 (x : Int), .int .u16 (y : Int), .int .u16 (z : Int)] 23)) (some ⟨V.heap.size, 0, none⟩) [UInt16.ofNat x, UInt16.ofNat y, UInt16.ofNat z] := by
  have e : w16l [UInt16.ofNat x, UInt16.ofNat y, UInt16.ofNat z] = [.int .u16 (x : Int), .int .u16 (y : Int), .int .u16 (z : Int)] := by simp [w16l, w16N x hx, w16N y hy, w16N z hz]
  refine RdW.of_own (base := V.heap.size) (n := 3) (c := 3) ⟨by simp [w16l], .inr ⟨V.heap.size, 3, _, rfl, Nat.le_refl _, heap_alloc_new V _, Nat.le_refl _, by unfold maxLen; omega, rfl, ?_⟩⟩
  rw [e]
  rfl

set_option maxRecDepth 100000 in
set_option maxHeartbeats 8000000 in
theorem small_b (w W : World) (u0 u1 u2 u3 u4 u5 u7 u8 u9 u10 u11 u12 u13 u14 u15 u16 u17 u18 u19 u20 u21 u22 u23 u24 u25 u26 u27 u28 u29 u30 u31 u32 u33 u34 u35 u36 u37 u38 u39 u40 u41 u42 u43 u44 u45 u46 u47 u48 u49 u50 u51 u52 u53 u54 u55 u56 u57 u58 u59 u60 u61 u62 u63 u64 u65 u66 u67 u68 u69 u70 u71 u72 u73 u74 u75 u76 u77 u78 u79 u80 u81 u82 u83 u84 u85 u86 u87 u88 u89 u90 u91 u92 u93 u94 u95 u96 u97 u98 u99 u100 u101 u102 u103 u104 u105 u106 u107 u108 u109 u110 u111 u112 u113 u114 u115 u116 u117 u118 u119 u120 u121 u122 u123 u124 u125 u126 u127 u128 u129 u130 u131 u132 u133 u134 u135 u136 u137 u138 u139 u140 u141 u142 u143 u144 u145 u146 u147 u148 u149 u150 u151 u152 u153 : Value) (wb : Nat) (K : Act → World → Prop) (Q : Exit → Act → World → Prop)
    (F0 : Frm No w W) (R0 : Blk W wb 23 wordC) (hnext : ∀ (v0 v1 v2 v3 v4 v5 v7 v8 v9 v10 v11 v12 v13 v14 v15 v16 v17 v18 v19 v20 v21 v22 v23 v24 v25 v26 v27 v28 v29 v30 v31 v32 v33 v34 v35 v36 v37 v38 v39 v40 v41 v42 v43 v44 v45 v46 v47 v48 v49 v50 v51 v52 v53 v54 v55 v56 v57 v58 v59 v60 v61 v62 v63 v64 v65 v66 v67 v68 v69 v70 v71 v72 v73 v74 v75 v76 v77 v78 v79 v80 v81 v82 v83 v84 v85 v86 v87 v88 v89 v90 v91 v92 v93 v94 v95 v96 v97 v98 v99 v100 v101 v102 v103 v104 v105 v106 v107 v108 v109 v110 v111 v112 v113 v114 v115 v116 v117 v118 v119 v120 v121 v122 v123 v124 v125 v126 v127 v128 v129 v130 v131 v132 v133 v134 v135 v136 v137 v138 v139 v140 v141 v142 v143 v144 v145 v146 v147 v148 v149 v150 v151 v152 v153 : Value) (W1 : World), Frm No w W1 → K ⟨#[v0, v1, v2, v3, v4, v5, .slice (some ⟨wb, 0, none⟩) 9 9, v7, v8, v9, v10, v11, v12, v13, v14, v15, v16, v17, v18, v19, v20, v21, v22, v23, v24, v25, v26, v27, v28, v29, v30, v31, v32, v33, v34, v35, v36, v37, v38, v39, v40, v41, v42, v43, v44, v45, v46, v47, v48, v49, v50, v51, v52, v53, v54, v55, v56, v57, v58, v59, v60, v61, v62, v63, v64, v65, v66, v67, v68, v69, v70, v71, v72, v73, v74, v75, v76, v77, v78, v79, v80, v81, v82, v83, v84, v85, v86, v87, v88, v89, v90, v91, v92, v93, v94, v95, v96, v97, v98, v99, v100, v101, v102, v103, v104, v105, v106, v107, v108, v109, v110, v111, v112, v113, v114, v115, v116, v117, v118, v119, v120, v121, v122, v123, v124, v125, v126, v127, v128, v129, v130, v131, v132, v133, v134, v135, v136, v137, v138, v139, v140, v141, v142, v143, v144, v145, v146, v147, v148, v149, v150, v151, v152, v153], []⟩ W1) :
    Code.wp Try.prog (headS (dropS 4 B5)) (Exit.then K Q) ⟨#[u0, u1, u2, u3, u4, u5, .slice (some ⟨wb, 0, none⟩) 9 9, u7, u8, u9, u10, u11, u12, u13, u14, u15, u16, u17, u18, u19, u20, u21, u22, u23, u24, u25, u26, u27, u28, u29, u30, u31, u32, u33, u34, u35, u36, u37, u38, u39, u40, u41, u42, u43, u44, u45, u46, u47, u48, u49, u50, u51, u52, u53, u54, u55, u56, u57, u58, u59, u60, u61, u62, u63, u64, u65, u66, u67, u68, u69, u70, u71, u72, u73, u74, u75, u76, u77, u78, u79, u80, u81, u82, u83, u84, u85, u86, u87, u88, u89, u90, u91, u92, u93, u94, u95, u96, u97, u98, u99, u100, u101, u102, u103, u104, u105, u106, u107, u108, u109, u110, u111, u112, u113, u114, u115, u116, u117, u118, u119, u120, u121, u122, u123, u124, u125, u126, u127, u128, u129, u130, u131, u132, u133, u134, u135, u136, u137, u138, u139, u140, u141, u142, u143, u144, u145, u146, u147, u148, u149, u150, u151, u152, u153], []⟩ W := by
  have F := Lib.hid F0
  have R := Lib.hid R0
  have HX := Lib.hid hnext
  clear F0 R0 hnext
  conv => arg 2; whnf
  go_wp2_with fail
  go_loopw [55] (fun i wr => ∃ n : Nat, n ≤ 729 ∧ i = .int .i64 n ∧ Hid (Frm No w wr) ∧ Hid (Blk wr wb 23 wordC)) (fun i _ => 729 - (intOf i).toNat)
  case atStart => exact ⟨0, by omega, rfl, F, R⟩
  case round =>
    obtain ⟨n, hn, rfl, F1, R1⟩ := hrel
    clear F R
    by_cases hlt : n < 729
    · have n1 : (n : Int) < 729 := by omega
      obtain ⟨q1, e1, e1', l1⟩ : ∃ q : Nat, (n : Int).tmod 9 = (q : Int) ∧ (n : Int) % 9 = (q : Int) ∧ q < 9 := ⟨n % 9, by rw [Int.tmod_eq_emod_of_nonneg (by omega)]; omega, by omega, by omega⟩
      obtain ⟨d, e2, e2', l2⟩ : ∃ q : Nat, (n : Int).tdiv 9 = (q : Int) ∧ (n : Int) / 9 = (q : Int) ∧ q < 81 := ⟨n / 9, by rw [Int.tdiv_eq_ediv_of_nonneg (by omega)]; omega, by omega, by omega⟩
      obtain ⟨q2, e3, e3', l3⟩ : ∃ q : Nat, (d : Int).tmod 9 = (q : Int) ∧ (d : Int) % 9 = (q : Int) ∧ q < 9 := ⟨d % 9, by rw [Int.tmod_eq_emod_of_nonneg (by omega)]; omega, by omega, by omega⟩
      obtain ⟨q3, e4, e4', l4⟩ : ∃ q : Nat, (n : Int).tdiv 81 = (q : Int) ∧ (n : Int) / 81 = (q : Int) ∧ q < 9 := ⟨n / 81, by rw [Int.tdiv_eq_ediv_of_nonneg (by omega)]; omega, by omega, by omega⟩
      have wd : IntKind.i64.wrap (d : Int) = (d : Int) := by rw [IntWalk.i64_in] <;> omega
      have wq3 : IntKind.i64.wrap (q3 : Int) = (q3 : Int) := by rw [IntWalk.i64_in] <;> omega
      have b1 : (q1 : Int) < 9 := by omega
      have b2 : (q2 : Int) < 9 := by omega
      have b3 : (q3 : Int) < 9 := by omega
      obtain ⟨x, hx, hx1⟩ := word_at q1 l1
      obtain ⟨y, hy, hy1⟩ := word_at q2 l3
      obtain ⟨z, hz, hz1⟩ := word_at q3 l4
      have c1 : wr.cell? ⟨wb, q1, none⟩ = some (.int .u16 (x : Int)) := (R1.out.cell q1).trans hx1
      have c2 : wr.cell? ⟨wb, q2, none⟩ = some (.int .u16 (y : Int)) := (R1.out.cell q2).trans hy1
      have c3 : wr.cell? ⟨wb, q3, none⟩ = some (.int .u16 (z : Int)) := (R1.out.cell q3).trans hz1
      obtain ⟨r3, e5, e5', l5⟩ : ∃ q : Nat, (n : Int).tmod 3 = (q : Int) ∧ (n : Int) % 3 = (q : Int) ∧ q < 3 := ⟨n % 3, by rw [Int.tmod_eq_emod_of_nonneg (by omega)]; omega, by omega, by omega⟩
      obtain ⟨n8, e6, e6', l6⟩ : ∃ q : Nat, IntKind.u8.wrap (n : Int) = (q : Int) ∧ (n : Int) % 256 = (q : Int) ∧ q < 256 := ⟨n % 256, by have e : IntKind.u8.wrap (n : Int) = (n : Int) % 256 := rfl; rw [e]; omega, by omega, by omega⟩
      have wx : IntKind.u32.wrap (x : Int) = x := by have e : IntKind.u32.wrap (x : Int) = (x : Int) % 4294967296 := rfl; rw [e]; omega
      have wy : IntKind.u32.wrap (y : Int) = y := by have e : IntKind.u32.wrap (y : Int) = (y : Int) % 4294967296 := rfl; rw [e]; omega
      have wz : IntKind.u32.wrap (z : Int) = z := by have e : IntKind.u32.wrap (z : Int) = (z : Int) % 4294967296 := rfl; rw [e]; omega
      have wx2 : (x : Int) % 4294967296 = x := by omega
      have wy2 : (y : Int) % 4294967296 = y := by omega
      have wz2 : (z : Int) % 4294967296 = z := by omega
      have wn : IntKind.i64.wrap (n : Int) = (n : Int) := by rw [IntWalk.i64_in] <;> omega
      have wxi : IntKind.i64.wrap (x : Int) = (x : Int) := by rw [IntWalk.i64_in] <;> omega
      have wyi : IntKind.i64.wrap (y : Int) = (y : Int) := by rw [IntWalk.i64_in] <;> omega
      have wzi : IntKind.i64.wrap (z : Int) = (z : Int) := by rw [IntWalk.i64_in] <;> omega
      obtain ⟨a, ha, hal⟩ := or_named x y hx hy
      obtain ⟨b, hb, hbl⟩ := or_named z x hz hx
      clear hx1 hy1 hz1
      go_upto_region 20 with fail
      go_quiet (fail)
      clear c1 c2 c3
      go_wp2_with fail
      refine (numbers ((wr.drewN nq).alloc (.cells #[.int .u16 (x : Int), .int .u16 (y : Int), .int .u16 (z : Int)] 23)) (some ⟨wr.heap.size, 0, none⟩) 3 3 [UInt16.ofNat x, UInt16.ofNat y, UInt16.ofNat z] x y z a b n8 _ rfl (fun h => by cases h) hx hy hz hal hbl l6 (rdw3 (wr.drewN nq) x y z hx hy hz)).mono ?_
      rintro e w5 ⟨rfl, hf⟩
      have FF := (((Frm.refl No wr).drewN nq).alloc (.cells #[.int .u16 (x : Int), .int .u16 (y : Int), .int .u16 (z : Int)] 23)).new0 hf
      have F5 := Lib.hid (F1.out.new0 FF)
      have R5 := Lib.hid (R1.out.frm FF (fun x => x))
      clear hf FF F1 R1
      go_wp2_with fail
      go_roundw
      case rel => exact ⟨n + 1, by omega, by go_num, F5, R5⟩
      case measure => simp [intOf]; omega
    · obtain rfl : n = 729 := by omega
      go_wp2_with fail
      exact HX.out _ _ _ _ _ _ _ _ _ _ _ _ _ _ _ _ _ _ _ _ _ _ _ _ _ _ _ _ _ _ _ _ _ _ _ _ _ _ _ _ _ _ _ _ _ _ _ _ _ _ _ _ _ _ _ _ _ _ _ _ _ _ _ _ _ _ _ _ _ _ _ _ _ _ _ _ _ _ _ _ _ _ _ _ _ _ _ _ _ _ _ _ _ _ _ _ _ _ _ _ _ _ _ _ _ _ _ _ _ _ _ _ _ _ _ _ _ _ _ _ _ _ _ _ _ _ _ _ _ _ _ _ _ _ _ _ _ _ _ _ _ _ _ _ _ _ _ _ _ _ _ _ _ _ F1.out
end Go.Proofs.Ytnokbnggpbjchaa
