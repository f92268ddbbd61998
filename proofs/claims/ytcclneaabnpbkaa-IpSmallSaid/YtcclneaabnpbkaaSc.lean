/-
  IpSmall: the loops over options, offsets and lengths.
-/
import Derived.Test.YtcclneaabnpbkaaSb
import Derived.Deep.RegionHeld3
namespace Go.Proofs.Ytcclneaabnpbkaa
open Go.RowKit
attribute [local go_sem] undef

theorem wrap_bounds (n : Int) : -9223372036854775808 ≤ IntKind.i64.wrap n ∧ IntKind.i64.wrap n ≤ 9223372036854775807 := by
  rw [IntKind.wrap_i64]
  omega
theorem wrap_named (n : Int) : ∃ a : Int, IntKind.i64.wrap n = a ∧ -9223372036854775808 ≤ a ∧ a ≤ 9223372036854775807 := ⟨_, rfl, wrap_bounds n⟩
def offC : Array Value := #[.int .i64 (-8), .int .i64 0, .int .i64 1, .int .i64 4, .int .i64 8, .int .i64 65480, .int .i64 65504, .int .i64 65512, .int .i64 65520, .int .i64 65528, .int .i64 65536, .int .i64 1099511627776, .int .i64 (-9223372036854775808)]
def lenC : Array Value := #[.int .i64 0, .int .i64 1, .int .i64 8, .int .i64 11, .int .i64 16, .int .i64 35]
theorem off_at (q : Nat) (hq : q < 13) : ∃ z : Int, -9223372036854775808 ≤ z ∧ z ≤ 9223372036854775807 ∧ offC[q]? = some (.int .i64 z) := by
  have h : q = 0 ∨ q = 1 ∨ q = 2 ∨ q = 3 ∨ q = 4 ∨ q = 5 ∨ q = 6 ∨ q = 7 ∨ q = 8 ∨ q = 9 ∨ q = 10 ∨ q = 11 ∨ q = 12 := by omega
  rcases h with rfl | rfl | rfl | rfl | rfl | rfl | rfl | rfl | rfl | rfl | rfl | rfl | rfl <;> exact ⟨_, by decide, by decide, rfl⟩
theorem len_at (q : Nat) (hq : q < 6) : ∃ n : Nat, n ≤ 35 ∧ lenC[q]? = some (.int .i64 (n : Int)) := by
  have h : q = 0 ∨ q = 1 ∨ q = 2 ∨ q = 3 ∨ q = 4 ∨ q = 5 := by omega
  rcases h with rfl | rfl | rfl | rfl | rfl | rfl
  · exact ⟨0, by omega, rfl⟩
  · exact ⟨1, by omega, rfl⟩
  · exact ⟨8, by omega, rfl⟩
  · exact ⟨11, by omega, rfl⟩
  · exact ⟨16, by omega, rfl⟩
  · exact ⟨35, by omega, rfl⟩

set_option maxRecDepth 100000 in
set_option maxHeartbeats 16000000 in
theorem small_b (w W : World) (u0 u1 u2 u3 u4 u5 u6 u7 u8 u9 u10 u11 u12 u13 u14 u15 u16 u17 u18 u19 u20 u21 u22 u23 u24 u25 u26 u27 u28 u29 u30 u31 u32 u33 u34 u35 u36 u37 u38 u39 u40 u41 u42 u43 u44 u45 u46 u47 u48 u49 u50 u51 u52 u53 u54 u55 u56 u57 u58 u59 u60 u61 u62 u63 u64 u65 u66 u67 u68 u69 u70 u71 u72 u73 u74 u75 u76 u77 u78 u79 u80 u81 u82 u83 u84 u85 u86 u87 u88 u89 u90 u91 u92 u93 u94 u95 u96 u97 u98 u99 u100 u101 u102 u103 u104 u105 u106 u107 u108 u109 u110 u111 u112 u113 u114 u115 u116 u117 u118 u119 u120 u121 u122 u123 u124 u125 u126 u127 u128 u129 u130 u131 u132 u133 u134 u135 u136 u137 u138 u139 u140 u141 u142 u143 u144 u145 u146 u147 u148 u149 u150 u151 u152 u153 u154 u155 u156 u157 u158 u159 u160 u161 u162 u163 u164 u165 u166 u167 u168 u169 u170 u171 u172 u173 u174 u175 u176 u177 u178 u179 u180 u181 : Value) (K : Act → World → Prop) (Q : Exit → Act → World → Prop) (F0 : Frm No w W)
    (hnext : ∀ (v0 v1 v2 v3 v4 v5 v6 v7 v8 v9 v10 v11 v12 v13 v14 v15 v16 v17 v18 v19 v20 v21 v22 v23 v24 v25 v26 v27 v28 v29 v30 v31 v32 v33 v34 v35 v36 v37 v38 v39 v40 v41 v42 v43 v44 v45 v46 v47 v48 v49 v50 v51 v52 v53 v54 v55 v56 v57 v58 v59 v60 v61 v62 v63 v64 v65 v66 v67 v68 v69 v70 v71 v72 v73 v74 v75 v76 v77 v78 v79 v80 v81 v82 v83 v84 v85 v86 v87 v88 v89 v90 v91 v92 v93 v94 v95 v96 v97 v98 v99 v100 v101 v102 v103 v104 v105 v106 v107 v108 v109 v110 v111 v112 v113 v114 v115 v116 v117 v118 v119 v120 v121 v122 v123 v124 v125 v126 v127 v128 v129 v130 v131 v132 v133 v134 v135 v136 v137 v138 v139 v140 v141 v142 v143 v144 v145 v146 v147 v148 v149 v150 v151 v152 v153 v154 v155 v156 v157 v158 v159 v160 v161 v162 v163 v164 v165 v166 v167 v168 v169 v170 v171 v172 v173 v174 v175 v176 v177 v178 v179 v180 v181 : Value) (W1 : World), Frm No w W1 → K ⟨#[v0, v1, v2, v3, v4, v5, v6, v7, v8, v9, v10, v11, v12, v13, v14, v15, v16, v17, v18, v19, v20, v21, v22, v23, v24, v25, v26, v27, v28, v29, v30, v31, v32, v33, v34, v35, v36, v37, v38, v39, v40, v41, v42, v43, v44, v45, v46, v47, v48, v49, v50, v51, v52, v53, v54, v55, v56, v57, v58, v59, v60, v61, v62, v63, v64, v65, v66, v67, v68, v69, v70, v71, v72, v73, v74, v75, v76, v77, v78, v79, v80, v81, v82, v83, v84, v85, v86, v87, v88, v89, v90, v91, v92, v93, v94, v95, v96, v97, v98, v99, v100, v101, v102, v103, v104, v105, v106, v107, v108, v109, v110, v111, v112, v113, v114, v115, v116, v117, v118, v119, v120, v121, v122, v123, v124, v125, v126, v127, v128, v129, v130, v131, v132, v133, v134, v135, v136, v137, v138, v139, v140, v141, v142, v143, v144, v145, v146, v147, v148, v149, v150, v151, v152, v153, v154, v155, v156, v157, v158, v159, v160, v161, v162, v163, v164, v165, v166, v167, v168, v169, v170, v171, v172, v173, v174, v175, v176, v177, v178, v179, v180, v181], []⟩ W1) :
    Code.wp Try.prog (headS (dropS 3 B5)) (Exit.then K Q) ⟨#[u0, u1, u2, u3, u4, u5, u6, u7, u8, u9, u10, u11, u12, u13, u14, u15, u16, u17, u18, u19, u20, u21, u22, u23, u24, u25, u26, u27, u28, u29, u30, u31, u32, u33, u34, u35, u36, u37, u38, u39, u40, u41, u42, u43, u44, u45, u46, u47, u48, u49, u50, u51, u52, u53, u54, u55, u56, u57, u58, u59, u60, u61, u62, u63, u64, u65, u66, u67, u68, u69, u70, u71, u72, u73, u74, u75, u76, u77, u78, u79, u80, u81, u82, u83, u84, u85, u86, u87, u88, u89, u90, u91, u92, u93, u94, u95, u96, u97, u98, u99, u100, u101, u102, u103, u104, u105, u106, u107, u108, u109, u110, u111, u112, u113, u114, u115, u116, u117, u118, u119, u120, u121, u122, u123, u124, u125, u126, u127, u128, u129, u130, u131, u132, u133, u134, u135, u136, u137, u138, u139, u140, u141, u142, u143, u144, u145, u146, u147, u148, u149, u150, u151, u152, u153, u154, u155, u156, u157, u158, u159, u160, u161, u162, u163, u164, u165, u166, u167, u168, u169, u170, u171, u172, u173, u174, u175, u176, u177, u178, u179, u180, u181], []⟩ W := by
  have F := Lib.hid F0
  have HX := Lib.hid hnext
  clear F0 hnext
  conv => arg 2; whnf
  go_wp2_with fail
  go_loopw [6] (fun i wr => ∃ k : Nat, k ≤ 46 ∧ i = .int .i64 k ∧ Hid (Frm No w wr)) (fun i _ => 46 - (intOf i).toNat)
  case atStart => exact ⟨0, by omega, rfl, F⟩
  case round =>
    obtain ⟨k, hk, rfl, F1⟩ := hrel
    clear F
    by_cases hlk : k < 46
    · have k1 : (k : Int) < 46 := by omega
      obtain ⟨Zk, zk, hzk, hmkk⟩ := make_zero k (by omega)
      have mkk : ∀ w : World, (Instr.makeSlice 22 (.int .i64 (k : Int)) (.int .i64 (k : Int))).run Try.prog w = .ok (.slice (some ⟨w.heap.size, 0, none⟩) k k) (w.alloc (.cells Zk 5)) := fun w => (hmkk w).1
      have HMK := Lib.hid (fun w => (hmkk w).2)
      have HZK := Lib.hid hzk
      clear hmkk hzk
      obtain ⟨r2, e2, e2', hr2⟩ : ∃ r : Nat, (k : Int).tmod 2 = (r : Int) ∧ (k : Int) % 2 = (r : Int) ∧ r < 2 := ⟨k % 2, by rw [Int.tmod_eq_emod_of_nonneg (by omega)]; omega, by omega, by omega⟩
      obtain ⟨r3, e3, e3', hr3⟩ : ∃ r : Nat, (k : Int).tmod 3 = (r : Int) ∧ (k : Int) % 3 = (r : Int) ∧ r < 3 := ⟨k % 3, by rw [Int.tmod_eq_emod_of_nonneg (by omega)]; omega, by omega, by omega⟩
      obtain ⟨d2, hd2⟩ : ∃ d : Bool, ((r2 : Int) == 1) = d := ⟨_, rfl⟩
      obtain ⟨d3, hd3⟩ : ∃ d : Bool, ((r3 : Int) == 1) = d := ⟨_, rfl⟩
      obtain ⟨W2, hW2⟩ : ∃ V, V = wr.alloc (.cells #[.int .i64 (-8), .int .i64 0, .int .i64 1, .int .i64 4, .int .i64 8, .int .i64 65480, .int .i64 65504, .int .i64 65512, .int .i64 65520, .int .i64 65528, .int .i64 65536, .int .i64 1099511627776, .int .i64 (-9223372036854775808)] 3) := ⟨_, rfl⟩
      have BO : Hid (Blk W2 wr.heap.size 3 offC) := by show Blk _ _ _ _; rw [hW2]; exact Blk.new wr 3 _
      have F2 : Hid (Frm No w W2) := by show Frm _ _ _; rw [hW2]; exact F1.out.alloc _
      go_upto_block 6 with fail
      rw [← hW2]
      obtain ⟨ob, hob⟩ : ∃ b, b = wr.heap.size := ⟨_, rfl⟩
      rw [← hob] at BO ⊢
      clear hob hW2 F1
      refine wp_block ?_
      go_loopw [72] (fun i wr => ∃ q : Nat, q ≤ 13 ∧ i = .int .i64 q ∧ Hid (Frm No w wr) ∧ Hid (Blk wr ob 3 offC)) (fun i _ => 13 - (intOf i).toNat)
      case atStart => exact ⟨0, by omega, rfl, F2, BO⟩
      case round =>
        obtain ⟨q, hq, rfl, F3, BO3⟩ := hrel
        clear F2 BO
        by_cases hlq : q < 13
        · have q1 : (q : Int) < 13 := by omega
          obtain ⟨z, hz1, hz2, hz3⟩ := off_at q hlq
          have c0 : wr.cell? ⟨ob, q, none⟩ = some (.int .i64 z) := (BO3.out.cell q).trans hz3
          clear hz3
          obtain ⟨W3, hW3⟩ : ∃ V, V = wr.alloc (.cells #[.int .i64 0, .int .i64 1, .int .i64 8, .int .i64 11, .int .i64 16, .int .i64 35] 3) := ⟨_, rfl⟩
          have BN : Hid (Blk W3 wr.heap.size 3 lenC) := by show Blk _ _ _ _; rw [hW3]; exact Blk.new wr 3 _
          have F4 : Hid (Frm No w W3) := by show Frm _ _ _; rw [hW3]; exact F3.out.alloc _
          have BO4 : Hid (Blk W3 ob 3 offC) := by show Blk _ _ _ _; rw [hW3]; exact BO3.out.alloc _
          go_upto_block 8 with fail
          rw [← hW3]
          obtain ⟨nb, hnb⟩ : ∃ b, b = wr.heap.size := ⟨_, rfl⟩
          rw [← hnb] at BN ⊢
          clear hnb hW3 F3 BO3 c0
          refine wp_block ?_
          go_loopw [78] (fun i wr => ∃ p : Nat, p ≤ 6 ∧ i = .int .i64 p ∧ Hid (Frm No w wr) ∧ Hid (Blk wr ob 3 offC) ∧ Hid (Blk wr nb 3 lenC)) (fun i _ => 6 - (intOf i).toNat)
          case atStart => exact ⟨0, by omega, rfl, F4, BO4, BN⟩
          case round =>
            obtain ⟨p, hp, rfl, F5, BO5, BN5⟩ := hrel
            clear F4 BO4 BN
            by_cases hlp : p < 6
            · have p1 : (p : Int) < 6 := by omega
              obtain ⟨n, hn35, hn3⟩ := len_at p hlp
              have c0 : wr.cell? ⟨nb, p, none⟩ = some (.int .i64 (n : Int)) := (BN5.out.cell p).trans hn3
              clear hn3
              obtain ⟨Zn, zn, hzn, hmkn⟩ := make_zero n (by omega)
              have mkn : ∀ w : World, (Instr.makeSlice 22 (.int .i64 (n : Int)) (.int .i64 (n : Int))).run Try.prog w = .ok (.slice (some ⟨w.heap.size, 0, none⟩) n n) (w.alloc (.cells Zn 5)) := fun w => (hmkn w).1
              have HMN := Lib.hid (fun w => (hmkn w).2.rds)
              have HZN := Lib.hid hzn
              clear hmkn hzn
              obtain ⟨W4, hW4⟩ : ∃ V, V = (wr.alloc (.cells Zk 5)).alloc (.cells #[.int .u8 0, .int .u16 0, .bool d3, .bool d2, .int .i64 z, .int .u8 9, .int .u8 0, .int .u32 0, .int .u32 0, .slice (some ⟨wr.heap.size, 0, none⟩) k k] 28) := ⟨_, rfl⟩
              have FW : Hid (Frm No wr W4) := by show Frm _ _ _; rw [hW4]; exact ((Frm.refl No wr).alloc _).alloc _
              have RK : Hid (Rds W4 (some ⟨wr.heap.size, 0, none⟩) zk) := by show Rds _ _ _; rw [hW4]; exact (HMK.out wr).rds.alloc _
              have TB : Hid (Blk W4 (wr.heap.size + 1) 28 #[.int .u8 0, .int .u16 0, .bool d3, .bool d2, .int .i64 z, .int .u8 9, .int .u8 0, .int .u32 0, .int .u32 0, .slice (some ⟨wr.heap.size, 0, none⟩) k k]) := by show Blk _ _ _ _; rw [hW4]; have h := Blk.new (wr.alloc (.cells Zk 5)) 28 #[.int .u8 0, .int .u16 0, .bool d3, .bool d2, .int .i64 z, .int .u8 9, .int .u8 0, .int .u32 0, .int .u32 0, .slice (some ⟨wr.heap.size, 0, none⟩) k k]; rwa [show (wr.alloc (.cells Zk 5)).heap.size = wr.heap.size + 1 by simp] at h
              go_upto_region 26 with fail
              rw [← hW4]
              obtain ⟨kb, hkb⟩ : ∃ b, b = wr.heap.size := ⟨_, rfl⟩
              rw [← hkb] at RK TB ⊢
              obtain ⟨hb, hhb⟩ : ∃ b, b = kb + 1 := ⟨_, rfl⟩
              rw [← hhb] at TB ⊢
              clear hhb hkb hW4 c0
              obtain ⟨m1, w1, bm1⟩ := wrap_named ((n : Int) * n)
              obtain ⟨s1, w2, _⟩ := wrap_named (65515 - z)
              obtain ⟨rn, w3, w3', _⟩ : ∃ r : Nat, (n : Int).tmod 3 = (r : Int) ∧ (n : Int) % 3 = (r : Int) ∧ r < 3 := ⟨n % 3, by rw [Int.tmod_eq_emod_of_nonneg (by omega)]; omega, by omega, by omega⟩
              obtain ⟨s2, w4, _⟩ := wrap_named (s1 + (rn : Int))
              obtain ⟨m2, w5, bm2⟩ := wrap_named (s2 - 1)
              obtain ⟨s3, w6, _⟩ := wrap_named (65515 - (k : Int))
              obtain ⟨s4, w7, _⟩ := wrap_named (s3 + (n : Int))
              obtain ⟨m3, w8, bm3⟩ := wrap_named (s4 - 1)
              have BM1 := Lib.hid bm1
              have BM2 := Lib.hid bm2
              have BM3 := Lib.hid bm3
              have CX := Lib.hid (fun W (hf : Frm No W4 W) => blk10 (TB.out.frm hf (fun x => x)))
              have HW : Hid (∀ (V : World) (D : Option Addr) (n' c' : Nat) (ds : List UInt8) (nn : Int), -9223372036854775808 ≤ nn ∧ nn ≤ 9223372036854775807 → ds.length = n' → n' ≤ c' → (D = none → c' = 0) → Frm No W4 V → Rds V D ds → Calls Try.prog 14 #[.agg #[.int .u8 0, .int .u16 0, .bool d3, .bool d2, .int .i64 z, .int .u8 9, .int .u8 0, .int .u32 0, .int .u32 0, .slice (some ⟨kb, 0, none⟩) k k], .slice D n' c', .int .i64 nn] V (BoolNo true V)) :=
                Lib.hid (fun V D n' c' ds nn hnn hl hnc hD hf hr => writes_all V nn 0 0 d3 d2 z 9 0 0 0 (some ⟨kb, 0, none⟩) D k k n' c' zk ds (by decide) (by decide) (by decide) (by decide) (by decide) (by decide) (Nat.le_refl _) hnc (fun h => by cases h) hD HZK.out hl hnn ⟨hz1, hz2⟩ (RK.out.frm hf (fun _ _ x => x)) hr)
              have FD : Hid (Frm No W4 W4.drew) := (Frm.refl No W4).drew
              obtain ⟨t0, t1, t2, t3, t4, t5, t6, t7, t8, t9⟩ := CX.out W4 (Frm.refl No W4)
              clear bm1 bm2 bm3 hr2 hr3
              go_region_held3 (fun W => W.cell? ⟨hb, 0, none⟩ = some (.int .u8 0) ∧ W.cell? ⟨hb, 1, none⟩ = some (.int .u16 0) ∧ W.cell? ⟨hb, 2, none⟩ = some (.bool d3) ∧ W.cell? ⟨hb, 3, none⟩ = some (.bool d2) ∧ W.cell? ⟨hb, 4, none⟩ = some (.int .i64 z) ∧ W.cell? ⟨hb, 5, none⟩ = some (.int .u8 9) ∧ W.cell? ⟨hb, 6, none⟩ = some (.int .u8 0) ∧ W.cell? ⟨hb, 7, none⟩ = some (.int .u32 0) ∧ W.cell? ⟨hb, 8, none⟩ = some (.int .u32 0) ∧ W.cell? ⟨hb, 9, none⟩ = some (.slice (some ⟨kb, 0, none⟩) k k)) (first | (with_reducible exact CX.out _ FG.out) | (with_reducible exact CX.out _ (FE.out.alloc _)) | (with_reducible exact CX.out _ FE.out) | (with_reducible exact CX.out _ (FC.out.alloc _)) | (with_reducible exact CX.out _ FC.out) | (with_reducible exact CX.out _ (FD.out.alloc _)) | (with_reducible exact CX.out _ FD.out) | go_keep)
                (first
                  | (go_at_call 14; (with_reducible refine (HW.out _ _ n n zn _ BM1.out HZN.out (Nat.le_refl _) ?_ ?_ ?_).mono ?_); (intro h; cases h); exact FD.out.alloc _; exact HMN.out _; rintro e v1 ⟨rfl, hf⟩; have FC := Lib.hid (Frm.new0 (FD.out.alloc _) hf); clear hf)
                  | (go_at_call 14; (with_reducible refine (HW.out _ _ n n zn _ BM2.out HZN.out (Nat.le_refl _) ?_ ?_ ?_).mono ?_); (intro h; cases h); exact FC.out.alloc _; exact HMN.out _; rintro e v2 ⟨rfl, hf⟩; have FE := Lib.hid (Frm.new0 (FC.out.alloc _) hf); clear hf)
                  | (go_at_call 14; (with_reducible refine (HW.out _ none 0 0 [] _ BM3.out rfl (Nat.le_refl _) (fun _ => rfl) ?_ (Rds.nil _ _)).mono ?_); exact FE.out; rintro e v3 ⟨rfl, hf⟩; have FG := Lib.hid (Frm.new0 FE.out hf); clear hf))
              have FZ := Lib.hid (FW.out.new0 FG.out)
              have F6 := Lib.hid (F5.out.new0 FZ.out)
              have BO6 := Lib.hid (BO5.out.frm FZ.out (fun x => x))
              have BN6 := Lib.hid (BN5.out.frm FZ.out (fun x => x))
              clear FZ FW FG FE FC FD F5 BO5 BN5 HW CX TB RK t0 t1 t2 t3 t4 t5 t6 t7 t8 t9
              go_wp2_with fail
              go_roundw
              case rel => exact ⟨p + 1, by omega, by go_num, F6, BO6, BN6⟩
              case measure => simp [intOf]; omega
            · obtain rfl : p = 6 := by omega
              clear BN5
              go_wp2_with fail
              go_roundw
              case rel => exact ⟨q + 1, by omega, by go_num, F5, BO5⟩
              case measure => simp [intOf]; omega
        · obtain rfl : q = 13 := by omega
          clear BO3
          go_wp2_with fail
          go_roundw
          case rel => exact ⟨k + 1, by omega, by go_num, F3⟩
          case measure => simp [intOf]; omega
    · obtain rfl : k = 46 := by omega
      go_wp2_with fail
      exact HX.out _ _ _ _ _ _ _ _ _ _ _ _ _ _ _ _ _ _ _ _ _ _ _ _ _ _ _ _ _ _ _ _ _ _ _ _ _ _ _ _ _ _ _ _ _ _ _ _ _ _ _ _ _ _ _ _ _ _ _ _ _ _ _ _ _ _ _ _ _ _ _ _ _ _ _ _ _ _ _ _ _ _ _ _ _ _ _ _ _ _ _ _ _ _ _ _ _ _ _ _ _ _ _ _ _ _ _ _ _ _ _ _ _ _ _ _ _ _ _ _ _ _ _ _ _ _ _ _ _ _ _ _ _ _ _ _ _ _ _ _ _ _ _ _ _ _ _ _ _ _ _ _ _ _ _ _ _ _ _ _ _ _ _ _ _ _ _ _ _ _ _ _ _ _ _ _ _ _ _ _ _ _ _ F1.out
end Go.Proofs.Ytcclneaabnpbkaa
