/-
  IpHops: one hop, and what is behind it.
-/
import Derived.Test.YtcclneaabnpbkaaHp
import Derived.Test.YtcclneaabnpbkaaTb
namespace Go.Proofs.Ytcclneaabnpbkaa
open Go.RowKit
attribute [local go_sem] undef

noncomputable def B8 : Code := Try.f8.body.getD .skip
def unblock : Code → Code
  | .block _ c => c
  | c => c
def unloop : Code → Code
  | .loop c => c
  | c => c
noncomputable def L8 : Code := unloop (unblock (headS (dropS 7 B8)))
noncomputable def C8 : Code := unblock (tailS L8)

theorem not16 (x : Nat) (h : x < 65536) : ∃ y : Nat, bits .xor .u16 (if IntKind.u16.signed = true then -1 else IntKind.u16.max) (x : Int) = (y : Int) ∧ ((x : Int) == (y : Int)) = false ∧ IntKind.u16.wrap (65535 - (x : Int)) = (y : Int) := by
  have e := u16_xor_nat 65535 x (by omega) h
  have e2 : (65535 ^^^ x) = 65535 - x := by
    have h1 := congrArg BitVec.toNat (BitVec.allOnes_xor (x := BitVec.ofNat 16 x))
    rw [BitVec.toNat_xor, BitVec.toNat_not, BitVec.toNat_allOnes, BitVec.toNat_ofNat, Nat.mod_eq_of_lt h] at h1
    exact h1
  have e4 : (if IntKind.u16.signed = true then (-1 : Int) else IntKind.u16.max) = ((65535 : Nat) : Int) := by decide
  refine ⟨65535 - x, by rw [e4, ← e2]; exact e, ?_, ?_⟩
  · simp only [beq_eq_false_iff_ne, ne_eq]
    omega
  · have e3 : IntKind.u16.wrap (65535 - (x : Int)) = (65535 - (x : Int)) % 65536 := rfl
    rw [e3]
    omega

set_option maxRecDepth 100000 in
set_option maxHeartbeats 4000000 in
theorem hops_c (W : World) (u0 u1 u2 u3 u4 u8 u10 u11 u12 u13 u14 u16 u17 u18 u19 u20 u21 u22 u23 u24 u25 u26 u27 u28 u29 u30 u31 u32 u33 u34 u35 u36 u37 u38 u39 u40 u41 u42 u43 u44 u45 u46 u47 u48 u49 u50 u51 u52 u53 u54 u55 u56 u57 u58 u59 u60 u61 u62 u63 u64 u65 u66 u67 u68 u69 u70 u71 u72 u73 u74 u75 u76 u77 u78 u79 u80 u81 u82 u83 u84 u85 u86 u87 u88 u89 u90 u91 u92 u93 u94 u95 u96 u97 u98 u99 u100 u101 u102 u103 u104 u105 u106 u107 u108 u109 u110 u111 u112 u113 u114 u115 u116 u117 u118 u119 u120 u121 u122 u123 u124 u125 u126 u127 u128 u129 u130 u131 u132 u133 u134 u135 u136 u137 u138 u139 u140 u141 u142 u143 u144 u145 u146 u147 u148 u149 u150 u151 u152 u153 u154 : Value) (hb M cM g1 N c1 wd : Nat) (ad : Addr) (DD : Option Addr) (n dc2 : Nat) (B L1 : List UInt8)
    (K : Act → World → Prop) (Q1 : Exit → Act → World → Prop) (hK : ∀ a W, Code.wp Try.prog (dropS 6 C8) Q1 a W → K a W)
    (hQ : ∀ (v0 v1 v2 v3 v4 v8 v9 v10 v11 v12 v13 v14 v15 v16 v17 v18 v19 v20 v21 v22 v23 v24 v25 v26 v27 v28 v29 v30 v31 v32 v33 v34 v35 v36 v37 v38 v39 v40 v41 v42 v43 v44 v45 v46 v47 v48 v49 v50 v51 v52 v53 v54 v55 v56 v57 v58 v59 v60 v61 v62 v63 v64 v65 v66 v67 v68 v69 v70 v71 v72 v73 v74 v75 v76 v77 v78 v79 v80 v81 v82 v83 v84 v85 v86 v87 v88 v89 v90 v91 v92 v93 v94 v95 v96 v97 v98 v99 v100 v101 v102 v103 v104 v105 v106 v107 v108 v109 v110 v111 v112 v113 v114 v115 v116 v117 v118 v119 v120 v121 v122 v123 v124 v125 v126 v127 v128 v129 v130 v131 v132 v133 v134 v135 v136 v137 v138 v139 v140 v141 v142 v143 v144 v145 v146 v147 v148 v149 v150 v151 v152 v153 v154 : Value) (W' : World), Frm No W W' → Q1 .normal ⟨#[v0, v1, v2, v3, v4, .pointer (some ⟨hb, 0, none⟩), .slice DD n dc2, .slice (some ⟨g1, 0, none⟩) N c1, v8, v9, v10, v11, v12, v13, v14, v15, v16, v17, v18, v19, v20, v21, v22, v23, v24, v25, v26, v27, v28, v29, v30, v31, v32, v33, v34, v35, v36, v37, v38, v39, v40, v41, v42, v43, v44, v45, v46, v47, v48, v49, v50, v51, v52, v53, v54, v55, v56, v57, v58, v59, v60, v61, v62, v63, v64, v65, v66, v67, v68, v69, v70, v71, v72, v73, v74, v75, v76, v77, v78, v79, v80, v81, v82, v83, v84, v85, v86, v87, v88, v89, v90, v91, v92, v93, v94, v95, v96, v97, v98, v99, v100, v101, v102, v103, v104, v105, v106, v107, v108, v109, v110, v111, v112, v113, v114, v115, v116, v117, v118, v119, v120, v121, v122, v123, v124, v125, v126, v127, v128, v129, v130, v131, v132, v133, v134, v135, v136, v137, v138, v139, v140, v141, v142, v143, v144, v145, v146, v147, v148, v149, v150, v151, v152, v153, v154], []⟩ W')
    (hBL : B.length = M) (hM : 20 ≤ M) (hM2 : M ≤ 300) (hL1 : L1.length = N) (hN : 20 ≤ N) (hN2 : N ≤ 300) (hwd : wd + 256 < 65536) (hck : updOf (wordAt B 10) (wd + 256) wd = wordAt L1 10)
    (RB : Rds W (some ad) B) (RL : Rds W (some ⟨g1, 0, none⟩) L1) :
    Code.wp Try.prog (headS (dropS 5 C8)) (Exit.then K Q1) ⟨#[u0, u1, u2, u3, u4, .pointer (some ⟨hb, 0, none⟩), .slice DD n dc2, .slice (some ad) M cM, u8, .slice (some ⟨g1, 0, none⟩) N c1, u10, u11, u12, u13, u14, .int .u16 (wd : Int), u16, u17, u18, u19, u20, u21, u22, u23, u24, u25, u26, u27, u28, u29, u30, u31, u32, u33, u34, u35, u36, u37, u38, u39, u40, u41, u42, u43, u44, u45, u46, u47, u48, u49, u50, u51, u52, u53, u54, u55, u56, u57, u58, u59, u60, u61, u62, u63, u64, u65, u66, u67, u68, u69, u70, u71, u72, u73, u74, u75, u76, u77, u78, u79, u80, u81, u82, u83, u84, u85, u86, u87, u88, u89, u90, u91, u92, u93, u94, u95, u96, u97, u98, u99, u100, u101, u102, u103, u104, u105, u106, u107, u108, u109, u110, u111, u112, u113, u114, u115, u116, u117, u118, u119, u120, u121, u122, u123, u124, u125, u126, u127, u128, u129, u130, u131, u132, u133, u134, u135, u136, u137, u138, u139, u140, u141, u142, u143, u144, u145, u146, u147, u148, u149, u150, u151, u152, u153, u154], []⟩ W := by
  obtain ⟨x, hx⟩ : ∃ x, B.getD 10 0 = x := ⟨_, rfl⟩
  obtain ⟨y, hy⟩ : ∃ x, B.getD 11 0 = x := ⟨_, rfl⟩
  obtain ⟨p, hp⟩ : ∃ x, L1.getD 10 0 = x := ⟨_, rfl⟩
  obtain ⟨q, hq⟩ : ∃ x, L1.getD 11 0 = x := ⟨_, rfl⟩
  have CC := Lib.hid (fun W' (hf : Frm No W W') => (by
    have r := RB.frm hf (fun _ _ z => z)
    obtain ⟨a1, h1, c1⟩ := r.at_ (k := 10) (by omega)
    obtain ⟨a2, h2, c2⟩ := r.at_ (k := 11) (by omega)
    injection h1 with h1
    injection h2 with h2
    subst h1
    subst h2
    rw [← getD_at (by omega), hx] at c1
    rw [← getD_at (by omega), hy] at c2
    exact ⟨c1, c2⟩ : W'.cell? ⟨ad.block, ad.off + 10, none⟩ = some (.int .u8 (x.toNat : Int)) ∧ W'.cell? ⟨ad.block, ad.off + 11, none⟩ = some (.int .u8 (y.toNat : Int))))
  have CD := Lib.hid (fun W' (hf : Frm No W W') => (by
    have r := RL.frm hf (fun _ _ z => z)
    obtain ⟨a1, h1, c1⟩ := r.at_ (k := 10) (by omega)
    obtain ⟨a2, h2, c2⟩ := r.at_ (k := 11) (by omega)
    injection h1 with h1
    injection h2 with h2
    subst h1
    subst h2
    rw [← getD_at (by omega), hp] at c1
    rw [← getD_at (by omega), hq] at c2
    exact ⟨c1, c2⟩ : W'.cell? ⟨g1, 10, none⟩ = some (.int .u8 (p.toNat : Int)) ∧ W'.cell? ⟨g1, 11, none⟩ = some (.int .u8 (q.toNat : Int))))
  have hwx : wordAt B 10 = word x y := by unfold wordAt; rw [hx, hy]
  have hwp : wordAt L1 10 = word p q := by unfold wordAt; rw [hp, hq]
  rw [hwx, hwp] at hck
  have lx := word_lt x y
  have lp := word_lt p q
  obtain ⟨ny, hn1, hn2, hn3⟩ := not16 (word p q) lp
  have HU := Lib.hid (fun W' => update_any W' (word x y) (wd + 256) wd (by omega) (by omega) (by omega))
  rw [hck] at HU
  have o1 := or_word' x y
  have o2 := or_word' p q
  obtain ⟨X, hX⟩ : ∃ X, word x y = X := ⟨_, rfl⟩
  obtain ⟨Z, hZ⟩ : ∃ X, word p q = X := ⟨_, rfl⟩
  rw [hX] at o1 HU
  rw [hZ] at o2 HU hn1 hn2 hn3
  have v0 : IntKind.u16.wrap (x.toNat : Int) = x.toNat := by have e : IntKind.u16.wrap (x.toNat : Int) = (x.toNat : Int) % 65536 := rfl; rw [e]; have := x.toNat_lt; omega
  have v1 : IntKind.u16.wrap (y.toNat : Int) = y.toNat := by have e : IntKind.u16.wrap (y.toNat : Int) = (y.toNat : Int) % 65536 := rfl; rw [e]; have := y.toNat_lt; omega
  have v2 : IntKind.u16.wrap (p.toNat : Int) = p.toNat := by have e : IntKind.u16.wrap (p.toNat : Int) = (p.toNat : Int) % 65536 := rfl; rw [e]; have := p.toNat_lt; omega
  have v3 : IntKind.u16.wrap (q.toNat : Int) = q.toNat := by have e : IntKind.u16.wrap (q.toNat : Int) = (q.toNat : Int) % 65536 := rfl; rw [e]; have := q.toNat_lt; omega
  have s0 : IntKind.u16.wrap ((x.toNat : Int) * 256) = x.toNat * 256 := by have e : IntKind.u16.wrap ((x.toNat : Int) * 256) = ((x.toNat : Int) * 256) % 65536 := rfl; rw [e]; have := x.toNat_lt; omega
  have s1 : IntKind.u16.wrap ((p.toNat : Int) * 256) = p.toNat * 256 := by have e : IntKind.u16.wrap ((p.toNat : Int) * 256) = ((p.toNat : Int) * 256) % 65536 := rfl; rw [e]; have := p.toNat_lt; omega
  have s2 : IntKind.u16.wrap ((wd : Int) + 256) = ((wd + 256 : Nat) : Int) := by have e : IntKind.u16.wrap ((wd : Int) + 256) = ((wd : Int) + 256) % 65536 := rfl; rw [e]; omega
  obtain ⟨wd2, hwd2⟩ : ∃ q, wd + 256 = q := ⟨_, rfl⟩
  rw [hwd2] at s2 HU
  have i0 : (10 : Int) < M := by omega
  have i1 : (11 : Int) < M := by omega
  have i2 : (10 : Int) < N := by omega
  have i3 : (11 : Int) < N := by omega
  have hZZ : ((Z : Int) != (Z : Int)) = false := by simp
  have HK := Lib.hid hK
  have HQ := Lib.hid hQ
  clear hK hQ RB RL hx hy hp hq hwx hwp hck hX hZ hwd2 hBL hL1 lx lp hwd
  conv => arg 2; whnf
  refine region_class (fun W' => Frm No W W') (by kernel_rfl) (by kernel_rfl) (Frm.refl No W).drew ?_
  (repeat (refine wpQuiet_step (fun K hK => ?_); go_simp; first | (refine hK _ ?_; clear hK K) | (apply Exists.intro; refine ⟨fun W' hW => ?_, hK _ ?_⟩; (first | rfl | ((have cc := CC.out W' hW); go_simp; rfl)); clear hK K)))
  refine wpQuiet_step (fun K hK => ?_)
  go_simp
  apply Exists.intro
  refine ⟨fun W' hW => (HU.out W').mono fun e w' ⟨he, hf⟩ => ⟨he, hW.new0 hf⟩, hK _ ?_⟩
  clear hK K
  (repeat (refine wpQuiet_step (fun K hK => ?_); go_simp; first | (refine hK _ ?_; clear hK K) | (apply Exists.intro; refine ⟨fun W' hW => ?_, hK _ ?_⟩; (first | rfl | ((have cc := CC.out W' hW); go_simp; rfl)); clear hK K)))
  refine wpQuiet_nil ?_
  intro W1 hf
  have HF := Lib.hid hf
  obtain ⟨d0, d1⟩ := CD.out W1 hf
  clear hf CC CD HU
  have hKK := HK.out
  show K _ _
  refine hKK _ _ ?_
  clear hKK HK
  conv => arg 2; whnf
  go_upto_region 17 with fail
  go_quiet (fail)
  go_wp2_with fail
  exact HQ.out _ _ _ _ _ _ _ _ _ _ _ _ _ _ _ _ _ _ _ _ _ _ _ _ _ _ _ _ _ _ _ _ _ _ _ _ _ _ _ _ _ _ _ _ _ _ _ _ _ _ _ _ _ _ _ _ _ _ _ _ _ _ _ _ _ _ _ _ _ _ _ _ _ _ _ _ _ _ _ _ _ _ _ _ _ _ _ _ _ _ _ _ _ _ _ _ _ _ _ _ _ _ _ _ _ _ _ _ _ _ _ _ _ _ _ _ _ _ _ _ _ _ _ _ _ _ _ _ _ _ _ _ _ _ _ _ _ _ _ _ _ _ _ _ _ _ _ _ _ _ _ _ _ (HF.out.drewN _)

/-- The state ahead of a hop. -/
def HopW (w W : World) (hb : Nat) (HV : Array Value) (A DD : Option Addr) (opts data : List UInt8) (ad : Addr) (B : List UInt8) : Prop :=
  Frm No w W ∧ Blk W hb 28 HV ∧ Rds W A opts ∧ Rds W DD data ∧ Rds W (some ad) B ∧ ad.block ≠ hb

theorem or_wd (x y : Nat) (hx : x < 256) (hy : y < 256) : bits .or .u16 ((x : Int) * 256) (y : Int) = ((x * 256 + y : Nat) : Int) := by
  have h := or_word' (UInt8.ofNat x) (UInt8.ofNat y)
  unfold word at h
  rw [toN x hx, toN y hy] at h
  exact h

set_option maxRecDepth 100000 in
set_option maxHeartbeats 8000000 in
theorem hops_b (w W : World) (u0 u1 u2 u3 u4 u8 u9 u10 u11 u12 u13 u14 u15 u16 u17 u18 u19 u20 u21 u22 u23 u24 u25 u26 u27 u28 u29 u30 u31 u32 u33 u34 u35 u36 u37 u38 u39 u40 u41 u42 u43 u44 u45 u46 u47 u48 u49 u50 u51 u52 u53 u54 u55 u56 u57 u58 u59 u60 u61 u62 u63 u64 u65 u66 u67 u68 u69 u70 u71 u72 u73 u74 u75 u76 u77 u78 u79 u80 u81 u82 u83 u84 u85 u86 u87 u88 u89 u90 u91 u92 u93 u94 u95 u96 u97 u98 u99 u100 u101 u102 u103 u104 u105 u106 u107 u108 u109 u110 u111 u112 u113 u114 u115 u116 u117 u118 u119 u120 u121 u122 u123 u124 u125 u126 u127 u128 u129 u130 u131 u132 u133 u134 u135 u136 u137 u138 u139 u140 u141 u142 u143 u144 u145 u146 u147 u148 u149 u150 u151 u152 u153 u154 : Value) (hb M cM N z : Nat) (ad : Addr) (tos id : Nat) (hdf hmf : Bool) (off t t1 pro src dst : Nat) (A DD : Option Addr) (o oc n dc2 : Nat) (opts data : List UInt8) (B X : List UInt8)
    (Q1 : Exit → Act → World → Prop)
    (hQ : ∀ (v0 v1 v2 v3 v4 v8 v9 v10 v11 v12 v13 v14 v15 v16 v17 v18 v19 v20 v21 v22 v23 v24 v25 v26 v27 v28 v29 v30 v31 v32 v33 v34 v35 v36 v37 v38 v39 v40 v41 v42 v43 v44 v45 v46 v47 v48 v49 v50 v51 v52 v53 v54 v55 v56 v57 v58 v59 v60 v61 v62 v63 v64 v65 v66 v67 v68 v69 v70 v71 v72 v73 v74 v75 v76 v77 v78 v79 v80 v81 v82 v83 v84 v85 v86 v87 v88 v89 v90 v91 v92 v93 v94 v95 v96 v97 v98 v99 v100 v101 v102 v103 v104 v105 v106 v107 v108 v109 v110 v111 v112 v113 v114 v115 v116 v117 v118 v119 v120 v121 v122 v123 v124 v125 v126 v127 v128 v129 v130 v131 v132 v133 v134 v135 v136 v137 v138 v139 v140 v141 v142 v143 v144 v145 v146 v147 v148 v149 v150 v151 v152 v153 v154 : Value) (g1 c1 : Nat) (W' : World), N ≤ c1 → HopW w W' hb #[.int .u8 (tos : Int), .int .u16 (id : Int), .bool hdf, .bool hmf, .int .i64 (off : Int), .int .u8 (t1 : Int), .int .u8 (pro : Int), .int .u32 (src : Int), .int .u32 (dst : Int), .slice A o oc] A DD opts data ⟨g1, 0, none⟩ (pkt ⟨tos, id, hdf, hmf, off, t1, pro, src, dst⟩ opts data) → Q1 .normal ⟨#[v0, v1, v2, v3, v4, .pointer (some ⟨hb, 0, none⟩), .slice DD n dc2, .slice (some ⟨g1, 0, none⟩) N c1, v8, v9, v10, v11, v12, v13, v14, v15, v16, v17, v18, v19, v20, v21, v22, v23, v24, v25, v26, v27, v28, v29, v30, v31, v32, v33, v34, v35, v36, v37, v38, v39, v40, v41, v42, v43, v44, v45, v46, v47, v48, v49, v50, v51, v52, v53, v54, v55, v56, v57, v58, v59, v60, v61, v62, v63, v64, v65, v66, v67, v68, v69, v70, v71, v72, v73, v74, v75, v76, v77, v78, v79, v80, v81, v82, v83, v84, v85, v86, v87, v88, v89, v90, v91, v92, v93, v94, v95, v96, v97, v98, v99, v100, v101, v102, v103, v104, v105, v106, v107, v108, v109, v110, v111, v112, v113, v114, v115, v116, v117, v118, v119, v120, v121, v122, v123, v124, v125, v126, v127, v128, v129, v130, v131, v132, v133, v134, v135, v136, v137, v138, v139, v140, v141, v142, v143, v144, v145, v146, v147, v148, v149, v150, v151, v152, v153, v154], []⟩ W')
    (ho : opts.length = o) (ho40 : o ≤ 40) (hn : data.length = n) (hn80 : n ≤ 80) (hz : z = 20 + o) (hN : N = 20 + o + n) (ht : t1 + 1 = t) (ht0 : 0 < t1) (ok : Hd.Ok ⟨tos, id, hdf, hmf, off, t, pro, src, dst⟩) (hR : rightB opts.length (off : Int) hmf (data.length : Int) = true)
    (hB : B = pkt ⟨tos, id, hdf, hmf, off, t, pro, src, dst⟩ opts data ++ X) (hBL : B.length = M) (hM2 : M ≤ 300) (hMc : M ≤ cM)
    (hwb : w.heap.size ≤ hb) (hA : ∀ k, blk A = some k → k < hb) (hD : ∀ k, blk DD = some k → k < hb)
    (S : HopW w W hb #[.int .u8 (tos : Int), .int .u16 (id : Int), .bool hdf, .bool hmf, .int .i64 (off : Int), .int .u8 (t : Int), .int .u8 (pro : Int), .int .u32 (src : Int), .int .u32 (dst : Int), .slice A o oc] A DD opts data ad B) :
    Code.wp Try.prog C8 Q1 ⟨#[u0, u1, u2, u3, u4, .pointer (some ⟨hb, 0, none⟩), .slice DD n dc2, .slice (some ad) M cM, u8, u9, u10, u11, u12, u13, u14, u15, u16, u17, u18, u19, u20, u21, u22, u23, u24, u25, u26, u27, u28, u29, u30, u31, u32, u33, u34, u35, u36, u37, u38, u39, u40, u41, u42, u43, u44, u45, u46, u47, u48, u49, u50, u51, u52, u53, u54, u55, u56, u57, u58, u59, u60, u61, u62, u63, u64, u65, u66, u67, u68, u69, u70, u71, u72, u73, u74, u75, u76, u77, u78, u79, u80, u81, u82, u83, u84, u85, u86, u87, u88, u89, u90, u91, u92, u93, u94, u95, u96, u97, u98, u99, u100, u101, u102, u103, u104, u105, u106, u107, u108, u109, u110, u111, u112, u113, u114, u115, u116, u117, u118, u119, u120, u121, u122, u123, u124, u125, u126, u127, u128, u129, u130, u131, u132, u133, u134, u135, u136, u137, u138, u139, u140, u141, u142, u143, u144, u145, u146, u147, u148, u149, u150, u151, u152, u153, u154], []⟩ W := by
  obtain ⟨F0, T0, RA0, RD0, RB0, hab⟩ := S
  have PB : Finds B ⟨tos, id, hdf, hmf, off, t, pro, src, dst⟩ opts data := by rw [hB]; exact pkt_finds _ _ _ _ ok hR
  have okt : t < 256 := ok.ttl
  have okp : pro < 256 := ok.pro
  have ok1 : Hd.Ok ⟨tos, id, hdf, hmf, off, t1, pro, src, dst⟩ := by have := hop_ok ok; unfold hop at this; rw [show t - 1 = t1 by omega] at this; exact this
  have P1 : Finds (pkt ⟨tos, id, hdf, hmf, off, t1, pro, src, dst⟩ opts data) ⟨tos, id, hdf, hmf, off, t1, pro, src, dst⟩ opts data := pkt_finds0 _ _ _ ok1 hR
  have hM20 : 20 ≤ M := by have := PB.lens; omega
  have hl1 : (pkt ⟨tos, id, hdf, hmf, off, t1, pro, src, dst⟩ opts data).length = N := by rw [pkt_len, ho, hn, hN]
  have hck : updOf (wordAt B 10) (t1 * 256 + pro + 256) (t1 * 256 + pro) = wordAt (pkt ⟨tos, id, hdf, hmf, off, t1, pro, src, dst⟩ opts data) 10 := by
    have h := hop_check ⟨tos, id, hdf, hmf, off, t, pro, src, dst⟩ opts data X ok (by show 1 ≤ t; omega) (by omega)
    rw [← hB] at h
    have e : hop ⟨tos, id, hdf, hmf, off, t, pro, src, dst⟩ = ⟨tos, id, hdf, hmf, off, t1, pro, src, dst⟩ := by unfold hop; rw [show t - 1 = t1 by omega]
    rw [e] at h
    rw [← h, show t - 1 = t1 by omega]
  have HHOP := Lib.hid (hop_yes W (some ad) M cM B hBL hMc (by omega) RB0 PB.nf (by rw [PB.hop.2]; show 1 < t; omega) N (by rw [PB.tot, ho, hn, hN]))
  unfold WroteOk at HHOP
  have e1 : hdHop B = ⟨tos, id, hdf, hmf, off, t1, pro, src, dst⟩ := by rw [PB.hop.1]; unfold hop; rw [show t - 1 = t1 by omega]
  rw [e1, PB.opts, PB.data] at HHOP
  obtain ⟨L1, hL1⟩ : ∃ L, pkt ⟨tos, id, hdf, hmf, off, t1, pro, src, dst⟩ opts data = L := ⟨_, rfl⟩
  rw [hL1] at HHOP P1 hl1 hck hQ
  have hLd : L1.drop z = data := by
    have h1 := P1.data
    unfold dataAt at h1
    rw [show totAt L1 = L1.length by rw [P1.tot, hl1, ho, hn, hN], List.take_length, show sizeAt L1 = z by rw [P1.size, ho, hz]] at h1
    exact h1
  have HRF := Lib.hid (fun W (A' : Option Addr) (c' : Nat) (hc : N ≤ c') (h1 : Rds W A' L1) => read_found2 W A' N c' L1 hl1 hc (by omega) h1 tos id hdf hmf off t1 pro src dst opts data P1 o z N ho hz (by rw [hn]; exact hN))
  unfold ReadFound2 at HRF
  have HSAME := Lib.hid (fun W g10 c10 (RR : Rds W (some ⟨g10, 0, none⟩) opts) (AA : Rds W A opts) => same_yes W (tos : Int) (id : Int) (off : Int) (t1 : Int) (pro : Int) (src : Int) (dst : Int) hdf hmf (some ⟨g10, 0, none⟩) A o c10 oc opts ho RR AA (by omega))
  have HSM := Lib.hid (fun W' g1 c1 (hc : N ≤ c1) (ab : Addr) (hab : (if c1 = z then some (⟨g1, 0, none⟩ : Addr) else some ⟨g1, z, none⟩) = some ab) (RL : Rds W' (some ⟨g1, 0, none⟩) L1) (RD : Rds W' DD data) (k : Nat) => (by
    have h1 : Rds W' (some ab) data := by
      have := RL.drop z c1 (by omega) (some ab) (by rw [← hab]; have hz0 : ¬ z = 0 := (by omega); simp [Addr.add, hz0])
      rwa [hLd] at this
    have h2 := sames_any W' (some ab) DD k dc2 data data h1 RD (by omega)
    rw [hn, show decide (data = data) = true from decide_eq_true rfl] at h2
    exact h2 : Calls Try.prog 22 #[.slice (some ab) n k, .slice DD n dc2] W' fun e w' => e = .returned (.bool true) ∧ ∃ m, w' = W'.drewN m))
  have et : IntKind.u8.wrap ((t : Int) - 1) = (t1 : Int) := by have e : IntKind.u8.wrap ((t : Int) - 1) = ((t : Int) - 1) % 256 := rfl; rw [e]; omega
  have a0 : IntKind.u16.wrap (t1 : Int) = t1 := by have e : IntKind.u16.wrap (t1 : Int) = (t1 : Int) % 65536 := rfl; rw [e]; omega
  have a1 : IntKind.u16.wrap (pro : Int) = pro := by have e : IntKind.u16.wrap (pro : Int) = (pro : Int) % 65536 := rfl; rw [e]; omega
  have a2 : IntKind.u16.wrap ((t1 : Int) * 256) = (t1 : Int) * 256 := by have e : IntKind.u16.wrap ((t1 : Int) * 256) = ((t1 : Int) * 256) % 65536 := rfl; rw [e]; omega
  have a3 := or_wd t1 pro (by omega) (by omega)
  obtain ⟨wd, hwd⟩ : ∃ wd, t1 * 256 + pro = wd := ⟨_, rfl⟩
  have hwdl : wd + 256 < 65536 := by omega
  rw [hwd] at a3 hck
  have hbW : hb < W.heap.size := T0.lt
  have F := Lib.hid F0
  have T := Lib.hid T0
  have RA := Lib.hid RA0
  have RD := Lib.hid RD0
  have RB := Lib.hid RB0
  have HQ := Lib.hid hQ
  have HBL := Lib.hid hBL
  have HL1 := Lib.hid hl1
  have HCK := Lib.hid hck
  have HA := Lib.hid hA
  have HD := Lib.hid hD
  have HAB := Lib.hid hab
  have N20 : 20 ≤ N := by omega
  have N300 : N ≤ 300 := by omega
  have e4 : N - z = n := by omega
  have e5 : (z : Int) ≤ N := by omega
  have e6 : (0 : Int) ≤ (z : Int) := by omega
  have eN : ((N : Int) != (N : Int)) = false := by simp
  clear F0 T0 RA0 RD0 RB0 hQ hBL hl1 hck hA hD hab hL1 hB PB P1 ok ok1 hR ho hn hz hN ht e1 hwd hLd
  obtain ⟨b0, b1, b2, b3, b4, b5, b6, b7, b8, b9⟩ := blk10 T.out
  conv => arg 2; whnf
  go_wp2_with fail
  refine HHOP.out.mono ?_
  rintro e w1 ⟨g1, c1, rfl, hrow, hf⟩
  have hc1 : N ≤ c1 := hrow.cap.1
  have hbg : hb < g1 := by have := hrow.cap.2.1; omega
  have T1 := T.out.frm hf (fun x => x)
  obtain ⟨W2, hW2⟩ : ∃ W2, W2 = w1.setCell ⟨hb, 5, none⟩ (.int .u8 (t1 : Int)) := ⟨_, rfl⟩
  have f2 : Frm (One hb) w1 W2 := by rw [hW2]; exact (Frm.refl (One hb) w1).set1 5 _
  have F2 := Lib.hid ((F.out.new0 hf).trans f2 (fun i hi h => by have : i = hb := h; omega))
  have T2 : Hid (Blk W2 hb 28 #[.int .u8 (tos : Int), .int .u16 (id : Int), .bool hdf, .bool hmf, .int .i64 (off : Int), .int .u8 (t1 : Int), .int .u8 (pro : Int), .int .u32 (src : Int), .int .u32 (dst : Int), .slice A o oc]) := by show Blk W2 _ _ _; rw [hW2]; exact T1.set_ 5 _
  have RA2 := Lib.hid ((RA.out.frm hf (fun _ _ x => x)).frm f2 (fun k hk h => by have := HA.out k hk; have : k = hb := h; omega))
  have RD2 := Lib.hid ((RD.out.frm hf (fun _ _ x => x)).frm f2 (fun k hk h => by have := HD.out k hk; have : k = hb := h; omega))
  have RB2 := Lib.hid ((RB.out.frm hf (fun _ _ x => x)).frm f2 (fun k hk h => by simp only [blk, Option.map_some, Option.some.injEq] at hk; have : k = hb := h; have := HAB.out; omega))
  have RL2 := Lib.hid (hrow.rds.frm f2 (fun k hk h => by simp only [blk, Option.map_some, Option.some.injEq] at hk; have : k = hb := h; omega))
  have hbW2 : hb < W2.heap.size := T2.out.lt
  obtain ⟨b0', b1', b2', b3', b4', b5', b6', b7', b8', b9'⟩ := blk10 T1
  have z5 := T1.frozen 5
  clear hrow hf f2 T1 F T RA RD RB HHOP b0 b1 b2 b3 b4 b5 b6 b7 b8 b9
  go_upto_region 12 with fail
  rw [← hW2]
  clear hW2 z5 b0' b1' b2' b3' b4' b5' b6' b7' b8' b9'
  go_wp2_with fail
  refine (HRF.out W2 (some ⟨g1, 0, none⟩) c1 hc1 RL2.out).mono ?_
  rintro e w3 ⟨g10, c10, rfl, hrow, hf⟩
  obtain ⟨W4, hW4⟩ : ∃ W, W = w3.alloc (.cells #[.int .u8 (tos : Int), .int .u16 (id : Int), .bool hdf, .bool hmf, .int .i64 (off : Int), .int .u8 (t1 : Int), .int .u8 (pro : Int), .int .u32 (src : Int), .int .u32 (dst : Int), .slice (some ⟨g10, 0, none⟩) o c10] 28) := ⟨_, rfl⟩
  have f4 : Frm No W2 W4 := by rw [hW4]; exact hf.alloc _
  have B4 : Hid (Blk W4 w3.heap.size 28 #[.int .u8 (tos : Int), .int .u16 (id : Int), .bool hdf, .bool hmf, .int .i64 (off : Int), .int .u8 (t1 : Int), .int .u8 (pro : Int), .int .u32 (src : Int), .int .u32 (dst : Int), .slice (some ⟨g10, 0, none⟩) o c10]) := by show Blk W4 _ _ _; rw [hW4]; exact Blk.new w3 28 _
  have O4 : Hid (Rds W4 (some ⟨g10, 0, none⟩) opts) := by show Rds W4 _ _; rw [hW4]; exact hrow.rds.alloc _
  have F4 := Lib.hid (F2.out.new0 f4)
  have T4 := Lib.hid (T2.out.frm f4 (fun x => x))
  have RA4 := Lib.hid (RA2.out.frm f4 (fun _ _ x => x))
  have RD4 := Lib.hid (RD2.out.frm f4 (fun _ _ x => x))
  have RB4 := Lib.hid (RB2.out.frm f4 (fun _ _ x => x))
  have RL4 := Lib.hid (RL2.out.frm f4 (fun _ _ x => x))
  obtain ⟨tb, htb⟩ : ∃ b, b = w3.heap.size := ⟨_, rfl⟩
  go_upto_region 13 with fail
  rw [← hW4]
  rw [← htb] at B4 ⊢
  clear hrow hf f4 hW4 htb F2 T2 RA2 RD2 RB2 RL2 HRF
  obtain ⟨b0, b1, b2, b3, b4, b5, b6, b7, b8, b9⟩ := blk10 T4.out
  obtain ⟨d0, d1, d2, d3, d4, d5, d6, d7, d8, d9⟩ := blk10 B4.out
  go_wp2_with fail
  refine (HSAME.out W4 g10 c10 O4.out RA4.out).mono ?_
  rintro e w5 ⟨rfl, hf⟩
  have F5 := Lib.hid (F4.out.new0 hf)
  have T5 := Lib.hid (T4.out.frm hf (fun x => x))
  have RA5 := Lib.hid (RA4.out.frm hf (fun _ _ x => x))
  have RD5 := Lib.hid (RD4.out.frm hf (fun _ _ x => x))
  have RB5 := Lib.hid (RB4.out.frm hf (fun _ _ x => x))
  have RL5 := Lib.hid (RL4.out.frm hf (fun _ _ x => x))
  obtain ⟨ab, hab⟩ : ∃ a, (if c1 = z then some (⟨g1, 0, none⟩ : Addr) else some ⟨g1, z, none⟩) = some a := by split <;> exact ⟨_, rfl⟩
  have e8 : (N : Int) ≤ c1 := by omega
  have HAB2 := Lib.hid (HSM.out w5 g1 c1 hc1 ab hab RL5.out RD5.out)
  clear hf b0 b1 b2 b3 b4 b5 b6 b7 b8 b9 d0 d1 d2 d3 d4 d5 d6 d7 d8 d9 F4 T4 RA4 RD4 RB4 RL4 O4 B4 HSAME HSM
  go_wp2_with fail
  refine (HAB2.out _).mono ?_
  rintro e w6 ⟨rfl, m, hm⟩
  have F6 : Hid (Frm No w w6) := by show Frm No w w6; rw [hm]; exact F5.out.drewN m
  have T6 : Hid (Blk w6 hb 28 #[.int .u8 (tos : Int), .int .u16 (id : Int), .bool hdf, .bool hmf, .int .i64 (off : Int), .int .u8 (t1 : Int), .int .u8 (pro : Int), .int .u32 (src : Int), .int .u32 (dst : Int), .slice A o oc]) := by show Blk w6 _ _ _; rw [hm]; exact T5.out.drewN m
  have RA6 : Hid (Rds w6 A opts) := by show Rds w6 _ _; rw [hm]; exact RA5.out.drewN m
  have RD6 : Hid (Rds w6 DD data) := by show Rds w6 _ _; rw [hm]; exact RD5.out.drewN m
  have RB6 : Hid (Rds w6 (some ad) B) := by show Rds w6 _ _; rw [hm]; exact RB5.out.drewN m
  have RL6 : Hid (Rds w6 (some ⟨g1, 0, none⟩) L1) := by show Rds w6 _ _; rw [hm]; exact RL5.out.drewN m
  clear hm hab HAB2 F5 T5 RA5 RD5 RB5 RL5
  obtain ⟨b0, b1, b2, b3, b4, b5, b6, b7, b8, b9⟩ := blk10 T6.out
  go_upto_region 16 with fail
  exact hops_c w6 _ _ _ _ _ _ _ _ _ _ _ _ _ _ _ _ _ _ _ _ _ _ _ _ _ _ _ _ _ _ _ _ _ _ _ _ _ _ _ _ _ _ _ _ _ _ _ _ _ _ _ _ _ _ _ _ _ _ _ _ _ _ _ _ _ _ _ _ _ _ _ _ _ _ _ _ _ _ _ _ _ _ _ _ _ _ _ _ _ _ _ _ _ _ _ _ _ _ _ _ _ _ _ _ _ _ _ _ _ _ _ _ _ _ _ _ _ _ _ _ _ _ _ _ _ _ _ _ _ _ _ _ _ _ _ _ _ _ _ _ _ _ _ _ _ _ _ _ _ _ hb M cM g1 N c1 wd ad DD n dc2 B L1 _ Q1 (by assumption) (fun v0 v1 v2 v3 v4 v8 v9 v10 v11 v12 v13 v14 v15 v16 v17 v18 v19 v20 v21 v22 v23 v24 v25 v26 v27 v28 v29 v30 v31 v32 v33 v34 v35 v36 v37 v38 v39 v40 v41 v42 v43 v44 v45 v46 v47 v48 v49 v50 v51 v52 v53 v54 v55 v56 v57 v58 v59 v60 v61 v62 v63 v64 v65 v66 v67 v68 v69 v70 v71 v72 v73 v74 v75 v76 v77 v78 v79 v80 v81 v82 v83 v84 v85 v86 v87 v88 v89 v90 v91 v92 v93 v94 v95 v96 v97 v98 v99 v100 v101 v102 v103 v104 v105 v106 v107 v108 v109 v110 v111 v112 v113 v114 v115 v116 v117 v118 v119 v120 v121 v122 v123 v124 v125 v126 v127 v128 v129 v130 v131 v132 v133 v134 v135 v136 v137 v138 v139 v140 v141 v142 v143 v144 v145 v146 v147 v148 v149 v150 v151 v152 v153 v154 W' hf => HQ.out v0 v1 v2 v3 v4 v8 v9 v10 v11 v12 v13 v14 v15 v16 v17 v18 v19 v20 v21 v22 v23 v24 v25 v26 v27 v28 v29 v30 v31 v32 v33 v34 v35 v36 v37 v38 v39 v40 v41 v42 v43 v44 v45 v46 v47 v48 v49 v50 v51 v52 v53 v54 v55 v56 v57 v58 v59 v60 v61 v62 v63 v64 v65 v66 v67 v68 v69 v70 v71 v72 v73 v74 v75 v76 v77 v78 v79 v80 v81 v82 v83 v84 v85 v86 v87 v88 v89 v90 v91 v92 v93 v94 v95 v96 v97 v98 v99 v100 v101 v102 v103 v104 v105 v106 v107 v108 v109 v110 v111 v112 v113 v114 v115 v116 v117 v118 v119 v120 v121 v122 v123 v124 v125 v126 v127 v128 v129 v130 v131 v132 v133 v134 v135 v136 v137 v138 v139 v140 v141 v142 v143 v144 v145 v146 v147 v148 v149 v150 v151 v152 v153 v154 g1 c1 W' hc1 ⟨F6.out.new0 hf, T6.out.frm hf (fun x => x), RA6.out.frm hf (fun _ _ x => x), RD6.out.frm hf (fun _ _ x => x), RL6.out.frm hf (fun _ _ x => x), by show g1 ≠ hb; omega⟩) HBL.out hM20 hM2 HL1.out N20 N300 hwdl HCK.out RB6.out RL6.out

end Go.Proofs.Ytcclneaabnpbkaa
