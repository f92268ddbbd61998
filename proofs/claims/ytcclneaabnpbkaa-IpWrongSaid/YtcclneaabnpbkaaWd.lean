/-
  IpWrong: the six ways to make a header wrong for its data.
-/
import Derived.Test.YtcclneaabnpbkaaWc
namespace Go.Proofs.Ytcclneaabnpbkaa
open Go.RowKit
attribute [local go_sem] undef

theorem bad_reaches (o : Nat) (off : Int) (mf : Bool) (n : Int) (h : reachesB off n = false) : rightB o off mf n = false := by
  unfold rightB
  rw [h, Bool.and_false, Bool.false_and]
theorem bad_holds (o : Nat) (off : Int) (mf : Bool) (n : Int) (h : holdsB o n = false) : rightB o off mf n = false := by
  unfold rightB
  rw [h]
  rfl
theorem bad_divides (o : Nat) (off : Int) (n : Int) (h : ¬ (0 < n ∧ n % 8 = 0)) : rightB o off true n = false := by
  unfold rightB dividesB
  rw [decide_eq_false h]
  simp

/-- Zeros appended onto a slice whose capacity is its length, nil or not. -/
theorem run_zeros3 (w : World) (A : Option Addr) (N : Nat) (bs : List UInt8) (hN : bs.length = N) (h : Rds w A bs) (hA : A = none → N = 0) (k : Nat) (hk0 : 0 < k) (hk : k ≤ 100) (hb : N ≤ 70000) :
    ∃ A' c' w', (Builtin.append_ #[22, 3] 22 #[.slice A N N, .int .i64 (k : Int)]).run Try.prog w = .ok (.slice A' (N + k) c') w' ∧ Frm No w w' := by
  obtain ⟨i0, hi, hz0, hz1, hz2⟩ := info_parts info5
  have hold : ∃ olds : List Value, (Builtin.firstCells i0.size N (.slice A N N)).run Try.prog w.drew = .ok olds.toArray w.drew := by
    cases A with
    | none => exact ⟨[], run_firstCells_none _ _ _ _ _⟩
    | some ad => exact ⟨byts bs, run_firstCells_some (P := Try.prog) w.drew i0.size N ad N N (byts bs) (by rw [byts_len, hz1]; omega) (fun j u hu => by rw [World.cell?_drew]; exact h.news j u hu)⟩
  obtain ⟨olds, hold⟩ := hold
  have hr := Lib.run_append_grow_zeros (P := Try.prog) w 22 3 22 5 i0 (.int .u8 0) .i64 .i64 Try.underlying22 Try.underlying3 hi hz0 A N N olds hold k (by omega) (by omega) (by omega) (by omega) (by rw [hz2]; omega) (growslice_fits (by omega) (by rw [hz2]; omega))
  exact ⟨_, _, _, hr, ⟨rfl, rfl, rfl, by simp, fun k hk _ => heap_alloc_old w.drew _ hk⟩⟩

/-- Bytes appended onto a slice whose capacity is its length, nil or not. -/
theorem run_bytes3 (w : World) (A : Option Addr) (N : Nat) (bs : List UInt8) (hN : bs.length = N) (h : Rds w A bs) (hA : A = none → N = 0) (g m : Nat) (ys : List UInt8) (hm : ys.length = m) (hm0 : 0 < m) (hr : Rds w (some ⟨g, 0, none⟩) ys) (hb : N + m ≤ 70000) :
    ∃ A' c' w', (Builtin.append_ #[22, 22] 22 #[.slice A N N, .slice (some ⟨g, 0, none⟩) m m]).run Try.prog w = .ok (.slice A' (N + m) c') w' ∧ Frm No w w' := by
  cases A with
  | some ad =>
    obtain ⟨ad', c', w', h1, h2, h3, h4⟩ := run_append_full w 22 ad N bs hN h (some ⟨g, 0, none⟩) m m ys hm hr hb
    exact ⟨_, _, _, h1, h4⟩
  | none =>
    obtain rfl := hA rfl
    obtain ⟨i0, hi, hz0, hz1, hz2⟩ := info_parts info5
    have hr2 := run_append_nil (P := Try.prog) w 22 22 5 i0 (.int .u8 0) Try.underlying22 hi hz0 ⟨g, 0, none⟩ m m (byts ys) (by rw [hz1, byts_len]; omega) hr.news (by omega) (by omega) (by rw [hz2]; omega)
    rw [Nat.zero_add]
    exact ⟨_, _, _, hr2, ⟨rfl, rfl, rfl, by simp, fun k hk _ => heap_alloc_old w.drew _ hk⟩⟩

theorem and_low (x : Int) (m : Nat) (hm : m < 4294967296) : ∃ k : Nat, bits .and .i64 x (m : Int) = (k : Int) ∧ k ≤ m ∧ k = (BitVec.ofInt 64 x).toNat &&& m := by
  refine ⟨(BitVec.ofInt 64 x).toNat &&& m, ?_, Nat.and_le_right, rfl⟩
  have hle : (BitVec.ofInt 64 x).toNat &&& m ≤ m := Nat.and_le_right
  show IntKind.i64.wrap ((BitVec.ofInt 64 x &&& BitVec.ofInt 64 (m : Int)).toNat : Int) = _
  have e : (BitVec.ofInt 64 (m : Int)).toNat = m := by
    rw [BitVec.toNat_ofInt]
    omega
  rw [BitVec.toNat_and, e, IntWalk.i64_in]
  omega
theorem or_low (a b : Nat) (ha : a < 4294967296) (hb : b < 4294967296) : bits .or .i64 (a : Int) (b : Int) = ((a ||| b : Nat) : Int) ∧ a ||| b < 4294967296 := by
  have hl : a ||| b < 2 ^ 32 := Nat.or_lt_two_pow (by omega) (by omega)
  refine ⟨?_, hl⟩
  show IntKind.i64.wrap ((BitVec.ofInt 64 (a : Int) ||| BitVec.ofInt 64 (b : Int)).toNat : Int) = _
  have e1 : (BitVec.ofInt 64 (a : Int)).toNat = a := by
    rw [BitVec.toNat_ofInt]
    omega
  have e2 : (BitVec.ofInt 64 (b : Int)).toNat = b := by
    rw [BitVec.toNat_ofInt]
    omega
  rw [BitVec.toNat_or, e1, e2, IntWalk.i64_in]
  omega

set_option maxRecDepth 100000 in
set_option maxHeartbeats 4000000 in
theorem bad_0 (w W : World) (u0 u3 u4 u5 u6 u9 u10 u11 u12 u13 u14 u15 u16 u17 u18 u19 u20 u21 u22 u23 u24 u25 u26 u27 u28 u29 u30 u31 u32 u33 u34 u35 u36 u37 u38 u39 u40 u41 u42 u43 u44 u45 u46 u47 u48 u49 u50 u51 u52 u53 u54 u55 u56 u57 u58 u59 u60 u61 u62 u63 u64 u65 u66 u67 u68 u69 u70 u71 u72 u73 u74 u75 u76 u77 u78 u79 u80 u81 u82 u83 u84 u85 u86 u87 u88 u89 u90 u91 u92 u93 u94 u95 u96 u97 u98 u99 u100 u101 u102 u103 u104 u105 u106 u107 u108 u109 u110 u111 u112 u113 u114 u115 u116 u117 u118 u119 u120 u121 u122 u123 u124 u125 u126 u127 u128 u129 u130 u131 u132 u133 u134 u135 u136 u137 u138 u139 u140 u141 u142 u143 u144 u145 u146 u147 u148 u149 u150 u151 u152 u153 u154 u155 u156 u157 u158 u159 u160 u161 u162 u163 u164 u165 u166 u167 u168 u169 u170 u171 u172 u173 u174 u175 u176 u177 u178 u179 u180 u181 u182 u183 u184 u185 u186 u187 u188 u189 u190 u191 u192 u193 u194 u195 u196 u197 u198 u199 u200 u201 u202 u203 u204 u205 u206 u207 u208 u209 u210 u211 u212 u213 u214 u215 u216 u217 u218 u219 u220 u221 u222 u223 u224 u225 u226 u227 u228 u229 u230 u231 u232 u233 u234 u235 : Value) (way : Nat) (nn : Int) (hb : Nat) (tos id : Nat) (hdf hmf : Bool) (off ttl pro src dst : Nat) (A DD : Option Addr) (o oc n dc2 : Nat) (opts data : List UInt8) (K K7 : Act → World → Prop)
    (hK : ∀ a W, Code.wp Try.prog (dropS 1 T11) (Exit.then K7 (bodyPost Try.prog Try.f11 (BoolNo true w))) a W → K a W)
    (hj : (way : Int) % 12 = 0) (_hnn : -9223372036854775808 ≤ nn ∧ nn ≤ 9223372036854775807) (ho : o ≤ 40) (hoff : off ≤ 65528) (_ho8 : off % 8 = 0) (_ho4 : o % 4 = 0) (_hn : n ≤ 80) (_hoc : o ≤ oc) (_hnc : n ≤ dc2) (hop : opts.length = o) (hda : data.length = n) (_hAn : A = none → oc = 0) (_hDn : DD = none → dc2 = 0) (_hwb : w.heap.size ≤ hb)
    (F0 : Frm No w W) (T0 : Blk W hb 28 #[.int .u8 (tos : Int), .int .u16 (id : Int), .bool hdf, .bool hmf, .int .i64 (off : Int), .int .u8 (ttl : Int), .int .u8 (pro : Int), .int .u32 (src : Int), .int .u32 (dst : Int), .slice A o oc]) (RA0 : Rds W A opts) (RD0 : Rds W DD data) :
    Code.wp Try.prog (headS T11) (Exit.then K (Exit.then K7 (bodyPost Try.prog Try.f11 (BoolNo true w)))) ⟨#[u0, .int .u8 (way : Int), .int .i64 nn, u3, u4, u5, u6, .pointer (some ⟨hb, 0, none⟩), .slice DD n dc2, u9, u10, u11, u12, u13, u14, u15, u16, u17, u18, u19, u20, u21, u22, u23, u24, u25, u26, u27, u28, u29, u30, u31, u32, u33, u34, u35, u36, u37, u38, u39, u40, u41, u42, u43, u44, u45, u46, u47, u48, u49, u50, u51, u52, u53, u54, u55, u56, u57, u58, u59, u60, u61, u62, u63, u64, u65, u66, u67, u68, u69, u70, u71, u72, u73, u74, u75, u76, u77, u78, u79, u80, u81, u82, u83, u84, u85, u86, u87, u88, u89, u90, u91, u92, u93, u94, u95, u96, u97, u98, u99, u100, u101, u102, u103, u104, u105, u106, u107, u108, u109, u110, u111, u112, u113, u114, u115, u116, u117, u118, u119, u120, u121, u122, u123, u124, u125, u126, u127, u128, u129, u130, u131, u132, u133, u134, u135, u136, u137, u138, u139, u140, u141, u142, u143, u144, u145, u146, u147, u148, u149, u150, u151, u152, u153, u154, u155, u156, u157, u158, u159, u160, u161, u162, u163, u164, u165, u166, u167, u168, u169, u170, u171, u172, u173, u174, u175, u176, u177, u178, u179, u180, u181, u182, u183, u184, u185, u186, u187, u188, u189, u190, u191, u192, u193, u194, u195, u196, u197, u198, u199, u200, u201, u202, u203, u204, u205, u206, u207, u208, u209, u210, u211, u212, u213, u214, u215, u216, u217, u218, u219, u220, u221, u222, u223, u224, u225, u226, u227, u228, u229, u230, u231, u232, u233, u234, u235], []⟩ W := by
  obtain ⟨W1, hW1⟩ : ∃ W1, W1 = W.alloc (.cells #[.int .u8 (tos : Int), .int .u16 (id : Int), .bool hdf, .bool hmf, .int .i64 (off : Int), .int .u8 (ttl : Int), .int .u8 (pro : Int), .int .u32 (src : Int), .int .u32 (dst : Int), .slice A o oc] 28) := ⟨_, rfl⟩
  have F1 : Hid (Frm No w W1) := by show Frm No w W1; rw [hW1]; exact F0.alloc _
  have T1 : Hid (Blk W1 hb 28 #[.int .u8 (tos : Int), .int .u16 (id : Int), .bool hdf, .bool hmf, .int .i64 (off : Int), .int .u8 (ttl : Int), .int .u8 (pro : Int), .int .u32 (src : Int), .int .u32 (dst : Int), .slice A o oc]) := by show Blk W1 _ _ _; rw [hW1]; exact T0.alloc _
  have B1 : Hid (Blk W1 W.heap.size 28 #[.int .u8 (tos : Int), .int .u16 (id : Int), .bool hdf, .bool hmf, .int .i64 (off : Int), .int .u8 (ttl : Int), .int .u8 (pro : Int), .int .u32 (src : Int), .int .u32 (dst : Int), .slice A o oc]) := by show Blk W1 _ _ _; rw [hW1]; exact Blk.new W 28 _
  have RA : Hid (Rds W1 A opts) := by show Rds W1 _ _; rw [hW1]; exact RA0.alloc _
  have RD : Hid (Rds W1 DD data) := by show Rds W1 _ _; rw [hW1]; exact RD0.alloc _
  have hbt : hb < W.heap.size := T0.lt
  have hww : w.heap.size ≤ W.heap.size := F0.size
  obtain ⟨b0, b1, b2, b3, b4, b5, b6, b7, b8, b9⟩ := blk10 T0
  have HK := Lib.hid hK
  have HOP := Lib.hid hop
  have HDA := Lib.hid hda
  clear F0 T0 RA0 RD0 hK hop hda
  conv => arg 2; whnf
  go_wp2_with fail
  rw [← hW1]
  have hKK := HK.out
  refine hKK _ _ ?_
  clear hKK HK
  conv => arg 2; whnf
  obtain ⟨tb, htb⟩ : ∃ b, b = W.heap.size := ⟨_, rfl⟩
  rw [← htb] at B1 hbt hww ⊢
  clear htb hW1 b0 b1 b2 b3 b4 b5 b6 b7 b8 b9
  obtain ⟨b0, b1, b2, b3, b4, b5, b6, b7, b8, b9⟩ := blk10 B1.out
  have z4 := B1.out.frozen 4
  have z9 := B1.out.frozen 9
  have z3 := B1.out.frozen 3
  by_cases h : (-1 : Int) < nn
  · have hv : (-1 : Int) < 0 := by omega
    obtain ⟨W2, hW2⟩ : ∃ W2, W2 = W1.setCell ⟨tb, 4, none⟩ (.int .i64 (-1)) := ⟨_, rfl⟩
    have f2 : Frm (One tb) W1 W2 := by rw [hW2]; exact (Frm.refl (One tb) W1).set1 4 _
    have F2 := Lib.hid (F1.out.trans f2 (fun i hi h => by have h1 : i = tb := h; exact absurd hi (by omega)))
    have T2 := Lib.hid (T1.out.frm f2 (fun h => by have h1 : hb = tb := h; omega))
    have B2 := Lib.hid (by rw [hW2]; exact B1.out.set_ 4 _ : Blk W2 tb 28 _)
    clear F1 T1 B1 f2
    go_upto_region 22 with fail
    rw [← hW2]
    exact wrong_w w W2 _ _ _ _ _ _ _ _ _ _ _ _ _ _ _ _ _ _ _ _ _ _ _ _ _ _ _ _ _ _ _ _ _ _ _ _ _ _ _ _ _ _ _ _ _ _ _ _ _ _ _ _ _ _ _ _ _ _ _ _ _ _ _ _ _ _ _ _ _ _ _ _ _ _ _ _ _ _ _ _ _ _ _ _ _ _ _ _ _ _ _ _ _ _ _ _ _ _ _ _ _ _ _ _ _ _ _ _ _ _ _ _ _ _ _ _ _ _ _ _ _ _ _ _ _ _ _ _ _ _ _ _ _ _ _ _ _ _ _ _ _ _ _ _ _ _ _ _ _ _ _ _ _ _ _ _ _ _ _ _ _ _ _ _ _ _ _ _ _ _ _ _ _ _ _ _ _ _ _ _ _ _ _ _ _ _ _ _ _ _ _ _ _ _ _ _ _ _ _ _ _ _ _ _ _ _ _ _ _ _ _ _ _ _ _ _ _ _ _ _ _ _ _ _ _ _ _ _ _ _ _ _ nn hb tb tos id hdf hmf hmf off ttl pro src dst (-1) A A DD o oc o oc n dc2 _ K7 (by assumption) ho hoff (by omega) (by omega) (bad_reaches _ _ _ _ (decide_eq_false (by omega))) F2.out T2.out B2.out
  ·
    obtain ⟨W2, hW2⟩ : ∃ W2, W2 = W1.setCell ⟨tb, 4, none⟩ (.int .i64 nn) := ⟨_, rfl⟩
    have f2 : Frm (One tb) W1 W2 := by rw [hW2]; exact (Frm.refl (One tb) W1).set1 4 _
    have F2 := Lib.hid (F1.out.trans f2 (fun i hi h => by have h1 : i = tb := h; exact absurd hi (by omega)))
    have T2 := Lib.hid (T1.out.frm f2 (fun h => by have h1 : hb = tb := h; omega))
    have B2 := Lib.hid (by rw [hW2]; exact B1.out.set_ 4 _ : Blk W2 tb 28 _)
    clear F1 T1 B1 f2
    go_upto_region 22 with fail
    rw [← hW2]
    exact wrong_w w W2 _ _ _ _ _ _ _ _ _ _ _ _ _ _ _ _ _ _ _ _ _ _ _ _ _ _ _ _ _ _ _ _ _ _ _ _ _ _ _ _ _ _ _ _ _ _ _ _ _ _ _ _ _ _ _ _ _ _ _ _ _ _ _ _ _ _ _ _ _ _ _ _ _ _ _ _ _ _ _ _ _ _ _ _ _ _ _ _ _ _ _ _ _ _ _ _ _ _ _ _ _ _ _ _ _ _ _ _ _ _ _ _ _ _ _ _ _ _ _ _ _ _ _ _ _ _ _ _ _ _ _ _ _ _ _ _ _ _ _ _ _ _ _ _ _ _ _ _ _ _ _ _ _ _ _ _ _ _ _ _ _ _ _ _ _ _ _ _ _ _ _ _ _ _ _ _ _ _ _ _ _ _ _ _ _ _ _ _ _ _ _ _ _ _ _ _ _ _ _ _ _ _ _ _ _ _ _ _ _ _ _ _ _ _ _ _ _ _ _ _ _ _ _ _ _ _ _ _ _ _ _ _ nn hb tb tos id hdf hmf hmf off ttl pro src dst nn A A DD o oc o oc n dc2 _ K7 (by assumption) ho hoff (by omega) (by omega) (bad_reaches _ _ _ _ (decide_eq_false (by omega))) F2.out T2.out B2.out


set_option maxRecDepth 100000 in
set_option maxHeartbeats 4000000 in
theorem bad_1 (w W : World) (u0 u3 u4 u5 u6 u9 u10 u11 u12 u13 u14 u15 u16 u17 u18 u19 u20 u21 u22 u23 u24 u25 u26 u27 u28 u29 u30 u31 u32 u33 u34 u35 u36 u37 u38 u39 u40 u41 u42 u43 u44 u45 u46 u47 u48 u49 u50 u51 u52 u53 u54 u55 u56 u57 u58 u59 u60 u61 u62 u63 u64 u65 u66 u67 u68 u69 u70 u71 u72 u73 u74 u75 u76 u77 u78 u79 u80 u81 u82 u83 u84 u85 u86 u87 u88 u89 u90 u91 u92 u93 u94 u95 u96 u97 u98 u99 u100 u101 u102 u103 u104 u105 u106 u107 u108 u109 u110 u111 u112 u113 u114 u115 u116 u117 u118 u119 u120 u121 u122 u123 u124 u125 u126 u127 u128 u129 u130 u131 u132 u133 u134 u135 u136 u137 u138 u139 u140 u141 u142 u143 u144 u145 u146 u147 u148 u149 u150 u151 u152 u153 u154 u155 u156 u157 u158 u159 u160 u161 u162 u163 u164 u165 u166 u167 u168 u169 u170 u171 u172 u173 u174 u175 u176 u177 u178 u179 u180 u181 u182 u183 u184 u185 u186 u187 u188 u189 u190 u191 u192 u193 u194 u195 u196 u197 u198 u199 u200 u201 u202 u203 u204 u205 u206 u207 u208 u209 u210 u211 u212 u213 u214 u215 u216 u217 u218 u219 u220 u221 u222 u223 u224 u225 u226 u227 u228 u229 u230 u231 u232 u233 u234 u235 : Value) (way : Nat) (nn : Int) (hb : Nat) (tos id : Nat) (hdf hmf : Bool) (off ttl pro src dst : Nat) (A DD : Option Addr) (o oc n dc2 : Nat) (opts data : List UInt8) (K K7 : Act → World → Prop)
    (hK : ∀ a W, Code.wp Try.prog (dropS 1 T11) (Exit.then K7 (bodyPost Try.prog Try.f11 (BoolNo true w))) a W → K a W)
    (hj : (way : Int) % 12 = 1) (_hnn : -9223372036854775808 ≤ nn ∧ nn ≤ 9223372036854775807) (ho : o ≤ 40) (hoff : off ≤ 65528) (_ho8 : off % 8 = 0) (_ho4 : o % 4 = 0) (_hn : n ≤ 80) (_hoc : o ≤ oc) (_hnc : n ≤ dc2) (hop : opts.length = o) (hda : data.length = n) (_hAn : A = none → oc = 0) (_hDn : DD = none → dc2 = 0) (_hwb : w.heap.size ≤ hb)
    (F0 : Frm No w W) (T0 : Blk W hb 28 #[.int .u8 (tos : Int), .int .u16 (id : Int), .bool hdf, .bool hmf, .int .i64 (off : Int), .int .u8 (ttl : Int), .int .u8 (pro : Int), .int .u32 (src : Int), .int .u32 (dst : Int), .slice A o oc]) (RA0 : Rds W A opts) (RD0 : Rds W DD data) :
    Code.wp Try.prog (headS T11) (Exit.then K (Exit.then K7 (bodyPost Try.prog Try.f11 (BoolNo true w)))) ⟨#[u0, .int .u8 (way : Int), .int .i64 nn, u3, u4, u5, u6, .pointer (some ⟨hb, 0, none⟩), .slice DD n dc2, u9, u10, u11, u12, u13, u14, u15, u16, u17, u18, u19, u20, u21, u22, u23, u24, u25, u26, u27, u28, u29, u30, u31, u32, u33, u34, u35, u36, u37, u38, u39, u40, u41, u42, u43, u44, u45, u46, u47, u48, u49, u50, u51, u52, u53, u54, u55, u56, u57, u58, u59, u60, u61, u62, u63, u64, u65, u66, u67, u68, u69, u70, u71, u72, u73, u74, u75, u76, u77, u78, u79, u80, u81, u82, u83, u84, u85, u86, u87, u88, u89, u90, u91, u92, u93, u94, u95, u96, u97, u98, u99, u100, u101, u102, u103, u104, u105, u106, u107, u108, u109, u110, u111, u112, u113, u114, u115, u116, u117, u118, u119, u120, u121, u122, u123, u124, u125, u126, u127, u128, u129, u130, u131, u132, u133, u134, u135, u136, u137, u138, u139, u140, u141, u142, u143, u144, u145, u146, u147, u148, u149, u150, u151, u152, u153, u154, u155, u156, u157, u158, u159, u160, u161, u162, u163, u164, u165, u166, u167, u168, u169, u170, u171, u172, u173, u174, u175, u176, u177, u178, u179, u180, u181, u182, u183, u184, u185, u186, u187, u188, u189, u190, u191, u192, u193, u194, u195, u196, u197, u198, u199, u200, u201, u202, u203, u204, u205, u206, u207, u208, u209, u210, u211, u212, u213, u214, u215, u216, u217, u218, u219, u220, u221, u222, u223, u224, u225, u226, u227, u228, u229, u230, u231, u232, u233, u234, u235], []⟩ W := by
  obtain ⟨W1, hW1⟩ : ∃ W1, W1 = W.alloc (.cells #[.int .u8 (tos : Int), .int .u16 (id : Int), .bool hdf, .bool hmf, .int .i64 (off : Int), .int .u8 (ttl : Int), .int .u8 (pro : Int), .int .u32 (src : Int), .int .u32 (dst : Int), .slice A o oc] 28) := ⟨_, rfl⟩
  have F1 : Hid (Frm No w W1) := by show Frm No w W1; rw [hW1]; exact F0.alloc _
  have T1 : Hid (Blk W1 hb 28 #[.int .u8 (tos : Int), .int .u16 (id : Int), .bool hdf, .bool hmf, .int .i64 (off : Int), .int .u8 (ttl : Int), .int .u8 (pro : Int), .int .u32 (src : Int), .int .u32 (dst : Int), .slice A o oc]) := by show Blk W1 _ _ _; rw [hW1]; exact T0.alloc _
  have B1 : Hid (Blk W1 W.heap.size 28 #[.int .u8 (tos : Int), .int .u16 (id : Int), .bool hdf, .bool hmf, .int .i64 (off : Int), .int .u8 (ttl : Int), .int .u8 (pro : Int), .int .u32 (src : Int), .int .u32 (dst : Int), .slice A o oc]) := by show Blk W1 _ _ _; rw [hW1]; exact Blk.new W 28 _
  have RA : Hid (Rds W1 A opts) := by show Rds W1 _ _; rw [hW1]; exact RA0.alloc _
  have RD : Hid (Rds W1 DD data) := by show Rds W1 _ _; rw [hW1]; exact RD0.alloc _
  have hbt : hb < W.heap.size := T0.lt
  have hww : w.heap.size ≤ W.heap.size := F0.size
  obtain ⟨b0, b1, b2, b3, b4, b5, b6, b7, b8, b9⟩ := blk10 T0
  have HK := Lib.hid hK
  have HOP := Lib.hid hop
  have HDA := Lib.hid hda
  clear F0 T0 RA0 RD0 hK hop hda
  conv => arg 2; whnf
  go_wp2_with fail
  rw [← hW1]
  have hKK := HK.out
  refine hKK _ _ ?_
  clear hKK HK
  conv => arg 2; whnf
  obtain ⟨tb, htb⟩ : ∃ b, b = W.heap.size := ⟨_, rfl⟩
  rw [← htb] at B1 hbt hww ⊢
  clear htb hW1 b0 b1 b2 b3 b4 b5 b6 b7 b8 b9
  obtain ⟨b0, b1, b2, b3, b4, b5, b6, b7, b8, b9⟩ := blk10 B1.out
  have z4 := B1.out.frozen 4
  have z9 := B1.out.frozen 9
  have z3 := B1.out.frozen 3
  by_cases h : nn < 65516
  ·
    obtain ⟨W2, hW2⟩ : ∃ W2, W2 = W1.setCell ⟨tb, 4, none⟩ (.int .i64 65516) := ⟨_, rfl⟩
    have f2 : Frm (One tb) W1 W2 := by rw [hW2]; exact (Frm.refl (One tb) W1).set1 4 _
    have F2 := Lib.hid (F1.out.trans f2 (fun i hi h => by have h1 : i = tb := h; exact absurd hi (by omega)))
    have T2 := Lib.hid (T1.out.frm f2 (fun h => by have h1 : hb = tb := h; omega))
    have B2 := Lib.hid (by rw [hW2]; exact B1.out.set_ 4 _ : Blk W2 tb 28 _)
    clear F1 T1 B1 f2
    go_upto_region 22 with fail
    rw [← hW2]
    exact wrong_w w W2 _ _ _ _ _ _ _ _ _ _ _ _ _ _ _ _ _ _ _ _ _ _ _ _ _ _ _ _ _ _ _ _ _ _ _ _ _ _ _ _ _ _ _ _ _ _ _ _ _ _ _ _ _ _ _ _ _ _ _ _ _ _ _ _ _ _ _ _ _ _ _ _ _ _ _ _ _ _ _ _ _ _ _ _ _ _ _ _ _ _ _ _ _ _ _ _ _ _ _ _ _ _ _ _ _ _ _ _ _ _ _ _ _ _ _ _ _ _ _ _ _ _ _ _ _ _ _ _ _ _ _ _ _ _ _ _ _ _ _ _ _ _ _ _ _ _ _ _ _ _ _ _ _ _ _ _ _ _ _ _ _ _ _ _ _ _ _ _ _ _ _ _ _ _ _ _ _ _ _ _ _ _ _ _ _ _ _ _ _ _ _ _ _ _ _ _ _ _ _ _ _ _ _ _ _ _ _ _ _ _ _ _ _ _ _ _ _ _ _ _ _ _ _ _ _ _ _ _ _ _ _ _ nn hb tb tos id hdf hmf hmf off ttl pro src dst 65516 A A DD o oc o oc n dc2 _ K7 (by assumption) ho hoff (by omega) (by omega) (bad_reaches _ _ _ _ (decide_eq_false (by omega))) F2.out T2.out B2.out
  ·
    obtain ⟨W2, hW2⟩ : ∃ W2, W2 = W1.setCell ⟨tb, 4, none⟩ (.int .i64 nn) := ⟨_, rfl⟩
    have f2 : Frm (One tb) W1 W2 := by rw [hW2]; exact (Frm.refl (One tb) W1).set1 4 _
    have F2 := Lib.hid (F1.out.trans f2 (fun i hi h => by have h1 : i = tb := h; exact absurd hi (by omega)))
    have T2 := Lib.hid (T1.out.frm f2 (fun h => by have h1 : hb = tb := h; omega))
    have B2 := Lib.hid (by rw [hW2]; exact B1.out.set_ 4 _ : Blk W2 tb 28 _)
    clear F1 T1 B1 f2
    go_upto_region 22 with fail
    rw [← hW2]
    exact wrong_w w W2 _ _ _ _ _ _ _ _ _ _ _ _ _ _ _ _ _ _ _ _ _ _ _ _ _ _ _ _ _ _ _ _ _ _ _ _ _ _ _ _ _ _ _ _ _ _ _ _ _ _ _ _ _ _ _ _ _ _ _ _ _ _ _ _ _ _ _ _ _ _ _ _ _ _ _ _ _ _ _ _ _ _ _ _ _ _ _ _ _ _ _ _ _ _ _ _ _ _ _ _ _ _ _ _ _ _ _ _ _ _ _ _ _ _ _ _ _ _ _ _ _ _ _ _ _ _ _ _ _ _ _ _ _ _ _ _ _ _ _ _ _ _ _ _ _ _ _ _ _ _ _ _ _ _ _ _ _ _ _ _ _ _ _ _ _ _ _ _ _ _ _ _ _ _ _ _ _ _ _ _ _ _ _ _ _ _ _ _ _ _ _ _ _ _ _ _ _ _ _ _ _ _ _ _ _ _ _ _ _ _ _ _ _ _ _ _ _ _ _ _ _ _ _ _ _ _ _ _ _ _ _ _ nn hb tb tos id hdf hmf hmf off ttl pro src dst nn A A DD o oc o oc n dc2 _ K7 (by assumption) ho hoff (by omega) (by omega) (bad_reaches _ _ _ _ (decide_eq_false (by omega))) F2.out T2.out B2.out


set_option maxRecDepth 100000 in
set_option maxHeartbeats 4000000 in
theorem bad_2 (w W : World) (u0 u3 u4 u5 u6 u9 u10 u11 u12 u13 u14 u15 u16 u17 u18 u19 u20 u21 u22 u23 u24 u25 u26 u27 u28 u29 u30 u31 u32 u33 u34 u35 u36 u37 u38 u39 u40 u41 u42 u43 u44 u45 u46 u47 u48 u49 u50 u51 u52 u53 u54 u55 u56 u57 u58 u59 u60 u61 u62 u63 u64 u65 u66 u67 u68 u69 u70 u71 u72 u73 u74 u75 u76 u77 u78 u79 u80 u81 u82 u83 u84 u85 u86 u87 u88 u89 u90 u91 u92 u93 u94 u95 u96 u97 u98 u99 u100 u101 u102 u103 u104 u105 u106 u107 u108 u109 u110 u111 u112 u113 u114 u115 u116 u117 u118 u119 u120 u121 u122 u123 u124 u125 u126 u127 u128 u129 u130 u131 u132 u133 u134 u135 u136 u137 u138 u139 u140 u141 u142 u143 u144 u145 u146 u147 u148 u149 u150 u151 u152 u153 u154 u155 u156 u157 u158 u159 u160 u161 u162 u163 u164 u165 u166 u167 u168 u169 u170 u171 u172 u173 u174 u175 u176 u177 u178 u179 u180 u181 u182 u183 u184 u185 u186 u187 u188 u189 u190 u191 u192 u193 u194 u195 u196 u197 u198 u199 u200 u201 u202 u203 u204 u205 u206 u207 u208 u209 u210 u211 u212 u213 u214 u215 u216 u217 u218 u219 u220 u221 u222 u223 u224 u225 u226 u227 u228 u229 u230 u231 u232 u233 u234 u235 : Value) (way : Nat) (nn : Int) (hb : Nat) (tos id : Nat) (hdf hmf : Bool) (off ttl pro src dst : Nat) (A DD : Option Addr) (o oc n dc2 : Nat) (opts data : List UInt8) (K K7 : Act → World → Prop)
    (hK : ∀ a W, Code.wp Try.prog (dropS 1 T11) (Exit.then K7 (bodyPost Try.prog Try.f11 (BoolNo true w))) a W → K a W)
    (hj : (way : Int) % 12 = 2) (_hnn : -9223372036854775808 ≤ nn ∧ nn ≤ 9223372036854775807) (ho : o ≤ 40) (hoff : off ≤ 65528) (_ho8 : off % 8 = 0) (_ho4 : o % 4 = 0) (_hn : n ≤ 80) (_hoc : o ≤ oc) (_hnc : n ≤ dc2) (hop : opts.length = o) (hda : data.length = n) (_hAn : A = none → oc = 0) (_hDn : DD = none → dc2 = 0) (_hwb : w.heap.size ≤ hb)
    (F0 : Frm No w W) (T0 : Blk W hb 28 #[.int .u8 (tos : Int), .int .u16 (id : Int), .bool hdf, .bool hmf, .int .i64 (off : Int), .int .u8 (ttl : Int), .int .u8 (pro : Int), .int .u32 (src : Int), .int .u32 (dst : Int), .slice A o oc]) (RA0 : Rds W A opts) (RD0 : Rds W DD data) :
    Code.wp Try.prog (headS T11) (Exit.then K (Exit.then K7 (bodyPost Try.prog Try.f11 (BoolNo true w)))) ⟨#[u0, .int .u8 (way : Int), .int .i64 nn, u3, u4, u5, u6, .pointer (some ⟨hb, 0, none⟩), .slice DD n dc2, u9, u10, u11, u12, u13, u14, u15, u16, u17, u18, u19, u20, u21, u22, u23, u24, u25, u26, u27, u28, u29, u30, u31, u32, u33, u34, u35, u36, u37, u38, u39, u40, u41, u42, u43, u44, u45, u46, u47, u48, u49, u50, u51, u52, u53, u54, u55, u56, u57, u58, u59, u60, u61, u62, u63, u64, u65, u66, u67, u68, u69, u70, u71, u72, u73, u74, u75, u76, u77, u78, u79, u80, u81, u82, u83, u84, u85, u86, u87, u88, u89, u90, u91, u92, u93, u94, u95, u96, u97, u98, u99, u100, u101, u102, u103, u104, u105, u106, u107, u108, u109, u110, u111, u112, u113, u114, u115, u116, u117, u118, u119, u120, u121, u122, u123, u124, u125, u126, u127, u128, u129, u130, u131, u132, u133, u134, u135, u136, u137, u138, u139, u140, u141, u142, u143, u144, u145, u146, u147, u148, u149, u150, u151, u152, u153, u154, u155, u156, u157, u158, u159, u160, u161, u162, u163, u164, u165, u166, u167, u168, u169, u170, u171, u172, u173, u174, u175, u176, u177, u178, u179, u180, u181, u182, u183, u184, u185, u186, u187, u188, u189, u190, u191, u192, u193, u194, u195, u196, u197, u198, u199, u200, u201, u202, u203, u204, u205, u206, u207, u208, u209, u210, u211, u212, u213, u214, u215, u216, u217, u218, u219, u220, u221, u222, u223, u224, u225, u226, u227, u228, u229, u230, u231, u232, u233, u234, u235], []⟩ W := by
  obtain ⟨W1, hW1⟩ : ∃ W1, W1 = W.alloc (.cells #[.int .u8 (tos : Int), .int .u16 (id : Int), .bool hdf, .bool hmf, .int .i64 (off : Int), .int .u8 (ttl : Int), .int .u8 (pro : Int), .int .u32 (src : Int), .int .u32 (dst : Int), .slice A o oc] 28) := ⟨_, rfl⟩
  have F1 : Hid (Frm No w W1) := by show Frm No w W1; rw [hW1]; exact F0.alloc _
  have T1 : Hid (Blk W1 hb 28 #[.int .u8 (tos : Int), .int .u16 (id : Int), .bool hdf, .bool hmf, .int .i64 (off : Int), .int .u8 (ttl : Int), .int .u8 (pro : Int), .int .u32 (src : Int), .int .u32 (dst : Int), .slice A o oc]) := by show Blk W1 _ _ _; rw [hW1]; exact T0.alloc _
  have B1 : Hid (Blk W1 W.heap.size 28 #[.int .u8 (tos : Int), .int .u16 (id : Int), .bool hdf, .bool hmf, .int .i64 (off : Int), .int .u8 (ttl : Int), .int .u8 (pro : Int), .int .u32 (src : Int), .int .u32 (dst : Int), .slice A o oc]) := by show Blk W1 _ _ _; rw [hW1]; exact Blk.new W 28 _
  have RA : Hid (Rds W1 A opts) := by show Rds W1 _ _; rw [hW1]; exact RA0.alloc _
  have RD : Hid (Rds W1 DD data) := by show Rds W1 _ _; rw [hW1]; exact RD0.alloc _
  have hbt : hb < W.heap.size := T0.lt
  have hww : w.heap.size ≤ W.heap.size := F0.size
  obtain ⟨b0, b1, b2, b3, b4, b5, b6, b7, b8, b9⟩ := blk10 T0
  have HK := Lib.hid hK
  have HOP := Lib.hid hop
  have HDA := Lib.hid hda
  clear F0 T0 RA0 RD0 hK hop hda
  conv => arg 2; whnf
  go_wp2_with fail
  rw [← hW1]
  have hKK := HK.out
  refine hKK _ _ ?_
  clear hKK HK
  conv => arg 2; whnf
  obtain ⟨tb, htb⟩ : ∃ b, b = W.heap.size := ⟨_, rfl⟩
  rw [← htb] at B1 hbt hww ⊢
  clear htb hW1 b0 b1 b2 b3 b4 b5 b6 b7 b8 b9
  obtain ⟨b0, b1, b2, b3, b4, b5, b6, b7, b8, b9⟩ := blk10 B1.out
  have z4 := B1.out.frozen 4
  have z9 := B1.out.frozen 9
  have z3 := B1.out.frozen 3
  obtain ⟨x, hx, hx6, hxe⟩ := and_low nn 6 (by omega)
  have hx2 : x % 2 = 0 := by
    rw [hxe]
    have h1 := Nat.and_mod_two_pow (a := (BitVec.ofInt 64 nn).toNat) (b := 6) (n := 1)
    rw [show (6 : Nat) % 2 ^ 1 = 0 from rfl, Nat.and_zero] at h1
    exact h1
  obtain ⟨x1, hx1⟩ : ∃ x1, x1 = 1 + x := ⟨_, rfl⟩
  have hw1 : IntKind.i64.wrap (1 + (x : Int)) = (x1 : Int) := by rw [IntWalk.i64_in] <;> omega
  obtain ⟨hor, hol⟩ := or_low off x1 (by omega) (by omega)
  have hod : (off ||| x1) % 2 = 1 := by
    have h1 := Nat.or_mod_two_pow (a := off) (b := x1) (n := 1)
    rw [show off % 2 ^ 1 = 0 by omega, show x1 % 2 ^ 1 = 1 by omega] at h1
    exact h1
  obtain ⟨y, hy⟩ : ∃ y, off ||| x1 = y := ⟨_, rfl⟩
  rw [hy] at hor hol hod
  have hb6 : bits .and .i64 nn 6 = (x : Int) := hx
  obtain ⟨W2, hW2⟩ : ∃ W2, W2 = W1.setCell ⟨tb, 4, none⟩ (.int .i64 (y : Int)) := ⟨_, rfl⟩
  have f2 : Frm (One tb) W1 W2 := by rw [hW2]; exact (Frm.refl (One tb) W1).set1 4 _
  have F2 := Lib.hid (F1.out.trans f2 (fun i hi h => by have h1 : i = tb := h; exact absurd hi (by omega)))
  have T2 := Lib.hid (T1.out.frm f2 (fun h => by have h1 : hb = tb := h; omega))
  have B2 := Lib.hid (by rw [hW2]; exact B1.out.set_ 4 _ : Blk W2 tb 28 _)
  clear F1 T1 B1 f2 hx hxe hx1 hy
  go_upto_region 22 with fail
  rw [← hW2]
  exact wrong_w w W2 _ _ _ _ _ _ _ _ _ _ _ _ _ _ _ _ _ _ _ _ _ _ _ _ _ _ _ _ _ _ _ _ _ _ _ _ _ _ _ _ _ _ _ _ _ _ _ _ _ _ _ _ _ _ _ _ _ _ _ _ _ _ _ _ _ _ _ _ _ _ _ _ _ _ _ _ _ _ _ _ _ _ _ _ _ _ _ _ _ _ _ _ _ _ _ _ _ _ _ _ _ _ _ _ _ _ _ _ _ _ _ _ _ _ _ _ _ _ _ _ _ _ _ _ _ _ _ _ _ _ _ _ _ _ _ _ _ _ _ _ _ _ _ _ _ _ _ _ _ _ _ _ _ _ _ _ _ _ _ _ _ _ _ _ _ _ _ _ _ _ _ _ _ _ _ _ _ _ _ _ _ _ _ _ _ _ _ _ _ _ _ _ _ _ _ _ _ _ _ _ _ _ _ _ _ _ _ _ _ _ _ _ _ _ _ _ _ _ _ _ _ _ _ _ _ _ _ _ _ _ _ _ nn hb tb tos id hdf hmf hmf off ttl pro src dst (y : Int) A A DD o oc o oc n dc2 _ K7 (by assumption) ho hoff (by omega) (by omega) (bad_reaches _ _ _ _ (decide_eq_false (by omega))) F2.out T2.out B2.out

set_option maxRecDepth 100000 in
set_option maxHeartbeats 4000000 in
theorem bad_3 (w W : World) (u0 u3 u4 u5 u6 u9 u10 u11 u12 u13 u14 u15 u16 u17 u18 u19 u20 u21 u22 u23 u24 u25 u26 u27 u28 u29 u30 u31 u32 u33 u34 u35 u36 u37 u38 u39 u40 u41 u42 u43 u44 u45 u46 u47 u48 u49 u50 u51 u52 u53 u54 u55 u56 u57 u58 u59 u60 u61 u62 u63 u64 u65 u66 u67 u68 u69 u70 u71 u72 u73 u74 u75 u76 u77 u78 u79 u80 u81 u82 u83 u84 u85 u86 u87 u88 u89 u90 u91 u92 u93 u94 u95 u96 u97 u98 u99 u100 u101 u102 u103 u104 u105 u106 u107 u108 u109 u110 u111 u112 u113 u114 u115 u116 u117 u118 u119 u120 u121 u122 u123 u124 u125 u126 u127 u128 u129 u130 u131 u132 u133 u134 u135 u136 u137 u138 u139 u140 u141 u142 u143 u144 u145 u146 u147 u148 u149 u150 u151 u152 u153 u154 u155 u156 u157 u158 u159 u160 u161 u162 u163 u164 u165 u166 u167 u168 u169 u170 u171 u172 u173 u174 u175 u176 u177 u178 u179 u180 u181 u182 u183 u184 u185 u186 u187 u188 u189 u190 u191 u192 u193 u194 u195 u196 u197 u198 u199 u200 u201 u202 u203 u204 u205 u206 u207 u208 u209 u210 u211 u212 u213 u214 u215 u216 u217 u218 u219 u220 u221 u222 u223 u224 u225 u226 u227 u228 u229 u230 u231 u232 u233 u234 u235 : Value) (way : Nat) (nn : Int) (hb : Nat) (tos id : Nat) (hdf hmf : Bool) (off ttl pro src dst : Nat) (A DD : Option Addr) (o oc n dc2 : Nat) (opts data : List UInt8) (K K7 : Act → World → Prop)
    (hK : ∀ a W, Code.wp Try.prog (dropS 1 T11) (Exit.then K7 (bodyPost Try.prog Try.f11 (BoolNo true w))) a W → K a W)
    (hj : (way : Int) % 12 = 3) (_hnn : -9223372036854775808 ≤ nn ∧ nn ≤ 9223372036854775807) (ho : o ≤ 40) (hoff : off ≤ 65528) (_ho8 : off % 8 = 0) (_ho4 : o % 4 = 0) (_hn : n ≤ 80) (_hoc : o ≤ oc) (_hnc : n ≤ dc2) (hop : opts.length = o) (hda : data.length = n) (_hAn : A = none → oc = 0) (_hDn : DD = none → dc2 = 0) (_hwb : w.heap.size ≤ hb)
    (F0 : Frm No w W) (T0 : Blk W hb 28 #[.int .u8 (tos : Int), .int .u16 (id : Int), .bool hdf, .bool hmf, .int .i64 (off : Int), .int .u8 (ttl : Int), .int .u8 (pro : Int), .int .u32 (src : Int), .int .u32 (dst : Int), .slice A o oc]) (RA0 : Rds W A opts) (RD0 : Rds W DD data) :
    Code.wp Try.prog (headS T11) (Exit.then K (Exit.then K7 (bodyPost Try.prog Try.f11 (BoolNo true w)))) ⟨#[u0, .int .u8 (way : Int), .int .i64 nn, u3, u4, u5, u6, .pointer (some ⟨hb, 0, none⟩), .slice DD n dc2, u9, u10, u11, u12, u13, u14, u15, u16, u17, u18, u19, u20, u21, u22, u23, u24, u25, u26, u27, u28, u29, u30, u31, u32, u33, u34, u35, u36, u37, u38, u39, u40, u41, u42, u43, u44, u45, u46, u47, u48, u49, u50, u51, u52, u53, u54, u55, u56, u57, u58, u59, u60, u61, u62, u63, u64, u65, u66, u67, u68, u69, u70, u71, u72, u73, u74, u75, u76, u77, u78, u79, u80, u81, u82, u83, u84, u85, u86, u87, u88, u89, u90, u91, u92, u93, u94, u95, u96, u97, u98, u99, u100, u101, u102, u103, u104, u105, u106, u107, u108, u109, u110, u111, u112, u113, u114, u115, u116, u117, u118, u119, u120, u121, u122, u123, u124, u125, u126, u127, u128, u129, u130, u131, u132, u133, u134, u135, u136, u137, u138, u139, u140, u141, u142, u143, u144, u145, u146, u147, u148, u149, u150, u151, u152, u153, u154, u155, u156, u157, u158, u159, u160, u161, u162, u163, u164, u165, u166, u167, u168, u169, u170, u171, u172, u173, u174, u175, u176, u177, u178, u179, u180, u181, u182, u183, u184, u185, u186, u187, u188, u189, u190, u191, u192, u193, u194, u195, u196, u197, u198, u199, u200, u201, u202, u203, u204, u205, u206, u207, u208, u209, u210, u211, u212, u213, u214, u215, u216, u217, u218, u219, u220, u221, u222, u223, u224, u225, u226, u227, u228, u229, u230, u231, u232, u233, u234, u235], []⟩ W := by
  obtain ⟨W1, hW1⟩ : ∃ W1, W1 = W.alloc (.cells #[.int .u8 (tos : Int), .int .u16 (id : Int), .bool hdf, .bool hmf, .int .i64 (off : Int), .int .u8 (ttl : Int), .int .u8 (pro : Int), .int .u32 (src : Int), .int .u32 (dst : Int), .slice A o oc] 28) := ⟨_, rfl⟩
  have F1 : Hid (Frm No w W1) := by show Frm No w W1; rw [hW1]; exact F0.alloc _
  have T1 : Hid (Blk W1 hb 28 #[.int .u8 (tos : Int), .int .u16 (id : Int), .bool hdf, .bool hmf, .int .i64 (off : Int), .int .u8 (ttl : Int), .int .u8 (pro : Int), .int .u32 (src : Int), .int .u32 (dst : Int), .slice A o oc]) := by show Blk W1 _ _ _; rw [hW1]; exact T0.alloc _
  have B1 : Hid (Blk W1 W.heap.size 28 #[.int .u8 (tos : Int), .int .u16 (id : Int), .bool hdf, .bool hmf, .int .i64 (off : Int), .int .u8 (ttl : Int), .int .u8 (pro : Int), .int .u32 (src : Int), .int .u32 (dst : Int), .slice A o oc]) := by show Blk W1 _ _ _; rw [hW1]; exact Blk.new W 28 _
  have RA : Hid (Rds W1 A opts) := by show Rds W1 _ _; rw [hW1]; exact RA0.alloc _
  have RD : Hid (Rds W1 DD data) := by show Rds W1 _ _; rw [hW1]; exact RD0.alloc _
  have hbt : hb < W.heap.size := T0.lt
  have hww : w.heap.size ≤ W.heap.size := F0.size
  obtain ⟨b0, b1, b2, b3, b4, b5, b6, b7, b8, b9⟩ := blk10 T0
  have HK := Lib.hid hK
  have HOP := Lib.hid hop
  have HDA := Lib.hid hda
  clear F0 T0 RA0 RD0 hK hop hda
  conv => arg 2; whnf
  go_wp2_with fail
  rw [← hW1]
  have hKK := HK.out
  refine hKK _ _ ?_
  clear hKK HK
  conv => arg 2; whnf
  obtain ⟨tb, htb⟩ : ∃ b, b = W.heap.size := ⟨_, rfl⟩
  rw [← htb] at B1 hbt hww ⊢
  clear htb hW1 b0 b1 b2 b3 b4 b5 b6 b7 b8 b9
  obtain ⟨b0, b1, b2, b3, b4, b5, b6, b7, b8, b9⟩ := blk10 B1.out
  have z4 := B1.out.frozen 4
  have z9 := B1.out.frozen 9
  have z3 := B1.out.frozen 3
  obtain ⟨x, hx, hx6, hxe⟩ := and_low nn 12 (by omega)
  obtain ⟨x1, hx1⟩ : ∃ x1, x1 = 44 + x := ⟨_, rfl⟩
  have hw1 : IntKind.i64.wrap (44 + (x : Int)) = (x1 : Int) := by rw [IntWalk.i64_in] <;> omega
  have hb6 : bits .and .i64 nn 12 = (x : Int) := hx
  have hx44 : 44 ≤ x1 := by omega
  have hx56 : x1 ≤ 56 := by omega
  have hmk := make_bytes x1 x1 (Nat.le_refl _) (by omega) W1
  obtain ⟨cs, hcs⟩ : ∃ cs, (byts (List.replicate x1 0)).toArray = cs := ⟨_, rfl⟩
  rw [hcs] at hmk
  clear hcs
  obtain ⟨W2, hW2⟩ : ∃ W2, W2 = (W1.setCell ⟨tb, 9, none⟩ (.slice (some ⟨W1.heap.size, 0, none⟩) x1 x1)).alloc (.cells cs 5) := ⟨_, rfl⟩
  have f2 : Frm (One tb) W1 W2 := by rw [hW2]; exact ((Frm.refl (One tb) W1).set1 9 _).alloc _
  have F2 := Lib.hid (F1.out.trans f2 (fun i hi h => by have h1 : i = tb := h; exact absurd hi (by omega)))
  have T2 := Lib.hid (T1.out.frm f2 (fun h => by have h1 : hb = tb := h; omega))
  have B2 := Lib.hid (by rw [hW2]; exact (B1.out.set_ 9 _).alloc _ : Blk W2 tb 28 _)
  have bt : tb < W1.heap.size := B1.out.lt
  have ntb : (tb == W1.heap.size) = false := by simp; omega
  have ba9 := ((B1.out.alloc (.cells cs 5)).frozen 9)
  have bc9 := ((B1.out.alloc (.cells cs 5)).cell 9)
  clear hx hxe hx1 F1 T1 B1 f2
  go_upto_region 22 with fail
  rw [← hW2]
  exact wrong_w w W2 _ _ _ _ _ _ _ _ _ _ _ _ _ _ _ _ _ _ _ _ _ _ _ _ _ _ _ _ _ _ _ _ _ _ _ _ _ _ _ _ _ _ _ _ _ _ _ _ _ _ _ _ _ _ _ _ _ _ _ _ _ _ _ _ _ _ _ _ _ _ _ _ _ _ _ _ _ _ _ _ _ _ _ _ _ _ _ _ _ _ _ _ _ _ _ _ _ _ _ _ _ _ _ _ _ _ _ _ _ _ _ _ _ _ _ _ _ _ _ _ _ _ _ _ _ _ _ _ _ _ _ _ _ _ _ _ _ _ _ _ _ _ _ _ _ _ _ _ _ _ _ _ _ _ _ _ _ _ _ _ _ _ _ _ _ _ _ _ _ _ _ _ _ _ _ _ _ _ _ _ _ _ _ _ _ _ _ _ _ _ _ _ _ _ _ _ _ _ _ _ _ _ _ _ _ _ _ _ _ _ _ _ _ _ _ _ _ _ _ _ _ _ _ _ _ _ _ _ _ _ _ _ nn hb tb tos id hdf hmf hmf off ttl pro src dst (off : Int) A _ DD o oc x1 x1 n dc2 _ K7 (by assumption) ho hoff (by omega) (by omega) (bad_holds _ _ _ _ (decide_eq_false (by omega))) F2.out T2.out B2.out

set_option maxRecDepth 100000 in
set_option maxHeartbeats 4000000 in
theorem bad_4 (w W : World) (u0 u3 u4 u5 u6 u9 u10 u11 u12 u13 u14 u15 u16 u17 u18 u19 u20 u21 u22 u23 u24 u25 u26 u27 u28 u29 u30 u31 u32 u33 u34 u35 u36 u37 u38 u39 u40 u41 u42 u43 u44 u45 u46 u47 u48 u49 u50 u51 u52 u53 u54 u55 u56 u57 u58 u59 u60 u61 u62 u63 u64 u65 u66 u67 u68 u69 u70 u71 u72 u73 u74 u75 u76 u77 u78 u79 u80 u81 u82 u83 u84 u85 u86 u87 u88 u89 u90 u91 u92 u93 u94 u95 u96 u97 u98 u99 u100 u101 u102 u103 u104 u105 u106 u107 u108 u109 u110 u111 u112 u113 u114 u115 u116 u117 u118 u119 u120 u121 u122 u123 u124 u125 u126 u127 u128 u129 u130 u131 u132 u133 u134 u135 u136 u137 u138 u139 u140 u141 u142 u143 u144 u145 u146 u147 u148 u149 u150 u151 u152 u153 u154 u155 u156 u157 u158 u159 u160 u161 u162 u163 u164 u165 u166 u167 u168 u169 u170 u171 u172 u173 u174 u175 u176 u177 u178 u179 u180 u181 u182 u183 u184 u185 u186 u187 u188 u189 u190 u191 u192 u193 u194 u195 u196 u197 u198 u199 u200 u201 u202 u203 u204 u205 u206 u207 u208 u209 u210 u211 u212 u213 u214 u215 u216 u217 u218 u219 u220 u221 u222 u223 u224 u225 u226 u227 u228 u229 u230 u231 u232 u233 u234 u235 : Value) (way : Nat) (nn : Int) (hb : Nat) (tos id : Nat) (hdf hmf : Bool) (off ttl pro src dst : Nat) (A DD : Option Addr) (o oc n dc2 : Nat) (opts data : List UInt8) (K K7 : Act → World → Prop)
    (hK : ∀ a W, Code.wp Try.prog (dropS 1 T11) (Exit.then K7 (bodyPost Try.prog Try.f11 (BoolNo true w))) a W → K a W)
    (hj : (way : Int) % 12 = 4) (_hnn : -9223372036854775808 ≤ nn ∧ nn ≤ 9223372036854775807) (ho : o ≤ 40) (hoff : off ≤ 65528) (_ho8 : off % 8 = 0) (_ho4 : o % 4 = 0) (_hn : n ≤ 80) (_hoc : o ≤ oc) (_hnc : n ≤ dc2) (hop : opts.length = o) (hda : data.length = n) (_hAn : A = none → oc = 0) (_hDn : DD = none → dc2 = 0) (_hwb : w.heap.size ≤ hb)
    (F0 : Frm No w W) (T0 : Blk W hb 28 #[.int .u8 (tos : Int), .int .u16 (id : Int), .bool hdf, .bool hmf, .int .i64 (off : Int), .int .u8 (ttl : Int), .int .u8 (pro : Int), .int .u32 (src : Int), .int .u32 (dst : Int), .slice A o oc]) (RA0 : Rds W A opts) (RD0 : Rds W DD data) :
    Code.wp Try.prog (headS T11) (Exit.then K (Exit.then K7 (bodyPost Try.prog Try.f11 (BoolNo true w)))) ⟨#[u0, .int .u8 (way : Int), .int .i64 nn, u3, u4, u5, u6, .pointer (some ⟨hb, 0, none⟩), .slice DD n dc2, u9, u10, u11, u12, u13, u14, u15, u16, u17, u18, u19, u20, u21, u22, u23, u24, u25, u26, u27, u28, u29, u30, u31, u32, u33, u34, u35, u36, u37, u38, u39, u40, u41, u42, u43, u44, u45, u46, u47, u48, u49, u50, u51, u52, u53, u54, u55, u56, u57, u58, u59, u60, u61, u62, u63, u64, u65, u66, u67, u68, u69, u70, u71, u72, u73, u74, u75, u76, u77, u78, u79, u80, u81, u82, u83, u84, u85, u86, u87, u88, u89, u90, u91, u92, u93, u94, u95, u96, u97, u98, u99, u100, u101, u102, u103, u104, u105, u106, u107, u108, u109, u110, u111, u112, u113, u114, u115, u116, u117, u118, u119, u120, u121, u122, u123, u124, u125, u126, u127, u128, u129, u130, u131, u132, u133, u134, u135, u136, u137, u138, u139, u140, u141, u142, u143, u144, u145, u146, u147, u148, u149, u150, u151, u152, u153, u154, u155, u156, u157, u158, u159, u160, u161, u162, u163, u164, u165, u166, u167, u168, u169, u170, u171, u172, u173, u174, u175, u176, u177, u178, u179, u180, u181, u182, u183, u184, u185, u186, u187, u188, u189, u190, u191, u192, u193, u194, u195, u196, u197, u198, u199, u200, u201, u202, u203, u204, u205, u206, u207, u208, u209, u210, u211, u212, u213, u214, u215, u216, u217, u218, u219, u220, u221, u222, u223, u224, u225, u226, u227, u228, u229, u230, u231, u232, u233, u234, u235], []⟩ W := by
  obtain ⟨W1, hW1⟩ : ∃ W1, W1 = W.alloc (.cells #[.int .u8 (tos : Int), .int .u16 (id : Int), .bool hdf, .bool hmf, .int .i64 (off : Int), .int .u8 (ttl : Int), .int .u8 (pro : Int), .int .u32 (src : Int), .int .u32 (dst : Int), .slice A o oc] 28) := ⟨_, rfl⟩
  have F1 : Hid (Frm No w W1) := by show Frm No w W1; rw [hW1]; exact F0.alloc _
  have T1 : Hid (Blk W1 hb 28 #[.int .u8 (tos : Int), .int .u16 (id : Int), .bool hdf, .bool hmf, .int .i64 (off : Int), .int .u8 (ttl : Int), .int .u8 (pro : Int), .int .u32 (src : Int), .int .u32 (dst : Int), .slice A o oc]) := by show Blk W1 _ _ _; rw [hW1]; exact T0.alloc _
  have B1 : Hid (Blk W1 W.heap.size 28 #[.int .u8 (tos : Int), .int .u16 (id : Int), .bool hdf, .bool hmf, .int .i64 (off : Int), .int .u8 (ttl : Int), .int .u8 (pro : Int), .int .u32 (src : Int), .int .u32 (dst : Int), .slice A o oc]) := by show Blk W1 _ _ _; rw [hW1]; exact Blk.new W 28 _
  have RA : Hid (Rds W1 A opts) := by show Rds W1 _ _; rw [hW1]; exact RA0.alloc _
  have RD : Hid (Rds W1 DD data) := by show Rds W1 _ _; rw [hW1]; exact RD0.alloc _
  have hbt : hb < W.heap.size := T0.lt
  have hww : w.heap.size ≤ W.heap.size := F0.size
  obtain ⟨b0, b1, b2, b3, b4, b5, b6, b7, b8, b9⟩ := blk10 T0
  have HK := Lib.hid hK
  have HOP := Lib.hid hop
  have HDA := Lib.hid hda
  clear F0 T0 RA0 RD0 hK hop hda
  conv => arg 2; whnf
  go_wp2_with fail
  rw [← hW1]
  have hKK := HK.out
  refine hKK _ _ ?_
  clear hKK HK
  conv => arg 2; whnf
  obtain ⟨tb, htb⟩ : ∃ b, b = W.heap.size := ⟨_, rfl⟩
  rw [← htb] at B1 hbt hww ⊢
  clear htb hW1 b0 b1 b2 b3 b4 b5 b6 b7 b8 b9
  obtain ⟨b0, b1, b2, b3, b4, b5, b6, b7, b8, b9⟩ := blk10 B1.out
  have z4 := B1.out.frozen 4
  have z9 := B1.out.frozen 9
  have z3 := B1.out.frozen 3
  obtain ⟨x, hx, hx6, hxe⟩ := and_low nn 1 (by omega)
  obtain ⟨x1, hx1⟩ : ∃ x1, x1 = 1 + x := ⟨_, rfl⟩
  have hw1 : IntKind.i64.wrap (1 + (x : Int)) = (x1 : Int) := by rw [IntWalk.i64_in] <;> omega
  have hb6 : bits .and .i64 nn 1 = (x : Int) := hx
  have hx44 : 0 < x1 := by omega
  have hx56 : x1 ≤ 2 := by omega
  obtain ⟨A', c', w5, hrun, hfr⟩ := run_zeros3 W1 A o opts HOP.out RA.out (fun h => by have := _hAn h; omega) x1 hx44 (by omega) (by omega)
  have HRUN := Lib.hid hrun
  have bt : tb < W1.heap.size := B1.out.lt
  have B5 := Lib.hid (B1.out.frm hfr (fun x => x))
  obtain ⟨W2, hW2⟩ : ∃ W2, W2 = w5.setCell ⟨tb, 9, none⟩ (.slice A' (o + x1) c') := ⟨_, rfl⟩
  have f2 : Frm (One tb) W1 W2 := by rw [hW2]; exact (hfr.of_no (One tb)).set1 9 _
  have F2 := Lib.hid (F1.out.trans f2 (fun i hi h => by have h1 : i = tb := h; exact absurd hi (by omega)))
  have T2 := Lib.hid (T1.out.frm f2 (fun h => by have h1 : hb = tb := h; omega))
  have B2 := Lib.hid (by rw [hW2]; exact B5.out.set_ 9 _ : Blk W2 tb 28 _)
  have z59 := B5.out.frozen 9
  obtain ⟨c0, c1', c2, c3, c4', c5, c6, c7, c8, c9⟩ := blk10 B5.out
  have j0 : (o : Int) ≤ oc := by omega
  have HOX := Lib.hid (show (o + x1) % 4 ≠ 0 by omega)
  clear hx hxe hx1 hrun hfr f2 F1 T1 B5 B1
  go_upto_region 22 with (at_builtin; refine Lib.wpList_append_run _ rfl (.tmp 98) (.tmp 101) 22 3 rfl (.slice A o o) (.int .i64 (x1 : Int)) ?hs ?hx _ _ HRUN.out ?_; (case hs => exact rfl); (case hx => (show Value.int IntKind.i64 _ = _; go_simp)))
  rw [← hW2]
  exact wrong_w w W2 _ _ _ _ _ _ _ _ _ _ _ _ _ _ _ _ _ _ _ _ _ _ _ _ _ _ _ _ _ _ _ _ _ _ _ _ _ _ _ _ _ _ _ _ _ _ _ _ _ _ _ _ _ _ _ _ _ _ _ _ _ _ _ _ _ _ _ _ _ _ _ _ _ _ _ _ _ _ _ _ _ _ _ _ _ _ _ _ _ _ _ _ _ _ _ _ _ _ _ _ _ _ _ _ _ _ _ _ _ _ _ _ _ _ _ _ _ _ _ _ _ _ _ _ _ _ _ _ _ _ _ _ _ _ _ _ _ _ _ _ _ _ _ _ _ _ _ _ _ _ _ _ _ _ _ _ _ _ _ _ _ _ _ _ _ _ _ _ _ _ _ _ _ _ _ _ _ _ _ _ _ _ _ _ _ _ _ _ _ _ _ _ _ _ _ _ _ _ _ _ _ _ _ _ _ _ _ _ _ _ _ _ _ _ _ _ _ _ _ _ _ _ _ _ _ _ _ _ _ _ _ _ nn hb tb tos id hdf hmf hmf off ttl pro src dst (off : Int) A _ DD o oc (o + x1) _ n dc2 _ K7 (by assumption) ho hoff (by omega) (by omega) (bad_holds _ _ _ _ (decide_eq_false (by have := HOX.out; omega))) F2.out T2.out B2.out

set_option maxRecDepth 100000 in
set_option maxHeartbeats 4000000 in
theorem bad_5 (w W : World) (u0 u3 u4 u5 u6 u9 u10 u11 u12 u13 u14 u15 u16 u17 u18 u19 u20 u21 u22 u23 u24 u25 u26 u27 u28 u29 u30 u31 u32 u33 u34 u35 u36 u37 u38 u39 u40 u41 u42 u43 u44 u45 u46 u47 u48 u49 u50 u51 u52 u53 u54 u55 u56 u57 u58 u59 u60 u61 u62 u63 u64 u65 u66 u67 u68 u69 u70 u71 u72 u73 u74 u75 u76 u77 u78 u79 u80 u81 u82 u83 u84 u85 u86 u87 u88 u89 u90 u91 u92 u93 u94 u95 u96 u97 u98 u99 u100 u101 u102 u103 u104 u105 u106 u107 u108 u109 u110 u111 u112 u113 u114 u115 u116 u117 u118 u119 u120 u121 u122 u123 u124 u125 u126 u127 u128 u129 u130 u131 u132 u133 u134 u135 u136 u137 u138 u139 u140 u141 u142 u143 u144 u145 u146 u147 u148 u149 u150 u151 u152 u153 u154 u155 u156 u157 u158 u159 u160 u161 u162 u163 u164 u165 u166 u167 u168 u169 u170 u171 u172 u173 u174 u175 u176 u177 u178 u179 u180 u181 u182 u183 u184 u185 u186 u187 u188 u189 u190 u191 u192 u193 u194 u195 u196 u197 u198 u199 u200 u201 u202 u203 u204 u205 u206 u207 u208 u209 u210 u211 u212 u213 u214 u215 u216 u217 u218 u219 u220 u221 u222 u223 u224 u225 u226 u227 u228 u229 u230 u231 u232 u233 u234 u235 : Value) (way : Nat) (nn : Int) (hb : Nat) (tos id : Nat) (hdf hmf : Bool) (off ttl pro src dst : Nat) (A DD : Option Addr) (o oc n dc2 : Nat) (opts data : List UInt8) (K K7 : Act → World → Prop)
    (hK : ∀ a W, Code.wp Try.prog (dropS 1 T11) (Exit.then K7 (bodyPost Try.prog Try.f11 (BoolNo true w))) a W → K a W)
    (hj : (way : Int) % 12 = 5) (_hnn : -9223372036854775808 ≤ nn ∧ nn ≤ 9223372036854775807) (ho : o ≤ 40) (hoff : off ≤ 65528) (_ho8 : off % 8 = 0) (_ho4 : o % 4 = 0) (_hn : n ≤ 80) (_hoc : o ≤ oc) (_hnc : n ≤ dc2) (hop : opts.length = o) (hda : data.length = n) (_hAn : A = none → oc = 0) (_hDn : DD = none → dc2 = 0) (_hwb : w.heap.size ≤ hb)
    (F0 : Frm No w W) (T0 : Blk W hb 28 #[.int .u8 (tos : Int), .int .u16 (id : Int), .bool hdf, .bool hmf, .int .i64 (off : Int), .int .u8 (ttl : Int), .int .u8 (pro : Int), .int .u32 (src : Int), .int .u32 (dst : Int), .slice A o oc]) (RA0 : Rds W A opts) (RD0 : Rds W DD data) :
    Code.wp Try.prog (headS T11) (Exit.then K (Exit.then K7 (bodyPost Try.prog Try.f11 (BoolNo true w)))) ⟨#[u0, .int .u8 (way : Int), .int .i64 nn, u3, u4, u5, u6, .pointer (some ⟨hb, 0, none⟩), .slice DD n dc2, u9, u10, u11, u12, u13, u14, u15, u16, u17, u18, u19, u20, u21, u22, u23, u24, u25, u26, u27, u28, u29, u30, u31, u32, u33, u34, u35, u36, u37, u38, u39, u40, u41, u42, u43, u44, u45, u46, u47, u48, u49, u50, u51, u52, u53, u54, u55, u56, u57, u58, u59, u60, u61, u62, u63, u64, u65, u66, u67, u68, u69, u70, u71, u72, u73, u74, u75, u76, u77, u78, u79, u80, u81, u82, u83, u84, u85, u86, u87, u88, u89, u90, u91, u92, u93, u94, u95, u96, u97, u98, u99, u100, u101, u102, u103, u104, u105, u106, u107, u108, u109, u110, u111, u112, u113, u114, u115, u116, u117, u118, u119, u120, u121, u122, u123, u124, u125, u126, u127, u128, u129, u130, u131, u132, u133, u134, u135, u136, u137, u138, u139, u140, u141, u142, u143, u144, u145, u146, u147, u148, u149, u150, u151, u152, u153, u154, u155, u156, u157, u158, u159, u160, u161, u162, u163, u164, u165, u166, u167, u168, u169, u170, u171, u172, u173, u174, u175, u176, u177, u178, u179, u180, u181, u182, u183, u184, u185, u186, u187, u188, u189, u190, u191, u192, u193, u194, u195, u196, u197, u198, u199, u200, u201, u202, u203, u204, u205, u206, u207, u208, u209, u210, u211, u212, u213, u214, u215, u216, u217, u218, u219, u220, u221, u222, u223, u224, u225, u226, u227, u228, u229, u230, u231, u232, u233, u234, u235], []⟩ W := by
  obtain ⟨W1, hW1⟩ : ∃ W1, W1 = W.alloc (.cells #[.int .u8 (tos : Int), .int .u16 (id : Int), .bool hdf, .bool hmf, .int .i64 (off : Int), .int .u8 (ttl : Int), .int .u8 (pro : Int), .int .u32 (src : Int), .int .u32 (dst : Int), .slice A o oc] 28) := ⟨_, rfl⟩
  have F1 : Hid (Frm No w W1) := by show Frm No w W1; rw [hW1]; exact F0.alloc _
  have T1 : Hid (Blk W1 hb 28 #[.int .u8 (tos : Int), .int .u16 (id : Int), .bool hdf, .bool hmf, .int .i64 (off : Int), .int .u8 (ttl : Int), .int .u8 (pro : Int), .int .u32 (src : Int), .int .u32 (dst : Int), .slice A o oc]) := by show Blk W1 _ _ _; rw [hW1]; exact T0.alloc _
  have B1 : Hid (Blk W1 W.heap.size 28 #[.int .u8 (tos : Int), .int .u16 (id : Int), .bool hdf, .bool hmf, .int .i64 (off : Int), .int .u8 (ttl : Int), .int .u8 (pro : Int), .int .u32 (src : Int), .int .u32 (dst : Int), .slice A o oc]) := by show Blk W1 _ _ _; rw [hW1]; exact Blk.new W 28 _
  have RA : Hid (Rds W1 A opts) := by show Rds W1 _ _; rw [hW1]; exact RA0.alloc _
  have RD : Hid (Rds W1 DD data) := by show Rds W1 _ _; rw [hW1]; exact RD0.alloc _
  have hbt : hb < W.heap.size := T0.lt
  have hww : w.heap.size ≤ W.heap.size := F0.size
  obtain ⟨b0, b1, b2, b3, b4, b5, b6, b7, b8, b9⟩ := blk10 T0
  have HK := Lib.hid hK
  have HOP := Lib.hid hop
  have HDA := Lib.hid hda
  clear F0 T0 RA0 RD0 hK hop hda
  conv => arg 2; whnf
  go_wp2_with fail
  rw [← hW1]
  have hKK := HK.out
  refine hKK _ _ ?_
  clear hKK HK
  conv => arg 2; whnf
  obtain ⟨tb, htb⟩ : ∃ b, b = W.heap.size := ⟨_, rfl⟩
  rw [← htb] at B1 hbt hww ⊢
  clear htb hW1 b0 b1 b2 b3 b4 b5 b6 b7 b8 b9
  obtain ⟨b0, b1, b2, b3, b4, b5, b6, b7, b8, b9⟩ := blk10 B1.out
  have z4 := B1.out.frozen 4
  have z9 := B1.out.frozen 9
  have z3 := B1.out.frozen 3
  obtain ⟨q, hq, hq2⟩ : ∃ q : Nat, (n : Int) / 8 = (q : Int) ∧ q * 8 ≤ n := ⟨n / 8, by omega, by omega⟩
  obtain ⟨p, hp, hp2⟩ : ∃ p : Nat, IntKind.i64.wrap ((q : Int) * 8) = (p : Int) ∧ p = q * 8 := ⟨q * 8, by rw [IntWalk.i64_in] <;> omega, rfl⟩
  have hpn : p ≤ n := by omega
  have hpd : p ≤ dc2 := by omega
  obtain ⟨W3, hW3⟩ : ∃ W3, W3 = W1.alloc (.cells #[.int .u8 1, .int .u8 2, .int .u8 3] 5) := ⟨_, rfl⟩
  have F3 : Frm No W1 W3 := by rw [hW3]; exact (Frm.refl No W1).alloc _
  have hR3 : Rds W3 (some ⟨W1.heap.size, 0, none⟩) [1, 2, 3] := by rw [hW3]; exact rds_new W1 [1, 2, 3]
  obtain ⟨A', c', w5, hrun, hfr⟩ := run_bytes3 W3 DD p (data.take p) (by rw [List.length_take, HDA.out]; omega) ((RD.out.frm F3 (fun _ _ x => x)).take p) (fun h => by have := _hDn h; omega) W1.heap.size 3 [1, 2, 3] rfl (by decide) hR3 (by omega)
  have HRUN := Lib.hid hrun
  have B5 := Lib.hid ((B1.out.frm F3 (fun x => x)).frm hfr (fun x => x))
  obtain ⟨W2, hW2⟩ : ∃ W2, W2 = w5.setCell ⟨tb, 3, none⟩ (.bool true) := ⟨_, rfl⟩
  have f2 : Frm (One tb) W1 W2 := by rw [hW2]; exact ((F3.new0 hfr).of_no (One tb)).set1 3 _
  have F2 := Lib.hid (F1.out.trans f2 (fun i hi h => by have h1 : i = tb := h; exact absurd hi (by omega)))
  have T2 := Lib.hid (T1.out.frm f2 (fun h => by have h1 : hb = tb := h; omega))
  have B2 := Lib.hid (by rw [hW2]; exact B5.out.set_ 3 _ : Blk W2 tb 28 _)
  have z53 := B5.out.frozen 3
  obtain ⟨c0, c1', c2, c3, c4', c5, c6, c7, c8, c9⟩ := blk10 B5.out
  have j0 : (p : Int) ≤ dc2 := by omega
  have j1 : (0 : Int) ≤ p := by omega
  have HOX := Lib.hid (show ¬ (0 < ((p + 3 : Nat) : Int) ∧ ((p + 3 : Nat) : Int) % 8 = 0) by omega)
  clear hrun hfr f2 F1 T1 B5 B1 hR3 F3 hp2
  go_upto_region 22 with (at_builtin; try rw [← hW3]; refine Lib.wpList_append_run _ rfl (.tmp 58) (.tmp 59) 22 22 rfl (.slice DD p p) (.slice (some ⟨W1.heap.size, 0, none⟩) 3 3) ?hs ?hx _ _ HRUN.out ?_; (case hs => exact rfl); (case hx => exact rfl))
  rw [← hW2]
  exact wrong_w w W2 _ _ _ _ _ _ _ _ _ _ _ _ _ _ _ _ _ _ _ _ _ _ _ _ _ _ _ _ _ _ _ _ _ _ _ _ _ _ _ _ _ _ _ _ _ _ _ _ _ _ _ _ _ _ _ _ _ _ _ _ _ _ _ _ _ _ _ _ _ _ _ _ _ _ _ _ _ _ _ _ _ _ _ _ _ _ _ _ _ _ _ _ _ _ _ _ _ _ _ _ _ _ _ _ _ _ _ _ _ _ _ _ _ _ _ _ _ _ _ _ _ _ _ _ _ _ _ _ _ _ _ _ _ _ _ _ _ _ _ _ _ _ _ _ _ _ _ _ _ _ _ _ _ _ _ _ _ _ _ _ _ _ _ _ _ _ _ _ _ _ _ _ _ _ _ _ _ _ _ _ _ _ _ _ _ _ _ _ _ _ _ _ _ _ _ _ _ _ _ _ _ _ _ _ _ _ _ _ _ _ _ _ _ _ _ _ _ _ _ _ _ _ _ _ _ _ _ _ _ _ _ _ nn hb tb tos id hdf hmf true off ttl pro src dst (off : Int) A A _ o oc o oc (p + 3) _ _ K7 (by assumption) ho hoff (by omega) (by omega) (bad_divides _ _ _ HOX.out) F2.out T2.out B2.out

end Go.Proofs.Ytcclneaabnpbkaa
