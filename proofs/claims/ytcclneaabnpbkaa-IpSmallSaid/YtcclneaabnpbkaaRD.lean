/-
  The document's Read.
-/
import Derived.Test.YtcclneaabnpbkaaCu
import Derived.Test.YtcclneaabnpbkaaNN
import Derived.StillTailTactics
import Derived.Deep.RegionLaw
import Derived.Test.YtcclneaabnpbkaaRR

/- Nu -/
namespace Go.Proofs.Ytcclneaabnpbkaa
open Go.RowKit
attribute [local go_sem] undef

set_option maxRecDepth 100000 in
set_option maxHeartbeats 1000000 in
theorem num2 (w : World) (a : Addr) (c : Nat) (bs : List UInt8) (hl : bs.length = 2) (h : Rds w (some a) bs) (v : Nat) (hv : v = word bs[0] bs[1]) :
    Calls Try.prog 49 #[.slice (some a) 2 c] w fun e w' => e = .returned (.int .i64 (v : Int)) ∧ w = w' := by
  have r0 : w.cell? a = some (.int .u8 (bs[0].toNat : Int)) := by
    obtain ⟨ad, h1, h2⟩ := h.at_ (k := 0) (by omega)
    injection h1 with h1
    subst h1
    exact h2
  have r1 : w.cell? ⟨a.block, a.off + 1, none⟩ = some (.int .u8 (bs[1].toNat : Int)) := by
    obtain ⟨ad, h1, h2⟩ := h.at_ (k := 1) (by omega)
    injection h1 with h1
    subst h1
    exact h2
  obtain ⟨x0, hx0, hb0⟩ : ∃ x : Nat, bs[0].toNat = x ∧ x < 256 := ⟨_, rfl, bs[0].toNat_lt⟩
  rw [hx0] at r0
  have w0 : IntKind.i64.wrap (x0 : Int) = (x0 : Int) := by rw [IntWalk.i64_in] <;> omega
  obtain ⟨x1, hx1, hb1⟩ : ∃ x : Nat, bs[1].toNat = x ∧ x < 256 := ⟨_, rfl, bs[1].toNat_lt⟩
  rw [hx1] at r1
  have w1 : IntKind.i64.wrap (x1 : Int) = (x1 : Int) := by rw [IntWalk.i64_in] <;> omega
  obtain ⟨y0, hy0, hz0⟩ : ∃ y : Nat, IntKind.i64.wrap (256 * (0 : Int) + (x0 : Int)) = (y : Int) ∧ y = 256 * 0 + x0 := ⟨256 * 0 + x0, by rw [IntWalk.i64_in] <;> omega, rfl⟩
  have l0 : y0 < 4294967296 := by omega
  have m0 : IntKind.i64.wrap (256 * (y0 : Int)) = 256 * (y0 : Int) := by rw [IntWalk.i64_in] <;> omega
  obtain ⟨y1, hy1, hz1⟩ : ∃ y : Nat, IntKind.i64.wrap (256 * (y0 : Int) + (x1 : Int)) = (y : Int) ∧ y = 256 * y0 + x1 := ⟨256 * y0 + x1, by rw [IntWalk.i64_in] <;> omega, rfl⟩
  have l1 : y1 < 4294967296 := by omega
  have e0 : y0 = x0 := by omega
  subst e0
  have hvv : v = y1 := by rw [hv]; unfold word; rw [hx0, hx1]; omega
  subst hvv
  clear hv h hz0 hy0 hz1 hx1 hx0
  clear hl
  go_enter Try.func49, Try.ntmps49
  go_upto_block 0 with fail
  refine wp_block (wp_loop_rounds 3 ?_)
  rw [rounds_succ]
  go_wp2_with fail
  rw [rounds_succ]
  go_wp2_with fail
  rw [rounds_succ]
  go_wp2_with fail
  go_ret
  exact ⟨rfl, rfl⟩

set_option maxRecDepth 100000 in
set_option maxHeartbeats 1000000 in
theorem num4 (w : World) (a : Addr) (c : Nat) (bs : List UInt8) (hl : bs.length = 4) (h : Rds w (some a) bs) (v : Nat) (hv : v = word bs[0] bs[1] * 65536 + word bs[2] bs[3]) :
    Calls Try.prog 49 #[.slice (some a) 4 c] w fun e w' => e = .returned (.int .i64 (v : Int)) ∧ w = w' := by
  have r0 : w.cell? a = some (.int .u8 (bs[0].toNat : Int)) := by
    obtain ⟨ad, h1, h2⟩ := h.at_ (k := 0) (by omega)
    injection h1 with h1
    subst h1
    exact h2
  have r1 : w.cell? ⟨a.block, a.off + 1, none⟩ = some (.int .u8 (bs[1].toNat : Int)) := by
    obtain ⟨ad, h1, h2⟩ := h.at_ (k := 1) (by omega)
    injection h1 with h1
    subst h1
    exact h2
  have r2 : w.cell? ⟨a.block, a.off + 2, none⟩ = some (.int .u8 (bs[2].toNat : Int)) := by
    obtain ⟨ad, h1, h2⟩ := h.at_ (k := 2) (by omega)
    injection h1 with h1
    subst h1
    exact h2
  have r3 : w.cell? ⟨a.block, a.off + 3, none⟩ = some (.int .u8 (bs[3].toNat : Int)) := by
    obtain ⟨ad, h1, h2⟩ := h.at_ (k := 3) (by omega)
    injection h1 with h1
    subst h1
    exact h2
  obtain ⟨x0, hx0, hb0⟩ : ∃ x : Nat, bs[0].toNat = x ∧ x < 256 := ⟨_, rfl, bs[0].toNat_lt⟩
  rw [hx0] at r0
  have w0 : IntKind.i64.wrap (x0 : Int) = (x0 : Int) := by rw [IntWalk.i64_in] <;> omega
  obtain ⟨x1, hx1, hb1⟩ : ∃ x : Nat, bs[1].toNat = x ∧ x < 256 := ⟨_, rfl, bs[1].toNat_lt⟩
  rw [hx1] at r1
  have w1 : IntKind.i64.wrap (x1 : Int) = (x1 : Int) := by rw [IntWalk.i64_in] <;> omega
  obtain ⟨x2, hx2, hb2⟩ : ∃ x : Nat, bs[2].toNat = x ∧ x < 256 := ⟨_, rfl, bs[2].toNat_lt⟩
  rw [hx2] at r2
  have w2 : IntKind.i64.wrap (x2 : Int) = (x2 : Int) := by rw [IntWalk.i64_in] <;> omega
  obtain ⟨x3, hx3, hb3⟩ : ∃ x : Nat, bs[3].toNat = x ∧ x < 256 := ⟨_, rfl, bs[3].toNat_lt⟩
  rw [hx3] at r3
  have w3 : IntKind.i64.wrap (x3 : Int) = (x3 : Int) := by rw [IntWalk.i64_in] <;> omega
  obtain ⟨y0, hy0, hz0⟩ : ∃ y : Nat, IntKind.i64.wrap (256 * (0 : Int) + (x0 : Int)) = (y : Int) ∧ y = 256 * 0 + x0 := ⟨256 * 0 + x0, by rw [IntWalk.i64_in] <;> omega, rfl⟩
  have l0 : y0 < 4294967296 := by omega
  have m0 : IntKind.i64.wrap (256 * (y0 : Int)) = 256 * (y0 : Int) := by rw [IntWalk.i64_in] <;> omega
  obtain ⟨y1, hy1, hz1⟩ : ∃ y : Nat, IntKind.i64.wrap (256 * (y0 : Int) + (x1 : Int)) = (y : Int) ∧ y = 256 * y0 + x1 := ⟨256 * y0 + x1, by rw [IntWalk.i64_in] <;> omega, rfl⟩
  have l1 : y1 < 4294967296 := by omega
  have m1 : IntKind.i64.wrap (256 * (y1 : Int)) = 256 * (y1 : Int) := by rw [IntWalk.i64_in] <;> omega
  obtain ⟨y2, hy2, hz2⟩ : ∃ y : Nat, IntKind.i64.wrap (256 * (y1 : Int) + (x2 : Int)) = (y : Int) ∧ y = 256 * y1 + x2 := ⟨256 * y1 + x2, by rw [IntWalk.i64_in] <;> omega, rfl⟩
  have l2 : y2 < 4294967296 := by omega
  have m2 : IntKind.i64.wrap (256 * (y2 : Int)) = 256 * (y2 : Int) := by rw [IntWalk.i64_in] <;> omega
  obtain ⟨y3, hy3, hz3⟩ : ∃ y : Nat, IntKind.i64.wrap (256 * (y2 : Int) + (x3 : Int)) = (y : Int) ∧ y = 256 * y2 + x3 := ⟨256 * y2 + x3, by rw [IntWalk.i64_in] <;> omega, rfl⟩
  have l3 : y3 < 4294967296 := by omega
  have e0 : y0 = x0 := by omega
  subst e0
  have hvv : v = y3 := by rw [hv]; unfold word; rw [hx0, hx1, hx2, hx3]; omega
  subst hvv
  clear hv h hz0 hy0 hz1 hx1 hz2 hx2 hz3 hx3 hx0
  clear hl
  go_enter Try.func49, Try.ntmps49
  go_upto_block 0 with fail
  refine wp_block (wp_loop_rounds 5 ?_)
  rw [rounds_succ]
  go_wp2_with fail
  rw [rounds_succ]
  go_wp2_with fail
  rw [rounds_succ]
  go_wp2_with fail
  rw [rounds_succ]
  go_wp2_with fail
  rw [rounds_succ]
  go_wp2_with fail
  go_ret
  exact ⟨rfl, rfl⟩
end Go.Proofs.Ytcclneaabnpbkaa

/- Rr -/
namespace Go.Proofs.Ytcclneaabnpbkaa
open Go.RowKit
attribute [local go_sem] undef

noncomputable def B29 : Code := Try.f29.body.getD .skip

set_option maxRecDepth 100000 in
set_option maxHeartbeats 2000000 in
theorem ref_bad_1 (w W : World) (u1 u3 u4 u5 u7 u8 u9 u10 u11 u12 u13 u14 u15 u16 u17 u18 u19 u20 u21 u22 u23 u24 u25 u26 u27 u28 u29 u30 u31 u32 u33 u34 u35 u36 u37 u38 u39 u40 u41 u42 u43 u44 u45 u46 u47 u48 u49 u50 u51 u52 u53 u54 u55 u56 u57 u58 u59 u60 u61 u62 u63 u64 u65 u66 u67 u68 u69 u70 u71 u72 u73 u74 u75 u76 u77 u78 u79 u80 u81 u82 u83 u84 u85 u86 u87 u88 u89 u90 u91 u92 u93 u94 u95 u96 u97 u98 u99 u100 u101 u102 u103 u104 u105 u106 u107 u108 u109 u110 u111 u112 u113 u114 u115 u116 u117 u118 : Value) (ad : Addr) (n c rb hb : Nat) (bs : List UInt8) (hn : bs.length = n) (hc : n ≤ c) (h4 : n ≤ 400) (hr : Rds W (some ad) bs) (hrb : w.heap.size ≤ rb) (F0 : Frm No w W) (Z0 : Blk W rb 54 #[.int .u8 0, .int .u16 0, .bool false, .bool false, .int .i64 0, .int .u8 0, .int .u8 0, .int .u32 0, .int .u32 0, .slice none 0 0]) (Y0 : Blk W hb 54 #[.int .u8 0, .int .u16 0, .bool false, .bool false, .int .i64 0, .int .u8 0, .int .u8 0, .int .u32 0, .int .u32 0, .slice none 0 0])
    (g1 : q1 bs = true) :
    Code.wp Try.prog (dropS 2 B29) (bodyPost Try.prog Try.f29 (ReadBad 50 w)) ⟨#[.slice (some ad) n c, u1, .pointer (some ⟨rb, 0, none⟩), u3, u4, u5, .pointer (some ⟨hb, 0, none⟩), u7, u8, u9, u10, u11, u12, u13, u14, u15, u16, u17, u18, u19, u20, u21, u22, u23, u24, u25, u26, u27, u28, u29, u30, u31, u32, u33, u34, u35, u36, u37, u38, u39, u40, u41, u42, u43, u44, u45, u46, u47, u48, u49, u50, u51, u52, u53, u54, u55, u56, u57, u58, u59, u60, u61, u62, u63, u64, u65, u66, u67, u68, u69, u70, u71, u72, u73, u74, u75, u76, u77, u78, u79, u80, u81, u82, u83, u84, u85, u86, u87, u88, u89, u90, u91, u92, u93, u94, u95, u96, u97, u98, u99, u100, u101, u102, u103, u104, u105, u106, u107, u108, u109, u110, u111, u112, u113, u114, u115, u116, u117, u118], []⟩ W := by
  have F := Lib.hid F0
  obtain ⟨i0, i1, i2, i3, i4, i5, i6, i7, i8, i9⟩ := blk10 Y0
  have zf := Z0.frozen
  have zf0 := zf 0
  have zf1 := zf 1
  have zf2 := zf 2
  have zf3 := zf 3
  have zf4 := zf 4
  have zf5 := zf 5
  have zf6 := zf 6
  have zf7 := zf 7
  have zf8 := zf 8
  have zf9 := zf 9
  obtain ⟨o0, o1, o2, o3, o4, o5, o6, o7, o8, o9⟩ := blk10 Z0
  clear zf
  have Z := Lib.hid Z0
  have a1 := of_decide_eq_true g1
  have f1 : (n : Int) < 20 := by omega
  clear g1 F0 Z0 Y0 hr hn hc a1
  conv => arg 2; whnf
  go_wp2_with fail
  obtain ⟨z0, z1, z2, z3, z4, z5, z6, z7, z8, z9⟩ := blk10 (set10 Z.out (.int .u8 0) (.int .u16 0) (.bool false) (.bool false) (.int .i64 0) (.int .u8 0) (.int .u8 0) (.int .u32 0) (.int .u32 0) (.slice none 0 0))
  refine bodyPost_ret (v := .tuple #[.agg #[.int .u8 0, .int .u16 0, .bool false, .bool false, .int .i64 0, .int .u8 0, .int .u8 0, .int .u32 0, .int .u32 0, .slice none 0 0], .int .i64 0, .int .i64 0, .int .i64 50]) (by simp [results, Try.results29, go_sem, z0, z1, z2, z3, z4, z5, z6, z7, z8, z9]) rfl ⟨rfl, frm10 F.out (fun h => absurd h (by omega)) _ _ _ _ _ _ _ _ _ _⟩

set_option maxRecDepth 100000 in
set_option maxHeartbeats 2000000 in
theorem ref_bad_2 (w W : World) (u1 u3 u4 u5 u7 u8 u9 u10 u11 u12 u13 u14 u15 u16 u17 u18 u19 u20 u21 u22 u23 u24 u25 u26 u27 u28 u29 u30 u31 u32 u33 u34 u35 u36 u37 u38 u39 u40 u41 u42 u43 u44 u45 u46 u47 u48 u49 u50 u51 u52 u53 u54 u55 u56 u57 u58 u59 u60 u61 u62 u63 u64 u65 u66 u67 u68 u69 u70 u71 u72 u73 u74 u75 u76 u77 u78 u79 u80 u81 u82 u83 u84 u85 u86 u87 u88 u89 u90 u91 u92 u93 u94 u95 u96 u97 u98 u99 u100 u101 u102 u103 u104 u105 u106 u107 u108 u109 u110 u111 u112 u113 u114 u115 u116 u117 u118 : Value) (ad : Addr) (n c rb hb : Nat) (bs : List UInt8) (hn : bs.length = n) (hc : n ≤ c) (h4 : n ≤ 400) (hr : Rds W (some ad) bs) (hrb : w.heap.size ≤ rb) (F0 : Frm No w W) (Z0 : Blk W rb 54 #[.int .u8 0, .int .u16 0, .bool false, .bool false, .int .i64 0, .int .u8 0, .int .u8 0, .int .u32 0, .int .u32 0, .slice none 0 0]) (Y0 : Blk W hb 54 #[.int .u8 0, .int .u16 0, .bool false, .bool false, .int .i64 0, .int .u8 0, .int .u8 0, .int .u32 0, .int .u32 0, .slice none 0 0])
    (g1 : q1 bs = false)
    (g2 : q2 bs = true) :
    Code.wp Try.prog (dropS 2 B29) (bodyPost Try.prog Try.f29 (ReadBad 51 w)) ⟨#[.slice (some ad) n c, u1, .pointer (some ⟨rb, 0, none⟩), u3, u4, u5, .pointer (some ⟨hb, 0, none⟩), u7, u8, u9, u10, u11, u12, u13, u14, u15, u16, u17, u18, u19, u20, u21, u22, u23, u24, u25, u26, u27, u28, u29, u30, u31, u32, u33, u34, u35, u36, u37, u38, u39, u40, u41, u42, u43, u44, u45, u46, u47, u48, u49, u50, u51, u52, u53, u54, u55, u56, u57, u58, u59, u60, u61, u62, u63, u64, u65, u66, u67, u68, u69, u70, u71, u72, u73, u74, u75, u76, u77, u78, u79, u80, u81, u82, u83, u84, u85, u86, u87, u88, u89, u90, u91, u92, u93, u94, u95, u96, u97, u98, u99, u100, u101, u102, u103, u104, u105, u106, u107, u108, u109, u110, u111, u112, u113, u114, u115, u116, u117, u118], []⟩ W := by
  have F := Lib.hid F0
  obtain ⟨i0, i1, i2, i3, i4, i5, i6, i7, i8, i9⟩ := blk10 Y0
  have zf := Z0.frozen
  have zf0 := zf 0
  have zf1 := zf 1
  have zf2 := zf 2
  have zf3 := zf 3
  have zf4 := zf 4
  have zf5 := zf 5
  have zf6 := zf 6
  have zf7 := zf 7
  have zf8 := zf 8
  have zf9 := zf 9
  obtain ⟨o0, o1, o2, o3, o4, o5, o6, o7, o8, o9⟩ := blk10 Z0
  clear zf
  have Z := Lib.hid Z0
  have a1 := of_decide_eq_false g1
  have f1 : ¬ (n : Int) < 20 := by omega
  have n20 : 20 ≤ n := by omega
  have n0 : 0 < n := by omega
  have n0i : (0 : Int) < n := by omega
  have r0 : W.cell? ad = some (.int .u8 (byteAt bs 0 : Int)) := by
    obtain ⟨a', h1, h2⟩ := hr.byte (k := 0) (by omega)
    injection h1 with h1
    subst h1
    exact h2
  obtain ⟨b, hb0, hbl⟩ : ∃ b, byteAt bs 0 = b ∧ b < 256 := ⟨_, rfl, byteAt_lt _ _⟩
  rw [hb0] at r0
  obtain ⟨v, hv, hv2⟩ : ∃ v : Nat, (b : Int) / 16 = (v : Int) ∧ v = b / 16 := ⟨b / 16, by omega, rfl⟩
  have a2 := of_decide_eq_true g2
  rw [hb0] at a2
  have f2 : ((v : Int) != 4) = true := by simp; omega
  clear g1 g2 F0 Z0 Y0 hr hn hc hv2 hb0 a2 a1
  conv => arg 2; whnf
  go_wp2_with fail
  obtain ⟨z0, z1, z2, z3, z4, z5, z6, z7, z8, z9⟩ := blk10 (set10 Z.out (.int .u8 0) (.int .u16 0) (.bool false) (.bool false) (.int .i64 0) (.int .u8 0) (.int .u8 0) (.int .u32 0) (.int .u32 0) (.slice none 0 0))
  refine bodyPost_ret (v := .tuple #[.agg #[.int .u8 0, .int .u16 0, .bool false, .bool false, .int .i64 0, .int .u8 0, .int .u8 0, .int .u32 0, .int .u32 0, .slice none 0 0], .int .i64 0, .int .i64 0, .int .i64 51]) (by simp [results, Try.results29, go_sem, z0, z1, z2, z3, z4, z5, z6, z7, z8, z9]) rfl ⟨rfl, frm10 F.out (fun h => absurd h (by omega)) _ _ _ _ _ _ _ _ _ _⟩

set_option maxRecDepth 100000 in
set_option maxHeartbeats 2000000 in
theorem ref_bad_3 (w W : World) (u1 u3 u4 u5 u7 u8 u9 u10 u11 u12 u13 u14 u15 u16 u17 u18 u19 u20 u21 u22 u23 u24 u25 u26 u27 u28 u29 u30 u31 u32 u33 u34 u35 u36 u37 u38 u39 u40 u41 u42 u43 u44 u45 u46 u47 u48 u49 u50 u51 u52 u53 u54 u55 u56 u57 u58 u59 u60 u61 u62 u63 u64 u65 u66 u67 u68 u69 u70 u71 u72 u73 u74 u75 u76 u77 u78 u79 u80 u81 u82 u83 u84 u85 u86 u87 u88 u89 u90 u91 u92 u93 u94 u95 u96 u97 u98 u99 u100 u101 u102 u103 u104 u105 u106 u107 u108 u109 u110 u111 u112 u113 u114 u115 u116 u117 u118 : Value) (ad : Addr) (n c rb hb : Nat) (bs : List UInt8) (hn : bs.length = n) (hc : n ≤ c) (h4 : n ≤ 400) (hr : Rds W (some ad) bs) (hrb : w.heap.size ≤ rb) (F0 : Frm No w W) (Z0 : Blk W rb 54 #[.int .u8 0, .int .u16 0, .bool false, .bool false, .int .i64 0, .int .u8 0, .int .u8 0, .int .u32 0, .int .u32 0, .slice none 0 0]) (Y0 : Blk W hb 54 #[.int .u8 0, .int .u16 0, .bool false, .bool false, .int .i64 0, .int .u8 0, .int .u8 0, .int .u32 0, .int .u32 0, .slice none 0 0])
    (g1 : q1 bs = false)
    (g2 : q2 bs = false)
    (g3 : q3 bs = true) :
    Code.wp Try.prog (dropS 2 B29) (bodyPost Try.prog Try.f29 (ReadBad 52 w)) ⟨#[.slice (some ad) n c, u1, .pointer (some ⟨rb, 0, none⟩), u3, u4, u5, .pointer (some ⟨hb, 0, none⟩), u7, u8, u9, u10, u11, u12, u13, u14, u15, u16, u17, u18, u19, u20, u21, u22, u23, u24, u25, u26, u27, u28, u29, u30, u31, u32, u33, u34, u35, u36, u37, u38, u39, u40, u41, u42, u43, u44, u45, u46, u47, u48, u49, u50, u51, u52, u53, u54, u55, u56, u57, u58, u59, u60, u61, u62, u63, u64, u65, u66, u67, u68, u69, u70, u71, u72, u73, u74, u75, u76, u77, u78, u79, u80, u81, u82, u83, u84, u85, u86, u87, u88, u89, u90, u91, u92, u93, u94, u95, u96, u97, u98, u99, u100, u101, u102, u103, u104, u105, u106, u107, u108, u109, u110, u111, u112, u113, u114, u115, u116, u117, u118], []⟩ W := by
  have F := Lib.hid F0
  obtain ⟨i0, i1, i2, i3, i4, i5, i6, i7, i8, i9⟩ := blk10 Y0
  have zf := Z0.frozen
  have zf0 := zf 0
  have zf1 := zf 1
  have zf2 := zf 2
  have zf3 := zf 3
  have zf4 := zf 4
  have zf5 := zf 5
  have zf6 := zf 6
  have zf7 := zf 7
  have zf8 := zf 8
  have zf9 := zf 9
  obtain ⟨o0, o1, o2, o3, o4, o5, o6, o7, o8, o9⟩ := blk10 Z0
  clear zf
  have Z := Lib.hid Z0
  have a1 := of_decide_eq_false g1
  have f1 : ¬ (n : Int) < 20 := by omega
  have n20 : 20 ≤ n := by omega
  have n0 : 0 < n := by omega
  have n0i : (0 : Int) < n := by omega
  have r0 : W.cell? ad = some (.int .u8 (byteAt bs 0 : Int)) := by
    obtain ⟨a', h1, h2⟩ := hr.byte (k := 0) (by omega)
    injection h1 with h1
    subst h1
    exact h2
  obtain ⟨b, hb0, hbl⟩ : ∃ b, byteAt bs 0 = b ∧ b < 256 := ⟨_, rfl, byteAt_lt _ _⟩
  rw [hb0] at r0
  obtain ⟨v, hv, hv2⟩ : ∃ v : Nat, (b : Int) / 16 = (v : Int) ∧ v = b / 16 := ⟨b / 16, by omega, rfl⟩
  have a2 := of_decide_eq_false g2
  rw [hb0] at a2
  have v4 : v = 4 := by omega
  subst v4
  have hzz : sizeAt bs = b % 16 * 4 := by unfold sizeAt; rw [hb0]
  obtain ⟨r, hr1, hr2⟩ : ∃ r : Nat, (b : Int) % 16 = (r : Int) ∧ r = b % 16 := ⟨b % 16, by omega, rfl⟩
  obtain ⟨z, hz1, hz2⟩ : ∃ z : Nat, IntKind.i64.wrap ((r : Int) * 4) = (z : Int) ∧ z = r * 4 := ⟨r * 4, by rw [IntWalk.i64_in] <;> omega, rfl⟩
  have hzs : sizeAt bs = z := by omega
  have rw1 : IntKind.i64.wrap (r : Int) = (r : Int) := by rw [IntWalk.i64_in] <;> omega
  have a3 := of_decide_eq_true g3
  rw [hzs, hn] at a3
  rcases a3 with a3 | a3
  ·
    have f3 : (z : Int) < 20 := by omega
    clear g1 g2 g3 F0 Z0 Y0 hr hn hc hv2 hb0 hzz hr2 hz2 hzs a3 a2 a1
    conv => arg 2; whnf
    go_wp2_with fail
    obtain ⟨z0, z1, z2, z3, z4, z5, z6, z7, z8, z9⟩ := blk10 (set10 Z.out (.int .u8 0) (.int .u16 0) (.bool false) (.bool false) (.int .i64 0) (.int .u8 0) (.int .u8 0) (.int .u32 0) (.int .u32 0) (.slice none 0 0))
    refine bodyPost_ret (v := .tuple #[.agg #[.int .u8 0, .int .u16 0, .bool false, .bool false, .int .i64 0, .int .u8 0, .int .u8 0, .int .u32 0, .int .u32 0, .slice none 0 0], .int .i64 0, .int .i64 0, .int .i64 52]) (by simp [results, Try.results29, go_sem, z0, z1, z2, z3, z4, z5, z6, z7, z8, z9]) rfl ⟨rfl, frm10 F.out (fun h => absurd h (by omega)) _ _ _ _ _ _ _ _ _ _⟩
  ·
    have h20 : z < 20 ∨ ¬ z < 20 := by omega
    have f3b : (z : Int) > n := by omega
    have f3c : decide (n < z) = true := decide_eq_true (by omega)
    have f3 : ¬ (z : Int) < 20 := by omega
    clear h20
    clear g1 g2 g3 F0 Z0 Y0 hr hn hc hv2 hb0 hzz hr2 hz2 hzs a3 a2 a1
    conv => arg 2; whnf
    go_wp2_with fail
    obtain ⟨z0, z1, z2, z3, z4, z5, z6, z7, z8, z9⟩ := blk10 (set10 Z.out (.int .u8 0) (.int .u16 0) (.bool false) (.bool false) (.int .i64 0) (.int .u8 0) (.int .u8 0) (.int .u32 0) (.int .u32 0) (.slice none 0 0))
    refine bodyPost_ret (v := .tuple #[.agg #[.int .u8 0, .int .u16 0, .bool false, .bool false, .int .i64 0, .int .u8 0, .int .u8 0, .int .u32 0, .int .u32 0, .slice none 0 0], .int .i64 0, .int .i64 0, .int .i64 52]) (by simp [results, Try.results29, go_sem, z0, z1, z2, z3, z4, z5, z6, z7, z8, z9]) rfl ⟨rfl, frm10 F.out (fun h => absurd h (by omega)) _ _ _ _ _ _ _ _ _ _⟩

set_option maxRecDepth 100000 in
set_option maxHeartbeats 2000000 in
theorem ref_bad_4 (w W : World) (u1 u3 u4 u5 u7 u8 u9 u10 u11 u12 u13 u14 u15 u16 u17 u18 u19 u20 u21 u22 u23 u24 u25 u26 u27 u28 u29 u30 u31 u32 u33 u34 u35 u36 u37 u38 u39 u40 u41 u42 u43 u44 u45 u46 u47 u48 u49 u50 u51 u52 u53 u54 u55 u56 u57 u58 u59 u60 u61 u62 u63 u64 u65 u66 u67 u68 u69 u70 u71 u72 u73 u74 u75 u76 u77 u78 u79 u80 u81 u82 u83 u84 u85 u86 u87 u88 u89 u90 u91 u92 u93 u94 u95 u96 u97 u98 u99 u100 u101 u102 u103 u104 u105 u106 u107 u108 u109 u110 u111 u112 u113 u114 u115 u116 u117 u118 : Value) (ad : Addr) (n c rb hb : Nat) (bs : List UInt8) (hn : bs.length = n) (hc : n ≤ c) (h4 : n ≤ 400) (hr : Rds W (some ad) bs) (hrb : w.heap.size ≤ rb) (F0 : Frm No w W) (Z0 : Blk W rb 54 #[.int .u8 0, .int .u16 0, .bool false, .bool false, .int .i64 0, .int .u8 0, .int .u8 0, .int .u32 0, .int .u32 0, .slice none 0 0]) (Y0 : Blk W hb 54 #[.int .u8 0, .int .u16 0, .bool false, .bool false, .int .i64 0, .int .u8 0, .int .u8 0, .int .u32 0, .int .u32 0, .slice none 0 0])
    (g1 : q1 bs = false)
    (g2 : q2 bs = false)
    (g3 : q3 bs = false)
    (g4 : q4 bs = true) :
    Code.wp Try.prog (dropS 2 B29) (bodyPost Try.prog Try.f29 (ReadBad 53 w)) ⟨#[.slice (some ad) n c, u1, .pointer (some ⟨rb, 0, none⟩), u3, u4, u5, .pointer (some ⟨hb, 0, none⟩), u7, u8, u9, u10, u11, u12, u13, u14, u15, u16, u17, u18, u19, u20, u21, u22, u23, u24, u25, u26, u27, u28, u29, u30, u31, u32, u33, u34, u35, u36, u37, u38, u39, u40, u41, u42, u43, u44, u45, u46, u47, u48, u49, u50, u51, u52, u53, u54, u55, u56, u57, u58, u59, u60, u61, u62, u63, u64, u65, u66, u67, u68, u69, u70, u71, u72, u73, u74, u75, u76, u77, u78, u79, u80, u81, u82, u83, u84, u85, u86, u87, u88, u89, u90, u91, u92, u93, u94, u95, u96, u97, u98, u99, u100, u101, u102, u103, u104, u105, u106, u107, u108, u109, u110, u111, u112, u113, u114, u115, u116, u117, u118], []⟩ W := by
  have F := Lib.hid F0
  obtain ⟨i0, i1, i2, i3, i4, i5, i6, i7, i8, i9⟩ := blk10 Y0
  have zf := Z0.frozen
  have zf0 := zf 0
  have zf1 := zf 1
  have zf2 := zf 2
  have zf3 := zf 3
  have zf4 := zf 4
  have zf5 := zf 5
  have zf6 := zf 6
  have zf7 := zf 7
  have zf8 := zf 8
  have zf9 := zf 9
  obtain ⟨o0, o1, o2, o3, o4, o5, o6, o7, o8, o9⟩ := blk10 Z0
  clear zf
  have Z := Lib.hid Z0
  have a1 := of_decide_eq_false g1
  have f1 : ¬ (n : Int) < 20 := by omega
  have n20 : 20 ≤ n := by omega
  have n0 : 0 < n := by omega
  have n0i : (0 : Int) < n := by omega
  have r0 : W.cell? ad = some (.int .u8 (byteAt bs 0 : Int)) := by
    obtain ⟨a', h1, h2⟩ := hr.byte (k := 0) (by omega)
    injection h1 with h1
    subst h1
    exact h2
  obtain ⟨b, hb0, hbl⟩ : ∃ b, byteAt bs 0 = b ∧ b < 256 := ⟨_, rfl, byteAt_lt _ _⟩
  rw [hb0] at r0
  obtain ⟨v, hv, hv2⟩ : ∃ v : Nat, (b : Int) / 16 = (v : Int) ∧ v = b / 16 := ⟨b / 16, by omega, rfl⟩
  have a2 := of_decide_eq_false g2
  rw [hb0] at a2
  have v4 : v = 4 := by omega
  subst v4
  have hzz : sizeAt bs = b % 16 * 4 := by unfold sizeAt; rw [hb0]
  obtain ⟨r, hr1, hr2⟩ : ∃ r : Nat, (b : Int) % 16 = (r : Int) ∧ r = b % 16 := ⟨b % 16, by omega, rfl⟩
  obtain ⟨z, hz1, hz2⟩ : ∃ z : Nat, IntKind.i64.wrap ((r : Int) * 4) = (z : Int) ∧ z = r * 4 := ⟨r * 4, by rw [IntWalk.i64_in] <;> omega, rfl⟩
  have hzs : sizeAt bs = z := by omega
  have rw1 : IntKind.i64.wrap (r : Int) = (r : Int) := by rw [IntWalk.i64_in] <;> omega
  have a3 := of_decide_eq_false g3
  rw [hzs, hn] at a3
  have f3 : ¬ (z : Int) < 20 := by omega
  have f3b : ¬ (z : Int) > n := by omega
  have f3c : decide (n < z) = false := decide_eq_false (by omega)
  have c2 : ¬ c = 2 := by omega
  have c4 : (4 : Int) ≤ c := by omega
  have HN2 := Lib.hid (num2 W ⟨ad.block, ad.off + 2, none⟩ (c - 2) [bs[2], bs[3]] rfl (by
    have h1 := (hr.take 4).drop 2 c (by rw [List.length_take]; omega) (some ⟨ad.block, ad.off + 2, none⟩) (by rw [if_neg c2]; rfl)
    have e : (bs.take 4).drop 2 = [bs[2], bs[3]] := by
      apply List.ext_getElem
      · simp; omega
      · intro i h1 h2
        simp at h2
        have h3 : i = 0 ∨ i = 1 := by omega
        rcases h3 with rfl | rfl <;> simp
    rwa [e] at h1) (totAt bs) (by unfold totAt; rw [wordAt_at (by omega)]; rfl))
  obtain ⟨t, ht⟩ : ∃ t, totAt bs = t := ⟨_, rfl⟩
  rw [ht] at HN2
  have a4 := of_decide_eq_true g4
  rw [hzs, hn, ht] at a4
  rcases a4 with a4 | a4
  ·
    have f4 : (t : Int) < z := by omega
    have f4c : decide (t < z) = true := decide_eq_true (by omega)
    clear g1 g2 g3 g4 F0 Z0 Y0 hr hn hc hv2 hb0 hzz hr2 hz2 hzs a3 a2 a1 ht a4
    conv => arg 2; whnf
    go_wp2_with fail
    refine HN2.out.mono ?_
    rintro e w' ⟨rfl, rfl⟩
    go_wp2_with fail
    obtain ⟨z0, z1, z2, z3, z4, z5, z6, z7, z8, z9⟩ := blk10 (set10 Z.out (.int .u8 0) (.int .u16 0) (.bool false) (.bool false) (.int .i64 0) (.int .u8 0) (.int .u8 0) (.int .u32 0) (.int .u32 0) (.slice none 0 0))
    refine bodyPost_ret (v := .tuple #[.agg #[.int .u8 0, .int .u16 0, .bool false, .bool false, .int .i64 0, .int .u8 0, .int .u8 0, .int .u32 0, .int .u32 0, .slice none 0 0], .int .i64 0, .int .i64 0, .int .i64 53]) (by simp [results, Try.results29, go_sem, z0, z1, z2, z3, z4, z5, z6, z7, z8, z9]) rfl ⟨rfl, frm10 F.out (fun h => absurd h (by omega)) _ _ _ _ _ _ _ _ _ _⟩
  ·
    have f4 : ¬ (t : Int) < z := by omega
    have f4c : decide (t < z) = false := decide_eq_false (by omega)
    have f4b : (t : Int) > n := by omega
    have f4d : decide (n < t) = true := decide_eq_true (by omega)
    clear g1 g2 g3 g4 F0 Z0 Y0 hr hn hc hv2 hb0 hzz hr2 hz2 hzs a3 a2 a1 ht a4
    conv => arg 2; whnf
    go_wp2_with fail
    refine HN2.out.mono ?_
    rintro e w' ⟨rfl, rfl⟩
    go_wp2_with fail
    obtain ⟨z0, z1, z2, z3, z4, z5, z6, z7, z8, z9⟩ := blk10 (set10 Z.out (.int .u8 0) (.int .u16 0) (.bool false) (.bool false) (.int .i64 0) (.int .u8 0) (.int .u8 0) (.int .u32 0) (.int .u32 0) (.slice none 0 0))
    refine bodyPost_ret (v := .tuple #[.agg #[.int .u8 0, .int .u16 0, .bool false, .bool false, .int .i64 0, .int .u8 0, .int .u8 0, .int .u32 0, .int .u32 0, .slice none 0 0], .int .i64 0, .int .i64 0, .int .i64 53]) (by simp [results, Try.results29, go_sem, z0, z1, z2, z3, z4, z5, z6, z7, z8, z9]) rfl ⟨rfl, frm10 F.out (fun h => absurd h (by omega)) _ _ _ _ _ _ _ _ _ _⟩

set_option maxRecDepth 100000 in
set_option maxHeartbeats 2000000 in
theorem ref_bad_5 (w W : World) (u1 u3 u4 u5 u7 u8 u9 u10 u11 u12 u13 u14 u15 u16 u17 u18 u19 u20 u21 u22 u23 u24 u25 u26 u27 u28 u29 u30 u31 u32 u33 u34 u35 u36 u37 u38 u39 u40 u41 u42 u43 u44 u45 u46 u47 u48 u49 u50 u51 u52 u53 u54 u55 u56 u57 u58 u59 u60 u61 u62 u63 u64 u65 u66 u67 u68 u69 u70 u71 u72 u73 u74 u75 u76 u77 u78 u79 u80 u81 u82 u83 u84 u85 u86 u87 u88 u89 u90 u91 u92 u93 u94 u95 u96 u97 u98 u99 u100 u101 u102 u103 u104 u105 u106 u107 u108 u109 u110 u111 u112 u113 u114 u115 u116 u117 u118 : Value) (ad : Addr) (n c rb hb : Nat) (bs : List UInt8) (hn : bs.length = n) (hc : n ≤ c) (h4 : n ≤ 400) (hr : Rds W (some ad) bs) (hrb : w.heap.size ≤ rb) (F0 : Frm No w W) (Z0 : Blk W rb 54 #[.int .u8 0, .int .u16 0, .bool false, .bool false, .int .i64 0, .int .u8 0, .int .u8 0, .int .u32 0, .int .u32 0, .slice none 0 0]) (Y0 : Blk W hb 54 #[.int .u8 0, .int .u16 0, .bool false, .bool false, .int .i64 0, .int .u8 0, .int .u8 0, .int .u32 0, .int .u32 0, .slice none 0 0])
    (g1 : q1 bs = false)
    (g2 : q2 bs = false)
    (g3 : q3 bs = false)
    (g4 : q4 bs = false)
    (g5 : q5 bs = true) :
    Code.wp Try.prog (dropS 2 B29) (bodyPost Try.prog Try.f29 (ReadBad 54 w)) ⟨#[.slice (some ad) n c, u1, .pointer (some ⟨rb, 0, none⟩), u3, u4, u5, .pointer (some ⟨hb, 0, none⟩), u7, u8, u9, u10, u11, u12, u13, u14, u15, u16, u17, u18, u19, u20, u21, u22, u23, u24, u25, u26, u27, u28, u29, u30, u31, u32, u33, u34, u35, u36, u37, u38, u39, u40, u41, u42, u43, u44, u45, u46, u47, u48, u49, u50, u51, u52, u53, u54, u55, u56, u57, u58, u59, u60, u61, u62, u63, u64, u65, u66, u67, u68, u69, u70, u71, u72, u73, u74, u75, u76, u77, u78, u79, u80, u81, u82, u83, u84, u85, u86, u87, u88, u89, u90, u91, u92, u93, u94, u95, u96, u97, u98, u99, u100, u101, u102, u103, u104, u105, u106, u107, u108, u109, u110, u111, u112, u113, u114, u115, u116, u117, u118], []⟩ W := by
  have F := Lib.hid F0
  obtain ⟨i0, i1, i2, i3, i4, i5, i6, i7, i8, i9⟩ := blk10 Y0
  have zf := Z0.frozen
  have zf0 := zf 0
  have zf1 := zf 1
  have zf2 := zf 2
  have zf3 := zf 3
  have zf4 := zf 4
  have zf5 := zf 5
  have zf6 := zf 6
  have zf7 := zf 7
  have zf8 := zf 8
  have zf9 := zf 9
  obtain ⟨o0, o1, o2, o3, o4, o5, o6, o7, o8, o9⟩ := blk10 Z0
  clear zf
  have Z := Lib.hid Z0
  have a1 := of_decide_eq_false g1
  have f1 : ¬ (n : Int) < 20 := by omega
  have n20 : 20 ≤ n := by omega
  have n0 : 0 < n := by omega
  have n0i : (0 : Int) < n := by omega
  have r0 : W.cell? ad = some (.int .u8 (byteAt bs 0 : Int)) := by
    obtain ⟨a', h1, h2⟩ := hr.byte (k := 0) (by omega)
    injection h1 with h1
    subst h1
    exact h2
  obtain ⟨b, hb0, hbl⟩ : ∃ b, byteAt bs 0 = b ∧ b < 256 := ⟨_, rfl, byteAt_lt _ _⟩
  rw [hb0] at r0
  obtain ⟨v, hv, hv2⟩ : ∃ v : Nat, (b : Int) / 16 = (v : Int) ∧ v = b / 16 := ⟨b / 16, by omega, rfl⟩
  have a2 := of_decide_eq_false g2
  rw [hb0] at a2
  have v4 : v = 4 := by omega
  subst v4
  have hzz : sizeAt bs = b % 16 * 4 := by unfold sizeAt; rw [hb0]
  obtain ⟨r, hr1, hr2⟩ : ∃ r : Nat, (b : Int) % 16 = (r : Int) ∧ r = b % 16 := ⟨b % 16, by omega, rfl⟩
  obtain ⟨z, hz1, hz2⟩ : ∃ z : Nat, IntKind.i64.wrap ((r : Int) * 4) = (z : Int) ∧ z = r * 4 := ⟨r * 4, by rw [IntWalk.i64_in] <;> omega, rfl⟩
  have hzs : sizeAt bs = z := by omega
  have rw1 : IntKind.i64.wrap (r : Int) = (r : Int) := by rw [IntWalk.i64_in] <;> omega
  have a3 := of_decide_eq_false g3
  rw [hzs, hn] at a3
  have f3 : ¬ (z : Int) < 20 := by omega
  have f3b : ¬ (z : Int) > n := by omega
  have f3c : decide (n < z) = false := decide_eq_false (by omega)
  have c2 : ¬ c = 2 := by omega
  have c4 : (4 : Int) ≤ c := by omega
  have HN2 := Lib.hid (num2 W ⟨ad.block, ad.off + 2, none⟩ (c - 2) [bs[2], bs[3]] rfl (by
    have h1 := (hr.take 4).drop 2 c (by rw [List.length_take]; omega) (some ⟨ad.block, ad.off + 2, none⟩) (by rw [if_neg c2]; rfl)
    have e : (bs.take 4).drop 2 = [bs[2], bs[3]] := by
      apply List.ext_getElem
      · simp; omega
      · intro i h1 h2
        simp at h2
        have h3 : i = 0 ∨ i = 1 := by omega
        rcases h3 with rfl | rfl <;> simp
    rwa [e] at h1) (totAt bs) (by unfold totAt; rw [wordAt_at (by omega)]; rfl))
  obtain ⟨t, ht⟩ : ∃ t, totAt bs = t := ⟨_, rfl⟩
  rw [ht] at HN2
  have a4 := of_decide_eq_false g4
  rw [hzs, hn, ht] at a4
  have f4 : ¬ (t : Int) < z := by omega
  have f4b : ¬ (t : Int) > n := by omega
  have f4c : decide (t < z) = false := decide_eq_false (by omega)
  have f4d : decide (n < t) = false := decide_eq_false (by omega)
  have zc : (z : Int) ≤ c := by omega
  have z0i : (0 : Int) ≤ z := by omega
  have HSU := Lib.hid (refSum W (some ad) z c (bs.take z) (by rw [List.length_take]; omega) (hr.take z) (by omega))
  obtain ⟨sm, hsm⟩ : ∃ s, sumOf (bs.take z) = s := ⟨_, rfl⟩
  rw [hsm] at HSU
  have a5 : ¬ sm = 65535 := by have h := g5; unfold q5 at h; rw [hzs, hsm] at h; simpa using h
  have f5 : ((sm : Int) != 65535) = true := by simp; omega
  clear g1 g2 g3 g4 g5 F0 Z0 Y0 hr hn hc hv2 hb0 hzz hr2 hz2 hzs a3 a2 a1 ht a4 hsm a5
  conv => arg 2; whnf
  go_wp2_with fail
  refine HN2.out.mono ?_
  rintro e w' ⟨rfl, rfl⟩
  go_wp2_with fail
  refine HSU.out.mono ?_
  rintro e w' ⟨rfl, rfl⟩
  go_wp2_with fail
  obtain ⟨z0, z1, z2, z3, z4, z5, z6, z7, z8, z9⟩ := blk10 (set10 Z.out (.int .u8 0) (.int .u16 0) (.bool false) (.bool false) (.int .i64 0) (.int .u8 0) (.int .u8 0) (.int .u32 0) (.int .u32 0) (.slice none 0 0))
  refine bodyPost_ret (v := .tuple #[.agg #[.int .u8 0, .int .u16 0, .bool false, .bool false, .int .i64 0, .int .u8 0, .int .u8 0, .int .u32 0, .int .u32 0, .slice none 0 0], .int .i64 0, .int .i64 0, .int .i64 54]) (by simp [results, Try.results29, go_sem, z0, z1, z2, z3, z4, z5, z6, z7, z8, z9]) rfl ⟨rfl, frm10 F.out (fun h => absurd h (by omega)) _ _ _ _ _ _ _ _ _ _⟩

set_option maxRecDepth 100000 in
set_option maxHeartbeats 2000000 in
theorem ref_bad_6 (w W : World) (u1 u3 u4 u5 u7 u8 u9 u10 u11 u12 u13 u14 u15 u16 u17 u18 u19 u20 u21 u22 u23 u24 u25 u26 u27 u28 u29 u30 u31 u32 u33 u34 u35 u36 u37 u38 u39 u40 u41 u42 u43 u44 u45 u46 u47 u48 u49 u50 u51 u52 u53 u54 u55 u56 u57 u58 u59 u60 u61 u62 u63 u64 u65 u66 u67 u68 u69 u70 u71 u72 u73 u74 u75 u76 u77 u78 u79 u80 u81 u82 u83 u84 u85 u86 u87 u88 u89 u90 u91 u92 u93 u94 u95 u96 u97 u98 u99 u100 u101 u102 u103 u104 u105 u106 u107 u108 u109 u110 u111 u112 u113 u114 u115 u116 u117 u118 : Value) (ad : Addr) (n c rb hb : Nat) (bs : List UInt8) (hn : bs.length = n) (hc : n ≤ c) (h4 : n ≤ 400) (hr : Rds W (some ad) bs) (hrb : w.heap.size ≤ rb) (F0 : Frm No w W) (Z0 : Blk W rb 54 #[.int .u8 0, .int .u16 0, .bool false, .bool false, .int .i64 0, .int .u8 0, .int .u8 0, .int .u32 0, .int .u32 0, .slice none 0 0]) (Y0 : Blk W hb 54 #[.int .u8 0, .int .u16 0, .bool false, .bool false, .int .i64 0, .int .u8 0, .int .u8 0, .int .u32 0, .int .u32 0, .slice none 0 0])
    (g1 : q1 bs = false)
    (g2 : q2 bs = false)
    (g3 : q3 bs = false)
    (g4 : q4 bs = false)
    (g5 : q5 bs = false)
    (g6 : q6 bs = true) :
    Code.wp Try.prog (dropS 2 B29) (bodyPost Try.prog Try.f29 (ReadBad 55 w)) ⟨#[.slice (some ad) n c, u1, .pointer (some ⟨rb, 0, none⟩), u3, u4, u5, .pointer (some ⟨hb, 0, none⟩), u7, u8, u9, u10, u11, u12, u13, u14, u15, u16, u17, u18, u19, u20, u21, u22, u23, u24, u25, u26, u27, u28, u29, u30, u31, u32, u33, u34, u35, u36, u37, u38, u39, u40, u41, u42, u43, u44, u45, u46, u47, u48, u49, u50, u51, u52, u53, u54, u55, u56, u57, u58, u59, u60, u61, u62, u63, u64, u65, u66, u67, u68, u69, u70, u71, u72, u73, u74, u75, u76, u77, u78, u79, u80, u81, u82, u83, u84, u85, u86, u87, u88, u89, u90, u91, u92, u93, u94, u95, u96, u97, u98, u99, u100, u101, u102, u103, u104, u105, u106, u107, u108, u109, u110, u111, u112, u113, u114, u115, u116, u117, u118], []⟩ W := by
  have F := Lib.hid F0
  obtain ⟨i0, i1, i2, i3, i4, i5, i6, i7, i8, i9⟩ := blk10 Y0
  have zf := Z0.frozen
  have zf0 := zf 0
  have zf1 := zf 1
  have zf2 := zf 2
  have zf3 := zf 3
  have zf4 := zf 4
  have zf5 := zf 5
  have zf6 := zf 6
  have zf7 := zf 7
  have zf8 := zf 8
  have zf9 := zf 9
  obtain ⟨o0, o1, o2, o3, o4, o5, o6, o7, o8, o9⟩ := blk10 Z0
  clear zf
  have Z := Lib.hid Z0
  have a1 := of_decide_eq_false g1
  have f1 : ¬ (n : Int) < 20 := by omega
  have n20 : 20 ≤ n := by omega
  have n0 : 0 < n := by omega
  have n0i : (0 : Int) < n := by omega
  have r0 : W.cell? ad = some (.int .u8 (byteAt bs 0 : Int)) := by
    obtain ⟨a', h1, h2⟩ := hr.byte (k := 0) (by omega)
    injection h1 with h1
    subst h1
    exact h2
  obtain ⟨b, hb0, hbl⟩ : ∃ b, byteAt bs 0 = b ∧ b < 256 := ⟨_, rfl, byteAt_lt _ _⟩
  rw [hb0] at r0
  obtain ⟨v, hv, hv2⟩ : ∃ v : Nat, (b : Int) / 16 = (v : Int) ∧ v = b / 16 := ⟨b / 16, by omega, rfl⟩
  have a2 := of_decide_eq_false g2
  rw [hb0] at a2
  have v4 : v = 4 := by omega
  subst v4
  have hzz : sizeAt bs = b % 16 * 4 := by unfold sizeAt; rw [hb0]
  obtain ⟨r, hr1, hr2⟩ : ∃ r : Nat, (b : Int) % 16 = (r : Int) ∧ r = b % 16 := ⟨b % 16, by omega, rfl⟩
  obtain ⟨z, hz1, hz2⟩ : ∃ z : Nat, IntKind.i64.wrap ((r : Int) * 4) = (z : Int) ∧ z = r * 4 := ⟨r * 4, by rw [IntWalk.i64_in] <;> omega, rfl⟩
  have hzs : sizeAt bs = z := by omega
  have rw1 : IntKind.i64.wrap (r : Int) = (r : Int) := by rw [IntWalk.i64_in] <;> omega
  have a3 := of_decide_eq_false g3
  rw [hzs, hn] at a3
  have f3 : ¬ (z : Int) < 20 := by omega
  have f3b : ¬ (z : Int) > n := by omega
  have f3c : decide (n < z) = false := decide_eq_false (by omega)
  have c2 : ¬ c = 2 := by omega
  have c4 : (4 : Int) ≤ c := by omega
  have HN2 := Lib.hid (num2 W ⟨ad.block, ad.off + 2, none⟩ (c - 2) [bs[2], bs[3]] rfl (by
    have h1 := (hr.take 4).drop 2 c (by rw [List.length_take]; omega) (some ⟨ad.block, ad.off + 2, none⟩) (by rw [if_neg c2]; rfl)
    have e : (bs.take 4).drop 2 = [bs[2], bs[3]] := by
      apply List.ext_getElem
      · simp; omega
      · intro i h1 h2
        simp at h2
        have h3 : i = 0 ∨ i = 1 := by omega
        rcases h3 with rfl | rfl <;> simp
    rwa [e] at h1) (totAt bs) (by unfold totAt; rw [wordAt_at (by omega)]; rfl))
  obtain ⟨t, ht⟩ : ∃ t, totAt bs = t := ⟨_, rfl⟩
  rw [ht] at HN2
  have a4 := of_decide_eq_false g4
  rw [hzs, hn, ht] at a4
  have f4 : ¬ (t : Int) < z := by omega
  have f4b : ¬ (t : Int) > n := by omega
  have f4c : decide (t < z) = false := decide_eq_false (by omega)
  have f4d : decide (n < t) = false := decide_eq_false (by omega)
  have zc : (z : Int) ≤ c := by omega
  have z0i : (0 : Int) ≤ z := by omega
  have HSU := Lib.hid (refSum W (some ad) z c (bs.take z) (by rw [List.length_take]; omega) (hr.take z) (by omega))
  obtain ⟨sm, hsm⟩ : ∃ s, sumOf (bs.take z) = s := ⟨_, rfl⟩
  rw [hsm] at HSU
  have a5 : sm = 65535 := by have h := g5; unfold q5 at h; rw [hzs, hsm] at h; simpa using h
  subst a5
  have c6 : ¬ c = 6 := by omega
  have c8 : (8 : Int) ≤ c := by omega
  have HN6 := Lib.hid (num2 W ⟨ad.block, ad.off + 6, none⟩ (c - 6) [bs[6], bs[7]] rfl (by
    have h1 := (hr.take 8).drop 6 c (by rw [List.length_take]; omega) (some ⟨ad.block, ad.off + 6, none⟩) (by rw [if_neg c6]; rfl)
    have e : (bs.take 8).drop 6 = [bs[6], bs[7]] := by
      apply List.ext_getElem
      · simp; omega
      · intro i h1 h2
        simp at h2
        have h3 : i = 0 ∨ i = 1 := by omega
        rcases h3 with rfl | rfl <;> simp
    rwa [e] at h1) (wordAt bs 6) (by rw [wordAt_at (by omega)]; rfl))
  obtain ⟨wd, hwd, hwl⟩ : ∃ t, wordAt bs 6 = t ∧ t < 65536 := ⟨_, rfl, wordAt_lt _ _⟩
  rw [hwd] at HN6
  have a6 : wd / 32768 % 2 = 1 := by have h := of_decide_eq_true g6; rwa [hwd] at h
  obtain ⟨x6, hx6, hy6⟩ : ∃ v : Nat, (wd : Int) / 32768 = (v : Int) ∧ v = wd / 32768 := ⟨wd / 32768, by omega, rfl⟩
  have x61 : x6 = 1 := by omega
  subst x61
  clear g1 g2 g3 g4 g5 g6 F0 Z0 Y0 hr hn hc hv2 hb0 hzz hr2 hz2 hzs a3 a2 a1 ht a4 hsm hwd a6 hy6
  conv => arg 2; whnf
  go_wp2_with fail
  refine HN2.out.mono ?_
  rintro e w' ⟨rfl, rfl⟩
  go_wp2_with fail
  refine HSU.out.mono ?_
  rintro e w' ⟨rfl, rfl⟩
  go_wp2_with fail
  refine HN6.out.mono ?_
  rintro e w' ⟨rfl, rfl⟩
  go_wp2_with fail
  obtain ⟨z0, z1, z2, z3, z4, z5, z6, z7, z8, z9⟩ := blk10 (set10 Z.out (.int .u8 0) (.int .u16 0) (.bool false) (.bool false) (.int .i64 0) (.int .u8 0) (.int .u8 0) (.int .u32 0) (.int .u32 0) (.slice none 0 0))
  refine bodyPost_ret (v := .tuple #[.agg #[.int .u8 0, .int .u16 0, .bool false, .bool false, .int .i64 0, .int .u8 0, .int .u8 0, .int .u32 0, .int .u32 0, .slice none 0 0], .int .i64 0, .int .i64 0, .int .i64 55]) (by simp [results, Try.results29, go_sem, z0, z1, z2, z3, z4, z5, z6, z7, z8, z9]) rfl ⟨rfl, frm10 F.out (fun h => absurd h (by omega)) _ _ _ _ _ _ _ _ _ _⟩
end Go.Proofs.Ytcclneaabnpbkaa

/- Rs -/
namespace Go.Proofs.Ytcclneaabnpbkaa
open Go.RowKit
attribute [local go_sem] undef

theorem take_two {bs : List UInt8} (i : Nat) (h : i + 1 < bs.length) : (bs.take (i + 2)).drop i = [bs[i], bs[i + 1]] := by
  apply List.ext_getElem
  · simp; omega
  · intro k h1 h2
    simp at h2
    have h3 : k = 0 ∨ k = 1 := by omega
    rcases h3 with rfl | rfl <;> simp

theorem num2c (w : World) (g i c : Nat) (x y : UInt8) (c0 : w.cell? ⟨g, i, none⟩ = some (.int .u8 (x.toNat : Int))) (c1 : w.cell? ⟨g, i + 1, none⟩ = some (.int .u8 (y.toNat : Int))) (v : Nat) (hv : v = word x y) :
    Calls Try.prog 49 #[.slice (some ⟨g, i, none⟩) 2 c] w fun e w' => e = .returned (.int .i64 (v : Int)) ∧ w = w' := by
  refine num2 w ⟨g, i, none⟩ c [x, y] rfl ?_ v hv
  intro _
  refine ⟨_, rfl, fun j u hu => ?_⟩
  have hj : j = 0 ∨ j = 1 := by
    have := (List.getElem?_eq_some_iff.1 hu).1
    simp [byts] at this
    omega
  rcases hj with rfl | rfl
  · simp [byts] at hu
    subst hu
    exact c0
  · simp [byts] at hu
    subst hu
    exact c1

set_option maxRecDepth 100000 in
set_option maxHeartbeats 4000000 in
theorem ref_ok_17 (Q : Exit → Act → World → Prop) (W : World) (u1 u3 u4 u5 u10 u11 u12 u13 u14 u15 u16 u17 u18 u19 u20 u21 u22 u23 u24 u25 u26 u27 u28 u29 u30 u31 u32 u33 u34 u35 u36 u37 u38 u39 u40 u41 u42 u43 u44 u45 u46 u47 u48 u49 u50 u51 u52 u53 u54 u55 u56 u57 u58 u59 u60 u61 u62 u63 u64 u65 u66 u67 u68 u69 u70 u71 u72 u73 u74 u75 u76 u77 u78 u79 u80 u81 u82 u83 u84 u85 u86 u87 u88 u89 u90 u91 u92 u93 u94 u95 u96 u97 u98 u99 u100 u101 u102 u103 u104 u105 u106 u107 u108 u109 u110 u111 u112 u113 u114 u115 u116 u117 u118 : Value) (ad : Addr) (n c rb hb z t wd : Nat) (bs : List UInt8) (K : Act → World → Prop) (hK : ∀ a W, Code.wp Try.prog (dropS 12 B29) Q a W → K a W)
    (hn : bs.length = n) (hc : n ≤ c) (h4 : n ≤ 400) (n20 : 20 ≤ n) (hr : Rds W (some ad) bs) (Y0 : Blk W hb 54 #[.int .u8 0, .int .u16 0, .bool false, .bool false, .int .i64 0, .int .u8 0, .int .u8 0, .int .u32 0, .int .u32 0, .slice none 0 0]) (hwd : wordAt bs 6 = wd) (hadb : ad.block ≠ hb)
    (v1 id : Nat) (df mf : Bool) (off : Nat) (hv1 : byteAt bs 1 = v1) (hid : wordAt bs 4 = id) (hdf : dfAt bs = df) (hmf : mfAt bs = mf) (hoff : offAt bs = off)
    (hnext : ∀ (y1 y3 y4 y5 y10 y11 y12 y13 y14 y15 y16 y17 y18 y19 y20 y21 y22 y23 y24 y25 y26 y27 y28 y29 y30 y31 y32 y33 y34 y35 y36 y37 y38 y39 y40 y41 y42 y43 y44 y45 y46 y47 y48 y49 y50 y51 y52 y53 y54 y55 y56 y57 y58 y59 y60 y61 y62 y63 y64 y65 y66 y67 y68 y69 y70 y71 y72 y73 y74 y75 y76 y77 y78 y79 y80 y81 y82 y83 y84 y85 y86 y87 y88 y89 y90 y91 y92 y93 y94 y95 y96 y97 y98 y99 y100 y101 y102 y103 y104 y105 y106 y107 y108 y109 y110 y111 y112 y113 y114 y115 y116 y117 y118 : Value) (W1 : World), Frm (One hb) W W1 → Blk W1 hb 54 #[.int .u8 (v1 : Int), .int .u16 (id : Int), .bool df, .bool mf, .int .i64 (off : Int), .int .u8 0, .int .u8 0, .int .u32 0, .int .u32 0, .slice none 0 0] → Code.wp Try.prog (dropS 12 B29) Q ⟨#[.slice (some ad) n c, y1, .pointer (some ⟨rb, 0, none⟩), y3, y4, y5, .pointer (some ⟨hb, 0, none⟩), .int .i64 (z : Int), .int .i64 (t : Int), .int .i64 (wd : Int), y10, y11, y12, y13, y14, y15, y16, y17, y18, y19, y20, y21, y22, y23, y24, y25, y26, y27, y28, y29, y30, y31, y32, y33, y34, y35, y36, y37, y38, y39, y40, y41, y42, y43, y44, y45, y46, y47, y48, y49, y50, y51, y52, y53, y54, y55, y56, y57, y58, y59, y60, y61, y62, y63, y64, y65, y66, y67, y68, y69, y70, y71, y72, y73, y74, y75, y76, y77, y78, y79, y80, y81, y82, y83, y84, y85, y86, y87, y88, y89, y90, y91, y92, y93, y94, y95, y96, y97, y98, y99, y100, y101, y102, y103, y104, y105, y106, y107, y108, y109, y110, y111, y112, y113, y114, y115, y116, y117, y118], []⟩ W1) :
    Code.wp Try.prog (headS (dropS 11 B29)) (Exit.then K Q) ⟨#[.slice (some ad) n c, u1, .pointer (some ⟨rb, 0, none⟩), u3, u4, u5, .pointer (some ⟨hb, 0, none⟩), .int .i64 (z : Int), .int .i64 (t : Int), .int .i64 (wd : Int), u10, u11, u12, u13, u14, u15, u16, u17, u18, u19, u20, u21, u22, u23, u24, u25, u26, u27, u28, u29, u30, u31, u32, u33, u34, u35, u36, u37, u38, u39, u40, u41, u42, u43, u44, u45, u46, u47, u48, u49, u50, u51, u52, u53, u54, u55, u56, u57, u58, u59, u60, u61, u62, u63, u64, u65, u66, u67, u68, u69, u70, u71, u72, u73, u74, u75, u76, u77, u78, u79, u80, u81, u82, u83, u84, u85, u86, u87, u88, u89, u90, u91, u92, u93, u94, u95, u96, u97, u98, u99, u100, u101, u102, u103, u104, u105, u106, u107, u108, u109, u110, u111, u112, u113, u114, u115, u116, u117, u118], []⟩ W := by
  have r1 : W.cell? ⟨ad.block, ad.off + 1, none⟩ = some (.int .u8 (byteAt bs 1 : Int)) := by
    obtain ⟨a', h1, h2⟩ := hr.byte (k := 1) (by omega)
    injection h1 with h1
    subst h1
    exact h2
  rw [hv1] at r1
  have c4 : ¬ c = 4 := by omega
  have c6 : (6 : Int) ≤ c := by omega
  have n1 : (1 : Int) < n := by omega
  have r4 : W.cell? ⟨ad.block, ad.off + 4, none⟩ = some (.int .u8 (bs[4].toNat : Int)) := by
    obtain ⟨a', h1, h2⟩ := hr.at_ (k := 4) (by omega)
    injection h1 with h1
    subst h1
    exact h2
  have r5 : W.cell? ⟨ad.block, ad.off + 5, none⟩ = some (.int .u8 (bs[5].toNat : Int)) := by
    obtain ⟨a', h1, h2⟩ := hr.at_ (k := 5) (by omega)
    injection h1 with h1
    subst h1
    exact h2
  obtain ⟨x4, hx4⟩ : ∃ x, bs[4] = x := ⟨_, rfl⟩
  obtain ⟨x5, hx5⟩ : ∃ x, bs[5] = x := ⟨_, rfl⟩
  rw [hx4] at r4
  rw [hx5] at r5
  have hw4 : wordAt bs 4 = word x4 x5 := by rw [wordAt_at (by omega), hx4, hx5]
  have hidl : id < 65536 := by rw [← hid]; exact wordAt_lt _ _
  rw [hid] at hw4
  have HN4 := Lib.hid (fun W' c0 c1 => num2c W' ad.block (ad.off + 4) (c - 4) x4 x5 c0 c1 id hw4)
  have wi : IntKind.u16.wrap (id : Int) = id := by have e : IntKind.u16.wrap (id : Int) = (id : Int) % 65536 := rfl; rw [e]; omega
  have hwl : wd < 65536 := by rw [← hwd]; exact wordAt_lt _ _
  obtain ⟨a1, ha1, ha2⟩ : ∃ v : Nat, (wd : Int) / 16384 = (v : Int) ∧ v = wd / 16384 := ⟨wd / 16384, by omega, rfl⟩
  obtain ⟨a3, ha3, ha4⟩ : ∃ v : Nat, (a1 : Int) % 2 = (v : Int) ∧ v = a1 % 2 := ⟨a1 % 2, by omega, rfl⟩
  have ha5 : ((a3 : Int) == 1) = df := by rw [← hdf]; unfold dfAt; rw [hwd]; by_cases h : wd / 16384 % 2 = 1 <;> simp [h] <;> omega
  obtain ⟨b1, hb1, hb2⟩ : ∃ v : Nat, (wd : Int) / 8192 = (v : Int) ∧ v = wd / 8192 := ⟨wd / 8192, by omega, rfl⟩
  obtain ⟨b3, hb3, hb4⟩ : ∃ v : Nat, (b1 : Int) % 2 = (v : Int) ∧ v = b1 % 2 := ⟨b1 % 2, by omega, rfl⟩
  have hb5 : ((b3 : Int) == 1) = mf := by rw [← hmf]; unfold mfAt; rw [hwd]; by_cases h : wd / 8192 % 2 = 1 <;> simp [h] <;> omega
  obtain ⟨d1, hd1, hd2⟩ : ∃ v : Nat, (wd : Int) % 8192 = (v : Int) ∧ v = wd % 8192 := ⟨wd % 8192, by omega, rfl⟩
  have ho1 : IntKind.i64.wrap ((d1 : Int) * 8) = (off : Int) := by
    have h2 : off = d1 * 8 := by rw [← hoff]; unfold offAt; rw [hwd]; omega
    rw [IntWalk.i64_in] <;> omega
  have k1 : IntKind.i64.wrap (a1 : Int) = a1 := by rw [IntWalk.i64_in] <;> omega
  have k2 : (a1 : Int).tmod 2 = (a3 : Int) := by rw [Int.tmod_eq_emod_of_nonneg (by omega), ha3]
  have k3 : IntKind.i64.wrap (b1 : Int) = b1 := by rw [IntWalk.i64_in] <;> omega
  have k4 : (b1 : Int).tmod 2 = (b3 : Int) := by rw [Int.tmod_eq_emod_of_nonneg (by omega), hb3]
  have k5 : (wd : Int).tmod 8192 = (d1 : Int) := by rw [Int.tmod_eq_emod_of_nonneg (by omega), hd1]
  have zf := Y0.frozen
  have zf0 := zf 0
  have zf1 := zf 1
  have zf2 := zf 2
  have zf3 := zf 3
  have zf4 := zf 4
  obtain ⟨o0, o1, o2, o3, o4, o5, o6, o7, o8, o9⟩ := blk10 Y0
  have HK := Lib.hid hK
  have HNX := Lib.hid hnext
  obtain ⟨W1, hW1⟩ : ∃ W1, W1 = (((((W.setCell ⟨hb, 0, none⟩ (.int .u8 (v1 : Int))).setCell ⟨hb, 1, none⟩ (.int .u16 (id : Int))).setCell ⟨hb, 2, none⟩ (.bool df)).setCell ⟨hb, 3, none⟩ (.bool mf)).setCell ⟨hb, 4, none⟩ (.int .i64 (off : Int))).drew := ⟨_, rfl⟩
  have F1 : Hid (Frm (One hb) W W1) := by show Frm _ W W1; rw [hW1]; exact ((((((Frm.refl (One hb) W).set1 0 _).set1 1 _).set1 2 _).set1 3 _).set1 4 _).drew
  have B1 : Hid (Blk W1 hb 54 #[.int .u8 (v1 : Int), .int .u16 (id : Int), .bool df, .bool mf, .int .i64 (off : Int), .int .u8 0, .int .u8 0, .int .u32 0, .int .u32 0, .slice none 0 0]) := by show Blk W1 _ _ _; rw [hW1]; exact ((((Y0.set_ 0 _).set_ 1 _).set_ 2 _).set_ 3 _).set_ 4 _
  clear zf Y0 hr hK hwd hv1 hid hw4 hx4 hx5 hn hc ha2 ha4 hdf hb2 hb4 hmf hd2 hoff hnext
  conv => arg 2; whnf
  have hne : ¬ ad.block = hb := hadb
  have hne2 : ¬ hb = ad.block := fun h => hadb h.symm
  go_region_held3 (fun W' => W'.cell? ⟨ad.block, ad.off + 1, none⟩ = some (.int .u8 (v1 : Int)) ∧ W'.cell? ⟨ad.block, ad.off + 4, none⟩ = some (.int .u8 (x4.toNat : Int)) ∧ W'.cell? ⟨ad.block, ad.off + 5, none⟩ = some (.int .u8 (x5.toNat : Int))) (go_keep)
    (first | (go_at_call 49; (with_reducible refine (HN4.out _ ?_ ?_).mono ?_); assumption; assumption; rintro e w1 ⟨rfl, rfl⟩))
  rw [← hW1]
  have hKK := HK.out
  show K _ _
  refine hKK _ _ ?_
  exact HNX.out _ _ _ _ _ _ _ _ _ _ _ _ _ _ _ _ _ _ _ _ _ _ _ _ _ _ _ _ _ _ _ _ _ _ _ _ _ _ _ _ _ _ _ _ _ _ _ _ _ _ _ _ _ _ _ _ _ _ _ _ _ _ _ _ _ _ _ _ _ _ _ _ _ _ _ _ _ _ _ _ _ _ _ _ _ _ _ _ _ _ _ _ _ _ _ _ _ _ _ _ _ _ _ _ _ _ _ _ _ _ _ _ _ W1 F1.out B1.out
end Go.Proofs.Ytcclneaabnpbkaa

/- Rt -/
namespace Go.Proofs.Ytcclneaabnpbkaa
open Go.RowKit
attribute [local go_sem] undef

theorem num4c (w : World) (g i c : Nat) (x y u v : UInt8) (c0 : w.cell? ⟨g, i, none⟩ = some (.int .u8 (x.toNat : Int))) (c1 : w.cell? ⟨g, i + 1, none⟩ = some (.int .u8 (y.toNat : Int))) (c2 : w.cell? ⟨g, i + 2, none⟩ = some (.int .u8 (u.toNat : Int))) (c3 : w.cell? ⟨g, i + 3, none⟩ = some (.int .u8 (v.toNat : Int))) (r : Nat) (hr : r = word x y * 65536 + word u v) :
    Calls Try.prog 49 #[.slice (some ⟨g, i, none⟩) 4 c] w fun e w' => e = .returned (.int .i64 (r : Int)) ∧ w = w' := by
  refine num4 w ⟨g, i, none⟩ c [x, y, u, v] rfl ?_ r hr
  intro _
  refine ⟨_, rfl, fun j a ha => ?_⟩
  have hj : j = 0 ∨ j = 1 ∨ j = 2 ∨ j = 3 := by
    have := (List.getElem?_eq_some_iff.1 ha).1
    simp [byts] at this
    omega
  rcases hj with rfl | rfl | rfl | rfl <;> (simp [byts] at ha; subst ha)
  · exact c0
  · exact c1
  · exact c2
  · exact c3

set_option maxRecDepth 100000 in
set_option maxHeartbeats 4000000 in
theorem ref_ok_18 (Q : Exit → Act → World → Prop) (W : World) (u1 u3 u4 u5 u10 u11 u12 u13 u14 u15 u16 u17 u18 u19 u20 u21 u22 u23 u24 u25 u26 u27 u28 u29 u30 u31 u32 u33 u34 u35 u36 u37 u38 u39 u40 u41 u42 u43 u44 u45 u46 u47 u48 u49 u50 u51 u52 u53 u54 u55 u56 u57 u58 u59 u60 u61 u62 u63 u64 u65 u66 u67 u68 u69 u70 u71 u72 u73 u74 u75 u76 u77 u78 u79 u80 u81 u82 u83 u84 u85 u86 u87 u88 u89 u90 u91 u92 u93 u94 u95 u96 u97 u98 u99 u100 u101 u102 u103 u104 u105 u106 u107 u108 u109 u110 u111 u112 u113 u114 u115 u116 u117 u118 : Value) (ad : Addr) (n c rb hb z t wd : Nat) (bs : List UInt8) (K : Act → World → Prop) (hK : ∀ a W, Code.wp Try.prog (dropS 13 B29) Q a W → K a W)
    (hn : bs.length = n) (hc : n ≤ c) (n20 : 20 ≤ n) (hr : Rds W (some ad) bs) (v1 id : Nat) (df mf : Bool) (off : Nat) (Y0 : Blk W hb 54 #[.int .u8 (v1 : Int), .int .u16 (id : Int), .bool df, .bool mf, .int .i64 (off : Int), .int .u8 0, .int .u8 0, .int .u32 0, .int .u32 0, .slice none 0 0]) (hadb : ad.block ≠ hb)
    (x8 x9 x12 x13 x14 x15 x16 x17 x18 x19 : UInt8) (hh8 : bs.getD 8 0 = x8) (hh9 : bs.getD 9 0 = x9) (hh12 : bs.getD 12 0 = x12) (hh13 : bs.getD 13 0 = x13) (hh14 : bs.getD 14 0 = x14) (hh15 : bs.getD 15 0 = x15) (hh16 : bs.getD 16 0 = x16) (hh17 : bs.getD 17 0 = x17) (hh18 : bs.getD 18 0 = x18) (hh19 : bs.getD 19 0 = x19) (src dst : Nat) (hsrc : src = word x12 x13 * 65536 + word x14 x15) (hdst : dst = word x16 x17 * 65536 + word x18 x19)
    (hnext : ∀ (y1 y3 y4 y5 y10 y11 y12 y13 y14 y15 y16 y17 y18 y19 y20 y21 y22 y23 y24 y25 y26 y27 y28 y29 y30 y31 y32 y33 y34 y35 y36 y37 y38 y39 y40 y41 y42 y43 y44 y45 y46 y47 y48 y49 y50 y51 y52 y53 y54 y55 y56 y57 y58 y59 y60 y61 y62 y63 y64 y65 y66 y67 y68 y69 y70 y71 y72 y73 y74 y75 y76 y77 y78 y79 y80 y81 y82 y83 y84 y85 y86 y87 y88 y89 y90 y91 y92 y93 y94 y95 y96 y97 y98 y99 y100 y101 y102 y103 y104 y105 y106 y107 y108 y109 y110 y111 y112 y113 y114 y115 y116 y117 y118 : Value) (W1 : World), Frm (One hb) W W1 → Blk W1 hb 54 #[.int .u8 (v1 : Int), .int .u16 (id : Int), .bool df, .bool mf, .int .i64 (off : Int), .int .u8 (x8.toNat : Int), .int .u8 (x9.toNat : Int), .int .u32 (src : Int), .int .u32 (dst : Int), .slice none 0 0] → Code.wp Try.prog (dropS 13 B29) Q ⟨#[.slice (some ad) n c, y1, .pointer (some ⟨rb, 0, none⟩), y3, y4, y5, .pointer (some ⟨hb, 0, none⟩), .int .i64 (z : Int), .int .i64 (t : Int), .int .i64 (wd : Int), y10, y11, y12, y13, y14, y15, y16, y17, y18, y19, y20, y21, y22, y23, y24, y25, y26, y27, y28, y29, y30, y31, y32, y33, y34, y35, y36, y37, y38, y39, y40, y41, y42, y43, y44, y45, y46, y47, y48, y49, y50, y51, y52, y53, y54, y55, y56, y57, y58, y59, y60, y61, y62, y63, y64, y65, y66, y67, y68, y69, y70, y71, y72, y73, y74, y75, y76, y77, y78, y79, y80, y81, y82, y83, y84, y85, y86, y87, y88, y89, y90, y91, y92, y93, y94, y95, y96, y97, y98, y99, y100, y101, y102, y103, y104, y105, y106, y107, y108, y109, y110, y111, y112, y113, y114, y115, y116, y117, y118], []⟩ W1) :
    Code.wp Try.prog (headS (dropS 12 B29)) (Exit.then K Q) ⟨#[.slice (some ad) n c, u1, .pointer (some ⟨rb, 0, none⟩), u3, u4, u5, .pointer (some ⟨hb, 0, none⟩), .int .i64 (z : Int), .int .i64 (t : Int), .int .i64 (wd : Int), u10, u11, u12, u13, u14, u15, u16, u17, u18, u19, u20, u21, u22, u23, u24, u25, u26, u27, u28, u29, u30, u31, u32, u33, u34, u35, u36, u37, u38, u39, u40, u41, u42, u43, u44, u45, u46, u47, u48, u49, u50, u51, u52, u53, u54, u55, u56, u57, u58, u59, u60, u61, u62, u63, u64, u65, u66, u67, u68, u69, u70, u71, u72, u73, u74, u75, u76, u77, u78, u79, u80, u81, u82, u83, u84, u85, u86, u87, u88, u89, u90, u91, u92, u93, u94, u95, u96, u97, u98, u99, u100, u101, u102, u103, u104, u105, u106, u107, u108, u109, u110, u111, u112, u113, u114, u115, u116, u117, u118], []⟩ W := by
  have r8 : W.cell? ⟨ad.block, ad.off + 8, none⟩ = some (.int .u8 (bs[8].toNat : Int)) := by
    obtain ⟨a', h1, h2⟩ := hr.at_ (k := 8) (by omega)
    injection h1 with h1
    subst h1
    exact h2
  have r9 : W.cell? ⟨ad.block, ad.off + 9, none⟩ = some (.int .u8 (bs[9].toNat : Int)) := by
    obtain ⟨a', h1, h2⟩ := hr.at_ (k := 9) (by omega)
    injection h1 with h1
    subst h1
    exact h2
  have r12 : W.cell? ⟨ad.block, ad.off + 12, none⟩ = some (.int .u8 (bs[12].toNat : Int)) := by
    obtain ⟨a', h1, h2⟩ := hr.at_ (k := 12) (by omega)
    injection h1 with h1
    subst h1
    exact h2
  have r13 : W.cell? ⟨ad.block, ad.off + 13, none⟩ = some (.int .u8 (bs[13].toNat : Int)) := by
    obtain ⟨a', h1, h2⟩ := hr.at_ (k := 13) (by omega)
    injection h1 with h1
    subst h1
    exact h2
  have r14 : W.cell? ⟨ad.block, ad.off + 14, none⟩ = some (.int .u8 (bs[14].toNat : Int)) := by
    obtain ⟨a', h1, h2⟩ := hr.at_ (k := 14) (by omega)
    injection h1 with h1
    subst h1
    exact h2
  have r15 : W.cell? ⟨ad.block, ad.off + 15, none⟩ = some (.int .u8 (bs[15].toNat : Int)) := by
    obtain ⟨a', h1, h2⟩ := hr.at_ (k := 15) (by omega)
    injection h1 with h1
    subst h1
    exact h2
  have r16 : W.cell? ⟨ad.block, ad.off + 16, none⟩ = some (.int .u8 (bs[16].toNat : Int)) := by
    obtain ⟨a', h1, h2⟩ := hr.at_ (k := 16) (by omega)
    injection h1 with h1
    subst h1
    exact h2
  have r17 : W.cell? ⟨ad.block, ad.off + 17, none⟩ = some (.int .u8 (bs[17].toNat : Int)) := by
    obtain ⟨a', h1, h2⟩ := hr.at_ (k := 17) (by omega)
    injection h1 with h1
    subst h1
    exact h2
  have r18 : W.cell? ⟨ad.block, ad.off + 18, none⟩ = some (.int .u8 (bs[18].toNat : Int)) := by
    obtain ⟨a', h1, h2⟩ := hr.at_ (k := 18) (by omega)
    injection h1 with h1
    subst h1
    exact h2
  have r19 : W.cell? ⟨ad.block, ad.off + 19, none⟩ = some (.int .u8 (bs[19].toNat : Int)) := by
    obtain ⟨a', h1, h2⟩ := hr.at_ (k := 19) (by omega)
    injection h1 with h1
    subst h1
    exact h2
  have hx8 : bs[8] = x8 := (getD_at (by omega)).symm.trans hh8
  rw [hx8] at r8
  have hx9 : bs[9] = x9 := (getD_at (by omega)).symm.trans hh9
  rw [hx9] at r9
  have hx12 : bs[12] = x12 := (getD_at (by omega)).symm.trans hh12
  rw [hx12] at r12
  have hx13 : bs[13] = x13 := (getD_at (by omega)).symm.trans hh13
  rw [hx13] at r13
  have hx14 : bs[14] = x14 := (getD_at (by omega)).symm.trans hh14
  rw [hx14] at r14
  have hx15 : bs[15] = x15 := (getD_at (by omega)).symm.trans hh15
  rw [hx15] at r15
  have hx16 : bs[16] = x16 := (getD_at (by omega)).symm.trans hh16
  rw [hx16] at r16
  have hx17 : bs[17] = x17 := (getD_at (by omega)).symm.trans hh17
  rw [hx17] at r17
  have hx18 : bs[18] = x18 := (getD_at (by omega)).symm.trans hh18
  rw [hx18] at r18
  have hx19 : bs[19] = x19 := (getD_at (by omega)).symm.trans hh19
  rw [hx19] at r19
  have ls : src < 4294967296 := by have := word_lt x12 x13; have := word_lt x14 x15; omega
  have ld : dst < 4294967296 := by have := word_lt x16 x17; have := word_lt x18 x19; omega
  have ws : IntKind.u32.wrap (src : Int) = src := by have e : IntKind.u32.wrap (src : Int) = (src : Int) % 4294967296 := rfl; rw [e]; omega
  have wd' : IntKind.u32.wrap (dst : Int) = dst := by have e : IntKind.u32.wrap (dst : Int) = (dst : Int) % 4294967296 := rfl; rw [e]; omega
  have HS := Lib.hid (fun W' c0 c1 c2 c3 => num4c W' ad.block (ad.off + 12) (c - 12) x12 x13 x14 x15 c0 c1 c2 c3 src hsrc)
  have HD := Lib.hid (fun W' c0 c1 c2 c3 => num4c W' ad.block (ad.off + 16) (c - 16) x16 x17 x18 x19 c0 c1 c2 c3 dst hdst)
  have c12 : ¬ c = 12 := by omega
  have c16 : ¬ c = 16 := by omega
  have c16' : (16 : Int) ≤ c := by omega
  have c20 : (20 : Int) ≤ c := by omega
  have n8 : (8 : Int) < n := by omega
  have n9 : (9 : Int) < n := by omega
  have hne : ¬ ad.block = hb := hadb
  have hne2 : ¬ hb = ad.block := fun h => hadb h.symm
  have zf := Y0.frozen
  have zf5 := zf 5
  have zf6 := zf 6
  have zf7 := zf 7
  have zf8 := zf 8
  have HK := Lib.hid hK
  have HNX := Lib.hid hnext
  obtain ⟨W1, hW1⟩ : ∃ W1, W1 = ((((W.setCell ⟨hb, 5, none⟩ (.int .u8 (x8.toNat : Int))).setCell ⟨hb, 6, none⟩ (.int .u8 (x9.toNat : Int))).setCell ⟨hb, 7, none⟩ (.int .u32 (src : Int))).setCell ⟨hb, 8, none⟩ (.int .u32 (dst : Int))).drew := ⟨_, rfl⟩
  have F1 : Hid (Frm (One hb) W W1) := by show Frm _ W W1; rw [hW1]; exact (((((Frm.refl (One hb) W).set1 5 _).set1 6 _).set1 7 _).set1 8 _).drew
  have B1 : Hid (Blk W1 hb 54 #[.int .u8 (v1 : Int), .int .u16 (id : Int), .bool df, .bool mf, .int .i64 (off : Int), .int .u8 (x8.toNat : Int), .int .u8 (x9.toNat : Int), .int .u32 (src : Int), .int .u32 (dst : Int), .slice none 0 0]) := by show Blk W1 _ _ _; rw [hW1]; exact (((Y0.set_ 5 _).set_ 6 _).set_ 7 _).set_ 8 _
  obtain ⟨o0, o1, o2, o3, o4, o5, o6, o7, o8, o9⟩ := blk10 Y0
  clear zf Y0 hr hn hc hK hnext hsrc hdst ls ld n20 hx8 hh8 hx9 hh9 hx12 hh12 hx13 hh13 hx14 hh14 hx15 hh15 hx16 hh16 hx17 hh17 hx18 hh18 hx19 hh19
  conv => arg 2; whnf
  go_region_held3 (fun W' => W'.cell? ⟨ad.block, ad.off + 8, none⟩ = some (.int .u8 (x8.toNat : Int)) ∧ W'.cell? ⟨ad.block, ad.off + 9, none⟩ = some (.int .u8 (x9.toNat : Int)) ∧ W'.cell? ⟨ad.block, ad.off + 12, none⟩ = some (.int .u8 (x12.toNat : Int)) ∧ W'.cell? ⟨ad.block, ad.off + 13, none⟩ = some (.int .u8 (x13.toNat : Int)) ∧ W'.cell? ⟨ad.block, ad.off + 14, none⟩ = some (.int .u8 (x14.toNat : Int)) ∧ W'.cell? ⟨ad.block, ad.off + 15, none⟩ = some (.int .u8 (x15.toNat : Int)) ∧ W'.cell? ⟨ad.block, ad.off + 16, none⟩ = some (.int .u8 (x16.toNat : Int)) ∧ W'.cell? ⟨ad.block, ad.off + 17, none⟩ = some (.int .u8 (x17.toNat : Int)) ∧ W'.cell? ⟨ad.block, ad.off + 18, none⟩ = some (.int .u8 (x18.toNat : Int)) ∧ W'.cell? ⟨ad.block, ad.off + 19, none⟩ = some (.int .u8 (x19.toNat : Int))) (go_keep)
    (first | (go_at_call 49; (with_reducible refine (HS.out _ ?_ ?_ ?_ ?_).mono ?_); assumption; assumption; assumption; assumption; rintro e w1 ⟨rfl, rfl⟩) | (go_at_call 49; (with_reducible refine (HD.out _ ?_ ?_ ?_ ?_).mono ?_); assumption; assumption; assumption; assumption; rintro e w1 ⟨rfl, rfl⟩))
  rw [← hW1]
  have hKK := HK.out
  show K _ _
  refine hKK _ _ ?_
  exact HNX.out _ _ _ _ _ _ _ _ _ _ _ _ _ _ _ _ _ _ _ _ _ _ _ _ _ _ _ _ _ _ _ _ _ _ _ _ _ _ _ _ _ _ _ _ _ _ _ _ _ _ _ _ _ _ _ _ _ _ _ _ _ _ _ _ _ _ _ _ _ _ _ _ _ _ _ _ _ _ _ _ _ _ _ _ _ _ _ _ _ _ _ _ _ _ _ _ _ _ _ _ _ _ _ _ _ _ _ _ _ _ _ _ _ W1 F1.out B1.out
end Go.Proofs.Ytcclneaabnpbkaa

/- Ru -/
namespace Go.Proofs.Ytcclneaabnpbkaa
open Go.RowKit
attribute [local go_sem] undef

set_option maxRecDepth 100000 in
set_option maxHeartbeats 4000000 in
theorem ref_ok_19 (PQ : Ending → World → Prop) (W : World) (u1 u3 u4 u5 u9 u10 u11 u12 u13 u14 u15 u16 u17 u18 u19 u20 u21 u22 u23 u24 u25 u26 u27 u28 u29 u30 u31 u32 u33 u34 u35 u36 u37 u38 u39 u40 u41 u42 u43 u44 u45 u46 u47 u48 u49 u50 u51 u52 u53 u54 u55 u56 u57 u58 u59 u60 u61 u62 u63 u64 u65 u66 u67 u68 u69 u70 u71 u72 u73 u74 u75 u76 u77 u78 u79 u80 u81 u82 u83 u84 u85 u86 u87 u88 u89 u90 u91 u92 u93 u94 u95 u96 u97 u98 u99 u100 u101 u102 u103 u104 u105 u106 u107 u108 u109 u110 u111 u112 u113 u114 u115 u116 u117 u118 : Value) (y0 y1 y2 y3 y4 y5 y6 y7 y8 : Value) (ad : Addr) (n c rb hb z t : Nat) (bs : List UInt8) (K : Act → World → Prop) (hK : ∀ a W, Code.wp Try.prog (dropS 14 B29) (bodyPost Try.prog Try.f29 PQ) a W → K a W)
    (hn : bs.length = n) (hc : n ≤ c) (z20 : 20 ≤ z) (zn : z ≤ n) (h4 : n ≤ 400) (hr : Rds W (some ad) bs) (Y0 : Blk W hb 54 #[y0, y1, y2, y3, y4, y5, y6, y7, y8, .slice none 0 0]) (hadb : ad.block ≠ hb)
    (hnext : ∀ (v1 v3 v4 v5 v9 v10 v11 v12 v13 v14 v15 v16 v17 v18 v19 v20 v21 v22 v23 v24 v25 v26 v27 v28 v29 v30 v31 v32 v33 v34 v35 v36 v37 v38 v39 v40 v41 v42 v43 v44 v45 v46 v47 v48 v49 v50 v51 v52 v53 v54 v55 v56 v57 v58 v59 v60 v61 v62 v63 v64 v65 v66 v67 v68 v69 v70 v71 v72 v73 v74 v75 v76 v77 v78 v79 v80 v81 v82 v83 v84 v85 v86 v87 v88 v89 v90 v91 v92 v93 v94 v95 v96 v97 v98 v99 v100 v101 v102 v103 v104 v105 v106 v107 v108 v109 v110 v111 v112 v113 v114 v115 v116 v117 v118 : Value) (W1 : World) (A' : Option Addr) (c' : Nat), Frm (One hb) W W1 → Blk W1 hb 54 #[y0, y1, y2, y3, y4, y5, y6, y7, y8, (.slice A' (z - 20) c')] → W1.ownsRow W.heap.size 5 1 (.slice A' (z - 20) c') (z - 20) (byts ((bs.take z).drop 20)) → Code.wp Try.prog (dropS 14 B29) (bodyPost Try.prog Try.f29 PQ) ⟨#[.slice (some ad) n c, v1, .pointer (some ⟨rb, 0, none⟩), v3, v4, v5, .pointer (some ⟨hb, 0, none⟩), .int .i64 (z : Int), .int .i64 (t : Int), v9, v10, v11, v12, v13, v14, v15, v16, v17, v18, v19, v20, v21, v22, v23, v24, v25, v26, v27, v28, v29, v30, v31, v32, v33, v34, v35, v36, v37, v38, v39, v40, v41, v42, v43, v44, v45, v46, v47, v48, v49, v50, v51, v52, v53, v54, v55, v56, v57, v58, v59, v60, v61, v62, v63, v64, v65, v66, v67, v68, v69, v70, v71, v72, v73, v74, v75, v76, v77, v78, v79, v80, v81, v82, v83, v84, v85, v86, v87, v88, v89, v90, v91, v92, v93, v94, v95, v96, v97, v98, v99, v100, v101, v102, v103, v104, v105, v106, v107, v108, v109, v110, v111, v112, v113, v114, v115, v116, v117, v118], []⟩ W1) :
    Code.wp Try.prog (headS (dropS 13 B29)) (Exit.then K (bodyPost Try.prog Try.f29 PQ)) ⟨#[.slice (some ad) n c, u1, .pointer (some ⟨rb, 0, none⟩), u3, u4, u5, .pointer (some ⟨hb, 0, none⟩), .int .i64 (z : Int), .int .i64 (t : Int), u9, u10, u11, u12, u13, u14, u15, u16, u17, u18, u19, u20, u21, u22, u23, u24, u25, u26, u27, u28, u29, u30, u31, u32, u33, u34, u35, u36, u37, u38, u39, u40, u41, u42, u43, u44, u45, u46, u47, u48, u49, u50, u51, u52, u53, u54, u55, u56, u57, u58, u59, u60, u61, u62, u63, u64, u65, u66, u67, u68, u69, u70, u71, u72, u73, u74, u75, u76, u77, u78, u79, u80, u81, u82, u83, u84, u85, u86, u87, u88, u89, u90, u91, u92, u93, u94, u95, u96, u97, u98, u99, u100, u101, u102, u103, u104, u105, u106, u107, u108, u109, u110, u111, u112, u113, u114, u115, u116, u117, u118], []⟩ W := by
  have zc : (z : Int) ≤ c := by omega
  have z0i : (20 : Int) ≤ z := by omega
  obtain ⟨o, ho⟩ : ∃ o, z - 20 = o := ⟨_, rfl⟩
  have hl : ((bs.take z).drop 20).length = o := by simp; omega
  obtain ⟨ab, hab⟩ : ∃ a, (if c = 20 then some ad else some ⟨ad.block, ad.off + 20, none⟩) = some a := by split <;> exact ⟨_, rfl⟩
  have RO := Lib.hid ((hr.take z).drop 20 c (by rw [List.length_take]; omega) (some ab) (by rw [← hab]; rfl))
  obtain ⟨os, hos⟩ : ∃ q, (bs.take z).drop 20 = q := ⟨_, rfl⟩
  rw [hos] at RO hl hnext
  rw [ho] at hnext
  have HLO := Lib.hid hl
  have HOZ := Lib.hid ho
  have OW : Hid (W.drew.ownsRow W.heap.size 5 1 (.slice none 0 0) 0 (byts [])) := ⟨by simp [byts], .inl ⟨rfl, rfl⟩⟩
  have zf9 := Y0.frozen 9
  have Y := Lib.hid Y0
  have HK := Lib.hid hK
  have HNX := Lib.hid hnext
  have ob : o ≤ 400 := by omega
  obtain ⟨o0, o1, o2, o3, o4, o5, o6, o7, o8, o9⟩ := blk10 Y0
  have HAB := hab
  clear Y0 hr hn hK hnext hos hl
  conv => arg 2; whnf
  go_region_law (refine step_append_bytes rfl (.tmp 103) (.tmp 106) rfl W.heap.size (.slice none 0 0) 0 [] rfl (by exact OW.out) (some ab) o (c - 20) os (by rfl) HLO.out (by exact RO.out) (fun h => by cases h) (by omega) (by simp) ?_; intro V' w' hown hgr; obtain ⟨A', c', hv', -, -, -, -⟩ := own_form hown; subst hv'; have hf2 : Frm No W w' := ((Frm.refl No W).drew).trans (Frm.of_grown hgr) (fun _ _ h => by simp [Value.ownBlock] at h); have YB := Lib.hid (Y.out.frm hf2 (fun x => x)); have z9' := YB.out.frozen 9; have c9' := (blk10 YB.out).2.2.2.2.2.2.2.2.2; have FF := Lib.hid hf2; have OO := Lib.hid hown; clear hown hgr hf2)
  obtain ⟨W1, hW1⟩ : ∃ W1, W1 = w'.setCell ⟨hb, 9, none⟩ (.slice A' o c') := ⟨_, rfl⟩
  have e0 : 0 + o = o := Nat.zero_add o
  rw [← hW1]
  have f1 : Frm (One hb) W W1 := by rw [hW1]; exact ((FF.out).of_no (One hb)).set1 9 _
  have b1 : Blk W1 hb 54 #[y0, y1, y2, y3, y4, y5, y6, y7, y8, (.slice A' o c')] := by rw [hW1]; exact YB.out.set_ 9 _
  have w1 : W1.ownsRow W.heap.size 5 1 (.slice A' o c') o (byts os) := by
    have h1 := OO.out
    rw [e0, List.nil_append] at h1
    rw [hW1]
    refine ((Frm.refl (One hb) w').set1 9 _).own h1 (fun i hi h => ?_)
    have h2 : i = hb := h
    subst h2
    exact own_blk_ne h1 YB.out (by decide) hi
  have hKK := HK.out
  show K _ _
  refine hKK _ _ ?_
  exact HNX.out _ _ _ _ _ _ _ _ _ _ _ _ _ _ _ _ _ _ _ _ _ _ _ _ _ _ _ _ _ _ _ _ _ _ _ _ _ _ _ _ _ _ _ _ _ _ _ _ _ _ _ _ _ _ _ _ _ _ _ _ _ _ _ _ _ _ _ _ _ _ _ _ _ _ _ _ _ _ _ _ _ _ _ _ _ _ _ _ _ _ _ _ _ _ _ _ _ _ _ _ _ _ _ _ _ _ _ _ _ _ _ _ _ _ W1 A' c' f1 b1 w1
end Go.Proofs.Ytcclneaabnpbkaa

/- Rv -/
namespace Go.Proofs.Ytcclneaabnpbkaa
open Go.RowKit
attribute [local go_sem] undef

def RefOk (v1 id : Nat) (df mf : Bool) (off ttl pro src dst o z t : Nat) (os : List UInt8) (w : World) (e : Ending) (w' : World) : Prop :=
  ∃ A' c', e = .returned (.tuple #[.agg #[.int .u8 (v1 : Int), .int .u16 (id : Int), .bool df, .bool mf, .int .i64 (off : Int), .int .u8 (ttl : Int), .int .u8 (pro : Int), .int .u32 (src : Int), .int .u32 (dst : Int), .slice A' o c'], .int .i64 (z : Int), .int .i64 (t : Int), .int .i64 0]) ∧ w'.ownsRow w.heap.size 5 1 (.slice A' o c') o (byts os) ∧ Frm No w w'

set_option maxRecDepth 100000 in
set_option maxHeartbeats 4000000 in
theorem ref_end (w W : World) (PQ : Ending → World → Prop) (u1 u3 u4 u5 u9 u10 u11 u12 u13 u14 u15 u16 u17 u18 u19 u20 u21 u22 u23 u24 u25 u26 u27 u28 u29 u30 u31 u32 u33 u34 u35 u36 u37 u38 u39 u40 u41 u42 u43 u44 u45 u46 u47 u48 u49 u50 u51 u52 u53 u54 u55 u56 u57 u58 u59 u60 u61 u62 u63 u64 u65 u66 u67 u68 u69 u70 u71 u72 u73 u74 u75 u76 u77 u78 u79 u80 u81 u82 u83 u84 u85 u86 u87 u88 u89 u90 u91 u92 u93 u94 u95 u96 u97 u98 u99 u100 u101 u102 u103 u104 u105 u106 u107 u108 u109 u110 u111 u112 u113 u114 u115 u116 u117 u118 : Value) (ad : Addr) (n c rb hb z t : Nat) (v1 id : Nat) (df mf : Bool) (off ttl pro src dst : Nat) (A' : Option Addr) (o c' : Nat) (os : List UInt8) (r : Bool)
    (hz : z ≤ t) (ht : t ≤ 65535) (hoff : off ≤ 65528) (ho : o ≤ 400) (hr : rightB o (off : Int) mf ((t - z : Nat) : Int) = r) (hrb : w.heap.size ≤ rb) (hne : rb ≠ hb) (F0 : Frm No w W) (Z0 : Blk W rb 54 #[.int .u8 0, .int .u16 0, .bool false, .bool false, .int .i64 0, .int .u8 0, .int .u8 0, .int .u32 0, .int .u32 0, .slice none 0 0]) (Y0 : Blk W hb 54 #[.int .u8 (v1 : Int), .int .u16 (id : Int), .bool df, .bool mf, .int .i64 (off : Int), .int .u8 (ttl : Int), .int .u8 (pro : Int), .int .u32 (src : Int), .int .u32 (dst : Int), .slice A' o c']) (O0 : W.ownsRow w.heap.size 5 1 (.slice A' o c') o (byts os))
    (hyes : r = true → ∀ e w', RefOk v1 id df mf off ttl pro src dst o z t os w e w' → PQ e w') (hno : r = false → ∀ e w', ReadBad 56 w e w' → PQ e w') :
    Code.wp Try.prog (dropS 14 B29) (bodyPost Try.prog Try.f29 PQ) ⟨#[.slice (some ad) n c, u1, .pointer (some ⟨rb, 0, none⟩), u3, u4, u5, .pointer (some ⟨hb, 0, none⟩), .int .i64 (z : Int), .int .i64 (t : Int), u9, u10, u11, u12, u13, u14, u15, u16, u17, u18, u19, u20, u21, u22, u23, u24, u25, u26, u27, u28, u29, u30, u31, u32, u33, u34, u35, u36, u37, u38, u39, u40, u41, u42, u43, u44, u45, u46, u47, u48, u49, u50, u51, u52, u53, u54, u55, u56, u57, u58, u59, u60, u61, u62, u63, u64, u65, u66, u67, u68, u69, u70, u71, u72, u73, u74, u75, u76, u77, u78, u79, u80, u81, u82, u83, u84, u85, u86, u87, u88, u89, u90, u91, u92, u93, u94, u95, u96, u97, u98, u99, u100, u101, u102, u103, u104, u105, u106, u107, u108, u109, u110, u111, u112, u113, u114, u115, u116, u117, u118], []⟩ W := by
  have HR := Lib.hid (fun W' => ref_right W' (v1 : Int) (id : Int) (off : Int) (ttl : Int) (pro : Int) (src : Int) (dst : Int) df mf A' o c' ((t - z : Nat) : Int) (by omega) (by omega) (by omega))
  rw [hr] at HR
  obtain ⟨m, hm⟩ : ∃ m, t - z = m := ⟨_, rfl⟩
  rw [hm] at HR
  have hw : IntKind.i64.wrap ((t : Int) - z) = (m : Int) := by rw [IntWalk.i64_in] <;> omega
  have F := Lib.hid F0
  have Z := Lib.hid Z0
  have Y := Lib.hid Y0
  have O := Lib.hid O0
  have HY := Lib.hid hyes
  have HN := Lib.hid hno
  obtain ⟨i0, i1, i2, i3, i4, i5, i6, i7, i8, i9⟩ := blk10 Y0
  clear F0 Z0 Y0 O0 hyes hno hr hm
  conv => arg 2; whnf
  go_wp2_with fail
  refine (HR.out _).mono ?_
  rintro e w1 ⟨rfl, hf⟩
  have F1 := Lib.hid (F.out.new0 hf)
  have Z1 := Lib.hid (Z.out.frm hf (fun x => x))
  have Y1 := Lib.hid (Y.out.frm hf (fun x => x))
  have O1 := Lib.hid (hf.own O.out (fun _ _ x => x))
  clear hf F Z Y O HR i0 i1 i2 i3 i4 i5 i6 i7 i8 i9
  obtain ⟨i0, i1, i2, i3, i4, i5, i6, i7, i8, i9⟩ := blk10 Y1.out
  obtain ⟨o0, o1, o2, o3, o4, o5, o6, o7, o8, o9⟩ := blk10 Z1.out
  have zf := Z1.out.frozen
  have zf0 := zf 0
  have zf1 := zf 1
  have zf2 := zf 2
  have zf3 := zf 3
  have zf4 := zf 4
  have zf5 := zf 5
  have zf6 := zf 6
  have zf7 := zf 7
  have zf8 := zf 8
  have zf9 := zf 9
  clear zf
  cases r with
  | true =>
    go_wp2_with fail
    obtain ⟨z0, z1, z2, z3, z4, z5, z6, z7, z8, z9⟩ := blk10 (set10 Z1.out (.int .u8 (v1 : Int)) (.int .u16 (id : Int)) (.bool df) (.bool mf) (.int .i64 (off : Int)) (.int .u8 (ttl : Int)) (.int .u8 (pro : Int)) (.int .u32 (src : Int)) (.int .u32 (dst : Int)) (.slice A' o c'))
    refine bodyPost_ret (v := .tuple #[.agg #[.int .u8 (v1 : Int), .int .u16 (id : Int), .bool df, .bool mf, .int .i64 (off : Int), .int .u8 (ttl : Int), .int .u8 (pro : Int), .int .u32 (src : Int), .int .u32 (dst : Int), .slice A' o c'], .int .i64 (z : Int), .int .i64 (t : Int), .int .i64 0]) (by simp [results, Try.results29, go_sem, z0, z1, z2, z3, z4, z5, z6, z7, z8, z9]) rfl (HY.out (by trivial) _ _ ⟨A', c', rfl, ?_, frm10 F1.out (fun h => absurd h (by omega)) _ _ _ _ _ _ _ _ _ _⟩)
    exact (frm10 (S := One rb) (Frm.refl _ w1) (fun _ => rfl) _ _ _ _ _ _ _ _ _ _).own O1.out (fun i hi h => by have h2 : i = rb := h; subst h2; exact own_blk_ne O1.out Z1.out (by decide) hi)
  | false =>
    go_wp2_with fail
    obtain ⟨z0, z1, z2, z3, z4, z5, z6, z7, z8, z9⟩ := blk10 (set10 Z1.out (.int .u8 0) (.int .u16 0) (.bool false) (.bool false) (.int .i64 0) (.int .u8 0) (.int .u8 0) (.int .u32 0) (.int .u32 0) (.slice none 0 0))
    refine bodyPost_ret (v := .tuple #[.agg #[.int .u8 0, .int .u16 0, .bool false, .bool false, .int .i64 0, .int .u8 0, .int .u8 0, .int .u32 0, .int .u32 0, .slice none 0 0], .int .i64 0, .int .i64 0, .int .i64 56]) (by simp [results, Try.results29, go_sem, z0, z1, z2, z3, z4, z5, z6, z7, z8, z9]) rfl (HN.out (by trivial) _ _ ⟨rfl, frm10 F1.out (fun h => absurd h (by omega)) _ _ _ _ _ _ _ _ _ _⟩)
end Go.Proofs.Ytcclneaabnpbkaa

/- Rw -/
namespace Go.Proofs.Ytcclneaabnpbkaa
open Go.RowKit
attribute [local go_sem] undef

set_option maxRecDepth 100000 in
set_option maxHeartbeats 2000000 in
theorem ref_pass (W : World) (PQ : Ending → World → Prop) (z t wd : Nat) (u1 u3 u4 u5 u7 u8 u9 u10 u11 u12 u13 u14 u15 u16 u17 u18 u19 u20 u21 u22 u23 u24 u25 u26 u27 u28 u29 u30 u31 u32 u33 u34 u35 u36 u37 u38 u39 u40 u41 u42 u43 u44 u45 u46 u47 u48 u49 u50 u51 u52 u53 u54 u55 u56 u57 u58 u59 u60 u61 u62 u63 u64 u65 u66 u67 u68 u69 u70 u71 u72 u73 u74 u75 u76 u77 u78 u79 u80 u81 u82 u83 u84 u85 u86 u87 u88 u89 u90 u91 u92 u93 u94 u95 u96 u97 u98 u99 u100 u101 u102 u103 u104 u105 u106 u107 u108 u109 u110 u111 u112 u113 u114 u115 u116 u117 u118 : Value) (ad : Addr) (n c rb hb : Nat) (bs : List UInt8) (hn : bs.length = n) (hc : n ≤ c) (h4 : n ≤ 400) (hr : Rds W (some ad) bs) (Y0 : Blk W hb 54 #[.int .u8 0, .int .u16 0, .bool false, .bool false, .int .i64 0, .int .u8 0, .int .u8 0, .int .u32 0, .int .u32 0, .slice none 0 0])
    (g1 : q1 bs = false)
    (g2 : q2 bs = false)
    (g3 : q3 bs = false)
    (g4 : q4 bs = false)
    (g5 : q5 bs = false)
    (g6 : q6 bs = false) (hzs0 : sizeAt bs = z) (ht0 : totAt bs = t) (hwd0 : wordAt bs 6 = wd) (hadb : ad.block ≠ hb)
    (v1 id : Nat) (df mf : Bool) (off : Nat) (hv1 : byteAt bs 1 = v1) (hid : wordAt bs 4 = id) (hdf : dfAt bs = df) (hmf : mfAt bs = mf) (hoff : offAt bs = off)
    (hnext : ∀ (y1 y3 y4 y5 y10 y11 y12 y13 y14 y15 y16 y17 y18 y19 y20 y21 y22 y23 y24 y25 y26 y27 y28 y29 y30 y31 y32 y33 y34 y35 y36 y37 y38 y39 y40 y41 y42 y43 y44 y45 y46 y47 y48 y49 y50 y51 y52 y53 y54 y55 y56 y57 y58 y59 y60 y61 y62 y63 y64 y65 y66 y67 y68 y69 y70 y71 y72 y73 y74 y75 y76 y77 y78 y79 y80 y81 y82 y83 y84 y85 y86 y87 y88 y89 y90 y91 y92 y93 y94 y95 y96 y97 y98 y99 y100 y101 y102 y103 y104 y105 y106 y107 y108 y109 y110 y111 y112 y113 y114 y115 y116 y117 y118 : Value) (W1 : World), Frm (One hb) W W1 → Blk W1 hb 54 #[.int .u8 (v1 : Int), .int .u16 (id : Int), .bool df, .bool mf, .int .i64 (off : Int), .int .u8 0, .int .u8 0, .int .u32 0, .int .u32 0, .slice none 0 0] → Code.wp Try.prog (dropS 12 B29) (bodyPost Try.prog Try.f29 PQ) ⟨#[.slice (some ad) n c, y1, .pointer (some ⟨rb, 0, none⟩), y3, y4, y5, .pointer (some ⟨hb, 0, none⟩), .int .i64 (z : Int), .int .i64 (t : Int), .int .i64 (wd : Int), y10, y11, y12, y13, y14, y15, y16, y17, y18, y19, y20, y21, y22, y23, y24, y25, y26, y27, y28, y29, y30, y31, y32, y33, y34, y35, y36, y37, y38, y39, y40, y41, y42, y43, y44, y45, y46, y47, y48, y49, y50, y51, y52, y53, y54, y55, y56, y57, y58, y59, y60, y61, y62, y63, y64, y65, y66, y67, y68, y69, y70, y71, y72, y73, y74, y75, y76, y77, y78, y79, y80, y81, y82, y83, y84, y85, y86, y87, y88, y89, y90, y91, y92, y93, y94, y95, y96, y97, y98, y99, y100, y101, y102, y103, y104, y105, y106, y107, y108, y109, y110, y111, y112, y113, y114, y115, y116, y117, y118], []⟩ W1) :
    Code.wp Try.prog (dropS 2 B29) (bodyPost Try.prog Try.f29 PQ) ⟨#[.slice (some ad) n c, u1, .pointer (some ⟨rb, 0, none⟩), u3, u4, u5, .pointer (some ⟨hb, 0, none⟩), u7, u8, u9, u10, u11, u12, u13, u14, u15, u16, u17, u18, u19, u20, u21, u22, u23, u24, u25, u26, u27, u28, u29, u30, u31, u32, u33, u34, u35, u36, u37, u38, u39, u40, u41, u42, u43, u44, u45, u46, u47, u48, u49, u50, u51, u52, u53, u54, u55, u56, u57, u58, u59, u60, u61, u62, u63, u64, u65, u66, u67, u68, u69, u70, u71, u72, u73, u74, u75, u76, u77, u78, u79, u80, u81, u82, u83, u84, u85, u86, u87, u88, u89, u90, u91, u92, u93, u94, u95, u96, u97, u98, u99, u100, u101, u102, u103, u104, u105, u106, u107, u108, u109, u110, u111, u112, u113, u114, u115, u116, u117, u118], []⟩ W := by
  obtain ⟨i0, i1, i2, i3, i4, i5, i6, i7, i8, i9⟩ := blk10 Y0
  have a1 := of_decide_eq_false g1
  have f1 : ¬ (n : Int) < 20 := by omega
  have n20 : 20 ≤ n := by omega
  have n0 : 0 < n := by omega
  have n0i : (0 : Int) < n := by omega
  have r0 : W.cell? ad = some (.int .u8 (byteAt bs 0 : Int)) := by
    obtain ⟨a', h1, h2⟩ := hr.byte (k := 0) (by omega)
    injection h1 with h1
    subst h1
    exact h2
  obtain ⟨b, hb0, hbl⟩ : ∃ b, byteAt bs 0 = b ∧ b < 256 := ⟨_, rfl, byteAt_lt _ _⟩
  rw [hb0] at r0
  obtain ⟨v, hv, hv2⟩ : ∃ v : Nat, (b : Int) / 16 = (v : Int) ∧ v = b / 16 := ⟨b / 16, by omega, rfl⟩
  have a2 := of_decide_eq_false g2
  rw [hb0] at a2
  have v4 : v = 4 := by omega
  subst v4
  have hzz : sizeAt bs = b % 16 * 4 := by unfold sizeAt; rw [hb0]
  obtain ⟨r, hr1, hr2⟩ : ∃ r : Nat, (b : Int) % 16 = (r : Int) ∧ r = b % 16 := ⟨b % 16, by omega, rfl⟩
  have hz2 : z = r * 4 := by omega
  have hz1 : IntKind.i64.wrap ((r : Int) * 4) = (z : Int) := by rw [IntWalk.i64_in] <;> omega
  have hzs : sizeAt bs = z := hzs0
  have rw1 : IntKind.i64.wrap (r : Int) = (r : Int) := by rw [IntWalk.i64_in] <;> omega
  have a3 := of_decide_eq_false g3
  rw [hzs, hn] at a3
  have f3 : ¬ (z : Int) < 20 := by omega
  have f3b : ¬ (z : Int) > n := by omega
  have f3c : decide (n < z) = false := decide_eq_false (by omega)
  have c2 : ¬ c = 2 := by omega
  have c4 : (4 : Int) ≤ c := by omega
  have HN2 := Lib.hid (num2 W ⟨ad.block, ad.off + 2, none⟩ (c - 2) [bs[2], bs[3]] rfl (by
    have h1 := (hr.take 4).drop 2 c (by rw [List.length_take]; omega) (some ⟨ad.block, ad.off + 2, none⟩) (by rw [if_neg c2]; rfl)
    have e : (bs.take 4).drop 2 = [bs[2], bs[3]] := by
      apply List.ext_getElem
      · simp; omega
      · intro i h1 h2
        simp at h2
        have h3 : i = 0 ∨ i = 1 := by omega
        rcases h3 with rfl | rfl <;> simp
    rwa [e] at h1) (totAt bs) (by unfold totAt; rw [wordAt_at (by omega)]; rfl))
  have ht := ht0
  rw [ht] at HN2
  have a4 := of_decide_eq_false g4
  rw [hzs, hn, ht] at a4
  have f4 : ¬ (t : Int) < z := by omega
  have f4b : ¬ (t : Int) > n := by omega
  have f4c : decide (t < z) = false := decide_eq_false (by omega)
  have f4d : decide (n < t) = false := decide_eq_false (by omega)
  have zc : (z : Int) ≤ c := by omega
  have z0i : (0 : Int) ≤ z := by omega
  have HSU := Lib.hid (refSum W (some ad) z c (bs.take z) (by rw [List.length_take]; omega) (hr.take z) (by omega))
  obtain ⟨sm, hsm⟩ : ∃ s, sumOf (bs.take z) = s := ⟨_, rfl⟩
  rw [hsm] at HSU
  have a5 : sm = 65535 := by have h := g5; unfold q5 at h; rw [hzs, hsm] at h; simpa using h
  subst a5
  have c6 : ¬ c = 6 := by omega
  have c8 : (8 : Int) ≤ c := by omega
  have HN6 := Lib.hid (num2 W ⟨ad.block, ad.off + 6, none⟩ (c - 6) [bs[6], bs[7]] rfl (by
    have h1 := (hr.take 8).drop 6 c (by rw [List.length_take]; omega) (some ⟨ad.block, ad.off + 6, none⟩) (by rw [if_neg c6]; rfl)
    have e : (bs.take 8).drop 6 = [bs[6], bs[7]] := by
      apply List.ext_getElem
      · simp; omega
      · intro i h1 h2
        simp at h2
        have h3 : i = 0 ∨ i = 1 := by omega
        rcases h3 with rfl | rfl <;> simp
    rwa [e] at h1) (wordAt bs 6) (by rw [wordAt_at (by omega)]; rfl))
  have hwd := hwd0
  have hwl : wd < 65536 := by rw [← hwd]; exact wordAt_lt _ _
  rw [hwd] at HN6
  have a6 : ¬ wd / 32768 % 2 = 1 := by have h := of_decide_eq_false g6; rwa [hwd] at h
  obtain ⟨x6, hx6, hy6⟩ : ∃ v : Nat, (wd : Int) / 32768 = (v : Int) ∧ v = wd / 32768 := ⟨wd / 32768, by omega, rfl⟩
  have x61 : x6 = 0 := by omega
  subst x61
  have HR := Lib.hid hr
  have HN := Lib.hid hn
  have HV1 := Lib.hid hv1
  have HID := Lib.hid hid
  have HDF := Lib.hid hdf
  have HMF := Lib.hid hmf
  have HOFF := Lib.hid hoff
  have HWD := Lib.hid hwd0
  have HNX := Lib.hid hnext
  have Y := Lib.hid Y0
  clear g1 g2 g3 g4 g5 g6 Y0 hr hn hv2 hb0 hzz hr2 hz2 hzs a3 a2 a1 ht a4 hsm hwd a6 hy6 hv1 hid hdf hmf hoff hwd0 hnext hzs0 ht0
  conv => arg 2; whnf
  go_wp2_with fail
  refine HN2.out.mono ?_
  rintro e w' ⟨rfl, rfl⟩
  go_wp2_with fail
  refine HSU.out.mono ?_
  rintro e w' ⟨rfl, rfl⟩
  go_wp2_with fail
  refine HN6.out.mono ?_
  rintro e w' ⟨rfl, rfl⟩
  go_upto_region 17 with fail
  exact ref_ok_17 _ _ _ _ _ _ _ _ _ _ _ _ _ _ _ _ _ _ _ _ _ _ _ _ _ _ _ _ _ _ _ _ _ _ _ _ _ _ _ _ _ _ _ _ _ _ _ _ _ _ _ _ _ _ _ _ _ _ _ _ _ _ _ _ _ _ _ _ _ _ _ _ _ _ _ _ _ _ _ _ _ _ _ _ _ _ _ _ _ _ _ _ _ _ _ _ _ _ _ _ _ _ _ _ _ _ _ _ _ _ _ _ _ _ _ ad n c rb hb z t wd bs _ (by assumption) HN.out hc h4 n20 HR.out Y.out HWD.out hadb v1 id df mf off HV1.out HID.out HDF.out HMF.out HOFF.out HNX.out
end Go.Proofs.Ytcclneaabnpbkaa

/- Rx -/
namespace Go.Proofs.Ytcclneaabnpbkaa
open Go.RowKit
attribute [local go_sem] undef

set_option maxRecDepth 100000 in
set_option maxHeartbeats 2000000 in
theorem ref_start (w : World) (PQ : Ending → World → Prop) (A : Option Addr) (n c : Nat)
    (h : ∀ (u1 u3 u4 u5 u7 u8 u9 u10 u11 u12 u13 u14 u15 u16 u17 u18 u19 u20 u21 u22 u23 u24 u25 u26 u27 u28 u29 u30 u31 u32 u33 u34 u35 u36 u37 u38 u39 u40 u41 u42 u43 u44 u45 u46 u47 u48 u49 u50 u51 u52 u53 u54 u55 u56 u57 u58 u59 u60 u61 u62 u63 u64 u65 u66 u67 u68 u69 u70 u71 u72 u73 u74 u75 u76 u77 u78 u79 u80 u81 u82 u83 u84 u85 u86 u87 u88 u89 u90 u91 u92 u93 u94 u95 u96 u97 u98 u99 u100 u101 u102 u103 u104 u105 u106 u107 u108 u109 u110 u111 u112 u113 u114 u115 u116 u117 u118 : Value) (W : World) (rb hb : Nat), Frm No w W → Blk W rb 54 #[.int .u8 0, .int .u16 0, .bool false, .bool false, .int .i64 0, .int .u8 0, .int .u8 0, .int .u32 0, .int .u32 0, .slice none 0 0] → Blk W hb 54 #[.int .u8 0, .int .u16 0, .bool false, .bool false, .int .i64 0, .int .u8 0, .int .u8 0, .int .u32 0, .int .u32 0, .slice none 0 0] → rb ≠ hb → w.heap.size ≤ rb → w.heap.size ≤ hb → Code.wp Try.prog (dropS 2 B29) (bodyPost Try.prog Try.f29 PQ) ⟨#[.slice A n c, u1, .pointer (some ⟨rb, 0, none⟩), u3, u4, u5, .pointer (some ⟨hb, 0, none⟩), u7, u8, u9, u10, u11, u12, u13, u14, u15, u16, u17, u18, u19, u20, u21, u22, u23, u24, u25, u26, u27, u28, u29, u30, u31, u32, u33, u34, u35, u36, u37, u38, u39, u40, u41, u42, u43, u44, u45, u46, u47, u48, u49, u50, u51, u52, u53, u54, u55, u56, u57, u58, u59, u60, u61, u62, u63, u64, u65, u66, u67, u68, u69, u70, u71, u72, u73, u74, u75, u76, u77, u78, u79, u80, u81, u82, u83, u84, u85, u86, u87, u88, u89, u90, u91, u92, u93, u94, u95, u96, u97, u98, u99, u100, u101, u102, u103, u104, u105, u106, u107, u108, u109, u110, u111, u112, u113, u114, u115, u116, u117, u118], []⟩ W) :
    Calls Try.prog 29 #[.slice A n c] w PQ := by
  have HH := Lib.hid h
  clear h
  go_enter Try.func29, Try.ntmps29
  refine wp_seq_k (fun K hK => ?_)
  have HK := Lib.hid hK
  clear hK
  go_wp2_with fail
  refine HK.out _ _ ?_
  clear HK
  refine wp_seq_k (fun K hK => ?_)
  have HK := Lib.hid hK
  clear hK
  go_wp2_with fail
  refine HK.out _ _ ?_
  exact HH.out _ _ _ _ _ _ _ _ _ _ _ _ _ _ _ _ _ _ _ _ _ _ _ _ _ _ _ _ _ _ _ _ _ _ _ _ _ _ _ _ _ _ _ _ _ _ _ _ _ _ _ _ _ _ _ _ _ _ _ _ _ _ _ _ _ _ _ _ _ _ _ _ _ _ _ _ _ _ _ _ _ _ _ _ _ _ _ _ _ _ _ _ _ _ _ _ _ _ _ _ _ _ _ _ _ _ _ _ _ _ _ _ _ _ _ _ _ _ _ (((Frm.refl No w).alloc _).alloc _) ((Blk.new w 54 _).alloc _) (by have h := Blk.new (w.alloc (.cells #[.int .u8 0, .int .u16 0, .bool false, .bool false, .int .i64 0, .int .u8 0, .int .u8 0, .int .u32 0, .int .u32 0, .slice none 0 0] 54)) 54 #[.int .u8 0, .int .u16 0, .bool false, .bool false, .int .i64 0, .int .u8 0, .int .u8 0, .int .u32 0, .int .u32 0, .slice none 0 0]; rwa [show (w.alloc (.cells #[.int .u8 0, .int .u16 0, .bool false, .bool false, .int .i64 0, .int .u8 0, .int .u8 0, .int .u32 0, .int .u32 0, .slice none 0 0] 54)).heap.size = w.heap.size + 1 by simp] at h) (by simp) (Nat.le_refl _) (by simp)
end Go.Proofs.Ytcclneaabnpbkaa

/- Ry -/
namespace Go.Proofs.Ytcclneaabnpbkaa
open Go.RowKit
attribute [local go_sem] undef

set_option maxRecDepth 100000 in
set_option maxHeartbeats 2000000 in
theorem ref_bad_1n (w W : World) (u1 u3 u4 u5 u7 u8 u9 u10 u11 u12 u13 u14 u15 u16 u17 u18 u19 u20 u21 u22 u23 u24 u25 u26 u27 u28 u29 u30 u31 u32 u33 u34 u35 u36 u37 u38 u39 u40 u41 u42 u43 u44 u45 u46 u47 u48 u49 u50 u51 u52 u53 u54 u55 u56 u57 u58 u59 u60 u61 u62 u63 u64 u65 u66 u67 u68 u69 u70 u71 u72 u73 u74 u75 u76 u77 u78 u79 u80 u81 u82 u83 u84 u85 u86 u87 u88 u89 u90 u91 u92 u93 u94 u95 u96 u97 u98 u99 u100 u101 u102 u103 u104 u105 u106 u107 u108 u109 u110 u111 u112 u113 u114 u115 u116 u117 u118 : Value) (A : Option Addr) (n c rb hb : Nat) (bs : List UInt8) (hn : bs.length = n) (hc : n ≤ c) (h4 : n ≤ 400) (hr : Rds W A bs) (hrb : w.heap.size ≤ rb) (F0 : Frm No w W) (Z0 : Blk W rb 54 #[.int .u8 0, .int .u16 0, .bool false, .bool false, .int .i64 0, .int .u8 0, .int .u8 0, .int .u32 0, .int .u32 0, .slice none 0 0]) (Y0 : Blk W hb 54 #[.int .u8 0, .int .u16 0, .bool false, .bool false, .int .i64 0, .int .u8 0, .int .u8 0, .int .u32 0, .int .u32 0, .slice none 0 0])
    (g1 : q1 bs = true) :
    Code.wp Try.prog (dropS 2 B29) (bodyPost Try.prog Try.f29 (ReadBad 50 w)) ⟨#[.slice A n c, u1, .pointer (some ⟨rb, 0, none⟩), u3, u4, u5, .pointer (some ⟨hb, 0, none⟩), u7, u8, u9, u10, u11, u12, u13, u14, u15, u16, u17, u18, u19, u20, u21, u22, u23, u24, u25, u26, u27, u28, u29, u30, u31, u32, u33, u34, u35, u36, u37, u38, u39, u40, u41, u42, u43, u44, u45, u46, u47, u48, u49, u50, u51, u52, u53, u54, u55, u56, u57, u58, u59, u60, u61, u62, u63, u64, u65, u66, u67, u68, u69, u70, u71, u72, u73, u74, u75, u76, u77, u78, u79, u80, u81, u82, u83, u84, u85, u86, u87, u88, u89, u90, u91, u92, u93, u94, u95, u96, u97, u98, u99, u100, u101, u102, u103, u104, u105, u106, u107, u108, u109, u110, u111, u112, u113, u114, u115, u116, u117, u118], []⟩ W := by
  have F := Lib.hid F0
  obtain ⟨i0, i1, i2, i3, i4, i5, i6, i7, i8, i9⟩ := blk10 Y0
  have zf := Z0.frozen
  have zf0 := zf 0
  have zf1 := zf 1
  have zf2 := zf 2
  have zf3 := zf 3
  have zf4 := zf 4
  have zf5 := zf 5
  have zf6 := zf 6
  have zf7 := zf 7
  have zf8 := zf 8
  have zf9 := zf 9
  obtain ⟨o0, o1, o2, o3, o4, o5, o6, o7, o8, o9⟩ := blk10 Z0
  clear zf
  have Z := Lib.hid Z0
  have a1 := of_decide_eq_true g1
  have f1 : (n : Int) < 20 := by omega
  clear g1 F0 Z0 Y0 hr hn hc a1
  conv => arg 2; whnf
  go_wp2_with fail
  obtain ⟨z0, z1, z2, z3, z4, z5, z6, z7, z8, z9⟩ := blk10 (set10 Z.out (.int .u8 0) (.int .u16 0) (.bool false) (.bool false) (.int .i64 0) (.int .u8 0) (.int .u8 0) (.int .u32 0) (.int .u32 0) (.slice none 0 0))
  refine bodyPost_ret (v := .tuple #[.agg #[.int .u8 0, .int .u16 0, .bool false, .bool false, .int .i64 0, .int .u8 0, .int .u8 0, .int .u32 0, .int .u32 0, .slice none 0 0], .int .i64 0, .int .i64 0, .int .i64 50]) (by simp [results, Try.results29, go_sem, z0, z1, z2, z3, z4, z5, z6, z7, z8, z9]) rfl ⟨rfl, frm10 F.out (fun h => absurd h (by omega)) _ _ _ _ _ _ _ _ _ _⟩


theorem rds_one {T : Nat → Prop} {W W' : World} {ad : Addr} {bs : List UInt8} (h : Rds W (some ad) bs) (hf : Frm T W W') (hT : ¬ T ad.block) : Rds W' (some ad) bs := by
  refine h.frm hf (fun k hk => ?_)
  have e : ad.block = k := by simpa [blk] using hk
  rw [← e]
  exact hT
def RefRead (bs : List UInt8) (w : World) (e : Ending) (w' : World) : Prop :=
  RefOk (byteAt bs 1) (wordAt bs 4) (dfAt bs) (mfAt bs) (offAt bs) (byteAt bs 8) (byteAt bs 9) (addrAt bs 12) (addrAt bs 16) (sizeAt bs - 20) (sizeAt bs) (totAt bs) (optsAt bs) w e w'

set_option maxRecDepth 100000 in
set_option maxHeartbeats 2000000 in
theorem ref_tail (w W : World) (PQ : Ending → World → Prop) (u1 u3 u4 u5 u7 u8 u9 u10 u11 u12 u13 u14 u15 u16 u17 u18 u19 u20 u21 u22 u23 u24 u25 u26 u27 u28 u29 u30 u31 u32 u33 u34 u35 u36 u37 u38 u39 u40 u41 u42 u43 u44 u45 u46 u47 u48 u49 u50 u51 u52 u53 u54 u55 u56 u57 u58 u59 u60 u61 u62 u63 u64 u65 u66 u67 u68 u69 u70 u71 u72 u73 u74 u75 u76 u77 u78 u79 u80 u81 u82 u83 u84 u85 u86 u87 u88 u89 u90 u91 u92 u93 u94 u95 u96 u97 u98 u99 u100 u101 u102 u103 u104 u105 u106 u107 u108 u109 u110 u111 u112 u113 u114 u115 u116 u117 u118 : Value) (ad : Addr) (n c rb hb : Nat) (bs : List UInt8) (hn : bs.length = n) (hc : n ≤ c) (h4 : n ≤ 400) (hr : Rds W (some ad) bs) (hrb : w.heap.size ≤ rb) (hhb : w.heap.size ≤ hb) (hne : rb ≠ hb) (hadb : ad.block ≠ hb) (F : Frm No w W) (Z : Blk W rb 54 #[.int .u8 0, .int .u16 0, .bool false, .bool false, .int .i64 0, .int .u8 0, .int .u8 0, .int .u32 0, .int .u32 0, .slice none 0 0]) (Y : Blk W hb 54 #[.int .u8 0, .int .u16 0, .bool false, .bool false, .int .i64 0, .int .u8 0, .int .u8 0, .int .u32 0, .int .u32 0, .slice none 0 0])
    (g1 : q1 bs = false) (g2 : q2 bs = false) (g3 : q3 bs = false) (g4 : q4 bs = false) (g5 : q5 bs = false) (g6 : q6 bs = false)
    (hyes : q7 bs = false → ∀ e w', RefRead bs w e w' → PQ e w') (hno : q7 bs = true → ∀ e w', ReadBad 56 w e w' → PQ e w') :
    Code.wp Try.prog (dropS 2 B29) (bodyPost Try.prog Try.f29 PQ) ⟨#[.slice (some ad) n c, u1, .pointer (some ⟨rb, 0, none⟩), u3, u4, u5, .pointer (some ⟨hb, 0, none⟩), u7, u8, u9, u10, u11, u12, u13, u14, u15, u16, u17, u18, u19, u20, u21, u22, u23, u24, u25, u26, u27, u28, u29, u30, u31, u32, u33, u34, u35, u36, u37, u38, u39, u40, u41, u42, u43, u44, u45, u46, u47, u48, u49, u50, u51, u52, u53, u54, u55, u56, u57, u58, u59, u60, u61, u62, u63, u64, u65, u66, u67, u68, u69, u70, u71, u72, u73, u74, u75, u76, u77, u78, u79, u80, u81, u82, u83, u84, u85, u86, u87, u88, u89, u90, u91, u92, u93, u94, u95, u96, u97, u98, u99, u100, u101, u102, u103, u104, u105, u106, u107, u108, u109, u110, u111, u112, u113, u114, u115, u116, u117, u118], []⟩ W := by
  have a1 := of_decide_eq_false g1
  have a3 := of_decide_eq_false g3
  have a4 := of_decide_eq_false g4
  have a5 := sizeAt_le bs
  have hw := wordAt_lt bs 2
  have ht : totAt bs ≤ 65535 := by unfold totAt; omega
  have hrd : ∀ {T : Nat → Prop} {W' : World}, Frm T W W' → ¬ T ad.block → Rds W' (some ad) bs := fun hf h => rds_one hr hf h
  refine ref_pass W PQ (sizeAt bs) (totAt bs) (wordAt bs 6) _ _ _ _ _ _ _ _ _ _ _ _ _ _ _ _ _ _ _ _ _ _ _ _ _ _ _ _ _ _ _ _ _ _ _ _ _ _ _ _ _ _ _ _ _ _ _ _ _ _ _ _ _ _ _ _ _ _ _ _ _ _ _ _ _ _ _ _ _ _ _ _ _ _ _ _ _ _ _ _ _ _ _ _ _ _ _ _ _ _ _ _ _ _ _ _ _ _ _ _ _ _ _ _ _ _ _ _ _ _ _ _ _ _ _ _ ad n c rb hb bs hn hc h4 hr Y g1 g2 g3 g4 g5 g6 rfl rfl rfl hadb (byteAt bs 1) (wordAt bs 4) (dfAt bs) (mfAt bs) (offAt bs) rfl rfl rfl rfl rfl ?_
  intro v1 v3 v4 v5 v10 v11 v12 v13 v14 v15 v16 v17 v18 v19 v20 v21 v22 v23 v24 v25 v26 v27 v28 v29 v30 v31 v32 v33 v34 v35 v36 v37 v38 v39 v40 v41 v42 v43 v44 v45 v46 v47 v48 v49 v50 v51 v52 v53 v54 v55 v56 v57 v58 v59 v60 v61 v62 v63 v64 v65 v66 v67 v68 v69 v70 v71 v72 v73 v74 v75 v76 v77 v78 v79 v80 v81 v82 v83 v84 v85 v86 v87 v88 v89 v90 v91 v92 v93 v94 v95 v96 v97 v98 v99 v100 v101 v102 v103 v104 v105 v106 v107 v108 v109 v110 v111 v112 v113 v114 v115 v116 v117 v118 W1 F1 B1
  conv => arg 2; whnf
  refine wp_seq_k (fun K hK => ?_)
  refine ref_ok_18 _ W1 _ _ _ _ _ _ _ _ _ _ _ _ _ _ _ _ _ _ _ _ _ _ _ _ _ _ _ _ _ _ _ _ _ _ _ _ _ _ _ _ _ _ _ _ _ _ _ _ _ _ _ _ _ _ _ _ _ _ _ _ _ _ _ _ _ _ _ _ _ _ _ _ _ _ _ _ _ _ _ _ _ _ _ _ _ _ _ _ _ _ _ _ _ _ _ _ _ _ _ _ _ _ _ _ _ _ _ _ _ _ _ _ _ ad n c rb hb (sizeAt bs) (totAt bs) (wordAt bs 6) bs K hK hn hc (by omega) (hrd F1 hadb) (byteAt bs 1) (wordAt bs 4) (dfAt bs) (mfAt bs) (offAt bs) B1 hadb _ _ _ _ _ _ _ _ _ _ rfl rfl rfl rfl rfl rfl rfl rfl rfl rfl (addrAt bs 12) (addrAt bs 16) rfl rfl ?_
  intro x1 x3 x4 x5 x10 x11 x12 x13 x14 x15 x16 x17 x18 x19 x20 x21 x22 x23 x24 x25 x26 x27 x28 x29 x30 x31 x32 x33 x34 x35 x36 x37 x38 x39 x40 x41 x42 x43 x44 x45 x46 x47 x48 x49 x50 x51 x52 x53 x54 x55 x56 x57 x58 x59 x60 x61 x62 x63 x64 x65 x66 x67 x68 x69 x70 x71 x72 x73 x74 x75 x76 x77 x78 x79 x80 x81 x82 x83 x84 x85 x86 x87 x88 x89 x90 x91 x92 x93 x94 x95 x96 x97 x98 x99 x100 x101 x102 x103 x104 x105 x106 x107 x108 x109 x110 x111 x112 x113 x114 x115 x116 x117 x118 W2 F2 B2
  conv => arg 2; whnf
  refine wp_seq_k (fun K2 hK2 => ?_)
  refine ref_ok_19 PQ W2 _ _ _ _ _ _ _ _ _ _ _ _ _ _ _ _ _ _ _ _ _ _ _ _ _ _ _ _ _ _ _ _ _ _ _ _ _ _ _ _ _ _ _ _ _ _ _ _ _ _ _ _ _ _ _ _ _ _ _ _ _ _ _ _ _ _ _ _ _ _ _ _ _ _ _ _ _ _ _ _ _ _ _ _ _ _ _ _ _ _ _ _ _ _ _ _ _ _ _ _ _ _ _ _ _ _ _ _ _ _ _ _ _ _ _ _ _ _ _ _ _ _ _ ad n c rb hb (sizeAt bs) (totAt bs) bs K2 hK2 hn hc (by omega) (by omega) h4 (rds_one (hrd F1 hadb) F2 hadb) B2 hadb ?_
  intro y1 y3 y4 y5 y9 y10 y11 y12 y13 y14 y15 y16 y17 y18 y19 y20 y21 y22 y23 y24 y25 y26 y27 y28 y29 y30 y31 y32 y33 y34 y35 y36 y37 y38 y39 y40 y41 y42 y43 y44 y45 y46 y47 y48 y49 y50 y51 y52 y53 y54 y55 y56 y57 y58 y59 y60 y61 y62 y63 y64 y65 y66 y67 y68 y69 y70 y71 y72 y73 y74 y75 y76 y77 y78 y79 y80 y81 y82 y83 y84 y85 y86 y87 y88 y89 y90 y91 y92 y93 y94 y95 y96 y97 y98 y99 y100 y101 y102 y103 y104 y105 y106 y107 y108 y109 y110 y111 y112 y113 y114 y115 y116 y117 y118 W3 A' c' F3 B3 O3
  have F13 : Frm (One hb) W W3 := (F1.trans F2 (fun _ _ h => h)).trans F3 (fun _ _ h => h)
  have FF : Frm No w W3 := F.trans F13 (fun i hi h => by have h : i = hb := h; omega)
  refine ref_end w W3 PQ _ _ _ _ _ _ _ _ _ _ _ _ _ _ _ _ _ _ _ _ _ _ _ _ _ _ _ _ _ _ _ _ _ _ _ _ _ _ _ _ _ _ _ _ _ _ _ _ _ _ _ _ _ _ _ _ _ _ _ _ _ _ _ _ _ _ _ _ _ _ _ _ _ _ _ _ _ _ _ _ _ _ _ _ _ _ _ _ _ _ _ _ _ _ _ _ _ _ _ _ _ _ _ _ _ _ _ _ _ _ _ _ _ _ ad n c rb hb (sizeAt bs) (totAt bs) (byteAt bs 1) (wordAt bs 4) (dfAt bs) (mfAt bs) (offAt bs) (byteAt bs 8) (byteAt bs 9) (addrAt bs 12) (addrAt bs 16) A' (sizeAt bs - 20) c' (optsAt bs) (!q7 bs) (by omega) ht (by unfold offAt; omega) (by omega) ?_ hrb hne FF (Z.frm F13 (fun h => hne h)) B3 (own_more O3 (Nat.le_trans F.size ((F1.trans F2 (fun _ _ h => h)).size))) (fun h => hyes (by cases h7 : q7 bs <;> simp [h7] at h ⊢)) (fun h => hno (by cases h7 : q7 bs <;> simp [h7] at h ⊢))
  unfold q7
  rw [Int.ofNat_sub (by omega)]
  simp

theorem refRead_bad (w : World) (A : Option Addr) (n c : Nat) (bs : List UInt8) (hn : bs.length = n) (hc : n ≤ c) (h4 : n ≤ 400) (h : Rds w A bs) (k : Nat) (z : Int) (hz : z = k) (hk : faultB bs = k) (h0 : k ≠ 0) :
    Calls Try.prog 29 #[.slice A n c] w (ReadBad z w) := by
  subst hz
  refine ref_start w _ A n c ?_
  intro u1 u3 u4 u5 u7 u8 u9 u10 u11 u12 u13 u14 u15 u16 u17 u18 u19 u20 u21 u22 u23 u24 u25 u26 u27 u28 u29 u30 u31 u32 u33 u34 u35 u36 u37 u38 u39 u40 u41 u42 u43 u44 u45 u46 u47 u48 u49 u50 u51 u52 u53 u54 u55 u56 u57 u58 u59 u60 u61 u62 u63 u64 u65 u66 u67 u68 u69 u70 u71 u72 u73 u74 u75 u76 u77 u78 u79 u80 u81 u82 u83 u84 u85 u86 u87 u88 u89 u90 u91 u92 u93 u94 u95 u96 u97 u98 u99 u100 u101 u102 u103 u104 u105 u106 u107 u108 u109 u110 u111 u112 u113 u114 u115 u116 u117 u118 W rb hb F Z Y hne hrb hhb
  unfold faultB at hk
  have hr := h.frm F (fun _ _ x => x)
  by_cases g1 : q1 bs = true
  · rw [if_pos g1] at hk; subst hk; exact ref_bad_1n w W _ _ _ _ _ _ _ _ _ _ _ _ _ _ _ _ _ _ _ _ _ _ _ _ _ _ _ _ _ _ _ _ _ _ _ _ _ _ _ _ _ _ _ _ _ _ _ _ _ _ _ _ _ _ _ _ _ _ _ _ _ _ _ _ _ _ _ _ _ _ _ _ _ _ _ _ _ _ _ _ _ _ _ _ _ _ _ _ _ _ _ _ _ _ _ _ _ _ _ _ _ _ _ _ _ _ _ _ _ _ _ _ _ _ _ _ A n c rb hb bs hn hc h4 hr hrb F Z Y g1
  rw [if_neg g1] at hk
  have g1 := bfalse g1
  have n20 := of_decide_eq_false g1
  obtain ⟨ad, rfl⟩ := h.addr (by omega)
  by_cases g2 : q2 bs = true
  · rw [if_pos g2] at hk; subst hk; exact ref_bad_2 w W _ _ _ _ _ _ _ _ _ _ _ _ _ _ _ _ _ _ _ _ _ _ _ _ _ _ _ _ _ _ _ _ _ _ _ _ _ _ _ _ _ _ _ _ _ _ _ _ _ _ _ _ _ _ _ _ _ _ _ _ _ _ _ _ _ _ _ _ _ _ _ _ _ _ _ _ _ _ _ _ _ _ _ _ _ _ _ _ _ _ _ _ _ _ _ _ _ _ _ _ _ _ _ _ _ _ _ _ _ _ _ _ _ _ _ _ ad n c rb hb bs hn hc h4 hr hrb F Z Y g1 g2
  rw [if_neg g2] at hk
  have g2 := bfalse g2
  by_cases g3 : q3 bs = true
  · rw [if_pos g3] at hk; subst hk; exact ref_bad_3 w W _ _ _ _ _ _ _ _ _ _ _ _ _ _ _ _ _ _ _ _ _ _ _ _ _ _ _ _ _ _ _ _ _ _ _ _ _ _ _ _ _ _ _ _ _ _ _ _ _ _ _ _ _ _ _ _ _ _ _ _ _ _ _ _ _ _ _ _ _ _ _ _ _ _ _ _ _ _ _ _ _ _ _ _ _ _ _ _ _ _ _ _ _ _ _ _ _ _ _ _ _ _ _ _ _ _ _ _ _ _ _ _ _ _ _ _ ad n c rb hb bs hn hc h4 hr hrb F Z Y g1 g2 g3
  rw [if_neg g3] at hk
  have g3 := bfalse g3
  by_cases g4 : q4 bs = true
  · rw [if_pos g4] at hk; subst hk; exact ref_bad_4 w W _ _ _ _ _ _ _ _ _ _ _ _ _ _ _ _ _ _ _ _ _ _ _ _ _ _ _ _ _ _ _ _ _ _ _ _ _ _ _ _ _ _ _ _ _ _ _ _ _ _ _ _ _ _ _ _ _ _ _ _ _ _ _ _ _ _ _ _ _ _ _ _ _ _ _ _ _ _ _ _ _ _ _ _ _ _ _ _ _ _ _ _ _ _ _ _ _ _ _ _ _ _ _ _ _ _ _ _ _ _ _ _ _ _ _ _ ad n c rb hb bs hn hc h4 hr hrb F Z Y g1 g2 g3 g4
  rw [if_neg g4] at hk
  have g4 := bfalse g4
  by_cases g5 : q5 bs = true
  · rw [if_pos g5] at hk; subst hk; exact ref_bad_5 w W _ _ _ _ _ _ _ _ _ _ _ _ _ _ _ _ _ _ _ _ _ _ _ _ _ _ _ _ _ _ _ _ _ _ _ _ _ _ _ _ _ _ _ _ _ _ _ _ _ _ _ _ _ _ _ _ _ _ _ _ _ _ _ _ _ _ _ _ _ _ _ _ _ _ _ _ _ _ _ _ _ _ _ _ _ _ _ _ _ _ _ _ _ _ _ _ _ _ _ _ _ _ _ _ _ _ _ _ _ _ _ _ _ _ _ _ ad n c rb hb bs hn hc h4 hr hrb F Z Y g1 g2 g3 g4 g5
  rw [if_neg g5] at hk
  have g5 := bfalse g5
  by_cases g6 : q6 bs = true
  · rw [if_pos g6] at hk; subst hk; exact ref_bad_6 w W _ _ _ _ _ _ _ _ _ _ _ _ _ _ _ _ _ _ _ _ _ _ _ _ _ _ _ _ _ _ _ _ _ _ _ _ _ _ _ _ _ _ _ _ _ _ _ _ _ _ _ _ _ _ _ _ _ _ _ _ _ _ _ _ _ _ _ _ _ _ _ _ _ _ _ _ _ _ _ _ _ _ _ _ _ _ _ _ _ _ _ _ _ _ _ _ _ _ _ _ _ _ _ _ _ _ _ _ _ _ _ _ _ _ _ _ ad n c rb hb bs hn hc h4 hr hrb F Z Y g1 g2 g3 g4 g5 g6
  rw [if_neg g6] at hk
  have g6 := bfalse g6
  by_cases g7 : q7 bs = true
  · rw [if_pos g7] at hk
    subst hk
    have hlt : ad.block < w.heap.size := h.lt (by omega) rfl
    exact ref_tail w W _ _ _ _ _ _ _ _ _ _ _ _ _ _ _ _ _ _ _ _ _ _ _ _ _ _ _ _ _ _ _ _ _ _ _ _ _ _ _ _ _ _ _ _ _ _ _ _ _ _ _ _ _ _ _ _ _ _ _ _ _ _ _ _ _ _ _ _ _ _ _ _ _ _ _ _ _ _ _ _ _ _ _ _ _ _ _ _ _ _ _ _ _ _ _ _ _ _ _ _ _ _ _ _ _ _ _ _ _ _ _ _ _ _ _ _ _ ad n c rb hb bs hn hc h4 hr hrb hhb hne (by omega) F Z Y g1 g2 g3 g4 g5 g6 (fun h7 => by rw [h7] at g7; cases g7) (fun _ _ _ hx => hx)
  rw [if_neg g7] at hk
  exact absurd hk.symm h0

theorem refRead_ok (w : World) (A : Option Addr) (n c : Nat) (bs : List UInt8) (hn : bs.length = n) (hc : n ≤ c) (h4 : n ≤ 400) (h : Rds w A bs) (f : NoFault bs) :
    Calls Try.prog 29 #[.slice A n c] w (RefRead bs w) := by
  refine ref_start w _ A n c ?_
  intro u1 u3 u4 u5 u7 u8 u9 u10 u11 u12 u13 u14 u15 u16 u17 u18 u19 u20 u21 u22 u23 u24 u25 u26 u27 u28 u29 u30 u31 u32 u33 u34 u35 u36 u37 u38 u39 u40 u41 u42 u43 u44 u45 u46 u47 u48 u49 u50 u51 u52 u53 u54 u55 u56 u57 u58 u59 u60 u61 u62 u63 u64 u65 u66 u67 u68 u69 u70 u71 u72 u73 u74 u75 u76 u77 u78 u79 u80 u81 u82 u83 u84 u85 u86 u87 u88 u89 u90 u91 u92 u93 u94 u95 u96 u97 u98 u99 u100 u101 u102 u103 u104 u105 u106 u107 u108 u109 u110 u111 u112 u113 u114 u115 u116 u117 u118 W rb hb F Z Y hne hrb hhb
  have hr := h.frm F (fun _ _ x => x)
  have n20 := of_decide_eq_false f.h1
  obtain ⟨ad, rfl⟩ := h.addr (by omega)
  have hlt : ad.block < w.heap.size := h.lt (by omega) rfl
  exact ref_tail w W _ _ _ _ _ _ _ _ _ _ _ _ _ _ _ _ _ _ _ _ _ _ _ _ _ _ _ _ _ _ _ _ _ _ _ _ _ _ _ _ _ _ _ _ _ _ _ _ _ _ _ _ _ _ _ _ _ _ _ _ _ _ _ _ _ _ _ _ _ _ _ _ _ _ _ _ _ _ _ _ _ _ _ _ _ _ _ _ _ _ _ _ _ _ _ _ _ _ _ _ _ _ _ _ _ _ _ _ _ _ _ _ _ _ _ _ _ ad n c rb hb bs hn hc h4 hr hrb hhb hne (by omega) F Z Y f.h1 f.h2 f.h3 f.h4 f.h5 f.h6 (fun _ _ _ hx => hx) (fun h7 => by rw [f.h7] at h7; cases h7)
end Go.Proofs.Ytcclneaabnpbkaa
