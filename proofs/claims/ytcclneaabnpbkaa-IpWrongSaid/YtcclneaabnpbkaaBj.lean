/-
  IpBit behind the bit: what Read makes of the packet.
-/
import Derived.Test.YtcclneaabnpbkaaB18
import Derived.Test.YtcclneaabnpbkaaBt
import Derived.Deep.QuietTactic
import Derived.BigQuiet
namespace Go.Proofs.Ytcclneaabnpbkaa
open Go.RowKit
attribute [local go_sem] undef

def dropS : Nat → Code → Code
  | 0, c => c
  | n + 1, .seq _ b => dropS n b
  | _, c => c
def headS : Code → Code
  | .seq a _ => a
  | c => c
noncomputable def B10 : Code := Try.f10.body.getD .skip

def BitOk (L : List UInt8) (i r : Nat) (v : UInt8) (k z n : Nat) (opts : List UInt8) (H : Hd) : Prop :=
  (k < 8 ∧ ¬ r < 4 ∧ faultB (L.set i v) = 51) ∨ (¬ k < 8 ∧ k < 8 * z ∧ faultB (L.set i v) = 54) ∨ (¬ k < 8 ∧ k < 8 * z ∧ 2 ≤ i ∧ i < 4 ∧ faultB (L.set i v) = 53) ∨ (¬ k < 8 ∧ ¬ k < 8 * z ∧ ∃ data', data'.length = n ∧ Finds (L.set i v) H opts data')

set_option maxRecDepth 100000 in
set_option maxHeartbeats 8000000 in
theorem bit_tail (w w3 w4 : World) (u0 u1 u2 u3 u4 u6 u8 u11 u12 u13 u14 u15 u16 u17 u18 u19 u20 u21 u22 u23 u24 u25 u26 u27 u28 u29 u30 u31 u32 u33 u34 u35 u36 u37 u38 u39 u40 u41 u42 u43 u44 u45 u46 u47 u48 u49 u50 u51 u52 u53 u54 u55 u56 u57 u58 u59 u60 u61 u62 u63 u64 u65 u66 u67 u68 u69 u70 u71 u72 u73 u74 u75 u76 u77 u78 u79 u80 u81 u82 u83 u84 u85 u86 u87 u88 u89 u90 u91 u92 u93 u94 u95 u96 u97 u98 u99 u100 u101 u102 u103 u104 u105 u106 u107 : Value) (hb g N c4 k z i r : Nat) (b v : UInt8) (L : List UInt8) (tos id : Nat) (hdf hmf : Bool) (off ttl pro src dst : Nat) (A : Option Addr) (o oc n : Nat) (opts : List UInt8)
    (K : Act → World → Prop) (hK : ∀ a W, Code.wp Try.prog (dropS 9 B10) (bodyPost Try.prog Try.f10 (BoolNo true w)) a W → K a W)
    (hi : (k : Int) / 8 = (i : Int)) (hr : (k : Int) % 8 = (r : Int)) (_hr8 : r < 8) (hiN : i < N) (hLN : L.length = N) (hLI : L.getD i 0 = b) (sh : Nat) (hs1 : IntKind.u8.wrap (1 * 2 ^ r) = (sh : Int)) (hX : bits .xor .u8 (b.toNat : Int) (sh : Int) = (v.toNat : Int))
    (hC : BitOk L i r v k z n opts ⟨tos, id, hdf, hmf, off, ttl, pro, src, dst⟩) (ho : opts.length = o) (hz : z = 20 + o) (hN : N = 20 + o + n) (ho40 : o ≤ 40) (hn80 : n ≤ 80) (hhb : hb < w3.heap.size)
    (F4 : Frm No w w4) (T4 : Blk w4 hb 28 #[.int .u8 (tos : Int), .int .u16 (id : Int), .bool hdf, .bool hmf, .int .i64 (off : Int), .int .u8 (ttl : Int), .int .u8 (pro : Int), .int .u32 (src : Int), .int .u32 (dst : Int), .slice A o oc]) (RA4 : Rds w4 A opts) (R4 : Row w4 w3.heap.size g N c4 L) (hbw : w.heap.size ≤ g) (hbA : ∀ k, blk A = some k → k < w3.heap.size) :
    Code.wp Try.prog (headS (dropS 8 B10)) (Exit.then K (bodyPost Try.prog Try.f10 (BoolNo true w))) ⟨#[u0, u1, u2, u3, u4, .pointer (some ⟨hb, 0, none⟩), u6, .slice (some ⟨g, 0, none⟩) N c4, u8, .int .i64 (k : Int), .int .i64 (z : Int), u11, u12, u13, u14, u15, u16, u17, u18, u19, u20, u21, u22, u23, u24, u25, u26, u27, u28, u29, u30, u31, u32, u33, u34, u35, u36, u37, u38, u39, u40, u41, u42, u43, u44, u45, u46, u47, u48, u49, u50, u51, u52, u53, u54, u55, u56, u57, u58, u59, u60, u61, u62, u63, u64, u65, u66, u67, u68, u69, u70, u71, u72, u73, u74, u75, u76, u77, u78, u79, u80, u81, u82, u83, u84, u85, u86, u87, u88, u89, u90, u91, u92, u93, u94, u95, u96, u97, u98, u99, u100, u101, u102, u103, u104, u105, u106, u107], []⟩ w4 := by
  have hg3 := R4.cap.2.1
  have cg : w4.cell? ⟨g, i, none⟩ = some (.int .u8 (b.toNat : Int)) := (R4.cell i (by omega)).trans (by rw [← hLI, getD_at (by omega)]; rfl)
  have fg : w4.frozen? ⟨g, i, none⟩ = false := R4.frozen i
  have j1 : (i : Int) < N := by omega
  have j2 : (0 : Int) ≤ i := by omega
  have j3 : (r : Int) < 64 := by omega
  have j4 : (0 : Int) ≤ r := by omega
  have R5 := Lib.hid (R4.set i v (.int .u8 (v.toNat : Int)) rfl)
  have F5 := Lib.hid (F4.setCell (p := ⟨g, i, none⟩) (fun h => absurd h (by show ¬ g < _; omega)) (.int .u8 (v.toNat : Int)))
  have T5 := Lib.hid (T4.far (p := ⟨g, i, none⟩) (by show hb ≠ g; omega) (.int .u8 (v.toNat : Int)))
  have RA5 := Lib.hid (RA4.frm ((Frm.refl (One g) w4).set1 i (.int .u8 (v.toNat : Int))) (fun q hq h => by have := hbA q hq; have : q = g := h; omega))
  have hs2 : IntKind.u8.wrap (2 ^ r) = (sh : Int) := by rw [← hs1, Int.one_mul]
  have hr2 : (k : Int).tmod 8 = (r : Int) := by rw [Int.tmod_eq_emod_of_nonneg (by omega), hr]
  have hi2 : (k : Int).tdiv 8 = (i : Int) := by rw [Int.tdiv_eq_ediv_of_nonneg (by omega), hi]
  have j8 : (r : Int) ≤ 8 := by omega
  have HK := Lib.hid hK
  have HC := Lib.hid hC
  have j5 : i ≤ 200 := by omega
  have j6 : N ≤ 200 := by omega
  have j7 : k ≤ 1608 := by omega
  have w1 : IntKind.i64.wrap (i : Int) = i := by rw [IntWalk.i64_in]; omega
  have w2 : IntKind.i64.wrap (r : Int) = r := by rw [IntWalk.i64_in]; omega
  have HSAME0 := Lib.hid (fun W (g1 k1 : Nat) (h1 : Rds W (some ⟨g1, 0, none⟩) opts) (h2 : Rds W A opts) => same_yes W (tos : Int) (id : Int) (off : Int) (ttl : Int) (pro : Int) (src : Int) (dst : Int) hdf hmf (some ⟨g1, 0, none⟩) A o k1 oc opts ho h1 h2 (by omega))
  have HLN := Lib.hid hLN
  have HO := Lib.hid ho
  have HZ := Lib.hid hz
  have HNN := Lib.hid hN
  clear hC F4 T4 RA4 R4 hbA hLI hK hLN ho hz hN
  conv => arg 2; whnf
  have hk8 : (0 : Int) ≤ k := by omega
  go_region
  have hKK := HK.out
  show K _ _
  refine hKK _ _ ?_
  conv => arg 2; whnf
  obtain ⟨w5, hw5⟩ : ∃ W, W = (w4.setCell ⟨g, i, none⟩ (.int .u8 (v.toNat : Int))).drew := ⟨_, rfl⟩
  rw [← hw5]
  have F5' : Hid (Frm No w w5) := by show Frm No w w5; rw [hw5]; exact F5.out.drew
  have T5' : Hid (Blk w5 hb 28 #[.int .u8 (tos : Int), .int .u16 (id : Int), .bool hdf, .bool hmf, .int .i64 (off : Int), .int .u8 (ttl : Int), .int .u8 (pro : Int), .int .u32 (src : Int), .int .u32 (dst : Int), .slice A o oc]) := by show Blk w5 _ _ _; rw [hw5]; exact T5.out.drew
  have RA5' : Hid (Rds w5 A opts) := by show Rds w5 _ _; rw [hw5]; exact RA5.out
  have R5' : Hid (Row w5 w3.heap.size g N c4 (L.set i v)) := by show Row w5 _ _ _ _ _; rw [hw5]; exact R5.out
  have hc4 : N ≤ c4 := R5'.out.cap.1
  have HRB := Lib.hid (fun (q : Nat) (z : Int) (hz : z = q) (h : faultB (L.set i v) = q) (h0 : q ≠ 0) => read_bad w5 (some ⟨g, 0, none⟩) N c4 (L.set i v) (by rw [List.length_set]; exact HLN.out) hc4 (by omega) R5'.out.rds q z hz h h0)
  have HRF := Lib.hid (fun data' (hd : data'.length = n) (h1 : Finds (L.set i v) ⟨tos, id, hdf, hmf, off, ttl, pro, src, dst⟩ opts data') => read_found2 w5 (some ⟨g, 0, none⟩) N c4 (L.set i v) (by rw [List.length_set]; exact HLN.out) hc4 (by omega) R5'.out.rds tos id hdf hmf off ttl pro src dst opts data' h1 o z N HO.out HZ.out (by rw [hd]; exact HNN.out))
  unfold ReadFound2 at HRF
  clear hw5 F5 T5 RA5 R5 HK hKK cg fg hr hr2 hs1 hs2 hX w2
  have hzz : ((z : Int) == (z : Int)) = true := by simp
  have hNN : ((N : Int) == (N : Int)) = true := by simp
  have ez : IntKind.i64.wrap (8 * (z : Int)) = 8 * (z : Int) := by have := HZ.out; rw [IntWalk.i64_in]; omega
  have HZB := Lib.hid (show z ≤ 60 by have := HZ.out; omega)
  obtain hC := HC.out
  rcases hC with ⟨c1, c2, c3⟩ | ⟨c1, c2, c3⟩ | ⟨c1, c2, c4, c5, c3⟩ | ⟨c1, c2, data', hd, hfi⟩
  · have d1 : (k : Int) < 8 := by omega
    have HR := Lib.hid (HRB.out 51 51 rfl c3 (by decide))
    clear c1 c2 c3 HRB HRF HC
    as_aux_lemma =>
      go_wp2_with fail
      refine HR.out.mono ?_
      rintro e w6 ⟨rfl, hf⟩
      have F6 := Lib.hid (F5'.out.new0 hf)
      clear hf HR
      go_wp2_with fail
      go_ret
      exact ⟨rfl, (F6.out).alloc _⟩
  · have d1 : ¬ (k : Int) < 8 := by omega
    have d2 : (k : Int) < 8 * z := by omega
    have HR := Lib.hid (HRB.out 54 54 rfl c3 (by decide))
    clear c1 c2 c3 HRB HRF HC
    as_aux_lemma =>
      go_wp2_with fail
      refine HR.out.mono ?_
      rintro e w6 ⟨rfl, hf⟩
      have F6 := Lib.hid (F5'.out.new0 hf)
      clear hf HR
      go_wp2_with fail
      go_ret
      exact ⟨rfl, (F6.out).alloc _⟩
  · have d1 : ¬ (k : Int) < 8 := by omega
    have d2 : (k : Int) < 8 * z := by omega
    have d3 : (2 : Int) ≤ i := by omega
    have d4 : (i : Int) < 4 := by omega
    have HR := Lib.hid (HRB.out 53 53 rfl c3 (by decide))
    clear c1 c2 c3 c4 c5 HRB HRF HC
    as_aux_lemma =>
      go_wp2_with fail
      refine HR.out.mono ?_
      rintro e w6 ⟨rfl, hf⟩
      have F6 := Lib.hid (F5'.out.new0 hf)
      clear hf HR
      go_wp2_with fail
      go_ret
      exact ⟨rfl, (F6.out).alloc _⟩
  · have d1 : ¬ (k : Int) < 8 := by omega
    have d2 : ¬ (k : Int) < 8 * z := by omega
    have HR := Lib.hid (HRF.out data' hd hfi)
    clear c1 c2 hd hfi HRB HRF HC
    as_aux_lemma =>
      go_wp2_with fail
      refine HR.out.mono ?_
      rintro e w6 ⟨g9, k9, rfl, hrow, hf⟩
      obtain ⟨W9, hW9⟩ : ∃ W, W = w6.alloc (.cells #[.int .u8 (tos : Int), .int .u16 (id : Int), .bool hdf, .bool hmf, .int .i64 (off : Int), .int .u8 (ttl : Int), .int .u8 (pro : Int), .int .u32 (src : Int), .int .u32 (dst : Int), .slice (some ⟨g9, 0, none⟩) o k9] 28) := ⟨_, rfl⟩
      have f9 : Frm No w5 W9 := by rw [hW9]; exact hf.alloc _
      have BA : Hid (Blk W9 w6.heap.size 28 #[.int .u8 (tos : Int), .int .u16 (id : Int), .bool hdf, .bool hmf, .int .i64 (off : Int), .int .u8 (ttl : Int), .int .u8 (pro : Int), .int .u32 (src : Int), .int .u32 (dst : Int), .slice (some ⟨g9, 0, none⟩) o k9]) := by show Blk W9 _ _ _; rw [hW9]; exact Blk.new w6 28 _
      have RR : Hid (Rds W9 (some ⟨g9, 0, none⟩) opts) := by show Rds W9 _ _; rw [hW9]; exact hrow.rds.alloc _
      have FA := Lib.hid (F5'.out.new0 f9)
      have TA := Lib.hid (T5'.out.frm f9 (fun x => x))
      have AA := Lib.hid (RA5'.out.frm f9 (fun _ _ x => x))
      go_upto_region 13 with fail
      rw [← hW9]
      clear hW9 f9 hrow hf HR F5' T5' RA5' R5'
      obtain ⟨b0, b1, b2, b3, b4, b5, b6, b7, b8, b9⟩ := blk10 TA.out
      obtain ⟨d0, d1', d2', d3, d4, d5, d6, d7, d8, d9⟩ := blk10 BA.out
      go_wp2_with fail
      refine (HSAME0.out W9 g9 k9 RR.out AA.out).mono ?_
      rintro e w10 ⟨rfl, hf⟩
      have F10 := Lib.hid (FA.out.new0 hf)
      clear hf b0 b1 b2 b3 b4 b5 b6 b7 b8 b9 d0 d1' d2' d3 d4 d5 d6 d7 d8 d9
      go_wp2_with fail
      go_ret
      exact ⟨rfl, F10.out⟩
end Go.Proofs.Ytcclneaabnpbkaa
