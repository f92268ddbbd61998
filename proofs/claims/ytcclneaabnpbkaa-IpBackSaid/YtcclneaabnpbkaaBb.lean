/-
  IpBack behind Write: what Read makes of the packet, whatever follows.
-/
import Derived.Test.YtcclneaabnpbkaaIc
import Derived.Test.YtcclneaabnpbkaaBj
import Derived.StillTailTactics
namespace Go.Proofs.Ytcclneaabnpbkaa
open Go.RowKit
attribute [local go_sem] undef

noncomputable def B6 : Code := Try.f6.body.getD .skip

set_option maxRecDepth 100000 in
set_option maxHeartbeats 4000000 in
theorem back_end (w W9 : World) (u0 u1 u2 u3 u4 u6 u8 u14 u15 u16 u17 u18 u19 u20 u21 u22 u23 u24 u25 u26 u27 u28 u29 u30 u31 u32 u33 u34 u35 u36 u37 u38 u39 u40 u41 u42 u43 u44 u45 u46 u47 u48 u49 u50 u51 u52 u53 u54 u55 u56 u57 u58 u59 u60 u61 u62 u63 u64 u65 u66 u67 u68 u69 u70 u71 u72 u73 u74 u75 u76 u77 u78 u79 u80 u81 u82 u83 u84 u85 u86 u87 u88 u89 u90 u91 u92 u93 u94 u95 u96 u97 u98 u99 : Value) (hb tb g N c4 z g9 k9 : Nat) (tos id : Nat) (hdf hmf : Bool) (off ttl pro src dst : Nat) (A : Option Addr) (o oc : Nat) (opts : List UInt8) (ho : opts.length = o) (ho40 : o ≤ 40)
    (FA : Frm No w W9) (TA : Blk W9 hb 28 #[.int .u8 (tos : Int), .int .u16 (id : Int), .bool hdf, .bool hmf, .int .i64 (off : Int), .int .u8 (ttl : Int), .int .u8 (pro : Int), .int .u32 (src : Int), .int .u32 (dst : Int), .slice A o oc]) (BA : Blk W9 tb 28 #[.int .u8 (tos : Int), .int .u16 (id : Int), .bool hdf, .bool hmf, .int .i64 (off : Int), .int .u8 (ttl : Int), .int .u8 (pro : Int), .int .u32 (src : Int), .int .u32 (dst : Int), .slice (some ⟨g9, 0, none⟩) o k9]) (AA : Rds W9 A opts) (RR : Rds W9 (some ⟨g9, 0, none⟩) opts) :
    Code.wp Try.prog (dropS 7 B6) (bodyPost Try.prog Try.f6 (BoolNo true w)) ⟨#[u0, u1, u2, u3, u4, .pointer (some ⟨hb, 0, none⟩), u6, .slice (some ⟨g, 0, none⟩) N c4, u8, .int .i64 (z : Int), .pointer (some ⟨tb, 0, none⟩), .int .i64 (z : Int), .int .i64 (N : Int), .int .i64 0, u14, u15, u16, u17, u18, u19, u20, u21, u22, u23, u24, u25, u26, u27, u28, u29, u30, u31, u32, u33, u34, u35, u36, u37, u38, u39, u40, u41, u42, u43, u44, u45, u46, u47, u48, u49, u50, u51, u52, u53, u54, u55, u56, u57, u58, u59, u60, u61, u62, u63, u64, u65, u66, u67, u68, u69, u70, u71, u72, u73, u74, u75, u76, u77, u78, u79, u80, u81, u82, u83, u84, u85, u86, u87, u88, u89, u90, u91, u92, u93, u94, u95, u96, u97, u98, u99], []⟩ W9 := by
  have HSAME := Lib.hid (same_yes W9 (tos : Int) (id : Int) (off : Int) (ttl : Int) (pro : Int) (src : Int) (dst : Int) hdf hmf (some ⟨g9, 0, none⟩) A o k9 oc opts ho RR AA (by omega))
  have F := Lib.hid FA
  obtain ⟨b0, b1, b2, b3, b4, b5, b6, b7, b8, b9⟩ := blk10 TA
  obtain ⟨d0, d1, d2, d3, d4, d5, d6, d7, d8, d9⟩ := blk10 BA
  have ez : ((z : Int) == (z : Int)) = true := by simp
  have eN : ((N : Int) == (N : Int)) = true := by simp
  clear FA TA BA AA RR ho
  conv => arg 2; whnf
  go_wp2_with fail
  refine HSAME.out.mono ?_
  rintro e w10 ⟨rfl, hf⟩
  have F10 := Lib.hid (F.out.new0 hf)
  clear hf b0 b1 b2 b3 b4 b5 b6 b7 b8 b9 d0 d1 d2 d3 d4 d5 d6 d7 d8 d9
  go_wp2_with fail
  go_ret
  exact ⟨rfl, F10.out⟩

set_option maxRecDepth 100000 in
set_option maxHeartbeats 8000000 in
theorem back_reg (w w7 : World) (u0 u2 u3 u4 u6 u8 u10 u11 u12 u13 u14 u15 u16 u17 u18 u19 u20 u21 u22 u23 u24 u25 u26 u27 u28 u29 u30 u31 u32 u33 u34 u35 u36 u37 u38 u39 u40 u41 u42 u43 u44 u45 u46 u47 u48 u49 u50 u51 u52 u53 u54 u55 u56 u57 u58 u59 u60 u61 u62 u63 u64 u65 u66 u67 u68 u69 u70 u71 u72 u73 u74 u75 u76 u77 u78 u79 u80 u81 u82 u83 u84 u85 u86 u87 u88 u89 u90 u91 u92 u93 u94 u95 u96 u97 u98 u99 : Value) (B : Option Addr) (bn bc m hb g N c4 z base : Nat) (tos id : Nat) (hdf hmf : Bool) (off ttl pro src dst : Nat) (A : Option Addr) (o oc : Nat) (opts : List UInt8) (n : Nat) (data L beh : List UInt8)
    (K : Act → World → Prop) (hK : ∀ a W, Code.wp Try.prog (dropS 7 B6) (bodyPost Try.prog Try.f6 (BoolNo true w)) a W → K a W)
    (ho : opts.length = o) (ho40 : o ≤ 40) (hn80 : n ≤ 80) (hdn : data.length = n) (hz : z = 20 + o) (hN : N = 20 + o + n) (hm50 : m ≤ 50) (hmb : m ≤ bc) (hbl : beh.length = m)
    (MINF0 : ∀ w, (Builtin.min_ #[3, 3] 3 #[.int .i64 bn, .int .i64 50]).run Try.prog w = .ok (.int .i64 m) w)
    (hP : Finds (L ++ beh) ⟨tos, id, hdf, hmf, off, ttl, pro, src, dst⟩ opts data) (hLN : L.length = N)
    (F70 : Frm No w w7) (T70 : Blk w7 hb 28 #[.int .u8 (tos : Int), .int .u16 (id : Int), .bool hdf, .bool hmf, .int .i64 (off : Int), .int .u8 (ttl : Int), .int .u8 (pro : Int), .int .u32 (src : Int), .int .u32 (dst : Int), .slice A o oc]) (RA70 : Rds w7 A opts) (R70 : Row w7 base g N c4 L) (HB0 : Rds w7 B beh) :
    Code.wp Try.prog (headS (dropS 6 B6)) (Exit.then K (bodyPost Try.prog Try.f6 (BoolNo true w))) ⟨#[u0, .slice B bn bc, u2, u3, u4, .pointer (some ⟨hb, 0, none⟩), u6, .slice (some ⟨g, 0, none⟩) N c4, u8, .int .i64 (z : Int), u10, u11, u12, u13, u14, u15, u16, u17, u18, u19, u20, u21, u22, u23, u24, u25, u26, u27, u28, u29, u30, u31, u32, u33, u34, u35, u36, u37, u38, u39, u40, u41, u42, u43, u44, u45, u46, u47, u48, u49, u50, u51, u52, u53, u54, u55, u56, u57, u58, u59, u60, u61, u62, u63, u64, u65, u66, u67, u68, u69, u70, u71, u72, u73, u74, u75, u76, u77, u78, u79, u80, u81, u82, u83, u84, u85, u86, u87, u88, u89, u90, u91, u92, u93, u94, u95, u96, u97, u98, u99], []⟩ w7 := by
  have F7 := Lib.hid F70
  have T7 := Lib.hid T70
  have RA7 := Lib.hid RA70
  have R7 := Lib.hid R70
  have HK := Lib.hid hK
  have e7 : (m : Int) ≤ bc := by omega
  have hc4 : N ≤ c4 := R70.cap.1
  have e8 : (N : Int) ≤ c4 := by omega
  have e9 : (0 : Int) ≤ (m : Int) := by omega
  have hN7 : N ≤ 200 := by omega
  have HRF := Lib.hid (fun W (A' : Option Addr) (c' : Nat) (hc : N + m ≤ c') (h1 : Rds W A' (L ++ beh)) => read_found2 W A' (N + m) c' (L ++ beh) (by rw [List.length_append, hLN, hbl]) hc (by omega) h1 tos id hdf hmf off ttl pro src dst opts data hP o z N ho hz (by rw [hdn]; exact hN))
  unfold ReadFound2 at HRF
  have F7d : Hid (Frm No w7 w7.drew) := (Frm.refl No w7).drew
  have HAP : Hid (∀ W, Frm No w7 W → ∃ ad' c' w', (Builtin.append_ #[22, 22] 22 #[.slice (some ⟨g, 0, none⟩) N N, .slice B m bc]).run Try.prog W = .ok (.slice (some ad') (N + m) c') w' ∧ (N + m ≤ c' ∧ Rds w' (some ad') (L ++ beh) ∧ Frm No W w')) := by
    intro W hf
    exact run_append_full W 22 ⟨g, 0, none⟩ N L hLN (R70.rds.frm hf (fun _ _ x => x)) B m bc beh hbl (HB0.frm hf (fun _ _ x => x)) (by omega)
  have HO := Lib.hid ho
  have MINF := MINF0
  clear ho hz hN hbl hP hLN F70 T70 RA70 R70 HB0 hK hdn MINF0
  conv => arg 2; whnf
  go_region_held3 (fun _ => True) (trivial)
    (first
      | (refine step_min rfl (.tmp 73) (.const (.int .i64 50)) 3 3 rfl _ _ _ rfl rfl MINF ?_)
      | (refine step_append_ex rfl (.tmp 70) (.tmp 75) 22 22 rfl _ _ rfl rfl _ _ (HAP.out _ ?_) ?_; (first | exact F7d.out | exact F7d.out.alloc _); intro ad' c' w8 hR; have HC8 := Lib.hid hR.1; have R8 := Lib.hid hR.2.1; have f8 := hR.2.2; have G8 : Hid (Frm No w7 w8) := (by first | exact Frm.new0 F7d.out f8 | exact Frm.new0 (F7d.out.alloc _) f8); (first | (have ZB := Lib.hid (show Blk w8 w7.heap.size 28 _ from (Blk.new w7.drew 28 _).frm f8 (fun x => x))) | skip); clear f8 hR)
      | (go_at_call 18; (with_reducible refine (HRF.out _ (some ad') c' HC8.out ?_).mono ?_); (first | exact R8.out | exact R8.out.alloc _); rintro e w9 ⟨g9, k9, rfl, hrow9, hf9⟩; have R9 := Lib.hid hrow9.rds; have F9 : Hid (Frm No w7 w9) := (by first | exact Frm.new0 G8.out hf9 | exact Frm.new0 (G8.out.alloc _) hf9); (first | (have ZC := Lib.hid (ZB.out.frm hf9 (fun x => x)); have SF := Lib.hid (storeF F9.out ZC.out (Nat.le_refl _) hrow9 ZB.out.lt)) | (have ZC := Lib.hid ((Blk.new w8 28 _).frm hf9 (fun x => x)); have SF := Lib.hid (storeF F9.out ZC.out G8.out.size hrow9 (Blk.new w8 28 _).lt)) | (have ZC := Lib.hid (Blk.new w9 28 #[.int .u8 0, .int .u16 0, .bool false, .bool false, .int .i64 0, .int .u8 0, .int .u8 0, .int .u32 0, .int .u32 0, .slice none 0 0]); have SF := Lib.hid (storeN _ F9.out rfl hrow9 : StoreF w7 (w9.alloc (.cells #[.int .u8 0, .int .u16 0, .bool false, .bool false, .int .i64 0, .int .u8 0, .int .u8 0, .int .u32 0, .int .u32 0, .slice none 0 0] 28)) w9.heap.size g9 opts))); (first | (obtain ⟨v0, v1, v2, v3, v4, v5, v6, v7, v8, v9⟩ := blk10 ZC.out; have _z := fun i => ZC.out.frozen i; have x0 := _z 0; have x1 := _z 1; have x2 := _z 2; have x3 := _z 3; have x4 := _z 4; have x5 := _z 5; have x6 := _z 6; have x7 := _z 7; have x8 := _z 8; have x9 := _z 9; clear _z) | skip); clear hf9 hrow9))
  all_goals first
    | (obtain ⟨W9, hW9, FQ', BA', RR'⟩ := SF.out.name (.int .u8 (tos : Int)) (.int .u16 (id : Int)) (.bool hdf) (.bool hmf) (.int .i64 (off : Int)) (.int .u8 (ttl : Int)) (.int .u8 (pro : Int)) (.int .u32 (src : Int)) (.int .u32 (dst : Int)) (.slice (some ⟨g9, 0, none⟩) o k9)
       rw [← hW9]
       have hKK := HK.out
       show K _ _
       refine hKK _ _ ?_
       exact back_end w W9 _ _ _ _ _ _ _ _ _ _ _ _ _ _ _ _ _ _ _ _ _ _ _ _ _ _ _ _ _ _ _ _ _ _ _ _ _ _ _ _ _ _ _ _ _ _ _ _ _ _ _ _ _ _ _ _ _ _ _ _ _ _ _ _ _ _ _ _ _ _ _ _ _ _ _ _ _ _ _ _ _ _ _ _ _ _ _ _ _ _ _ _ _ hb _ g N c4 z g9 k9 tos id hdf hmf off ttl pro src dst A o oc opts HO.out ho40 (F7.out.new0 FQ') (T7.out.frm FQ' (fun x => x)) BA' (RA7.out.frm FQ' (fun _ _ x => x)) RR')
    | (obtain ⟨W9, hW9⟩ : ∃ W, W = w9.alloc (.cells #[.int .u8 (tos : Int), .int .u16 (id : Int), .bool hdf, .bool hmf, .int .i64 (off : Int), .int .u8 (ttl : Int), .int .u8 (pro : Int), .int .u32 (src : Int), .int .u32 (dst : Int), .slice (some ⟨g9, 0, none⟩) o k9] 28) := ⟨_, rfl⟩
       have FQ' : Frm No w7 W9 := by rw [hW9]; exact F9.out.alloc _
       have BA' : Blk W9 w9.heap.size 28 #[.int .u8 (tos : Int), .int .u16 (id : Int), .bool hdf, .bool hmf, .int .i64 (off : Int), .int .u8 (ttl : Int), .int .u8 (pro : Int), .int .u32 (src : Int), .int .u32 (dst : Int), .slice (some ⟨g9, 0, none⟩) o k9] := by rw [hW9]; exact Blk.new w9 28 _
       have RR' : Rds W9 (some ⟨g9, 0, none⟩) opts := by rw [hW9]; exact R9.out.alloc _
       rw [← hW9]
       have hKK := HK.out
       show K _ _
       refine hKK _ _ ?_
       exact back_end w W9 _ _ _ _ _ _ _ _ _ _ _ _ _ _ _ _ _ _ _ _ _ _ _ _ _ _ _ _ _ _ _ _ _ _ _ _ _ _ _ _ _ _ _ _ _ _ _ _ _ _ _ _ _ _ _ _ _ _ _ _ _ _ _ _ _ _ _ _ _ _ _ _ _ _ _ _ _ _ _ _ _ _ _ _ _ _ _ _ _ _ _ _ _ hb _ g N c4 z g9 k9 tos id hdf hmf off ttl pro src dst A o oc opts HO.out ho40 (F7.out.new0 FQ') (T7.out.frm FQ' (fun x => x)) BA' (RA7.out.frm FQ' (fun _ _ x => x)) RR')
end Go.Proofs.Ytcclneaabnpbkaa
