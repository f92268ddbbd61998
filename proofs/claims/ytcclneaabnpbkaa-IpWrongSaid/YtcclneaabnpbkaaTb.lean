/-
  IpTurned behind Write: a packet turned, read, and turned again.
-/
import Derived.Test.YtcclneaabnpbkaaTm
import Derived.Test.YtcclneaabnpbkaaBj
import Derived.Deep.QuietTactic
import Derived.BigQuiet
import Derived.Lib.AppendZerosOnto
namespace Go.Proofs.Ytcclneaabnpbkaa
open Go.RowKit
attribute [local go_sem] undef

def tailS : Code → Code
  | .seq _ b => b
  | c => c
noncomputable def B9 : Code := Try.f9.body.getD .skip

set_option maxRecDepth 100000 in
set_option maxHeartbeats 4000000 in
theorem turned_e (w W : World) (u0 u1 u2 u3 u4 u8 u10 u14 u15 u16 u17 u18 u19 u20 u21 u22 u23 u24 u25 u26 u27 u28 u29 u30 u31 u32 u33 u34 u35 u36 u37 u38 u39 u40 u41 u42 u43 u44 u45 u46 u47 u48 u49 u50 u51 u52 u53 u54 u55 u56 u57 u58 u59 u60 u61 u62 u63 u64 u65 u66 u67 u68 u69 u70 u71 u72 u73 u74 u75 u76 u77 u78 u79 u80 u81 u82 u83 u84 u85 u86 u87 u88 u89 u90 u91 u92 u93 u94 u95 u96 u97 u98 u99 u100 u101 u102 u103 u104 u105 u106 u107 u108 u109 : Value) (hb tb g N c4 z g9 c9 g10 c10 : Nat) (tos id : Nat) (hdf hmf : Bool) (off ttl pro src dst : Nat) (A DD : Option Addr) (o oc n dc2 : Nat) (opts data : List UInt8) (TT : List UInt8) (ho : opts.length = o) (ho40 : o ≤ 40) (hn : data.length = n) (hn80 : n ≤ 80) (hz : z = 20 + o) (hN : N = 20 + o + n) (hTL : TT.length = N) (hTd : TT.drop z = data) (hc9 : N ≤ c9)
    (F : Frm No w W) (T : Blk W hb 28 #[.int .u8 (tos : Int), .int .u16 (id : Int), .bool hdf, .bool hmf, .int .i64 (off : Int), .int .u8 (ttl : Int), .int .u8 (pro : Int), .int .u32 (dst : Int), .int .u32 (src : Int), .slice A o oc]) (B : Blk W tb 28 #[.int .u8 (tos : Int), .int .u16 (id : Int), .bool hdf, .bool hmf, .int .i64 (off : Int), .int .u8 (ttl : Int), .int .u8 (pro : Int), .int .u32 (dst : Int), .int .u32 (src : Int), .slice (some ⟨g10, 0, none⟩) o c10]) (AA : Rds W A opts) (RR : Rds W (some ⟨g10, 0, none⟩) opts) (RD : Rds W DD data) (RT : Rds W (some ⟨g9, 0, none⟩) TT) :
    Code.wp Try.prog (dropS 9 B9) (bodyPost Try.prog Try.f9 (BoolNo true w)) ⟨#[u0, u1, u2, u3, u4, .pointer (some ⟨hb, 0, none⟩), .slice DD n dc2, .slice (some ⟨g, 0, none⟩) N c4, u8, .slice (some ⟨g9, 0, none⟩) N c9, u10, .pointer (some ⟨tb, 0, none⟩), .int .i64 (z : Int), .int .i64 (N : Int), u14, u15, u16, u17, u18, u19, u20, u21, u22, u23, u24, u25, u26, u27, u28, u29, u30, u31, u32, u33, u34, u35, u36, u37, u38, u39, u40, u41, u42, u43, u44, u45, u46, u47, u48, u49, u50, u51, u52, u53, u54, u55, u56, u57, u58, u59, u60, u61, u62, u63, u64, u65, u66, u67, u68, u69, u70, u71, u72, u73, u74, u75, u76, u77, u78, u79, u80, u81, u82, u83, u84, u85, u86, u87, u88, u89, u90, u91, u92, u93, u94, u95, u96, u97, u98, u99, u100, u101, u102, u103, u104, u105, u106, u107, u108, u109], []⟩ W := by
  have HSAME := Lib.hid (same_yes W (tos : Int) (id : Int) (off : Int) (ttl : Int) (pro : Int) (dst : Int) (src : Int) hdf hmf (some ⟨g10, 0, none⟩) A o c10 oc opts ho RR AA (by omega))
  obtain ⟨ab, hab⟩ : ∃ a, (if c9 = z then some (⟨g9, 0, none⟩ : Addr) else some ⟨g9, z, none⟩) = some a := by split <;> exact ⟨_, rfl⟩
  have h1 : Rds W (some ab) data := by
    have := RT.drop z c9 (by omega) (some ab) (by rw [← hab]; have hz0 : ¬ z = 0 := (by omega); simp [Addr.add, hz0])
    rwa [hTd] at this
  have HSM := Lib.hid (fun W' (hf : Frm No W W') (k : Nat) => (by
    have h2 := sames_any W' (some ab) DD k dc2 data data (h1.frm hf (fun _ _ x => x)) (RD.frm hf (fun _ _ x => x)) (by omega)
    rw [hn, show decide (data = data) = true from decide_eq_true rfl] at h2
    exact h2 : Calls Try.prog 22 #[.slice (some ab) n k, .slice DD n dc2] W' fun e w' => e = .returned (.bool true) ∧ ∃ m, w' = W'.drewN m))
  have HF := Lib.hid F
  obtain ⟨b0, b1, b2, b3, b4, b5, b6, b7, b8, b9⟩ := blk10 T
  obtain ⟨d0, d1, d2, d3, d4, d5, d6, d7, d8, d9⟩ := blk10 B
  have eN : ((N : Int) == (N : Int)) = true := by simp
  have e4 : N - z = n := by omega
  have e5 : (z : Int) ≤ N := by omega
  have e6 : (0 : Int) ≤ (z : Int) := by omega
  have e8 : (N : Int) ≤ c9 := by omega
  have HAB := Lib.hid hab
  clear F T B AA RR RD RT ho hn hz hN hTL hTd h1
  conv => arg 2; whnf
  go_wp2_with fail
  refine HSAME.out.mono ?_
  rintro e w10 ⟨rfl, hf⟩
  have F10 := Lib.hid (HF.out.new0 hf)
  have hSM := HSM.out w10 hf
  have HSM2 := Lib.hid hSM
  clear hf b0 b1 b2 b3 b4 b5 b6 b7 b8 b9 d0 d1 d2 d3 d4 d5 d6 d7 d8 d9 HSAME hSM HSM HF HAB
  go_wp2_with fail
  refine (HSM2.out _).mono ?_
  rintro e w11 ⟨rfl, m, hm⟩
  have F11 : Hid (Frm No w w11) := by show Frm No w w11; rw [hm]; exact F10.out.drewN m
  clear hm F10 HSM2
  go_wp2_with fail
  go_ret
  exact ⟨rfl, F11.out⟩

set_option maxRecDepth 100000 in
set_option maxHeartbeats 4000000 in
theorem turned_d (w W : World) (u0 u1 u2 u3 u4 u8 u10 u14 u15 u16 u17 u18 u19 u20 u21 u22 u23 u24 u25 u26 u27 u28 u29 u30 u31 u32 u33 u34 u35 u36 u37 u38 u39 u40 u41 u42 u43 u44 u45 u46 u47 u48 u49 u50 u51 u52 u53 u54 u55 u56 u57 u58 u59 u60 u61 u62 u63 u64 u65 u66 u67 u68 u69 u70 u71 u72 u73 u74 u75 u76 u77 u78 u79 u80 u81 u82 u83 u84 u85 u86 u87 u88 u89 u90 u91 u92 u93 u94 u95 u96 u97 u98 u99 u100 u101 u102 u103 u104 u105 u106 u107 u108 u109 : Value) (hb tb g N c4 z g9 c9 g10 c10 : Nat) (tos id : Nat) (hdf hmf : Bool) (off ttl pro src dst : Nat) (A DD : Option Addr) (o oc n dc2 : Nat) (opts data : List UInt8) (TT : List UInt8) (ho : opts.length = o) (ho40 : o ≤ 40) (hn : data.length = n) (hn80 : n ≤ 80) (hz : z = 20 + o) (hN : N = 20 + o + n) (hTL : TT.length = N) (hTd : TT.drop z = data) (hc9 : N ≤ c9)
    (K : Act → World → Prop) (hK : ∀ a W, Code.wp Try.prog (dropS 9 B9) (bodyPost Try.prog Try.f9 (BoolNo true w)) a W → K a W)
    (hwb : w.heap.size ≤ hb) (htb : hb < tb) (hg9 : hb < g9) (hg10 : hb < g10) (hA : ∀ k, blk A = some k → k < hb) (hD : ∀ k, blk DD = some k → k < hb)
    (F : Frm No w W) (T : Blk W hb 28 #[.int .u8 (tos : Int), .int .u16 (id : Int), .bool hdf, .bool hmf, .int .i64 (off : Int), .int .u8 (ttl : Int), .int .u8 (pro : Int), .int .u32 (src : Int), .int .u32 (dst : Int), .slice A o oc]) (B : Blk W tb 28 #[.int .u8 (tos : Int), .int .u16 (id : Int), .bool hdf, .bool hmf, .int .i64 (off : Int), .int .u8 (ttl : Int), .int .u8 (pro : Int), .int .u32 (dst : Int), .int .u32 (src : Int), .slice (some ⟨g10, 0, none⟩) o c10]) (AA : Rds W A opts) (RR : Rds W (some ⟨g10, 0, none⟩) opts) (RD : Rds W DD data) (RT : Rds W (some ⟨g9, 0, none⟩) TT) :
    Code.wp Try.prog (headS (dropS 8 B9)) (Exit.then K (bodyPost Try.prog Try.f9 (BoolNo true w))) ⟨#[u0, u1, u2, u3, u4, .pointer (some ⟨hb, 0, none⟩), .slice DD n dc2, .slice (some ⟨g, 0, none⟩) N c4, u8, .slice (some ⟨g9, 0, none⟩) N c9, u10, .pointer (some ⟨tb, 0, none⟩), .int .i64 (z : Int), .int .i64 (N : Int), u14, u15, u16, u17, u18, u19, u20, u21, u22, u23, u24, u25, u26, u27, u28, u29, u30, u31, u32, u33, u34, u35, u36, u37, u38, u39, u40, u41, u42, u43, u44, u45, u46, u47, u48, u49, u50, u51, u52, u53, u54, u55, u56, u57, u58, u59, u60, u61, u62, u63, u64, u65, u66, u67, u68, u69, u70, u71, u72, u73, u74, u75, u76, u77, u78, u79, u80, u81, u82, u83, u84, u85, u86, u87, u88, u89, u90, u91, u92, u93, u94, u95, u96, u97, u98, u99, u100, u101, u102, u103, u104, u105, u106, u107, u108, u109], []⟩ W := by
  obtain ⟨W2, hW2⟩ : ∃ W2, W2 = (W.setCell ⟨hb, 7, none⟩ (.int .u32 (dst : Int))).setCell ⟨hb, 8, none⟩ (.int .u32 (src : Int)) := ⟨_, rfl⟩
  have f2 : Frm (One hb) W W2 := by rw [hW2]; exact ((Frm.refl (One hb) W).set1 7 _).set1 8 _
  have F2 := Lib.hid (F.trans f2 (fun i hi h => by have : i = hb := h; omega))
  have T2 : Hid (Blk W2 hb 28 #[.int .u8 (tos : Int), .int .u16 (id : Int), .bool hdf, .bool hmf, .int .i64 (off : Int), .int .u8 (ttl : Int), .int .u8 (pro : Int), .int .u32 (dst : Int), .int .u32 (src : Int), .slice A o oc]) := by show Blk W2 _ _ _; rw [hW2]; exact (T.set_ 7 _).set_ 8 _
  have B2 := Lib.hid (B.frm f2 (fun h => by have : tb = hb := h; omega))
  have AA2 := Lib.hid (AA.frm f2 (fun k hk h => by have := hA k hk; have : k = hb := h; omega))
  have RD2 := Lib.hid (RD.frm f2 (fun k hk h => by have := hD k hk; have : k = hb := h; omega))
  have RR2 := Lib.hid (RR.frm f2 (fun k hk h => by simp only [blk, Option.map_some, Option.some.injEq] at hk; have : k = hb := h; omega))
  have RT2 := Lib.hid (RT.frm f2 (fun k hk h => by simp only [blk, Option.map_some, Option.some.injEq] at hk; have : k = hb := h; omega))
  have HE := Lib.hid (turned_e w W2)
  obtain ⟨b0, b1, b2, b3, b4, b5, b6, b7, b8, b9⟩ := blk10 T
  have z7 := T.frozen 7
  have z8 := T.frozen 8
  have HK := Lib.hid hK
  have HO := Lib.hid ho
  have HN := Lib.hid hn
  have HZ := Lib.hid hz
  have HNN := Lib.hid hN
  have HTL := Lib.hid hTL
  have HTD := Lib.hid hTd
  clear f2 F T B AA RR RD RT hK ho hn hz hN hTL hTd hA hD
  conv => arg 2; whnf
  go_wp2_with fail
  rw [← hW2]
  have hKK := HK.out
  refine hKK _ _ ?_
  exact turned_e w W2 _ _ _ _ _ _ _ _ _ _ _ _ _ _ _ _ _ _ _ _ _ _ _ _ _ _ _ _ _ _ _ _ _ _ _ _ _ _ _ _ _ _ _ _ _ _ _ _ _ _ _ _ _ _ _ _ _ _ _ _ _ _ _ _ _ _ _ _ _ _ _ _ _ _ _ _ _ _ _ _ _ _ _ _ _ _ _ _ _ _ _ _ _ _ _ _ _ _ _ _ _ _ _ hb tb g N c4 z g9 c9 g10 c10 tos id hdf hmf off ttl pro src dst A DD o oc n dc2 opts data TT HO.out ho40 HN.out hn80 HZ.out HNN.out HTL.out HTD.out hc9 F2.out T2.out B2.out AA2.out RR2.out RD2.out RT2.out

set_option maxRecDepth 100000 in
set_option maxHeartbeats 4000000 in
theorem turned_c2 (w W : World) (u0 u1 u2 u3 u4 u17 u18 u19 u20 u21 u22 u23 u24 u25 u26 u27 u28 u29 u30 u31 u32 u33 u34 u35 u36 u37 u38 u39 u40 u41 u42 u43 u44 u45 u46 u47 u48 u49 u50 u51 u52 u53 u54 u55 u56 u57 u58 u59 u60 u61 u62 u63 u64 u65 u66 u67 u68 u69 u70 u71 u72 u73 u74 u75 u76 u77 u78 u79 u80 u81 u82 u83 u84 u85 u86 u87 u88 u89 u90 u91 u92 u93 u94 u95 u96 u97 u98 u99 u100 u101 u102 u103 u104 u105 u106 u107 u108 u109 : Value) (hb tb g N c4 z g9 c9 g10 c10 g11 c11 : Nat) (tos id : Nat) (hdf hmf : Bool) (off ttl pro src dst : Nat) (A DD : Option Addr) (o oc n dc2 : Nat) (opts data : List UInt8) (TT L : List UInt8) (p q : UInt8)
    (K K' : Act → World → Prop) (hK : ∀ a W, Code.wp Try.prog (tailS (headS (dropS 7 B9))) (Exit.then K' (bodyPost Try.prog Try.f9 (BoolNo true w))) a W → K a W) (hK' : ∀ a W, Code.wp Try.prog (dropS 8 B9) (bodyPost Try.prog Try.f9 (BoolNo true w)) a W → K' a W) (ho : opts.length = o) (ho40 : o ≤ 40) (hn : data.length = n) (hn80 : n ≤ 80) (hz : z = 20 + o) (hN : N = 20 + o + n) (hTL : TT.length = N) (hTd : TT.drop z = data) (hc9 : N ≤ c9)
    (hwb : w.heap.size ≤ hb) (htb : hb < tb) (hg9 : hb < g9) (hg10 : hb < g10) (hA : ∀ k, blk A = some k → k < hb) (hD : ∀ k, blk DD = some k → k < hb)
    (F : Frm No w W) (T : Blk W hb 28 #[.int .u8 (tos : Int), .int .u16 (id : Int), .bool hdf, .bool hmf, .int .i64 (off : Int), .int .u8 (ttl : Int), .int .u8 (pro : Int), .int .u32 (src : Int), .int .u32 (dst : Int), .slice A o oc]) (B : Blk W tb 28 #[.int .u8 (tos : Int), .int .u16 (id : Int), .bool hdf, .bool hmf, .int .i64 (off : Int), .int .u8 (ttl : Int), .int .u8 (pro : Int), .int .u32 (dst : Int), .int .u32 (src : Int), .slice (some ⟨g10, 0, none⟩) o c10]) (AA : Rds W A opts) (RR : Rds W (some ⟨g10, 0, none⟩) opts) (RD : Rds W DD data) (RT : Rds W (some ⟨g9, 0, none⟩) TT)
    (hLL : L.length = N) (RL : Rds W (some ⟨g, 0, none⟩) L) (RL2 : Rds W (some ⟨g11, 0, none⟩) L)
    (e10 : W.cell? ⟨g, 10, none⟩ = some (.int .u8 (p.toNat : Int))) (e11 : W.cell? ⟨g, 11, none⟩ = some (.int .u8 (q.toNat : Int))) (d10 : W.cell? ⟨g9, 10, none⟩ = some (.int .u8 (p.toNat : Int))) (d11 : W.cell? ⟨g9, 11, none⟩ = some (.int .u8 (q.toNat : Int))) :
    Code.wp Try.prog (headS (headS (dropS 7 B9))) (Exit.then K (Exit.then K' (bodyPost Try.prog Try.f9 (BoolNo true w)))) ⟨#[u0, u1, u2, u3, u4, .pointer (some ⟨hb, 0, none⟩), .slice DD n dc2, .slice (some ⟨g, 0, none⟩) N c4, .int .i64 0, .slice (some ⟨g9, 0, none⟩) N c9, .int .i64 0, .pointer (some ⟨tb, 0, none⟩), .int .i64 (z : Int), .int .i64 (N : Int), .int .i64 0, .slice (some ⟨g11, 0, none⟩) N c11, .int .i64 0, u17, u18, u19, u20, u21, u22, u23, u24, u25, u26, u27, u28, u29, u30, u31, u32, u33, u34, u35, u36, u37, u38, u39, u40, u41, u42, u43, u44, u45, u46, u47, u48, u49, u50, u51, u52, u53, u54, u55, u56, u57, u58, u59, u60, u61, u62, u63, u64, u65, u66, u67, u68, u69, u70, u71, u72, u73, u74, u75, u76, u77, u78, u79, u80, u81, u82, u83, u84, u85, u86, u87, u88, u89, u90, u91, u92, u93, u94, u95, u96, u97, u98, u99, u100, u101, u102, u103, u104, u105, u106, u107, u108, u109], []⟩ W := by
  have HS2 := Lib.hid (fun m => (by
    have h2 := sames_any (W.drewN m) (some ⟨g11, 0, none⟩) (some ⟨g, 0, none⟩) c11 c4 L L (RL2.drewN m) (RL.drewN m) (by omega)
    rw [hLL, show decide (L = L) = true from decide_eq_true rfl] at h2
    exact h2 : Calls Try.prog 22 #[.slice (some ⟨g11, 0, none⟩) N c11, .slice (some ⟨g, 0, none⟩) N c4] (W.drewN m) fun e w' => e = .returned (.bool true) ∧ ∃ m', w' = (W.drewN m).drewN m'))
  have j10 : (10 : Int) < N := by omega
  have j11 : (11 : Int) < N := by omega
  have hpp : ((p.toNat : Int) != (p.toNat : Int)) = false := by simp
  have hqq : ((q.toNat : Int) != (q.toNat : Int)) = false := by simp
  have HO := Lib.hid ho
  have HN := Lib.hid hn
  have HZ := Lib.hid hz
  have HNN := Lib.hid hN
  have HTL := Lib.hid hTL
  have HTD := Lib.hid hTd
  have HA := Lib.hid hA
  have HD := Lib.hid hD
  have F' := Lib.hid F
  have T' := Lib.hid T
  have B' := Lib.hid B
  have AA' := Lib.hid AA
  have RR' := Lib.hid RR
  have RD' := Lib.hid RD
  have RT' := Lib.hid RT
  clear ho hn hz hN hTL hTd hA hD F T B AA RR RD RT RL RL2 hLL
  have HK := Lib.hid hK
  have HK' := Lib.hid hK'
  clear hK hK'
  conv => arg 2; whnf
  go_quiet (exact Calls.quiet_of (HS2.out _))
  have hKK := HK.out
  show K _ _
  refine hKK _ _ ?_
  conv => arg 2; whnf
  clear hKK HK
  have hKK := HK'.out
  go_wp2_with fail
  conv => arg 2; whnf
  go_upto_region 10 with fail
  exact turned_d w (W.drewN nq) _ _ _ _ _ _ _ _ _ _ _ _ _ _ _ _ _ _ _ _ _ _ _ _ _ _ _ _ _ _ _ _ _ _ _ _ _ _ _ _ _ _ _ _ _ _ _ _ _ _ _ _ _ _ _ _ _ _ _ _ _ _ _ _ _ _ _ _ _ _ _ _ _ _ _ _ _ _ _ _ _ _ _ _ _ _ _ _ _ _ _ _ _ _ _ _ _ _ _ _ _ _ _ hb tb g N c4 z g9 c9 g10 c10 tos id hdf hmf off ttl pro src dst A DD o oc n dc2 opts data TT HO.out ho40 HN.out hn80 HZ.out HNN.out HTL.out HTD.out hc9 _ (by assumption) hwb htb hg9 hg10 HA.out HD.out (F'.out.drewN nq) (T'.out.drewN nq) (B'.out.drewN nq) (AA'.out.drewN nq) (RR'.out.drewN nq) (RD'.out.drewN nq) (RT'.out.drewN nq)

set_option maxRecDepth 100000 in
set_option maxHeartbeats 8000000 in
theorem turned_b (w w3 w4 : World) (u0 u2 u3 u4 u9 u10 u11 u12 u13 u14 u15 u16 u17 u18 u19 u20 u21 u22 u23 u24 u25 u26 u27 u28 u29 u30 u31 u32 u33 u34 u35 u36 u37 u38 u39 u40 u41 u42 u43 u44 u45 u46 u47 u48 u49 u50 u51 u52 u53 u54 u55 u56 u57 u58 u59 u60 u61 u62 u63 u64 u65 u66 u67 u68 u69 u70 u71 u72 u73 u74 u75 u76 u77 u78 u79 u80 u81 u82 u83 u84 u85 u86 u87 u88 u89 u90 u91 u92 u93 u94 u95 u96 u97 u98 u99 u100 u101 u102 u103 u104 u105 u106 u107 u108 u109 : Value) (hb g N c4 z k bh : Nat) (tos id : Nat) (hdf hmf : Bool) (off ttl pro src dst : Nat) (A DD : Option Addr) (o oc n dc2 : Nat) (opts data : List UInt8) (TT L : List UInt8)
    (K : Act → World → Prop) (hK : ∀ a W, Code.wp Try.prog (dropS 5 B9) (bodyPost Try.prog Try.f9 (BoolNo true w)) a W → K a W)
    (ho : opts.length = o) (ho40 : o ≤ 40) (hn : data.length = n) (hn80 : n ≤ 80) (hz : z = 20 + o) (hN : N = 20 + o + n) (hk : (bh : Int) % 9 = (k : Int)) (_hk9 : k < 9)
    (t1 : Finds TT ⟨tos, id, hdf, hmf, off, ttl, pro, dst, src⟩ opts data) (t2 : turnOf TT = L) (t3 : turnOf (L ++ List.replicate k 0) = TT) (hpf : Finds (L ++ List.replicate k 0) ⟨tos, id, hdf, hmf, off, ttl, pro, src, dst⟩ opts data)
    (hLL : L.length = N) (hTL : TT.length = N) (t4 : TT.getD 10 0 = L.getD 10 0) (t5 : TT.getD 11 0 = L.getD 11 0)
    (hwb : w.heap.size ≤ hb) (hhb : hb < w3.heap.size) (hA : ∀ k, blk A = some k → k < hb) (hD : ∀ k, blk DD = some k → k < hb)
    (F4 : Frm No w w4) (T4 : Blk w4 hb 28 #[.int .u8 (tos : Int), .int .u16 (id : Int), .bool hdf, .bool hmf, .int .i64 (off : Int), .int .u8 (ttl : Int), .int .u8 (pro : Int), .int .u32 (src : Int), .int .u32 (dst : Int), .slice A o oc]) (RA4 : Rds w4 A opts) (RD4 : Rds w4 DD data) (R4 : Row w4 w3.heap.size g N c4 L) :
    Code.wp Try.prog (headS (dropS 4 B9)) (Exit.then K (bodyPost Try.prog Try.f9 (BoolNo true w))) ⟨#[u0, .int .u8 (bh : Int), u2, u3, u4, .pointer (some ⟨hb, 0, none⟩), .slice DD n dc2, .slice (some ⟨g, 0, none⟩) N c4, .int .i64 0, u9, u10, u11, u12, u13, u14, u15, u16, u17, u18, u19, u20, u21, u22, u23, u24, u25, u26, u27, u28, u29, u30, u31, u32, u33, u34, u35, u36, u37, u38, u39, u40, u41, u42, u43, u44, u45, u46, u47, u48, u49, u50, u51, u52, u53, u54, u55, u56, u57, u58, u59, u60, u61, u62, u63, u64, u65, u66, u67, u68, u69, u70, u71, u72, u73, u74, u75, u76, u77, u78, u79, u80, u81, u82, u83, u84, u85, u86, u87, u88, u89, u90, u91, u92, u93, u94, u95, u96, u97, u98, u99, u100, u101, u102, u103, u104, u105, u106, u107, u108, u109], []⟩ w4 := by
  have HK := Lib.hid hK
  clear hK
  have HTU := Lib.hid (fun W (A' : Option Addr) (c' : Nat) (hc : N + k ≤ c') (h1 : Rds W A' (L ++ List.replicate k 0)) => turn_yes W A' (N + k) c' (L ++ List.replicate k 0) (by rw [List.length_append, hLL, List.length_replicate]) hc (by omega) h1 hpf.nf N (by rw [hpf.tot, ho, hn, hN]))
  have HT2 := Lib.hid (fun W (A' : Option Addr) (c' : Nat) (hc : N ≤ c') (h1 : Rds W A' TT) => turn_yes W A' N c' TT hTL hc (by omega) h1 t1.nf N (by rw [t1.tot, ho, hn, hN]))
  unfold TurnOk at HTU HT2
  rw [t3] at HTU
  rw [t2] at HT2
  have HRF := Lib.hid (fun W (A' : Option Addr) (c' : Nat) (hc : N ≤ c') (h1 : Rds W A' TT) => read_found2 W A' N c' TT hTL hc (by omega) h1 tos id hdf hmf off ttl pro dst src opts data t1 o z N ho hz (by rw [hn]; exact hN))
  unfold ReadFound2 at HRF
  have hTd : TT.drop z = data := by
    have h1 := t1.data
    unfold dataAt at h1
    rw [show totAt TT = TT.length by rw [t1.tot, hTL, ho, hn, hN], List.take_length, show sizeAt TT = z by rw [t1.size, ho, hz]] at h1
    exact h1
  have c10 : L.getD 10 0 = L[10]'(by omega) := getD_at _
  have c11 : L.getD 11 0 = L[11]'(by omega) := getD_at _
  have d10 : TT.getD 10 0 = TT[10]'(by omega) := getD_at _
  have d11 : TT.getD 11 0 = TT[11]'(by omega) := getD_at _
  have CL := Lib.hid (fun W base g c (h : Row W base g N c L) => (⟨(h.cell 10 (by omega)).trans (by rw [← c10]; rfl), (h.cell 11 (by omega)).trans (by rw [← c11]; rfl)⟩ : W.cell? ⟨g, 10, none⟩ = some (.int .u8 ((L.getD 10 0).toNat : Int)) ∧ W.cell? ⟨g, 11, none⟩ = some (.int .u8 ((L.getD 11 0).toNat : Int))))
  have CT := Lib.hid (fun W base g c (h : Row W base g N c TT) => (⟨(h.cell 10 (by omega)).trans (by rw [← d10, t4]; rfl), (h.cell 11 (by omega)).trans (by rw [← d11, t5]; rfl)⟩ : W.cell? ⟨g, 10, none⟩ = some (.int .u8 ((L.getD 10 0).toNat : Int)) ∧ W.cell? ⟨g, 11, none⟩ = some (.int .u8 ((L.getD 11 0).toNat : Int))))
  obtain ⟨p, hp⟩ : ∃ p, L.getD 10 0 = p := ⟨_, rfl⟩
  obtain ⟨q, hq⟩ : ∃ p, L.getD 11 0 = p := ⟨_, rfl⟩
  rw [hp, hq] at CL CT
  obtain ⟨ad', c', w8, hrun, hc8, hr8, hf8⟩ := run_zeros_full w4 22 ⟨g, 0, none⟩ N L hLL R4.rds k (by omega) (by omega)
  have HRUN := Lib.hid hrun
  have HR8 := Lib.hid hr8
  have F8 := Lib.hid (F4.new0 hf8)
  have T8 := Lib.hid (T4.frm hf8 (fun x => x))
  have RA8 := Lib.hid (RA4.frm hf8 (fun _ _ x => x))
  have RD8 := Lib.hid (RD4.frm hf8 (fun _ _ x => x))
  have R8 := Lib.hid (R4.frm hf8 (fun x => x))
  have e8 : (N : Int) ≤ c4 := by have := R4.cap.1; omega
  have hbg : hb < g := by have := R4.cap.2.1; omega
  have z20 : 20 ≤ z := by omega
  have N20 : 20 ≤ N := by omega
  have hN7 : N ≤ 200 := by omega
  have hkk : IntKind.u8.wrap (k : Int) = k := by
    have e : IntKind.u8.wrap (k : Int) = (k : Int) % 256 := rfl
    rw [e]; omega
  have hw8 : hb < w8.heap.size := T8.out.lt
  have HO := Lib.hid ho
  have HN := Lib.hid hn
  have HZ := Lib.hid hz
  have HNN := Lib.hid hN
  have HTL := Lib.hid hTL
  have HLL := Lib.hid hLL
  have HTD := Lib.hid hTd
  have HA := Lib.hid hA
  have HD := Lib.hid hD
  clear hrun hr8 hf8 F4 T4 RA4 RD4 R4 ho hn hz hN hTL hTd hA hD c10 c11 d10 d11 hp hq t1 t2 t3 hpf hLL t4 t5
  conv => arg 2; whnf
  go_upto_region 6 with (at_builtin; refine Lib.wpList_append_run _ rfl (.tmp 36) (.tmp 38) 22 5 rfl (.slice (some ⟨g, 0, none⟩) N N) (.int .u8 (k : Int)) ?hs ?hx _ _ HRUN.out ?_; (case hs => exact rfl); (case hx => (show Value.int IntKind.u8 ((bh : Int) % 9) = _; rw [hk])))
  refine (HTU.out w8 (some ad') c' hc8 HR8.out).mono ?_
  rintro e w9 ⟨g9, c9, rfl, hrow, hf⟩
  have F9 := Lib.hid (F8.out.new0 hf)
  have T9 := Lib.hid (T8.out.frm hf (fun x => x))
  have RA9 := Lib.hid (RA8.out.frm hf (fun _ _ x => x))
  have RD9 := Lib.hid (RD8.out.frm hf (fun _ _ x => x))
  have R9 := Lib.hid (R8.out.frm hf (fun x => x))
  have Q9 := Lib.hid hrow
  have hc9 : N ≤ c9 := hrow.cap.1
  have e9 : (N : Int) ≤ c9 := by omega
  have hbg9 : hb < g9 := by have := hrow.cap.2.1; omega
  clear hrow hf F8 T8 RA8 RD8 R8 HRUN HR8 HTU
  go_wp2_with fail
  have hKK := HK.out
  refine hKK _ _ ?_
  clear hKK HK
  conv => arg 2; whnf
  go_wp2_with fail
  refine (HRF.out w9 (some ⟨g9, 0, none⟩) c9 hc9 Q9.out.rds).mono ?_
  rintro e w10 ⟨g10, c10, rfl, hrow, hf⟩
  obtain ⟨W10, hW10⟩ : ∃ W, W = w10.alloc (.cells #[.int .u8 (tos : Int), .int .u16 (id : Int), .bool hdf, .bool hmf, .int .i64 (off : Int), .int .u8 (ttl : Int), .int .u8 (pro : Int), .int .u32 (dst : Int), .int .u32 (src : Int), .slice (some ⟨g10, 0, none⟩) o c10] 28) := ⟨_, rfl⟩
  have f10 : Frm No w9 W10 := by rw [hW10]; exact hf.alloc _
  have B10 : Hid (Blk W10 w10.heap.size 28 #[.int .u8 (tos : Int), .int .u16 (id : Int), .bool hdf, .bool hmf, .int .i64 (off : Int), .int .u8 (ttl : Int), .int .u8 (pro : Int), .int .u32 (dst : Int), .int .u32 (src : Int), .slice (some ⟨g10, 0, none⟩) o c10]) := by show Blk W10 _ _ _; rw [hW10]; exact Blk.new w10 28 _
  have O10 : Hid (Rds W10 (some ⟨g10, 0, none⟩) opts) := by show Rds W10 _ _; rw [hW10]; exact hrow.rds.alloc _
  have F10 := Lib.hid (F9.out.new0 f10)
  have T10 := Lib.hid (T9.out.frm f10 (fun x => x))
  have RA10 := Lib.hid (RA9.out.frm f10 (fun _ _ x => x))
  have RD10 := Lib.hid (RD9.out.frm f10 (fun _ _ x => x))
  have R10 := Lib.hid (R9.out.frm f10 (fun x => x))
  have Q10 := Lib.hid (Q9.out.frm f10 (fun x => x))
  have hbb : hb < w10.heap.size := by have := T9.out.lt; have := hf.size; omega
  have hbg10 : hb < g10 := by have := T9.out.lt; have := hrow.cap.2.1; omega
  go_upto_region 7 with fail
  rw [← hW10]
  obtain ⟨tb, htb⟩ : ∃ b, b = w10.heap.size := ⟨_, rfl⟩
  rw [← htb] at B10 hbb ⊢
  clear hrow hf f10 hW10 htb F9 T9 RA9 RD9 R9 Q9 HRF
  go_wp2_with fail
  refine (HT2.out W10 (some ⟨g9, 0, none⟩) c9 hc9 Q10.out.rds).mono ?_
  rintro e w11 ⟨g11, c11, rfl, hrow, hf⟩
  have F11 := Lib.hid (F10.out.new0 hf)
  have T11 := Lib.hid (T10.out.frm hf (fun x => x))
  have B11 := Lib.hid (B10.out.frm hf (fun x => x))
  have O11 := Lib.hid (O10.out.frm hf (fun _ _ x => x))
  have RA11 := Lib.hid (RA10.out.frm hf (fun _ _ x => x))
  have RD11 := Lib.hid (RD10.out.frm hf (fun _ _ x => x))
  have R11 := Lib.hid (R10.out.frm hf (fun x => x))
  have Q11 := Lib.hid (Q10.out.frm hf (fun x => x))
  have P11 := Lib.hid hrow.rds
  clear hrow hf F10 T10 B10 O10 RA10 RD10 R10 Q10 HT2
  have CL2 := Lib.hid (CL.out w11 _ g c4 R11.out)
  have CT2 := Lib.hid (CT.out w11 _ g9 c9 Q11.out)
  clear CL CT
  go_upto_region 8 with fail
  exact turned_c2 w w11 _ _ _ _ _ _ _ _ _ _ _ _ _ _ _ _ _ _ _ _ _ _ _ _ _ _ _ _ _ _ _ _ _ _ _ _ _ _ _ _ _ _ _ _ _ _ _ _ _ _ _ _ _ _ _ _ _ _ _ _ _ _ _ _ _ _ _ _ _ _ _ _ _ _ _ _ _ _ _ _ _ _ _ _ _ _ _ _ _ _ _ _ _ _ _ _ _ _ hb tb g N c4 z g9 c9 g10 c10 g11 c11 tos id hdf hmf off ttl pro src dst A DD o oc n dc2 opts data TT L p q _ _ (by assumption) (by assumption) HO.out ho40 HN.out hn80 HZ.out HNN.out HTL.out HTD.out hc9 hwb hbb hbg9 hbg10 HA.out HD.out F11.out T11.out B11.out RA11.out O11.out RD11.out Q11.out.rds HLL.out R11.out.rds P11.out CL2.out.1 CL2.out.2 CT2.out.1 CT2.out.2
end Go.Proofs.Ytcclneaabnpbkaa
