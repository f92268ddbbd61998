/-
  IpHops: the rounds, and what is behind them.
-/
import Derived.Test.YtcclneaabnpbkaaHb
import Derived.LoopN
import Derived.Lib.AppendZerosOnto
namespace Go.Proofs.Ytcclneaabnpbkaa
open Go.RowKit
attribute [local go_sem] undef

set_option maxRecDepth 100000 in
set_option maxHeartbeats 4000000 in
theorem hops_end (w W : World) (u0 u1 u2 u3 u4 u8 u9 u10 u11 u12 u13 u14 u15 u16 u17 u18 u19 u20 u21 u22 u23 u24 u25 u26 u27 u28 u29 u30 u31 u32 u33 u34 u35 u36 u37 u38 u39 u40 u41 u42 u43 u44 u45 u46 u47 u48 u49 u50 u51 u52 u53 u54 u55 u56 u57 u58 u59 u60 u61 u62 u63 u64 u65 u66 u67 u68 u69 u70 u71 u72 u73 u74 u75 u76 u77 u78 u79 u80 u81 u82 u83 u84 u85 u86 u87 u88 u89 u90 u91 u92 u93 u94 u95 u96 u97 u98 u99 u100 u101 u102 u103 u104 u105 u106 u107 u108 u109 u110 u111 u112 u113 u114 u115 u116 u117 u118 u119 u120 u121 u122 u123 u124 u125 u126 u127 u128 u129 u130 u131 u132 u133 u134 u135 u136 u137 u138 u139 u140 u141 u142 u143 u144 u145 u146 u147 u148 u149 u150 u151 u152 u153 u154 : Value) (hb M cM : Nat) (ad : Addr) (DD : Option Addr) (n dc2 : Nat) (B : List UInt8) (hBL : B.length = M) (hM2 : M ≤ 300) (hMc : M ≤ cM) (nf : NoFault B) (ht : byteAt B 8 ≤ 1) (F0 : Frm No w W) (RB : Rds W (some ad) B) :
    Code.wp Try.prog (dropS 8 B8) (bodyPost Try.prog Try.f8 (BoolNo true w)) ⟨#[u0, u1, u2, u3, u4, .pointer (some ⟨hb, 0, none⟩), .slice DD n dc2, .slice (some ad) M cM, u8, u9, u10, u11, u12, u13, u14, u15, u16, u17, u18, u19, u20, u21, u22, u23, u24, u25, u26, u27, u28, u29, u30, u31, u32, u33, u34, u35, u36, u37, u38, u39, u40, u41, u42, u43, u44, u45, u46, u47, u48, u49, u50, u51, u52, u53, u54, u55, u56, u57, u58, u59, u60, u61, u62, u63, u64, u65, u66, u67, u68, u69, u70, u71, u72, u73, u74, u75, u76, u77, u78, u79, u80, u81, u82, u83, u84, u85, u86, u87, u88, u89, u90, u91, u92, u93, u94, u95, u96, u97, u98, u99, u100, u101, u102, u103, u104, u105, u106, u107, u108, u109, u110, u111, u112, u113, u114, u115, u116, u117, u118, u119, u120, u121, u122, u123, u124, u125, u126, u127, u128, u129, u130, u131, u132, u133, u134, u135, u136, u137, u138, u139, u140, u141, u142, u143, u144, u145, u146, u147, u148, u149, u150, u151, u152, u153, u154], []⟩ W := by
  have HT := Lib.hid (hop_ttl W (some ad) M cM B hBL hMc (by omega) RB nf ht)
  have F := Lib.hid F0
  clear F0 RB nf ht hBL
  conv => arg 2; whnf
  go_wp2_with fail
  refine HT.out.mono ?_
  rintro e w1 ⟨rfl, hf⟩
  have F1 := Lib.hid (F.out.new0 hf)
  clear hf
  go_wp2_with fail
  go_ret
  exact ⟨rfl, F1.out⟩

set_option maxRecDepth 100000 in
set_option maxHeartbeats 8000000 in
theorem hops_rounds (w : World) (hb N z : Nat) (tos id : Nat) (hdf hmf : Bool) (off pro src dst : Nat) (A DD : Option Addr) (o oc n dc2 : Nat) (opts data : List UInt8) (Q0 : Exit → Act → World → Prop)
    (ho : opts.length = o) (ho40 : o ≤ 40) (hn : data.length = n) (hn80 : n ≤ 80) (hz : z = 20 + o) (hN : N = 20 + o + n) (hR : rightB opts.length (off : Int) hmf (data.length : Int) = true)
    (hwb : w.heap.size ≤ hb) (hA : ∀ k, blk A = some k → k < hb) (hD : ∀ k, blk DD = some k → k < hb)
    (hexit : ∀ (u0 u1 u2 u3 u4 u8 u9 u10 u11 u12 u13 u14 u15 u16 u17 u18 u19 u20 u21 u22 u23 u24 u25 u26 u27 u28 u29 u30 u31 u32 u33 u34 u35 u36 u37 u38 u39 u40 u41 u42 u43 u44 u45 u46 u47 u48 u49 u50 u51 u52 u53 u54 u55 u56 u57 u58 u59 u60 u61 u62 u63 u64 u65 u66 u67 u68 u69 u70 u71 u72 u73 u74 u75 u76 u77 u78 u79 u80 u81 u82 u83 u84 u85 u86 u87 u88 u89 u90 u91 u92 u93 u94 u95 u96 u97 u98 u99 u100 u101 u102 u103 u104 u105 u106 u107 u108 u109 u110 u111 u112 u113 u114 u115 u116 u117 u118 u119 u120 u121 u122 u123 u124 u125 u126 u127 u128 u129 u130 u131 u132 u133 u134 u135 u136 u137 u138 u139 u140 u141 u142 u143 u144 u145 u146 u147 u148 u149 u150 u151 u152 u153 u154 : Value) (M cM : Nat) (ad : Addr) (B : List UInt8) (W : World), B.length = M → M ≤ 300 → M ≤ cM → NoFault B → byteAt B 8 ≤ 1 → Frm No w W → Rds W (some ad) B → Q0 (.exit 0) ⟨#[u0, u1, u2, u3, u4, .pointer (some ⟨hb, 0, none⟩), .slice DD n dc2, .slice (some ad) M cM, u8, u9, u10, u11, u12, u13, u14, u15, u16, u17, u18, u19, u20, u21, u22, u23, u24, u25, u26, u27, u28, u29, u30, u31, u32, u33, u34, u35, u36, u37, u38, u39, u40, u41, u42, u43, u44, u45, u46, u47, u48, u49, u50, u51, u52, u53, u54, u55, u56, u57, u58, u59, u60, u61, u62, u63, u64, u65, u66, u67, u68, u69, u70, u71, u72, u73, u74, u75, u76, u77, u78, u79, u80, u81, u82, u83, u84, u85, u86, u87, u88, u89, u90, u91, u92, u93, u94, u95, u96, u97, u98, u99, u100, u101, u102, u103, u104, u105, u106, u107, u108, u109, u110, u111, u112, u113, u114, u115, u116, u117, u118, u119, u120, u121, u122, u123, u124, u125, u126, u127, u128, u129, u130, u131, u132, u133, u134, u135, u136, u137, u138, u139, u140, u141, u142, u143, u144, u145, u146, u147, u148, u149, u150, u151, u152, u153, u154], []⟩ W) :
    ∀ (t : Nat) (u0 u1 u2 u3 u4 u8 u9 u10 u11 u12 u13 u14 u15 u16 u17 u18 u19 u20 u21 u22 u23 u24 u25 u26 u27 u28 u29 u30 u31 u32 u33 u34 u35 u36 u37 u38 u39 u40 u41 u42 u43 u44 u45 u46 u47 u48 u49 u50 u51 u52 u53 u54 u55 u56 u57 u58 u59 u60 u61 u62 u63 u64 u65 u66 u67 u68 u69 u70 u71 u72 u73 u74 u75 u76 u77 u78 u79 u80 u81 u82 u83 u84 u85 u86 u87 u88 u89 u90 u91 u92 u93 u94 u95 u96 u97 u98 u99 u100 u101 u102 u103 u104 u105 u106 u107 u108 u109 u110 u111 u112 u113 u114 u115 u116 u117 u118 u119 u120 u121 u122 u123 u124 u125 u126 u127 u128 u129 u130 u131 u132 u133 u134 u135 u136 u137 u138 u139 u140 u141 u142 u143 u144 u145 u146 u147 u148 u149 u150 u151 u152 u153 u154 : Value) (M cM : Nat) (ad : Addr) (B X : List UInt8) (W : World), Hd.Ok ⟨tos, id, hdf, hmf, off, t, pro, src, dst⟩ → B = pkt ⟨tos, id, hdf, hmf, off, t, pro, src, dst⟩ opts data ++ X → B.length = M → M ≤ 300 → M ≤ cM → HopW w W hb #[.int .u8 (tos : Int), .int .u16 (id : Int), .bool hdf, .bool hmf, .int .i64 (off : Int), .int .u8 (t : Int), .int .u8 (pro : Int), .int .u32 (src : Int), .int .u32 (dst : Int), .slice A o oc] A DD opts data ad B →
      Code.rounds Try.prog L8 Q0 (t + 1) ⟨#[u0, u1, u2, u3, u4, .pointer (some ⟨hb, 0, none⟩), .slice DD n dc2, .slice (some ad) M cM, u8, u9, u10, u11, u12, u13, u14, u15, u16, u17, u18, u19, u20, u21, u22, u23, u24, u25, u26, u27, u28, u29, u30, u31, u32, u33, u34, u35, u36, u37, u38, u39, u40, u41, u42, u43, u44, u45, u46, u47, u48, u49, u50, u51, u52, u53, u54, u55, u56, u57, u58, u59, u60, u61, u62, u63, u64, u65, u66, u67, u68, u69, u70, u71, u72, u73, u74, u75, u76, u77, u78, u79, u80, u81, u82, u83, u84, u85, u86, u87, u88, u89, u90, u91, u92, u93, u94, u95, u96, u97, u98, u99, u100, u101, u102, u103, u104, u105, u106, u107, u108, u109, u110, u111, u112, u113, u114, u115, u116, u117, u118, u119, u120, u121, u122, u123, u124, u125, u126, u127, u128, u129, u130, u131, u132, u133, u134, u135, u136, u137, u138, u139, u140, u141, u142, u143, u144, u145, u146, u147, u148, u149, u150, u151, u152, u153, u154], []⟩ W := by
  intro t
  induction t with
  | zero =>
    intro u0 u1 u2 u3 u4 u8 u9 u10 u11 u12 u13 u14 u15 u16 u17 u18 u19 u20 u21 u22 u23 u24 u25 u26 u27 u28 u29 u30 u31 u32 u33 u34 u35 u36 u37 u38 u39 u40 u41 u42 u43 u44 u45 u46 u47 u48 u49 u50 u51 u52 u53 u54 u55 u56 u57 u58 u59 u60 u61 u62 u63 u64 u65 u66 u67 u68 u69 u70 u71 u72 u73 u74 u75 u76 u77 u78 u79 u80 u81 u82 u83 u84 u85 u86 u87 u88 u89 u90 u91 u92 u93 u94 u95 u96 u97 u98 u99 u100 u101 u102 u103 u104 u105 u106 u107 u108 u109 u110 u111 u112 u113 u114 u115 u116 u117 u118 u119 u120 u121 u122 u123 u124 u125 u126 u127 u128 u129 u130 u131 u132 u133 u134 u135 u136 u137 u138 u139 u140 u141 u142 u143 u144 u145 u146 u147 u148 u149 u150 u151 u152 u153 u154 M cM ad B X W ok hB hBL hM2 hMc S
    have PB := pkt_finds _ opts data X ok hR
    rw [← hB] at PB
    have HE := Lib.hid (fun y0 y1 y2 y3 y4 y8 y9 y10 y11 y12 y13 y14 y15 y16 y17 y18 y19 y20 y21 y22 y23 y24 y25 y26 y27 y28 y29 y30 y31 y32 y33 y34 y35 y36 y37 y38 y39 y40 y41 y42 y43 y44 y45 y46 y47 y48 y49 y50 y51 y52 y53 y54 y55 y56 y57 y58 y59 y60 y61 y62 y63 y64 y65 y66 y67 y68 y69 y70 y71 y72 y73 y74 y75 y76 y77 y78 y79 y80 y81 y82 y83 y84 y85 y86 y87 y88 y89 y90 y91 y92 y93 y94 y95 y96 y97 y98 y99 y100 y101 y102 y103 y104 y105 y106 y107 y108 y109 y110 y111 y112 y113 y114 y115 y116 y117 y118 y119 y120 y121 y122 y123 y124 y125 y126 y127 y128 y129 y130 y131 y132 y133 y134 y135 y136 y137 y138 y139 y140 y141 y142 y143 y144 y145 y146 y147 y148 y149 y150 y151 y152 y153 y154 => hexit y0 y1 y2 y3 y4 y8 y9 y10 y11 y12 y13 y14 y15 y16 y17 y18 y19 y20 y21 y22 y23 y24 y25 y26 y27 y28 y29 y30 y31 y32 y33 y34 y35 y36 y37 y38 y39 y40 y41 y42 y43 y44 y45 y46 y47 y48 y49 y50 y51 y52 y53 y54 y55 y56 y57 y58 y59 y60 y61 y62 y63 y64 y65 y66 y67 y68 y69 y70 y71 y72 y73 y74 y75 y76 y77 y78 y79 y80 y81 y82 y83 y84 y85 y86 y87 y88 y89 y90 y91 y92 y93 y94 y95 y96 y97 y98 y99 y100 y101 y102 y103 y104 y105 y106 y107 y108 y109 y110 y111 y112 y113 y114 y115 y116 y117 y118 y119 y120 y121 y122 y123 y124 y125 y126 y127 y128 y129 y130 y131 y132 y133 y134 y135 y136 y137 y138 y139 y140 y141 y142 y143 y144 y145 y146 y147 y148 y149 y150 y151 y152 y153 y154 M cM ad B W hBL hM2 hMc PB.nf (by rw [PB.hop.2]; exact Nat.zero_le _) S.1 S.2.2.2.2.1)
    obtain ⟨b0, b1, b2, b3, b4, b5, b6, b7, b8, b9⟩ := blk10 S.2.1
    clear S PB hB hBL hexit ok
    rw [rounds_succ]
    conv => arg 2; whnf
    go_wp2_with fail
    exact HE.out _ _ _ _ _ _ _ _ _ _ _ _ _ _ _ _ _ _ _ _ _ _ _ _ _ _ _ _ _ _ _ _ _ _ _ _ _ _ _ _ _ _ _ _ _ _ _ _ _ _ _ _ _ _ _ _ _ _ _ _ _ _ _ _ _ _ _ _ _ _ _ _ _ _ _ _ _ _ _ _ _ _ _ _ _ _ _ _ _ _ _ _ _ _ _ _ _ _ _ _ _ _ _ _ _ _ _ _ _ _ _ _ _ _ _ _ _ _ _ _ _ _ _ _ _ _ _ _ _ _ _ _ _ _ _ _ _ _ _ _ _ _ _ _ _ _ _ _ _ _ _ _
  | succ t1 ih =>
    intro u0 u1 u2 u3 u4 u8 u9 u10 u11 u12 u13 u14 u15 u16 u17 u18 u19 u20 u21 u22 u23 u24 u25 u26 u27 u28 u29 u30 u31 u32 u33 u34 u35 u36 u37 u38 u39 u40 u41 u42 u43 u44 u45 u46 u47 u48 u49 u50 u51 u52 u53 u54 u55 u56 u57 u58 u59 u60 u61 u62 u63 u64 u65 u66 u67 u68 u69 u70 u71 u72 u73 u74 u75 u76 u77 u78 u79 u80 u81 u82 u83 u84 u85 u86 u87 u88 u89 u90 u91 u92 u93 u94 u95 u96 u97 u98 u99 u100 u101 u102 u103 u104 u105 u106 u107 u108 u109 u110 u111 u112 u113 u114 u115 u116 u117 u118 u119 u120 u121 u122 u123 u124 u125 u126 u127 u128 u129 u130 u131 u132 u133 u134 u135 u136 u137 u138 u139 u140 u141 u142 u143 u144 u145 u146 u147 u148 u149 u150 u151 u152 u153 u154 M cM ad B X W ok hB hBL hM2 hMc S
    have IH := Lib.hid ih
    clear ih
    by_cases h1 : t1 = 0
    · subst h1
      have PB := pkt_finds _ opts data X ok hR
      rw [← hB] at PB
      have HE := Lib.hid (fun y0 y1 y2 y3 y4 y8 y9 y10 y11 y12 y13 y14 y15 y16 y17 y18 y19 y20 y21 y22 y23 y24 y25 y26 y27 y28 y29 y30 y31 y32 y33 y34 y35 y36 y37 y38 y39 y40 y41 y42 y43 y44 y45 y46 y47 y48 y49 y50 y51 y52 y53 y54 y55 y56 y57 y58 y59 y60 y61 y62 y63 y64 y65 y66 y67 y68 y69 y70 y71 y72 y73 y74 y75 y76 y77 y78 y79 y80 y81 y82 y83 y84 y85 y86 y87 y88 y89 y90 y91 y92 y93 y94 y95 y96 y97 y98 y99 y100 y101 y102 y103 y104 y105 y106 y107 y108 y109 y110 y111 y112 y113 y114 y115 y116 y117 y118 y119 y120 y121 y122 y123 y124 y125 y126 y127 y128 y129 y130 y131 y132 y133 y134 y135 y136 y137 y138 y139 y140 y141 y142 y143 y144 y145 y146 y147 y148 y149 y150 y151 y152 y153 y154 => hexit y0 y1 y2 y3 y4 y8 y9 y10 y11 y12 y13 y14 y15 y16 y17 y18 y19 y20 y21 y22 y23 y24 y25 y26 y27 y28 y29 y30 y31 y32 y33 y34 y35 y36 y37 y38 y39 y40 y41 y42 y43 y44 y45 y46 y47 y48 y49 y50 y51 y52 y53 y54 y55 y56 y57 y58 y59 y60 y61 y62 y63 y64 y65 y66 y67 y68 y69 y70 y71 y72 y73 y74 y75 y76 y77 y78 y79 y80 y81 y82 y83 y84 y85 y86 y87 y88 y89 y90 y91 y92 y93 y94 y95 y96 y97 y98 y99 y100 y101 y102 y103 y104 y105 y106 y107 y108 y109 y110 y111 y112 y113 y114 y115 y116 y117 y118 y119 y120 y121 y122 y123 y124 y125 y126 y127 y128 y129 y130 y131 y132 y133 y134 y135 y136 y137 y138 y139 y140 y141 y142 y143 y144 y145 y146 y147 y148 y149 y150 y151 y152 y153 y154 M cM ad B W hBL hM2 hMc PB.nf (by rw [PB.hop.2]; exact Nat.le_refl _) S.1 S.2.2.2.2.1)
      obtain ⟨b0, b1, b2, b3, b4, b5, b6, b7, b8, b9⟩ := blk10 S.2.1
      clear S PB hB hBL hexit ok IH
      rw [rounds_succ]
      conv => arg 2; whnf
      go_wp2_with fail
      exact HE.out _ _ _ _ _ _ _ _ _ _ _ _ _ _ _ _ _ _ _ _ _ _ _ _ _ _ _ _ _ _ _ _ _ _ _ _ _ _ _ _ _ _ _ _ _ _ _ _ _ _ _ _ _ _ _ _ _ _ _ _ _ _ _ _ _ _ _ _ _ _ _ _ _ _ _ _ _ _ _ _ _ _ _ _ _ _ _ _ _ _ _ _ _ _ _ _ _ _ _ _ _ _ _ _ _ _ _ _ _ _ _ _ _ _ _ _ _ _ _ _ _ _ _ _ _ _ _ _ _ _ _ _ _ _ _ _ _ _ _ _ _ _ _ _ _ _ _ _ _ _ _ _
    · obtain ⟨t, ht⟩ : ∃ t, t1 + 1 = t := ⟨_, rfl⟩
      rw [ht] at ok hB S ⊢
      have hgt : (t : Int) > 1 := by omega
      have HT := Lib.hid ht
      have t10 : 0 < t1 := by omega
      have HS := Lib.hid S
      have ok1 : Hd.Ok ⟨tos, id, hdf, hmf, off, t1, pro, src, dst⟩ := by have := hop_ok ok; unfold hop at this; rw [show t - 1 = t1 by omega] at this; exact this
      have HB := Lib.hid hB
      have HBL := Lib.hid hBL
      have HO := Lib.hid ho
      have HN := Lib.hid hn
      have HZ := Lib.hid hz
      have HNN := Lib.hid hN
      have HR := Lib.hid hR
      have HA := Lib.hid hA
      have HD := Lib.hid hD
      obtain ⟨b0, b1, b2, b3, b4, b5, b6, b7, b8, b9⟩ := blk10 S.2.1
      clear S hB hBL hexit ht ho hn hz hN hR hA hD h1
      rw [rounds_succ]
      conv => arg 2; whnf
      go_upto_block 1 with fail
      refine wp_block ?_
      refine hops_b w W _ _ _ _ _ _ _ _ _ _ _ _ _ _ _ _ _ _ _ _ _ _ _ _ _ _ _ _ _ _ _ _ _ _ _ _ _ _ _ _ _ _ _ _ _ _ _ _ _ _ _ _ _ _ _ _ _ _ _ _ _ _ _ _ _ _ _ _ _ _ _ _ _ _ _ _ _ _ _ _ _ _ _ _ _ _ _ _ _ _ _ _ _ _ _ _ _ _ _ _ _ _ _ _ _ _ _ _ _ _ _ _ _ _ _ _ _ _ _ _ _ _ _ _ _ _ _ _ _ _ _ _ _ _ _ _ _ _ _ _ _ _ _ _ _ _ _ _ _ _ _ _ hb M cM N z ad tos id hdf hmf off t t1 pro src dst A DD o oc n dc2 opts data B X _ ?_ HO.out ho40 HN.out hn80 HZ.out HNN.out HT.out t10 ok HR.out HB.out HBL.out hM2 hMc hwb HA.out HD.out HS.out
      intro v0 v1 v2 v3 v4 v8 v9 v10 v11 v12 v13 v14 v15 v16 v17 v18 v19 v20 v21 v22 v23 v24 v25 v26 v27 v28 v29 v30 v31 v32 v33 v34 v35 v36 v37 v38 v39 v40 v41 v42 v43 v44 v45 v46 v47 v48 v49 v50 v51 v52 v53 v54 v55 v56 v57 v58 v59 v60 v61 v62 v63 v64 v65 v66 v67 v68 v69 v70 v71 v72 v73 v74 v75 v76 v77 v78 v79 v80 v81 v82 v83 v84 v85 v86 v87 v88 v89 v90 v91 v92 v93 v94 v95 v96 v97 v98 v99 v100 v101 v102 v103 v104 v105 v106 v107 v108 v109 v110 v111 v112 v113 v114 v115 v116 v117 v118 v119 v120 v121 v122 v123 v124 v125 v126 v127 v128 v129 v130 v131 v132 v133 v134 v135 v136 v137 v138 v139 v140 v141 v142 v143 v144 v145 v146 v147 v148 v149 v150 v151 v152 v153 v154 g1 c1 W' hc1 S'
      have e := IH.out v0 v1 v2 v3 v4 v8 v9 v10 v11 v12 v13 v14 v15 v16 v17 v18 v19 v20 v21 v22 v23 v24 v25 v26 v27 v28 v29 v30 v31 v32 v33 v34 v35 v36 v37 v38 v39 v40 v41 v42 v43 v44 v45 v46 v47 v48 v49 v50 v51 v52 v53 v54 v55 v56 v57 v58 v59 v60 v61 v62 v63 v64 v65 v66 v67 v68 v69 v70 v71 v72 v73 v74 v75 v76 v77 v78 v79 v80 v81 v82 v83 v84 v85 v86 v87 v88 v89 v90 v91 v92 v93 v94 v95 v96 v97 v98 v99 v100 v101 v102 v103 v104 v105 v106 v107 v108 v109 v110 v111 v112 v113 v114 v115 v116 v117 v118 v119 v120 v121 v122 v123 v124 v125 v126 v127 v128 v129 v130 v131 v132 v133 v134 v135 v136 v137 v138 v139 v140 v141 v142 v143 v144 v145 v146 v147 v148 v149 v150 v151 v152 v153 v154 N c1 ⟨g1, 0, none⟩ (pkt ⟨tos, id, hdf, hmf, off, t1, pro, src, dst⟩ opts data) [] W' ok1 (by rw [List.append_nil]) (by rw [pkt_len, HO.out, HN.out, HNN.out]) (by have := HNN.out; omega) hc1 S'
      rw [HT.out] at e
      exact e

set_option maxRecDepth 100000 in
set_option maxHeartbeats 8000000 in
theorem hops_loop (w W : World) (u0 u1 u2 u3 u4 u8 u9 u10 u11 u12 u13 u14 u15 u16 u17 u18 u19 u20 u21 u22 u23 u24 u25 u26 u27 u28 u29 u30 u31 u32 u33 u34 u35 u36 u37 u38 u39 u40 u41 u42 u43 u44 u45 u46 u47 u48 u49 u50 u51 u52 u53 u54 u55 u56 u57 u58 u59 u60 u61 u62 u63 u64 u65 u66 u67 u68 u69 u70 u71 u72 u73 u74 u75 u76 u77 u78 u79 u80 u81 u82 u83 u84 u85 u86 u87 u88 u89 u90 u91 u92 u93 u94 u95 u96 u97 u98 u99 u100 u101 u102 u103 u104 u105 u106 u107 u108 u109 u110 u111 u112 u113 u114 u115 u116 u117 u118 u119 u120 u121 u122 u123 u124 u125 u126 u127 u128 u129 u130 u131 u132 u133 u134 u135 u136 u137 u138 u139 u140 u141 u142 u143 u144 u145 u146 u147 u148 u149 u150 u151 u152 u153 u154 : Value) (hb N M cM t : Nat) (ad : Addr) (tos id : Nat) (hdf hmf : Bool) (off pro src dst : Nat) (A DD : Option Addr) (o oc n dc2 : Nat) (opts data : List UInt8) (B X : List UInt8) (K : Act → World → Prop)
    (hK : ∀ a W, Code.wp Try.prog (dropS 8 B8) (bodyPost Try.prog Try.f8 (BoolNo true w)) a W → K a W)
    (ho : opts.length = o) (ho40 : o ≤ 40) (hn : data.length = n) (hn80 : n ≤ 80) (hN : N = 20 + o + n) (hR : rightB opts.length (off : Int) hmf (data.length : Int) = true)
    (hwb : w.heap.size ≤ hb) (hA : ∀ k, blk A = some k → k < hb) (hD : ∀ k, blk DD = some k → k < hb)
    (ok : Hd.Ok ⟨tos, id, hdf, hmf, off, t, pro, src, dst⟩) (hB : B = pkt ⟨tos, id, hdf, hmf, off, t, pro, src, dst⟩ opts data ++ X) (hBL : B.length = M) (hM2 : M ≤ 300) (hMc : M ≤ cM) (S : HopW w W hb #[.int .u8 (tos : Int), .int .u16 (id : Int), .bool hdf, .bool hmf, .int .i64 (off : Int), .int .u8 (t : Int), .int .u8 (pro : Int), .int .u32 (src : Int), .int .u32 (dst : Int), .slice A o oc] A DD opts data ad B) :
    Code.wp Try.prog (headS (dropS 7 B8)) (Exit.then K (bodyPost Try.prog Try.f8 (BoolNo true w))) ⟨#[u0, u1, u2, u3, u4, .pointer (some ⟨hb, 0, none⟩), .slice DD n dc2, .slice (some ad) M cM, u8, u9, u10, u11, u12, u13, u14, u15, u16, u17, u18, u19, u20, u21, u22, u23, u24, u25, u26, u27, u28, u29, u30, u31, u32, u33, u34, u35, u36, u37, u38, u39, u40, u41, u42, u43, u44, u45, u46, u47, u48, u49, u50, u51, u52, u53, u54, u55, u56, u57, u58, u59, u60, u61, u62, u63, u64, u65, u66, u67, u68, u69, u70, u71, u72, u73, u74, u75, u76, u77, u78, u79, u80, u81, u82, u83, u84, u85, u86, u87, u88, u89, u90, u91, u92, u93, u94, u95, u96, u97, u98, u99, u100, u101, u102, u103, u104, u105, u106, u107, u108, u109, u110, u111, u112, u113, u114, u115, u116, u117, u118, u119, u120, u121, u122, u123, u124, u125, u126, u127, u128, u129, u130, u131, u132, u133, u134, u135, u136, u137, u138, u139, u140, u141, u142, u143, u144, u145, u146, u147, u148, u149, u150, u151, u152, u153, u154], []⟩ W := by
  conv => arg 2; whnf
  refine wp_block (wp_loop_rounds (t + 1) ?_)
  refine hops_rounds w hb N (20 + o) tos id hdf hmf off pro src dst A DD o oc n dc2 opts data _ ho ho40 hn hn80 rfl hN hR hwb hA hD ?_ t _ _ _ _ _ _ _ _ _ _ _ _ _ _ _ _ _ _ _ _ _ _ _ _ _ _ _ _ _ _ _ _ _ _ _ _ _ _ _ _ _ _ _ _ _ _ _ _ _ _ _ _ _ _ _ _ _ _ _ _ _ _ _ _ _ _ _ _ _ _ _ _ _ _ _ _ _ _ _ _ _ _ _ _ _ _ _ _ _ _ _ _ _ _ _ _ _ _ _ _ _ _ _ _ _ _ _ _ _ _ _ _ _ _ _ _ _ _ _ _ _ _ _ _ _ _ _ _ _ _ _ _ _ _ _ _ _ _ _ _ _ _ _ _ _ _ _ _ _ _ _ _ M cM ad B X W ok hB hBL hM2 hMc S
  intro u0 u1 u2 u3 u4 u8 u9 u10 u11 u12 u13 u14 u15 u16 u17 u18 u19 u20 u21 u22 u23 u24 u25 u26 u27 u28 u29 u30 u31 u32 u33 u34 u35 u36 u37 u38 u39 u40 u41 u42 u43 u44 u45 u46 u47 u48 u49 u50 u51 u52 u53 u54 u55 u56 u57 u58 u59 u60 u61 u62 u63 u64 u65 u66 u67 u68 u69 u70 u71 u72 u73 u74 u75 u76 u77 u78 u79 u80 u81 u82 u83 u84 u85 u86 u87 u88 u89 u90 u91 u92 u93 u94 u95 u96 u97 u98 u99 u100 u101 u102 u103 u104 u105 u106 u107 u108 u109 u110 u111 u112 u113 u114 u115 u116 u117 u118 u119 u120 u121 u122 u123 u124 u125 u126 u127 u128 u129 u130 u131 u132 u133 u134 u135 u136 u137 u138 u139 u140 u141 u142 u143 u144 u145 u146 u147 u148 u149 u150 u151 u152 u153 u154 M cM ad B W hBL hM2 hMc nf ht F0 RB
  exact hK _ _ (hops_end w W _ _ _ _ _ _ _ _ _ _ _ _ _ _ _ _ _ _ _ _ _ _ _ _ _ _ _ _ _ _ _ _ _ _ _ _ _ _ _ _ _ _ _ _ _ _ _ _ _ _ _ _ _ _ _ _ _ _ _ _ _ _ _ _ _ _ _ _ _ _ _ _ _ _ _ _ _ _ _ _ _ _ _ _ _ _ _ _ _ _ _ _ _ _ _ _ _ _ _ _ _ _ _ _ _ _ _ _ _ _ _ _ _ _ _ _ _ _ _ _ _ _ _ _ _ _ _ _ _ _ _ _ _ _ _ _ _ _ _ _ _ _ _ _ _ _ _ _ _ _ _ _ hb M cM ad DD n dc2 B hBL hM2 hMc nf ht F0 RB)

theorem blk_of_slice {A : Option Addr} {n c k : Nat} (h : (Value.slice A n c).ownBlock = some k) : blk A = some k := by
  cases A with
  | none => exact absurd h (by simp [Value.ownBlock])
  | some a => simpa [Value.ownBlock, blk] using h

set_option maxRecDepth 100000 in
set_option maxHeartbeats 8000000 in
theorem hops_a (w w3 w4 : World) (u0 u2 u3 u4 u8 u9 u10 u11 u12 u13 u14 u15 u16 u17 u18 u19 u20 u21 u22 u23 u24 u25 u26 u27 u28 u29 u30 u31 u32 u33 u34 u35 u36 u37 u38 u39 u40 u41 u42 u43 u44 u45 u46 u47 u48 u49 u50 u51 u52 u53 u54 u55 u56 u57 u58 u59 u60 u61 u62 u63 u64 u65 u66 u67 u68 u69 u70 u71 u72 u73 u74 u75 u76 u77 u78 u79 u80 u81 u82 u83 u84 u85 u86 u87 u88 u89 u90 u91 u92 u93 u94 u95 u96 u97 u98 u99 u100 u101 u102 u103 u104 u105 u106 u107 u108 u109 u110 u111 u112 u113 u114 u115 u116 u117 u118 u119 u120 u121 u122 u123 u124 u125 u126 u127 u128 u129 u130 u131 u132 u133 u134 u135 u136 u137 u138 u139 u140 u141 u142 u143 u144 u145 u146 u147 u148 u149 u150 u151 u152 u153 u154 : Value) (hb g N c4 k bh t : Nat) (tos id : Nat) (hdf hmf : Bool) (off pro src dst : Nat) (A DD : Option Addr) (o oc n dc2 : Nat) (opts data L : List UInt8) (K : Act → World → Prop)
    (hK : ∀ a W, Code.wp Try.prog (dropS 7 B8) (bodyPost Try.prog Try.f8 (BoolNo true w)) a W → K a W)
    (ho : opts.length = o) (ho40 : o ≤ 40) (hn : data.length = n) (hn80 : n ≤ 80) (hN : N = 20 + o + n) (hR : rightB opts.length (off : Int) hmf (data.length : Int) = true) (hk : (bh : Int) % 9 = (k : Int)) (_hk9 : k < 9)
    (hwb : w.heap.size ≤ hb) (hhb : hb < w3.heap.size) (hA : ∀ k, blk A = some k → k < hb) (hD : ∀ k, blk DD = some k → k < hb)
    (ok : Hd.Ok ⟨tos, id, hdf, hmf, off, t, pro, src, dst⟩) (hL : L = pkt ⟨tos, id, hdf, hmf, off, t, pro, src, dst⟩ opts data)
    (F4 : Frm No w w4) (T4 : Blk w4 hb 28 #[.int .u8 (tos : Int), .int .u16 (id : Int), .bool hdf, .bool hmf, .int .i64 (off : Int), .int .u8 (t : Int), .int .u8 (pro : Int), .int .u32 (src : Int), .int .u32 (dst : Int), .slice A o oc]) (RA4 : Rds w4 A opts) (RD4 : Rds w4 DD data) (R4 : Row w4 w3.heap.size g N c4 L) :
    Code.wp Try.prog (headS (dropS 6 B8)) (Exit.then K (bodyPost Try.prog Try.f8 (BoolNo true w))) ⟨#[u0, .int .u8 (bh : Int), u2, u3, u4, .pointer (some ⟨hb, 0, none⟩), .slice DD n dc2, .slice (some ⟨g, 0, none⟩) N c4, u8, u9, u10, u11, u12, u13, u14, u15, u16, u17, u18, u19, u20, u21, u22, u23, u24, u25, u26, u27, u28, u29, u30, u31, u32, u33, u34, u35, u36, u37, u38, u39, u40, u41, u42, u43, u44, u45, u46, u47, u48, u49, u50, u51, u52, u53, u54, u55, u56, u57, u58, u59, u60, u61, u62, u63, u64, u65, u66, u67, u68, u69, u70, u71, u72, u73, u74, u75, u76, u77, u78, u79, u80, u81, u82, u83, u84, u85, u86, u87, u88, u89, u90, u91, u92, u93, u94, u95, u96, u97, u98, u99, u100, u101, u102, u103, u104, u105, u106, u107, u108, u109, u110, u111, u112, u113, u114, u115, u116, u117, u118, u119, u120, u121, u122, u123, u124, u125, u126, u127, u128, u129, u130, u131, u132, u133, u134, u135, u136, u137, u138, u139, u140, u141, u142, u143, u144, u145, u146, u147, u148, u149, u150, u151, u152, u153, u154], []⟩ w4 := by
  have hLL : L.length = N := R4.len
  obtain ⟨i0, hi, hz0, hz1, hz2⟩ := info_parts info5
  have hown : w4.ownsRow 0 5 1 (.slice (some ⟨g, 0, none⟩) N c4) L.length (byts L) := by rw [hLL]; exact own_more R4 (Nat.zero_le _)
  obtain ⟨v', w5, hrun, hown', hgr, hnew⟩ := run_append_own_zeros (P := Try.prog) w4 22 5 22 5 i0 .u8 .u8 Try.underlying22 Try.underlying5 hi hz0 hz1 hz2 _ L hown k (by omega)
  rw [hLL] at hown'
  obtain ⟨g', c', hv', hrow'⟩ := Row.of_own hown' (by omega)
  subst hv'
  have hg3 := R4.cap.2.1
  have hgw := R4.cap.2.2
  have hbg : hb ≠ g := by omega
  have fr := Frm.of_grown hgr
  have hne : ¬ (Value.slice (some ⟨g, 0, none⟩) N c4).ownBlock = some hb := fun h => by have := blk_of_slice h; simp [blk] at this; omega
  have hg' : g' ≠ hb := by
    have hlt : hb < w4.heap.size := T4.lt
    rcases hnew with h | h
    · have h1 : blk (some ⟨g', 0, none⟩) = some g := blk_of_slice (n := N + k) (c := c') (by rw [h]; rfl)
      simp [blk] at h1
      omega
    · have h1 : blk (some ⟨g', 0, none⟩) = some w4.heap.size := blk_of_slice (n := N + k) (c := c') h
      simp [blk] at h1
      omega
  have hfar : ∀ q, q < hb → ¬ (Value.slice (some ⟨g, 0, none⟩) N c4).ownBlock = some q := fun q hq h => by have := blk_of_slice h; simp [blk] at this; omega
  have F5 : Frm No w w5 := F4.trans fr (fun i hi h => absurd h (hfar i (by omega)))
  have S5 : HopW w w5 hb #[.int .u8 (tos : Int), .int .u16 (id : Int), .bool hdf, .bool hmf, .int .i64 (off : Int), .int .u8 (t : Int), .int .u8 (pro : Int), .int .u32 (src : Int), .int .u32 (dst : Int), .slice A o oc] A DD opts data ⟨g', 0, none⟩ (L ++ List.replicate k 0) :=
    ⟨F5, T4.frm fr hne, RA4.frm fr (fun q hq h => hfar q (hA q hq) h), RD4.frm fr (fun q hq h => hfar q (hD q hq) h), hrow'.rds, hg'⟩
  have HRUN := Lib.hid hrun
  have HS := Lib.hid S5
  have hNk : N + k ≤ c' := hrow'.cap.1
  have hkk : IntKind.u8.wrap (k : Int) = k := by
    have e : IntKind.u8.wrap (k : Int) = (k : Int) % 256 := rfl
    rw [e]; omega
  have HK := Lib.hid hK
  have HO := Lib.hid ho
  have HN := Lib.hid hn
  have HNN := Lib.hid hN
  have HR := Lib.hid hR
  have HA := Lib.hid hA
  have HD := Lib.hid hD
  have HLL := Lib.hid hLL
  have HL := Lib.hid hL
  clear hrun hown' hgr hnew hrow' fr hne hfar F5 S5 hK ho hn hN hR hA hD hLL hL hown F4 T4 RA4 RD4 R4 hi hz0 hz1 hz2
  conv => arg 2; whnf
  go_wp2_with (at_builtin; refine Lib.wpList_append_run _ rfl (.tmp 38) (.tmp 40) 22 5 rfl (.slice (some ⟨g, 0, none⟩) N c4) (.int .u8 (k : Int)) ?hs ?hx _ _ HRUN.out ?_; (case hs => exact rfl); (case hx => (show Value.int IntKind.u8 ((bh : Int) % 9) = _; rw [hk])))
  have hKK := HK.out
  refine hKK _ _ ?_
  clear hKK HK
  conv => arg 2; whnf
  go_upto_block 0 with fail
  exact hops_loop w w5 _ _ _ _ _ _ _ _ _ _ _ _ _ _ _ _ _ _ _ _ _ _ _ _ _ _ _ _ _ _ _ _ _ _ _ _ _ _ _ _ _ _ _ _ _ _ _ _ _ _ _ _ _ _ _ _ _ _ _ _ _ _ _ _ _ _ _ _ _ _ _ _ _ _ _ _ _ _ _ _ _ _ _ _ _ _ _ _ _ _ _ _ _ _ _ _ _ _ _ _ _ _ _ _ _ _ _ _ _ _ _ _ _ _ _ _ _ _ _ _ _ _ _ _ _ _ _ _ _ _ _ _ _ _ _ _ _ _ _ _ _ _ _ _ _ _ _ _ _ _ _ _ hb N (N + k) c' t ⟨g', 0, none⟩ tos id hdf hmf off pro src dst A DD o oc n dc2 opts data (L ++ List.replicate k 0) (List.replicate k 0) _ (by assumption) HO.out ho40 HN.out hn80 HNN.out HR.out hwb HA.out HD.out ok (by rw [← HL.out]) (by rw [List.length_append, List.length_replicate, HLL.out]) (by have := HNN.out; omega) hNk HS.out
end Go.Proofs.Ytcclneaabnpbkaa
