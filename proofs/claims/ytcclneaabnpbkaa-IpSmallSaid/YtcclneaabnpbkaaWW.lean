/-
  IpWrites: its walk.
-/
import Derived.Test.YtcclneaabnpbkaaEE
import Derived.Test.YtcclneaabnpbkaaLL
import Derived.Test.YtcclneaabnpbkaaRR
import Derived.Deep.QuietTactic
import Derived.BigQuiet
import Derived.StillTailTactics
import Derived.Test.YtcclneaabnpbkaaA2

/- Wz -/
namespace Go.Proofs.Ytcclneaabnpbkaa
open Go.RowKit
attribute [local go_sem] undef

noncomputable def B14 : Code := Try.f14.body.getD .skip

/-- A shorter slice of an own row. -/
theorem own_short {w : World} {base n m c : Nat} {A : Option Addr} {xs ys : List UInt8} (h : w.ownsRow base 5 1 (.slice A (n + m) c) (n + m) (byts (xs ++ ys))) (hx : xs.length = n) (hm : 0 < m) : w.ownsRow base 5 1 (.slice A n c) n (byts xs) := by
  rcases h.2 with ⟨_, h0⟩ | ⟨g, cap, cur, hv, h1, h2, h3, h4, h5, h6⟩
  · omega
  · injection hv with e1 e2 e3
    subst e1 e3
    refine ⟨by rw [byts_len]; omega, .inr ⟨g, c, cur, rfl, h1, h2, by omega, h4, h5, ?_⟩⟩
    have h7 := congrArg (List.take (n * 1)) h6
    rw [List.take_take, show min (n * 1) ((n + m) * 1) = n * 1 by omega] at h7
    rw [h7, Nat.mul_one, byts, byts, List.map_append, List.take_left' (by simp [hx])]

def v3 {α : Type} (a b c : α) : Nat → α
  | 0 => a
  | 1 => b
  | _ => c
theorem lt3 {k : Nat} (h : k < 3) : k = 0 ∨ k = 1 ∨ k = 2 := by omega
theorem two3 {w : World} {base : Nat} {a b c : Value} {na nb nc : Nat} {xa xb xc : List UInt8} (ha : w.ownsRow base 5 1 a na (byts xa)) (hb : w.ownsRow base 5 1 b nb (byts xb)) (hc : w.ownsRow base 5 1 c nc (byts xc))
    (h1 : ∀ i, a.ownBlock = some i → b.ownBlock ≠ some i) (h2 : ∀ i, a.ownBlock = some i → c.ownBlock ≠ some i) (h3 : ∀ i, b.ownBlock = some i → c.ownBlock ≠ some i) :
    Two w base 3 (v3 a b c) (v3 na nb nc) (v3 xa xb xc) (v3 a b c) (v3 na nb nc) (v3 xa xb xc) := by
  have ho : ∀ k, k < 3 → w.ownsRow base 5 1 (v3 a b c k) (v3 na nb nc k) (byts (v3 xa xb xc k)) := by
    intro k hk
    rcases lt3 hk with rfl | rfl | rfl
    · exact ha
    · exact hb
    · exact hc
  refine ⟨ho, ho, fun _ _ => List.prefix_rfl, ?_⟩
  intro k j hk hj hkj i hg hg2
  have g1 : (v3 a b c k).ownBlock = some i := hg.elim id id
  have g2 : (v3 a b c j).ownBlock = some i := hg2.elim id id
  rcases lt3 hk with rfl | rfl | rfl <;> rcases lt3 hj with rfl | rfl | rfl
  · exact hkj rfl
  · exact h1 i g1 g2
  · exact h2 i g1 g2
  · exact h1 i g2 g1
  · exact hkj rfl
  · exact h3 i g1 g2
  · exact h2 i g2 g1
  · exact h3 i g2 g1
  · exact hkj rfl

/-- What is there behind the calls. -/
structure WrSt (w W : World) (xb tb : Nat) (HX HT : Array Value) (A D : Option Addr) (opts data b3s : List UInt8) (A1 A2 A3 : Option Addr) (o c1 n c2 n3 c3 : Nat) : Prop where
  frm : Frm No w W
  bx : Blk W xb 28 HX
  bt : Blk W tb 28 HT
  ra : Rds W A opts
  rd : Rds W D data
  o1 : W.ownsRow w.heap.size 5 1 (.slice A1 (o + 12) c1) (o + 12) (byts (opts ++ marks 12))
  o2 : W.ownsRow w.heap.size 5 1 (.slice A2 (n + 12) c2) (n + 12) (byts (data ++ marks 12))
  o3 : W.ownsRow w.heap.size 5 1 (.slice A3 n3 c3) n3 (byts b3s)
  h1 : ∀ i, blk A1 = some i → blk A2 ≠ some i
  h2 : ∀ i, blk A1 = some i → blk A3 ≠ some i
  h3 : ∀ i, blk A2 = some i → blk A3 ≠ some i

theorem WrSt.drewN {w W : World} {xb tb : Nat} {HX HT : Array Value} {A D : Option Addr} {opts data b3s : List UInt8} {A1 A2 A3 : Option Addr} {o c1 n c2 n3 c3 : Nat} (h : WrSt w W xb tb HX HT A D opts data b3s A1 A2 A3 o c1 n c2 n3 c3) (m : Nat) : WrSt w (W.drewN m) xb tb HX HT A D opts data b3s A1 A2 A3 o c1 n c2 n3 c3 :=
  ⟨h.frm.drewN m, h.bx.drewN m, h.bt.drewN m, h.ra.drewN m, h.rd.drewN m, h.o1, h.o2, h.o3, h.h1, h.h2, h.h3⟩

theorem blk_of {A : Option Addr} {n c i : Nat} (h : (Value.slice A n c).ownBlock = some i) : blk A = some i := by
  cases A with
  | none => exact absurd h (by simp [Value.ownBlock])
  | some a => simpa [Value.ownBlock, blk] using h

set_option maxRecDepth 100000 in
set_option maxHeartbeats 4000000 in
theorem writes_e (w W : World) (u0 u2 u4 u5 u6 u10 u11 u12 u13 u14 u15 u16 u17 u18 u19 u20 u21 u22 u23 u24 u25 u26 u27 u28 u29 u30 u31 u32 u33 u34 u35 u36 u37 u38 u39 u40 u41 u42 u43 u44 u45 u46 u47 u48 u49 u50 u51 u52 u53 u54 u55 u56 u57 u58 u59 u60 u61 u62 u63 u64 u65 u66 u67 u68 u69 u70 u71 u72 u73 u74 u75 u76 : Value) (xb tb : Nat) (z0 z1 z4 z5 z6 z7 z8 : Int) (b2 b3 : Bool) (A D A1 A2 A3 : Option Addr) (o c c1 n k c2 n3 c3 : Nat) (opts data b3s : List UInt8) (ho : opts.length = o) (hn : data.length = n) (ho60 : o ≤ 60) (hn300 : n ≤ 300) (hn3 : n3 ≤ 70000)
    (S : WrSt w W xb tb #[.int .u8 z0, .int .u16 z1, .bool b2, .bool b3, .int .i64 z4, .int .u8 z5, .int .u8 z6, .int .u32 z7, .int .u32 z8, .slice A o c] #[.int .u8 z0, .int .u16 z1, .bool b2, .bool b3, .int .i64 z4, .int .u8 z5, .int .u8 z6, .int .u32 z7, .int .u32 z8, .slice A1 o c1] A D opts data b3s A1 A2 A3 o c1 n c2 n3 c3) :
    Code.wp Try.prog (dropS 7 B14) (bodyPost Try.prog Try.f14 (BoolNo true w)) ⟨#[u0, .slice D n k, u2, .pointer (some ⟨xb, 0, none⟩), u4, u5, u6, .pointer (some ⟨tb, 0, none⟩), .slice A2 n c2, .slice A3 n3 c3, u10, u11, u12, u13, u14, u15, u16, u17, u18, u19, u20, u21, u22, u23, u24, u25, u26, u27, u28, u29, u30, u31, u32, u33, u34, u35, u36, u37, u38, u39, u40, u41, u42, u43, u44, u45, u46, u47, u48, u49, u50, u51, u52, u53, u54, u55, u56, u57, u58, u59, u60, u61, u62, u63, u64, u65, u66, u67, u68, u69, u70, u71, u72, u73, u74, u75, u76], []⟩ W := by
  have HS := Lib.hid S
  have hcap1 := (own_caps S.o1).1
  have hcap2 := (own_caps S.o2).1
  have HK1 := Lib.hid (kept_bytes W A1 A c1 c o opts ho hcap1 (own_caps S.o1).2.2 S.ra (by omega))
  have HK2 := Lib.hid (fun m => kept_bytes (W.drewN m) A2 D c2 k n data hn hcap2 ((own_caps S.o2).2.2.drewN m) (S.rd.drewN m) (by omega))
  have HO := Lib.hid ho
  have HN := Lib.hid hn
  obtain ⟨b0, b1, b2', b3', b4, b5, b6, b7, b8, b9⟩ := blk10 S.bx
  obtain ⟨d0, d1, d2, d3, d4, d5, d6, d7, d8, d9⟩ := blk10 S.bt
  clear S hcap1 hcap2 ho hn
  conv => arg 2; whnf
  go_wp2_with fail
  refine HK1.out.mono ?_
  rintro e w1 ⟨rfl, m1, rfl⟩
  go_wp2_with fail
  refine (HK2.out m1).mono ?_
  rintro e w2 ⟨rfl, m2, rfl⟩
  obtain ⟨W2, hW2⟩ : ∃ W2, W2 = (W.drewN m1).drewN m2 := ⟨_, rfl⟩
  have S2 : Hid (WrSt w W2 xb tb #[.int .u8 z0, .int .u16 z1, .bool b2, .bool b3, .int .i64 z4, .int .u8 z5, .int .u8 z6, .int .u32 z7, .int .u32 z8, .slice A o c] #[.int .u8 z0, .int .u16 z1, .bool b2, .bool b3, .int .i64 z4, .int .u8 z5, .int .u8 z6, .int .u32 z7, .int .u32 z8, .slice A1 o c1] A D opts data b3s A1 A2 A3 o c1 n c2 n3 c3) := by show WrSt w W2 _ _ _ _ _ _ _ _ _ _ _ _ _ _ _ _ _ _; rw [hW2]; exact (HS.out.drewN m1).drewN m2
  rw [← hW2]
  clear hW2 HS HK1 HK2 b0 b1 b2' b3' b4 b5 b6 b7 b8 b9 d0 d1 d2 d3 d4 d5 d6 d7 d8 d9
  have q := S2.out.o1
  obtain ⟨d0, d1, d2, d3, d4, d5, d6, d7, d8, d9⟩ := blk10 S2.out.bt
  clear q
  have HAP : Hid (Calls Try.prog 33 #[.slice (some ⟨W2.heap.size, 0, none⟩) 3 3] (W2.alloc (.cells #[.slice A1 o c1, .slice A2 n c2, .slice A3 n3 c3] 22)) fun e w' => e = .returned (.bool true) ∧ Frm (Own 3 (v3 (Value.slice A1 o c1) (.slice A2 n c2) (.slice A3 n3 c3))) (W2.alloc (.cells #[.slice A1 o c1, .slice A2 n c2, .slice A3 n3 c3] 22)) w') := by
    have F := (Frm.refl No W2).alloc (.cells #[.slice A1 o c1, .slice A2 n c2, .slice A3 n3 c3] 22)
    have T := two3 (F.own (own_short S2.out.o1 HO.out (by decide)) (fun _ _ x => x)) (F.own (own_short S2.out.o2 HN.out (by decide)) (fun _ _ x => x)) (F.own S2.out.o3 (fun _ _ x => x))
      (fun i h h' => S2.out.h1 i (blk_of h) (blk_of h')) (fun i h h' => S2.out.h2 i (blk_of h) (blk_of h')) (fun i h h' => S2.out.h3 i (blk_of h) (blk_of h'))
    refine apart_many _ 3 w.heap.size W2.heap.size 3 _ _ _ (by decide) (by decide) ?_ ⟨_, Blk.new W2 22 _, ?_⟩ T (Nat.le_trans S2.out.frm.size (by simp))
    · intro j hj
      rcases lt3 hj with rfl | rfl | rfl
      · show o ≤ _; omega
      · show n ≤ _; omega
      · show n3 ≤ _; omega
    · intro j hj
      rcases lt3 hj with rfl | rfl | rfl <;> rfl
  have HF : Hid (∀ w', Frm (Own 3 (v3 (Value.slice A1 o c1) (.slice A2 n c2) (.slice A3 n3 c3))) (W2.alloc (.cells #[.slice A1 o c1, .slice A2 n c2, .slice A3 n3 c3] 22)) w' → Frm No w w') := by
    intro w' hf
    refine (S2.out.frm.alloc _).trans hf ?_
    rintro i hi ⟨j, hj, hown⟩
    have hlt : w.heap.size ≤ i := by
      rcases lt3 hj with rfl | rfl | rfl
      · exact (World.ownsRow.lt (own_short S2.out.o1 HO.out (by decide)) i hown).1
      · exact (World.ownsRow.lt (own_short S2.out.o2 HN.out (by decide)) i hown).1
      · exact (World.ownsRow.lt S2.out.o3 i hown).1
    omega
  go_wp2_with fail
  refine HAP.out.mono ?_
  rintro e w3 ⟨rfl, hf⟩
  have F3 := Lib.hid (HF.out w3 hf)
  clear hf HAP HF d0 d1 d2 d3 d4 d5 d6 d7 d8 d9 S2
  go_wp2_with fail
  go_ret
  exact ⟨rfl, F3.out⟩

theorem WrSt.no {w W W2 : World} {xb tb : Nat} {HX HT : Array Value} {A D : Option Addr} {opts data b3s : List UInt8} {A1 A2 A3 : Option Addr} {o c1 n c2 n3 c3 : Nat} (h : WrSt w W xb tb HX HT A D opts data b3s A1 A2 A3 o c1 n c2 n3 c3) (hf : Frm No W W2) : WrSt w W2 xb tb HX HT A D opts data b3s A1 A2 A3 o c1 n c2 n3 c3 :=
  ⟨h.frm.new0 hf, h.bx.frm hf (fun x => x), h.bt.frm hf (fun x => x), h.ra.frm hf (fun _ _ x => x), h.rd.frm hf (fun _ _ x => x), hf.own h.o1 (fun _ _ x => x), hf.own h.o2 (fun _ _ x => x), hf.own h.o3 (fun _ _ x => x), h.h1, h.h2, h.h3⟩

set_option maxRecDepth 100000 in
set_option maxHeartbeats 4000000 in
theorem writes_d (w W : World) (u0 u4 u5 u6 u13 u14 u15 u16 u17 u18 u19 u20 u21 u22 u23 u24 u25 u26 u27 u28 u29 u30 u31 u32 u33 u34 u35 u36 u37 u38 u39 u40 u41 u42 u43 u44 u45 u46 u47 u48 u49 u50 u51 u52 u53 u54 u55 u56 u57 u58 u59 u60 u61 u62 u63 u64 u65 u66 u67 u68 u69 u70 u71 u72 u73 u74 u75 u76 : Value) (nn e : Int) (xb tb : Nat) (z0 z1 z4 z5 z6 z7 z8 : Int) (b2 b3 : Bool) (A D A1 A2 A3 A4 : Option Addr) (o c c1 n k c2 n3 c3 c4 : Nat) (opts data b3s : List UInt8)
    (K K' : Act → World → Prop) (hK : ∀ a W, Code.wp Try.prog (tailS (headS (dropS 6 B14))) (Exit.then K' (bodyPost Try.prog Try.f14 (BoolNo true w))) a W → K a W) (hK' : ∀ a W, Code.wp Try.prog (dropS 7 B14) (bodyPost Try.prog Try.f14 (BoolNo true w)) a W → K' a W)
    (ho : opts.length = o) (hn : data.length = n) (ho60 : o ≤ 60) (hn300 : n ≤ 300) (hn3 : n3 ≤ 70000) (hnn : -9223372036854775808 ≤ nn ∧ nn ≤ 9223372036854775807) (h4 : -9223372036854775808 ≤ z4 ∧ z4 ≤ 9223372036854775807)
    (R4 : Rds W A4 b3s) (S : WrSt w W xb tb #[.int .u8 z0, .int .u16 z1, .bool b2, .bool b3, .int .i64 z4, .int .u8 z5, .int .u8 z6, .int .u32 z7, .int .u32 z8, .slice A o c] #[.int .u8 z0, .int .u16 z1, .bool b2, .bool b3, .int .i64 z4, .int .u8 z5, .int .u8 z6, .int .u32 z7, .int .u32 z8, .slice A1 o c1] A D opts data b3s A1 A2 A3 o c1 n c2 n3 c3) :
    Code.wp Try.prog (headS (headS (dropS 6 B14))) (Exit.then K (Exit.then K' (bodyPost Try.prog Try.f14 (BoolNo true w)))) ⟨#[u0, .slice D n k, .int .i64 nn, .pointer (some ⟨xb, 0, none⟩), u4, u5, u6, .pointer (some ⟨tb, 0, none⟩), .slice A2 n c2, .slice A3 n3 c3, .int .i64 e, .slice A4 n3 c4, .int .i64 e, u13, u14, u15, u16, u17, u18, u19, u20, u21, u22, u23, u24, u25, u26, u27, u28, u29, u30, u31, u32, u33, u34, u35, u36, u37, u38, u39, u40, u41, u42, u43, u44, u45, u46, u47, u48, u49, u50, u51, u52, u53, u54, u55, u56, u57, u58, u59, u60, u61, u62, u63, u64, u65, u66, u67, u68, u69, u70, u71, u72, u73, u74, u75, u76], []⟩ W := by
  have HS := Lib.hid S
  have hb3 : b3s.length = n3 := by have := S.o3.1; rw [byts_len] at this; omega
  have HSM := Lib.hid (fun W' (hf : Frm No W W') => (by
    have h2 := sames_any W' A3 A4 c3 c4 b3s b3s ((own_caps S.o3).2.2.frm hf (fun _ _ x => x)) (R4.frm hf (fun _ _ x => x)) (by omega)
    rw [hb3, show decide (b3s = b3s) = true from decide_eq_true rfl] at h2
    exact h2 : Calls Try.prog 22 #[.slice A3 n3 c3, .slice A4 n3 c4] W' fun e w' => e = .returned (.bool true) ∧ ∃ m, w' = W'.drewN m))
  have HR1 := Lib.hid (fun W' => right20 W' z0 z1 z4 z5 z6 z7 z8 b2 b3 A1 o c1 nn (by omega) h4)
  have HR2 := Lib.hid (fun W' => ref_right W' z0 z1 z4 z5 z6 z7 z8 b2 b3 A o c nn (by omega) h4 hnn)
  obtain ⟨r, hr⟩ : ∃ r, rightB o z4 b3 nn = r := ⟨_, rfl⟩
  rw [hr] at HR1 HR2
  have CC := Lib.hid (fun W' (hf : Frm No W W') => And.intro (blk10 (S.bx.frm hf (fun x => x))) (blk10 (S.bt.frm hf (fun x => x))))
  have hee : (e != e) = false := by simp
  have HO := Lib.hid ho
  have HN := Lib.hid hn
  have HK := Lib.hid hK
  have HK' := Lib.hid hK'
  clear S R4 hb3 hr ho hn hnn h4 hK hK'
  conv => arg 2; whnf
  refine region_class (fun W' => Frm No W W') (by kernel_rfl) (by kernel_rfl) (Frm.refl No W).drew ?_
  (repeat (refine wpQuiet_step (fun K hK => ?_); go_simp; first | (refine hK _ ?_; clear hK K) | (apply Exists.intro; refine ⟨fun W' hW => ?_, hK _ ?_⟩; (first | rfl | ((obtain ⟨⟨_, _, _, _, _, _, _, _, _, _⟩, _, _, _, _, _, _, _, _, _, _⟩ := CC.out W' hW); go_simp; rfl)); clear hK K)))
  refine wpQuiet_step (fun K hK => ?_)
  go_simp
  apply Exists.intro
  refine ⟨fun W' hW => (HSM.out W' hW).mono fun e w' ⟨he, m, hm⟩ => ⟨he, by rw [hm]; exact hW.drewN m⟩, hK _ ?_⟩
  clear hK K
  (repeat (refine wpQuiet_step (fun K hK => ?_); go_simp; first | (refine hK _ ?_; clear hK K) | (apply Exists.intro; refine ⟨fun W' hW => ?_, hK _ ?_⟩; (first | rfl | ((obtain ⟨⟨_, _, _, _, _, _, _, _, _, _⟩, _, _, _, _, _, _, _, _, _, _⟩ := CC.out W' hW); go_simp; rfl)); clear hK K)))
  refine wpQuiet_step (fun K hK => ?_)
  go_simp
  apply Exists.intro
  refine ⟨fun W' hW => (HR1.out W').mono fun e w' ⟨he, hf⟩ => ⟨he, hW.new0 hf⟩, hK _ ?_⟩
  clear hK K
  (repeat (refine wpQuiet_step (fun K hK => ?_); go_simp; first | (refine hK _ ?_; clear hK K) | (apply Exists.intro; refine ⟨fun W' hW => ?_, hK _ ?_⟩; (first | rfl | ((obtain ⟨⟨_, _, _, _, _, _, _, _, _, _⟩, _, _, _, _, _, _, _, _, _, _⟩ := CC.out W' hW); go_simp; rfl)); clear hK K)))
  refine wpQuiet_step (fun K hK => ?_)
  go_simp
  apply Exists.intro
  refine ⟨fun W' hW => (HR2.out W').mono fun e w' ⟨he, hf⟩ => ⟨he, hW.new0 hf⟩, hK _ ?_⟩
  clear hK K
  (repeat (refine wpQuiet_step (fun K hK => ?_); go_simp; first | (refine hK _ ?_; clear hK K) | (apply Exists.intro; refine ⟨fun W' hW => ?_, hK _ ?_⟩; (first | rfl | ((obtain ⟨⟨_, _, _, _, _, _, _, _, _, _⟩, _, _, _, _, _, _, _, _, _, _⟩ := CC.out W' hW); go_simp; rfl)); clear hK K)))
  refine wpQuiet_nil ?_
  intro W1 hf
  have S1 := Lib.hid (HS.out.no hf)
  clear hf HS HSM HR1 HR2 CC
  have hKK := HK.out
  show K _ _
  refine hKK _ _ ?_
  conv => arg 2; whnf
  clear hKK HK
  go_wp2_with fail
  have hKK := HK'.out
  refine hKK _ _ ?_
  exact writes_e w W1 _ _ _ _ _ _ _ _ _ _ _ _ _ _ _ _ _ _ _ _ _ _ _ _ _ _ _ _ _ _ _ _ _ _ _ _ _ _ _ _ _ _ _ _ _ _ _ _ _ _ _ _ _ _ _ _ _ _ _ _ _ _ _ _ _ _ _ _ _ _ _ _ xb tb z0 z1 z4 z5 z6 z7 z8 b2 b3 A D A1 A2 A3 o c c1 n k c2 n3 c3 opts data b3s HO.out HN.out ho60 hn300 hn3 S1.out
end Go.Proofs.Ytcclneaabnpbkaa

/- Wy -/
namespace Go.Proofs.Ytcclneaabnpbkaa
open Go.RowKit
attribute [local go_sem] undef

theorem WrSt.put {w W W2 : World} {xb tb : Nat} {HX HT : Array Value} {A D : Option Addr} {opts data b3s : List UInt8} {A1 A2 : Option Addr} {o c1 n c2 n3 c3 g : Nat} (h : WrSt w W xb tb HX HT A D opts data [] A1 A2 none o c1 n c2 0 0) (hf : Frm No W W2) (hrow : Row W2 W.heap.size g n3 c3 b3s) : WrSt w W2 xb tb HX HT A D opts data b3s A1 A2 (some ⟨g, 0, none⟩) o c1 n c2 n3 c3 := by
  have h1 := h.no hf
  have hcap := hrow.cap
  refine ⟨h1.frm, h1.bx, h1.bt, h1.ra, h1.rd, h1.o1, h1.o2, own_more hrow h.frm.size, h.h1, ?_, ?_⟩
  · intro i hi h'
    have := (World.ownsRow.lt h.o1 i (blk_own hi)).2
    simp only [blk, Option.map_some, Option.some.injEq] at h'
    omega
  · intro i hi h'
    have := (World.ownsRow.lt h.o2 i (blk_own hi)).2
    simp only [blk, Option.map_some, Option.some.injEq] at h'
    omega

set_option maxRecDepth 100000 in
set_option maxHeartbeats 4000000 in
theorem writes_c (w W : World) (u0 u4 u5 u6 u9 u10 u11 u12 u13 u14 u15 u16 u17 u18 u19 u20 u21 u22 u23 u24 u25 u26 u27 u28 u29 u30 u31 u32 u33 u34 u35 u36 u37 u38 u39 u40 u41 u42 u43 u44 u45 u46 u47 u48 u49 u50 u51 u52 u53 u54 u55 u56 u57 u58 u59 u60 u61 u62 u63 u64 u65 u66 u67 u68 u69 u70 u71 u72 u73 u74 u75 u76 : Value) (nn : Int) (xb tb : Nat) (tos id : Nat) (hdf hmf : Bool) (z4 : Int) (ttl pro src dst : Nat) (A D A1 A2 : Option Addr) (o c c1 n k c2 : Nat) (opts data : List UInt8)
    (l0 : tos < 256) (l1 : id < 65536) (l3 : ttl < 256) (l4 : pro < 256) (l5 : src < 4294967296) (l6 : dst < 4294967296) (hoc : o ≤ c) (hA : A = none → c = 0) (hD : D = none → k = 0)
    (ho : opts.length = o) (hn : data.length = n) (ho60 : o ≤ 60) (hn300 : n ≤ 300) (hnn : -9223372036854775808 ≤ nn ∧ nn ≤ 9223372036854775807) (h4 : -9223372036854775808 ≤ z4 ∧ z4 ≤ 9223372036854775807)
    (S : WrSt w W xb tb #[.int .u8 (tos : Int), .int .u16 (id : Int), .bool hdf, .bool hmf, .int .i64 z4, .int .u8 (ttl : Int), .int .u8 (pro : Int), .int .u32 (src : Int), .int .u32 (dst : Int), .slice A o c] #[.int .u8 (tos : Int), .int .u16 (id : Int), .bool hdf, .bool hmf, .int .i64 z4, .int .u8 (ttl : Int), .int .u8 (pro : Int), .int .u32 (src : Int), .int .u32 (dst : Int), .slice A1 o c1] A D opts data [] A1 A2 none o c1 n c2 0 0) :
    Code.wp Try.prog (dropS 4 B14) (bodyPost Try.prog Try.f14 (BoolNo true w)) ⟨#[u0, .slice D n k, .int .i64 nn, .pointer (some ⟨xb, 0, none⟩), u4, u5, u6, .pointer (some ⟨tb, 0, none⟩), .slice A2 n c2, u9, u10, u11, u12, u13, u14, u15, u16, u17, u18, u19, u20, u21, u22, u23, u24, u25, u26, u27, u28, u29, u30, u31, u32, u33, u34, u35, u36, u37, u38, u39, u40, u41, u42, u43, u44, u45, u46, u47, u48, u49, u50, u51, u52, u53, u54, u55, u56, u57, u58, u59, u60, u61, u62, u63, u64, u65, u66, u67, u68, u69, u70, u71, u72, u73, u74, u75, u76], []⟩ W := by
  have HS := Lib.hid S
  have hcap1 := own_caps S.o1
  have hcap2 := own_caps S.o2
  have ra1 : Rds W A1 opts := by have h := hcap1.2.2.take o; rwa [List.take_append_of_le_length (by omega), List.take_of_length_le (by omega)] at h
  have rd1 : Rds W A2 data := by have h := hcap2.2.2.take n; rwa [List.take_append_of_le_length (by omega), List.take_of_length_le (by omega)] at h
  have HNN := Lib.hid hnn
  have H4 := Lib.hid h4
  have HO := Lib.hid ho
  have HN := Lib.hid hn
  have e2 : ((2 : Int) != 2) = false := rfl
  obtain ⟨b0, b1, b2', b3', b4, b5, b6, b7, b8, b9⟩ := blk10 S.bt
  by_cases hR : rightB o z4 hmf (n : Int) = true
  · obtain ⟨off, rfl⟩ : ∃ off : Nat, z4 = (off : Int) := by
      have h2 : reachesB z4 n = true := by unfold rightB at hR; simp only [Bool.and_eq_true] at hR; exact hR.1.2
      have h3 := of_decide_eq_true h2
      exact ⟨z4.toNat, by omega⟩
    obtain ⟨f1, f2, f3, f4, f5, f6⟩ := right_facts hR
    have ok : Hd.Ok ⟨tos, id, hdf, hmf, off, ttl, pro, src, dst⟩ := ⟨l0, l1, by show off ≤ 65528; omega, l3, l4, l5, l6⟩
    obtain ⟨N, hN⟩ : ∃ N, N = 20 + o + n := ⟨_, rfl⟩
    have HW1 := Lib.hid (write_yes W tos id hdf hmf off ttl pro src dst ok A1 A2 o c1 n c2 opts data ho hn ra1 rd1 (by omega) (fun h => by have := hcap2.2.1 h; omega) hR N hN)
    have HW2 := Lib.hid (fun W' (hf : Frm No W W') => ref_write_yes W' tos id hdf hmf off ttl pro src dst ok A D o c n k opts data ho hn (S.ra.frm hf (fun _ _ x => x)) (S.rd.frm hf (fun _ _ x => x)) hoc hA hD hR N hN)
    unfold WroteOk at HW1 HW2
    obtain ⟨L, hL⟩ : ∃ L, pkt ⟨tos, id, hdf, hmf, off, ttl, pro, src, dst⟩ opts data = L := ⟨_, rfl⟩
    rw [hL] at HW1 HW2
    have hN7 : N ≤ 70000 := by omega
    clear S hcap1 hcap2 ra1 rd1 hnn h4 ho hn hR f1 f2 f3 f4 f5 f6 ok hN hL hA hD
    conv => arg 2; whnf
    go_wp2_with fail
    refine HW1.out.mono ?_
    rintro e w1 ⟨g1, d1, rfl, hrow, hf⟩
    have F1 := Lib.hid hf
    have S1 := Lib.hid (HS.out.put hf hrow)
    clear hrow hf HS HW1 b0 b1 b2' b3' b4 b5 b6 b7 b8 b9
    obtain ⟨b0, b1, b2', b3', b4, b5, b6, b7, b8, b9⟩ := blk10 S1.out.bx
    go_wp2_with fail
    refine (HW2.out w1 F1.out).mono ?_
    rintro e w2 ⟨g2, d2, rfl, hrow, hf⟩
    have S2 := Lib.hid (S1.out.no hf)
    have R2 := Lib.hid hrow.rds
    clear hrow hf S1 F1 HW2 b0 b1 b2' b3' b4 b5 b6 b7 b8 b9
    go_upto_region 7 with fail
    exact writes_d w w2 _ _ _ _ _ _ _ _ _ _ _ _ _ _ _ _ _ _ _ _ _ _ _ _ _ _ _ _ _ _ _ _ _ _ _ _ _ _ _ _ _ _ _ _ _ _ _ _ _ _ _ _ _ _ _ _ _ _ _ _ _ _ _ _ _ _ _ _ nn 0 xb tb _ _ _ _ _ _ _ hdf hmf A D A1 A2 _ _ o c c1 n k c2 N d1 d2 opts data L _ _ (by assumption) (by assumption) HO.out HN.out ho60 hn300 hN7 HNN.out H4.out R2.out S2.out
  · have hR' : rightB o z4 hmf (n : Int) = false := by simpa using hR
    have HW1 := Lib.hid (write_no W (tos : Int) (id : Int) z4 (ttl : Int) (pro : Int) (src : Int) (dst : Int) hdf hmf A1 A2 o c1 n c2 (by omega) h4 hR')
    have HW2 := Lib.hid (fun W' => ref_write_no W' (tos : Int) (id : Int) z4 (ttl : Int) (pro : Int) (src : Int) (dst : Int) hdf hmf A D o c n k (by omega) (by omega) h4 hR')
    clear S hcap1 hcap2 ra1 rd1 hnn h4 ho hn hR hR' hA hD
    conv => arg 2; whnf
    go_wp2_with fail
    refine HW1.out.mono ?_
    rintro e w1 ⟨rfl, hf⟩
    have S1 := Lib.hid (HS.out.no hf)
    clear hf HS HW1 b0 b1 b2' b3' b4 b5 b6 b7 b8 b9
    obtain ⟨b0, b1, b2', b3', b4, b5, b6, b7, b8, b9⟩ := blk10 S1.out.bx
    go_wp2_with fail
    refine (HW2.out w1).mono ?_
    rintro e w2 ⟨rfl, hf⟩
    have S2 := Lib.hid (S1.out.no hf)
    clear hf S1 HW2 b0 b1 b2' b3' b4 b5 b6 b7 b8 b9
    go_upto_region 7 with fail
    exact writes_d w w2 _ _ _ _ _ _ _ _ _ _ _ _ _ _ _ _ _ _ _ _ _ _ _ _ _ _ _ _ _ _ _ _ _ _ _ _ _ _ _ _ _ _ _ _ _ _ _ _ _ _ _ _ _ _ _ _ _ _ _ _ _ _ _ _ _ _ _ _ nn 2 xb tb _ _ _ _ _ _ _ hdf hmf A D A1 A2 none none o c c1 n k c2 0 0 0 opts data [] _ _ (by assumption) (by assumption) HO.out HN.out ho60 hn300 (by omega) HNN.out H4.out (Rds.nil _ _) S2.out
end Go.Proofs.Ytcclneaabnpbkaa

/- Wx -/
namespace Go.Proofs.Ytcclneaabnpbkaa
open Go.RowKit
attribute [local go_sem] undef

def StoreL (w7 w9 : World) (tb b0 n : Nat) (V : Value) (xs : List Value) : Prop :=
  ∀ (y0 y1 y2 y3 y4 y5 y6 y7 y8 y9 : Value), let W := ((((((((((w9.setCell ⟨tb, 0, none⟩ y0).setCell ⟨tb, 1, none⟩ y1).setCell ⟨tb, 2, none⟩ y2).setCell ⟨tb, 3, none⟩ y3).setCell ⟨tb, 4, none⟩ y4).setCell ⟨tb, 5, none⟩ y5).setCell ⟨tb, 6, none⟩ y6).setCell ⟨tb, 7, none⟩ y7).setCell ⟨tb, 8, none⟩ y8).setCell ⟨tb, 9, none⟩ y9)
    Frm No w7 W ∧ Blk W tb 28 #[y0, y1, y2, y3, y4, y5, y6, y7, y8, y9] ∧ W.ownsRow b0 5 1 V n xs
theorem storeL {w7 w9 : World} {tb b0 n : Nat} {V : Value} {xs : List Value} {x0 x1 x2 x3 x4 x5 x6 x7 x8 x9 : Value} (F9 : Frm No w7 w9) (Z : Blk w9 tb 28 #[x0, x1, x2, x3, x4, x5, x6, x7, x8, x9]) (hb : w7.heap.size ≤ tb) (ho : w9.ownsRow b0 5 1 V n xs) : StoreL w7 w9 tb b0 n V xs := by
  intro y0 y1 y2 y3 y4 y5 y6 y7 y8 y9 W
  refine ⟨frm10 F9 (fun h => absurd h (by omega)) _ _ _ _ _ _ _ _ _ _, set10 Z _ _ _ _ _ _ _ _ _ _, (frm10 (S := One tb) (Frm.refl _ _) (fun _ => rfl) _ _ _ _ _ _ _ _ _ _).own ho ?_⟩
  intro i hi h
  have h1 : i = tb := h
  subst h1
  exact own_blk_ne ho Z (by decide) hi
theorem StoreL.frm {w7 w9 : World} {tb b0 n : Nat} {V : Value} {xs : List Value} (h : StoreL w7 w9 tb b0 n V xs) (y0 y1 y2 y3 y4 y5 y6 y7 y8 y9 : Value) : Frm No w7 (((((((((((w9.setCell ⟨tb, 0, none⟩ y0).setCell ⟨tb, 1, none⟩ y1).setCell ⟨tb, 2, none⟩ y2).setCell ⟨tb, 3, none⟩ y3).setCell ⟨tb, 4, none⟩ y4).setCell ⟨tb, 5, none⟩ y5).setCell ⟨tb, 6, none⟩ y6).setCell ⟨tb, 7, none⟩ y7).setCell ⟨tb, 8, none⟩ y8).setCell ⟨tb, 9, none⟩ y9)) := (h y0 y1 y2 y3 y4 y5 y6 y7 y8 y9).1
theorem StoreL.name {w7 w9 : World} {tb b0 n : Nat} {V : Value} {xs : List Value} (h : StoreL w7 w9 tb b0 n V xs) (y0 y1 y2 y3 y4 y5 y6 y7 y8 y9 : Value) :
    ∃ W, W = ((((((((((w9.setCell ⟨tb, 0, none⟩ y0).setCell ⟨tb, 1, none⟩ y1).setCell ⟨tb, 2, none⟩ y2).setCell ⟨tb, 3, none⟩ y3).setCell ⟨tb, 4, none⟩ y4).setCell ⟨tb, 5, none⟩ y5).setCell ⟨tb, 6, none⟩ y6).setCell ⟨tb, 7, none⟩ y7).setCell ⟨tb, 8, none⟩ y8).setCell ⟨tb, 9, none⟩ y9) ∧ Frm No w7 W ∧ Blk W tb 28 #[y0, y1, y2, y3, y4, y5, y6, y7, y8, y9] ∧ W.ownsRow b0 5 1 V n xs :=
  ⟨_, rfl, h y0 y1 y2 y3 y4 y5 y6 y7 y8 y9⟩

set_option maxRecDepth 100000 in
set_option maxHeartbeats 8000000 in
theorem writes_4 (w W : World) (u0 u4 u5 u6 u9 u10 u11 u12 u13 u14 u15 u16 u17 u18 u19 u20 u21 u22 u23 u24 u25 u26 u27 u28 u29 u30 u31 u32 u33 u34 u35 u36 u37 u38 u39 u40 u41 u42 u43 u44 u45 u46 u47 u48 u49 u50 u51 u52 u53 u54 u55 u56 u57 u58 u59 u60 u61 u62 u63 u64 u65 u66 u67 u68 u69 u70 u71 u72 u73 u74 u75 u76 : Value) (nn : Int) (xb : Nat) (tos id : Nat) (hdf hmf : Bool) (z4 : Int) (ttl pro src dst : Nat) (A D : Option Addr) (o c n k : Nat) (opts data : List UInt8)
    (l0 : tos < 256) (l1 : id < 65536) (l3 : ttl < 256) (l4 : pro < 256) (l5 : src < 4294967296) (l6 : dst < 4294967296) (hoc : o ≤ c) (_hnk : n ≤ k) (hA : A = none → c = 0) (hD : D = none → k = 0)
    (ho : opts.length = o) (hn : data.length = n) (ho60 : o ≤ 60) (hn300 : n ≤ 300) (hnn : -9223372036854775808 ≤ nn ∧ nn ≤ 9223372036854775807) (h4 : -9223372036854775808 ≤ z4 ∧ z4 ≤ 9223372036854775807) (A2 : Option Addr) (tb c2 : Nat) (K : Act → World → Prop)
    (hK : ∀ a W, Code.wp Try.prog (dropS 4 B14) (bodyPost Try.prog Try.f14 (BoolNo true w)) a W → K a W)
    (F0 : Frm No w W) (T0 : Blk W xb 28 #[.int .u8 (tos : Int), .int .u16 (id : Int), .bool hdf, .bool hmf, .int .i64 z4, .int .u8 (ttl : Int), .int .u8 (pro : Int), .int .u32 (src : Int), .int .u32 (dst : Int), .slice A o c]) (B0 : Blk W tb 28 #[.int .u8 (tos : Int), .int .u16 (id : Int), .bool hdf, .bool hmf, .int .i64 z4, .int .u8 (ttl : Int), .int .u8 (pro : Int), .int .u32 (src : Int), .int .u32 (dst : Int), .slice A o c]) (hwt : w.heap.size ≤ tb) (hxt : xb ≠ tb) (RA0 : Rds W A opts) (RD0 : Rds W D data) (hbA : 0 < opts.length → ∀ q, blk A = some q → q < w.heap.size) (hbD : 0 < data.length → ∀ q, blk D = some q → q < w.heap.size)
    (O2 : W.ownsRow w.heap.size 5 1 (.slice A2 (n + 12) c2) (n + 12) (byts (data ++ marks 12))) :
    Code.wp Try.prog (headS (dropS 3 B14)) (Exit.then K (bodyPost Try.prog Try.f14 (BoolNo true w))) ⟨#[u0, .slice D n k, .int .i64 nn, .pointer (some ⟨xb, 0, none⟩), u4, u5, u6, .pointer (some ⟨tb, 0, none⟩), .slice A2 n c2, u9, u10, u11, u12, u13, u14, u15, u16, u17, u18, u19, u20, u21, u22, u23, u24, u25, u26, u27, u28, u29, u30, u31, u32, u33, u34, u35, u36, u37, u38, u39, u40, u41, u42, u43, u44, u45, u46, u47, u48, u49, u50, u51, u52, u53, u54, u55, u56, u57, u58, u59, u60, u61, u62, u63, u64, u65, u66, u67, u68, u69, u70, u71, u72, u73, u74, u75, u76], []⟩ W := by
  have HL := Lib.hid (lent W A c o opts ho ⟨RA0, by omega, hA⟩ (by omega))
  unfold Lent at HL
  rw [ho] at HL
  have F := Lib.hid F0
  have T := Lib.hid T0
  have B := Lib.hid B0
  have RA := Lib.hid RA0
  have RD := Lib.hid RD0
  have O := Lib.hid O2
  have HK := Lib.hid hK
  have HO := Lib.hid ho
  have HN := Lib.hid hn
  have HNN := Lib.hid hnn
  have H4 := Lib.hid h4
  have HA := Lib.hid hA
  have HD := Lib.hid hD
  have HBA := Lib.hid hbA
  have HBD := Lib.hid hbD
  obtain ⟨b0, b1, b2, b3, b4, b5, b6, b7, b8, b9⟩ := blk10 T0
  clear F0 T0 B0 RA0 RD0 O2 hK ho hn hnn h4 hA hD hbA hbD
  conv => arg 2; whnf
  go_wp2_with fail
  refine HL.out.mono ?_
  rintro e w1 ⟨A1, c1, rfl, ho1, hf⟩
  have B1 := B.out.frm hf (fun x => x)
  obtain ⟨W2, hW2⟩ : ∃ W2, W2 = w1.setCell ⟨tb, 9, none⟩ (.slice A1 o c1) := ⟨_, rfl⟩
  have f2 : Frm (One tb) w1 W2 := by rw [hW2]; exact (Frm.refl (One tb) w1).set1 9 _
  have B2 : Blk W2 tb 28 #[.int .u8 (tos : Int), .int .u16 (id : Int), .bool hdf, .bool hmf, .int .i64 z4, .int .u8 (ttl : Int), .int .u8 (pro : Int), .int .u32 (src : Int), .int .u32 (dst : Int), .slice A1 o c1] := by rw [hW2]; exact B1.set_ 9 _
  have o1 : w1.ownsRow W.heap.size 5 1 (.slice A1 (o + 12) c1) (o + 12) (byts (opts ++ marks 12)) := ho1
  have o1' : W2.ownsRow w.heap.size 5 1 (.slice A1 (o + 12) c1) (o + 12) (byts (opts ++ marks 12)) := own_more (f2.own o1 (fun i hi h => by have h1 : i = tb := h; subst h1; exact own_blk_ne o1 B1 (by decide) hi)) F.out.size
  have o2' : W2.ownsRow w.heap.size 5 1 (.slice A2 (n + 12) c2) (n + 12) (byts (data ++ marks 12)) := f2.own (hf.own O.out (fun _ _ x => x)) (fun i hi h => by have h1 : i = tb := h; subst h1; exact own_blk_ne O.out B.out (by decide) hi)
  have S : Hid (WrSt w W2 xb tb #[.int .u8 (tos : Int), .int .u16 (id : Int), .bool hdf, .bool hmf, .int .i64 z4, .int .u8 (ttl : Int), .int .u8 (pro : Int), .int .u32 (src : Int), .int .u32 (dst : Int), .slice A o c] #[.int .u8 (tos : Int), .int .u16 (id : Int), .bool hdf, .bool hmf, .int .i64 z4, .int .u8 (ttl : Int), .int .u8 (pro : Int), .int .u32 (src : Int), .int .u32 (dst : Int), .slice A1 o c1] A D opts data [] A1 A2 none o c1 n c2 0 0) := by
    refine ⟨(F.out.new0 hf).trans f2 (fun i hi h => by have h1 : i = tb := h; exact absurd hi (by omega)), (T.out.frm hf (fun x => x)).frm f2 (fun h => hxt h), B2, (RA.out.frm hf (fun _ _ x => x)).frm0 f2 (fun h0 q hq h => by have := HBA.out h0 q hq; have h1 : q = tb := h; omega), (RD.out.frm hf (fun _ _ x => x)).frm0 f2 (fun h0 q hq h => by have := HBD.out h0 q hq; have h1 : q = tb := h; omega), o1', o2', ⟨by simp [byts], .inl ⟨rfl, rfl⟩⟩, ?_, ?_, ?_⟩
    · intro i hi h'
      have h1 := (World.ownsRow.lt o1 i (blk_own hi)).1
      have h2 := (World.ownsRow.lt O.out i (blk_own h')).2
      omega
    · intro i _ h'
      simp [blk] at h'
    · intro i _ h'
      simp [blk] at h'
  have z9 := B1.frozen 9
  obtain ⟨d0, d1, d2, d3, d4, d5, d6, d7, d8, d9⟩ := blk10 B1
  clear hf f2 B2 o1 o1' o2' ho1 B1 F T B RA RD O HL b0 b1 b2 b3 b4 b5 b6 b7 b8 b9
  go_wp2_with fail
  rw [← hW2]
  have hKK := HK.out
  refine hKK _ _ ?_
  exact writes_c w W2 _ _ _ _ _ _ _ _ _ _ _ _ _ _ _ _ _ _ _ _ _ _ _ _ _ _ _ _ _ _ _ _ _ _ _ _ _ _ _ _ _ _ _ _ _ _ _ _ _ _ _ _ _ _ _ _ _ _ _ _ _ _ _ _ _ _ _ _ _ _ _ _ nn xb tb tos id hdf hmf z4 ttl pro src dst A D A1 A2 o c c1 n k c2 opts data l0 l1 l3 l4 l5 l6 hoc HA.out HD.out HO.out HN.out ho60 hn300 HNN.out H4.out S.out

set_option maxRecDepth 100000 in
set_option maxHeartbeats 8000000 in
theorem writes_3 (w w1 : World) (u0 u4 u5 u6 u7 u8 u9 u10 u11 u12 u13 u14 u15 u16 u17 u18 u19 u20 u21 u22 u23 u24 u25 u26 u27 u28 u29 u30 u31 u32 u33 u34 u35 u36 u37 u38 u39 u40 u41 u42 u43 u44 u45 u46 u47 u48 u49 u50 u51 u52 u53 u54 u55 u56 u57 u58 u59 u60 u61 u62 u63 u64 u65 u66 u67 u68 u69 u70 u71 u72 u73 u74 u75 u76 : Value) (nn : Int) (xb : Nat) (tos id : Nat) (hdf hmf : Bool) (z4 : Int) (ttl pro src dst : Nat) (A D : Option Addr) (o c n k : Nat) (opts data : List UInt8)
    (l0 : tos < 256) (l1 : id < 65536) (l3 : ttl < 256) (l4 : pro < 256) (l5 : src < 4294967296) (l6 : dst < 4294967296) (hoc : o ≤ c) (_hnk : n ≤ k) (hA : A = none → c = 0) (hD : D = none → k = 0)
    (ho : opts.length = o) (hn : data.length = n) (ho60 : o ≤ 60) (hn300 : n ≤ 300) (hnn : -9223372036854775808 ≤ nn ∧ nn ≤ 9223372036854775807) (h4 : -9223372036854775808 ≤ z4 ∧ z4 ≤ 9223372036854775807) (K : Act → World → Prop)
    (hK : ∀ a W, Code.wp Try.prog (dropS 3 B14) (bodyPost Try.prog Try.f14 (BoolNo true w)) a W → K a W)
    (F0 : Frm No w w1) (T0 : Blk w1 xb 28 #[.int .u8 (tos : Int), .int .u16 (id : Int), .bool hdf, .bool hmf, .int .i64 z4, .int .u8 (ttl : Int), .int .u8 (pro : Int), .int .u32 (src : Int), .int .u32 (dst : Int), .slice A o c]) (hwx : w.heap.size ≤ xb) (RA0 : Rds w A opts) (RD0 : Rds w D data) :
    Code.wp Try.prog (headS (dropS 2 B14)) (Exit.then K (bodyPost Try.prog Try.f14 (BoolNo true w))) ⟨#[u0, .slice D n k, .int .i64 nn, .pointer (some ⟨xb, 0, none⟩), u4, u5, u6, u7, u8, u9, u10, u11, u12, u13, u14, u15, u16, u17, u18, u19, u20, u21, u22, u23, u24, u25, u26, u27, u28, u29, u30, u31, u32, u33, u34, u35, u36, u37, u38, u39, u40, u41, u42, u43, u44, u45, u46, u47, u48, u49, u50, u51, u52, u53, u54, u55, u56, u57, u58, u59, u60, u61, u62, u63, u64, u65, u66, u67, u68, u69, u70, u71, u72, u73, u74, u75, u76], []⟩ w1 := by
  have HL := Lib.hid (fun W (hf : Frm No w1 W) => lent W D k n data hn ⟨(RD0.frm F0 (fun _ _ x => x)).frm hf (fun _ _ x => x), by omega, hD⟩ (by omega))
  unfold Lent at HL
  rw [hn] at HL
  have CX := Lib.hid (fun W (hf : Frm No w1 W) => blk10 (T0.frm hf (fun x => x)))
  have F := Lib.hid F0
  have T := Lib.hid T0
  have RA := Lib.hid RA0
  have RD := Lib.hid RD0
  have HK := Lib.hid hK
  have HO := Lib.hid ho
  have HN := Lib.hid hn
  have HNN := Lib.hid hnn
  have H4 := Lib.hid h4
  have HA := Lib.hid hA
  have HD := Lib.hid hD
  have F1d : Hid (Frm No w1 w1.drew) := (Frm.refl No w1).drew
  have hxl : xb < w1.heap.size := T0.lt
  have hsz := F0.size
  have hne1 : ¬ xb = w1.heap.size := by omega
  obtain ⟨b0, b1, b2, b3, b4, b5, b6, b7, b8, b9⟩ := blk10 T0
  clear F0 T0 RA0 RD0 hK ho hn hnn h4 hA hD
  conv => arg 2; whnf
  go_region_held3 (fun W => W.cell? ⟨xb, 0, none⟩ = some (.int .u8 (tos : Int)) ∧ W.cell? ⟨xb, 1, none⟩ = some (.int .u16 (id : Int)) ∧ W.cell? ⟨xb, 2, none⟩ = some (.bool hdf) ∧ W.cell? ⟨xb, 3, none⟩ = some (.bool hmf) ∧ W.cell? ⟨xb, 4, none⟩ = some (.int .i64 z4) ∧ W.cell? ⟨xb, 5, none⟩ = some (.int .u8 (ttl : Int)) ∧ W.cell? ⟨xb, 6, none⟩ = some (.int .u8 (pro : Int)) ∧ W.cell? ⟨xb, 7, none⟩ = some (.int .u32 (src : Int)) ∧ W.cell? ⟨xb, 8, none⟩ = some (.int .u32 (dst : Int)) ∧ W.cell? ⟨xb, 9, none⟩ = some (.slice A o c)) (first | (with_reducible exact CX.out _ (SF.out.frm _ _ _ _ _ _ _ _ _ _)) | (with_reducible exact CX.out _ (F9.out.alloc _)) | (with_reducible exact CX.out _ F9.out) | (with_reducible exact CX.out _ (F1d.out.alloc _)) | (with_reducible exact CX.out _ F1d.out) | go_keep)
    (first
      | (go_at_call 28; (with_reducible refine (HL.out _ ?_).mono ?_); (first | exact F1d.out | exact F1d.out.alloc _ | exact Frm.refl No w1); rintro e w9 ⟨A2, c2, rfl, ho2, hf9⟩; have F9 : Hid (Frm No w1 w9) := (by first | exact Frm.new0 F1d.out hf9 | exact Frm.new0 (F1d.out.alloc _) hf9); have O9 := Lib.hid ho2; have hx9 : xb < w9.heap.size := (by have := F9.out.size; omega); have hne9 : ¬ xb = w9.heap.size := (by omega); obtain ⟨_, _, _, _, _, _, _, _, _, _⟩ := CX.out w9 F9.out; (first | (have ZC := Lib.hid (show Blk w9 w1.heap.size 28 _ from (Blk.new w1.drew 28 #[.int .u8 0, .int .u16 0, .bool false, .bool false, .int .i64 0, .int .u8 0, .int .u8 0, .int .u32 0, .int .u32 0, .slice none 0 0]).frm hf9 (fun x => x)); have SF := Lib.hid (storeL F9.out ZC.out (Nat.le_refl _) O9.out)) | (have ZC := Lib.hid (Blk.new w9 28 #[.int .u8 0, .int .u16 0, .bool false, .bool false, .int .i64 0, .int .u8 0, .int .u8 0, .int .u32 0, .int .u32 0, .slice none 0 0]); have SF := Lib.hid (storeL (F9.out.alloc _) ZC.out F9.out.size ((Frm.alloc (Frm.refl No w9) _).own O9.out (fun _ _ x => x))))); (first | (obtain ⟨_, _, _, _, _, _, _, _, _, _⟩ := blk10 ZC.out; have _z := fun i => ZC.out.frozen i; have _ := _z 0; have _ := _z 1; have _ := _z 2; have _ := _z 3; have _ := _z 4; have _ := _z 5; have _ := _z 6; have _ := _z 7; have _ := _z 8; have _ := _z 9; clear _z) | skip); clear hf9 ho2))
  all_goals first
    | (obtain ⟨W9, hW9, FQ, BQ, OQ⟩ := SF.out.name (.int .u8 (tos : Int)) (.int .u16 (id : Int)) (.bool hdf) (.bool hmf) (.int .i64 z4) (.int .u8 (ttl : Int)) (.int .u8 (pro : Int)) (.int .u32 (src : Int)) (.int .u32 (dst : Int)) (.slice A o c)
       rw [← hW9]
       have hKK := HK.out
       show K _ _
       refine hKK _ _ ?_
       conv => arg 2; whnf
       refine wp_seq_k (fun K' hK' => ?_)
       exact writes_4 w W9 _ _ _ _ _ _ _ _ _ _ _ _ _ _ _ _ _ _ _ _ _ _ _ _ _ _ _ _ _ _ _ _ _ _ _ _ _ _ _ _ _ _ _ _ _ _ _ _ _ _ _ _ _ _ _ _ _ _ _ _ _ _ _ _ _ _ _ _ _ _ _ _ nn xb tos id hdf hmf z4 ttl pro src dst A D o c n k opts data l0 l1 l3 l4 l5 l6 hoc _hnk HA.out HD.out HO.out HN.out ho60 hn300 HNN.out H4.out A2 _ c2 K' hK' (F.out.new0 FQ) (T.out.frm FQ (fun x => x)) BQ hsz (by omega) (RA.out.frm (F.out.new0 FQ) (fun _ _ x => x)) (RD.out.frm (F.out.new0 FQ) (fun _ _ x => x)) (fun h0 q hq => RA.out.lt h0 hq) (fun h0 q hq => RD.out.lt h0 hq) (own_more OQ (by first | exact hsz | exact Nat.le_trans hsz (by simp))))
    | (obtain ⟨W9, hW9⟩ : ∃ W, W = w9.alloc (.cells #[.int .u8 (tos : Int), .int .u16 (id : Int), .bool hdf, .bool hmf, .int .i64 z4, .int .u8 (ttl : Int), .int .u8 (pro : Int), .int .u32 (src : Int), .int .u32 (dst : Int), .slice A o c] 28) := ⟨_, rfl⟩
       have FQ : Frm No w1 W9 := by rw [hW9]; exact F9.out.alloc _
       have BQ : Blk W9 w9.heap.size 28 #[.int .u8 (tos : Int), .int .u16 (id : Int), .bool hdf, .bool hmf, .int .i64 z4, .int .u8 (ttl : Int), .int .u8 (pro : Int), .int .u32 (src : Int), .int .u32 (dst : Int), .slice A o c] := by rw [hW9]; exact Blk.new w9 28 _
       have OQ := (Frm.alloc (Frm.refl No w9) (.cells #[.int .u8 (tos : Int), .int .u16 (id : Int), .bool hdf, .bool hmf, .int .i64 z4, .int .u8 (ttl : Int), .int .u8 (pro : Int), .int .u32 (src : Int), .int .u32 (dst : Int), .slice A o c] 28)).own O9.out (fun _ _ x => x)
       rw [← hW9] at OQ ⊢
       have hKK := HK.out
       show K _ _
       refine hKK _ _ ?_
       conv => arg 2; whnf
       refine wp_seq_k (fun K' hK' => ?_)
       exact writes_4 w W9 _ _ _ _ _ _ _ _ _ _ _ _ _ _ _ _ _ _ _ _ _ _ _ _ _ _ _ _ _ _ _ _ _ _ _ _ _ _ _ _ _ _ _ _ _ _ _ _ _ _ _ _ _ _ _ _ _ _ _ _ _ _ _ _ _ _ _ _ _ _ _ _ nn xb tos id hdf hmf z4 ttl pro src dst A D o c n k opts data l0 l1 l3 l4 l5 l6 hoc _hnk HA.out HD.out HO.out HN.out ho60 hn300 HNN.out H4.out A2 _ c2 K' hK' (F.out.new0 FQ) (T.out.frm FQ (fun x => x)) BQ (Nat.le_trans hsz F9.out.size) (by omega) (RA.out.frm (F.out.new0 FQ) (fun _ _ x => x)) (RD.out.frm (F.out.new0 FQ) (fun _ _ x => x)) (fun h0 q hq => RA.out.lt h0 hq) (fun h0 q hq => RD.out.lt h0 hq) (own_more OQ (by first | exact hsz | exact Nat.le_trans hsz (by simp))))

set_option maxRecDepth 100000 in
set_option maxHeartbeats 4000000 in
theorem writes_all (w : World) (nn : Int) (tos id : Nat) (hdf hmf : Bool) (z4 : Int) (ttl pro src dst : Nat) (A D : Option Addr) (o c n k : Nat) (opts data : List UInt8)
    (l0 : tos < 256) (l1 : id < 65536) (l3 : ttl < 256) (l4 : pro < 256) (l5 : src < 4294967296) (l6 : dst < 4294967296) (hoc : o ≤ c) (hnk : n ≤ k) (hA : A = none → c = 0) (hD : D = none → k = 0)
    (ho : opts.length = o) (hn : data.length = n) (hnn : -9223372036854775808 ≤ nn ∧ nn ≤ 9223372036854775807) (h4 : -9223372036854775808 ≤ z4 ∧ z4 ≤ 9223372036854775807) (RA : Rds w A opts) (RD : Rds w D data) :
    Calls Try.prog 14 #[.agg #[.int .u8 (tos : Int), .int .u16 (id : Int), .bool hdf, .bool hmf, .int .i64 z4, .int .u8 (ttl : Int), .int .u8 (pro : Int), .int .u32 (src : Int), .int .u32 (dst : Int), .slice A o c], .slice D n k, .int .i64 nn] w (BoolNo true w) := by
  have T := Lib.hid (Blk.new w 28 #[.int .u8 (tos : Int), .int .u16 (id : Int), .bool hdf, .bool hmf, .int .i64 z4, .int .u8 (ttl : Int), .int .u8 (pro : Int), .int .u32 (src : Int), .int .u32 (dst : Int), .slice A o c])
  have F := Lib.hid ((Frm.refl No w).alloc (.cells #[.int .u8 (tos : Int), .int .u16 (id : Int), .bool hdf, .bool hmf, .int .i64 z4, .int .u8 (ttl : Int), .int .u8 (pro : Int), .int .u32 (src : Int), .int .u32 (dst : Int), .slice A o c] 28))
  obtain ⟨b0, b1, b2, b3, b4, b5, b6, b7, b8, b9⟩ := blk10 T.out
  by_cases h60 : o ≤ 60
  · by_cases h300 : n ≤ 300
    · have g1 : ¬ (o : Int) > 60 := by omega
      have g2 : ¬ (n : Int) > 300 := by omega
      have HRA := Lib.hid RA
      have HRD := Lib.hid RD
      have HO := Lib.hid ho
      have HN := Lib.hid hn
      have HNN := Lib.hid hnn
      have H4 := Lib.hid h4
      have HA := Lib.hid hA
      have HD := Lib.hid hD
      clear RA RD ho hn hnn h4 hA hD
      go_enter Try.func14, Try.ntmps14
      go_upto_region 3 with fail
      exact writes_3 w _ _ _ _ _ _ _ _ _ _ _ _ _ _ _ _ _ _ _ _ _ _ _ _ _ _ _ _ _ _ _ _ _ _ _ _ _ _ _ _ _ _ _ _ _ _ _ _ _ _ _ _ _ _ _ _ _ _ _ _ _ _ _ _ _ _ _ _ _ _ _ _ _ _ _ nn _ tos id hdf hmf z4 ttl pro src dst A D o c n k opts data l0 l1 l3 l4 l5 l6 hoc hnk HA.out HD.out HO.out HN.out h60 h300 HNN.out H4.out _ (by assumption) F.out T.out (Nat.le_refl _) HRA.out HRD.out
    · have g1 : ¬ (o : Int) > 60 := by omega
      have g2 : (n : Int) > 300 := by omega
      clear h300 RA RD ho hn hnn h4 hA hD
      go_enter Try.func14, Try.ntmps14
      go_wp2_with fail
      go_ret
      exact ⟨rfl, F.out⟩
  · have g1 : (o : Int) > 60 := by omega
    clear h60 RA RD ho hn hnn h4 hA hD
    go_enter Try.func14, Try.ntmps14
    go_wp2_with fail
    go_ret
    exact ⟨rfl, F.out⟩
end Go.Proofs.Ytcclneaabnpbkaa

/- Ww -/
namespace Go.Proofs.Ytcclneaabnpbkaa
open Go.RowKit

set_option maxRecDepth 100000 in
set_option maxHeartbeats 1000000 in
theorem ip_writes (w : World) (tos id : Nat) (hdf hmf : Bool) (z4 : Int) (ttl pro src dst : Nat) (A : Option Addr) (o c : Nat) (opts : List UInt8) (l0 : tos < 256) (l1 : id < 65536) (h4 : -9223372036854775808 ≤ z4 ∧ z4 ≤ 9223372036854775807) (l3 : ttl < 256) (l4 : pro < 256) (l5 : src < 4294967296) (l6 : dst < 4294967296) (ho : opts.length = o) (hoc : o ≤ c) (RA : Rds w A opts) (hA : A = none → c = 0)
    (D : Option Addr) (n k : Nat) (data : List UInt8) (hn : data.length = n) (hnk : n ≤ k) (RD : Rds w D data) (hD : D = none → k = 0) (nn : Int) (hnn : -9223372036854775808 ≤ nn ∧ nn ≤ 9223372036854775807) :
    Calls Try.prog 4 #[.agg #[.int .u8 (tos : Int), .int .u16 (id : Int), .bool hdf, .bool hmf, .int .i64 z4, .int .u8 (ttl : Int), .int .u8 (pro : Int), .int .u32 (src : Int), .int .u32 (dst : Int), .slice A o c], .slice D n k, .int .i64 nn] w (BoolNo true w) := by
  have HW := Lib.hid (fun W (hf : Frm No w W) => writes_all W nn tos id hdf hmf z4 ttl pro src dst A D o c n k opts data l0 l1 l3 l4 l5 l6 hoc hnk hA hD ho hn hnn h4 (RA.frm hf (fun _ _ x => x)) (RD.frm hf (fun _ _ x => x)))
  have T := Lib.hid (Blk.new w 28 #[.int .u8 (tos : Int), .int .u16 (id : Int), .bool hdf, .bool hmf, .int .i64 z4, .int .u8 (ttl : Int), .int .u8 (pro : Int), .int .u32 (src : Int), .int .u32 (dst : Int), .slice A o c])
  clear RA RD hA hD ho hn hnn h4
  obtain ⟨b0, b1, b2, b3, b4, b5, b6, b7, b8, b9⟩ := blk10 T.out
  go_enter Try.func4, Try.ntmps4
  go_wp2_with fail
  refine (HW.out _ ((Frm.refl No w).alloc _)).mono ?_
  rintro e w1 ⟨rfl, hf⟩
  have F1 := Lib.hid (((Frm.refl No w).alloc _).new0 hf)
  clear hf b0 b1 b2 b3 b4 b5 b6 b7 b8 b9 T HW
  go_wp2_with fail
  refine (awake _).mono ?_
  rintro e w2 ⟨rfl, hf⟩
  have F2 := Lib.hid (F1.out.new0 hf)
  clear hf
  go_wp2_with fail
  go_ret
  exact ⟨rfl, F2.out⟩
end Go.Proofs.Ytcclneaabnpbkaa
