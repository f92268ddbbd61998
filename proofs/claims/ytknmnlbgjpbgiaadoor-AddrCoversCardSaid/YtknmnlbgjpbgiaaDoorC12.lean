/-
  What texts are read: readEnd, ReadKey.
-/
import Derived.Test.YtknmnlbgjpbgiaaDoorC11
import Derived.Test.YtknmnlbgjpbgiaaDoorC10
namespace Go.Proofs.YtknmnlbgjpbgiaaDoor
open Go.RowKit
open Go.Lib (decDigits)
attribute [local go_sem] undef

/-- The end of a key whose text l is. -/
def endOf (l : List UInt8) : Option (Nat × Nat) :=
  match readOf (cutB 58 l).1, numOf 65535 (cutB 58 l).2.1 with
  | some a, some p => some (a, p)
  | _, _ => none

def EndYes (a p : Nat) (w : World) (e : Ending) (w' : World) : Prop := e = .returned (.tuple #[.int .u32 (a : Int), .int .u16 (p : Int), .bool true]) ∧ Frm No w w'
def EndAny (b : Bool) (w : World) (e : Ending) (w' : World) : Prop := ∃ x y : Int, e = .returned (.tuple #[.int .u32 x, .int .u16 y, .bool b]) ∧ Frm No w w'

set_option maxRecDepth 100000 in
set_option maxHeartbeats 2000000 in
theorem end_yes (l : List UInt8) (w : World) (hs : l.length ≤ 9223372036854775807) (a p : Nat) (h : endOf l = some (a, p)) : Calls Tryd.prog 57 #[.string ⟨l.toArray⟩] w (EndYes a p w) := by
  obtain ⟨t, r, f, hc⟩ : ∃ t r f, cutB 58 l = (t, r, f) := ⟨_, _, _, rfl⟩
  have hsz := cut_sz' hc hs
  have CU := Lib.hid (fun W => cut_l l 58 W hs hc)
  unfold endOf at h
  rw [hc] at h
  clear hc
  cases hr : readOf t with
  | none => simp only [hr] at h; cases h
  | some a' =>
    cases hn : numOf 65535 r with
    | none => simp only [hr, hn] at h; cases h
    | some p' =>
      simp only [hr, hn, Option.some.injEq, Prod.mk.injEq] at h
      obtain ⟨rfl, rfl⟩ := h
      have RD := Lib.hid (fun W => read_yes t W hsz.1 hr)
      have NU := Lib.hid (fun W => num16_yes r W hsz.2 hn)
      clear hn hr
      go_enter Tryd.func57, Tryd.ntmps57
      go_wp2_with fail
      refine (CU.out _).mono ?_
      rintro e w1 ⟨rfl, m, rfl⟩
      go_wp2_with fail
      refine (RD.out _).mono ?_
      rintro e w1 ⟨rfl, hf⟩
      have F1 := Lib.hid (((Frm.refl No w).drewN m).new0 hf)
      clear hf
      go_wp2_with fail
      refine (NU.out _).mono ?_
      rintro e w2 ⟨rfl, rfl⟩
      go_wp2
      go_ret3
      exact ⟨rfl, F1.out⟩

set_option maxRecDepth 100000 in
set_option maxHeartbeats 2000000 in
theorem end_no (l : List UInt8) (w : World) (hs : l.length ≤ 9223372036854775807) (h : endOf l = none) : Calls Tryd.prog 57 #[.string ⟨l.toArray⟩] w (EndAny false w) := by
  obtain ⟨t, r, f, hc⟩ : ∃ t r f, cutB 58 l = (t, r, f) := ⟨_, _, _, rfl⟩
  have hsz := cut_sz' hc hs
  have CU := Lib.hid (fun W => cut_l l 58 W hs hc)
  unfold endOf at h
  rw [hc] at h
  clear hc
  cases hn : numOf 65535 r with
  | none =>
    have NU := Lib.hid (fun W => num16_no r W hsz.2 hn)
    clear hn h
    cases hr : readOf t with
    | none =>
      have RD := Lib.hid (fun W => read_no t W hsz.1 hr)
      clear hr
      go_enter Tryd.func57, Tryd.ntmps57
      go_wp2_with fail
      refine (CU.out _).mono ?_
      rintro e w1 ⟨rfl, m, rfl⟩
      go_wp2_with fail
      refine (RD.out _).mono ?_
      rintro e w1 ⟨rfl, hf⟩
      have F1 := Lib.hid (((Frm.refl No w).drewN m).new0 hf)
      clear hf
      go_wp2_with fail
      refine (NU.out _).mono ?_
      rintro e w2 ⟨rfl, rfl⟩
      go_wp2
      go_ret3
      exact ⟨_, _, rfl, F1.out⟩
    | some a' =>
      have RD := Lib.hid (fun W => read_yes t W hsz.1 hr)
      clear hr
      go_enter Tryd.func57, Tryd.ntmps57
      go_wp2_with fail
      refine (CU.out _).mono ?_
      rintro e w1 ⟨rfl, m, rfl⟩
      go_wp2_with fail
      refine (RD.out _).mono ?_
      rintro e w1 ⟨rfl, hf⟩
      have F1 := Lib.hid (((Frm.refl No w).drewN m).new0 hf)
      clear hf
      go_wp2_with fail
      refine (NU.out _).mono ?_
      rintro e w2 ⟨rfl, rfl⟩
      go_wp2
      go_ret3
      exact ⟨_, _, rfl, F1.out⟩
  | some p' =>
    cases hr : readOf t with
    | some a' => simp only [hr, hn] at h; cases h
    | none =>
      have NU := Lib.hid (fun W => num16_yes r W hsz.2 hn)
      have RD := Lib.hid (fun W => read_no t W hsz.1 hr)
      clear hn hr h
      go_enter Tryd.func57, Tryd.ntmps57
      go_wp2_with fail
      refine (CU.out _).mono ?_
      rintro e w1 ⟨rfl, m, rfl⟩
      go_wp2_with fail
      refine (RD.out _).mono ?_
      rintro e w1 ⟨rfl, hf⟩
      have F1 := Lib.hid (((Frm.refl No w).drewN m).new0 hf)
      clear hf
      go_wp2_with fail
      refine (NU.out _).mono ?_
      rintro e w2 ⟨rfl, rfl⟩
      go_wp2
      go_ret3
      exact ⟨_, _, rfl, F1.out⟩

theorem end_ex (l : List UInt8) (hs : l.length ≤ 9223372036854775807) : ∃ b, ∀ w, Calls Tryd.prog 57 #[.string ⟨l.toArray⟩] w (EndAny b w) := by
  cases h : endOf l with
  | none => exact ⟨false, fun w => end_no l w hs h⟩
  | some ap =>
    obtain ⟨a, p⟩ := ap
    exact ⟨true, fun w => (end_yes l w hs a p h).mono fun e w' he => ⟨_, _, he.1, he.2⟩⟩

theorem end_inv (l : List UInt8) (a p : Nat) (h : endOf l = some (a, p)) : a < 4294967296 ∧ p < 65536 ∧ l = endText a p := by
  unfold endOf at h
  obtain ⟨t, r, f, hc⟩ : ∃ t r f, cutB 58 l = (t, r, f) := ⟨_, _, _, rfl⟩
  rw [hc] at h
  cases hr : readOf t with
  | none => simp only [hr] at h; cases h
  | some a' =>
    cases hn : numOf 65535 r with
    | none => simp only [hr, hn] at h; cases h
    | some p' =>
      simp only [hr, hn, Option.some.injEq, Prod.mk.injEq] at h
      obtain ⟨rfl, rfl⟩ := h
      have h1 := read_inv t a' hr
      have h2 := numOf_inv 65535 r p' hn
      refine ⟨h1.2, by omega, ?_⟩
      have hb := cutB_back 58 l t r f hc
      cases f with
      | false =>
        have := (hb.2 rfl).2
        rw [this] at h2
        exact absurd h2.1.symm (dec_ne_nil p')
      | true =>
        rw [hb.1 rfl, h1.1, h2.1]
        rfl
theorem end_back (a p : Nat) (ha : a < 4294967296) (hp : p < 65536) : endOf (endText a p) = some (a, p) := by
  unfold endOf endText
  rw [cutB_hit 58 _ _ (text_sign a 58 (by decide))]
  simp only [read_text a ha, numOf_dec 65535 p (by omega)]

/-- The key whose text l is. -/
def keyOf (l : List UInt8) : Option Ky :=
  match numOf 255 (cutB 32 l).1, endOf (cutB 32 (cutB 32 l).2.1).1, endOf (cutB 32 (cutB 32 l).2.1).2.1 with
  | some pr, some (a, p), some (b, q) => some ⟨pr, a, b, p, q⟩
  | _, _, _ => none

def KeyEnds (l : List UInt8) (w : World) (e : Ending) (w' : World) : Prop :=
  (match keyOf l with
    | none => e = .returned (.tuple #[.agg #[.int .u8 0, .int .u32 0, .int .u32 0, .int .u16 0, .int .u16 0], .int .i64 30])
    | some k => e = .returned (.tuple #[.agg #[.int .u8 (k.pr : Int), .int .u32 (k.a : Int), .int .u32 (k.b : Int), .int .u16 (k.p : Int), .int .u16 (k.q : Int)], .int .i64 0])) ∧ Frm No w w'
theorem KeyEnds.none {l : List UInt8} {w w' : World} (h : keyOf l = none) (hf : Frm No w w') : KeyEnds l w (.returned (.tuple #[.agg #[.int .u8 0, .int .u32 0, .int .u32 0, .int .u16 0, .int .u16 0], .int .i64 30])) w' := by
  unfold KeyEnds
  rw [h]
  exact ⟨rfl, hf⟩
theorem KeyEnds.some {l : List UInt8} {w w' : World} {pr a b p q : Nat} (h : keyOf l = some ⟨pr, a, b, p, q⟩) (hf : Frm No w w') : KeyEnds l w (.returned (.tuple #[.agg #[.int .u8 (pr : Int), .int .u32 (a : Int), .int .u32 (b : Int), .int .u16 (p : Int), .int .u16 (q : Int)], .int .i64 0])) w' := by
  unfold KeyEnds
  rw [h]
  exact ⟨rfl, hf⟩

theorem frozen5 {w : World} {g : Nat} {x y z u v : Value} (h : Blk w g 31 #[x, y, z, u, v]) :
    w.frozen? ⟨g, 0, none⟩ = false ∧ w.frozen? ⟨g, 1, none⟩ = false ∧ w.frozen? ⟨g, 2, none⟩ = false ∧ w.frozen? ⟨g, 3, none⟩ = false ∧ w.frozen? ⟨g, 4, none⟩ = false :=
  ⟨h.frozen 0, h.frozen 1, h.frozen 2, h.frozen 3, h.frozen 4⟩
theorem set5 {w : World} {g t : Nat} {x y z s r u0 u1 u2 u3 u4 : Value} (h : Blk w g t #[x, y, z, s, r]) : Blk (((((w.setCell ⟨g, 0, none⟩ u0).setCell ⟨g, 1, none⟩ u1).setCell ⟨g, 2, none⟩ u2).setCell ⟨g, 3, none⟩ u3).setCell ⟨g, 4, none⟩ u4) g t #[u0, u1, u2, u3, u4] := ((((h.set_ 0 u0).set_ 1 u1).set_ 2 u2).set_ 3 u3).set_ 4 u4
theorem Frm.set5 {w w' : World} {g : Nat} (h : Frm No w w') (hg : w.heap.size ≤ g) (u0 u1 u2 u3 u4 : Value) : Frm No w (((((w'.setCell ⟨g, 0, none⟩ u0).setCell ⟨g, 1, none⟩ u1).setCell ⟨g, 2, none⟩ u2).setCell ⟨g, 3, none⟩ u3).setCell ⟨g, 4, none⟩ u4) := by
  have hx : ∀ i, (⟨g, i, none⟩ : Addr).block < w.heap.size → No (⟨g, i, none⟩ : Addr).block := fun i hx => absurd hx (by show ¬ g < _; omega)
  exact ((((h.setCell (hx 0) u0).setCell (hx 1) u1).setCell (hx 2) u2).setCell (hx 3) u3).setCell (hx 4) u4

set_option maxRecDepth 100000 in
set_option maxHeartbeats 8000000 in
theorem rkey_any (l : List UInt8) (w : World) (hs : l.length ≤ 9223372036854775807) : Calls Tryd.prog 25 #[.string ⟨l.toArray⟩] w (KeyEnds l w) := by
  obtain ⟨t, r, f, hc⟩ : ∃ t r f, cutB 32 l = (t, r, f) := ⟨_, _, _, rfl⟩
  have hsz := cut_sz' hc hs
  obtain ⟨t1, t2, f2, hd⟩ : ∃ x y z, cutB 32 r = (x, y, z) := ⟨_, _, _, rfl⟩
  have hsz2 := cut_sz' hd hsz.2
  have CU := Lib.hid (fun W => cut_l l 32 W hs hc)
  have CV := Lib.hid (fun W => cut_l r 32 W hsz.2 hd)
  have hkey : keyOf l = match numOf 255 t, endOf t1, endOf t2 with
    | some pr, some (a, p), some (b, q) => some ⟨pr, a, b, p, q⟩
    | _, _, _ => none := by
    unfold keyOf
    rw [hc]
    simp only [hd]
  clear hc hd
  cases hn : numOf 255 t with
  | none =>
    have HP := Lib.hid (show keyOf l = none by rw [hkey, hn])
    have NU := Lib.hid (fun W => num8_no t W hsz.1 hn)
    obtain ⟨b1, h1⟩ := end_ex t1 hsz2.1
    obtain ⟨b2, h2⟩ := end_ex t2 hsz2.2
    have E1 := Lib.hid h1
    have E2 := Lib.hid h2
    clear hn hkey h1 h2
    go_enter Tryd.func25, Tryd.ntmps25
    go_wp2_with fail
    refine (CU.out _).mono ?_
    rintro e w1 ⟨rfl, m, rfl⟩
    go_wp2_with fail
    refine (CV.out _).mono ?_
    rintro e w1 ⟨rfl, m2, rfl⟩
    go_wp2_with fail
    refine (NU.out _).mono ?_
    rintro e w1 ⟨rfl, rfl⟩
    go_wp2_with fail
    refine (E1.out _).mono ?_
    rintro e w1 ⟨x1, y1, rfl, hf⟩
    have F1 := Lib.hid ((((Frm.refl No w).alloc _).drewN (m + m2)).new0 hf)
    have B1 := Lib.hid (((Blk.new w 31 #[.int .u8 0, .int .u32 0, .int .u32 0, .int .u16 0, .int .u16 0]).drewN (m + m2)).frm hf (fun x => x))
    clear hf
    go_wp2_with fail
    refine (E2.out _).mono ?_
    rintro e w2 ⟨x2, y2, rfl, hf⟩
    have F2 := Lib.hid (F1.out.new0 hf)
    have B2 := Lib.hid (B1.out.frm hf (fun x => x))
    clear hf
    obtain ⟨c0, c1, c2, c3, c4⟩ := blk_cells5 B2.out
    obtain ⟨f0, f1, f2, f3, f4⟩ := frozen5 B2.out
    have BZ := Lib.hid (set5 (u0 := .int .u8 0) (u1 := .int .u32 0) (u2 := .int .u32 0) (u3 := .int .u16 0) (u4 := .int .u16 0) B2.out)
    go_wp2
    obtain ⟨z0, z1, z2, z3, z4⟩ := blk_cells5 BZ.out
    refine bodyPost_ret (v := .tuple #[.agg #[.int .u8 0, .int .u32 0, .int .u32 0, .int .u16 0, .int .u16 0], .int .i64 30]) (by simp [results, Tryd.results25, go_sem, z0, z1, z2, z3, z4]) rfl (KeyEnds.none HP.out ?_)
    exact F2.out.set5 (Nat.le_refl _) _ _ _ _ _
  | some pr =>
    have NU := Lib.hid (fun W => num8_yes t W hsz.1 hn)
    cases h1 : endOf t1 with
    | none =>
      have HP := Lib.hid (show keyOf l = none by rw [hkey, hn, h1])
      have E1 := Lib.hid (fun W => end_no t1 W hsz2.1 h1)
      obtain ⟨b2, h2⟩ := end_ex t2 hsz2.2
      have E2 := Lib.hid h2
      clear hn hkey h1 h2
      go_enter Tryd.func25, Tryd.ntmps25
      go_wp2_with fail
      refine (CU.out _).mono ?_
      rintro e w1 ⟨rfl, m, rfl⟩
      go_wp2_with fail
      refine (CV.out _).mono ?_
      rintro e w1 ⟨rfl, m2, rfl⟩
      go_wp2_with fail
      refine (NU.out _).mono ?_
      rintro e w1 ⟨rfl, rfl⟩
      go_wp2_with fail
      refine (E1.out _).mono ?_
      rintro e w1 ⟨x1, y1, rfl, hf⟩
      have F1 := Lib.hid ((((Frm.refl No w).alloc _).drewN (m + m2)).new0 hf)
      have B1 := Lib.hid (((Blk.new w 31 #[.int .u8 0, .int .u32 0, .int .u32 0, .int .u16 0, .int .u16 0]).drewN (m + m2)).frm hf (fun x => x))
      clear hf
      go_wp2_with fail
      refine (E2.out _).mono ?_
      rintro e w2 ⟨x2, y2, rfl, hf⟩
      have F2 := Lib.hid (F1.out.new0 hf)
      have B2 := Lib.hid (B1.out.frm hf (fun x => x))
      clear hf
      obtain ⟨c0, c1, c2, c3, c4⟩ := blk_cells5 B2.out
      obtain ⟨f0, f1, f2, f3, f4⟩ := frozen5 B2.out
      have BZ := Lib.hid (set5 (u0 := .int .u8 0) (u1 := .int .u32 0) (u2 := .int .u32 0) (u3 := .int .u16 0) (u4 := .int .u16 0) B2.out)
      go_wp2
      obtain ⟨z0, z1, z2, z3, z4⟩ := blk_cells5 BZ.out
      refine bodyPost_ret (v := .tuple #[.agg #[.int .u8 0, .int .u32 0, .int .u32 0, .int .u16 0, .int .u16 0], .int .i64 30]) (by simp [results, Tryd.results25, go_sem, z0, z1, z2, z3, z4]) rfl (KeyEnds.none HP.out ?_)
      exact F2.out.set5 (Nat.le_refl _) _ _ _ _ _
    | some ap =>
      obtain ⟨a, p⟩ := ap
      have E1 := Lib.hid (fun W => end_yes t1 W hsz2.1 a p h1)
      cases h2 : endOf t2 with
      | none =>
        have HP := Lib.hid (show keyOf l = none by rw [hkey, hn, h1, h2])
        have E2 := Lib.hid (fun W => end_no t2 W hsz2.2 h2)
        clear hn hkey h1 h2
        go_enter Tryd.func25, Tryd.ntmps25
        go_wp2_with fail
        refine (CU.out _).mono ?_
        rintro e w1 ⟨rfl, m, rfl⟩
        go_wp2_with fail
        refine (CV.out _).mono ?_
        rintro e w1 ⟨rfl, m2, rfl⟩
        go_wp2_with fail
        refine (NU.out _).mono ?_
        rintro e w1 ⟨rfl, rfl⟩
        go_wp2_with fail
        refine (E1.out _).mono ?_
        rintro e w1 ⟨rfl, hf⟩
        have F1 := Lib.hid ((((Frm.refl No w).alloc _).drewN (m + m2)).new0 hf)
        have B1 := Lib.hid (((Blk.new w 31 #[.int .u8 0, .int .u32 0, .int .u32 0, .int .u16 0, .int .u16 0]).drewN (m + m2)).frm hf (fun x => x))
        clear hf
        go_wp2_with fail
        refine (E2.out _).mono ?_
        rintro e w2 ⟨x2, y2, rfl, hf⟩
        have F2 := Lib.hid (F1.out.new0 hf)
        have B2 := Lib.hid (B1.out.frm hf (fun x => x))
        clear hf
        obtain ⟨c0, c1, c2, c3, c4⟩ := blk_cells5 B2.out
        obtain ⟨f0, f1, f2, f3, f4⟩ := frozen5 B2.out
        have BZ := Lib.hid (set5 (u0 := .int .u8 0) (u1 := .int .u32 0) (u2 := .int .u32 0) (u3 := .int .u16 0) (u4 := .int .u16 0) B2.out)
        go_wp2
        obtain ⟨z0, z1, z2, z3, z4⟩ := blk_cells5 BZ.out
        refine bodyPost_ret (v := .tuple #[.agg #[.int .u8 0, .int .u32 0, .int .u32 0, .int .u16 0, .int .u16 0], .int .i64 30]) (by simp [results, Tryd.results25, go_sem, z0, z1, z2, z3, z4]) rfl (KeyEnds.none HP.out ?_)
        exact F2.out.set5 (Nat.le_refl _) _ _ _ _ _
      | some bq =>
        obtain ⟨b, q⟩ := bq
        have HP := Lib.hid (show keyOf l = some ⟨pr, a, b, p, q⟩ by rw [hkey, hn, h1, h2])
        have E2 := Lib.hid (fun W => end_yes t2 W hsz2.2 b q h2)
        clear hn hkey h1 h2
        go_enter Tryd.func25, Tryd.ntmps25
        go_wp2_with fail
        refine (CU.out _).mono ?_
        rintro e w1 ⟨rfl, m, rfl⟩
        go_wp2_with fail
        refine (CV.out _).mono ?_
        rintro e w1 ⟨rfl, m2, rfl⟩
        go_wp2_with fail
        refine (NU.out _).mono ?_
        rintro e w1 ⟨rfl, rfl⟩
        go_wp2_with fail
        refine (E1.out _).mono ?_
        rintro e w1 ⟨rfl, hf⟩
        have F1 := Lib.hid ((((Frm.refl No w).alloc _).drewN (m + m2)).new0 hf)
        have B1 := Lib.hid (((Blk.new w 31 #[.int .u8 0, .int .u32 0, .int .u32 0, .int .u16 0, .int .u16 0]).drewN (m + m2)).frm hf (fun x => x))
        clear hf
        go_wp2_with fail
        refine (E2.out _).mono ?_
        rintro e w2 ⟨rfl, hf⟩
        have F2 := Lib.hid (F1.out.new0 hf)
        have B2 := Lib.hid (B1.out.frm hf (fun x => x))
        clear hf
        obtain ⟨c0, c1, c2, c3, c4⟩ := blk_cells5 B2.out
        obtain ⟨f0, f1, f2, f3, f4⟩ := frozen5 B2.out
        have BZ := Lib.hid (set5 (u0 := .int .u8 (pr : Int)) (u1 := .int .u32 (a : Int)) (u2 := .int .u32 (b : Int)) (u3 := .int .u16 (p : Int)) (u4 := .int .u16 (q : Int)) B2.out)
        go_wp2
        obtain ⟨z0, z1, z2, z3, z4⟩ := blk_cells5 BZ.out
        refine bodyPost_ret (v := .tuple #[.agg #[.int .u8 (pr : Int), .int .u32 (a : Int), .int .u32 (b : Int), .int .u16 (p : Int), .int .u16 (q : Int)], .int .i64 0]) (by simp [results, Tryd.results25, go_sem, z0, z1, z2, z3, z4]) rfl (KeyEnds.some HP.out ?_)
        exact F2.out.set5 (Nat.le_refl _) _ _ _ _ _

end Go.Proofs.YtknmnlbgjpbgiaaDoor
