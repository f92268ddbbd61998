/-
  Texts of prefixes, ranges and keys.
-/
import Derived.Test.YtknmnlbgjpbgiaaDoorC5
import Derived.Test.YtknmnlbgjpbgiaaDoorC7
namespace Go.Proofs.YtknmnlbgjpbgiaaDoor
open Go.RowKit
open Go.Lib (decDigits)

theorem region_no {P : Program} {id : Nat} {Q : Exit → Act → World → Prop} {a : Act} {w : World} {l : List Oper} (hm : P.follows .mixedOrders = true) (hB : Region.lexB .any l.toArray = true)
    (h : wpQuiet P l.toArray (fun W => Frm No w W) (fun a' => ∀ w', Frm No w w' → Q .normal a' w') l a) : (Code.region id l.toArray true).wp P Q a w :=
  region_class (fun W => Frm No w W) hm hB (Frm.refl No w).drew h

attribute [local go_sem] undef
attribute [local irreducible] wpList wpQuiet

/-- The text of a prefix. -/
def pfxText (a n : Nat) : List UInt8 := textOf a ++ 47 :: decDigits n
def pfxTextV (a n : Nat) : Value := if rightB a n = true then .tuple #[.string ⟨(pfxText a n).toArray⟩, .int .i64 0] else .tuple #[.string ⟨#[]⟩, .int .i64 31]

theorem ret_str0 {a b : ByteArray} {z : Int} (h : a = b) : Ending.returned (.tuple #[.string a, .int .i64 z]) = .returned (.tuple #[.string b, .int .i64 z]) := by rw [h]

set_option maxRecDepth 100000 in
set_option maxHeartbeats 2000000 in
theorem ptext_pfx (w : World) (htab : Tab w) (a n : Nat) (ha : a < 4294967296) (hn : n < 256) : Calls Tryd.prog 23 #[.agg #[.int .u32 (a : Int), .int .u8 (n : Int)]] w (RetNo (pfxTextV a n) w) := by
  have HR := Lib.hid (fun W => right_pfx W a n ha hn)
  by_cases h : rightB a n = true
  · have hv : pfxTextV a n = .tuple #[.string ⟨(pfxText a n).toArray⟩, .int .i64 0] := by unfold pfxTextV; rw [if_pos h]
    rw [hv]
    rw [h] at HR
    clear hv h
    have HT := Lib.hid htab
    clear htab
    have l1 := textOf_len a
    have l2 := nDigits_3 n (by omega)
    have X1 := Lib.hid (fun W (hW : Tab W) => text_any W hW a ha)
    have X2 := Lib.hid (fun W (hW : Tab W) => dec8_any W hW n hn)
    have HX : Hid (pfxText a n = textOf a ++ 47 :: decDigits n) := rfl
    generalize textOf a = t at *
    generalize decDigits n = d at *
    have q1 : ¬ 9223372036854775807 < t.length + 1 := by omega
    have q2 : ¬ 9223372036854775807 < t.length + 1 + d.length := by omega
    go_enter Tryd.func23, Tryd.ntmps23
    go_wp2_with fail
    refine (HR.out _).mono ?_
    rintro e w1 ⟨rfl, hf⟩
    have F1 := Lib.hid hf
    have C0 := Lib.hid (fun W (hW : Frm No w1 W) => box_cells W (hf.new0 hW))
    have T1 := Lib.hid (fun W (hW : Frm No w1 W) => (HT.out.frm ((Frm.refl No w).alloc _)).frm (hf.new0 hW))
    clear hf
    go_wp2_with fail
    refine region_no (by kernel_rfl) (by kernel_rfl) ?_
    repeat (refine wpQuiet_step (fun K hK => ?_); go_simp; first
      | (refine hK _ ?_; clear hK K)
      | (apply Exists.intro; refine ⟨fun W hW => ?_, hK _ ?_⟩; (first | rfl | ((obtain ⟨c0, c1⟩ := C0.out W hW); go_simp; rfl)); clear hK K))
    refine wpQuiet_step (fun K hK => ?_)
    go_simp
    apply Exists.intro
    refine ⟨fun W hW => (X1.out W (T1.out W hW)).mono fun e w' he => ⟨he.1, hW.new0 he.2⟩, hK _ ?_⟩
    clear hK K
    repeat (refine wpQuiet_step (fun K hK => ?_); go_simp; first
      | (refine hK _ ?_; clear hK K)
      | (apply Exists.intro; refine ⟨fun W hW => ?_, hK _ ?_⟩; (first | rfl | ((obtain ⟨c0, c1⟩ := C0.out W hW); go_simp; rfl)); clear hK K))
    refine wpQuiet_step (fun K hK => ?_)
    go_simp
    apply Exists.intro
    refine ⟨fun W hW => (X2.out W (T1.out W hW)).mono fun e w' he => ⟨he.1, hW.new0 he.2⟩, hK _ ?_⟩
    clear hK K
    repeat (refine wpQuiet_step (fun K hK => ?_); go_simp; first
      | (refine hK _ ?_; clear hK K)
      | (apply Exists.intro; refine ⟨fun W hW => ?_, hK _ ?_⟩; (first | rfl | ((obtain ⟨c0, c1⟩ := C0.out W hW); go_simp; rfl)); clear hK K))
    refine wpQuiet_nil ?_
    intro W hW
    go_wp2
    go_ret2
    refine ⟨ret_str0 ?_, (((Frm.refl No w).alloc _).new0 F1.out).new0 hW⟩
    rw [HX.out]
    show (⟨t.toArray⟩ ++ ⟨[47].toArray⟩) ++ ⟨d.toArray⟩ = (⟨_⟩ : ByteArray)
    rw [app_list, app_list]
    simp
  · have h' : rightB a n = false := by simpa using h
    have hv : pfxTextV a n = .tuple #[.string ⟨#[]⟩, .int .i64 31] := by unfold pfxTextV; rw [if_neg h]
    rw [hv]
    rw [h'] at HR
    clear hv h h'
    go_enter Tryd.func23, Tryd.ntmps23
    go_wp2_with fail
    refine (HR.out _).mono ?_
    rintro e w1 ⟨rfl, hf⟩
    have F1 := Lib.hid hf
    clear hf
    go_wp2
    go_ret2
    exact ⟨rfl, ((Frm.refl No w).alloc _).new0 F1.out⟩

/-- The text of one end of a key. -/
def endText (a p : Nat) : List UInt8 := textOf a ++ 58 :: decDigits p

set_option maxRecDepth 100000 in
set_option maxHeartbeats 2000000 in
theorem etext_any (w : World) (htab : Tab w) (a p : Nat) (ha : a < 4294967296) (hp : p < 65536) : Calls Tryd.prog 58 #[.int .u32 (a : Int), .int .u16 (p : Int)] w (RetNo (.string ⟨(endText a p).toArray⟩) w) := by
  have HT := Lib.hid htab
  clear htab
  have l1 := textOf_len a
  have l2 := nDigits_5 p (by omega)
  have X1 := Lib.hid (fun W (hW : Tab W) => text_any W hW a ha)
  have X2 := Lib.hid (fun W (hW : Tab W) => dec16_any W hW p hp)
  have HX : Hid (endText a p = textOf a ++ 58 :: decDigits p) := rfl
  generalize textOf a = t at *
  generalize decDigits p = d at *
  have q1 : ¬ 9223372036854775807 < t.length + 1 := by omega
  have q2 : ¬ 9223372036854775807 < t.length + 1 + d.length := by omega
  go_enter Tryd.func58, Tryd.ntmps58
  go_wp2_with fail
  refine (X1.out _ HT.out).mono ?_
  rintro e w1 ⟨rfl, hf⟩
  have F1 := Lib.hid hf
  have T1 := Lib.hid (HT.out.frm hf)
  clear hf
  go_wp2_with fail
  refine (X2.out _ T1.out).mono ?_
  rintro e w2 ⟨rfl, hf⟩
  have F2 := Lib.hid (F1.out.new0 hf)
  clear hf
  go_wp2
  go_ret
  refine ⟨ret_str ?_, F2.out⟩
  rw [HX.out]
  show (⟨t.toArray⟩ ++ ⟨[58].toArray⟩) ++ ⟨d.toArray⟩ = (⟨_⟩ : ByteArray)
  rw [app_list, app_list]
  simp

/-- A key, as Go has it. -/
structure Ky where
  pr : Nat
  a : Nat
  b : Nat
  p : Nat
  q : Nat
structure Ky.Ok (k : Ky) : Prop where
  pr : k.pr < 256
  a : k.a < 4294967296
  b : k.b < 4294967296
  p : k.p < 65536
  q : k.q < 65536
def Ky.cells (k : Ky) : Array Value := #[.int .u8 (k.pr : Int), .int .u32 (k.a : Int), .int .u32 (k.b : Int), .int .u16 (k.p : Int), .int .u16 (k.q : Int)]
def keyText (k : Ky) : List UInt8 := decDigits k.pr ++ 32 :: (endText k.a k.p ++ 32 :: endText k.b k.q)

theorem endText_len (a p : Nat) (hp : p < 65536) : (endText a p).length ≤ 21 := by
  unfold endText
  simp only [List.length_append, List.length_cons]
  have := textOf_len a
  have := nDigits_5 p (by omega)
  omega

theorem key_cells {w : World} {x y z u v : Int} : ∀ W, Frm No (w.alloc (.cells #[.int .u8 x, .int .u32 y, .int .u32 z, .int .u16 u, .int .u16 v] 31)) W →
    W.cell? ⟨w.heap.size, 0, none⟩ = some (.int .u8 x) ∧ W.cell? ⟨w.heap.size, 1, none⟩ = some (.int .u32 y) ∧ W.cell? ⟨w.heap.size, 2, none⟩ = some (.int .u32 z) ∧ W.cell? ⟨w.heap.size, 3, none⟩ = some (.int .u16 u) ∧ W.cell? ⟨w.heap.size, 4, none⟩ = some (.int .u16 v) := by
  intro W hW
  have hb : Blk (w.alloc (.cells #[.int .u8 x, .int .u32 y, .int .u32 z, .int .u16 u, .int .u16 v] 31)) w.heap.size 31 #[.int .u8 x, .int .u32 y, .int .u32 z, .int .u16 u, .int .u16 v] := Blk.new _ _ _
  have h2 := hb.frm hW (fun x => x)
  exact ⟨h2.cell 0, h2.cell 1, h2.cell 2, h2.cell 3, h2.cell 4⟩

set_option maxRecDepth 100000 in
set_option maxHeartbeats 2000000 in
theorem ktext_any (w : World) (htab : Tab w) (pr a b p q : Nat) (hpr : pr < 256) (ha : a < 4294967296) (hb : b < 4294967296) (hp : p < 65536) (hq : q < 65536) :
    Calls Tryd.prog 26 #[.agg #[.int .u8 (pr : Int), .int .u32 (a : Int), .int .u32 (b : Int), .int .u16 (p : Int), .int .u16 (q : Int)]] w (RetNo (.string ⟨(keyText ⟨pr, a, b, p, q⟩).toArray⟩) w) := by
  have l1 := nDigits_3 pr (by omega)
  have l2 := endText_len a p hp
  have l3 := endText_len b q hq
  have X1 := Lib.hid (fun W (hW : Tab W) => dec8_any W hW pr hpr)
  have X2 := Lib.hid (fun W (hW : Tab W) => etext_any W hW a p ha hp)
  have X3 := Lib.hid (fun W (hW : Tab W) => etext_any W hW b q hb hq)
  have HX : Hid (keyText ⟨pr, a, b, p, q⟩ = decDigits pr ++ 32 :: (endText a p ++ 32 :: endText b q)) := rfl
  have C0 := Lib.hid (key_cells (w := w) (x := (pr : Int)) (y := (a : Int)) (z := (b : Int)) (u := (p : Int)) (v := (q : Int)))
  have T1 := Lib.hid (fun W (hW : Frm No (w.alloc (.cells #[.int .u8 (pr : Int), .int .u32 (a : Int), .int .u32 (b : Int), .int .u16 (p : Int), .int .u16 (q : Int)] 31)) W) => (htab.frm ((Frm.refl No w).alloc _)).frm hW)
  clear htab
  generalize decDigits pr = d at *
  generalize endText a p = s at *
  generalize endText b q = t at *
  have q1 : ¬ 9223372036854775807 < d.length + 1 := by omega
  have q2 : ¬ 9223372036854775807 < d.length + 1 + s.length := by omega
  have q3 : ¬ 9223372036854775807 < d.length + 1 + s.length + 1 := by omega
  have q4 : ¬ 9223372036854775807 < d.length + 1 + s.length + 1 + t.length := by omega
  go_enter Tryd.func26, Tryd.ntmps26
  go_wp2_with fail
  refine region_no (by kernel_rfl) (by kernel_rfl) ?_
  repeat (refine wpQuiet_step (fun K hK => ?_); go_simp; first
    | (refine hK _ ?_; clear hK K)
    | (apply Exists.intro; refine ⟨fun W hW => ?_, hK _ ?_⟩; (first | rfl | ((obtain ⟨c0, c1, c2, c3, c4⟩ := C0.out W hW); go_simp; rfl)); clear hK K))
  refine wpQuiet_step (fun K hK => ?_)
  go_simp
  apply Exists.intro
  refine ⟨fun W hW => (X1.out W (T1.out W hW)).mono fun e w' he => ⟨he.1, hW.new0 he.2⟩, hK _ ?_⟩
  clear hK K
  repeat (refine wpQuiet_step (fun K hK => ?_); go_simp; first
    | (refine hK _ ?_; clear hK K)
    | (apply Exists.intro; refine ⟨fun W hW => ?_, hK _ ?_⟩; (first | rfl | ((obtain ⟨c0, c1, c2, c3, c4⟩ := C0.out W hW); go_simp; rfl)); clear hK K))
  refine wpQuiet_step (fun K hK => ?_)
  go_simp
  apply Exists.intro
  refine ⟨fun W hW => (X2.out W (T1.out W hW)).mono fun e w' he => ⟨he.1, hW.new0 he.2⟩, hK _ ?_⟩
  clear hK K
  repeat (refine wpQuiet_step (fun K hK => ?_); go_simp; first
    | (refine hK _ ?_; clear hK K)
    | (apply Exists.intro; refine ⟨fun W hW => ?_, hK _ ?_⟩; (first | rfl | ((obtain ⟨c0, c1, c2, c3, c4⟩ := C0.out W hW); go_simp; rfl)); clear hK K))
  refine wpQuiet_step (fun K hK => ?_)
  go_simp
  apply Exists.intro
  refine ⟨fun W hW => (X3.out W (T1.out W hW)).mono fun e w' he => ⟨he.1, hW.new0 he.2⟩, hK _ ?_⟩
  clear hK K
  repeat (refine wpQuiet_step (fun K hK => ?_); go_simp; first
    | (refine hK _ ?_; clear hK K)
    | (apply Exists.intro; refine ⟨fun W hW => ?_, hK _ ?_⟩; (first | rfl | ((obtain ⟨c0, c1, c2, c3, c4⟩ := C0.out W hW); go_simp; rfl)); clear hK K))
  refine wpQuiet_nil ?_
  intro W hW
  go_wp2
  go_ret
  refine ⟨ret_str ?_, ((Frm.refl No w).alloc _).new0 hW⟩
  rw [HX.out]
  show (((⟨d.toArray⟩ ++ ⟨[32].toArray⟩) ++ ⟨s.toArray⟩) ++ ⟨[32].toArray⟩) ++ ⟨t.toArray⟩ = (⟨_⟩ : ByteArray)
  rw [app_list, app_list, app_list, app_list]
  simp
end Go.Proofs.YtknmnlbgjpbgiaaDoor
