/-
  The kit's bag: apart, where the bytes alone are not nil.
-/
import Derived.Test.YtnokbnggpbjchaaE1
namespace Go.Proofs.Ytnokbnggpbjchaa
open Go.RowKit

def bagOf (V : Value) : Array Value := #[.slice none 0 0, .slice none 0 0, V, .slice none 0 0, .slice none 0 0, .slice none 0 0, .slice none 0 0, .slice none 0 0, .slice none 0 0, .slice none 0 0, .slice none 0 0, .slice none 0 0, .slice none 0 0]

set_option maxRecDepth 100000 in
set_option maxHeartbeats 4000000 in
theorem apart_bag (w : World) (g : Nat) (A : Option Addr) (n c : Nat) (S : Nat → Prop) (hb : Blk w g 90 (bagOf (.slice A n c))) (hS : ¬ S g)
    (HF : ∀ W, Frm No w W → Calls Try.prog 63 #[.slice A n c] W fun e w' => e = .returned (.bool true) ∧ Frm S W w') :
    Calls Try.prog 55 #[.pointer (some ⟨g, 0, none⟩)] w fun e w' => e = .returned (.bool true) ∧ Frm S w w' := by
  have HF := Lib.hid HF
  have B0 := Lib.hid hb
  have F0 := Lib.hid (Frm.refl S w)
  have G0 := Lib.hid (Frm.refl No w)
  clear hb
  go_enter Try.func55, Try.ntmps55
  have c0 : w.cell? ⟨g, 0, none⟩ = some (.slice none 0 0) := (B0.out.cell 0).trans rfl
  go_wp2_with fail
  refine (flat61_nil w).mono ?_
  rintro e0 w1 ⟨rfl, hf⟩
  have B1 := Lib.hid (B0.out.frm hf (fun x => x))
  have G1 := Lib.hid (G0.out.trans hf (fun _ _ x => x))
  clear hf c0 B0 G0
  have c1 : w1.cell? ⟨g, 1, none⟩ = some (.slice none 0 0) := (B1.out.cell 1).trans rfl
  go_wp2_with fail
  refine (flat62_nil w1).mono ?_
  rintro e1 w2 ⟨rfl, hf⟩
  have B2 := Lib.hid (B1.out.frm hf (fun x => x))
  have G2 := Lib.hid (G1.out.trans hf (fun _ _ x => x))
  clear hf c1 B1 G1
  have c2 : w2.cell? ⟨g, 2, none⟩ = some (.slice A n c) := (B2.out.cell 2).trans rfl
  go_wp2_with fail
  refine (HF.out w2 G2.out).mono ?_
  rintro e2 w3 ⟨rfl, hf⟩
  have B3 := Lib.hid (B2.out.frm hf hS)
  have F3 := Lib.hid ((G2.out.of_no S).trans hf (fun _ _ x => x))
  clear hf c2 B2 G2 F0 HF
  have c3 : w3.cell? ⟨g, 3, none⟩ = some (.slice none 0 0) := (B3.out.cell 3).trans rfl
  go_wp2_with fail
  refine (flat64_nil w3).mono ?_
  rintro e3 w4 ⟨rfl, hf⟩
  have B4 := Lib.hid (B3.out.frm hf (fun x => x))
  have F4 := Lib.hid (F3.out.trans (hf.of_no S) (fun _ _ x => x))
  clear hf c3 B3 F3
  have c4 : w4.cell? ⟨g, 4, none⟩ = some (.slice none 0 0) := (B4.out.cell 4).trans rfl
  go_wp2_with fail
  refine (flat65_nil w4).mono ?_
  rintro e4 w5 ⟨rfl, hf⟩
  have B5 := Lib.hid (B4.out.frm hf (fun x => x))
  have F5 := Lib.hid (F4.out.trans (hf.of_no S) (fun _ _ x => x))
  clear hf c4 B4 F4
  have c5 : w5.cell? ⟨g, 5, none⟩ = some (.slice none 0 0) := (B5.out.cell 5).trans rfl
  go_wp2_with fail
  refine (flat66_nil w5).mono ?_
  rintro e5 w6 ⟨rfl, hf⟩
  have B6 := Lib.hid (B5.out.frm hf (fun x => x))
  have F6 := Lib.hid (F5.out.trans (hf.of_no S) (fun _ _ x => x))
  clear hf c5 B5 F5
  have c6 : w6.cell? ⟨g, 6, none⟩ = some (.slice none 0 0) := (B6.out.cell 6).trans rfl
  go_wp2_with fail
  refine (flat67_nil w6).mono ?_
  rintro e6 w7 ⟨rfl, hf⟩
  have B7 := Lib.hid (B6.out.frm hf (fun x => x))
  have F7 := Lib.hid (F6.out.trans (hf.of_no S) (fun _ _ x => x))
  clear hf c6 B6 F6
  have c7 : w7.cell? ⟨g, 7, none⟩ = some (.slice none 0 0) := (B7.out.cell 7).trans rfl
  go_wp2_with fail
  refine (flat68_nil w7).mono ?_
  rintro e7 w8 ⟨rfl, hf⟩
  have B8 := Lib.hid (B7.out.frm hf (fun x => x))
  have F8 := Lib.hid (F7.out.trans (hf.of_no S) (fun _ _ x => x))
  clear hf c7 B7 F7
  have c8 : w8.cell? ⟨g, 8, none⟩ = some (.slice none 0 0) := (B8.out.cell 8).trans rfl
  go_wp2_with fail
  refine (flat69_nil w8).mono ?_
  rintro e8 w9 ⟨rfl, hf⟩
  have B9 := Lib.hid (B8.out.frm hf (fun x => x))
  have F9 := Lib.hid (F8.out.trans (hf.of_no S) (fun _ _ x => x))
  clear hf c8 B8 F8
  have c9 : w9.cell? ⟨g, 9, none⟩ = some (.slice none 0 0) := (B9.out.cell 9).trans rfl
  go_wp2_with fail
  refine (flat70_nil w9).mono ?_
  rintro e9 w10 ⟨rfl, hf⟩
  have B10 := Lib.hid (B9.out.frm hf (fun x => x))
  have F10 := Lib.hid (F9.out.trans (hf.of_no S) (fun _ _ x => x))
  clear hf c9 B9 F9
  have c10 : w10.cell? ⟨g, 10, none⟩ = some (.slice none 0 0) := (B10.out.cell 10).trans rfl
  go_wp2_with fail
  refine (flat71_nil w10).mono ?_
  rintro e10 w11 ⟨rfl, hf⟩
  have B11 := Lib.hid (B10.out.frm hf (fun x => x))
  have F11 := Lib.hid (F10.out.trans (hf.of_no S) (fun _ _ x => x))
  clear hf c10 B10 F10
  have c11 : w11.cell? ⟨g, 11, none⟩ = some (.slice none 0 0) := (B11.out.cell 11).trans rfl
  go_wp2_with fail
  refine (flat72_nil w11).mono ?_
  rintro e11 w12 ⟨rfl, hf⟩
  have B12 := Lib.hid (B11.out.frm hf (fun x => x))
  have F12 := Lib.hid (F11.out.trans (hf.of_no S) (fun _ _ x => x))
  clear hf c11 B11 F11
  have c12 : w12.cell? ⟨g, 12, none⟩ = some (.slice none 0 0) := (B12.out.cell 12).trans rfl
  go_wp2_with fail
  refine (flat73_nil w12).mono ?_
  rintro e12 w13 ⟨rfl, hf⟩
  have B13 := Lib.hid (B12.out.frm hf (fun x => x))
  have F13 := Lib.hid (F12.out.trans (hf.of_no S) (fun _ _ x => x))
  clear hf c12 B12 F12
  go_wp2
  go_ret
  exact ⟨rfl, F13.out⟩
end Go.Proofs.Ytnokbnggpbjchaa
