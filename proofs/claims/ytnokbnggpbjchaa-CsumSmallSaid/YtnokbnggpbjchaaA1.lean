/-
  The examples of the chapter hold: awake answers true.
-/
import Derived.Test.YtnokbnggpbjchaaC5
import Derived.Test.YtnokbnggpbjchaaC7
namespace Go.Proofs.Ytnokbnggpbjchaa
open Go.RowKit

theorem rds_new (W : World) (bs : List UInt8) : Rds (W.alloc (.cells (byts bs).toArray 5)) (some ⟨W.heap.size, 0, none⟩) bs := by
  intro _
  refine ⟨_, rfl, fun j u hu => ?_⟩
  have h := (Blk.new W 5 (byts bs).toArray).cell j
  rw [List.getElem?_toArray, hu] at h
  rw [← h]
  unfold Addr.add
  by_cases h0 : j = 0 <;> simp [h0]

theorem lit_sum (W : World) (bs : List UInt8) (cs : Array Value) (hcs : cs = (byts bs).toArray) (n : Nat) (hn : bs.length = n) (h4 : n ≤ 100) (z : Int) (hz : (sumOf bs : Int) = z) :
    Calls Try.prog 20 #[.slice (some ⟨W.heap.size, 0, none⟩) n n] (W.alloc (.cells cs 5)) fun e w' => e = .returned (.int .u16 z) ∧ Frm No W w' := by
  subst hcs hz
  refine (sum_any _ _ n n bs hn (Nat.le_refl _) (rds_new W bs) (by omega)).mono ?_
  rintro e w' ⟨rfl, hf⟩
  exact ⟨rfl, ((Frm.refl No W).alloc _).trans hf (fun _ _ x => x)⟩
theorem lit_of (W : World) (bs : List UInt8) (cs : Array Value) (hcs : cs = (byts bs).toArray) (n : Nat) (hn : bs.length = n) (h4 : n ≤ 100) (z : Int) (hz : (ofOf bs : Int) = z) :
    Calls Try.prog 26 #[.slice (some ⟨W.heap.size, 0, none⟩) n n] (W.alloc (.cells cs 5)) fun e w' => e = .returned (.int .u16 z) ∧ Frm No W w' := by
  subst hcs hz
  refine (of_any _ _ n n bs hn (Nat.le_refl _) (rds_new W bs) (by omega)).mono ?_
  rintro e w' ⟨rfl, hf⟩
  exact ⟨rfl, ((Frm.refl No W).alloc _).trans hf (fun _ _ x => x)⟩
theorem nil_sum (W : World) : Calls Try.prog 20 #[.slice none 0 0] W fun e w' => e = .returned (.int .u16 0) ∧ Frm No W w' := by
  refine (sum_any W none 0 0 [] rfl (Nat.le_refl _) (Rds.nil _ _) (by omega)).mono ?_
  rintro e w' ⟨rfl, hf⟩
  exact ⟨rfl, hf⟩
theorem lit_fix (W : World) (bs : List UInt8) (cs : Array Value) (hcs : cs = (byts bs).toArray) (n : Nat) (hn : bs.length = n) (h4 : n ≤ 100) (k : Nat) (z : Int) (hz : (k : Int) = z) (hk : k % 2 = 0) (hk2 : k + 1 < n) (out : List UInt8) (ho : fixOf bs k = out) :
    Calls Try.prog 14 #[.slice (some ⟨W.heap.size, 0, none⟩) n n, .int .i64 z] (W.alloc (.cells cs 5)) fun e w' => ∃ A c, e = .returned (.tuple #[.slice A n c, .int .i64 0]) ∧ Rds w' A out ∧ Frm No W w' := by
  subst hcs hz ho
  refine (fix_yes _ _ n n bs k hn hk hk2 (rds_new W bs) (by omega)).mono ?_
  rintro e w' ⟨g, c, rfl, hr, hf⟩
  exact ⟨_, c, rfl, hr.rds, ((Frm.refl No W).alloc _).trans hf (fun _ _ x => x)⟩
theorem lit_update (W : World) (c o x : Nat) (a b d z : Int) (ha : (c : Int) = a) (hb : (o : Int) = b) (hd : (x : Int) = d) (hc : c ≤ 65535) (ho : o ≤ 65535) (hx : x ≤ 65535) (hz : (updOf c o x : Int) = z) :
    Calls Try.prog 25 #[.int .u16 a, .int .u16 b, .int .u16 d] W fun e w' => e = .returned (.int .u16 z) ∧ Frm No W w' := by
  subst ha hb hd hz
  exact update_any W c o x hc ho hx
theorem lit_pseudo (W : World) : Calls Try.prog 28 #[.int .u32 167772161, .int .u32 167772162, .int .u8 17, .int .i64 8] W fun e w' => e = .returned (.tuple #[.int .u16 5148, .int .i64 0]) ∧ Frm No W w' := by
  have h := pseudo_yes W 167772161 167772162 17 8 (by omega) (by omega) (by omega) (by omega)
  have e : psOf 167772161 167772162 17 8 = 5148 := by kernel_rfl
  rw [e] at h
  exact h
theorem lit_same (W : World) (A : Option Addr) (n c : Nat) (bs : List UInt8) (cs : Array Value) (hcs : cs = (byts bs).toArray) (hn : bs.length = n) (h4 : n ≤ 100) (h : Rds W A bs) :
    Calls Try.prog 33 #[.slice A n c, .slice (some ⟨W.heap.size, 0, none⟩) n n] (W.alloc (.cells cs 5)) fun e w' => e = .returned (.bool true) ∧ Frm No W w' := by
  subst hcs hn
  refine (sames_any _ A _ c _ bs bs (h.alloc _) (rds_new W bs) (by omega)).mono ?_
  rintro e w' ⟨rfl, k, rfl⟩
  exact ⟨by rw [decide_eq_true rfl], ((Frm.refl No W).alloc _).drewN k⟩

theorem Frm.new0 {w w1 w2 : World} (h : Frm No w w1) (k : Frm No w1 w2) : Frm No w w2 := h.trans k (fun _ _ x => x)

set_option maxRecDepth 100000 in
set_option maxHeartbeats 2000000 in
theorem awake (w : World) : Calls Try.prog 12 #[] w fun e w' => e = .returned (.bool true) ∧ Frm No w w' := by
  go_enter Try.func12, Try.ntmps12
  go_wp2_with fail
  refine (lit_fix w [69, 0, 0, 0, 0, 0] _ rfl 6 rfl (by omega) 2 2 rfl rfl (by omega) [69, 0, 186, 255, 0, 0] (by kernel_rfl)).mono ?_
  rintro e w1 ⟨A, c, rfl, hr, hf⟩
  have F1 := Lib.hid hf
  have R1 := Lib.hid hr
  clear hf hr
  go_wp2_with fail
  refine (lit_pseudo w1).mono ?_
  rintro e w2 ⟨rfl, hf⟩
  have F2 := Lib.hid (F1.out.new0 hf)
  have R2 := Lib.hid (R1.out.frm hf (fun _ _ x => x))
  clear hf F1 R1
  go_wp2_with fail
  refine (lit_sum w2 [1, 2, 3, 4] _ rfl 4 rfl (by omega) 1030 (by kernel_rfl)).mono ?_
  rintro e w3 ⟨rfl, hf⟩
  have F3 := Lib.hid (F2.out.new0 hf)
  have R3 := Lib.hid (R2.out.frm hf (fun _ _ x => x))
  clear hf F2 R2
  go_wp2_with fail
  refine (lit_of w3 [1, 2, 3, 4] _ rfl 4 rfl (by omega) 64505 (by kernel_rfl)).mono ?_
  rintro e w4 ⟨rfl, hf⟩
  have F4 := Lib.hid (F3.out.new0 hf)
  have R4 := Lib.hid (R3.out.frm hf (fun _ _ x => x))
  clear hf F3 R3
  go_wp2_with fail
  refine (lit_sum w4 [1, 2, 3] _ rfl 3 rfl (by omega) 1026 (by kernel_rfl)).mono ?_
  rintro e w5 ⟨rfl, hf⟩
  have F5 := Lib.hid (F4.out.new0 hf)
  have R5 := Lib.hid (R4.out.frm hf (fun _ _ x => x))
  clear hf F4 R4
  go_wp2_with fail
  refine (lit_sum w5 [255, 255, 0, 1] _ rfl 4 rfl (by omega) 1 (by kernel_rfl)).mono ?_
  rintro e w6 ⟨rfl, hf⟩
  have F6 := Lib.hid (F5.out.new0 hf)
  have R6 := Lib.hid (R5.out.frm hf (fun _ _ x => x))
  clear hf F5 R5
  go_wp2_with fail
  refine (nil_sum w6).mono ?_
  rintro e w7 ⟨rfl, hf⟩
  have F7 := Lib.hid (F6.out.new0 hf)
  have R7 := Lib.hid (R6.out.frm hf (fun _ _ x => x))
  clear hf F6 R6
  go_wp2_with fail
  refine (lit_of w7 [0, 0, 0] _ rfl 3 rfl (by omega) 65535 (by kernel_rfl)).mono ?_
  rintro e w8 ⟨rfl, hf⟩
  have F8 := Lib.hid (F7.out.new0 hf)
  have R8 := Lib.hid (R7.out.frm hf (fun _ _ x => x))
  clear hf F7 R7
  go_wp2_with fail
  refine (lit_same w8 A 6 c [69, 0, 186, 255, 0, 0] _ rfl rfl (by omega) R8.out).mono ?_
  rintro e w9 ⟨rfl, hf⟩
  have F9 := Lib.hid (F8.out.new0 hf)
  clear hf F8 R8
  go_wp2_with fail
  refine (lit_update w9 64505 258 259 _ _ _ 64504 rfl rfl rfl (by omega) (by omega) (by omega) (by kernel_rfl)).mono ?_
  rintro e w10 ⟨rfl, hf⟩
  have F10 := Lib.hid (F9.out.new0 hf)
  clear hf F9
  go_wp2_with fail
  refine (lit_update w10 65277 258 0 _ _ _ 0 rfl rfl rfl (by omega) (by omega) (by omega) (by kernel_rfl)).mono ?_
  rintro e w11 ⟨rfl, hf⟩
  have F11 := Lib.hid (F10.out.new0 hf)
  clear hf F10
  go_wp2_with fail
  refine (lit_of w11 [1, 2] _ rfl 2 rfl (by omega) 65277 (by kernel_rfl)).mono ?_
  rintro e w12 ⟨rfl, hf⟩
  have F12 := Lib.hid (F11.out.new0 hf)
  clear hf F11
  go_wp2
  go_ret
  exact ⟨rfl, F12.out⟩
end Go.Proofs.Ytnokbnggpbjchaa
