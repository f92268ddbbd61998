/-
  The examples of the chapter hold: awake answers true.
-/
import Derived.Test.YtcclneaabnpbkaaC5
import Derived.Test.YtcclneaabnpbkaaC7
namespace Go.Proofs.Ytcclneaabnpbkaa
open Go.RowKit

theorem rds_new (W : World) (bs : List UInt8) : Rds (W.alloc (.cells (byts bs).toArray 5)) (some ⟨W.heap.size, 0, none⟩) bs := by
  intro _
  refine ⟨_, rfl, fun j u hu => ?_⟩
  have h := (Blk.new W 5 (byts bs).toArray).cell j
  rw [List.getElem?_toArray, hu] at h
  rw [← h]
  unfold Addr.add
  by_cases h0 : j = 0 <;> simp [h0]

theorem lit_sum (W : World) (bs : List UInt8) (cs : Array Value) (hcs : cs = (byts bs).toArray) (n : Nat) (hn : bs.length = n) (h4 : n ≤ 100) (z : Int) (hz : (sumOf bs : Int) = z) :
    Calls Try.prog 46 #[.slice (some ⟨W.heap.size, 0, none⟩) n n] (W.alloc (.cells cs 5)) fun e w' => e = .returned (.int .u16 z) ∧ Frm No W w' := by
  subst hcs hz
  refine (sum_any _ _ n n bs hn (Nat.le_refl _) (rds_new W bs) (by omega)).mono ?_
  rintro e w' ⟨rfl, hf⟩
  exact ⟨rfl, ((Frm.refl No W).alloc _).trans hf (fun _ _ x => x)⟩
theorem lit_of (W : World) (bs : List UInt8) (cs : Array Value) (hcs : cs = (byts bs).toArray) (n : Nat) (hn : bs.length = n) (h4 : n ≤ 100) (z : Int) (hz : (ofOf bs : Int) = z) :
    Calls Try.prog 57 #[.slice (some ⟨W.heap.size, 0, none⟩) n n] (W.alloc (.cells cs 5)) fun e w' => e = .returned (.int .u16 z) ∧ Frm No W w' := by
  subst hcs hz
  refine (of_any _ _ n n bs hn (Nat.le_refl _) (rds_new W bs) (by omega)).mono ?_
  rintro e w' ⟨rfl, hf⟩
  exact ⟨rfl, ((Frm.refl No W).alloc _).trans hf (fun _ _ x => x)⟩
theorem nil_sum (W : World) : Calls Try.prog 46 #[.slice none 0 0] W fun e w' => e = .returned (.int .u16 0) ∧ Frm No W w' := by
  refine (sum_any W none 0 0 [] rfl (Nat.le_refl _) (Rds.nil _ _) (by omega)).mono ?_
  rintro e w' ⟨rfl, hf⟩
  exact ⟨rfl, hf⟩
theorem lit_fix (W : World) (bs : List UInt8) (cs : Array Value) (hcs : cs = (byts bs).toArray) (n : Nat) (hn : bs.length = n) (h4 : n ≤ 100) (k : Nat) (z : Int) (hz : (k : Int) = z) (hk : k % 2 = 0) (hk2 : k + 1 < n) (out : List UInt8) (ho : fixOf bs k = out) :
    Calls Try.prog 36 #[.slice (some ⟨W.heap.size, 0, none⟩) n n, .int .i64 z] (W.alloc (.cells cs 5)) fun e w' => ∃ A c, e = .returned (.tuple #[.slice A n c, .int .i64 0]) ∧ Rds w' A out ∧ Frm No W w' := by
  subst hcs hz ho
  refine (fix_yes _ _ n n bs k hn hk hk2 (rds_new W bs) (by omega)).mono ?_
  rintro e w' ⟨g, c, rfl, hr, hf⟩
  exact ⟨_, c, rfl, hr.rds, ((Frm.refl No W).alloc _).trans hf (fun _ _ x => x)⟩
theorem lit_update (W : World) (c o x : Nat) (a b d z : Int) (ha : (c : Int) = a) (hb : (o : Int) = b) (hd : (x : Int) = d) (hc : c ≤ 65535) (ho : o ≤ 65535) (hx : x ≤ 65535) (hz : (updOf c o x : Int) = z) :
    Calls Try.prog 25 #[.int .u16 a, .int .u16 b, .int .u16 d] W fun e w' => e = .returned (.int .u16 z) ∧ Frm No W w' := by
  subst ha hb hd hz
  exact update_any W c o x hc ho hx
theorem lit_same (W : World) (A : Option Addr) (n c : Nat) (bs : List UInt8) (cs : Array Value) (hcs : cs = (byts bs).toArray) (hn : bs.length = n) (h4 : n ≤ 100) (h : Rds W A bs) :
    Calls Try.prog 22 #[.slice A n c, .slice (some ⟨W.heap.size, 0, none⟩) n n] (W.alloc (.cells cs 5)) fun e w' => e = .returned (.bool true) ∧ Frm No W w' := by
  subst hcs hn
  refine (sames_any _ A _ c _ bs bs (h.alloc _) (rds_new W bs) (by omega)).mono ?_
  rintro e w' ⟨rfl, k, rfl⟩
  exact ⟨by rw [decide_eq_true rfl], ((Frm.refl No W).alloc _).drewN k⟩

theorem Frm.new0 {w w1 w2 : World} (h : Frm No w w1) (k : Frm No w1 w2) : Frm No w w2 := h.trans k (fun _ _ x => x)

end Go.Proofs.Ytcclneaabnpbkaa
