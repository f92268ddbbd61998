/-
  Packets that are wrong in one place, as plain words on bytes.
-/
import Derived.Test.YtcclneaabnpbkaaBt
namespace Go.Proofs.Ytcclneaabnpbkaa
open Go.RowKit

theorem wrong_short (bs : List UInt8) (h : bs.length < 20) : faultB bs = 50 := by
  have e1 : q1 bs = true := decide_eq_true h
  unfold faultB
  rw [e1]
  rfl

theorem wrong_few (bs : List UInt8) (nf : NoFault bs) (k : Nat) (hk : k < 5) (v : UInt8) (hv : v.toNat = 64 + k) : faultB (bs.set 0 v) = 52 := by
  have hs := nf.sizes
  have b0 : byteAt (bs.set 0 v) 0 = 64 + k := by unfold byteAt; rw [getD_set_eq _ _ _ (by omega)]; exact hv
  have bz : sizeAt (bs.set 0 v) = k * 4 := by unfold sizeAt; rw [b0]; omega
  have e1 : q1 (bs.set 0 v) = false := by unfold q1; rw [List.length_set]; exact decide_eq_false (by omega)
  have e2 : q2 (bs.set 0 v) = false := by unfold q2; rw [b0]; exact decide_eq_false (by omega)
  have e3 : q3 (bs.set 0 v) = true := by unfold q3; rw [bz]; exact decide_eq_true (by omega)
  unfold faultB
  rw [e1, e2, e3]
  rfl

theorem getD_take (bs : List UInt8) (m k : Nat) (h : k < m) : (bs.take m).getD k 0 = bs.getD k 0 := by
  rw [List.getD_eq_getElem?_getD, List.getD_eq_getElem?_getD, List.getElem?_take_of_lt h]

theorem wrong_cut (bs : List UInt8) (nf : NoFault bs) (m : Nat) (h20 : 20 ≤ m) (hm : m < sizeAt bs) : faultB (bs.take m) = 52 := by
  have hs := nf.sizes
  have hl : (bs.take m).length = m := by rw [List.length_take]; omega
  have b0 : byteAt (bs.take m) 0 = byteAt bs 0 := by unfold byteAt; rw [getD_take _ _ _ (by omega)]
  have bz : sizeAt (bs.take m) = sizeAt bs := by unfold sizeAt; rw [b0]
  have e1 : q1 (bs.take m) = false := by unfold q1; rw [hl]; exact decide_eq_false (by omega)
  have e2 : q2 (bs.take m) = false := by have := nf.h2; unfold q2 at *; rwa [b0]
  have e3 : q3 (bs.take m) = true := by unfold q3; rw [bz, hl]; exact decide_eq_true (by omega)
  unfold faultB
  rw [e1, e2, e3]
  rfl
theorem wrong_cut2 (bs : List UInt8) (nf : NoFault bs) (m : Nat) (hm : m = sizeAt bs) (ht : sizeAt bs < totAt bs) : faultB (bs.take m) = 53 := by
  have hs := nf.sizes
  have hl : (bs.take m).length = m := by rw [List.length_take]; omega
  have b0 : byteAt (bs.take m) 0 = byteAt bs 0 := by unfold byteAt; rw [getD_take _ _ _ (by omega)]
  have bz : sizeAt (bs.take m) = sizeAt bs := by unfold sizeAt; rw [b0]
  have bt : totAt (bs.take m) = totAt bs := by unfold totAt wordAt; rw [getD_take _ _ _ (by omega), getD_take _ _ _ (by omega)]
  have e1 : q1 (bs.take m) = false := by unfold q1; rw [hl]; exact decide_eq_false (by omega)
  have e2 : q2 (bs.take m) = false := by have := nf.h2; unfold q2 at *; rwa [b0]
  have e3 : q3 (bs.take m) = false := by unfold q3; rw [bz, hl]; exact decide_eq_false (by omega)
  have e4 : q4 (bs.take m) = true := by unfold q4; rw [bt, bz, hl]; exact decide_eq_true (by omega)
  unfold faultB
  rw [e1, e2, e3, e4]
  rfl

theorem wrong_total (bs : List UInt8) (nf : NoFault bs) (x y : UInt8) (h : word x y < sizeAt bs ∨ bs.length < word x y) : faultB ((bs.set 2 x).set 3 y) = 53 := by
  have hs := nf.sizes
  have g2 : ((bs.set 2 x).set 3 y).getD 2 0 = x := by rw [getD_set_ne _ _ _ _ (by omega), getD_set_eq _ _ _ (by omega)]
  have g3 : ((bs.set 2 x).set 3 y).getD 3 0 = y := by rw [getD_set_eq _ _ _ (by rw [List.length_set]; omega)]
  have b0 : byteAt ((bs.set 2 x).set 3 y) 0 = byteAt bs 0 := by unfold byteAt; rw [getD_set_ne _ _ _ _ (by omega), getD_set_ne _ _ _ _ (by omega)]
  have bz : sizeAt ((bs.set 2 x).set 3 y) = sizeAt bs := by unfold sizeAt; rw [b0]
  have bt : totAt ((bs.set 2 x).set 3 y) = word x y := by unfold totAt wordAt; rw [g2, g3]
  have bl : ((bs.set 2 x).set 3 y).length = bs.length := by simp
  have e1 : q1 ((bs.set 2 x).set 3 y) = false := by unfold q1; rw [bl]; exact decide_eq_false (by omega)
  have e2 : q2 ((bs.set 2 x).set 3 y) = false := by have := nf.h2; unfold q2 at *; rwa [b0]
  have e3 : q3 ((bs.set 2 x).set 3 y) = false := by have := nf.h3; unfold q3 at *; rwa [bz, bl]
  have e4 : q4 ((bs.set 2 x).set 3 y) = true := by unfold q4; rw [bt, bz, bl]; exact decide_eq_true h
  unfold faultB
  rw [e1, e2, e3, e4]
  rfl
end Go.Proofs.Ytcclneaabnpbkaa
