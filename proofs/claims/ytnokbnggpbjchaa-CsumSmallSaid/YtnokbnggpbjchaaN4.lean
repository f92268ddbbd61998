/-
  The document's own Over and Fix.
-/
import Derived.Test.YtnokbnggpbjchaaN3
import Derived.Test.YtnokbnggpbjchaaA1
import Derived.Deep.Cut
import Derived.Deep.CutRange
namespace Go.Proofs.Ytnokbnggpbjchaa
open Go.RowKit

set_option maxRecDepth 100000 in
theorem refOver (w : World) (p : Nat) (hp : p ≤ 65535) (A : Option Addr) (n c : Nat) (bs : List UInt8) (hn : bs.length = n) (h : Rds w A bs) (h4 : n ≤ 140737488355328) :
    Calls Try.prog 36 #[.int .i64 (p : Int), .slice A n c] w fun e w' => e = .returned (.int .i64 (overOf p bs : Int)) ∧ w = w' := by
  have HS := Lib.hid (refSum w A n c bs hn h h4)
  have hl := sumOf_le bs
  obtain ⟨s, hs⟩ : ∃ s, sumOf bs = s := ⟨_, rfl⟩
  rw [hs] at HS hl
  obtain ⟨t, ht⟩ : ∃ t, fold (p + s) = t := ⟨_, rfl⟩
  have htl : t ≤ 65535 := by rw [← ht]; exact fold_le _
  have HF := Lib.hid (refFold w (p + s) ((p : Int) + s) (by simp) (by omega))
  rw [ht] at HF
  obtain ⟨u, hu⟩ : ∃ u : Nat, u = 65535 - t := ⟨_, rfl⟩
  have hres : overOf p bs = u := by unfold overOf; rw [hs, ht, hu]
  rw [hres]
  have e1 : IntKind.i64.wrap (65535 - (t : Int)) = u := by rw [IntWalk.i64_in] <;> omega
  have e2 : IntKind.i64.wrap ((p : Int) + s) = p + s := by rw [IntWalk.i64_in] <;> omega
  clear h hs ht hu hres
  go_enter Try.func36, Try.ntmps36
  go_wp2_with fail
  refine HS.out.mono ?_
  rintro e w1 ⟨rfl, rfl⟩
  go_wp2_with fail
  refine HF.out.mono ?_
  rintro e w1 ⟨rfl, rfl⟩
  go_wp2
  go_ret
  exact ⟨rfl, rfl⟩

attribute [local go_sem] undef
attribute [local irreducible] wpList

set_option maxRecDepth 100000 in
set_option maxHeartbeats 1000000 in
theorem refFix_no (w : World) (A : Option Addr) (n c : Nat) (k : Int) (h : k < 0 ∨ k % 2 ≠ 0 ∨ (n : Int) - 2 < k) (h4 : n ≤ 140737488355328) :
    Calls Try.prog 32 #[.slice A n c, .int .i64 k] w fun e w' => e = .returned (.tuple #[.slice none 0 0, .int .i64 2]) ∧ w = w' := by
  by_cases h1 : k < 0
  · go_enter Try.func32, Try.ntmps32
    go_wp2
    go_ret2
    exact ⟨rfl, rfl⟩
  · obtain ⟨j, rfl⟩ : ∃ j : Nat, k = j := ⟨k.toNat, by omega⟩
    by_cases h2 : (j : Int) % 2 = 1
    · go_enter Try.func32, Try.ntmps32
      go_wp2
      go_ret2
      exact ⟨rfl, rfl⟩
    · have h3 : (j : Int) % 2 = 0 := by omega
      have h3b : ((j : Int) % 2 == 1) = false := by simp; omega
      by_cases h5 : (n : Int) ≤ j
      · have h6 : n ≤ j := by omega
        go_enter Try.func32, Try.ntmps32
        go_wp2
        go_ret2
        exact ⟨rfl, rfl⟩
      · have h6 : ¬ n ≤ j := by omega
        have e1 : IntKind.i64.wrap ((j : Int) + 2) = j + 2 := by rw [IntWalk.i64_in] <;> omega
        have h7 : (n : Int) < (j : Int) + 2 := by omega
        go_enter Try.func32, Try.ntmps32
        go_wp2
        go_ret2
        exact ⟨rfl, rfl⟩

set_option maxRecDepth 100000 in
set_option maxHeartbeats 2000000 in
theorem refFix_yes (w : World) (A : Option Addr) (n c : Nat) (bs : List UInt8) (k : Nat) (hn : bs.length = n) (hA : A = none → c = 0) (hk : k % 2 = 0) (hk2 : k + 1 < n) (h : Rds w A bs) (h4 : n ≤ 140737488355328) :
    Calls Try.prog 32 #[.slice A n c, .int .i64 (k : Int)] w (Fresh2 w (fixOf bs k) n 0) := by
  have H := Lib.hid (h.alloc (.cells #[] 5))
  have hown : (w.alloc (.cells #[] 5)).ownsRow w.heap.size 5 1 (.slice (some ⟨w.heap.size, 0, none⟩) 0 0) 0 (byts []) := World.ownsRow_made w #[] 0 (Nat.le_refl _) (by unfold maxLen; omega) (by simp)
  have a1 : ¬ (k : Int) < 0 := by omega
  have a2 : (k : Int) % 2 = 0 := by omega
  have a3 : ¬ (n : Int) ≤ k := by omega
  have a3' : ¬ n ≤ k := by omega
  have e1 : IntKind.i64.wrap ((k : Int) + 2) = k + 2 := by rw [IntWalk.i64_in] <;> omega
  have a4 : ¬ (n : Int) < (k : Int) + 2 := by omega
  have hw1 : IntKind.i64.wrap ((k : Int) + 1) = k + 1 := by rw [IntWalk.i64_in] <;> omega
  have i0 : (k : Int) < n := by omega
  have i1 : (k : Int) + 1 < n := by omega
  have i2 : (0 : Int) ≤ (k : Int) + 1 := by omega
  clear h
  go_enter Try.func32, Try.ntmps32
  go_upto_region 4 with (at_builtin; refine wpList_append_bytes rfl (.tmp 28) (.tmp 29) rfl w.heap.size _ 0 [] rfl hown A n c bs rfl hn H.out hA (by omega) (by simp) ?_; intro v' w1 hown' hgr; obtain ⟨g, c', rfl, hrow⟩ := Row.of_own hown' (by omega); have HR := Lib.hid hrow; have HG := Lib.hid hgr; clear hown' hrow hgr)
  have R1 : Hid (Row w1 w.heap.size g n c' bs) := by
    have := HR.out
    rw [Nat.zero_add, List.nil_append] at this
    exact this
  have hf1 : Frm No w w1 := ((Frm.refl No w).alloc _).trans (Frm.of_grown HG.out) (fun i hi hs => by have hs' : some w.heap.size = some i := hs; injection hs' with hs'; omega)
  have F1 := Lib.hid hf1
  have hg := R1.out.cap.2.1
  have hno : ∀ k, (⟨g, k, none⟩ : Addr).block < w.heap.size → No (⟨g, k, none⟩ : Addr).block := fun k h => absurd h (by show ¬ g < w.heap.size; omega)
  clear HR HG hf1 hown H
  have d0 := R1.out.cell k (by omega)
  have d1 := R1.out.frozen k
  have S1 := Lib.hid (R1.out.set k 0 (.int .u8 0) rfl)
  have d2 := S1.out.cell (k + 1) (by simp; omega)
  have d3 := S1.out.frozen (k + 1)
  have S2 := Lib.hid (S1.out.set (k + 1) 0 (.int .u8 0) rfl)
  go_upto_region 5 with fail
  clear d0 d1 d2 d3
  obtain ⟨W2, hW2⟩ : ∃ W, (w1.setCell ⟨g, k, none⟩ (.int .u8 0)).setCell ⟨g, k + 1, none⟩ (.int .u8 0) = W := ⟨_, rfl⟩
  have F2 : Hid (Frm No w W2) := by
    show Frm No w W2
    rw [← hW2]
    exact (F1.out.setCell (hno k) _).setCell (hno (k + 1)) _
  obtain ⟨zs, hzs⟩ : ∃ zs, putAt bs k 0 0 = zs := ⟨_, rfl⟩
  have R2 : Hid (Row W2 w.heap.size g n c' zs) := by
    show Row W2 _ _ _ _ _
    rw [← hW2, ← hzs]
    exact S2.out
  rw [hW2]
  clear hW2 S1 S2 F1 R1
  have hzl : zs.length = n := by rw [← hzs, putAt_length, hn]
  have HO := Lib.hid (refOf W2 (some ⟨g, 0, none⟩) n c' zs hzl R2.out.rds h4)
  obtain ⟨o, hoo⟩ : ∃ o, ofOf zs = o := ⟨_, rfl⟩
  have ho : o < 65536 := by rw [← hoo]; unfold ofOf; omega
  rw [hoo] at HO
  have HZ := Lib.hid hzs
  have HOO := Lib.hid hoo
  clear hzs hoo
  go_wp2_with fail
  refine HO.out.mono ?_
  rintro e w2 ⟨rfl, rfl⟩
  have p1 : ((hiB o).toNat : Int) = (o : Int) / 256 := hiB_val o ho
  have p2 : ((loB o).toNat : Int) = (o : Int) % 256 := loB_val o
  have d0 := R2.out.cell k (by omega)
  have d1 := R2.out.frozen k
  have S1 := Lib.hid (R2.out.set k (hiB o) (.int .u8 ((o : Int) / 256)) (by rw [byt, p1]))
  have d2 := S1.out.cell (k + 1) (by simp; omega)
  have d3 := S1.out.frozen (k + 1)
  have S2 := Lib.hid (S1.out.set (k + 1) (loB o) (.int .u8 ((o : Int) % 256)) (by rw [byt, p2]))
  have F3 := Lib.hid ((F2.out.setCell (p := ⟨g, k, none⟩) (hno k) (.int .u8 ((o : Int) / 256))).setCell (p := ⟨g, k + 1, none⟩) (hno (k + 1)) (.int .u8 ((o : Int) % 256)))
  clear p1 p2
  go_wp2
  go_ret2
  refine ⟨g, c', rfl, ?_, F3.out⟩
  have : fixOf bs k = putAt zs k (hiB o) (loB o) := by
    have h1 := HZ.out
    have h2 := HOO.out
    subst h2
    subst h1
    unfold fixOf
    rw [putAt_twice]
    rfl
  rw [this]
  exact S2.out
end Go.Proofs.Ytnokbnggpbjchaa
