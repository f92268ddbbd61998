/-
  The document's sums.
-/
import Derived.Test.YtcclneaabnpbkaaB1
import Derived.Test.YtcclneaabnpbkaaA1
import Derived.Deep.Cut
import Derived.Deep.CutRange

/- N1 -/
namespace Go.Proofs.Ytcclneaabnpbkaa
open Go.RowKit

set_option maxRecDepth 100000 in
theorem refFold (w : World) (s : Nat) (z : Int) (hz : z = s) (hs : s < 9223372036854775808) : Calls Try.prog 78 #[.int .i64 z] w fun e w' => e = .returned (.int .i64 (fold s : Int)) ∧ w = w' := by
  by_cases h0 : s = 0
  · subst h0 hz
    go_enter Try.func78, Try.ntmps78
    go_wp2
    go_ret
    exact ⟨rfl, rfl⟩
  · have hf : fold s = 1 + (s - 1) % 65535 := by unfold fold; rw [if_neg h0]
    have e0 : ¬ z = 0 := by omega
    obtain ⟨t, ht⟩ : ∃ t : Nat, t = s - 1 := ⟨_, rfl⟩
    have e1 : IntKind.i64.wrap (z - 1) = t := by rw [IntWalk.i64_in] <;> omega
    obtain ⟨m, hm, hm2⟩ : ∃ m : Nat, (t : Int) % 65535 = m ∧ m = t % 65535 := ⟨t % 65535, by omega, rfl⟩
    have e3 : IntKind.i64.wrap (1 + (m : Int)) = 1 + m := by rw [IntWalk.i64_in] <;> omega
    have hr : (fold s : Int) = 1 + m := by rw [hf, ← ht, ← hm2]; simp
    have t0 : (t : Int) ≤ 9223372036854775807 := by omega
    rw [hr]
    clear hf hs hz ht hm2 hr
    go_enter Try.func78, Try.ntmps78
    go_wp2
    go_ret
    exact ⟨rfl, rfl⟩

theorem addU_take (xs : List UInt16) (k : Nat) (hk : k < xs.length) : addU (xs.take (k + 1)) = addU (xs.take k) + xs[k].toNat := by
  rw [List.take_succ_eq_append_getElem hk, addU_snoc]

theorem psOf_sum (s d p n : Nat) (hp : p < 256) (hn : n ≤ 65535) (hs : s < 4294967296) (hd : d < 4294967296) : psOf s d p n = fold (s / 65536 + s % 65536 + d / 65536 + d % 65536 + p + n) := by
  have u1 : (up s).toNat = s / 65536 := by unfold up; rw [UInt16.toNat_ofNat']; omega
  have u2 : (up d).toNat = d / 65536 := by unfold up; rw [UInt16.toNat_ofNat']; omega
  have u3 : (lo s).toNat = s % 65536 := by unfold lo; rw [UInt16.toNat_ofNat']
  have u4 : (lo d).toNat = d % 65536 := by unfold lo; rw [UInt16.toNat_ofNat']
  have u5 : (UInt16.ofNat p).toNat = p := by rw [UInt16.toNat_ofNat']; omega
  have u6 : (UInt16.ofNat n).toNat = n := by rw [UInt16.toNat_ofNat']; omega
  unfold psOf addU
  simp only [List.map_cons, List.map_nil, addUp, u1, u2, u3, u4, u5, u6]
  congr 1
  omega

end Go.Proofs.Ytcclneaabnpbkaa

/- N3 -/
namespace Go.Proofs.Ytcclneaabnpbkaa
open Go.RowKit

theorem wsum_next (bs : List UInt8) (j : Nat) (hj : j < bs.length) : wsum (bs.take (j + 1)) = wsum (bs.take j) + (if j % 2 = 0 then bs[j].toNat * 256 else bs[j].toNat) := by
  rw [List.take_succ_eq_append_getElem hj]
  by_cases he : j % 2 = 0
  · rw [if_pos he, wsum_append _ _ (by rw [List.length_take]; omega)]
    simp [wsum, wordsOf, addUp, word]
  · rw [if_neg he]
    obtain ⟨i, rfl⟩ : ∃ i, j = i + 1 := ⟨j - 1, by omega⟩
    have hi : i < bs.length := by omega
    rw [List.take_succ_eq_append_getElem hi]
    have hl : (bs.take i).length % 2 = 0 := by rw [List.length_take]; omega
    rw [List.append_assoc, wsum_append _ _ hl, wsum_append _ _ hl]
    simp [wsum, wordsOf, addUp, word]
    omega

theorem wsum_bound (bs : List UInt8) : wsum bs ≤ bs.length * 65535 := by
  have h := addUp_le (wordsOf bs) (wordsOf_lt bs)
  rw [wordsOf_length] at h
  unfold wsum
  have : (bs.length + 1) / 2 ≤ bs.length ∨ bs.length = 0 := by omega
  rcases this with h2 | h2
  · exact Nat.le_trans h (Nat.mul_le_mul_right _ h2)
  · rw [h2] at h ⊢
    simpa using h

set_option maxRecDepth 100000 in
set_option maxHeartbeats 1000000 in
theorem refSum (w : World) (A : Option Addr) (n c : Nat) (bs : List UInt8) (hn : bs.length = n) (h : Rds w A bs) (h4 : n ≤ 140737488355328) :
    Calls Try.prog 50 #[.slice A n c] w fun e w' => e = .returned (.int .i64 (sumOf bs : Int)) ∧ w = w' := by
  have H := Lib.hid h
  clear h
  go_enter Try.func50, Try.ntmps50
  go_wp2
  go_loop [3, 4] (fun s i => ∃ j : Nat, j ≤ n ∧ i = .int .i64 j ∧ s = .int .i64 (wsum (bs.take j) : Int)) (fun _ i => n - (intOf i).toNat)
  case atStart => exact ⟨0, Nat.zero_le _, rfl, rfl⟩
  case round =>
    obtain ⟨j, hj, rfl, rfl⟩ := hrel
    by_cases hlt : j < n
    · have hjx : j < bs.length := by omega
      obtain ⟨ad, rfl, hc⟩ := H.out.at_ hjx
      have hb := wsum_bound (bs.take j)
      have hx := bs[j].toNat_lt
      have hl : (bs.take j).length ≤ 140737488355328 := by rw [List.length_take]; omega
      have hs := wsum_next bs j hjx
      obtain ⟨s, hss⟩ : ∃ s, wsum (bs.take j) = s := ⟨_, rfl⟩
      rw [hss] at hb hs ⊢
      obtain ⟨x, hxx⟩ : ∃ x, bs[j].toNat = x := ⟨_, rfl⟩
      rw [hxx] at hc hx hs
      by_cases he : j % 2 = 0
      · rw [if_pos he] at hs
        have he2 : (j : Int) % 2 = 0 := by omega
        have a0 : IntKind.i64.wrap (256 * (x : Int)) = 256 * x := by rw [IntWalk.i64_in] <;> omega
        have a1 : IntKind.i64.wrap ((s : Int) + 256 * x) = s + 256 * x := by rw [IntWalk.i64_in] <;> omega
        have HS := Lib.hid hs
        clear hss hxx hs hb hl he
        go_wp2
        go_round
        case rel => exact ⟨j + 1, by omega, by go_num, by rw [HS.out]; simp; omega⟩
        case measure => simp [intOf]; omega
      · rw [if_neg he] at hs
        have he2 : (j : Int) % 2 = 1 := by omega
        have a1 : IntKind.i64.wrap ((s : Int) + x) = s + x := by rw [IntWalk.i64_in] <;> omega
        have HS := Lib.hid hs
        clear hss hxx hs hb hl he
        go_wp2
        go_round
        case rel => exact ⟨j + 1, by omega, by go_num, by rw [HS.out]; simp⟩
        case measure => simp [intOf]; omega
    · have ht : bs.take j = bs := List.take_of_length_le (by omega)
      have hb := wsum_bound bs
      rw [ht]
      have HF := Lib.hid (refFold w (wsum bs) (wsum bs) rfl (by omega))
      clear ht hb
      go_wp2_with fail
      refine HF.out.mono ?_
      rintro e w' ⟨rfl, rfl⟩
      go_wp2
      go_ret
      exact ⟨rfl, rfl⟩

set_option maxRecDepth 100000 in
theorem refOf (w : World) (A : Option Addr) (n c : Nat) (bs : List UInt8) (hn : bs.length = n) (h : Rds w A bs) (h4 : n ≤ 140737488355328) :
    Calls Try.prog 79 #[.slice A n c] w fun e w' => e = .returned (.int .i64 (ofOf bs : Int)) ∧ w = w' := by
  have HS := Lib.hid (refSum w A n c bs hn h h4)
  have hl := sumOf_le bs
  obtain ⟨u, hu⟩ : ∃ u, ofOf bs = u := ⟨_, rfl⟩
  obtain ⟨s, hs⟩ : ∃ s, sumOf bs = s := ⟨_, rfl⟩
  have hus : u = 65535 - s := by rw [← hu, ← hs]; rfl
  rw [hs] at HS hl
  rw [hu]
  have e1 : IntKind.i64.wrap (65535 - (s : Int)) = u := by rw [IntWalk.i64_in] <;> omega
  clear h hu hs hus
  go_enter Try.func79, Try.ntmps79
  go_wp2_with fail
  refine HS.out.mono ?_
  rintro e w1 ⟨rfl, rfl⟩
  go_wp2
  go_ret
  exact ⟨rfl, rfl⟩
end Go.Proofs.Ytcclneaabnpbkaa

/- N4 -/
namespace Go.Proofs.Ytcclneaabnpbkaa
open Go.RowKit

attribute [local go_sem] undef
attribute [local irreducible] wpList

set_option maxRecDepth 100000 in
set_option maxHeartbeats 1000000 in
theorem refFix_no (w : World) (A : Option Addr) (n c : Nat) (k : Int) (h : k < 0 ∨ k % 2 ≠ 0 ∨ (n : Int) - 2 < k) (h4 : n ≤ 140737488355328) :
    Calls Try.prog 51 #[.slice A n c, .int .i64 k] w fun e w' => e = .returned (.tuple #[.slice none 0 0, .int .i64 2]) ∧ w = w' := by
  by_cases h1 : k < 0
  · go_enter Try.func51, Try.ntmps51
    go_wp2
    go_ret2
    exact ⟨rfl, rfl⟩
  · obtain ⟨j, rfl⟩ : ∃ j : Nat, k = j := ⟨k.toNat, by omega⟩
    by_cases h2 : (j : Int) % 2 = 1
    · go_enter Try.func51, Try.ntmps51
      go_wp2
      go_ret2
      exact ⟨rfl, rfl⟩
    · have h3 : (j : Int) % 2 = 0 := by omega
      have h3b : ((j : Int) % 2 == 1) = false := by simp; omega
      by_cases h5 : (n : Int) ≤ j
      · have h6 : n ≤ j := by omega
        go_enter Try.func51, Try.ntmps51
        go_wp2
        go_ret2
        exact ⟨rfl, rfl⟩
      · have h6 : ¬ n ≤ j := by omega
        have e1 : IntKind.i64.wrap ((j : Int) + 2) = j + 2 := by rw [IntWalk.i64_in] <;> omega
        have h7 : (n : Int) < (j : Int) + 2 := by omega
        go_enter Try.func51, Try.ntmps51
        go_wp2
        go_ret2
        exact ⟨rfl, rfl⟩

set_option maxRecDepth 100000 in
set_option maxHeartbeats 2000000 in
theorem refFix_yes (w : World) (A : Option Addr) (n c : Nat) (bs : List UInt8) (k : Nat) (hn : bs.length = n) (hA : A = none → c = 0) (hk : k % 2 = 0) (hk2 : k + 1 < n) (h : Rds w A bs) (h4 : n ≤ 140737488355328) :
    Calls Try.prog 51 #[.slice A n c, .int .i64 (k : Int)] w (Fresh2 w (fixOf bs k) n 0) := by
  have H := Lib.hid (h.alloc (.cells #[] 5))
  have hown : (w.alloc (.cells #[] 5)).ownsRow w.heap.size 5 1 (.slice (some ⟨w.heap.size, 0, none⟩) 0 0) 0 (byts []) := World.ownsRow_made w #[] 0 (Nat.le_refl _) (by unfold maxLen; omega) (by simp)
  have a1 : ¬ (k : Int) < 0 := by omega
  have a2 : (k : Int) % 2 = 0 := by omega
  have a3 : ¬ (n : Int) ≤ k := by omega
  have a3' : ¬ n ≤ k := by omega
  have e1 : IntKind.i64.wrap ((k : Int) + 2) = k + 2 := by rw [IntWalk.i64_in] <;> omega
  have a4 : ¬ (n : Int) < (k : Int) + 2 := by omega
  have hw1 : IntKind.i64.wrap ((k : Int) + 1) = k + 1 := by rw [IntWalk.i64_in] <;> omega
  have i0 : (k : Int) < n := by omega
  have i1 : (k : Int) + 1 < n := by omega
  have i2 : (0 : Int) ≤ (k : Int) + 1 := by omega
  clear h
  go_enter Try.func51, Try.ntmps51
  go_upto_region 4 with (at_builtin; refine wpList_append_bytes rfl (.tmp 28) (.tmp 29) rfl w.heap.size _ 0 [] rfl hown A n c bs rfl hn H.out hA (by omega) (by simp) ?_; intro v' w1 hown' hgr; obtain ⟨g, c', rfl, hrow⟩ := Row.of_own hown' (by omega); have HR := Lib.hid hrow; have HG := Lib.hid hgr; clear hown' hrow hgr)
  have R1 : Hid (Row w1 w.heap.size g n c' bs) := by
    have := HR.out
    rw [Nat.zero_add, List.nil_append] at this
    exact this
  have hf1 : Frm No w w1 := ((Frm.refl No w).alloc _).trans (Frm.of_grown HG.out) (fun i hi hs => by have hs' : some w.heap.size = some i := hs; injection hs' with hs'; omega)
  have F1 := Lib.hid hf1
  have hg := R1.out.cap.2.1
  have hno : ∀ k, (⟨g, k, none⟩ : Addr).block < w.heap.size → No (⟨g, k, none⟩ : Addr).block := fun k h => absurd h (by show ¬ g < w.heap.size; omega)
  clear HR HG hf1 hown H
  have d0 := R1.out.cell k (by omega)
  have d1 := R1.out.frozen k
  have S1 := Lib.hid (R1.out.set k 0 (.int .u8 0) rfl)
  have d2 := S1.out.cell (k + 1) (by simp; omega)
  have d3 := S1.out.frozen (k + 1)
  have S2 := Lib.hid (S1.out.set (k + 1) 0 (.int .u8 0) rfl)
  go_upto_region 5 with fail
  clear d0 d1 d2 d3
  obtain ⟨W2, hW2⟩ : ∃ W, (w1.setCell ⟨g, k, none⟩ (.int .u8 0)).setCell ⟨g, k + 1, none⟩ (.int .u8 0) = W := ⟨_, rfl⟩
  have F2 : Hid (Frm No w W2) := by
    show Frm No w W2
    rw [← hW2]
    exact (F1.out.setCell (hno k) _).setCell (hno (k + 1)) _
  obtain ⟨zs, hzs⟩ : ∃ zs, putAt bs k 0 0 = zs := ⟨_, rfl⟩
  have R2 : Hid (Row W2 w.heap.size g n c' zs) := by
    show Row W2 _ _ _ _ _
    rw [← hW2, ← hzs]
    exact S2.out
  rw [hW2]
  clear hW2 S1 S2 F1 R1
  have hzl : zs.length = n := by rw [← hzs, putAt_length, hn]
  have HO := Lib.hid (refOf W2 (some ⟨g, 0, none⟩) n c' zs hzl R2.out.rds h4)
  obtain ⟨o, hoo⟩ : ∃ o, ofOf zs = o := ⟨_, rfl⟩
  have ho : o < 65536 := by rw [← hoo]; unfold ofOf; omega
  rw [hoo] at HO
  have HZ := Lib.hid hzs
  have HOO := Lib.hid hoo
  clear hzs hoo
  go_wp2_with fail
  refine HO.out.mono ?_
  rintro e w2 ⟨rfl, rfl⟩
  have p1 : ((hiB o).toNat : Int) = (o : Int) / 256 := hiB_val o ho
  have p2 : ((loB o).toNat : Int) = (o : Int) % 256 := loB_val o
  have d0 := R2.out.cell k (by omega)
  have d1 := R2.out.frozen k
  have S1 := Lib.hid (R2.out.set k (hiB o) (.int .u8 ((o : Int) / 256)) (by rw [byt, p1]))
  have d2 := S1.out.cell (k + 1) (by simp; omega)
  have d3 := S1.out.frozen (k + 1)
  have S2 := Lib.hid (S1.out.set (k + 1) (loB o) (.int .u8 ((o : Int) % 256)) (by rw [byt, p2]))
  have F3 := Lib.hid ((F2.out.setCell (p := ⟨g, k, none⟩) (hno k) (.int .u8 ((o : Int) / 256))).setCell (p := ⟨g, k + 1, none⟩) (hno (k + 1)) (.int .u8 ((o : Int) % 256)))
  clear p1 p2
  go_wp2
  go_ret2
  refine ⟨g, c', rfl, ?_, F3.out⟩
  have : fixOf bs k = putAt zs k (hiB o) (loB o) := by
    have h1 := HZ.out
    have h2 := HOO.out
    subst h2
    subst h1
    unfold fixOf
    rw [putAt_twice]
    rfl
  rw [this]
  exact S2.out
end Go.Proofs.Ytcclneaabnpbkaa
