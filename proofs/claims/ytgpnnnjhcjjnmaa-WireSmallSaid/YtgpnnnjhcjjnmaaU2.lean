/-
  Unhex: parse.
-/
import Derived.Test.YtgpnnnjhcjjnmaaP1
import Derived.Deep.LoopGhost
import Derived.Deep.RegionHeld3
namespace Go.Proofs.Ytgpnnnjhcjjnmaa
open Go.RowKit

theorem mkf (fn : Fn) (first cap : Array Value) (w : World) : (Instr.makeFunc fn first cap).run Try.prog w = .ok (.func fn first cap) w := rfl

/-- The bytes whose text it is. -/
def unhexs : List UInt8 → Option (List UInt8)
  | [] => some []
  | [_] => none
  | a :: b :: l => if (good a.toNat && good b.toNat) = true then (unhexs l).map (UInt8.ofNat (val a.toNat * 16 + val b.toNat) :: ·) else none

theorem unhexs_two (a b : UInt8) (l : List UInt8) : unhexs (a :: b :: l) = if (good a.toNat && good b.toNat) = true then (unhexs l).map (UInt8.ofNat (val a.toNat * 16 + val b.toNat) :: ·) else none := rfl

theorem unhexs_append : ∀ (n : Nat) (l l' : List UInt8), l.length = 2 * n → unhexs (l ++ l') = (unhexs l).bind fun r => (unhexs l').map (r ++ ·)
  | 0, l, l', h => by
    obtain rfl : l = [] := List.eq_nil_of_length_eq_zero (by omega)
    simp [unhexs]
  | n + 1, a :: b :: l, l', h => by
    have ih := unhexs_append n l l' (by simp at h; omega)
    simp only [List.cons_append, unhexs_two, ih]
    split
    · cases unhexs l <;> cases unhexs l' <;> simp
    · simp
  | n + 1, [a], l', h => by simp at h; omega
  | n + 1, [], l', h => by simp at h
theorem unhexs_odd : ∀ (n : Nat) (l : List UInt8), l.length = 2 * n + 1 → unhexs l = none
  | 0, [a], _ => rfl
  | 0, a :: b :: l, h => by simp at h
  | n + 1, a :: b :: l, h => by
    rw [unhexs_two, unhexs_odd n l (by simp at h; omega)]
    split <;> rfl
  | n + 1, [a], h => by simp at h
  | n + 1, [], h => by simp at h
  | 0, [], h => by simp at h
theorem unhexs_len : ∀ (n : Nat) (l r : List UInt8), l.length = 2 * n → unhexs l = some r → r.length = n
  | 0, l, r, h, hr => by
    obtain rfl : l = [] := List.eq_nil_of_length_eq_zero (by omega)
    simp [unhexs] at hr
    subst hr
    rfl
  | n + 1, a :: b :: l, r, h, hr => by
    rw [unhexs_two] at hr
    split at hr
    · cases hu : unhexs l with
      | none => rw [hu] at hr; simp at hr
      | some q =>
        rw [hu] at hr
        simp at hr
        subst hr
        have := unhexs_len n l q (by simp at h; omega) hu
        simp [this]
    · cases hr
  | n + 1, [a], r, h, hr => by simp at h; omega
  | n + 1, [], r, h, hr => by simp at h

/-- What parse leaves. -/
def Parsed (w : World) (l : List UInt8) (e : Ending) (w' : World) : Prop :=
  match unhexs l with
  | some bs => ∃ v, e = .returned (.tuple #[v, .int .i64 0]) ∧ w'.ownsRow w.heap.size 5 1 v bs.length (byts bs) ∧ Frm No w w'
  | none => e = .returned (.tuple #[.slice none 0 0, .int .i64 10]) ∧ Frm No w w'
theorem Parsed.no {w w' : World} {l : List UInt8} (h : unhexs l = none) (hf : Frm No w w') : Parsed w l (.returned (.tuple #[.slice none 0 0, .int .i64 10])) w' := by
  unfold Parsed
  rw [h]
  exact ⟨rfl, hf⟩

theorem results71_run {W : World} {p q : Addr} {x y : Value} (hx : W.cell? p = some x) (hy : W.cell? q = some y) {t : Array Value} (h2 : t.getD 2 undef = .pointer (some p)) (h3 : t.getD 3 undef = .pointer (some q)) :
    (results Try.f71 t).run Try.prog W = .ok (.tuple #[x, y]) W := by
  simp only [Array.getD_eq_getD_getElem?] at h2 h3
  simp [results, Try.results71, go_sem, h2, h3, hx, hy]

/-- The next two digits. -/
theorem step_pair (s : ByteArray) (j : Nat) (hA : (2 * (j : Int)).toNat < s.size) (hB : (2 * (j : Int) + 1).toNat < s.size) {r : List UInt8} (hu : unhexs (s.data.toList.take (2 * j)) = some r) :
    Hid ((good (s[(2 * (j : Int)).toNat]'hA).toNat = true → good (s[(2 * (j : Int) + 1).toNat]'hB).toNat = true →
        unhexs (s.data.toList.take (2 * (j + 1))) = some (r ++ [UInt8.ofNat (val (s[(2 * (j : Int)).toNat]'hA).toNat * 16 + val (s[(2 * (j : Int) + 1).toNat]'hB).toNat)])) ∧
      ((good (s[(2 * (j : Int)).toNat]'hA).toNat && good (s[(2 * (j : Int) + 1).toNat]'hB).toNat) = false → unhexs s.data.toList = none)) := by
  have hsz : s.data.toList.length = s.size := Array.length_toList
  have e0 : (2 * (j : Int)).toNat = 2 * j := by omega
  have e1 : (2 * (j : Int) + 1).toNat = 2 * j + 1 := by omega
  have a0 : s.data.toList[2 * j]'(by omega) = s[(2 * (j : Int)).toNat]'hA := by simp only [e0]; rfl
  have a1 : s.data.toList[2 * j + 1]'(by omega) = s[(2 * (j : Int) + 1).toNat]'hB := by simp only [e1]; rfl
  have hs2 : s.data.toList.take (2 * (j + 1)) = s.data.toList.take (2 * j) ++ [s[(2 * (j : Int)).toNat]'hA, s[(2 * (j : Int) + 1).toNat]'hB] := by
    rw [show 2 * (j + 1) = 2 * j + 1 + 1 from by omega, take_succ _ (2 * j + 1) (by omega), take_succ _ (2 * j) (by omega), List.append_assoc, a0, a1]
    rfl
  have hl : (s.data.toList.take (2 * j)).length = 2 * j := by rw [List.length_take]; omega
  have hl2 : (s.data.toList.take (2 * (j + 1))).length = 2 * (j + 1) := by rw [List.length_take]; omega
  refine ⟨fun h1 h2 => ?_, fun h1 => ?_⟩
  · rw [hs2, unhexs_append j _ _ hl, hu]
    simp [unhexs, h1, h2]
  · have h3 : unhexs (s.data.toList.take (2 * (j + 1))) = none := by
      rw [hs2, unhexs_append j _ _ hl, hu, unhexs_two, h1]
      rfl
    rw [← List.take_append_drop (2 * (j + 1)) s.data.toList, unhexs_append (j + 1) _ _ hl2, h3]
    rfl


theorem all_at {ops : Array Oper} {p : Oper → Bool} (h : ops.all p = true) {i : Nat} {o : Oper} (ho : ops[i]? = some o) : p o = true := by
  obtain ⟨hi, rfl⟩ := Array.getElem?_eq_some_iff.1 ho
  exact (Array.all_eq_true.1 h) i hi

theorem val_le {n : Nat} (h : good n = true) : val n ≤ 15 := by
  have h : (48 ≤ n ∧ n ≤ 57) ∨ (97 ≤ n ∧ n ≤ 102) := by simpa [good] using h
  unfold val
  split <;> omega

theorem or_digits (a b : Nat) (ha : a ≤ 15) (hb : b ≤ 15) : Value.int .u8 (bits BinOp.or IntKind.u8 ((a : Int) * 16 % 256) (b : Int)) = byt (UInt8.ofNat (a * 16 + b)) := by
  have e1 : (a : Int) * 16 % 256 = ((a * 16 : Nat) : Int) := by omega
  rw [e1, u8_or_nat _ _ (by omega) (by omega)]
  have h3 := Nat.two_pow_add_eq_or_of_lt (i := 4) (b := b) (by omega) a
  rw [Nat.mul_comm (2 ^ 4)] at h3
  rw [← h3, byt]
  have h4 : (UInt8.ofNat (a * 16 + b)).toNat = a * 16 + b := by
    rw [UInt8.toNat_ofNat']
    omega
  rw [h4]

theorem row_set (r : List UInt8) (m j : Nat) (hj : j < m) (hr : r.length = j) (b : UInt8) : (byts (r ++ List.replicate (m - j) 0)).toArray.setIfInBounds j (byt b) = (byts ((r ++ [b]) ++ List.replicate (m - (j + 1)) 0)).toArray := by
  have e : List.replicate (m - j) (0 : UInt8) = 0 :: List.replicate (m - (j + 1)) 0 := by
    rw [show m - j = (m - (j + 1)) + 1 from by omega, List.replicate_succ]
  rw [List.setIfInBounds_toArray, e]
  congr 1
  simp [byts, hr]

theorem set_pair {w wr : World} {m j a b : Nat} {r : List UInt8} (hj : j < m) (hr : r.length = j) (hB : Blk wr w.heap.size 22 #[.slice (some ⟨w.heap.size + 1 + 1, 0, none⟩) m m]) (hE : Blk wr (w.heap.size + 1) 34 #[.int .i64 0])
    (hR : Blk wr (w.heap.size + 1 + 1) 5 (byts (r ++ List.replicate (m - j) 0)).toArray) (hF : Frm No w wr) (ha : a ≤ 15) (hb : b ≤ 15) :
    Hid (Hid (Blk (wr.setCell ⟨w.heap.size + 1 + 1, j, none⟩ (.int .u8 (bits BinOp.or IntKind.u8 ((a : Int) * 16 % 256) (b : Int)))).drew w.heap.size 22 #[.slice (some ⟨w.heap.size + 1 + 1, 0, none⟩) m m]) ∧
      Hid (Blk (wr.setCell ⟨w.heap.size + 1 + 1, j, none⟩ (.int .u8 (bits BinOp.or IntKind.u8 ((a : Int) * 16 % 256) (b : Int)))).drew (w.heap.size + 1) 34 #[.int .i64 0]) ∧
      Hid (Blk (wr.setCell ⟨w.heap.size + 1 + 1, j, none⟩ (.int .u8 (bits BinOp.or IntKind.u8 ((a : Int) * 16 % 256) (b : Int)))).drew (w.heap.size + 1 + 1) 5 (byts ((r ++ [UInt8.ofNat (a * 16 + b)]) ++ List.replicate (m - (j + 1)) 0)).toArray) ∧
      Hid (Frm No w (wr.setCell ⟨w.heap.size + 1 + 1, j, none⟩ (.int .u8 (bits BinOp.or IntKind.u8 ((a : Int) * 16 % 256) (b : Int)))).drew)) := by
  rw [or_digits a b ha hb]
  refine ⟨?_, ?_, ?_, ?_⟩
  · exact (hB.far (p := ⟨w.heap.size + 1 + 1, j, none⟩) (by show w.heap.size ≠ w.heap.size + 1 + 1; omega) _).drew
  · exact (hE.far (p := ⟨w.heap.size + 1 + 1, j, none⟩) (by show w.heap.size + 1 ≠ w.heap.size + 1 + 1; omega) _).drew
  · have := (hR.set_ j (byt (UInt8.ofNat (a * 16 + b)))).drew
    rw [row_set r m j hj hr] at this
    exact this
  · exact (hF.setCell (p := ⟨w.heap.size + 1 + 1, j, none⟩) (fun h => absurd h (by show ¬ (w.heap.size + 1 + 1 < w.heap.size); omega)) _).drew

theorem panic_pair {w wr : World} {x : Value} (hB : Blk wr w.heap.size 22 #[x]) (hE : Blk wr (w.heap.size + 1) 34 #[.int .i64 0]) (hF : Frm No w wr) :
    Hid (wr.drew.cell? ⟨w.heap.size, 0, none⟩ = some x ∧ wr.drew.frozen? ⟨w.heap.size, 0, none⟩ = false ∧
      (wr.drew.setCell ⟨w.heap.size, 0, none⟩ (.slice none 0 0)).cell? ⟨w.heap.size + 1, 0, none⟩ = some (.int .i64 0) ∧ (wr.drew.setCell ⟨w.heap.size, 0, none⟩ (.slice none 0 0)).frozen? ⟨w.heap.size + 1, 0, none⟩ = false ∧
      (∀ t : Array Value, t.getD 2 undef = .pointer (some ⟨w.heap.size, 0, none⟩) → t.getD 3 undef = .pointer (some ⟨w.heap.size + 1, 0, none⟩) →
        (results Try.f71 t).run Try.prog ((wr.drew.setCell ⟨w.heap.size, 0, none⟩ (.slice none 0 0)).setCell ⟨w.heap.size + 1, 0, none⟩ (.int .i64 10)) = .ok (.tuple #[.slice none 0 0, .int .i64 10]) ((wr.drew.setCell ⟨w.heap.size, 0, none⟩ (.slice none 0 0)).setCell ⟨w.heap.size + 1, 0, none⟩ (.int .i64 10))) ∧
      Frm No w ((wr.drew.setCell ⟨w.heap.size, 0, none⟩ (.slice none 0 0)).setCell ⟨w.heap.size + 1, 0, none⟩ (.int .i64 10))) := by
  have h1 := hB.drew
  have h2 := h1.set_ 0 (.slice none 0 0)
  have h3 := hE.drew.far (p := ⟨w.heap.size, 0, none⟩) (by show w.heap.size + 1 ≠ w.heap.size; omega) (.slice none 0 0)
  have h4 := h3.set_ 0 (.int .i64 10)
  have h5 := h2.far (p := ⟨w.heap.size + 1, 0, none⟩) (by show w.heap.size ≠ w.heap.size + 1; omega) (.int .i64 10)
  refine ⟨h1.cell 0, h1.frozen 0, h3.cell 0, h3.frozen 0, ?_, ?_⟩
  · intro t ht2 ht3
    exact results71_run ((h5.cell 0).trans rfl) ((h4.cell 0).trans rfl) ht2 ht3
  · exact (hF.drew.setCell (p := ⟨w.heap.size, 0, none⟩) (fun h => absurd h (by show ¬ (w.heap.size < w.heap.size); omega)) _).setCell (p := ⟨w.heap.size + 1, 0, none⟩) (fun h => absurd h (by show ¬ (w.heap.size + 1 < w.heap.size); omega)) _

theorem done_pair {w wr : World} {s : ByteArray} {m j : Nat} {r : List UInt8} (hj : j = m) (hs : s.size = 2 * m) (hm : m ≤ 131072) (hu : unhexs (s.data.toList.take (2 * j)) = some r) (hB : Blk wr w.heap.size 22 #[.slice (some ⟨w.heap.size + 1 + 1, 0, none⟩) m m]) (hE : Blk wr (w.heap.size + 1) 34 #[.int .i64 0])
    (hR : Blk wr (w.heap.size + 1 + 1) 5 (byts (r ++ List.replicate (m - j) 0)).toArray) (hF : Frm No w wr) :
    Hid ((∀ t : Array Value, t.getD 2 undef = .pointer (some ⟨w.heap.size, 0, none⟩) → t.getD 3 undef = .pointer (some ⟨w.heap.size + 1, 0, none⟩) →
        (results Try.f71 t).run Try.prog ((wr.setCell ⟨w.heap.size, 0, none⟩ (.slice (some ⟨w.heap.size + 1 + 1, 0, none⟩) m m)).setCell ⟨w.heap.size + 1, 0, none⟩ (.int .i64 0)) =
          .ok (.tuple #[.slice (some ⟨w.heap.size + 1 + 1, 0, none⟩) m m, .int .i64 0]) ((wr.setCell ⟨w.heap.size, 0, none⟩ (.slice (some ⟨w.heap.size + 1 + 1, 0, none⟩) m m)).setCell ⟨w.heap.size + 1, 0, none⟩ (.int .i64 0))) ∧
      Parsed w s.data.toList (.returned (.tuple #[.slice (some ⟨w.heap.size + 1 + 1, 0, none⟩) m m, .int .i64 0])) ((wr.setCell ⟨w.heap.size, 0, none⟩ (.slice (some ⟨w.heap.size + 1 + 1, 0, none⟩) m m)).setCell ⟨w.heap.size + 1, 0, none⟩ (.int .i64 0))) := by
  subst hj
  have hsz : s.data.toList.length = s.size := Array.length_toList
  rw [List.take_of_length_le (by omega)] at hu
  have hrl := unhexs_len j _ r (by omega) hu
  have h2 := hB.set_ 0 (.slice (some ⟨w.heap.size + 1 + 1, 0, none⟩) j j)
  have h3 := hE.far (p := ⟨w.heap.size, 0, none⟩) (by show w.heap.size + 1 ≠ w.heap.size; omega) (.slice (some ⟨w.heap.size + 1 + 1, 0, none⟩) j j)
  have h4 := h3.set_ 0 (.int .i64 0)
  have h5 := h2.far (p := ⟨w.heap.size + 1, 0, none⟩) (by show w.heap.size ≠ w.heap.size + 1; omega) (.int .i64 0)
  have h6 := (hR.far (p := ⟨w.heap.size, 0, none⟩) (by show w.heap.size + 1 + 1 ≠ w.heap.size; omega) (.slice (some ⟨w.heap.size + 1 + 1, 0, none⟩) j j)).far (p := ⟨w.heap.size + 1, 0, none⟩) (by show w.heap.size + 1 + 1 ≠ w.heap.size + 1; omega) (.int .i64 0)
  refine ⟨?_, ?_⟩
  · intro t ht2 ht3
    exact results71_run ((h5.cell 0).trans rfl) ((h4.cell 0).trans rfl) ht2 ht3
  · unfold Parsed
    rw [hu]
    refine ⟨_, rfl, ?_, ?_⟩
    · rw [Nat.sub_self, List.replicate_zero, List.append_nil] at h6
      exact ⟨by rw [byts_len, Nat.mul_one], .inr ⟨w.heap.size + 1 + 1, j, _, by rw [hrl], by omega, h6, by omega, by unfold maxLen; omega, by simp [byts_len, hrl], by simp [← byts_len r]⟩⟩
    · exact (hF.setCell (p := ⟨w.heap.size, 0, none⟩) (fun h => absurd h (by show ¬ (w.heap.size < w.heap.size); omega)) _).setCell (p := ⟨w.heap.size + 1, 0, none⟩) (fun h => absurd h (by show ¬ (w.heap.size + 1 < w.heap.size); omega)) _

set_option maxRecDepth 100000 in
set_option maxHeartbeats 400000 in
theorem parse_odd (s : ByteArray) (w : World) (h : s.size % 2 = 1) :
    Calls Try.prog 71 #[.string s] w (Parsed w s.data.toList) := by
  have hm : ((s.size : Int) % 2 != 0) = true := by rw [bne_iff_ne]; omega
  have hn : unhexs s.data.toList = none := unhexs_odd (s.size / 2) _ (by rw [Array.length_toList]; show s.size = _; omega)
  have HN := Lib.hid hn
  clear hn
  go_enter_defers Try.func71, Try.ntmps71
  go_wp2
  simp [bodyPostD, Leaves, results, Try.results71, go_sem]
  exact Parsed.no HN.out (((Frm.refl _ _).alloc _).alloc _)

set_option maxRecDepth 100000 in
set_option maxHeartbeats 2000000 in
theorem parse_even (s : ByteArray) (w : World) (m : Nat) (h : s.size = 2 * m) (hs : m ≤ 131072) :
    Calls Try.prog 71 #[.string s] w (Parsed w s.data.toList) := by
  have hm : ((s.size : Int) % 2 != 0) = false := by rw [bne_eq_false_iff_eq]; omega
  have hmf := mkf
  have hmk := fun W => make_bytes m m (Nat.le_refl _) (by omega) W
  have hdiv : (s.size : Int) / 2 = m := by omega
  go_enter_defers Try.func71, Try.ntmps71
  go_wp2
  go_loopw [16] (fun i wr => ∃ (j : Nat) (r : List UInt8), j ≤ m ∧ i = .int .i64 j ∧ Hid (unhexs (s.data.toList.take (2 * j)) = some r) ∧ Hid (Blk wr w.heap.size 22 #[.slice (some ⟨w.heap.size + 1 + 1, 0, none⟩) m m]) ∧ Hid (Blk wr (w.heap.size + 1) 34 #[.int .i64 0]) ∧
      Hid (Blk wr (w.heap.size + 1 + 1) 5 (byts (r ++ List.replicate (m - j) 0)).toArray) ∧ Hid (Frm No w wr)) (fun i _ => m - (intOf i).toNat)
  case atStart =>
    refine ⟨0, [], Nat.zero_le _, rfl, rfl, ?_, ?_, ?_, ?_⟩
    · exact ((Blk.new w _ _).alloc _).alloc _
    · have := (Blk.new (w.alloc (.cells #[.slice (some ⟨w.heap.size + 1 + 1, 0, none⟩) m m] 22)) 34 #[.int .i64 0]).alloc (.cells (byts (List.replicate m 0)).toArray 5)
      show Blk _ _ _ _
      simpa using this
    · have := Blk.new ((w.alloc (.cells #[.slice (some ⟨w.heap.size + 1 + 1, 0, none⟩) m m] 22)).alloc (.cells #[.int .i64 0] 34)) 5 (byts (List.replicate m 0)).toArray
      show Blk _ _ _ _
      simpa using this
    · exact (((Frm.refl No w).alloc _).alloc _).alloc _
  case round =>
    obtain ⟨j, r, hj, rfl, HU, HB, HE, HR, HF⟩ := hrel
    have c0 : wr.cell? ⟨w.heap.size, 0, none⟩ = some (.slice (some ⟨w.heap.size + 1 + 1, 0, none⟩) m m) := HB.out.cell 0
    have q0 := HB.out.frozen 0
    by_cases hlt : j < m
    · have hw1 : IntKind.i64.wrap (2 * (j : Int)) = 2 * j := by rw [IntWalk.i64_in]; omega
      have hw2 : IntKind.i64.wrap (2 * (j : Int) + 1) = 2 * j + 1 := by rw [IntWalk.i64_in]; omega
      have hq1 : 0 ≤ 2 * (j : Int) := by omega
      have hq2 : 2 * (j : Int) < 2 * m := by omega
      have hq3 : 0 ≤ 2 * (j : Int) + 1 := by omega
      have hq4 : 2 * (j : Int) + 1 < 2 * m := by omega
      have hA : (2 * (j : Int)).toNat < s.size := by omega
      have hB : (2 * (j : Int) + 1).toNat < s.size := by omega
      have hrl : r.length = j := unhexs_len j _ r (by rw [List.length_take, Array.length_toList, show s.data.size = s.size from rfl]; omega) HU.out
      have HRL := Lib.hid hrl
      clear hrl
      have c2 : wr.cell? ⟨w.heap.size + 1 + 1, j, none⟩ = some (.int .u8 0) := by
        rw [HR.out.cell j]
        have := HRL.out
        have h1 : j < (byts (r ++ List.replicate (m - j) 0)).length := by simp [byts_len]; omega
        rw [List.getElem?_toArray, List.getElem?_eq_getElem h1]
        simp [byts, byt, List.getElem_append_right, this]
      have q2 := HR.out.frozen j
      have HPAN := panic_pair HB.out HE.out HF.out
      have HSTEP := step_pair s j hA hB HU.out
      cases hga : good (s[(2 * (j : Int)).toNat]'hA).toNat with
      | false =>
        have HGA := Lib.hid hga
        have HNO := Lib.hid (HSTEP.out.2 (by rw [hga]; rfl))
        clear hga
        go_wp2
        refine wp_region_wrong (c₀ := wrong) (w₀ := wr.drew) (by kernel_rfl) ?_ ?_ ?_ ?_
        · intro i o ho c a v w hq
          exact put_leaves (by have := all_at (p := fun o => o.dst != some 2 && o.dst != some 3) (by kernel_rfl) ho; simpa using this) hq
        · intro i o ho a w d w'
          exact calm_defer o (all_at (p := calm) (by kernel_rfl) ho) a w d w'
        · refine leaves_cons (f := 81) (args := #[.pointer (some ⟨w.heap.size, 0, none⟩), .pointer (some ⟨w.heap.size + 1, 0, none⟩)]) (by simp) (by simp [go_sem]) ?_
          refine (catch_panicking ⟨w.heap.size, 0, none⟩ ⟨w.heap.size + 1, 0, none⟩ _ _ _ HPAN.out.1 HPAN.out.2.1 HPAN.out.2.2.1 HPAN.out.2.2.2.1).mono ?_
          rintro e u' w'' ⟨rfl, rfl, rfl⟩
          exact ⟨_, HPAN.out.2.2.2.2.1 _ rfl rfl, Parsed.no HNO.out HPAN.out.2.2.2.2.2⟩
        refine wpAny_take (i := 1) (v := ?_) rfl (by kernel_rfl) (by kernel_rfl) (by kernel_rfl) (fun _ _ _ h => h) (Or.inl ⟨by rfl, ?_⟩) ?_
        rotate_left
        · (intro w; go_simp; with_reducible rfl)
        refine wpAny_take (i := 2) (v := ?_) rfl (by kernel_rfl) (by kernel_rfl) (by kernel_rfl) (fun _ _ _ h => h) (Or.inl ⟨by rfl, ?_⟩) ?_
        rotate_left
        · (intro w; go_simp; with_reducible rfl)
        refine wpAny_take (i := 3) (v := ?_) rfl (by kernel_rfl) (by kernel_rfl) (by kernel_rfl) (fun _ _ _ h => h) (Or.inl ⟨by rfl, ?_⟩) ?_
        rotate_left
        · (intro w; go_simp; with_reducible rfl)
        refine wpAny_take (i := 4) (v := ?_) rfl (by kernel_rfl) (by kernel_rfl) (by kernel_rfl) (fun _ _ _ h => h) (Or.inl ⟨by rfl, ?_⟩) ?_
        rotate_left
        · (intro w; go_simp; with_reducible rfl)
        refine wpAny_take (i := 5) (v := ?_) rfl (by kernel_rfl) (by kernel_rfl) (by kernel_rfl) (fun _ _ _ h => h) (Or.inl ⟨by rfl, ?_⟩) ?_
        rotate_left
        · (intro w; go_simp; with_reducible rfl)
        refine wpAny_take (i := 8) (v := ?_) rfl (by kernel_rfl) (by kernel_rfl) (by kernel_rfl) (fun _ _ _ h => h) (Or.inl ⟨by rfl, ?_⟩) ?_
        rotate_left
        · (intro w; go_simp; with_reducible rfl)
        refine wpAny_take (i := 9) (v := ?_) rfl (by kernel_rfl) (by kernel_rfl) (by kernel_rfl) (fun _ _ _ h => h) (Or.inl ⟨by rfl, ?_⟩) ?_
        rotate_left
        · (intro w; go_simp; with_reducible rfl)
        refine wpAny_take (i := 10) (v := ?_) rfl (by kernel_rfl) (by kernel_rfl) (by kernel_rfl) (fun _ _ _ h => h) (Or.inl ⟨by rfl, ?_⟩) ?_
        rotate_left
        · (intro w; go_simp; with_reducible rfl)
        refine wpAny_take (i := 11) (v := ?_) rfl (by kernel_rfl) (by kernel_rfl) (by kernel_rfl) (fun _ _ _ h => h) (Or.inl ⟨by rfl, ?_⟩) ?_
        rotate_left
        · (intro w; go_simp; with_reducible rfl)
        refine wpAny_take (i := 12) (v := ?_) rfl (by kernel_rfl) (by kernel_rfl) (by kernel_rfl) (fun _ _ _ h => h) (Or.inl ⟨by rfl, ?_⟩) ?_
        rotate_left
        · (intro w; go_simp; with_reducible rfl)
        refine wpAny_ready (rs := [0, 6]) (by kernel_rfl) (by simp) ?_
        refine AllReady.cons rfl (fun K hK => ?_) ?_
        · go_simp
          refine hK _ _ ?_
          clear hK K
          refine wpAny_ready (rs := [6]) (by kernel_rfl) (by simp) ?_
          refine AllReady.cons rfl (fun K hK => ?_) ?_
          · go_simp
            refine (val_no _ _ HGA.out).mono ?_
            rintro e w' ⟨rfl, rfl⟩
            exact ⟨rfl, rfl⟩
          exact AllReady.nil
        refine AllReady.cons rfl (fun K hK => ?_) ?_
        · go_simp
          refine (val_no _ _ HGA.out).mono ?_
          rintro e w' ⟨rfl, rfl⟩
          exact ⟨rfl, rfl⟩
        exact AllReady.nil
      | true =>
        cases hgb : good (s[(2 * (j : Int) + 1).toNat]'hB).toNat with
        | false =>
          have HGA := Lib.hid hga
          have HGB := Lib.hid hgb
          have HNO := Lib.hid (HSTEP.out.2 (by rw [hga, hgb]; rfl))
          clear hga hgb
          go_wp2
          refine wp_region_wrong (c₀ := wrong) (w₀ := wr.drew) (by kernel_rfl) ?_ ?_ ?_ ?_
          · intro i o ho c a v w hq
            exact put_leaves (by have := all_at (p := fun o => o.dst != some 2 && o.dst != some 3) (by kernel_rfl) ho; simpa using this) hq
          · intro i o ho a w d w'
            exact calm_defer o (all_at (p := calm) (by kernel_rfl) ho) a w d w'
          · refine leaves_cons (f := 81) (args := #[.pointer (some ⟨w.heap.size, 0, none⟩), .pointer (some ⟨w.heap.size + 1, 0, none⟩)]) (by simp) (by simp [go_sem]) ?_
            refine (catch_panicking ⟨w.heap.size, 0, none⟩ ⟨w.heap.size + 1, 0, none⟩ _ _ _ HPAN.out.1 HPAN.out.2.1 HPAN.out.2.2.1 HPAN.out.2.2.2.1).mono ?_
            rintro e u' w'' ⟨rfl, rfl, rfl⟩
            exact ⟨_, HPAN.out.2.2.2.2.1 _ rfl rfl, Parsed.no HNO.out HPAN.out.2.2.2.2.2⟩
          refine wpAny_take (i := 1) (v := ?_) rfl (by kernel_rfl) (by kernel_rfl) (by kernel_rfl) (fun _ _ _ h => h) (Or.inl ⟨by rfl, ?_⟩) ?_
          rotate_left
          · (intro w; go_simp; with_reducible rfl)
          refine wpAny_take (i := 2) (v := ?_) rfl (by kernel_rfl) (by kernel_rfl) (by kernel_rfl) (fun _ _ _ h => h) (Or.inl ⟨by rfl, ?_⟩) ?_
          rotate_left
          · (intro w; go_simp; with_reducible rfl)
          refine wpAny_take (i := 3) (v := ?_) rfl (by kernel_rfl) (by kernel_rfl) (by kernel_rfl) (fun _ _ _ h => h) (Or.inl ⟨by rfl, ?_⟩) ?_
          rotate_left
          · (intro w; go_simp; with_reducible rfl)
          refine wpAny_take (i := 4) (v := ?_) rfl (by kernel_rfl) (by kernel_rfl) (by kernel_rfl) (fun _ _ _ h => h) (Or.inl ⟨by rfl, ?_⟩) ?_
          rotate_left
          · (intro w; go_simp; with_reducible rfl)
          refine wpAny_take (i := 5) (v := ?_) rfl (by kernel_rfl) (by kernel_rfl) (by kernel_rfl) (fun _ _ _ h => h) (Or.inl ⟨by rfl, ?_⟩) ?_
          rotate_left
          · (intro w; go_simp; with_reducible rfl)
          refine wpAny_take (i := 8) (v := ?_) rfl (by kernel_rfl) (by kernel_rfl) (by kernel_rfl) (fun _ _ _ h => h) (Or.inl ⟨by rfl, ?_⟩) ?_
          rotate_left
          · (intro w; go_simp; with_reducible rfl)
          refine wpAny_take (i := 9) (v := ?_) rfl (by kernel_rfl) (by kernel_rfl) (by kernel_rfl) (fun _ _ _ h => h) (Or.inl ⟨by rfl, ?_⟩) ?_
          rotate_left
          · (intro w; go_simp; with_reducible rfl)
          refine wpAny_take (i := 10) (v := ?_) rfl (by kernel_rfl) (by kernel_rfl) (by kernel_rfl) (fun _ _ _ h => h) (Or.inl ⟨by rfl, ?_⟩) ?_
          rotate_left
          · (intro w; go_simp; with_reducible rfl)
          refine wpAny_take (i := 11) (v := ?_) rfl (by kernel_rfl) (by kernel_rfl) (by kernel_rfl) (fun _ _ _ h => h) (Or.inl ⟨by rfl, ?_⟩) ?_
          rotate_left
          · (intro w; go_simp; with_reducible rfl)
          refine wpAny_take (i := 12) (v := ?_) rfl (by kernel_rfl) (by kernel_rfl) (by kernel_rfl) (fun _ _ _ h => h) (Or.inl ⟨by rfl, ?_⟩) ?_
          rotate_left
          · (intro w; go_simp; with_reducible rfl)
          refine wpAny_ready (rs := [0, 6]) (by kernel_rfl) (by simp) ?_
          refine AllReady.cons rfl (fun K hK => ?_) ?_
          · go_simp
            refine hK _ _ ?_
            clear hK K
            refine wpAny_ready (rs := [6]) (by kernel_rfl) (by simp) ?_
            refine AllReady.cons rfl (fun K hK => ?_) ?_
            · go_simp
              refine (val_ok _ _ HGA.out).mono ?_
              rintro e w' ⟨rfl, rfl⟩
              go_simp
              refine hK _ _ ?_
              clear hK K
              refine wpAny_take (i := 7) (v := ?_) rfl (by kernel_rfl) (by kernel_rfl) (by kernel_rfl) (fun _ _ _ h => h) (Or.inl ⟨by rfl, ?_⟩) ?_
              rotate_left
              · (intro w; go_simp; with_reducible rfl)
              refine wpAny_ready (rs := [13]) (by kernel_rfl) (by simp) ?_
              refine AllReady.cons rfl (fun K hK => ?_) ?_
              · go_simp
                refine (val_no _ _ HGB.out).mono ?_
                rintro e w' ⟨rfl, rfl⟩
                exact ⟨rfl, rfl⟩
              exact AllReady.nil
            exact AllReady.nil
          refine AllReady.cons rfl (fun K hK => ?_) ?_
          · go_simp
            refine (val_ok _ _ HGA.out).mono ?_
            rintro e w' ⟨rfl, rfl⟩
            go_simp
            refine hK _ _ ?_
            clear hK K
            refine wpAny_take (i := 7) (v := ?_) rfl (by kernel_rfl) (by kernel_rfl) (by kernel_rfl) (fun _ _ _ h => h) (Or.inl ⟨by rfl, ?_⟩) ?_
            rotate_left
            · (intro w; go_simp; with_reducible rfl)
            refine wpAny_ready (rs := [0, 13]) (by kernel_rfl) (by simp) ?_
            refine AllReady.cons rfl (fun K hK => ?_) ?_
            · go_simp
              refine hK _ _ ?_
              clear hK K
              refine wpAny_ready (rs := [13]) (by kernel_rfl) (by simp) ?_
              refine AllReady.cons rfl (fun K hK => ?_) ?_
              · go_simp
                refine (val_no _ _ HGB.out).mono ?_
                rintro e w' ⟨rfl, rfl⟩
                exact ⟨rfl, rfl⟩
              exact AllReady.nil
            refine AllReady.cons rfl (fun K hK => ?_) ?_
            · go_simp
              refine (val_no _ _ HGB.out).mono ?_
              rintro e w' ⟨rfl, rfl⟩
              exact ⟨rfl, rfl⟩
            exact AllReady.nil
          exact AllReady.nil
        | true =>
          have HGA := Lib.hid hga
          have HGB := Lib.hid hgb
          have HYES := Lib.hid (HSTEP.out.1 hga hgb)
          have HSET := set_pair hlt HRL.out HB.out HE.out HR.out HF.out (val_le hga) (val_le hgb)
          clear hga hgb
          go_wp2
          refine wp_region_noPanic ?_
          refine wp_region_any (by kernel_rfl) ?_
          change wpAny _ _ _ _ _ _ _ (World.drew _)
          refine wpAny_take (i := 1) (v := ?_) rfl (by kernel_rfl) (by kernel_rfl) (by kernel_rfl) (fun _ _ _ h => h) (Or.inl ⟨by rfl, ?_⟩) ?_
          rotate_left
          · (intro w; go_simp; with_reducible rfl)
          refine wpAny_take (i := 2) (v := ?_) rfl (by kernel_rfl) (by kernel_rfl) (by kernel_rfl) (fun _ _ _ h => h) (Or.inl ⟨by rfl, ?_⟩) ?_
          rotate_left
          · (intro w; go_simp; with_reducible rfl)
          refine wpAny_take (i := 3) (v := ?_) rfl (by kernel_rfl) (by kernel_rfl) (by kernel_rfl) (fun _ _ _ h => h) (Or.inl ⟨by rfl, ?_⟩) ?_
          rotate_left
          · (intro w; go_simp; with_reducible rfl)
          refine wpAny_take (i := 4) (v := ?_) rfl (by kernel_rfl) (by kernel_rfl) (by kernel_rfl) (fun _ _ _ h => h) (Or.inl ⟨by rfl, ?_⟩) ?_
          rotate_left
          · (intro w; go_simp; with_reducible rfl)
          refine wpAny_take (i := 5) (v := ?_) rfl (by kernel_rfl) (by kernel_rfl) (by kernel_rfl) (fun _ _ _ h => h) (Or.inl ⟨by rfl, ?_⟩) ?_
          rotate_left
          · (intro w; go_simp; with_reducible rfl)
          refine wpAny_take (i := 8) (v := ?_) rfl (by kernel_rfl) (by kernel_rfl) (by kernel_rfl) (fun _ _ _ h => h) (Or.inl ⟨by rfl, ?_⟩) ?_
          rotate_left
          · (intro w; go_simp; with_reducible rfl)
          refine wpAny_take (i := 9) (v := ?_) rfl (by kernel_rfl) (by kernel_rfl) (by kernel_rfl) (fun _ _ _ h => h) (Or.inl ⟨by rfl, ?_⟩) ?_
          rotate_left
          · (intro w; go_simp; with_reducible rfl)
          refine wpAny_take (i := 10) (v := ?_) rfl (by kernel_rfl) (by kernel_rfl) (by kernel_rfl) (fun _ _ _ h => h) (Or.inl ⟨by rfl, ?_⟩) ?_
          rotate_left
          · (intro w; go_simp; with_reducible rfl)
          refine wpAny_take (i := 11) (v := ?_) rfl (by kernel_rfl) (by kernel_rfl) (by kernel_rfl) (fun _ _ _ h => h) (Or.inl ⟨by rfl, ?_⟩) ?_
          rotate_left
          · (intro w; go_simp; with_reducible rfl)
          refine wpAny_take (i := 12) (v := ?_) rfl (by kernel_rfl) (by kernel_rfl) (by kernel_rfl) (fun _ _ _ h => h) (Or.inl ⟨by rfl, ?_⟩) ?_
          rotate_left
          · (intro w; go_simp; with_reducible rfl)
          refine wpAny_ready (rs := [0, 6]) (by kernel_rfl) (by simp) ?_
          refine AllReady.cons rfl (fun K hK => ?_) ?_
          · go_simp
            refine hK _ _ ?_
            clear hK K
            refine wpAny_ready (rs := [6]) (by kernel_rfl) (by simp) ?_
            refine AllReady.cons rfl (fun K hK => ?_) ?_
            · go_simp
              refine (val_ok _ _ HGA.out).mono ?_
              rintro e w' ⟨rfl, rfl⟩
              go_simp
              refine hK _ _ ?_
              clear hK K
              refine wpAny_take (i := 7) (v := ?_) rfl (by kernel_rfl) (by kernel_rfl) (by kernel_rfl) (fun _ _ _ h => h) (Or.inl ⟨by rfl, ?_⟩) ?_
              rotate_left
              · (intro w; go_simp; with_reducible rfl)
              refine wpAny_ready (rs := [13]) (by kernel_rfl) (by simp) ?_
              refine AllReady.cons rfl (fun K hK => ?_) ?_
              · go_simp
                refine (val_ok _ _ HGB.out).mono ?_
                rintro e w' ⟨rfl, rfl⟩
                go_simp
                refine hK _ _ ?_
                clear hK K
                refine wpAny_take (i := 14) (v := ?_) rfl (by kernel_rfl) (by kernel_rfl) (by kernel_rfl) (fun _ _ _ h => h) (Or.inl ⟨by rfl, ?_⟩) ?_
                rotate_left
                · (intro w; go_simp; with_reducible rfl)
                refine wpAny_take (i := 15) (v := ?_) rfl (by kernel_rfl) (by kernel_rfl) (by kernel_rfl) (fun _ _ _ h => h) (Or.inl ⟨by rfl, ?_⟩) ?_
                rotate_left
                · (intro w; go_simp; with_reducible rfl)
                refine wpAny_ready (rs := [16]) (by kernel_rfl) (by simp) ?_
                refine AllReady.cons rfl (fun K hK => ?_) ?_
                · go_simp
                  refine hK _ _ ?_
                  clear hK K
                  refine wpAny_done (by kernel_rfl) ?_ _
                  refine NoPanic.normal ?_
                  go_wp2
                  go_roundw
                  case rel => exact ⟨j + 1, _, by omega, by go_num, HYES.out, HSET.out.1, HSET.out.2.1, HSET.out.2.2.1, HSET.out.2.2.2⟩
                  case measure => simp [intOf]; omega
                exact AllReady.nil
              exact AllReady.nil
            exact AllReady.nil
          refine AllReady.cons rfl (fun K hK => ?_) ?_
          · go_simp
            refine (val_ok _ _ HGA.out).mono ?_
            rintro e w' ⟨rfl, rfl⟩
            go_simp
            refine hK _ _ ?_
            clear hK K
            refine wpAny_take (i := 7) (v := ?_) rfl (by kernel_rfl) (by kernel_rfl) (by kernel_rfl) (fun _ _ _ h => h) (Or.inl ⟨by rfl, ?_⟩) ?_
            rotate_left
            · (intro w; go_simp; with_reducible rfl)
            refine wpAny_ready (rs := [0, 13]) (by kernel_rfl) (by simp) ?_
            refine AllReady.cons rfl (fun K hK => ?_) ?_
            · go_simp
              refine hK _ _ ?_
              clear hK K
              refine wpAny_ready (rs := [13]) (by kernel_rfl) (by simp) ?_
              refine AllReady.cons rfl (fun K hK => ?_) ?_
              · go_simp
                refine (val_ok _ _ HGB.out).mono ?_
                rintro e w' ⟨rfl, rfl⟩
                go_simp
                refine hK _ _ ?_
                clear hK K
                refine wpAny_take (i := 14) (v := ?_) rfl (by kernel_rfl) (by kernel_rfl) (by kernel_rfl) (fun _ _ _ h => h) (Or.inl ⟨by rfl, ?_⟩) ?_
                rotate_left
                · (intro w; go_simp; with_reducible rfl)
                refine wpAny_take (i := 15) (v := ?_) rfl (by kernel_rfl) (by kernel_rfl) (by kernel_rfl) (fun _ _ _ h => h) (Or.inl ⟨by rfl, ?_⟩) ?_
                rotate_left
                · (intro w; go_simp; with_reducible rfl)
                refine wpAny_ready (rs := [16]) (by kernel_rfl) (by simp) ?_
                refine AllReady.cons rfl (fun K hK => ?_) ?_
                · go_simp
                  refine hK _ _ ?_
                  clear hK K
                  refine wpAny_done (by kernel_rfl) ?_ _
                  refine NoPanic.normal ?_
                  go_wp2
                  go_roundw
                  case rel => exact ⟨j + 1, _, by omega, by go_num, HYES.out, HSET.out.1, HSET.out.2.1, HSET.out.2.2.1, HSET.out.2.2.2⟩
                  case measure => simp [intOf]; omega
                exact AllReady.nil
              exact AllReady.nil
            refine AllReady.cons rfl (fun K hK => ?_) ?_
            · go_simp
              refine (val_ok _ _ HGB.out).mono ?_
              rintro e w' ⟨rfl, rfl⟩
              go_simp
              refine hK _ _ ?_
              clear hK K
              refine wpAny_take (i := 14) (v := ?_) rfl (by kernel_rfl) (by kernel_rfl) (by kernel_rfl) (fun _ _ _ h => h) (Or.inl ⟨by rfl, ?_⟩) ?_
              rotate_left
              · (intro w; go_simp; with_reducible rfl)
              refine wpAny_ready (rs := [0]) (by kernel_rfl) (by simp) ?_
              refine AllReady.cons rfl (fun K hK => ?_) ?_
              · go_simp
                refine hK _ _ ?_
                clear hK K
                refine wpAny_take (i := 15) (v := ?_) rfl (by kernel_rfl) (by kernel_rfl) (by kernel_rfl) (fun _ _ _ h => h) (Or.inl ⟨by rfl, ?_⟩) ?_
                rotate_left
                · (intro w; go_simp; with_reducible rfl)
                refine wpAny_ready (rs := [16]) (by kernel_rfl) (by simp) ?_
                refine AllReady.cons rfl (fun K hK => ?_) ?_
                · go_simp
                  refine hK _ _ ?_
                  clear hK K
                  refine wpAny_done (by kernel_rfl) ?_ _
                  refine NoPanic.normal ?_
                  go_wp2
                  go_roundw
                  case rel => exact ⟨j + 1, _, by omega, by go_num, HYES.out, HSET.out.1, HSET.out.2.1, HSET.out.2.2.1, HSET.out.2.2.2⟩
                  case measure => simp [intOf]; omega
                exact AllReady.nil
              exact AllReady.nil
            exact AllReady.nil
          exact AllReady.nil
    · have e1 : wr.cell? ⟨w.heap.size + 1, 0, none⟩ = some (.int .i64 0) := HE.out.cell 0
      have q1 := HE.out.frozen 0
      have HDONE := done_pair (by omega : j = m) h hs HU.out HB.out HE.out HR.out HF.out
      go_wp2
      refine leaves_cons (f := 81) (args := #[.pointer (some ⟨w.heap.size, 0, none⟩), .pointer (some ⟨w.heap.size + 1, 0, none⟩)]) (by simp) (by simp [go_sem]) ?_
      refine (catch_idle ⟨w.heap.size, 0, none⟩ ⟨w.heap.size + 1, 0, none⟩ _).mono ?_
      rintro e u' w'' ⟨rfl, rfl, rfl⟩
      exact ⟨_, HDONE.out.1 _ rfl rfl, HDONE.out.2⟩

theorem parse_any (s : ByteArray) (w : World) (hs : s.size ≤ 262144) : Calls Try.prog 71 #[.string s] w (Parsed w s.data.toList) := by
  rcases Nat.mod_two_eq_zero_or_one s.size with h | h
  · exact parse_even s w (s.size / 2) (by omega) (by omega)
  · exact parse_odd s w h
end Go.Proofs.Ytgpnnnjhcjjnmaa
