/-
  The document's Set.
-/
import Derived.Test.YtgpnnnjhcjjnmaaRb
import Derived.Deep.CutRange
import Derived.RegionTactic
namespace Go.Proofs.Ytgpnnnjhcjjnmaa
open Go.RowKit

set_option maxRecDepth 100000 in
set_option maxHeartbeats 2000000 in
theorem ref_set_no (w : World) (m : Nat) (u : Value) (ys : List UInt8) (f : Bool) (hu : w.ownsRow 0 5 1 u ys.length (byts ys)) (hym : ys.length ≤ m) (hm : m ≤ 131072) (k : Int) (x : Nat) (hno : sfits ys f k = false) :
    Calls Try.prog 50 #[.agg #[.int .i64 (m : Int), u, .bool f], .int .i64 k, .int .i64 (x : Int)] w (RWDone w m u ys true) := by
  obtain ⟨U, cu, rfl, -, hsu, -⟩ := Src.of_own hu
  have hcu := hsu.le
  clear hsu
  have HU := Lib.hid hu
  clear hu
  cases f with
  | true =>
    clear hno
    go_enter Try.func50, Try.ntmps50
    go_wp2
    refine bodyPost_ret (v := .agg #[.int .i64 (m : Int), .slice U ys.length cu, .bool true]) (by simp [results, Try.results50, go_sem]) rfl ⟨_, rfl, ?_, ?_, fun i hi => .inl hi⟩
    · exact (HU.out.alloc _).alloc _
    · exact ((Frm.refl No w).alloc _).alloc _
  | false =>
    have hk : k < 0 ∨ (ys.length : Int) < k ∨ (k ≤ ys.length ∧ (ys.length : Int) < k + 2) := by
      simp [sfits] at hno
      omega
    clear hno
    rcases hk with h | h | ⟨h1, h2⟩
    · go_enter Try.func50, Try.ntmps50
      go_wp2
      refine bodyPost_ret (v := .agg #[.int .i64 (m : Int), .slice U ys.length cu, .bool true]) (by simp [results, Try.results50, go_sem]) rfl ⟨_, rfl, ?_, ?_, fun i hi => .inl hi⟩
      · exact (HU.out.alloc _).alloc _
      · exact ((Frm.refl No w).alloc _).alloc _
    · have h0 : ¬ k < 0 := by omega
      go_enter Try.func50, Try.ntmps50
      go_wp2
      refine bodyPost_ret (v := .agg #[.int .i64 (m : Int), .slice U ys.length cu, .bool true]) (by simp [results, Try.results50, go_sem]) rfl ⟨_, rfl, ?_, ?_, fun i hi => .inl hi⟩
      · exact (HU.out.alloc _).alloc _
      · exact ((Frm.refl No w).alloc _).alloc _
    · by_cases h0 : k < 0
      · go_enter Try.func50, Try.ntmps50
        go_wp2
        refine bodyPost_ret (v := .agg #[.int .i64 (m : Int), .slice U ys.length cu, .bool true]) (by simp [results, Try.results50, go_sem]) rfl ⟨_, rfl, ?_, ?_, fun i hi => .inl hi⟩
        · exact (HU.out.alloc _).alloc _
        · exact ((Frm.refl No w).alloc _).alloc _
      · have h3 : ¬ (ys.length : Int) < k := by omega
        go_enter Try.func50, Try.ntmps50
        go_wp2
        refine bodyPost_ret (v := .agg #[.int .i64 (m : Int), .slice U ys.length cu, .bool true]) (by simp [results, Try.results50, go_sem]) rfl ⟨_, rfl, ?_, ?_, fun i hi => .inl hi⟩
        · exact (HU.out.alloc _).alloc _
        · exact ((Frm.refl No w).alloc _).alloc _

theorem set2_list {α : Type} : ∀ (l : List α) (k : Nat) (a b : α), k + 2 ≤ l.length → (l.set k a).set (k + 1) b = l.take k ++ [a, b] ++ l.drop (k + 2)
  | [], k, a, b, h => by simp at h
  | [c], k, a, b, h => by simp at h
  | c :: d :: r, 0, a, b, h => rfl
  | c :: d :: r, k + 1, a, b, h => by
    have := set2_list (d :: r) k a b (by simpa using h)
    simp only [List.set_cons_succ, List.take_succ_cons, List.cons_append, List.drop_succ_cons] at this ⊢
    rw [this]

theorem set2_bytes (ys : List UInt8) (k x : Nat) (hk : k + 2 ≤ ys.length) (a b : Int) (ha : a = (x : Int) / 256 % 256) (hb : b = (x : Int) % 256) :
    ((byts ys).set k (.int .u8 a)).set (k + 1) (.int .u8 b) = byts (setTwo ys k x) := by
  rw [set2_list _ _ _ _ (by rw [byts_len]; exact hk)]
  have e1 : byt (UInt8.ofNat (x / 256 % 256)) = .int .u8 a := by rw [byt_of, ha]; rfl
  have e2 : byt (UInt8.ofNat (x % 256)) = .int .u8 b := by rw [byt_of, hb]
  simp only [setTwo, digs, List.nil_append, List.cons_append, byts, List.map_append, List.map_cons, List.map_nil, e1, e2, List.map_take, List.map_drop]

theorem row_set2 {W : World} {g cap k x base : Nat} {ys : List UInt8} {cur : Array Value} (hb : base ≤ g) (hn : ys.length ≤ cap) (hc : cap ≤ maxLen) (hs : cur.size = cap * 1) (ht : cur.toList.take (ys.length * 1) = byts ys) (hk : k + 2 ≤ ys.length) (a b : Int) (ha : a = (x : Int) / 256 % 256) (hbb : b = (x : Int) % 256)
    (hg : Blk W g 5 ((cur.setIfInBounds k (.int .u8 a)).setIfInBounds (k + 1) (.int .u8 b))) : W.ownsRow base 5 1 (.slice (some ⟨g, 0, none⟩) ys.length cap) (setTwo ys k x).length (byts (setTwo ys k x)) := by
  have hl := setTwo_len ys k x hk
  rw [hl]
  refine ⟨by rw [byts_len, hl, Nat.mul_one], .inr ⟨g, cap, _, rfl, hb, hg, hn, hc, by simpa using hs, ?_⟩⟩
  rw [Nat.mul_one] at ht ⊢
  rw [Array.toList_setIfInBounds, Array.toList_setIfInBounds, List.take_set, List.take_set, ht]
  exact set2_bytes ys k x hk a b ha hbb

set_option maxRecDepth 100000 in
set_option maxHeartbeats 4000000 in
theorem ref_set_yes (w : World) (m : Nat) (u : Value) (ys : List UInt8) (hu : w.ownsRow 0 5 1 u ys.length (byts ys)) (hym : ys.length ≤ m) (hm : m ≤ 131072) (k x : Nat) (hx : x < 65536) (hk : k + 2 ≤ ys.length) :
    Calls Try.prog 50 #[.agg #[.int .i64 (m : Int), u, .bool false], .int .i64 (k : Int), .int .i64 (x : Int)] w (RWDone w m u (setTwo ys k x) false) := by
  obtain ⟨U, cu, rfl, -, hsu, -⟩ := Src.of_own hu
  have hcu := hsu.le
  have HRU := Lib.hid hsu.rds
  have HNU : Hid (U = none → cu = 0) := hsu.nil
  clear hsu hu
  have O0 : Hid (∀ (W : World) (g : Nat), W.heap.size = g → w.heap.size ≤ g → (W.alloc (.cells #[] 5)).ownsRow w.heap.size 5 1 (.slice (some ⟨g, 0, none⟩) 0 0) 0 (byts [])) := by
    rintro W g rfl hW
    exact own_mono (World.ownsRow_made W #[] 0 (Nat.le_refl _) (by unfold maxLen; omega) rfl) hW
  have Z : Hid (∀ (W W' : World) (g : Nat), w.heap.size ≤ g → Frm No w W → W.grownBy W' (Value.ownBlock (.slice (some ⟨g, 0, none⟩) 0 0)) → Frm No w W') :=
    Lib.hid fun W W' g hg hf hgr => hf.trans (Frm.of_grown hgr) (fun i hi hs => by
      have hs' : some g = some i := hs
      injection hs' with hs'
      omega)
  have N1 : Hid (¬ (some (w.heap.size + 1 + 1) = some w.heap.size)) := Lib.hid (by simp; omega)
  have N2 : Hid (¬ (some (w.heap.size + 1 + 1) = some (w.heap.size + 1))) := Lib.hid (by simp)
  have C0 : Hid (∀ o : Obj, Blk ((w.alloc o).alloc (.cells #[.int .i64 0, .slice none 0 0, .bool false] 82)) (w.heap.size + 1) 82 #[.int .i64 0, .slice none 0 0, .bool false]) := by
    intro o
    have := Blk.new (w.alloc o) 82 #[.int .i64 0, .slice none 0 0, .bool false]
    simpa using this
  have q1 : ¬ (k : Int) < 0 := by omega
  have q2 : ¬ (ys.length : Int) < k := by omega
  have q3 : ¬ (ys.length : Int) < (k : Int) + 2 := by omega
  have q4 : ¬ ys.length < k := by omega
  go_enter Try.func50, Try.ntmps50
  go_upto_region 7 with (at_builtin; (refine wpList_append_bytes rfl (.tmp 29) (.tmp 31) rfl w.heap.size (.slice (some ⟨_, 0, none⟩) 0 0) 0 [] rfl (O0.out _ _ (by simp) (by omega)) U ys.length cu ys rfl rfl (HRU.out.frm ((((Frm.refl No w).alloc _).alloc _).alloc _) (fun _ _ x => x)) HNU.out (by omega) (by simp; omega) ?_; intro v1 w1 ho1 hg1; have F1 := Lib.hid (Z.out _ _ _ (by omega) ((((Frm.refl No w).alloc _).alloc _).alloc _) hg1); obtain ⟨V1, c1, rfl⟩ := own_slice ho1; have O1 := Lib.hid ho1; have B1 := (((Blk.new w 82 #[.int .i64 (m : Int), .slice U ys.length cu, .bool false]).alloc (.cells #[.int .i64 0, .slice none 0 0, .bool false] 82)).alloc (.cells #[] 5)).frm (Frm.of_grown hg1) (N1.out); have C1 := Lib.hid (((C0.out _).alloc (.cells #[] 5)).frm (Frm.of_grown hg1) (N2.out)); have b0 := B1.cell 0; have b1 := B1.cell 1; have b2 := B1.cell 2; have e0 := B1.frozen 1; have HB1 := Lib.hid B1; clear ho1 hg1 B1))
  obtain ⟨g, cap, cur, hv, hbg, hg, hn, hmx, hcs, htk⟩ : ∃ g cap cur, Value.slice V1 (0 + ys.length) c1 = .slice (some ⟨g, 0, none⟩) (0 + ys.length) cap ∧ w.heap.size ≤ g ∧ w1.heap[g]? = some (.cells cur 5 (0, 0)) ∧ 0 + ys.length ≤ cap ∧ cap ≤ maxLen ∧ cur.size = cap * 1 ∧ cur.toList.take ((0 + ys.length) * 1) = byts ([] ++ ys) := by
    rcases O1.out.2 with ⟨hv, h0⟩ | h
    · omega
    · exact h
  have hV : V1 = some ⟨g, 0, none⟩ ∧ c1 = cap := by injection hv with h1 _ h2; exact ⟨h1, h2⟩
  obtain ⟨rfl, rfl⟩ := hV
  have hgB : Blk w1 g 5 cur := hg
  have ng0 : g ≠ w.heap.size := hgB.ne_ HB1.out (by decide)
  have ng1 : g ≠ w.heap.size + 1 := hgB.ne_ C1.out (by decide)
  obtain ⟨W1, hW1⟩ : ∃ W, w1.setCell ⟨w.heap.size, 1, none⟩ (.slice (some ⟨g, 0, none⟩) ys.length c1) = W := ⟨_, rfl⟩
  have BX : Hid (Blk W1 w.heap.size 82 #[.int .i64 (m : Int), .slice (some ⟨g, 0, none⟩) ys.length c1, .bool false]) := by
    have h := HB1.out.set_ 1 (.slice (some ⟨g, 0, none⟩) ys.length c1)
    rw [hW1] at h
    exact h
  have CX : Hid (Blk W1 (w.heap.size + 1) 82 #[.int .i64 0, .slice none 0 0, .bool false]) := by
    have h := C1.out.far (p := ⟨w.heap.size, 1, none⟩) (by show ¬ w.heap.size + 1 = w.heap.size; omega) (.slice (some ⟨g, 0, none⟩) ys.length c1)
    rw [hW1] at h
    exact h
  have GX : Hid (Blk W1 g 5 cur) := by
    have h := hgB.far (p := ⟨w.heap.size, 1, none⟩) ng0 (.slice (some ⟨g, 0, none⟩) ys.length c1)
    rw [hW1] at h
    exact h
  have FX : Hid (Frm No w W1) := by
    show Frm No w W1
    rw [← hW1]
    exact F1.out.setCell (p := ⟨w.heap.size, 1, none⟩) (fun h => absurd h (Nat.lt_irrefl _)) _
  rw [hW1]
  have hsz : cur.size = c1 := by omega
  have hLc : ys.length ≤ c1 := by omega
  have s0 : W1.cell? ⟨w.heap.size, 1, none⟩ = some (.slice (some ⟨g, 0, none⟩) ys.length c1) := BX.out.cell 1
  have s1 : W1.cell? ⟨g, k, none⟩ = some (cur[k]'(by omega)) := by rw [GX.out.cell]; exact Array.getElem?_eq_getElem (by omega)
  have s2 : W1.cell? ⟨g, k + 1, none⟩ = some (cur[k + 1]'(by omega)) := by rw [GX.out.cell]; exact Array.getElem?_eq_getElem (by omega)
  have f1 := GX.out.frozen k
  have f2 := GX.out.frozen (k + 1)
  generalize cur[k]'(by omega) = c0v at s1
  generalize cur[k + 1]'(by omega) = c1v at s2
  have ROW := Lib.hid (fun (W : World) (a b : Int) (ha : a = (x : Int) / 256 % 256) (hb : b = (x : Int) % 256) (hW : Blk W g 5 ((cur.setIfInBounds k (.int .u8 a)).setIfInBounds (k + 1) (.int .u8 b))) => row_set2 (base := 0) (Nat.zero_le g) hLc hmx (by rw [hsz, Nat.mul_one]) (by simpa using htk) hk a b ha hb hW)
  have i1 : (k : Int) < ys.length := by omega
  have i2 : (k : Int) + 1 < ys.length := by omega
  have i3 : (0 : Int) ≤ (k : Int) + 1 := by omega
  have i4 : IntKind.i64.wrap ((k : Int) + 1) = (k : Int) + 1 := by rw [IntWalk.i64_in] <;> omega
  have i5 : ((k : Int) + 1).toNat = k + 1 := by omega
  have hbg2 := Lib.hid hbg
  clear hW1 hg hgB hv htk O1 HB1 C1 F1 O0 Z N1 N2 C0 b0 b1 b2 e0 hn hcs hsz hmx hbg HRU HNU
  go_region
  obtain ⟨W2, hW2⟩ : ∃ W, ((W1.setCell ⟨g, k, none⟩ (.int .u8 ((x : Int) / 256))).setCell ⟨g, k + 1, none⟩ (.int .u8 ((x : Int) % 256))).drew = W := ⟨_, rfl⟩
  have BX2 : Hid (Blk W2 w.heap.size 82 #[.int .i64 (m : Int), .slice (some ⟨g, 0, none⟩) ys.length c1, .bool false]) := by
    have h := ((BX.out.far (p := ⟨g, k, none⟩) (Ne.symm ng0) (.int .u8 ((x : Int) / 256))).far (p := ⟨g, k + 1, none⟩) (Ne.symm ng0) (.int .u8 ((x : Int) % 256))).drew
    rw [hW2] at h
    exact h
  have CX2 : Hid (Blk W2 (w.heap.size + 1) 82 #[.int .i64 0, .slice none 0 0, .bool false]) := by
    have h := ((CX.out.far (p := ⟨g, k, none⟩) (Ne.symm ng1) (.int .u8 ((x : Int) / 256))).far (p := ⟨g, k + 1, none⟩) (Ne.symm ng1) (.int .u8 ((x : Int) % 256))).drew
    rw [hW2] at h
    exact h
  have RX2 : Hid (W2.ownsRow 0 5 1 (.slice (some ⟨g, 0, none⟩) ys.length c1) (setTwo ys k x).length (byts (setTwo ys k x))) := by
    refine ROW.out W2 ((x : Int) / 256) ((x : Int) % 256) (by omega) rfl ?_
    have h := ((GX.out.set_ k (.int .u8 ((x : Int) / 256))).set_ (k + 1) (.int .u8 ((x : Int) % 256))).drew
    rw [hW2] at h
    exact h
  have FX2 : Hid (Frm No w W2) := by
    show Frm No w W2
    rw [← hW2]
    exact ((FX.out.setCell (p := ⟨g, k, none⟩) (fun h => absurd h (by show ¬ g < _; have := hbg2.out; omega)) _).setCell (p := ⟨g, k + 1, none⟩) (fun h => absurd h (by show ¬ g < _; have := hbg2.out; omega)) _).drew
  rw [hW2]
  clear hW2 s0 s1 s2 f1 f2 ROW GX FX BX CX
  have b0 := BX2.out.cell 0
  have b1 := BX2.out.cell 1
  have b2 := BX2.out.cell 2
  have d0 := CX2.out.cell 0
  have d1 := CX2.out.cell 1
  have d2 := CX2.out.cell 2
  have e0 := CX2.out.frozen 0
  have e1 := CX2.out.frozen 1
  have e2 := CX2.out.frozen 2
  go_wp2
  have hn2 := own_blk_ne RX2.out CX2.out (by decide)
  refine bodyPost_ret (v := .agg #[.int .i64 (m : Int), .slice (some ⟨g, 0, none⟩) ys.length c1, .bool false]) (by simp [results, Try.results50, go_sem, d0, d1, d2]) rfl ⟨_, rfl, ?_, ?_, fun i hi => .inr (by have hi' : some g = some i := hi; injection hi' with hi'; have := hbg2.out; omega)⟩
  · exact ownsRow_setCell_other (ownsRow_setCell_other (ownsRow_setCell_other RX2.out hn2 _) hn2 _) hn2 _
  · exact ((FX2.out.setCell (p := ⟨w.heap.size + 1, 0, none⟩) (fun h => absurd h (by simp)) _).setCell (p := ⟨w.heap.size + 1, 1, none⟩) (fun h => absurd h (by simp)) _).setCell (p := ⟨w.heap.size + 1, 2, none⟩) (fun h => absurd h (by simp)) _

theorem ref_set (w : World) (m : Nat) (u : Value) (ys : List UInt8) (f : Bool) (hu : w.ownsRow 0 5 1 u ys.length (byts ys)) (hym : ys.length ≤ m) (hm : m ≤ 131072) (k : Int) (x : Nat) (hx : x < 65536) :
    Calls Try.prog 50 #[.agg #[.int .i64 (m : Int), u, .bool f], .int .i64 k, .int .i64 (x : Int)] w (RWDone w m u (if sfits ys f k = true then setTwo ys k.toNat x else ys) (!sfits ys f k)) := by
  cases hf : sfits ys f k with
  | false => exact ref_set_no w m u ys f hu hym hm k x hf
  | true =>
    have h : f = false ∧ 0 ≤ k ∧ k ≤ (ys.length : Int) - 2 := by simpa [sfits, and_assoc] using hf
    obtain ⟨rfl, h0, h1⟩ := h
    obtain ⟨j, rfl⟩ := Int.eq_ofNat_of_zero_le h0
    exact ref_set_yes w m u ys hu hym hm j x hx (by omega)
end Go.Proofs.Ytgpnnnjhcjjnmaa
