/-
  The document's writer: Write.
-/
import Derived.Test.YtgpnnnjhcjjnmaaW4
import Derived.Outline
import Derived.Maps.AppendAt
import Derived.Laws.AppendOwnNone
import Derived.BigRegion
namespace Go.Proofs.Ytgpnnnjhcjjnmaa
open Go.RowKit

/-- append of bytes that a slice reads, nil or not, to a row of the call's own. -/
theorem wpList_append_bytes {ops : Array Oper} {rest : List Oper} {o : Oper} {a : Act} {w : World} {Q : Exit → Act → World → Prop} (hgd : o.guard = none) (s x : Operand)
    (ho : o.op = .call { callee := .builtin .append, args := #[s, x], argTypes := #[22, 22] })
    (base : Nat) (v : Value) (n : Nat) (xs : List UInt8) (hs : a.eval s = v) (hown : w.ownsRow base 5 1 v n (byts xs))
    (A : Option Addr) (m c : Nat) (ys : List UInt8) (hx : a.eval x = .slice A m c) (hm : ys.length = m) (hr : Rds w A ys) (hnil : A = none → c = 0)
    (hbytes : n + m ≤ 140737488355328) (hbase : base ≤ w.heap.size)
    (h : ∀ v' w', w'.ownsRow base 5 1 v' (n + m) (byts (xs ++ ys)) → w.grownBy w' v.ownBlock → wpList Try.prog ops Q rest (a.put o.dst v') w') : wpList Try.prog ops Q (o :: rest) a w := by
  obtain ⟨i0, hi, hz0, hz1, hz2⟩ := info_parts info5
  refine wpList_plain hgd fun K hK => ?_
  cases A with
  | some ad =>
    obtain ⟨v', w', hrun, h2, h3, _⟩ := run_append_own_at (P := Try.prog) w base 22 o.type 5 i0 (.int .u8 0) 1 1 Try.underlying22 hi hz0 hz1 hz2 rfl (by decide) v n (byts xs) hown ad m c (byts ys) (by rw [byts_len]; omega) hr.news (byts_one _) (by unfold maxLen; omega) (by omega) hbase
    unfold Oper.wp execOp
    simp only [ho, resolve, invoke, builtin, Sem.run_bind, Sem.run_pure, Result.andThen_ok, List.map_toArray, List.map_cons, List.map_nil, hs, hx, hrun]
    refine hK _ _ (h v' w' ?_ h3)
    rwa [show byts (xs ++ ys) = byts xs ++ byts ys from by simp [byts]]
  | none =>
    have hy : ys = [] := by
      rcases Nat.eq_zero_or_pos ys.length with h0 | h0
      · exact List.eq_nil_of_length_eq_zero h0
      · obtain ⟨ad, h1, _⟩ := hr h0
        cases h1
    subst hy
    obtain rfl : m = 0 := hm.symm
    obtain rfl := hnil rfl
    have hrun := run_append_owned_none (P := Try.prog) (w := w) base 22 o.type 5 i0 1 Try.underlying22 hi v n (byts xs) hown
    unfold Oper.wp execOp
    simp only [ho, resolve, invoke, builtin, Sem.run_bind, Sem.run_pure, Result.andThen_ok, List.map_toArray, List.map_cons, List.map_nil, hs, hx, hrun]
    exact hK _ _ (h v w (by simpa using hown) ⟨rfl, rfl, rfl, Nat.le_refl _, fun _ _ _ => rfl⟩)

/-- What the document's Write leaves. -/
def RWDone (w : World) (m : Nat) (u0 : Value) (zs : List UInt8) (f : Bool) (e : Ending) (w' : World) : Prop :=
  ∃ u, e = .returned (.agg #[.int .i64 (m : Int), u, .bool f]) ∧ w'.ownsRow 0 5 1 u zs.length (byts zs) ∧ Frm No w w' ∧ ∀ i, u.ownBlock = some i → u0.ownBlock = some i ∨ w.heap.size ≤ i

set_option maxRecDepth 100000 in
set_option maxHeartbeats 2000000 in
theorem ref_write (w : World) (m : Nat) (u : Value) (ys : List UInt8) (f : Bool) (hu : w.ownsRow 0 5 1 u ys.length (byts ys)) (hym : ys.length ≤ m) (hm : m ≤ 131072) (A : Option Addr) (c n : Nat) (xs : List UInt8) (hx : Src w A c xs) (hn : xs.length = n) (hn2 : n ≤ 140737488220000) :
    Calls Try.prog 47 #[.agg #[.int .i64 (m : Int), u, .bool f], .slice A n c] w (RWDone w m u (if wfits m ys f n = true then ys ++ xs else ys) (!wfits m ys f n)) := by
  obtain ⟨U, cu, rfl, -, hsu, -⟩ := Src.of_own hu
  have hcu := hsu.le
  have hru := hsu.rds
  have HNU : Hid (U = none → cu = 0) := hsu.nil
  clear hsu
  have HU := Lib.hid hu
  have HX := Lib.hid hx
  have HN := Lib.hid hn
  have HRU := Lib.hid hru
  by_cases hfit : f = true ∨ (m : Int) < ys.length + n
  · have hff : wfits m ys f n = false := by
      rcases hfit with h | h
      · simp [wfits, h]
      · simp [wfits]
        omega
    rw [hff]
    clear hu hx hru hff hn
    rw [if_neg (by decide), Bool.not_false]
    cases f with
    | true =>
      clear hfit
      go_enter Try.func47, Try.ntmps47
      go_wp2
      refine bodyPost_ret (v := .agg #[.int .i64 (m : Int), .slice U ys.length cu, .bool true]) (by simp [results, Try.results47, go_sem]) rfl ⟨_, rfl, ?_, ?_, fun i hi => .inl hi⟩
      · exact (HU.out.alloc _).alloc _
      · exact ((Frm.refl No w).alloc _).alloc _
    | false =>
      have q1 : (m : Int) < (ys.length : Int) + n := by simpa using hfit
      clear hfit
      go_enter Try.func47, Try.ntmps47
      go_wp2
      refine bodyPost_ret (v := .agg #[.int .i64 (m : Int), .slice U ys.length cu, .bool true]) (by simp [results, Try.results47, go_sem]) rfl ⟨_, rfl, ?_, ?_, fun i hi => .inl hi⟩
      · exact (HU.out.alloc _).alloc _
      · exact ((Frm.refl No w).alloc _).alloc _
  · have hff : wfits m ys f n = true := by
      have h1 := (not_or.1 hfit).1
      have h2 := (not_or.1 hfit).2
      simp at h1
      simp [wfits, h1]
      omega
    obtain rfl : f = false := by simpa using (not_or.1 hfit).1
    have q1 : ¬ (m : Int) < (ys.length : Int) + n := (not_or.1 hfit).2
    rw [hff, if_pos rfl, Bool.not_true]
    clear hu hx hru hff hfit hn
    have O0 : Hid (∀ (W : World) (g : Nat), W.heap.size = g → w.heap.size ≤ g → (W.alloc (.cells #[] 5)).ownsRow w.heap.size 5 1 (.slice (some ⟨g, 0, none⟩) 0 0) 0 (byts [])) := by
      rintro W g rfl hW
      exact own_mono (World.ownsRow_made W #[] 0 (Nat.le_refl _) (by unfold maxLen; omega) rfl) hW
    have Z : Hid (∀ (W W' : World) (g : Nat), w.heap.size ≤ g → Frm No w W → W.grownBy W' (Value.ownBlock (.slice (some ⟨g, 0, none⟩) 0 0)) → Frm No w W') :=
      Lib.hid fun W W' g hg hf hgr => hf.trans (Frm.of_grown hgr) (fun i hi hs => by
        have hs' : some g = some i := hs
        injection hs' with hs'
        omega)
    have Z2 : Hid (∀ (W W' : World) (v : Value) (n : Nat) (xs : List Value), W.ownsRow w.heap.size 5 1 v n xs → Frm No w W → W.grownBy W' v.ownBlock → Frm No w W') :=
      Lib.hid fun W W' v n xs ho hf hgr => hf.trans (Frm.of_grown hgr) (fun i hi hs => by have := (own_lt ho hs).1; omega)
    have N1 : Hid (¬ (some (w.heap.size + 1 + 1) = some w.heap.size)) := Lib.hid (by simp; omega)
    have N2 : Hid (¬ (some (w.heap.size + 1 + 1) = some (w.heap.size + 1))) := Lib.hid (by simp)
    have C0 : Hid (∀ o : Obj, Blk ((w.alloc o).alloc (.cells #[.int .i64 0, .slice none 0 0, .bool false] 82)) (w.heap.size + 1) 82 #[.int .i64 0, .slice none 0 0, .bool false]) := by
      intro o
      have := Blk.new (w.alloc o) 82 #[.int .i64 0, .slice none 0 0, .bool false]
      simpa using this
    go_enter Try.func47, Try.ntmps47
    go_wp2_with (first
      | (at_builtin; (refine wpList_append_bytes rfl (.tmp 20) (.tmp 22) rfl w.heap.size (.slice (some ⟨_, 0, none⟩) 0 0) 0 [] rfl (O0.out _ _ (by simp) (by omega)) U ys.length cu ys rfl rfl (HRU.out.frm ((((Frm.refl No w).alloc _).alloc _).alloc _) (fun _ _ x => x)) HNU.out (by omega) (by simp; omega) ?_; intro v1 w1 ho1 hg1; have F1 := Lib.hid (Z.out _ _ _ (by omega) ((((Frm.refl No w).alloc _).alloc _).alloc _) hg1); have O1 := Lib.hid ho1; have B1 := Lib.hid ((((Blk.new w 82 #[.int .i64 (m : Int), .slice U ys.length cu, .bool false]).alloc (.cells #[.int .i64 0, .slice none 0 0, .bool false] 82)).alloc (.cells #[] 5)).frm (Frm.of_grown hg1) (N1.out)); have C1 := Lib.hid (((C0.out _).alloc (.cells #[] 5)).frm (Frm.of_grown hg1) (N2.out)); clear ho1 hg1))
      | (at_builtin; (refine wpList_append_bytes rfl (.tmp 23) (.tmp 24) rfl w.heap.size v1 (0 + ys.length) ([] ++ ys) rfl O1.out A n c xs rfl HN.out (HX.out.rds.frm F1.out (fun _ _ x => x)) HX.out.nil (by omega) F1.out.size ?_; intro v2 w2 ho2 hg2; have F2 := Lib.hid (Z2.out _ _ _ _ _ O1.out F1.out hg2); obtain ⟨V2, c2, rfl⟩ := own_slice ho2; have O2 := Lib.hid ho2; have B2 := B1.out.frm (Frm.of_grown hg2) (own_blk_ne O1.out B1.out (by decide)); have C2 := C1.out.frm (Frm.of_grown hg2) (own_blk_ne O1.out C1.out (by decide)); have b0 := B2.cell 0; have b1 := B2.cell 1; have b2 := B2.cell 2; have e0 := B2.frozen 1; have d0 := C2.cell 0; have d1 := C2.cell 1; have d2 := C2.cell 2; have e1 := C2.frozen 0; have e2 := C2.frozen 1; have e3 := C2.frozen 2; have HB2 := Lib.hid B2; have HC2 := Lib.hid C2; clear ho2 hg2 B2 C2)))
    have hOB : w2.ownsRow w.heap.size 5 1 (.slice V2 (ys.length + n) c2) (ys.length + n) (byts (ys ++ xs)) := by
      have h := O2.out
      rw [Nat.zero_add, List.nil_append] at h
      exact h
    have hO : w2.ownsRow 0 5 1 (.slice V2 (ys.length + n) c2) (ys ++ xs).length (byts (ys ++ xs)) := by
      have h := O2.out
      rw [Nat.zero_add, List.nil_append] at h
      rw [List.length_append, HN.out]
      exact own_mono h (Nat.zero_le _)
    have hn1 : (Value.slice V2 (ys.length + n) c2).ownBlock ≠ some w.heap.size := own_blk_ne hO HB2.out (by decide)
    have hn2 : (Value.slice V2 (ys.length + n) c2).ownBlock ≠ some (w.heap.size + 1) := own_blk_ne hO HC2.out (by decide)
    refine bodyPost_ret (v := .agg #[.int .i64 (m : Int), .slice V2 (ys.length + n) c2, .bool false]) (by simp [results, Try.results47, go_sem, d0, d1, d2]) rfl ⟨_, rfl, ?_, ?_, fun i hi => .inr (own_lt hOB hi).1⟩
    · exact ownsRow_setCell_other (ownsRow_setCell_other (ownsRow_setCell_other (ownsRow_setCell_other hO hn1 _) hn2 _) hn2 _) hn2 _
    · exact (((F2.out.setCell (p := ⟨w.heap.size, 1, none⟩) (fun h => absurd h (Nat.lt_irrefl _)) _).setCell (p := ⟨w.heap.size + 1, 0, none⟩) (fun h => absurd h (by simp)) _).setCell (p := ⟨w.heap.size + 1, 1, none⟩) (fun h => absurd h (by simp)) _).setCell (p := ⟨w.heap.size + 1, 2, none⟩) (fun h => absurd h (by simp)) _
end Go.Proofs.Ytgpnnnjhcjjnmaa
