/-
  The document's reader: Number, Read.
-/
import Derived.Test.YtgpnnnjhcjjnmaaRf
import Derived.Test.YtgpnnnjhcjjnmaaJ1
import Derived.Test.YtgpnnnjhcjjnmaaR2
import Derived.Test.YtgpnnnjhcjjnmaaL2
namespace Go.Proofs.Ytgpnnnjhcjjnmaa
open Go.RowKit
attribute [local go_sem] undef

set_option maxRecDepth 100000 in
set_option maxHeartbeats 400000 in
theorem ref_number (w : World) (A : Option Addr) (c : Nat) (bs : List UInt8) (h : Rds w A bs) (h4 : bs.length ≤ 4) :
    Calls Try.prog 44 #[.slice A bs.length c] w fun e w' => e = .returned (.int .i64 (be bs : Int)) ∧ w = w' := by
  go_enter Try.func44, Try.ntmps44
  go_wp2
  go_loop [3, 4] (fun s i => ∃ j : Nat, j ≤ bs.length ∧ i = .int .i64 j ∧ s = .int .i64 (be (bs.take j) : Int)) (fun _ i => bs.length - (intOf i).toNat)
  case atStart => exact ⟨0, Nat.zero_le _, rfl, rfl⟩
  case round =>
    obtain ⟨j, hj, rfl, rfl⟩ := hrel
    by_cases hlt : j < bs.length
    · obtain ⟨ad, rfl, hc⟩ := h.at_ hlt
      have hb := be_take_lt bs j hlt h4
      have h2 := bs[j].toNat_lt
      go_wp2
      go_round
      case rel => exact ⟨j + 1, by omega, by go_num, by rw [take_succ bs j hlt, be_snoc]; exact val_num (by omega)⟩
      case measure => simp [intOf]; omega
    · go_wp2
      go_ret
      exact ⟨ret_num (by rw [List.take_of_length_le (by omega)]), rfl⟩

theorem push_on {w wr w2 : World} {ys : List UInt8} {v v' : Value} {j n : Nat} {o : Obj} {x : UInt8} (HO : wr.ownsRow w.heap.size 5 1 v j (byts ys)) (HF : Frm No w wr)
    (hown : w2.ownsRow w.heap.size 5 1 v' n (byts ys ++ byts [x])) (hgr : (wr.alloc o).grownBy w2 v.ownBlock) :
    Hid (w2.ownsRow w.heap.size 5 1 v' n (byts (ys ++ [x]))) ∧ Hid (Frm No w w2) := by
  constructor
  · show w2.ownsRow w.heap.size 5 1 v' n (byts (ys ++ [x]))
    simpa [byts] using hown
  · show Frm No w w2
    exact (HF.alloc o).trans (Frm.of_grown hgr) (fun i hi hs => by
      have := (World.ownsRow.lt HO i hs).1
      omega)

/-- What the document's Read leaves. -/
def RRDone (w : World) (A : Option Addr) (c k : Nat) (bs : List UInt8) (f : Bool) (n : Int) (e : Ending) (w' : World) : Prop :=
  ∃ u, e = .returned (.tuple #[.agg #[.slice A bs.length c, .int .i64 (rAt bs k f n : Int), .bool (!fits bs k f n)], u]) ∧ w'.ownsRow w.heap.size 5 1 u (rOut bs k f n).length (byts (rOut bs k f n)) ∧ Frm No w w'

theorem RRDone.no {w w' : World} {A : Option Addr} {c k : Nat} {bs : List UInt8} {f : Bool} {n : Int} (hf : fits bs k f n = false) (hw : Frm No w w') :
    RRDone w A c k bs f n (.returned (.tuple #[.agg #[.slice A bs.length c, .int .i64 (k : Int), .bool true], .slice none 0 0])) w' := by
  refine ⟨.slice none 0 0, ?_, ?_, hw⟩
  · simp [rAt, hf]
  · simp [rOut, hf]
    exact World.ownsRow_nil _ _ _ _

set_option maxRecDepth 100000 in
set_option maxHeartbeats 2000000 in
theorem ref_read_ok (w : World) (A : Option Addr) (c k : Nat) (bs : List UInt8) (h : Src w A c bs) (hl : bs.length ≤ 131072) (n : Nat) (hn : k + n ≤ bs.length) :
    Calls Try.prog 43 #[.agg #[.slice A bs.length c, .int .i64 (k : Int), .bool false], .int .i64 (n : Int)] w (RRDone w A c k bs false n) := by
  obtain ⟨i0, hi, hz0, hz1, hz2⟩ := info_parts info5
  have hfit : fits bs k false n = true := by simp [fits]; omega
  obtain ⟨ps, hps⟩ : ∃ ps, (bs.drop k).take n = ps := ⟨_, rfl⟩
  have hpl : ps.length = n := by rw [← hps, List.length_take, List.length_drop]; omega
  have HF : Hid (∀ u w', w'.ownsRow w.heap.size 5 1 u n (byts ps) → Frm No w w' → RRDone w A c k bs false n (.returned (.tuple #[.agg #[.slice A bs.length c, .int .i64 ((k : Int) + n), .bool false], u])) w') := by
    refine Lib.hid fun u w' ho hf => ⟨u, ?_, ?_, hf⟩
    · simp [rAt, hfit]
    · simp only [rOut, hfit, if_true, Int.toNat_natCast, hps, hpl]
      exact ho
  have HP : Hid (∀ W, Frm No w W → ∀ j, j < n → ∃ b : UInt8, ∃ ad, A = some ad ∧ W.cell? (ad.add (k + j)) = some (.int .u8 (b.toNat : Int)) ∧ ps.take (j + 1) = ps.take j ++ [b]) := by
    refine Lib.hid fun W hW j hj => ?_
    obtain ⟨ad, ha, hc⟩ := (h.rds.frm hW (fun _ _ x => x)).at_ (show k + j < bs.length by omega)
    refine ⟨bs[k + j], ad, ha, hc, ?_⟩
    have h1 : j < ps.length := by omega
    rw [take_succ ps j h1]
    subst hps
    simp
  have q1 : ¬ (n : Int) < 0 := by omega
  have q2 : ¬ (bs.length : Int) < n := by omega
  have q3 : ¬ (bs.length : Int) < k + n := by omega
  have HL := Lib.hid hpl
  clear hps hfit hpl
  have B0 := Lib.hid ((Blk.new w 75 #[.slice A bs.length c, .int .i64 (k : Int), .bool false]).alloc (.cells #[.slice none 0 0, .int .i64 0, .bool false] 75))
  have C0 : Hid (Blk ((w.alloc (.cells #[.slice A bs.length c, .int .i64 (k : Int), .bool false] 75)).alloc (.cells #[.slice none 0 0, .int .i64 0, .bool false] 75)) (w.heap.size + 1) 75 #[.slice none 0 0, .int .i64 0, .bool false]) := by
    have := Blk.new (w.alloc (.cells #[.slice A bs.length c, .int .i64 (k : Int), .bool false] 75)) 75 #[.slice none 0 0, .int .i64 0, .bool false]
    rwa [show (w.alloc (.cells #[.slice A bs.length c, .int .i64 (k : Int), .bool false] 75)).heap.size = w.heap.size + 1 by simp] at this
  have F0 : Hid (Frm No w ((w.alloc (.cells #[.slice A bs.length c, .int .i64 (k : Int), .bool false] 75)).alloc (.cells #[.slice none 0 0, .int .i64 0, .bool false] 75))) :=
    ((Frm.refl No w).alloc _).alloc _
  go_enter Try.func43, Try.ntmps43
  go_wp2
  go_loopw [6, 7] (fun u i wr => ∃ j : Nat, j ≤ n ∧ i = .int .i64 j ∧ Hid (wr.ownsRow w.heap.size 5 1 u j (byts (ps.take j))) ∧ Hid (Frm No w wr) ∧ Hid (Blk wr w.heap.size 75 #[.slice A bs.length c, .int .i64 (k : Int), .bool false]) ∧ Hid (Blk wr (w.heap.size + 1) 75 #[.slice none 0 0, .int .i64 0, .bool false])) (fun _ i _ => n - (intOf i).toNat)
  case atStart => exact ⟨0, Nat.zero_le _, rfl, Lib.hid (World.ownsRow_nil _ _ _ _), F0, B0, C0⟩
  case round =>
    obtain ⟨j, hj, rfl, HO, HW, HB, HC⟩ := hrel
    clear B0 C0 F0
    have b0 := HB.out.cell 0
    have b1 := HB.out.cell 1
    have b2 := HB.out.cell 2
    by_cases hlt : j < n
    · obtain ⟨b, ad, rfl, hcr, htk⟩ := HP.out wr HW.out j hlt
      have HT := Lib.hid htk
      have hsz := HW.out.size
      clear htk
      go_wp2_with (at_builtin; refine wpList_append_own _ rfl (.tmp 38) (.tmp 47) 22 rfl w.heap.size 5 i0 (.int .u8 0) 1 1 Try.underlying22 hi hz0 hz1 hz2 rfl (by decide) _ _ _ rfl (HO.out.alloc _) ⟨_, 0, none⟩ 1 1 (byts [b]) rfl rfl (news1 _ _) (byts_one _) (by unfold maxLen; omega) (by omega) (by simp; omega) ?_; intro v' w2 hown' hgr _)
      have HS := push_on HO.out HW.out hown' hgr
      rw [← HT.out] at HS
      have HB2 := Lib.hid ((HB.out.alloc (.cells #[.int .u8 (b.toNat : Int)] 5)).frm (Frm.of_grown hgr) (own_blk_ne HO.out HB.out (by decide)))
      have HC2 := Lib.hid ((HC.out.alloc (.cells #[.int .u8 (b.toNat : Int)] 5)).frm (Frm.of_grown hgr) (own_blk_ne HO.out HC.out (by decide)))
      clear hown' hgr b0 b1 b2
      go_roundw
      case rel => exact ⟨j + 1, by omega, by go_num, HS.1, HS.2, HB2, HC2⟩
      case measure => simp [intOf]; omega
    · obtain rfl : j = n := by omega
      have d0 := HC.out.cell 0
      have d1 := HC.out.cell 1
      have d2 := HC.out.cell 2
      have e0 := HC.out.frozen 0
      have e1 := HC.out.frozen 1
      have e2 := HC.out.frozen 2
      have e3 := HB.out.frozen 1
      obtain ⟨V, cv, rfl⟩ := own_slice HO.out
      have HO2 : Hid (wr.ownsRow w.heap.size 5 1 (.slice V j cv) j (byts ps)) := by
        have h := HO.out
        rw [List.take_of_length_le (by have := HL.out; omega)] at h
        exact h
      go_wp2
      have hn1 := own_blk_ne HO2.out HB.out (by decide)
      have hn2 := own_blk_ne HO2.out HC.out (by decide)
      refine bodyPost_ret (v := .tuple #[.agg #[.slice A bs.length c, .int .i64 ((k : Int) + j), .bool false], .slice V j cv]) (by simp [results, Try.results43, go_sem, d0, d1, d2]) rfl (HF.out _ _ ?_ ?_)
      · exact ownsRow_setCell_other (ownsRow_setCell_other (ownsRow_setCell_other (ownsRow_setCell_other HO2.out hn1 _) hn2 _) hn2 _) hn2 _
      · exact (((HW.out.setCell (p := ⟨w.heap.size, 1, none⟩) (fun h => absurd h (Nat.lt_irrefl _)) _).setCell (p := ⟨w.heap.size + 1, 0, none⟩) (fun h => absurd h (by simp)) _).setCell (p := ⟨w.heap.size + 1, 1, none⟩) (fun h => absurd h (by simp)) _).setCell (p := ⟨w.heap.size + 1, 2, none⟩) (fun h => absurd h (by simp)) _

set_option maxRecDepth 100000 in
set_option maxHeartbeats 2000000 in
theorem ref_read_no (w : World) (A : Option Addr) (c k : Nat) (bs : List UInt8) (f : Bool) (hk : k ≤ bs.length) (hl : bs.length ≤ 131072) (n : Int) (hn : fits bs k f n = false) :
    Calls Try.prog 43 #[.agg #[.slice A bs.length c, .int .i64 (k : Int), .bool f], .int .i64 n] w (RRDone w A c k bs f n) := by
  have HF := Lib.hid (fun w' (hw : Frm No w w') => RRDone.no (A := A) (c := c) hn hw)
  by_cases h0 : n < 0
  · clear hn
    go_enter Try.func43, Try.ntmps43
    go_wp2
    refine bodyPost_ret (v := .tuple #[.agg #[.slice A bs.length c, .int .i64 (k : Int), .bool true], .slice none 0 0]) (by simp [results, Try.results43, go_sem]) rfl (HF.out _ ?_)
    exact ((Frm.refl No w).alloc _).alloc _
  · have h1 : ¬ n < 0 := h0
    cases f with
    | true =>
      clear hn
      go_enter Try.func43, Try.ntmps43
      go_wp2
      refine bodyPost_ret (v := .tuple #[.agg #[.slice A bs.length c, .int .i64 (k : Int), .bool true], .slice none 0 0]) (by simp [results, Try.results43, go_sem]) rfl (HF.out _ ?_)
      exact ((Frm.refl No w).alloc _).alloc _
    | false =>
      by_cases h2 : (bs.length : Int) < n
      · clear hn
        go_enter Try.func43, Try.ntmps43
        go_wp2
        refine bodyPost_ret (v := .tuple #[.agg #[.slice A bs.length c, .int .i64 (k : Int), .bool true], .slice none 0 0]) (by simp [results, Try.results43, go_sem]) rfl (HF.out _ ?_)
        exact ((Frm.refl No w).alloc _).alloc _
      · have h3 : (bs.length : Int) < k + n := by
          simp [fits] at hn
          omega
        clear hn
        go_enter Try.func43, Try.ntmps43
        go_wp2
        refine bodyPost_ret (v := .tuple #[.agg #[.slice A bs.length c, .int .i64 (k : Int), .bool true], .slice none 0 0]) (by simp [results, Try.results43, go_sem]) rfl (HF.out _ ?_)
        exact ((Frm.refl No w).alloc _).alloc _

theorem ref_read (w : World) (A : Option Addr) (c k : Nat) (bs : List UInt8) (f : Bool) (h : Src w A c bs) (hk : k ≤ bs.length) (hl : bs.length ≤ 131072) (n : Int) :
    Calls Try.prog 43 #[.agg #[.slice A bs.length c, .int .i64 (k : Int), .bool f], .int .i64 n] w (RRDone w A c k bs f n) := by
  cases hf : fits bs k f n with
  | false => exact ref_read_no w A c k bs f hk hl n hf
  | true =>
    simp [fits] at hf
    obtain ⟨⟨rfl, h0⟩, h1⟩ := hf
    obtain ⟨m, rfl⟩ := Int.eq_ofNat_of_zero_le h0
    exact ref_read_ok w A c k bs h hl m (by omega)
end Go.Proofs.Ytgpnnnjhcjjnmaa
