/-
  What texts are read: ReadPrefix.
-/
import Derived.Test.YtknmnlbgjpbgiaaDoorC9
namespace Go.Proofs.YtknmnlbgjpbgiaaDoor
open Go.RowKit
open Go.Lib (decDigits)
attribute [local go_sem] undef

theorem read_no (l : List UInt8) (w : World) (hs : l.length ≤ 9223372036854775807) (h : readOf l = none) : Calls Tryd.prog 21 #[.string ⟨l.toArray⟩] w fun e w' => e = .returned (.tuple #[.int .u32 0, .int .i64 30]) ∧ Frm No w w' := by
  refine (read_any l w hs).mono ?_
  rintro e w' ⟨he, hw⟩
  unfold readV at he
  rw [h] at he
  exact ⟨he, hw⟩
theorem read_yes (l : List UInt8) (w : World) (hs : l.length ≤ 9223372036854775807) {a : Nat} (h : readOf l = some a) : Calls Tryd.prog 21 #[.string ⟨l.toArray⟩] w fun e w' => e = .returned (.tuple #[.int .u32 (a : Int), .int .i64 0]) ∧ Frm No w w' := by
  refine (read_any l w hs).mono ?_
  rintro e w' ⟨he, hw⟩
  unfold readV at he
  rw [h] at he
  exact ⟨he, hw⟩

/-- The prefix whose text l is. -/
def pfxOf (l : List UInt8) : Option (Nat × Nat) :=
  match readOf (cutB 47 l).1, numOf 255 (cutB 47 l).2.1 with
  | some a, some n => if rightB a n = true then some (a, n) else none
  | _, _ => none
def pfxV (l : List UInt8) : Value := match pfxOf l with
  | none => .tuple #[.agg #[.int .u32 0, .int .u8 0], .int .i64 30]
  | some (a, n) => .tuple #[.agg #[.int .u32 (a : Int), .int .u8 (n : Int)], .int .i64 0]

theorem blk_cells2 {w : World} {g t : Nat} {x y : Value} (h : Blk w g t #[x, y]) :
    w.cell? ⟨g, 0, none⟩ = some x ∧ w.cell? ⟨g, 1, none⟩ = some y ∧ w.frozen? ⟨g, 0, none⟩ = false ∧ w.frozen? ⟨g, 1, none⟩ = false :=
  ⟨h.cell 0, h.cell 1, h.frozen 0, h.frozen 1⟩

theorem set2 {w : World} {g t : Nat} {x y u v : Value} (h : Blk w g t #[x, y]) : Blk ((w.setCell ⟨g, 0, none⟩ u).setCell ⟨g, 1, none⟩ v) g t #[u, v] := (h.set_ 0 u).set_ 1 v
theorem Frm.set2 {w w' : World} {g : Nat} (h : Frm No w w') (hg : w.heap.size ≤ g) (u v : Value) : Frm No w ((w'.setCell ⟨g, 0, none⟩ u).setCell ⟨g, 1, none⟩ v) :=
  (h.setCell (p := ⟨g, 0, none⟩) (fun hx => absurd hx (by show ¬ g < _; omega)) u).setCell (p := ⟨g, 1, none⟩) (fun hx => absurd hx (by show ¬ g < _; omega)) v

def Pfx (l : List UInt8) (w : World) (e : Ending) (w' : World) : Prop := e = .returned (pfxV l) ∧ Frm No w w'
theorem Pfx.none {l : List UInt8} {w w' : World} (h : pfxOf l = none) (hf : Frm No w w') : Pfx l w (.returned (.tuple #[.agg #[.int .u32 0, .int .u8 0], .int .i64 30])) w' := by
  unfold Pfx pfxV
  rw [h]
  exact ⟨rfl, hf⟩
theorem Pfx.some {l : List UInt8} {w w' : World} {a n : Nat} (h : pfxOf l = some (a, n)) (hf : Frm No w w') : Pfx l w (.returned (.tuple #[.agg #[.int .u32 (a : Int), .int .u8 (n : Int)], .int .i64 0])) w' := by
  unfold Pfx pfxV
  rw [h]
  exact ⟨rfl, hf⟩

set_option maxRecDepth 100000 in
set_option maxHeartbeats 4000000 in
theorem rpfx_any (l : List UInt8) (w : World) (hs : l.length ≤ 9223372036854775807) : Calls Tryd.prog 24 #[.string ⟨l.toArray⟩] w (Pfx l w) := by
  obtain ⟨t, r, f, hc⟩ : ∃ t r f, cutB 47 l = (t, r, f) := ⟨_, _, _, rfl⟩
  have hsz := cut_sz' hc hs
  have CU := Lib.hid (fun W => cut_l l 47 W hs hc)
  have HC := Lib.hid hc
  clear hc
  cases hr : readOf t with
  | none =>
    have hp : pfxOf l = none := by unfold pfxOf; rw [HC.out]; simp only [hr]
    have HP := Lib.hid hp
    have RD := Lib.hid (fun W => read_no t W hsz.1 hr)
    clear hp hr
    cases hn : numOf 255 r with
    | none =>
      have NU := Lib.hid (fun W => num8_no r W hsz.2 hn)
      clear hn
      go_enter Tryd.func24, Tryd.ntmps24
      go_wp2_with fail
      refine (CU.out _).mono ?_
      rintro e w1 ⟨rfl, m, rfl⟩
      go_wp2_with fail
      refine (RD.out _).mono ?_
      rintro e w1 ⟨rfl, hf⟩
      have F1 := Lib.hid ((((Frm.refl No w).alloc _).drewN m).new0 hf)
      have BR := Lib.hid (((Blk.new w 24 #[.int .u32 0, .int .u8 0]).drewN m).frm hf (fun x => x))
      clear hf
      go_wp2_with fail
      refine (NU.out _).mono ?_
      rintro e w2 ⟨rfl, rfl⟩
      obtain ⟨r0, r1, r2, r3⟩ := blk_cells2 (BR.out.alloc (.cells #[.int .u32 0, .int .u8 0] 24))
      have BZ := Lib.hid (set2 (u := .int .u32 0) (v := .int .u8 0) (BR.out.alloc (.cells #[.int .u32 0, .int .u8 0] 24)))
      go_wp2
      have z0 := BZ.out.cell 0
      have z1 := BZ.out.cell 1
      refine bodyPost_ret (v := .tuple #[.agg #[.int .u32 0, .int .u8 0], .int .i64 30]) (by simp [results, Tryd.results24, go_sem, z0, z1]) rfl (Pfx.none HP.out ?_)
      exact (F1.out.alloc _).set2 (Nat.le_refl _) _ _
    | some n =>
      have NU := Lib.hid (fun W => num8_yes r W hsz.2 hn)
      clear hn
      go_enter Tryd.func24, Tryd.ntmps24
      go_wp2_with fail
      refine (CU.out _).mono ?_
      rintro e w1 ⟨rfl, m, rfl⟩
      go_wp2_with fail
      refine (RD.out _).mono ?_
      rintro e w1 ⟨rfl, hf⟩
      have F1 := Lib.hid ((((Frm.refl No w).alloc _).drewN m).new0 hf)
      have BR := Lib.hid (((Blk.new w 24 #[.int .u32 0, .int .u8 0]).drewN m).frm hf (fun x => x))
      clear hf
      go_wp2_with fail
      refine (NU.out _).mono ?_
      rintro e w2 ⟨rfl, rfl⟩
      obtain ⟨r0, r1, r2, r3⟩ := blk_cells2 (BR.out.alloc (.cells #[.int .u32 0, .int .u8 (n : Int)] 24))
      have BZ := Lib.hid (set2 (u := .int .u32 0) (v := .int .u8 0) (BR.out.alloc (.cells #[.int .u32 0, .int .u8 (n : Int)] 24)))
      go_wp2
      have z0 := BZ.out.cell 0
      have z1 := BZ.out.cell 1
      refine bodyPost_ret (v := .tuple #[.agg #[.int .u32 0, .int .u8 0], .int .i64 30]) (by simp [results, Tryd.results24, go_sem, z0, z1]) rfl (Pfx.none HP.out ?_)
      exact (F1.out.alloc _).set2 (Nat.le_refl _) _ _
  | some a =>
    have RD := Lib.hid (fun W => read_yes t W hsz.1 hr)
    cases hn : numOf 255 r with
    | none =>
      have hp : pfxOf l = none := by unfold pfxOf; rw [HC.out]; simp only [hr, hn]
      have HP := Lib.hid hp
      have NU := Lib.hid (fun W => num8_no r W hsz.2 hn)
      clear hn hp hr
      go_enter Tryd.func24, Tryd.ntmps24
      go_wp2_with fail
      refine (CU.out _).mono ?_
      rintro e w1 ⟨rfl, m, rfl⟩
      go_wp2_with fail
      refine (RD.out _).mono ?_
      rintro e w1 ⟨rfl, hf⟩
      have F1 := Lib.hid ((((Frm.refl No w).alloc _).drewN m).new0 hf)
      have BR := Lib.hid (((Blk.new w 24 #[.int .u32 0, .int .u8 0]).drewN m).frm hf (fun x => x))
      clear hf
      go_wp2_with fail
      refine (NU.out _).mono ?_
      rintro e w2 ⟨rfl, rfl⟩
      obtain ⟨r0, r1, r2, r3⟩ := blk_cells2 (BR.out.alloc (.cells #[.int .u32 (a : Int), .int .u8 0] 24))
      have BZ := Lib.hid (set2 (u := .int .u32 0) (v := .int .u8 0) (BR.out.alloc (.cells #[.int .u32 (a : Int), .int .u8 0] 24)))
      go_wp2
      have z0 := BZ.out.cell 0
      have z1 := BZ.out.cell 1
      refine bodyPost_ret (v := .tuple #[.agg #[.int .u32 0, .int .u8 0], .int .i64 30]) (by simp [results, Tryd.results24, go_sem, z0, z1]) rfl (Pfx.none HP.out ?_)
      exact (F1.out.alloc _).set2 (Nat.le_refl _) _ _
    | some n =>
      have NU := Lib.hid (fun W => num8_yes r W hsz.2 hn)
      have ha := (read_inv t a hr).2
      have hn2 := (numOf_inv 255 r n hn).2
      have RI := Lib.hid (fun W => right_pfx W a n ha (by omega))
      by_cases hb : rightB a n = true
      · have hp : pfxOf l = some (a, n) := by unfold pfxOf; rw [HC.out]; simp only [hr, hn]; rw [if_pos hb]
        have HP := Lib.hid hp
        rw [hb] at RI
        clear hn hp hr hb
        go_enter Tryd.func24, Tryd.ntmps24
        go_wp2_with fail
        refine (CU.out _).mono ?_
        rintro e w1 ⟨rfl, m, rfl⟩
        go_wp2_with fail
        refine (RD.out _).mono ?_
        rintro e w1 ⟨rfl, hf⟩
        have F1 := Lib.hid ((((Frm.refl No w).alloc _).drewN m).new0 hf)
        have BR := Lib.hid (((Blk.new w 24 #[.int .u32 0, .int .u8 0]).drewN m).frm hf (fun x => x))
        clear hf
        go_wp2_with fail
        refine (NU.out _).mono ?_
        rintro e w2 ⟨rfl, rfl⟩
        have BP := Lib.hid (Blk.new w1 24 #[.int .u32 (a : Int), .int .u8 (n : Int)])
        obtain ⟨r0, r1, r2, r3⟩ := blk_cells2 (BR.out.alloc (.cells #[.int .u32 (a : Int), .int .u8 (n : Int)] 24))
        have BA := Lib.hid (BR.out.alloc (.cells #[.int .u32 (a : Int), .int .u8 (n : Int)] 24))
        go_wp2_with fail
        refine (RI.out _).mono ?_
        rintro e w2 ⟨rfl, hf⟩
        have F2 := Lib.hid ((F1.out.alloc _).new0 hf)
        obtain ⟨s0, s1, s2, s3⟩ := blk_cells2 (BA.out.frm hf (fun x => x))
        obtain ⟨p0, p1, _, _⟩ := blk_cells2 (BP.out.frm hf (fun x => x))
        have BZ := Lib.hid (set2 (u := .int .u32 (a : Int)) (v := .int .u8 (n : Int)) (BA.out.frm hf (fun x => x)))
        clear hf
        go_wp2
        have z0 := BZ.out.cell 0
        have z1 := BZ.out.cell 1
        refine bodyPost_ret (v := .tuple #[.agg #[.int .u32 (a : Int), .int .u8 (n : Int)], .int .i64 0]) (by simp [results, Tryd.results24, go_sem, z0, z1]) rfl (Pfx.some HP.out ?_)
        exact F2.out.set2 (Nat.le_refl _) _ _
      · have hp : pfxOf l = none := by unfold pfxOf; rw [HC.out]; simp only [hr, hn]; rw [if_neg hb]
        have HP := Lib.hid hp
        have hb' : rightB a n = false := by simpa using hb
        rw [hb'] at RI
        clear hn hp hr hb hb'
        go_enter Tryd.func24, Tryd.ntmps24
        go_wp2_with fail
        refine (CU.out _).mono ?_
        rintro e w1 ⟨rfl, m, rfl⟩
        go_wp2_with fail
        refine (RD.out _).mono ?_
        rintro e w1 ⟨rfl, hf⟩
        have F1 := Lib.hid ((((Frm.refl No w).alloc _).drewN m).new0 hf)
        have BR := Lib.hid (((Blk.new w 24 #[.int .u32 0, .int .u8 0]).drewN m).frm hf (fun x => x))
        clear hf
        go_wp2_with fail
        refine (NU.out _).mono ?_
        rintro e w2 ⟨rfl, rfl⟩
        have BP := Lib.hid (Blk.new w1 24 #[.int .u32 (a : Int), .int .u8 (n : Int)])
        obtain ⟨r0, r1, r2, r3⟩ := blk_cells2 (BR.out.alloc (.cells #[.int .u32 (a : Int), .int .u8 (n : Int)] 24))
        have BA := Lib.hid (BR.out.alloc (.cells #[.int .u32 (a : Int), .int .u8 (n : Int)] 24))
        go_wp2_with fail
        refine (RI.out _).mono ?_
        rintro e w2 ⟨rfl, hf⟩
        have F2 := Lib.hid ((F1.out.alloc _).new0 hf)
        obtain ⟨s0, s1, s2, s3⟩ := blk_cells2 (BA.out.frm hf (fun x => x))
        obtain ⟨p0, p1, _, _⟩ := blk_cells2 (BP.out.frm hf (fun x => x))
        have BZ := Lib.hid (set2 (u := .int .u32 0) (v := .int .u8 0) (BA.out.frm hf (fun x => x)))
        clear hf
        go_wp2
        have z0 := BZ.out.cell 0
        have z1 := BZ.out.cell 1
        refine bodyPost_ret (v := .tuple #[.agg #[.int .u32 0, .int .u8 0], .int .i64 30]) (by simp [results, Tryd.results24, go_sem, z0, z1]) rfl (Pfx.none HP.out ?_)
        exact F2.out.set2 (Nat.le_refl _) _ _
end Go.Proofs.YtknmnlbgjpbgiaaDoor
