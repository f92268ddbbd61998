/-
  What texts are read: ReadRange.
-/
import Derived.Test.YtknmnlbgjpbgiaaDoorC11
namespace Go.Proofs.YtknmnlbgjpbgiaaDoor
open Go.RowKit
open Go.Lib (decDigits)
attribute [local go_sem] undef
attribute [local irreducible] wpList wpQuiet

/-- The range whose text l is. -/
def rngOf (l : List UInt8) : Option (Nat × Nat) :=
  if l = [42] then some (0, 65535) else
  match numOf 65535 (cutB 45 l).1 with
  | none => none
  | some f => if (cutB 45 l).2.2 = true then
      match numOf 65535 (cutB 45 l).2.1 with
      | none => none
      | some t => if f < t ∧ ¬ (f = 0 ∧ t = 65535) then some (f, t) else none
    else some (f, f)

def RngEnds (l : List UInt8) (w : World) (e : Ending) (w' : World) : Prop :=
  (match rngOf l with
    | none => e = .returned (.tuple #[.agg #[.int .u16 0, .int .u16 0], .int .i64 30])
    | some (f, t) => e = .returned (.tuple #[.agg #[.int .u16 (f : Int), .int .u16 (t : Int)], .int .i64 0])) ∧ Frm No w w'
theorem RngEnds.none {l : List UInt8} {w w' : World} (h : rngOf l = none) (hf : Frm No w w') : RngEnds l w (.returned (.tuple #[.agg #[.int .u16 0, .int .u16 0], .int .i64 30])) w' := by
  unfold RngEnds
  rw [h]
  exact ⟨rfl, hf⟩
theorem RngEnds.some {l : List UInt8} {w w' : World} {f t : Nat} (h : rngOf l = some (f, t)) (hf : Frm No w w') : RngEnds l w (.returned (.tuple #[.agg #[.int .u16 (f : Int), .int .u16 (t : Int)], .int .i64 0])) w' := by
  unfold RngEnds
  rw [h]
  exact ⟨rfl, hf⟩

set_option maxRecDepth 100000 in
set_option maxHeartbeats 2000000 in
theorem rrng_star (w : World) : Calls Tryd.prog 28 #[.string ⟨#[42]⟩] w (RngEnds [42] w) := by
  have HE := Lib.hid every_any
  go_enter Tryd.func28, Tryd.ntmps28
  go_wp2_with fail
  refine (HE.out _).mono ?_
  rintro e w1 ⟨rfl, hf⟩
  have F1 := Lib.hid (((Frm.refl No w).alloc _).new0 hf)
  have BR := Lib.hid ((Blk.new w 29 #[.int .u16 0, .int .u16 0]).frm hf (fun x => x))
  clear hf
  obtain ⟨r0, r1, r2, r3⟩ := blk_cells2 BR.out
  have BZ := Lib.hid (set2 (u := .int .u16 0) (v := .int .u16 65535) BR.out)
  go_wp2
  have z0 := BZ.out.cell 0
  have z1 := BZ.out.cell 1
  refine bodyPost_ret (v := .tuple #[.agg #[.int .u16 0, .int .u16 65535], .int .i64 0]) (by simp [results, Tryd.results28, go_sem, z0, z1]) rfl (RngEnds.some (f := 0) (t := 65535) rfl ?_)
  exact F1.out.set2 (Nat.le_refl _) _ _

theorem rng2_cells {w : World} {m : Nat} {o : Obj} {x y : Int} : ∀ W, Frm No (((w.alloc o).drewN m).alloc (.cells #[.int .u16 x, .int .u16 y] 29)) W → W.cell? ⟨w.heap.size + 1, 0, none⟩ = some (.int .u16 x) ∧ W.cell? ⟨w.heap.size + 1, 1, none⟩ = some (.int .u16 y) := by
  intro W hW
  have hb : Blk (((w.alloc o).drewN m).alloc (.cells #[.int .u16 x, .int .u16 y] 29)) (w.heap.size + 1) 29 #[.int .u16 x, .int .u16 y] := by
    have := Blk.new ((w.alloc o).drewN m) 29 #[.int .u16 x, .int .u16 y]
    simpa using this
  have h2 := hb.frm hW (fun x => x)
  exact ⟨h2.cell 0, h2.cell 1⟩

set_option maxRecDepth 100000 in
set_option maxHeartbeats 8000000 in
theorem rrng_any (l : List UInt8) (w : World) (hs : l.length ≤ 9223372036854775807) (h42 : l ≠ [42]) : Calls Tryd.prog 28 #[.string ⟨l.toArray⟩] w (RngEnds l w) := by
  obtain ⟨t, r, f, hc⟩ : ∃ t r f, cutB 45 l = (t, r, f) := ⟨_, _, _, rfl⟩
  have hsz := cut_sz' hc hs
  have CU := Lib.hid (fun W => cut_l l 45 W hs hc)
  have e1 : (l == [42]) = false := by simpa using h42
  have hrng : rngOf l = match numOf 65535 t with
    | none => none
    | some x => if f = true then (match numOf 65535 r with
      | none => none
      | some y => if x < y ∧ ¬ (x = 0 ∧ y = 65535) then some (x, y) else none) else some (x, x) := by
    unfold rngOf
    rw [if_neg h42, hc]
  clear hc h42
  have HG := Lib.hid hrng
  clear hrng
  cases f with
  | false =>
    cases hn : numOf 65535 t with
    | none =>
      have HP := Lib.hid (show rngOf l = none by rw [HG.out, hn])
      have NU := Lib.hid (fun W => num16_no t W hsz.1 hn)
      clear hn HG
      go_enter Tryd.func28, Tryd.ntmps28
      go_wp2_with fail
      refine (CU.out _).mono ?_
      rintro e w1 ⟨rfl, m, rfl⟩
      go_wp2_with fail
      refine (NU.out _).mono ?_
      rintro e w1 ⟨rfl, rfl⟩
      go_wp2_with fail
      refine bodyPost_ret (v := .tuple #[.agg #[.int .u16 0, .int .u16 0], .int .i64 30]) (by simp [results, Tryd.results28, go_sem]) rfl (RngEnds.none HP.out ?_)
      repeat (first | exact Frm.refl _ _ | apply Frm.drewN | apply Frm.alloc)
      exact (((Frm.refl No w).alloc _).drewN m).set2 (Nat.le_refl _) _ _
    | some x =>
      have HP := Lib.hid (show rngOf l = some (x, x) by rw [HG.out, hn]; rfl)
      have NU := Lib.hid (fun W => num16_yes t W hsz.1 hn)
      clear hn HG
      go_enter Tryd.func28, Tryd.ntmps28
      go_wp2_with fail
      refine (CU.out _).mono ?_
      rintro e w1 ⟨rfl, m, rfl⟩
      go_wp2_with fail
      refine (NU.out _).mono ?_
      rintro e w1 ⟨rfl, rfl⟩
      go_wp2_with fail
      refine bodyPost_ret (v := .tuple #[.agg #[.int .u16 (x : Int), .int .u16 (x : Int)], .int .i64 0]) (by simp [results, Tryd.results28, go_sem]) rfl (RngEnds.some HP.out ?_)
      repeat (first | exact Frm.refl _ _ | apply Frm.drewN | apply Frm.alloc)
      exact (((Frm.refl No w).alloc _).drewN m).set2 (Nat.le_refl _) _ _
  | true =>
    cases hn : numOf 65535 t with
    | none =>
      have HP := Lib.hid (show rngOf l = none by rw [HG.out, hn])
      have NU := Lib.hid (fun W => num16_no t W hsz.1 hn)
      cases hm : numOf 65535 r with
      | none =>
        have NV := Lib.hid (fun W => num16_no r W hsz.2 hm)
        clear hn HG hm
        go_enter Tryd.func28, Tryd.ntmps28
        go_wp2_with fail
        refine (CU.out _).mono ?_
        rintro e w1 ⟨rfl, m, rfl⟩
        go_wp2_with fail
        refine (NU.out _).mono ?_
        rintro e w1 ⟨rfl, rfl⟩
        go_wp2_with fail
        refine (NV.out _).mono ?_
        rintro e w1 ⟨rfl, rfl⟩
        go_wp2_with fail
        refine region_no (by kernel_rfl) (by kernel_rfl) ?_
        repeat (refine wpQuiet_step (fun K hK => ?_); go_simp; first
            | (refine hK _ ?_; clear hK K)
            | (apply Exists.intro; refine ⟨fun W hW => ?_, hK _ ?_⟩; rfl; clear hK K))
        refine wpQuiet_nil ?_
        intro W hf
        have BR := Lib.hid ((((Blk.new w 29 #[.int .u16 0, .int .u16 0]).drewN m).alloc (.cells #[.int .u16 0, .int .u16 0] 29)).frm hf (fun x => x))
        have FW := Lib.hid (((((Frm.refl No w).alloc _).drewN m).alloc (.cells #[.int .u16 0, .int .u16 0] 29)).new0 hf)
        obtain ⟨r0, r1, r2, r3⟩ := blk_cells2 BR.out
        have BZ := Lib.hid (set2 (u := .int .u16 0) (v := .int .u16 0) BR.out)
        clear hf
        go_wp2
        have z0 := BZ.out.cell 0
        have z1 := BZ.out.cell 1
        refine bodyPost_ret (v := .tuple #[.agg #[.int .u16 0, .int .u16 0], .int .i64 30]) (by simp [results, Tryd.results28, go_sem, z0, z1]) rfl (RngEnds.none HP.out ?_)
        exact FW.out.set2 (Nat.le_refl _) _ _
      | some y =>
        have NV := Lib.hid (fun W => num16_yes r W hsz.2 hm)
        clear hn HG hm
        go_enter Tryd.func28, Tryd.ntmps28
        go_wp2_with fail
        refine (CU.out _).mono ?_
        rintro e w1 ⟨rfl, m, rfl⟩
        go_wp2_with fail
        refine (NU.out _).mono ?_
        rintro e w1 ⟨rfl, rfl⟩
        go_wp2_with fail
        refine (NV.out _).mono ?_
        rintro e w1 ⟨rfl, rfl⟩
        go_wp2_with fail
        refine region_no (by kernel_rfl) (by kernel_rfl) ?_
        repeat (refine wpQuiet_step (fun K hK => ?_); go_simp; first
            | (refine hK _ ?_; clear hK K)
            | (apply Exists.intro; refine ⟨fun W hW => ?_, hK _ ?_⟩; rfl; clear hK K))
        refine wpQuiet_nil ?_
        intro W hf
        have BR := Lib.hid ((((Blk.new w 29 #[.int .u16 0, .int .u16 0]).drewN m).alloc (.cells #[.int .u16 0, .int .u16 (y : Int)] 29)).frm hf (fun x => x))
        have FW := Lib.hid (((((Frm.refl No w).alloc _).drewN m).alloc (.cells #[.int .u16 0, .int .u16 (y : Int)] 29)).new0 hf)
        obtain ⟨r0, r1, r2, r3⟩ := blk_cells2 BR.out
        have BZ := Lib.hid (set2 (u := .int .u16 0) (v := .int .u16 0) BR.out)
        clear hf
        go_wp2
        have z0 := BZ.out.cell 0
        have z1 := BZ.out.cell 1
        refine bodyPost_ret (v := .tuple #[.agg #[.int .u16 0, .int .u16 0], .int .i64 30]) (by simp [results, Tryd.results28, go_sem, z0, z1]) rfl (RngEnds.none HP.out ?_)
        exact FW.out.set2 (Nat.le_refl _) _ _
    | some x =>
      have NU := Lib.hid (fun W => num16_yes t W hsz.1 hn)
      cases hm : numOf 65535 r with
      | none =>
        have HP := Lib.hid (show rngOf l = none by rw [HG.out, hn, hm]; rfl)
        have NV := Lib.hid (fun W => num16_no r W hsz.2 hm)
        clear hn HG hm
        go_enter Tryd.func28, Tryd.ntmps28
        go_wp2_with fail
        refine (CU.out _).mono ?_
        rintro e w1 ⟨rfl, m, rfl⟩
        go_wp2_with fail
        refine (NU.out _).mono ?_
        rintro e w1 ⟨rfl, rfl⟩
        go_wp2_with fail
        refine (NV.out _).mono ?_
        rintro e w1 ⟨rfl, rfl⟩
        go_wp2_with fail
        refine region_no (by kernel_rfl) (by kernel_rfl) ?_
        repeat (refine wpQuiet_step (fun K hK => ?_); go_simp; first
            | (refine hK _ ?_; clear hK K)
            | (apply Exists.intro; refine ⟨fun W hW => ?_, hK _ ?_⟩; rfl; clear hK K))
        refine wpQuiet_nil ?_
        intro W hf
        have BR := Lib.hid ((((Blk.new w 29 #[.int .u16 0, .int .u16 0]).drewN m).alloc (.cells #[.int .u16 (x : Int), .int .u16 0] 29)).frm hf (fun x => x))
        have FW := Lib.hid (((((Frm.refl No w).alloc _).drewN m).alloc (.cells #[.int .u16 (x : Int), .int .u16 0] 29)).new0 hf)
        obtain ⟨r0, r1, r2, r3⟩ := blk_cells2 BR.out
        have BZ := Lib.hid (set2 (u := .int .u16 0) (v := .int .u16 0) BR.out)
        clear hf
        go_wp2
        have z0 := BZ.out.cell 0
        have z1 := BZ.out.cell 1
        refine bodyPost_ret (v := .tuple #[.agg #[.int .u16 0, .int .u16 0], .int .i64 30]) (by simp [results, Tryd.results28, go_sem, z0, z1]) rfl (RngEnds.none HP.out ?_)
        exact FW.out.set2 (Nat.le_refl _) _ _
      | some y =>
        have NV := Lib.hid (fun W => num16_yes r W hsz.2 hm)
        have HE := Lib.hid every_any
        have hr : rngOf l = if x < y ∧ ¬ (x = 0 ∧ y = 65535) then some (x, y) else none := by rw [HG.out, hn, hm]; rfl
        by_cases hlt : x < y
        · have q : (x : Int) < y := by omega
          have C0 := Lib.hid (fun (m : Nat) W (hW : Frm No (((w.alloc (.cells #[.int .u16 0, .int .u16 0] 29)).drewN m).alloc (.cells #[.int .u16 (x : Int), .int .u16 (y : Int)] 29)) W) => rng2_cells W hW)
          by_cases hall : x = 0 ∧ y = 65535
          · have HP := Lib.hid (show rngOf l = none by rw [hr, if_neg (fun h => h.2 hall)])
            obtain ⟨rfl, rfl⟩ := hall
            clear hn HG hm hr hlt
            go_enter Tryd.func28, Tryd.ntmps28
            go_wp2_with fail
            refine (CU.out _).mono ?_
            rintro e w1 ⟨rfl, m, rfl⟩
            go_wp2_with fail
            refine (NU.out _).mono ?_
            rintro e w1 ⟨rfl, rfl⟩
            go_wp2_with fail
            refine (NV.out _).mono ?_
            rintro e w1 ⟨rfl, rfl⟩
            go_wp2_with fail
            refine region_no (by kernel_rfl) (by kernel_rfl) ?_
            repeat (refine wpQuiet_step (fun K hK => ?_); go_simp; first
                | (refine hK _ ?_; clear hK K)
                | (apply Exists.intro; refine ⟨fun W hW => ?_, hK _ ?_⟩; (first | rfl | ((obtain ⟨c0, c1⟩ := C0.out m W hW); go_simp; rfl)); clear hK K))
            refine wpQuiet_step (fun K hK => ?_)
            go_simp
            apply Exists.intro
            refine ⟨fun W hW => (HE.out W).mono fun e w' he => ⟨he.1, hW.new0 he.2⟩, hK _ ?_⟩
            clear hK K
            repeat (refine wpQuiet_step (fun K hK => ?_); go_simp; first
                | (refine hK _ ?_; clear hK K)
                | (apply Exists.intro; refine ⟨fun W hW => ?_, hK _ ?_⟩; (first | rfl | ((obtain ⟨c0, c1⟩ := C0.out m W hW); go_simp; rfl)); clear hK K))
            refine wpQuiet_nil ?_
            intro W hf
            have BR := Lib.hid ((((Blk.new w 29 #[.int .u16 0, .int .u16 0]).drewN m).alloc (.cells #[.int .u16 ((0 : Nat) : Int), .int .u16 ((65535 : Nat) : Int)] 29)).frm hf (fun x => x))
            have FW := Lib.hid (((((Frm.refl No w).alloc _).drewN m).alloc (.cells #[.int .u16 ((0 : Nat) : Int), .int .u16 ((65535 : Nat) : Int)] 29)).new0 hf)
            obtain ⟨r0, r1, r2, r3⟩ := blk_cells2 BR.out
            have BZ := Lib.hid (set2 (u := .int .u16 0) (v := .int .u16 0) BR.out)
            clear hf
            go_wp2
            have z0 := BZ.out.cell 0
            have z1 := BZ.out.cell 1
            refine bodyPost_ret (v := .tuple #[.agg #[.int .u16 0, .int .u16 0], .int .i64 30]) (by simp [results, Tryd.results28, go_sem, z0, z1]) rfl (RngEnds.none HP.out ?_)
            exact FW.out.set2 (Nat.le_refl _) _ _
          · have HP := Lib.hid (show rngOf l = some (x, y) by rw [hr, if_pos ⟨hlt, hall⟩])
            have e0 : ((x : Int) == 0) = true ∧ ((y : Int) == 65535) = false ∨ ((x : Int) == 0) = false := by
              by_cases h0 : x = 0
              · subst h0
                refine .inl ⟨rfl, ?_⟩
                simp
                omega
              · right
                simp
                omega
            clear hn HG hm hr hlt hall
            rcases e0 with ⟨e2, e3⟩ | e2
            all_goals
              go_enter Tryd.func28, Tryd.ntmps28
              go_wp2_with fail
              refine (CU.out _).mono ?_
              rintro e w1 ⟨rfl, m, rfl⟩
              go_wp2_with fail
              refine (NU.out _).mono ?_
              rintro e w1 ⟨rfl, rfl⟩
              go_wp2_with fail
              refine (NV.out _).mono ?_
              rintro e w1 ⟨rfl, rfl⟩
              go_wp2_with fail
              refine region_no (by kernel_rfl) (by kernel_rfl) ?_
              repeat (refine wpQuiet_step (fun K hK => ?_); go_simp; first
                  | (refine hK _ ?_; clear hK K)
                  | (apply Exists.intro; refine ⟨fun W hW => ?_, hK _ ?_⟩; (first | rfl | ((obtain ⟨c0, c1⟩ := C0.out m W hW); go_simp; rfl)); clear hK K))
              refine wpQuiet_step (fun K hK => ?_)
              go_simp
              apply Exists.intro
              refine ⟨fun W hW => (HE.out W).mono fun e w' he => ⟨he.1, hW.new0 he.2⟩, hK _ ?_⟩
              clear hK K
              repeat (refine wpQuiet_step (fun K hK => ?_); go_simp; first
                  | (refine hK _ ?_; clear hK K)
                  | (apply Exists.intro; refine ⟨fun W hW => ?_, hK _ ?_⟩; (first | rfl | ((obtain ⟨c0, c1⟩ := C0.out m W hW); go_simp; rfl)); clear hK K))
              refine wpQuiet_nil ?_
              intro W hf
              have BR := Lib.hid ((((Blk.new w 29 #[.int .u16 0, .int .u16 0]).drewN m).alloc (.cells #[.int .u16 (x : Int), .int .u16 (y : Int)] 29)).frm hf (fun x => x))
              have FW := Lib.hid (((((Frm.refl No w).alloc _).drewN m).alloc (.cells #[.int .u16 (x : Int), .int .u16 (y : Int)] 29)).new0 hf)
              obtain ⟨r0, r1, r2, r3⟩ := blk_cells2 BR.out
              obtain ⟨p0, p1⟩ := C0.out m W hf
              have BZ := Lib.hid (set2 (u := .int .u16 (x : Int)) (v := .int .u16 (y : Int)) BR.out)
              clear hf
              go_wp2
              have z0 := BZ.out.cell 0
              have z1 := BZ.out.cell 1
              refine bodyPost_ret (v := .tuple #[.agg #[.int .u16 (x : Int), .int .u16 (y : Int)], .int .i64 0]) (by simp [results, Tryd.results28, go_sem, z0, z1]) rfl (RngEnds.some HP.out ?_)
              exact FW.out.set2 (Nat.le_refl _) _ _
        · have q : ¬ (x : Int) < y := by omega
          have qd : decide (x < y) = false := decide_eq_false hlt
          have HP := Lib.hid (show rngOf l = none by rw [hr, if_neg (fun h => hlt h.1)])
          clear hn HG hm hr hlt
          go_enter Tryd.func28, Tryd.ntmps28
          go_wp2_with fail
          refine (CU.out _).mono ?_
          rintro e w1 ⟨rfl, m, rfl⟩
          go_wp2_with fail
          refine (NU.out _).mono ?_
          rintro e w1 ⟨rfl, rfl⟩
          go_wp2_with fail
          refine (NV.out _).mono ?_
          rintro e w1 ⟨rfl, rfl⟩
          go_wp2_with fail
          refine region_no (by kernel_rfl) (by kernel_rfl) ?_
          repeat (refine wpQuiet_step (fun K hK => ?_); go_simp; first
              | (refine hK _ ?_; clear hK K)
              | (apply Exists.intro; refine ⟨fun W hW => ?_, hK _ ?_⟩; rfl; clear hK K))
          refine wpQuiet_nil ?_
          intro W hf
          have BR := Lib.hid ((((Blk.new w 29 #[.int .u16 0, .int .u16 0]).drewN m).alloc (.cells #[.int .u16 (x : Int), .int .u16 (y : Int)] 29)).frm hf (fun x => x))
          have FW := Lib.hid (((((Frm.refl No w).alloc _).drewN m).alloc (.cells #[.int .u16 (x : Int), .int .u16 (y : Int)] 29)).new0 hf)
          obtain ⟨r0, r1, r2, r3⟩ := blk_cells2 BR.out
          have BZ := Lib.hid (set2 (u := .int .u16 0) (v := .int .u16 0) BR.out)
          clear hf
          go_wp2
          have z0 := BZ.out.cell 0
          have z1 := BZ.out.cell 1
          refine bodyPost_ret (v := .tuple #[.agg #[.int .u16 0, .int .u16 0], .int .i64 30]) (by simp [results, Tryd.results28, go_sem, z0, z1]) rfl (RngEnds.none HP.out ?_)
          exact FW.out.set2 (Nat.le_refl _) _ _
end Go.Proofs.YtknmnlbgjpbgiaaDoor
