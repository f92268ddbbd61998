/-
  Masks and prefixes: Mask, Right, Has, Bounds, Inside, Meet, Cut.
-/
import Derived.Test.YtknmnlbgjpbgiaaDoorBase
import Derived.Test.YtknmnlbgjpbgiaaDoorD2
import Derived.Test.YtknmnlbgjpbgiaaDoorProg
import Derived.Lib.Walk
import Derived.BigQuiet
import Derived.Deep.QuietTactic
import Derived.Outline
namespace Go.Proofs.YtknmnlbgjpbgiaaDoor
open Go.RowKit

theorem quietS {P : Program} {f : FuncId} {args : Array Value} {w : World} {n : Nat} {v : Value}
    (h : Calls P f args (w.drewN n) fun e w' => e = .returned v ∧ w.drewN n = w') : Calls P f args (w.drewN n) fun e w'' => e = .returned v ∧ ∃ m, w'' = w.drewN m :=
  h.mono fun _ _ ⟨he, hm⟩ => ⟨he, n, hm.symm⟩

/-- The mask of length n, and what it leaves of an address, as whole numbers. -/
def msk (n : Nat) : Nat := 4294967296 - sz n
def low (a n : Nat) : Nat := a % sz n
def cutN (a n : Nat) : Nat := a - a % sz n
def top (a n : Nat) : Nat := a + sz n - 1
def inv (n : Nat) : Nat := sz n - 1

def rightB (a n : Nat) : Bool := decide (n ≤ 32 ∧ a % sz n = 0)

theorem ret_int {k : IntKind} {a b : Int} (h : a = b) : Ending.returned (.int k a) = .returned (.int k b) := by rw [h]
theorem ret_bool {a b : Bool} (h : a = b) : Ending.returned (.bool a) = .returned (.bool b) := by rw [h]

theorem mask_int (n : Nat) : (4294967295 : Int) * 2 ^ (32 - min (n : Int) 32).toNat % 4294967296 = (msk n : Int) := by
  have hm := mask_shl (32 - n) (by omega)
  rw [show (32 - min (n : Int) 32).toNat = 32 - n by omega]
  have e : (4294967295 : Int) * 2 ^ (32 - n) % 4294967296 = ((4294967295 * 2 ^ (32 - n) % 4294967296 : Nat) : Int) := by
    simp
  rw [e, hm]
  rfl

set_option maxRecDepth 100000 in
set_option maxHeartbeats 1000000 in
theorem mask_any (w : World) (n : Nat) (hn : n < 256) : Calls Tryd.prog 43 #[.int .u8 (n : Int)] w fun e w' => e = .returned (.int .u32 (msk n : Int)) ∧ w = w' := by
  have hm := Lib.hid (mask_int n)
  by_cases h : n ≤ 32
  · have h1 : (n : Int) ≤ 32 := by omega
    go_enter Tryd.func43, Tryd.ntmps43
    go_wp2
    go_ret
    exact ⟨ret_int hm.out, rfl⟩
  · have h1 : ¬ (n : Int) ≤ 32 := by omega
    go_enter Tryd.func43, Tryd.ntmps43
    go_wp2
    go_ret
    exact ⟨ret_int hm.out, rfl⟩

theorem f_and (a n : Nat) (ha : a < 4294967296) : bits .and .u32 (a : Int) (msk n : Int) = (cutN a n : Int) := bits_and a n ha
theorem f_andNot (a n : Nat) (ha : a < 4294967296) : bits .andNot .u32 (a : Int) (msk n : Int) = (low a n : Int) := bits_andNot a n ha
theorem f_not (n : Nat) : bits .xor .u32 IntKind.u32.max (msk n : Int) = (inv n : Int) := bits_not n
theorem f_or (a n : Nat) (ha : a < 4294967296) (h0 : a % sz n = 0) : bits .or .u32 (a : Int) (inv n : Int) = (top a n : Int) := bits_or a n ha h0

def BoolNo (b : Bool) (w : World) (e : Ending) (w' : World) : Prop := e = .returned (.bool b) ∧ Frm No w w'

set_option maxRecDepth 100000 in
set_option maxHeartbeats 1000000 in
theorem right_pfx (w : World) (a n : Nat) (ha : a < 4294967296) (hn : n < 256) : Calls Tryd.prog 17 #[.agg #[.int .u32 (a : Int), .int .u8 (n : Int)]] w (BoolNo (rightB a n) w) := by
  have hb := f_andNot a n ha
  have HM := Lib.hid (fun W => mask_any W n hn)
  by_cases h : n ≤ 32
  · have h1 : (n : Int) ≤ 32 := by omega
    have hd : decide ((n : Int) ≤ 32) = true := decide_eq_true h1
    have hr : rightB a n = decide (low a n = 0) := by
      unfold rightB low
      simp [h]
    rw [hr]
    clear hr
    by_cases h0 : low a n = 0
    · rw [decide_eq_true h0]
      have q : ((low a n : Int) == 0) = true := by rw [h0]; rfl
      have H0 := Lib.hid h0
      clear h0
      go_enter Tryd.func17, Tryd.ntmps17
      go_wp2
      go_quiet ((go_at_call 43; exact quietS (HM.out _)))
      go_wp2
      go_ret
      exact ⟨rfl, ((Frm.refl No w).alloc _).drewN _⟩
    · rw [decide_eq_false h0]
      have q : ((low a n : Int) == 0) = false := by simp; omega
      have q2 : ¬ (low a n : Int) = 0 := by omega
      clear h0
      go_enter Tryd.func17, Tryd.ntmps17
      go_wp2
      go_quiet ((go_at_call 43; exact quietS (HM.out _)))
      go_wp2
      go_ret
      exact ⟨rfl, ((Frm.refl No w).alloc _).drewN _⟩
  · have hr : rightB a n = false := by
      unfold rightB
      simp [h]
    rw [hr]
    have h1 : ¬ (n : Int) ≤ 32 := by omega
    have hd : decide ((n : Int) ≤ 32) = false := decide_eq_false h1
    go_enter Tryd.func17, Tryd.ntmps17
    go_wp2
    go_quiet (fail)
    go_wp2
    go_ret
    exact ⟨rfl, ((Frm.refl No w).alloc _).drewN _⟩

theorem region_class {P : Program} {id : Nat} {Q : Exit → Act → World → Prop} {a : Act} {w : World} {l : List Oper} (C : World → Prop) (hm : P.follows .mixedOrders = true) (hB : Region.lexB .any l.toArray = true) (hC : C w.drew)
    (h : wpQuiet P l.toArray C (fun a' => ∀ w', C w' → Q .normal a' w') l a) : (Code.region id l.toArray true).wp P Q a w :=
  wp_region_quiet (C := C) hm hB hC (by simpa using h)

theorem box_cells {w : World} {a n : Nat} : ∀ W, Frm No (w.alloc (.cells #[.int .u32 (a : Int), .int .u8 (n : Int)] 24)) W → W.cell? ⟨w.heap.size, 0, none⟩ = some (.int .u32 (a : Int)) ∧ W.cell? ⟨w.heap.size, 1, none⟩ = some (.int .u8 (n : Int)) := by
  intro W hW
  have hb : Blk (w.alloc (.cells #[.int .u32 (a : Int), .int .u8 (n : Int)] 24)) w.heap.size 24 #[.int .u32 (a : Int), .int .u8 (n : Int)] := Blk.new _ _ _
  have h2 := hb.frm hW (fun x => x)
  exact ⟨h2.cell 0, h2.cell 1⟩
theorem Frm.new0 {w w1 w2 : World} (h : Frm No w w1) (k : Frm No w1 w2) : Frm No w w2 := h.trans k (fun _ _ x => x)

def hasB (a n x : Nat) : Bool := rightB a n && decide (cutN x n = a)

set_option maxRecDepth 100000 in
set_option maxHeartbeats 1000000 in
theorem has_pfx (w : World) (a n x : Nat) (ha : a < 4294967296) (hn : n < 256) (hx : x < 4294967296) : Calls Tryd.prog 18 #[.agg #[.int .u32 (a : Int), .int .u8 (n : Int)], .int .u32 (x : Int)] w (BoolNo (hasB a n x) w) := by
  have hb := f_and x n hx
  have HM := Lib.hid (fun W => mask_any W n hn)
  have HR := Lib.hid (fun W => right_pfx W a n ha hn)
  have C0 := Lib.hid (box_cells (w := w) (a := a) (n := n))
  by_cases h : rightB a n = true
  · rw [h] at HR
    have hr : hasB a n x = decide (cutN x n = a) := by
      unfold hasB
      simp [h]
    rw [hr]
    clear hr h
    by_cases h0 : cutN x n = a
    · rw [decide_eq_true h0]
      have q : ((cutN x n : Int) == a) = true := by rw [h0]; simp
      have H0 := Lib.hid h0
      clear h0
      go_enter Tryd.func18, Tryd.ntmps18
      go_wp2
      refine region_class (fun W => Frm No (w.alloc (.cells #[.int .u32 (a : Int), .int .u8 (n : Int)] 24)) W) (by kernel_rfl) (by kernel_rfl) (Frm.refl No _).drew ?_
      repeat (refine wpQuiet_step (fun K hK => ?_); go_simp; first
        | (refine hK _ ?_; clear hK K)
        | (apply Exists.intro; refine ⟨fun W hW => ?_, hK _ ?_⟩; (first
            | rfl
            | ((have c0 := (C0.out W hW).1); (have c1 := (C0.out W hW).2); go_simp; rfl)
            | (refine (HR.out W).mono fun e w' he => ⟨he.1, hW.new0 he.2⟩)
            | (refine (HM.out W).mono fun e w' he => ⟨he.1, by rw [← he.2]; exact hW⟩)); clear hK K))
      refine wpQuiet_nil ?_
      intro W hW
      go_wp2
      go_ret
      exact ⟨rfl, ((Frm.refl No w).alloc _).new0 hW⟩
    · rw [decide_eq_false h0]
      have q : ((cutN x n : Int) == a) = false := by simp; omega
      have q2 : ¬ (cutN x n : Int) = a := by omega
      clear h0
      go_enter Tryd.func18, Tryd.ntmps18
      go_wp2
      refine region_class (fun W => Frm No (w.alloc (.cells #[.int .u32 (a : Int), .int .u8 (n : Int)] 24)) W) (by kernel_rfl) (by kernel_rfl) (Frm.refl No _).drew ?_
      repeat (refine wpQuiet_step (fun K hK => ?_); go_simp; first
        | (refine hK _ ?_; clear hK K)
        | (apply Exists.intro; refine ⟨fun W hW => ?_, hK _ ?_⟩; (first
            | rfl
            | ((have c0 := (C0.out W hW).1); (have c1 := (C0.out W hW).2); go_simp; rfl)
            | (refine (HR.out W).mono fun e w' he => ⟨he.1, hW.new0 he.2⟩)
            | (refine (HM.out W).mono fun e w' he => ⟨he.1, by rw [← he.2]; exact hW⟩)); clear hK K))
      refine wpQuiet_nil ?_
      intro W hW
      go_wp2
      go_ret
      exact ⟨rfl, ((Frm.refl No w).alloc _).new0 hW⟩
  · have h' : rightB a n = false := by simpa using h
    rw [h'] at HR
    have hr : hasB a n x = false := by
      unfold hasB
      simp [h']
    rw [hr]
    clear hr h h'
    go_enter Tryd.func18, Tryd.ntmps18
    go_wp2
    refine region_class (fun W => Frm No (w.alloc (.cells #[.int .u32 (a : Int), .int .u8 (n : Int)] 24)) W) (by kernel_rfl) (by kernel_rfl) (Frm.refl No _).drew ?_
    repeat (refine wpQuiet_step (fun K hK => ?_); go_simp; first
      | (refine hK _ ?_; clear hK K)
      | (apply Exists.intro; refine ⟨fun W hW => ?_, hK _ ?_⟩; (first
          | rfl
          | ((have c0 := (C0.out W hW).1); (have c1 := (C0.out W hW).2); go_simp; rfl)
          | (refine (HR.out W).mono fun e w' he => ⟨he.1, hW.new0 he.2⟩)
          | (refine (HM.out W).mono fun e w' he => ⟨he.1, by rw [← he.2]; exact hW⟩)); clear hK K))
    refine wpQuiet_nil ?_
    intro W hW
    go_wp2
    go_ret
    exact ⟨rfl, ((Frm.refl No w).alloc _).new0 hW⟩

/-- What Bounds answers. -/
def boundsV (a n : Nat) : Value := if rightB a n = true then .tuple #[.int .u32 (a : Int), .int .u32 (top a n : Int), .int .i64 0] else .tuple #[.int .u32 0, .int .u32 0, .int .i64 31]

theorem right_mod {a n : Nat} (h : rightB a n = true) : n ≤ 32 ∧ a % sz n = 0 := by
  unfold rightB at h
  simpa using h

def RetNo (v : Value) (w : World) (e : Ending) (w' : World) : Prop := e = .returned v ∧ Frm No w w'

set_option maxRecDepth 100000 in
set_option maxHeartbeats 1000000 in
theorem bounds_pfx (w : World) (a n : Nat) (ha : a < 4294967296) (hn : n < 256) : Calls Tryd.prog 16 #[.agg #[.int .u32 (a : Int), .int .u8 (n : Int)]] w (RetNo (boundsV a n) w) := by
  have HM := Lib.hid (fun W => mask_any W n hn)
  have HR := Lib.hid (fun W => right_pfx W a n ha hn)
  by_cases h : rightB a n = true
  · have hv : boundsV a n = .tuple #[.int .u32 (a : Int), .int .u32 (top a n : Int), .int .i64 0] := by unfold boundsV; rw [if_pos h]
    rw [hv]
    have hb := f_not n
    have ho := f_or a n ha (right_mod h).2
    rw [h] at HR
    clear hv h
    go_enter Tryd.func16, Tryd.ntmps16
    go_wp2_with fail
    refine (HR.out _).mono ?_
    rintro e w1 ⟨rfl, hf⟩
    have F1 := Lib.hid hf
    have c0 := (box_cells w1 hf).1
    have c1 := (box_cells w1 hf).2
    clear hf
    go_wp2
    go_quiet ((go_at_call 43; exact quietS (HM.out _)))
    go_wp2
    go_ret3
    exact ⟨rfl, (((Frm.refl No w).alloc _).new0 F1.out).drewN _⟩
  · have h' : rightB a n = false := by simpa using h
    have hv : boundsV a n = .tuple #[.int .u32 0, .int .u32 0, .int .i64 31] := by unfold boundsV; rw [if_neg h]
    rw [hv]
    rw [h'] at HR
    clear hv h h'
    go_enter Tryd.func16, Tryd.ntmps16
    go_wp2_with fail
    refine (HR.out _).mono ?_
    rintro e w1 ⟨rfl, hf⟩
    have F1 := Lib.hid hf
    clear hf
    go_wp2
    go_ret3
    exact ⟨rfl, ((Frm.refl No w).alloc _).new0 F1.out⟩

end Go.Proofs.YtknmnlbgjpbgiaaDoor
