/-
  Prefixes beside one another: Inside, Meet; Cut.
-/
import Derived.Test.YtknmnlbgjpbgiaaDoorC4
namespace Go.Proofs.YtknmnlbgjpbgiaaDoor
open Go.RowKit

theorem box2_cells {w : World} {a n b m : Nat} : ∀ W, Frm No ((w.alloc (.cells #[.int .u32 (a : Int), .int .u8 (n : Int)] 24)).alloc (.cells #[.int .u32 (b : Int), .int .u8 (m : Int)] 24)) W →
    (W.cell? ⟨w.heap.size, 0, none⟩ = some (.int .u32 (a : Int)) ∧ W.cell? ⟨w.heap.size, 1, none⟩ = some (.int .u8 (n : Int))) ∧ W.cell? ⟨w.heap.size + 1, 0, none⟩ = some (.int .u32 (b : Int)) ∧ W.cell? ⟨w.heap.size + 1, 1, none⟩ = some (.int .u8 (m : Int)) := by
  intro W hW
  refine ⟨box_cells W (((Frm.refl No _).alloc _).new0 hW), ?_⟩
  have hb : Blk ((w.alloc (.cells #[.int .u32 (a : Int), .int .u8 (n : Int)] 24)).alloc (.cells #[.int .u32 (b : Int), .int .u8 (m : Int)] 24)) (w.heap.size + 1) 24 #[.int .u32 (b : Int), .int .u8 (m : Int)] := by
    have := Blk.new (w.alloc (.cells #[.int .u32 (a : Int), .int .u8 (n : Int)] 24)) 24 #[.int .u32 (b : Int), .int .u8 (m : Int)]
    simpa using this
  have h2 := hb.frm hW (fun x => x)
  exact ⟨h2.cell 0, h2.cell 1⟩

def insideB (a n b m : Nat) : Bool := rightB a n && decide (m ≤ n) && hasB b m a
def meetB (a n b m : Nat) : Bool := insideB a n b m || insideB b m a n

set_option maxRecDepth 100000 in
set_option maxHeartbeats 1000000 in
theorem inside_pfx (w : World) (a n b m : Nat) (ha : a < 4294967296) (hn : n < 256) (hb : b < 4294967296) (hm : m < 256) :
    Calls Tryd.prog 20 #[.agg #[.int .u32 (a : Int), .int .u8 (n : Int)], .agg #[.int .u32 (b : Int), .int .u8 (m : Int)]] w (BoolNo (insideB a n b m) w) := by
  have HR := Lib.hid (fun W => right_pfx W a n ha hn)
  have HH := Lib.hid (fun W => has_pfx W b m a hb hm ha)
  by_cases h : rightB a n = true
  · by_cases h1 : m ≤ n
    · have hr : insideB a n b m = hasB b m a := by unfold insideB; simp [h, h1]
      rw [hr]
      have q : (m : Int) ≤ n := by omega
      rw [h] at HR
      obtain ⟨x, hx⟩ : ∃ x, hasB b m a = x := ⟨_, rfl⟩
      rw [hx] at HH ⊢
      clear hr h hx h1
      go_enter Tryd.func20, Tryd.ntmps20
      go_wp2_with fail
      refine (HR.out _).mono ?_
      rintro e w1 ⟨rfl, hf⟩
      have F1 := Lib.hid hf
      have c0 := (box2_cells w1 hf).1.1
      have c1 := (box2_cells w1 hf).1.2
      have c2 := (box2_cells w1 hf).2.1
      have c3 := (box2_cells w1 hf).2.2
      clear hf
      go_wp2_with fail
      refine (HH.out _).mono ?_
      rintro e w2 ⟨rfl, hf⟩
      have F2 := Lib.hid hf
      clear hf
      go_wp2
      go_ret
      exact ⟨rfl, ((((Frm.refl No w).alloc _).alloc _).new0 F1.out).new0 F2.out⟩
    · have hr : insideB a n b m = false := by unfold insideB; simp [h1]
      rw [hr]
      have q : ¬ (m : Int) ≤ n := by omega
      rw [h] at HR
      clear hr h h1
      go_enter Tryd.func20, Tryd.ntmps20
      go_wp2_with fail
      refine (HR.out _).mono ?_
      rintro e w1 ⟨rfl, hf⟩
      have F1 := Lib.hid hf
      have c0 := (box2_cells w1 hf).1.1
      have c1 := (box2_cells w1 hf).1.2
      have c2 := (box2_cells w1 hf).2.1
      have c3 := (box2_cells w1 hf).2.2
      clear hf
      go_wp2
      go_ret
      exact ⟨rfl, (((Frm.refl No w).alloc _).alloc _).new0 F1.out⟩
  · have h' : rightB a n = false := by simpa using h
    have hr : insideB a n b m = false := by unfold insideB; simp [h']
    rw [hr]
    rw [h'] at HR
    clear hr h h'
    go_enter Tryd.func20, Tryd.ntmps20
    go_wp2_with fail
    refine (HR.out _).mono ?_
    rintro e w1 ⟨rfl, hf⟩
    have F1 := Lib.hid hf
    clear hf
    go_wp2
    go_ret
    exact ⟨rfl, (((Frm.refl No w).alloc _).alloc _).new0 F1.out⟩

set_option maxRecDepth 100000 in
set_option maxHeartbeats 1000000 in
theorem meet_pfx (w : World) (a n b m : Nat) (ha : a < 4294967296) (hn : n < 256) (hb : b < 4294967296) (hm : m < 256) :
    Calls Tryd.prog 29 #[.agg #[.int .u32 (a : Int), .int .u8 (n : Int)], .agg #[.int .u32 (b : Int), .int .u8 (m : Int)]] w (BoolNo (meetB a n b m) w) := by
  have H1 := Lib.hid (fun W => inside_pfx W a n b m ha hn hb hm)
  have H2 := Lib.hid (fun W => inside_pfx W b m a n hb hm ha hn)
  by_cases h : insideB a n b m = true
  · have hr : meetB a n b m = true := by unfold meetB; simp [h]
    rw [hr]
    rw [h] at H1
    clear hr h
    go_enter Tryd.func29, Tryd.ntmps29
    go_wp2_with fail
    refine (H1.out _).mono ?_
    rintro e w1 ⟨rfl, hf⟩
    have F1 := Lib.hid hf
    clear hf
    go_wp2
    go_ret
    exact ⟨rfl, (((Frm.refl No w).alloc _).alloc _).new0 F1.out⟩
  · have h' : insideB a n b m = false := by simpa using h
    have hr : meetB a n b m = insideB b m a n := by unfold meetB; simp [h']
    rw [hr]
    rw [h'] at H1
    obtain ⟨x, hx⟩ : ∃ x, insideB b m a n = x := ⟨_, rfl⟩
    rw [hx] at H2 ⊢
    clear hr h h' hx
    go_enter Tryd.func29, Tryd.ntmps29
    go_wp2_with fail
    refine (H1.out _).mono ?_
    rintro e w1 ⟨rfl, hf⟩
    have F1 := Lib.hid hf
    have c0 := (box2_cells w1 hf).1.1
    have c1 := (box2_cells w1 hf).1.2
    have c2 := (box2_cells w1 hf).2.1
    have c3 := (box2_cells w1 hf).2.2
    clear hf
    go_wp2_with fail
    refine (H2.out _).mono ?_
    rintro e w2 ⟨rfl, hf⟩
    have F2 := Lib.hid hf
    clear hf
    go_wp2
    go_ret
    exact ⟨rfl, ((((Frm.refl No w).alloc _).alloc _).new0 F1.out).new0 F2.out⟩

def cutV (a n : Nat) : Value := if n ≤ 32 then .tuple #[.agg #[.int .u32 (cutN a n : Int), .int .u8 (n : Int)], .int .i64 0] else .tuple #[.agg #[.int .u32 0, .int .u8 0], .int .i64 2]

set_option maxRecDepth 100000 in
set_option maxHeartbeats 1000000 in
theorem cut_pfx (w : World) (a n : Nat) (ha : a < 4294967296) (hn : n < 256) : Calls Tryd.prog 19 #[.int .u32 (a : Int), .int .u8 (n : Int)] w (RetNo (cutV a n) w) := by
  have HM := Lib.hid (fun W => mask_any W n hn)
  have hb := f_and a n ha
  by_cases h : n ≤ 32
  · have hv : cutV a n = .tuple #[.agg #[.int .u32 (cutN a n : Int), .int .u8 (n : Int)], .int .i64 0] := by unfold cutV; rw [if_pos h]
    rw [hv]
    have q : (n : Int) ≤ 32 := by omega
    clear hv h
    go_enter Tryd.func19, Tryd.ntmps19
    go_wp2_with fail
    refine (HM.out _).mono ?_
    rintro e w1 ⟨rfl, rfl⟩
    go_wp2
    exact bodyPost_ret (v := .tuple #[.agg #[.int .u32 (cutN a n : Int), .int .u8 (n : Int)], .int .i64 0]) (by simp [results, Tryd.results19, go_sem]) rfl ⟨rfl, (Frm.refl No w).alloc _⟩
  · have hv : cutV a n = .tuple #[.agg #[.int .u32 0, .int .u8 0], .int .i64 2] := by unfold cutV; rw [if_neg h]
    rw [hv]
    have q : ¬ (n : Int) ≤ 32 := by omega
    clear hv h
    go_enter Tryd.func19, Tryd.ntmps19
    go_wp2
    exact bodyPost_ret (v := .tuple #[.agg #[.int .u32 0, .int .u8 0], .int .i64 2]) (by simp [results, Tryd.results19, go_sem]) rfl ⟨rfl, (Frm.refl No w).alloc _⟩
end Go.Proofs.YtknmnlbgjpbgiaaDoor
