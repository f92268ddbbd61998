/-
  WireReads' texts in one.
-/
import Derived.Test.YtgpnnnjhcjjnmaaRf
import Derived.Test.YtgpnnnjhcjjnmaaH1
import Derived.Test.YtgpnnnjhcjjnmaaZ1
import Derived.Laws.OwnMore
import Derived.Test.YtgpnnnjhcjjnmaaBase
import Derived.Test.YtgpnnnjhcjjnmaaRows
import Derived.Laws.MakeOwn
import Derived.LoopN
import Derived.Test.YtgpnnnjhcjjnmaaMk
import Derived.Deep.DeepAppendRoom
import Derived.Test.YtgpnnnjhcjjnmaaStill
import Derived.Test.YtgpnnnjhcjjnmaaL2
import Derived.Deep.QuietTactic
import Derived.BigQuiet
import Derived.Deep.CutRange
import Derived.Deep.CutBlock
import Derived.Test.YtgpnnnjhcjjnmaaOw
import Derived.Test.YtgpnnnjhcjjnmaaRn
import Derived.Test.YtgpnnnjhcjjnmaaM1
import Derived.Test.YtgpnnnjhcjjnmaaK1
import Derived.Test.YtgpnnnjhcjjnmaaL3
import Derived.BigRegion
import Derived.IntWalk
import Derived.Deep.Cut
import Derived.Deep.RegionHeld3
import Derived.Deep.RegionLaw
import Derived.Test.YtgpnnnjhcjjnmaaA1

/- Er -/
namespace Go.Proofs.Ytgpnnnjhcjjnmaa
open Go.RowKit

def Row (w : World) (base g n c : Nat) (bs : List UInt8) : Prop := w.ownsRow base 5 1 (.slice (some ⟨g, 0, none⟩) n c) n (byts bs)

theorem Row.len {w : World} {base g n c : Nat} {bs : List UInt8} (h : Row w base g n c bs) : bs.length = n := by
  have := h.1
  rw [byts_len] at this
  omega
theorem Row.cap {w : World} {base g n c : Nat} {bs : List UInt8} (h : Row w base g n c bs) : n ≤ c ∧ base ≤ g ∧ g < w.heap.size := by
  have h2 := (World.ownsRow.lt h g rfl)
  rcases h.2 with ⟨h', _⟩ | ⟨g', cap', cur, h', _, hg, hc, _⟩
  · simp at h'
  · simp only [Value.slice.injEq, Option.some.injEq, Addr.mk.injEq, and_true, true_and] at h'
    obtain ⟨_, rfl⟩ := h'
    exact ⟨hc, h2.1, h2.2⟩
theorem Row.rds {w : World} {base g n c : Nat} {bs : List UInt8} (h : Row w base g n c bs) : Rds w (some ⟨g, 0, none⟩) bs := Rds.of_own h
theorem Row.set {w : World} {base g n c : Nat} {bs : List UInt8} (h : Row w base g n c bs) (j : Nat) (b : UInt8) (u : Value) (hu : u = byt b) : Row (w.setCell ⟨g, j, none⟩ u) base g n c (bs.set j b) := by
  have := (World.ownsRow.stored h j u).1
  unfold Row
  subst hu
  rwa [show byts (bs.set j b) = (byts bs).set j (byt b) from by simp [byts]]
theorem Row.cell {w : World} {base g n c : Nat} {bs : List UInt8} (h : Row w base g n c bs) (j : Nat) (hj : j < bs.length) : w.cell? ⟨g, j, none⟩ = some (byt bs[j]) := by
  have hl := h.len
  rw [World.ownsRow.cellAt h j (by omega)]
  simp [byts, hj]
theorem Row.frozen {w : World} {base g n c : Nat} {bs : List UInt8} (h : Row w base g n c bs) (j : Nat) : w.frozen? ⟨g, j, none⟩ = false := World.ownsRow.frozenAt h j
theorem Row.frm {S : Nat → Prop} {w w' : World} {base g n c : Nat} {bs : List UInt8} (h : Row w base g n c bs) (hf : Frm S w w') (hS : ¬ S g) : Row w' base g n c bs :=
  hf.own h (fun k hk => by have : some g = some k := hk; injection this with this; subst this; exact hS)

theorem step_append_bytes {ops : Array Oper} {o : Oper} {a : Act} {w : World} {K : Act → World → Prop} {Q : Exit → Act → World → Prop} {E : Prop} (hgd : o.guard = none) (s x : Operand)
    (ho : o.op = .call { callee := .builtin .append, args := #[s, x], argTypes := #[22, 22] })
    (base : Nat) (v : Value) (n : Nat) (xs : List UInt8) (hs : a.eval s = v) (hown : w.ownsRow base 5 1 v n (byts xs))
    (A : Option Addr) (m c : Nat) (ys : List UInt8) (hx : a.eval x = .slice A m c) (hm : ys.length = m) (hr : Rds w A ys) (hnil : A = none → c = 0)
    (hbytes : n + m ≤ 140737488355328) (hbase : base ≤ w.heap.size)
    (h : ∀ v' w', w'.ownsRow base 5 1 v' (n + m) (byts (xs ++ ys)) → w.grownBy w' v.ownBlock → K (a.put o.dst v') w') :
    if Region.wanted o (yielded ops a.tmps) = true then Oper.wp Try.prog o a w K Q else E := by
  obtain ⟨i0, hi, hz0, hz1, hz2⟩ := info_parts info5
  cases A with
  | some ad =>
    refine step_append_own hgd s x 22 ho base 5 i0 (.int .u8 0) 1 1 Try.underlying22 hi hz0 hz1 hz2 rfl (by decide) v n (byts xs) hs hown ad m c (byts ys) hx (by rw [byts_len]; omega) hr.news (byts_one _) (by unfold maxLen; omega) (by omega) hbase ?_
    intro v' w' h1 h2 _
    refine h v' w' ?_ h2
    rwa [show byts (xs ++ ys) = byts xs ++ byts ys from by simp [byts]]
  | none =>
    have hy : ys = [] := by
      rcases Nat.eq_zero_or_pos ys.length with h0 | h0
      · exact List.eq_nil_of_length_eq_zero h0
      · obtain ⟨ad, h1, _⟩ := hr h0
        cases h1
    subst hy
    obtain rfl : m = 0 := hm.symm
    obtain rfl := hnil rfl
    have hw : Region.wanted o (yielded ops a.tmps) = true := by simp [Region.wanted, hgd]
    rw [if_pos hw]
    have hrun := run_append_owned_none (P := Try.prog) (w := w) base 22 o.type 5 i0 1 Try.underlying22 hi v n (byts xs) hown
    unfold Oper.wp execOp
    simp only [ho, resolve, invoke, builtin, Sem.run_bind, Sem.run_pure, Result.andThen_ok, List.map_toArray, List.map_cons, List.map_nil, hs, hx, hrun]
    exact h v w (by simpa using hown) ⟨rfl, rfl, rfl, Nat.le_refl _, fun _ _ _ => rfl⟩

theorem row_made (w : World) (base k : Nat) (xs : List UInt8) (hk : xs.length = k) (hb : base ≤ w.heap.size) (h4 : k ≤ 140737488355328) :
    (w.alloc (.cells (byts xs).toArray 5)).ownsRow base 5 1 (.slice (some ⟨w.heap.size, 0, none⟩) k k) k (byts xs) := by
  subst hk
  exact ⟨by simp [byts], .inr ⟨w.heap.size, xs.length, (byts xs).toArray, rfl, hb, heap_alloc_new w _, Nat.le_refl _, by unfold maxLen; omega, by simp [byts], by rw [List.take_of_length_le (by simp [byts])]⟩⟩

theorem Row.of_own {w : World} {base n : Nat} {v : Value} {bs : List UInt8} (h : w.ownsRow base 5 1 v n (byts bs)) (hn : 0 < n) : ∃ g c, v = .slice (some ⟨g, 0, none⟩) n c ∧ Row w base g n c bs := by
  rcases h.2 with ⟨_, h0⟩ | ⟨g, cap, cur, rfl, _⟩
  · omega
  · exact ⟨g, cap, rfl, h⟩
end Go.Proofs.Ytgpnnnjhcjjnmaa

/- E1 -/
namespace Go.Proofs.Ytgpnnnjhcjjnmaa
open Go.RowKit

theorem make_none (t e : TypeId) (ht : Try.prog.underlying t = some (.slice e)) (hi : (Try.prog.info? e).map (fun i => (i.zero, i.size, i.bytes)) = some (some (.slice none 0 0), 1, 24)) (w : World) :
    (Instr.makeSlice t (.int .i64 0) (.int .i64 0)).run Try.prog w = .ok (.slice (some ⟨w.heap.size, 0, none⟩) 0 0) (w.alloc (.cells #[] e)) := by
  obtain ⟨i0, hi, hz0, hz1, hz2⟩ := info_parts hi
  have h := run_make (P := Try.prog) w t e i0 (.slice none 0 0) ht hi hz0 .i64 .i64 0 0 (by omega) (by omega) (by rw [hz2]; omega) (by omega)
  have e0 : madeCells (Value.slice none 0 0).cells (Int.toNat 0 * 1) = #[] := by simp [madeCells]
  rw [hz1, e0] at h
  exact h

set_option maxRecDepth 100000 in
set_option maxHeartbeats 1000000 in
theorem flat84_nil (w : World) : Calls Try.prog 84 #[.slice none 0 0] w fun e w' => e = .returned (.bool true) ∧ Frm No w w' := by
  have hmk := make_none 111 28 Try.underlying111 (by kernel_rfl)
  go_enter Try.func84, Try.ntmps84
  go_wp2_with fail
  refine wp_loop_rounds 1 ?_
  rw [rounds_succ]
  go_wp2_with fail
  refine wp_loop_rounds 1 ?_
  rw [rounds_succ]
  go_wp2_with fail
  refine wp_loop_rounds 1 ?_
  rw [rounds_succ]
  go_wp2_with fail
  refine wp_loop_rounds 1 ?_
  rw [rounds_succ]
  go_wp2_with fail
  refine wp_loop_rounds 1 ?_
  rw [rounds_succ]
  go_wp2
  go_ret
  exact ⟨rfl, (Frm.refl No w).alloc _⟩

set_option maxRecDepth 100000 in
set_option maxHeartbeats 1000000 in
theorem flat85_nil (w : World) : Calls Try.prog 85 #[.slice none 0 0] w fun e w' => e = .returned (.bool true) ∧ Frm No w w' := by
  have hmk := make_none 112 71 Try.underlying112 (by kernel_rfl)
  go_enter Try.func85, Try.ntmps85
  go_wp2_with fail
  refine wp_loop_rounds 1 ?_
  rw [rounds_succ]
  go_wp2_with fail
  refine wp_loop_rounds 1 ?_
  rw [rounds_succ]
  go_wp2_with fail
  refine wp_loop_rounds 1 ?_
  rw [rounds_succ]
  go_wp2_with fail
  refine wp_loop_rounds 1 ?_
  rw [rounds_succ]
  go_wp2_with fail
  refine wp_loop_rounds 1 ?_
  rw [rounds_succ]
  go_wp2
  go_ret
  exact ⟨rfl, (Frm.refl No w).alloc _⟩

set_option maxRecDepth 100000 in
set_option maxHeartbeats 1000000 in
theorem flat87_nil (w : World) : Calls Try.prog 87 #[.slice none 0 0] w fun e w' => e = .returned (.bool true) ∧ Frm No w w' := by
  have hmk := make_none 113 149 Try.underlying113 (by kernel_rfl)
  go_enter Try.func87, Try.ntmps87
  go_wp2_with fail
  refine wp_loop_rounds 1 ?_
  rw [rounds_succ]
  go_wp2_with fail
  refine wp_loop_rounds 1 ?_
  rw [rounds_succ]
  go_wp2_with fail
  refine wp_loop_rounds 1 ?_
  rw [rounds_succ]
  go_wp2_with fail
  refine wp_loop_rounds 1 ?_
  rw [rounds_succ]
  go_wp2_with fail
  refine wp_loop_rounds 1 ?_
  rw [rounds_succ]
  go_wp2
  go_ret
  exact ⟨rfl, (Frm.refl No w).alloc _⟩

set_option maxRecDepth 100000 in
set_option maxHeartbeats 1000000 in
theorem flat88_nil (w : World) : Calls Try.prog 88 #[.slice none 0 0] w fun e w' => e = .returned (.bool true) ∧ Frm No w w' := by
  have hmk := make_none 114 151 Try.underlying114 (by kernel_rfl)
  go_enter Try.func88, Try.ntmps88
  go_wp2_with fail
  refine wp_loop_rounds 1 ?_
  rw [rounds_succ]
  go_wp2_with fail
  refine wp_loop_rounds 1 ?_
  rw [rounds_succ]
  go_wp2_with fail
  refine wp_loop_rounds 1 ?_
  rw [rounds_succ]
  go_wp2_with fail
  refine wp_loop_rounds 1 ?_
  rw [rounds_succ]
  go_wp2_with fail
  refine wp_loop_rounds 1 ?_
  rw [rounds_succ]
  go_wp2
  go_ret
  exact ⟨rfl, (Frm.refl No w).alloc _⟩

set_option maxRecDepth 100000 in
set_option maxHeartbeats 1000000 in
theorem flat89_nil (w : World) : Calls Try.prog 89 #[.slice none 0 0] w fun e w' => e = .returned (.bool true) ∧ Frm No w w' := by
  have hmk := make_none 115 155 Try.underlying115 (by kernel_rfl)
  go_enter Try.func89, Try.ntmps89
  go_wp2_with fail
  refine wp_loop_rounds 1 ?_
  rw [rounds_succ]
  go_wp2_with fail
  refine wp_loop_rounds 1 ?_
  rw [rounds_succ]
  go_wp2_with fail
  refine wp_loop_rounds 1 ?_
  rw [rounds_succ]
  go_wp2_with fail
  refine wp_loop_rounds 1 ?_
  rw [rounds_succ]
  go_wp2_with fail
  refine wp_loop_rounds 1 ?_
  rw [rounds_succ]
  go_wp2
  go_ret
  exact ⟨rfl, (Frm.refl No w).alloc _⟩

set_option maxRecDepth 100000 in
set_option maxHeartbeats 1000000 in
theorem flat90_nil (w : World) : Calls Try.prog 90 #[.slice none 0 0] w fun e w' => e = .returned (.bool true) ∧ Frm No w w' := by
  have hmk := make_none 116 159 Try.underlying116 (by kernel_rfl)
  go_enter Try.func90, Try.ntmps90
  go_wp2_with fail
  refine wp_loop_rounds 1 ?_
  rw [rounds_succ]
  go_wp2_with fail
  refine wp_loop_rounds 1 ?_
  rw [rounds_succ]
  go_wp2_with fail
  refine wp_loop_rounds 1 ?_
  rw [rounds_succ]
  go_wp2_with fail
  refine wp_loop_rounds 1 ?_
  rw [rounds_succ]
  go_wp2_with fail
  refine wp_loop_rounds 1 ?_
  rw [rounds_succ]
  go_wp2
  go_ret
  exact ⟨rfl, (Frm.refl No w).alloc _⟩

set_option maxRecDepth 100000 in
set_option maxHeartbeats 1000000 in
theorem flat91_nil (w : World) : Calls Try.prog 91 #[.slice none 0 0] w fun e w' => e = .returned (.bool true) ∧ Frm No w w' := by
  have hmk := make_none 117 163 Try.underlying117 (by kernel_rfl)
  go_enter Try.func91, Try.ntmps91
  go_wp2_with fail
  refine wp_loop_rounds 1 ?_
  rw [rounds_succ]
  go_wp2_with fail
  refine wp_loop_rounds 1 ?_
  rw [rounds_succ]
  go_wp2_with fail
  refine wp_loop_rounds 1 ?_
  rw [rounds_succ]
  go_wp2_with fail
  refine wp_loop_rounds 1 ?_
  rw [rounds_succ]
  go_wp2_with fail
  refine wp_loop_rounds 1 ?_
  rw [rounds_succ]
  go_wp2
  go_ret
  exact ⟨rfl, (Frm.refl No w).alloc _⟩

set_option maxRecDepth 100000 in
set_option maxHeartbeats 1000000 in
theorem flat92_nil (w : World) : Calls Try.prog 92 #[.slice none 0 0] w fun e w' => e = .returned (.bool true) ∧ Frm No w w' := by
  have hmk := make_none 118 167 Try.underlying118 (by kernel_rfl)
  go_enter Try.func92, Try.ntmps92
  go_wp2_with fail
  refine wp_loop_rounds 1 ?_
  rw [rounds_succ]
  go_wp2_with fail
  refine wp_loop_rounds 1 ?_
  rw [rounds_succ]
  go_wp2_with fail
  refine wp_loop_rounds 1 ?_
  rw [rounds_succ]
  go_wp2_with fail
  refine wp_loop_rounds 1 ?_
  rw [rounds_succ]
  go_wp2_with fail
  refine wp_loop_rounds 1 ?_
  rw [rounds_succ]
  go_wp2
  go_ret
  exact ⟨rfl, (Frm.refl No w).alloc _⟩

set_option maxRecDepth 100000 in
set_option maxHeartbeats 1000000 in
theorem flat93_nil (w : World) : Calls Try.prog 93 #[.slice none 0 0] w fun e w' => e = .returned (.bool true) ∧ Frm No w w' := by
  have hmk := make_none 119 111 Try.underlying119 (by kernel_rfl)
  go_enter Try.func93, Try.ntmps93
  go_wp2_with fail
  refine wp_loop_rounds 1 ?_
  rw [rounds_succ]
  go_wp2_with fail
  refine wp_loop_rounds 1 ?_
  rw [rounds_succ]
  go_wp2_with fail
  refine wp_loop_rounds 1 ?_
  rw [rounds_succ]
  go_wp2_with fail
  refine wp_loop_rounds 1 ?_
  rw [rounds_succ]
  go_wp2_with fail
  refine wp_loop_rounds 1 ?_
  rw [rounds_succ]
  go_wp2
  go_ret
  exact ⟨rfl, (Frm.refl No w).alloc _⟩

set_option maxRecDepth 100000 in
set_option maxHeartbeats 1000000 in
theorem flat94_nil (w : World) : Calls Try.prog 94 #[.slice none 0 0] w fun e w' => e = .returned (.bool true) ∧ Frm No w w' := by
  have hmk := make_none 120 112 Try.underlying120 (by kernel_rfl)
  go_enter Try.func94, Try.ntmps94
  go_wp2_with fail
  refine wp_loop_rounds 1 ?_
  rw [rounds_succ]
  go_wp2_with fail
  refine wp_loop_rounds 1 ?_
  rw [rounds_succ]
  go_wp2_with fail
  refine wp_loop_rounds 1 ?_
  rw [rounds_succ]
  go_wp2_with fail
  refine wp_loop_rounds 1 ?_
  rw [rounds_succ]
  go_wp2_with fail
  refine wp_loop_rounds 1 ?_
  rw [rounds_succ]
  go_wp2
  go_ret
  exact ⟨rfl, (Frm.refl No w).alloc _⟩

set_option maxRecDepth 100000 in
set_option maxHeartbeats 1000000 in
theorem flat95_nil (w : World) : Calls Try.prog 95 #[.slice none 0 0] w fun e w' => e = .returned (.bool true) ∧ Frm No w w' := by
  have hmk := make_none 121 76 Try.underlying121 (by kernel_rfl)
  go_enter Try.func95, Try.ntmps95
  go_wp2_with fail
  refine wp_loop_rounds 1 ?_
  rw [rounds_succ]
  go_wp2_with fail
  refine wp_loop_rounds 1 ?_
  rw [rounds_succ]
  go_wp2_with fail
  refine wp_loop_rounds 1 ?_
  rw [rounds_succ]
  go_wp2_with fail
  refine wp_loop_rounds 1 ?_
  rw [rounds_succ]
  go_wp2_with fail
  refine wp_loop_rounds 1 ?_
  rw [rounds_succ]
  go_wp2
  go_ret
  exact ⟨rfl, (Frm.refl No w).alloc _⟩

set_option maxRecDepth 100000 in
set_option maxHeartbeats 1000000 in
theorem flat96_nil (w : World) : Calls Try.prog 96 #[.slice none 0 0] w fun e w' => e = .returned (.bool true) ∧ Frm No w w' := by
  have hmk := make_none 122 118 Try.underlying122 (by kernel_rfl)
  go_enter Try.func96, Try.ntmps96
  go_wp2_with fail
  refine wp_loop_rounds 1 ?_
  rw [rounds_succ]
  go_wp2_with fail
  refine wp_loop_rounds 1 ?_
  rw [rounds_succ]
  go_wp2_with fail
  refine wp_loop_rounds 1 ?_
  rw [rounds_succ]
  go_wp2_with fail
  refine wp_loop_rounds 1 ?_
  rw [rounds_succ]
  go_wp2_with fail
  refine wp_loop_rounds 1 ?_
  rw [rounds_succ]
  go_wp2
  go_ret
  exact ⟨rfl, (Frm.refl No w).alloc _⟩

end Go.Proofs.Ytgpnnnjhcjjnmaa

/- E2 -/
namespace Go.Proofs.Ytgpnnnjhcjjnmaa
open Go.RowKit

def bagOf (V : Value) : Array Value := #[.slice none 0 0, .slice none 0 0, V, .slice none 0 0, .slice none 0 0, .slice none 0 0, .slice none 0 0, .slice none 0 0, .slice none 0 0, .slice none 0 0, .slice none 0 0, .slice none 0 0, .slice none 0 0]

set_option maxRecDepth 100000 in
set_option maxHeartbeats 4000000 in
theorem apart_bag (w : World) (g : Nat) (A : Option Addr) (n c : Nat) (S : Nat → Prop) (hb : Blk w g 124 (bagOf (.slice A n c))) (hS : ¬ S g)
    (HF : ∀ W, Frm No w W → Calls Try.prog 86 #[.slice A n c] W fun e w' => e = .returned (.bool true) ∧ Frm S W w') :
    Calls Try.prog 74 #[.pointer (some ⟨g, 0, none⟩)] w fun e w' => e = .returned (.bool true) ∧ Frm S w w' := by
  have HF := Lib.hid HF
  have B0 := Lib.hid hb
  have F0 := Lib.hid (Frm.refl S w)
  have G0 := Lib.hid (Frm.refl No w)
  clear hb
  go_enter Try.func74, Try.ntmps74
  have c0 : w.cell? ⟨g, 0, none⟩ = some (.slice none 0 0) := (B0.out.cell 0).trans rfl
  go_wp2_with fail
  refine (flat84_nil w).mono ?_
  rintro e0 w1 ⟨rfl, hf⟩
  have B1 := Lib.hid (B0.out.frm hf (fun x => x))
  have G1 := Lib.hid (G0.out.trans hf (fun _ _ x => x))
  clear hf c0 B0 G0
  have c1 : w1.cell? ⟨g, 1, none⟩ = some (.slice none 0 0) := (B1.out.cell 1).trans rfl
  go_wp2_with fail
  refine (flat85_nil w1).mono ?_
  rintro e1 w2 ⟨rfl, hf⟩
  have B2 := Lib.hid (B1.out.frm hf (fun x => x))
  have G2 := Lib.hid (G1.out.trans hf (fun _ _ x => x))
  clear hf c1 B1 G1
  have c2 : w2.cell? ⟨g, 2, none⟩ = some (.slice A n c) := (B2.out.cell 2).trans rfl
  go_wp2_with fail
  refine (HF.out w2 G2.out).mono ?_
  rintro e2 w3 ⟨rfl, hf⟩
  have B3 := Lib.hid (B2.out.frm hf hS)
  have F3 := Lib.hid ((G2.out.of_no S).trans hf (fun _ _ x => x))
  clear hf c2 B2 G2 F0 HF
  have c3 : w3.cell? ⟨g, 3, none⟩ = some (.slice none 0 0) := (B3.out.cell 3).trans rfl
  go_wp2_with fail
  refine (flat87_nil w3).mono ?_
  rintro e3 w4 ⟨rfl, hf⟩
  have B4 := Lib.hid (B3.out.frm hf (fun x => x))
  have F4 := Lib.hid (F3.out.trans (hf.of_no S) (fun _ _ x => x))
  clear hf c3 B3 F3
  have c4 : w4.cell? ⟨g, 4, none⟩ = some (.slice none 0 0) := (B4.out.cell 4).trans rfl
  go_wp2_with fail
  refine (flat88_nil w4).mono ?_
  rintro e4 w5 ⟨rfl, hf⟩
  have B5 := Lib.hid (B4.out.frm hf (fun x => x))
  have F5 := Lib.hid (F4.out.trans (hf.of_no S) (fun _ _ x => x))
  clear hf c4 B4 F4
  have c5 : w5.cell? ⟨g, 5, none⟩ = some (.slice none 0 0) := (B5.out.cell 5).trans rfl
  go_wp2_with fail
  refine (flat89_nil w5).mono ?_
  rintro e5 w6 ⟨rfl, hf⟩
  have B6 := Lib.hid (B5.out.frm hf (fun x => x))
  have F6 := Lib.hid (F5.out.trans (hf.of_no S) (fun _ _ x => x))
  clear hf c5 B5 F5
  have c6 : w6.cell? ⟨g, 6, none⟩ = some (.slice none 0 0) := (B6.out.cell 6).trans rfl
  go_wp2_with fail
  refine (flat90_nil w6).mono ?_
  rintro e6 w7 ⟨rfl, hf⟩
  have B7 := Lib.hid (B6.out.frm hf (fun x => x))
  have F7 := Lib.hid (F6.out.trans (hf.of_no S) (fun _ _ x => x))
  clear hf c6 B6 F6
  have c7 : w7.cell? ⟨g, 7, none⟩ = some (.slice none 0 0) := (B7.out.cell 7).trans rfl
  go_wp2_with fail
  refine (flat91_nil w7).mono ?_
  rintro e7 w8 ⟨rfl, hf⟩
  have B8 := Lib.hid (B7.out.frm hf (fun x => x))
  have F8 := Lib.hid (F7.out.trans (hf.of_no S) (fun _ _ x => x))
  clear hf c7 B7 F7
  have c8 : w8.cell? ⟨g, 8, none⟩ = some (.slice none 0 0) := (B8.out.cell 8).trans rfl
  go_wp2_with fail
  refine (flat92_nil w8).mono ?_
  rintro e8 w9 ⟨rfl, hf⟩
  have B9 := Lib.hid (B8.out.frm hf (fun x => x))
  have F9 := Lib.hid (F8.out.trans (hf.of_no S) (fun _ _ x => x))
  clear hf c8 B8 F8
  have c9 : w9.cell? ⟨g, 9, none⟩ = some (.slice none 0 0) := (B9.out.cell 9).trans rfl
  go_wp2_with fail
  refine (flat93_nil w9).mono ?_
  rintro e9 w10 ⟨rfl, hf⟩
  have B10 := Lib.hid (B9.out.frm hf (fun x => x))
  have F10 := Lib.hid (F9.out.trans (hf.of_no S) (fun _ _ x => x))
  clear hf c9 B9 F9
  have c10 : w10.cell? ⟨g, 10, none⟩ = some (.slice none 0 0) := (B10.out.cell 10).trans rfl
  go_wp2_with fail
  refine (flat94_nil w10).mono ?_
  rintro e10 w11 ⟨rfl, hf⟩
  have B11 := Lib.hid (B10.out.frm hf (fun x => x))
  have F11 := Lib.hid (F10.out.trans (hf.of_no S) (fun _ _ x => x))
  clear hf c10 B10 F10
  have c11 : w11.cell? ⟨g, 11, none⟩ = some (.slice none 0 0) := (B11.out.cell 11).trans rfl
  go_wp2_with fail
  refine (flat95_nil w11).mono ?_
  rintro e11 w12 ⟨rfl, hf⟩
  have B12 := Lib.hid (B11.out.frm hf (fun x => x))
  have F12 := Lib.hid (F11.out.trans (hf.of_no S) (fun _ _ x => x))
  clear hf c11 B11 F11
  have c12 : w12.cell? ⟨g, 12, none⟩ = some (.slice none 0 0) := (B12.out.cell 12).trans rfl
  go_wp2_with fail
  refine (flat96_nil w12).mono ?_
  rintro e12 w13 ⟨rfl, hf⟩
  have B13 := Lib.hid (B12.out.frm hf (fun x => x))
  have F13 := Lib.hid (F12.out.trans (hf.of_no S) (fun _ _ x => x))
  clear hf c12 B12 F12
  go_wp2
  go_ret
  exact ⟨rfl, F13.out⟩
end Go.Proofs.Ytgpnnnjhcjjnmaa

/- E4 -/
namespace Go.Proofs.Ytgpnnnjhcjjnmaa
open Go.RowKit

theorem info22 : (Try.prog.info? 22).map (fun i => (i.zero, i.size, i.bytes)) = some (some (.slice none 0 0), 1, 24) := by kernel_rfl

/-- From b on. -/
def From (b : Nat) : Nat → Prop := fun i => b ≤ i

def PutB (b : Nat) (w : World) (g : Nat) (k : Nat) (l : List Value) (e : Ending) (w' : World) : Prop :=
  e = .returned (.tuple #[]) ∧ ∃ V, Blk w' g 124 (bagOf V) ∧ w'.ownsRow b 22 1 V k l ∧ Frm (From b) w w'

theorem own_some {w : World} {b n size : Nat} {e : TypeId} {v : Value} {l : List Value} (h : w.ownsRow b e size v n l) (hn : 0 < n) : ∃ g c, v = .slice (some ⟨g, 0, none⟩) n c := by
  rcases h.2 with ⟨_, h0⟩ | ⟨g, cap, cur, rfl, _⟩
  · omega
  · exact ⟨g, cap, rfl⟩

set_option maxRecDepth 100000 in
set_option maxHeartbeats 1000000 in
theorem put_bytes (b : Nat) (w : World) (g : Nat) (V : Value) (k : Nat) (l : List Value) (A : Option Addr) (n c : Nat) (hg : b ≤ g) (hb : Blk w g 124 (bagOf V)) (ho : w.ownsRow b 22 1 V k l) (hk : k ≤ 1000) :
    Calls Try.prog 73 #[.pointer (some ⟨g, 0, none⟩), .slice A n c] w (PutB b w g (k + 1) (l ++ [.slice A n c])) := by
  obtain ⟨i0, hi, hz0, hz1, hz2⟩ := info_parts info22
  have c2 : w.cell? ⟨g, 2, none⟩ = some V := (hb.cell 2).trans rfl
  have hlt := hb.lt
  have hne := own_blk_ne ho hb (by decide)
  have hown : (w.alloc (.cells #[.slice A n c] 22)).ownsRow b 22 1 V k l := ho.alloc _
  have hnews : ∀ (j : Nat) (u : Value), [Value.slice A n c][j]? = some u → (w.alloc (.cells #[.slice A n c] 22)).cell? ((⟨w.heap.size, 0, none⟩ : Addr).add j) = some u := by
    intro j u hu
    have hj : j = 0 := by
      have := (List.getElem?_eq_some_iff.1 hu).1
      simp at this
      omega
    subst hj
    simp at hu
    subst hu
    exact (Blk.new w 22 #[.slice A n c]).cell 0
  have HB := Lib.hid (hb.alloc (.cells #[.slice A n c] 22))
  clear hb ho
  go_enter Try.func73, Try.ntmps73
  go_wp2_with (at_builtin; refine wpList_append_own _ rfl (.tmp 8) (.tmp 10) 76 rfl b 22 i0 (.slice none 0 0) 1 24 Try.underlying76 hi hz0 hz1 hz2 rfl (by decide) _ _ _ rfl hown ⟨w.heap.size, 0, none⟩ 1 1 [.slice A n c] rfl rfl hnews (by simp [Value.oneCell']) (by unfold maxLen; omega) (by omega) (by simp; omega) ?_; intro v' w1 hown' hgr _; obtain ⟨g', cap', rfl⟩ := own_some hown' (by omega); have HO := Lib.hid hown'; have HG := Lib.hid hgr; have B1 := Lib.hid (HB.out.frm (Frm.of_grown hgr) hne); have d0 : w1.cell? ⟨g, 2, none⟩ = some V := (B1.out.cell 2).trans rfl; have d1 := B1.out.frozen 2; clear hown' hgr)
  have hne2 := own_blk_ne HO.out B1.out (by decide)
  go_end0
  refine ⟨rfl, _, B1.out.set_ 2 _, ownsRow_setCell_other HO.out hne2 _, ?_⟩
  refine Frm.setCell ?_ (fun _ => hg) _
  refine ((Frm.refl (From b) w).alloc _).trans (Frm.of_grown HG.out) (fun i _ hs => ?_)
  exact (World.ownsRow.lt hown i hs).1
end Go.Proofs.Ytgpnnnjhcjjnmaa

/- E5 -/
namespace Go.Proofs.Ytgpnnnjhcjjnmaa
open Go.RowKit

set_option maxRecDepth 100000 in
set_option maxHeartbeats 2000000 in
theorem apart_bytes (w : World) (p : Nat) (A B : Option Addr) (n c m d : Nat) (S : Nat → Prop) (hp : Blk w p 22 #[.slice A n c, .slice B m d]) (hS : ∀ i, w.heap.size ≤ i → ¬ S i)
    (HF : ∀ V k W, Frm No w W → W.ownsRow w.heap.size 22 1 (.slice V 2 k) 2 [.slice A n c, .slice B m d] → Calls Try.prog 86 #[.slice V 2 k] W fun e w' => e = .returned (.bool true) ∧ Frm S W w') :
    Calls Try.prog 46 #[.slice (some ⟨p, 0, none⟩) 2 2] w fun e w' => e = .returned (.bool true) ∧ Frm S w w' := by
  have HF := Lib.hid HF
  have P0 := Lib.hid hp
  have F0 := Lib.hid (Frm.refl No w)
  clear hp
  have B1 : Hid (Blk (w.alloc (.cells (bagOf (.slice none 0 0)) 124)) w.heap.size 124 (bagOf (.slice none 0 0))) := Blk.new _ _ _
  have O1 : Hid ((w.alloc (.cells (bagOf (.slice none 0 0)) 124)).ownsRow w.heap.size 22 1 (.slice none 0 0) 0 []) := by
    refine ⟨?_, .inl ⟨rfl, rfl⟩⟩
    simp
  have F1 := Lib.hid (F0.out.alloc (.cells (bagOf (.slice none 0 0)) 124))
  go_enter Try.func46, Try.ntmps46
  go_wp2_with fail
  go_loopw [4] (fun i wr => ∃ (j : Nat) (V : Value), j ≤ 2 ∧ i = .int .i64 j ∧ Hid (Blk wr w.heap.size 124 (bagOf V)) ∧ Hid (wr.ownsRow w.heap.size 22 1 V j (List.take j [.slice A n c, .slice B m d])) ∧ Hid (Frm No w wr)) (fun i _ => 2 - (intOf i).toNat)
  case atStart => exact ⟨0, _, by omega, rfl, B1, O1, F1⟩
  case round =>
    obtain ⟨j, V, hj, rfl, HB, HO, HR⟩ := hrel
    clear B1 O1 F1 F0
    have hlt := P0.out.lt
    have PR := Lib.hid (P0.out.frm HR.out (fun x => x))
    rcases j with _ | _ | j
    · have p0 : wr.cell? ⟨p, 0, none⟩ = some (.slice A n c) := PR.out.cell 0
      go_wp2_with (go_at_call 73; refine (put_bytes w.heap.size _ w.heap.size V 0 _ A n c (Nat.le_refl _) HB.out HO.out (by omega)).mono ?_; rintro e w' ⟨rfl, V', hb', ho', hf'⟩)
      have HB' := Lib.hid hb'
      have HO' := Lib.hid ho'
      have HR' : Hid (Frm No w w') := HR.out.trans hf' (fun i hi hs => by have hs' : w.heap.size ≤ i := hs; omega)
      clear hb' ho' hf' HB HO HR
      go_roundw
      case rel => exact ⟨1, V', by omega, by go_num, HB', HO', HR'⟩
      case measure => simp [intOf]
    · have p1 : wr.cell? ⟨p, 1, none⟩ = some (.slice B m d) := PR.out.cell 1
      go_wp2_with (go_at_call 73; refine (put_bytes w.heap.size _ w.heap.size V 1 _ B m d (Nat.le_refl _) HB.out HO.out (by omega)).mono ?_; rintro e w' ⟨rfl, V', hb', ho', hf'⟩)
      have HB' := Lib.hid hb'
      have HO' := Lib.hid ho'
      have HR' : Hid (Frm No w w') := HR.out.trans hf' (fun i hi hs => by have hs' : w.heap.size ≤ i := hs; omega)
      clear hb' ho' hf' HB HO HR
      go_roundw
      case rel => exact ⟨2, V', by omega, by go_num, HB', HO', HR'⟩
      case measure => simp [intOf]
    · obtain rfl : j = 0 := by omega
      obtain ⟨g', k', rfl⟩ := own_some HO.out (by omega)
      go_wp2_with (go_at_call 74; refine (apart_bag _ w.heap.size _ 2 _ S HB.out (hS _ (Nat.le_refl _)) (fun W hW => HF.out _ _ W (HR.out.trans hW (fun _ _ x => x)) (hW.own HO.out (fun _ _ x => x)))).mono ?_; rintro e w' ⟨rfl, hf'⟩)
      go_ret
      exact ⟨rfl, (HR.out.of_no S).trans hf' (fun _ _ x => x)⟩
end Go.Proofs.Ytgpnnnjhcjjnmaa

/- E6 -/
namespace Go.Proofs.Ytgpnnnjhcjjnmaa
open Go.RowKit

/-- Where the row lies afterwards, and what was left. -/
def Keeps (w : World) (v : Value) (n g cap : Nat) (w' : World) : Prop :=
  (v = .slice (some ⟨g, 0, none⟩) n cap ∧ w.grownBy w' (some g)) ∨ (g = w.heap.size ∧ w.grownBy w' none)

theorem run_append_keep (w : World) (base : Nat) (ty : TypeId) (v : Value) (n : Nat) (xs : List UInt8) (hown : w.ownsRow base 5 1 v n (byts xs))
    (ad : Addr) (m c : Nat) (ys : List UInt8) (hl : ys.length = m) (hnews : ∀ j u, (byts ys)[j]? = some u → w.cell? (ad.add j) = some u) (hm : 0 < m)
    (hbytes : n + m ≤ 140737488355328) (hbase : base ≤ w.heap.size) :
    ∃ g cap w', (Builtin.append_ #[22, 22] ty #[v, .slice (some ad) m c]).run Try.prog w = .ok (.slice (some ⟨g, 0, none⟩) (n + m) cap) w' ∧
      w'.ownsRow base 5 1 (.slice (some ⟨g, 0, none⟩) (n + m) cap) (n + m) (byts (xs ++ ys)) ∧ Keeps w v n g cap w' := by
  obtain ⟨i0, hi, hz0, hz1, hz2⟩ := info_parts info5
  have hl1 : (byts ys).length = m * 1 := by rw [byts_len]; omega
  have hone : ∀ u ∈ byts ys, u.oneCell' = true := byts_one ys
  have hx : byts (xs ++ ys) = byts xs ++ byts ys := by simp [byts]
  rw [hx]
  obtain ⟨v', w', hr, h2, h3, _⟩ := run_append_own (P := Try.prog) w base 22 ty 5 i0 (.int .u8 0) 1 1 Try.underlying22 hi hz0 hz1 hz2 rfl (by decide) v n (byts xs) hown ad m c (byts ys) hl1 hnews hone (by unfold maxLen; omega) (by omega) hbase
  rcases hown.2 with ⟨rfl, rfl⟩ | ⟨g, cap, cur, rfl, hbg, hg, hnc, hcm, hcs, htake⟩
  · obtain ⟨v2, w2, hr2, h5, h6, _, h7⟩ := run_append_own_at (P := Try.prog) w base 22 ty 5 i0 (.int .u8 0) 1 1 Try.underlying22 hi hz0 hz1 hz2 rfl (by decide) (.slice none 0 0) 0 (byts xs) hown ad m c (byts ys) hl1 hnews hone (by unfold maxLen; omega) (by omega) hbase
    obtain ⟨g, cap, rfl, _, hlt⟩ := h5.form (by omega)
    refine ⟨g, cap, w2, hr2, h5, .inr ⟨?_, h6⟩⟩
    rcases h7 with h7 | h7
    · simp [Value.ownBlock] at h7
    · simpa [Value.ownBlock] using h7
  · by_cases hroom : n + m ≤ cap
    · obtain ⟨w2, hr2, h5, h6⟩ := run_append_own_spare (P := Try.prog) w base 22 ty 5 i0 1 Try.underlying22 hi hz1 g n cap (byts xs) hown ad m c (byts ys) hl1 hnews hone hroom
      exact ⟨g, cap, w2, hr2, h5, .inl ⟨rfl, h6⟩⟩
    · have holds : ∀ j u, (byts xs)[j]? = some u → w.cell? ((⟨g, 0, none⟩ : Addr).add j) = some u := hown.cells (g := g) rfl
      have hr2 := run_append_grow (P := Try.prog) w 22 ty 5 i0 (.int .u8 0) Try.underlying22 hi hz0 ⟨g, 0, none⟩ n cap (byts xs) (by rw [hz1]; exact hown.1) holds ad m c (byts ys) (by rw [hz1]; exact hl1) hnews (by omega) (by omega) (growslice_fits (by omega) (by rw [hz2]; omega))
      rw [hr2] at hr
      injection hr with e1 e2
      subst e1 e2
      exact ⟨_, _, _, hr2, h2, .inr ⟨rfl, rfl, rfl, rfl, by simp, fun k hk _ => heap_alloc_old w.drew _ hk⟩⟩
end Go.Proofs.Ytgpnnnjhcjjnmaa

/- E7 -/
namespace Go.Proofs.Ytgpnnnjhcjjnmaa
open Go.RowKit

def upd {α : Type} (f : Nat → α) (k : Nat) (v : α) : Nat → α := fun j => if j = k then v else f j
theorem upd_same {α : Type} (f : Nat → α) (k : Nat) (v : α) : upd f k v k = v := by simp [upd]
theorem upd_other {α : Type} (f : Nat → α) {k j : Nat} (v : α) (h : j ≠ k) : upd f k v j = f j := by simp [upd, h]

/-- The blocks of a row and of what was made from it. -/
def Grp (v l : Value) (i : Nat) : Prop := v.ownBlock = some i ∨ l.ownBlock = some i

structure Duo (w : World) (base m : Nat) (vs : Nat → Value) (ns : Nat → Nat) (cs : Nat → List UInt8) (ls : Nat → Value) (ms : Nat → Nat) (ds : Nat → List UInt8) : Prop where
  own : ∀ k, k < m → w.ownsRow base 5 1 (vs k) (ns k) (byts (cs k))
  long : ∀ k, k < m → w.ownsRow base 5 1 (ls k) (ms k) (byts (ds k))
  pre : ∀ k, k < m → cs k <+: ds k
  apart : ∀ k j, k < m → j < m → k ≠ j → ∀ i, Grp (vs k) (ls k) i → ¬ Grp (vs j) (ls j) i

/-- Duo rows of one block: the shorter reads what the longer's head is. -/
theorem own_same {w w' : World} {base n n1 n2 g cap : Nat} {v : Value} {xs ys zs : List UInt8} (h : w.ownsRow base 5 1 v n (byts xs)) (h1 : w.ownsRow base 5 1 (.slice (some ⟨g, 0, none⟩) n1 cap) n1 (byts ys))
    (h2 : w'.ownsRow base 5 1 (.slice (some ⟨g, 0, none⟩) n2 cap) n2 (byts zs)) (hv : v.ownBlock = some g) (hp : xs <+: zs) : w'.ownsRow base 5 1 v n (byts xs) := by
  rcases h.2 with ⟨rfl, rfl⟩ | ⟨g', c', cur, rfl, hb, hg, hnc, hcm, hcs, ht⟩
  · simp [Value.ownBlock] at hv
  · obtain rfl : g' = g := by simpa [Value.ownBlock] using hv
    rcases h1.2 with ⟨h0, _⟩ | ⟨g1, c1, cur1, he, _, hg1, _, _, hcs1, _⟩
    · cases h0
    · cases he
      rcases h2.2 with ⟨h0, _⟩ | ⟨g2, c2, cur2, he, _, hg2, _, _, hcs2, ht2⟩
      · cases h0
      · cases he
        rw [hg] at hg1
        injection hg1 with hg1
        injection hg1 with hg1
        subst hg1
        have hcc : c' = cap := by omega
        subst hcc
        refine ⟨h.1, .inr ⟨g', c', cur2, rfl, hb, hg2, hnc, hcm, hcs2, ?_⟩⟩
        obtain ⟨t, rfl⟩ := hp
        have hl : (byts xs).length = n * 1 := h.1
        have hl2 : (byts (xs ++ t)).length = n2 * 1 := h2.1
        have hle : n * 1 ≤ n2 * 1 := by rw [← hl, ← hl2, byts_len, byts_len, List.length_append]; omega
        have e : cur2.toList.take (n * 1) = (cur2.toList.take (n2 * 1)).take (n * 1) := by rw [List.take_take, Nat.min_eq_left hle]
        rw [e, ht2, ← hl]
        simp [byts]

theorem Duo.app {w w' : World} {base m : Nat} {vs : Nat → Value} {ns : Nat → Nat} {cs : Nat → List UInt8} {ls : Nat → Value} {ms : Nat → Nat} {ds : Nat → List UInt8}
    (h : Duo w base m vs ns cs ls ms ds) (k : Nat) (hk : k < m) (q : Nat) (ys : List UInt8) (g cap : Nat)
    (hown : w'.ownsRow base 5 1 (.slice (some ⟨g, 0, none⟩) (ms k + q) cap) (ms k + q) (byts (ds k ++ ys))) (hkeep : Keeps w (ls k) (ms k) g cap w') :
    Duo w' base m vs ns cs (upd ls k (.slice (some ⟨g, 0, none⟩) (ms k + q) cap)) (upd ms k (ms k + q)) (upd ds k (ds k ++ ys)) := by
  have hpre : ∀ j, j < m → cs j <+: upd ds k (ds k ++ ys) j := by
    intro j hj
    by_cases hjk : j = k
    · subst hjk
      rw [upd_same]
      exact (h.pre j hj).trans (List.prefix_append _ _)
    · rw [upd_other _ _ hjk]
      exact h.pre j hj
  rcases hkeep with ⟨hl, hgr⟩ | ⟨hg, hgr⟩
  · have hlb : (ls k).ownBlock = some g := by rw [hl]; rfl
    have hne : ∀ j, j < m → j ≠ k → ¬ Grp (vs j) (ls j) g := fun j hj hjk => h.apart k j hk hj (fun e => hjk e.symm) g (.inr hlb)
    refine ⟨fun j hj => ?_, fun j hj => ?_, hpre, ?_⟩
    · by_cases hb : (vs j).ownBlock = some g
      · have hjk : j = k := Decidable.byContradiction fun e => hne j hj e (.inl hb)
        subst hjk
        have h1 := h.long j hj
        rw [hl] at h1
        exact own_same (h.own j hj) h1 hown hb ((h.pre j hj).trans (List.prefix_append _ _))
      · exact (Frm.of_grown hgr).own (h.own j hj) fun i hi e => hb (by rw [hi]; exact e.symm)
    · by_cases hjk : j = k
      · subst hjk
        rw [upd_same, upd_same, upd_same]
        exact hown
      · rw [upd_other _ _ hjk, upd_other _ _ hjk, upd_other _ _ hjk]
        refine (Frm.of_grown hgr).own (h.long j hj) fun i hi e => hne j hj hjk (.inr ?_)
        rw [hi]
        exact e.symm
    · have hG : ∀ j i, j < m → Grp (vs j) (upd ls k (.slice (some ⟨g, 0, none⟩) (ms k + q) cap) j) i → Grp (vs j) (ls j) i := by
        intro j i hj hi
        by_cases hjk : j = k
        · subst hjk
          rw [upd_same] at hi
          rcases hi with hi | hi
          · exact .inl hi
          · exact .inr (by rw [hlb]; exact hi)
        · rwa [upd_other _ _ hjk] at hi
      exact fun a b ha hb hab i h1 h2 => h.apart a b ha hb hab i (hG a i ha h1) (hG b i hb h2)
  · have hf := Frm.of_grown hgr
    refine ⟨fun j hj => hf.own (h.own j hj) fun i hi e => (by cases e), fun j hj => ?_, hpre, ?_⟩
    · by_cases hjk : j = k
      · subst hjk
        rw [upd_same, upd_same, upd_same]
        exact hown
      · rw [upd_other _ _ hjk, upd_other _ _ hjk, upd_other _ _ hjk]
        exact hf.own (h.long j hj) fun i hi e => (by cases e)
    · have hG : ∀ j i, j < m → Grp (vs j) (upd ls k (.slice (some ⟨g, 0, none⟩) (ms k + q) cap) j) i → Grp (vs j) (ls j) i ∨ (j = k ∧ i = g) := by
        intro j i hj hi
        by_cases hjk : j = k
        · subst hjk
          rw [upd_same] at hi
          rcases hi with hi | hi
          · exact .inl (.inl hi)
          · exact .inr ⟨rfl, by simpa [Value.ownBlock] using hi.symm⟩
        · rw [upd_other _ _ hjk] at hi
          exact .inl hi
      have hlt : ∀ j i, j < m → Grp (vs j) (ls j) i → i < w.heap.size := by
        intro j i hj hi
        rcases hi with hi | hi
        · exact (own_lt (h.own j hj) hi).2
        · exact (own_lt (h.long j hj) hi).2
      intro a b ha hb hab i h1 h2
      rcases hG a i ha h1 with h3 | ⟨ea, ei⟩
      · rcases hG b i hb h2 with h4 | ⟨eb, ei⟩
        · exact h.apart a b ha hb hab i h3 h4
        · have := hlt a i ha h3
          omega
      · rcases hG b i hb h2 with h4 | ⟨eb, _⟩
        · have := hlt b i hb h4
          omega
        · exact hab (ea.trans eb.symm)
end Go.Proofs.Ytgpnnnjhcjjnmaa

/- E8 -/
namespace Go.Proofs.Ytgpnnnjhcjjnmaa
open Go.RowKit

def mk (k n : Nat) : List UInt8 := (List.range n).map (markK k)
theorem mk_len (k n : Nat) : (mk k n).length = n := by simp [mk]
theorem mk_succ (k n : Nat) : mk k (n + 1) = mk k n ++ [markK k n] := by simp [mk, List.range_succ]
theorem mk_get (k n i : Nat) (h : i < n) : (mk k n)[i]? = some (markK k i) := by simp [mk, h]
theorem mk_pre (k n q : Nat) : mk k n <+: mk k (n + q) := by
  induction q with
  | zero => exact List.prefix_refl _
  | succ q ih => exact ih.trans (by rw [← Nat.add_assoc, mk_succ]; exact List.prefix_append _ _)

theorem take_set_succ {α : Type} (l : List α) (i : Nat) (x : α) (h : i < l.length) : (l.set i x).take (i + 1) = l.take i ++ [x] := by
  rw [List.take_add_one, List.take_set_of_le (Nat.le_refl i)]
  simp [h]

/-- The list of the rows. -/
def Lst (w : World) (p m : Nat) (vs : Nat → Value) : Prop := ∃ cur, Blk w p 22 cur ∧ ∀ k, k < m → cur[k]? = some (vs k)
theorem Lst.cell {w : World} {p m : Nat} {vs : Nat → Value} (h : Lst w p m vs) (k : Nat) (hk : k < m) : w.cell? ⟨p, k, none⟩ = some (vs k) := by
  obtain ⟨cur, hb, hc⟩ := h
  exact (hb.cell k).trans (hc k hk)
theorem Lst.frm {S : Nat → Prop} {w w' : World} {p m : Nat} {vs : Nat → Value} (h : Lst w p m vs) (hf : Frm S w w') (hS : ¬ S p) : Lst w' p m vs := by
  obtain ⟨cur, hb, hc⟩ := h
  exact ⟨cur, hb.frm hf hS, hc⟩
theorem Lst.ne {w : World} {p m base n : Nat} {vs : Nat → Value} {v : Value} {xs : List Value} (h : Lst w p m vs) (ho : w.ownsRow base 5 1 v n xs) : v.ownBlock ≠ some p := by
  obtain ⟨cur, hb, _⟩ := h
  exact own_blk_ne ho hb (by decide)

theorem Duo.len {w : World} {base m : Nat} {vs : Nat → Value} {ns : Nat → Nat} {cs : Nat → List UInt8} {ls : Nat → Value} {ms : Nat → Nat} {ds : Nat → List UInt8}
    (h : Duo w base m vs ns cs ls ms ds) (k : Nat) (hk : k < m) : (cs k).length = ns k := by
  have := (h.own k hk).1
  rw [byts_len] at this
  omega
theorem Duo.form {w : World} {base m : Nat} {vs : Nat → Value} {ns : Nat → Nat} {cs : Nat → List UInt8} {ls : Nat → Value} {ms : Nat → Nat} {ds : Nat → List UInt8}
    (h : Duo w base m vs ns cs ls ms ds) (k : Nat) (hk : k < m) : ∃ A c, vs k = .slice A (ns k) c ∧ ns k ≤ c ∧ (0 < ns k → ∃ g, A = some ⟨g, 0, none⟩) := by
  rcases (h.own k hk).2 with ⟨h1, h2⟩ | ⟨g, cap, cur, h1, _, _, h3, _⟩
  · exact ⟨none, 0, by rw [h1, h2], by omega, fun h => by omega⟩
  · exact ⟨_, cap, h1, h3, fun _ => ⟨g, rfl⟩⟩

theorem Duo.set {w : World} {base m : Nat} {vs : Nat → Value} {ns : Nat → Nat} {cs : Nat → List UInt8} (h : Duo w base m vs ns cs vs ns cs) (k : Nat) (hk : k < m) (g c : Nat)
    (hv : vs k = .slice (some ⟨g, 0, none⟩) (ns k) c) (i : Nat) (x : UInt8) (u : Value) (hu : u = byt x) :
    Duo (w.setCell ⟨g, i, none⟩ u) base m vs ns (upd cs k ((cs k).set i x)) vs ns (upd cs k ((cs k).set i x)) := by
  have hgk : Grp (vs k) (vs k) g := .inl (by rw [hv]; rfl)
  have ho : ∀ j, j < m → (w.setCell ⟨g, i, none⟩ u).ownsRow base 5 1 (vs j) (ns j) (byts (upd cs k ((cs k).set i x) j)) := by
    intro j hj
    by_cases hjk : j = k
    · subst hjk
      rw [upd_same]
      have h1 := h.own j hj
      rw [hv] at h1 ⊢
      exact Row.set (h := h1) i x u hu
    · rw [upd_other _ _ hjk]
      exact ownsRow_setCell_other (h.own j hj) (fun e => h.apart k j hk hj (fun e => hjk e.symm) g hgk (.inl e)) _
  exact ⟨ho, ho, fun _ _ => List.prefix_refl _, h.apart⟩
end Go.Proofs.Ytgpnnnjhcjjnmaa

/- E10 -/
namespace Go.Proofs.Ytgpnnnjhcjjnmaa
open Go.RowKit

theorem Duo.drew {w : World} {base m : Nat} {vs : Nat → Value} {ns : Nat → Nat} {cs : Nat → List UInt8} {ls : Nat → Value} {ms : Nat → Nat} {ds : Nat → List UInt8}
    (h : Duo w base m vs ns cs ls ms ds) : Duo w.drew base m vs ns cs ls ms ds := ⟨h.own, h.long, h.pre, h.apart⟩
theorem Lst.drew {w : World} {p m : Nat} {vs : Nat → Value} (h : Lst w p m vs) : Lst w.drew p m vs := h
theorem Lst.far {w : World} {p m g : Nat} {vs : Nat → Value} (h : Lst w p m vs) (hpg : p ≠ g) (i : Nat) (u : Value) : Lst (w.setCell ⟨g, i, none⟩ u) p m vs := by
  obtain ⟨cur, hb, hc⟩ := h
  exact ⟨cur, hb.far hpg u, hc⟩
theorem Duo.alloc {w : World} {base m : Nat} {vs : Nat → Value} {ns : Nat → Nat} {cs : Nat → List UInt8} {ls : Nat → Value} {ms : Nat → Nat} {ds : Nat → List UInt8}
    (h : Duo w base m vs ns cs ls ms ds) (o : Obj) : Duo (w.alloc o) base m vs ns cs ls ms ds := ⟨fun k hk => (h.own k hk).alloc _, fun k hk => (h.long k hk).alloc _, h.pre, h.apart⟩
theorem Lst.alloc {w : World} {p m : Nat} {vs : Nat → Value} (h : Lst w p m vs) (o : Obj) : Lst (w.alloc o) p m vs := by
  obtain ⟨cur, hb, hc⟩ := h
  exact ⟨cur, hb.alloc _, hc⟩

def Own (m : Nat) (vs : Nat → Value) (i : Nat) : Prop := ∃ k, k < m ∧ (vs k).ownBlock = some i

structure Big (w0 w : World) (base m p G : Nat) (vs : Nat → Value) (ns : Nat → Nat) (ls : Nat → Value) (ms : Nat → Nat) (ds : Nat → List UInt8) (cur : Array Value) : Prop where
  two : Duo w base m vs ns (fun k => mk k (ns k)) ls ms ds
  lst : Lst w p m vs
  lng : Blk w G 22 cur
  new : w0.heap.size ≤ G
  frm : Frm (Own m vs) w0 w
  own : ∀ k, k < m → ∀ i, (ls k).ownBlock = some i → w0.heap.size ≤ i ∨ Own m vs i

section
variable {w0 w w' : World} {base m p G : Nat} {vs : Nat → Value} {ns : Nat → Nat} {ls : Nat → Value} {ms : Nat → Nat} {ds : Nat → List UInt8} {cur : Array Value}

theorem Big.alloc (h : Big w0 w base m p G vs ns ls ms ds cur) (o : Obj) : Big w0 (w.alloc o) base m p G vs ns ls ms ds cur :=
  ⟨h.two.alloc o, h.lst.alloc o, h.lng.alloc o, h.new, h.frm.alloc o, h.own⟩
theorem Big.drew (h : Big w0 w base m p G vs ns ls ms ds cur) : Big w0 w.drew base m p G vs ns ls ms ds cur :=
  ⟨h.two.drew, h.lst.drew, h.lng.drew, h.new, h.frm.drew, h.own⟩

theorem Big.app (h : Big w0 w base m p G vs ns ls ms ds cur) (k : Nat) (hk : k < m) (q : Nat) (ys : List UInt8) (g cap : Nat)
    (hown : w'.ownsRow base 5 1 (.slice (some ⟨g, 0, none⟩) (ms k + q) cap) (ms k + q) (byts (ds k ++ ys))) (hkeep : Keeps w (ls k) (ms k) g cap w') :
    Big w0 w' base m p G vs ns (upd ls k (.slice (some ⟨g, 0, none⟩) (ms k + q) cap)) (upd ms k (ms k + q)) (upd ds k (ds k ++ ys)) cur := by
  have htwo := h.two.app k hk q ys g cap hown hkeep
  rcases hkeep with ⟨hl, hgr⟩ | ⟨hg, hgr⟩
  · have hlb : (ls k).ownBlock = some g := by rw [hl]; rfl
    have hf := Frm.of_grown hgr
    have hp : ¬ (some g = some p) := fun e => h.lst.ne (h.two.long k hk) (by rw [hlb, e])
    have hG : ¬ (some g = some G) := fun e => own_blk_ne (h.two.long k hk) h.lng (by decide) (by rw [hlb, e])
    refine ⟨htwo, h.lst.frm hf hp, h.lng.frm hf hG, h.new, h.frm.trans hf fun i hi hs => ?_, fun j hj i hi => ?_⟩
    · have hs' : some g = some i := hs
      rcases h.own k hk i (by rw [hlb, hs']) with h1 | h1
      · omega
      · exact h1
    · by_cases hjk : j = k
      · subst hjk
        rw [upd_same] at hi
        exact h.own j hj i (by rw [hlb]; exact hi)
      · rw [upd_other _ _ hjk] at hi
        exact h.own j hj i hi
  · have hf := Frm.of_grown hgr
    refine ⟨htwo, h.lst.frm hf (fun e => by cases e), h.lng.frm hf (fun e => by cases e), h.new, h.frm.trans hf fun i hi hs => (by cases hs), fun j hj i hi => ?_⟩
    by_cases hjk : j = k
    · subst hjk
      rw [upd_same] at hi
      have hi' : g = i := by simpa [Value.ownBlock] using hi
      have := h.frm.size
      left
      omega
    · rw [upd_other _ _ hjk] at hi
      exact h.own j hj i hi

theorem Big.put (h : Big w0 w base m p G vs ns ls ms ds cur) (i : Nat) (u : Value) (hpG : p ≠ G) : Big w0 (w.setCell ⟨G, i, none⟩ u) base m p G vs ns ls ms ds (cur.setIfInBounds i u) := by
  have hv : ∀ k, k < m → (vs k).ownBlock ≠ some G := fun k hk => own_blk_ne (h.two.own k hk) h.lng (by decide)
  have hl : ∀ k, k < m → (ls k).ownBlock ≠ some G := fun k hk => own_blk_ne (h.two.long k hk) h.lng (by decide)
  have hn := h.new
  exact ⟨⟨fun k hk => ownsRow_setCell_other (h.two.own k hk) (hv k hk) _, fun k hk => ownsRow_setCell_other (h.two.long k hk) (hl k hk) _, h.two.pre, h.two.apart⟩,
    h.lst.far hpG _ _, h.lng.set_ _ _, h.new, h.frm.setCell (p := ⟨G, i, none⟩) (fun hlt => by have h1 : G < w0.heap.size := hlt; omega) _, h.own⟩
end

/-- append to the row that stands in Duo. -/
theorem wpList_append_keep {ops : Array Oper} {rest : List Oper} {o : Oper} {a : Act} {w : World} {Q : Exit → Act → World → Prop} (hgd : o.guard = none) (s x : Operand)
    (ho : o.op = .call { callee := .builtin .append, args := #[s, x], argTypes := #[22, 22] })
    (base : Nat) (v : Value) (n : Nat) (xs : List UInt8) (hs : a.eval s = v) (hown : w.ownsRow base 5 1 v n (byts xs))
    (ad : Addr) (m c : Nat) (ys : List UInt8) (hx : a.eval x = .slice (some ad) m c) (hl : ys.length = m) (hnews : ∀ j u, (byts ys)[j]? = some u → w.cell? (ad.add j) = some u) (hm : 0 < m)
    (hbytes : n + m ≤ 140737488355328) (hbase : base ≤ w.heap.size)
    (h : ∀ g cap w', w'.ownsRow base 5 1 (.slice (some ⟨g, 0, none⟩) (n + m) cap) (n + m) (byts (xs ++ ys)) → Keeps w v n g cap w' → wpList Try.prog ops Q rest (a.put o.dst (.slice (some ⟨g, 0, none⟩) (n + m) cap)) w') : wpList Try.prog ops Q (o :: rest) a w := by
  refine wpList_plain hgd fun K hK => ?_
  obtain ⟨g, cap, w', hr, h1, h2⟩ := run_append_keep w base o.type v n xs hown ad m c ys hl hnews hm hbytes hbase
  unfold Oper.wp execOp
  simp only [ho, resolve, invoke, builtin, Sem.run_bind, Sem.run_pure, Result.andThen_ok, List.map_toArray, List.map_cons, List.map_nil, hs, hx, hr]
  exact hK _ _ (h g cap w' h1 h2)
end Go.Proofs.Ytgpnnnjhcjjnmaa

/- E11 -/
namespace Go.Proofs.Ytgpnnnjhcjjnmaa
open Go.RowKit

theorem make_rows (m : Nat) (hm : m ≤ 101) : ∃ Z : Array Value, Z.size = m ∧ ∀ w : World, (Instr.makeSlice 76 (.int .i64 (m : Int)) (.int .i64 (m : Int))).run Try.prog w = .ok (.slice (some ⟨w.heap.size, 0, none⟩) m m) (w.alloc (.cells Z 22)) := by
  obtain ⟨i0, hi, hz0, hz1, hz2⟩ := info_parts info22
  refine ⟨madeCells (Value.slice none 0 0).cells (Int.toNat (m : Int) * 1), by simp [madeCells, Value.cells], fun w => ?_⟩
  have h := run_make (P := Try.prog) w 76 22 i0 (.slice none 0 0) Try.underlying76 hi hz0 .i64 .i64 (m : Int) (m : Int) (by omega) (by omega) (by rw [hz2]; omega) (by omega)
  rw [hz1] at h
  simpa using h

theorem two_of_fill {w : World} {base m : Nat} {vs : Nat → Value} {ns : Nat → Nat} {cs : Nat → List UInt8} (h : Duo w base m vs ns cs vs ns cs) (hc : ∀ k, k < m → cs k = mk k (ns k)) :
    Duo w base m vs ns (fun k => mk k (ns k)) vs ns (fun k => mk k (ns k)) := by
  have ho : ∀ k, k < m → w.ownsRow base 5 1 (vs k) (ns k) (byts (mk k (ns k))) := fun k hk => by
    rw [← hc k hk]
    exact h.own k hk
  exact { own := ho, long := ho, pre := fun _ _ => List.prefix_refl _, apart := h.apart }
end Go.Proofs.Ytgpnnnjhcjjnmaa

/- E12 -/
namespace Go.Proofs.Ytgpnnnjhcjjnmaa
open Go.RowKit

section
variable {w0 w : World} {base m p G : Nat} {vs : Nat → Value} {ns : Nat → Nat} {ls : Nat → Value} {ms : Nat → Nat} {ds : Nat → List UInt8} {cur : Array Value}

theorem big_back (h : Big w0 w base m p G vs ns ls ms ds cur) (k : Nat) : Big w0 w base m p G vs ns (upd ls k (vs k)) (upd ms k (ns k)) (upd ds k (mk k (ns k))) cur := by
  refine ⟨⟨h.two.own, fun j hj => ?_, fun j hj => ?_, fun a b ha hb hab i h1 h2 => ?_⟩, h.lst, h.lng, h.new, h.frm, fun j hj i hi => ?_⟩
  · by_cases hjk : j = k
    · subst hjk
      rw [upd_same, upd_same, upd_same]
      exact h.two.own j hj
    · rw [upd_other _ _ hjk, upd_other _ _ hjk, upd_other _ _ hjk]
      exact h.two.long j hj
  · by_cases hjk : j = k
    · subst hjk
      rw [upd_same]
      exact List.prefix_refl _
    · rw [upd_other _ _ hjk]
      exact h.two.pre j hj
  · have hG : ∀ j, Grp (vs j) (upd ls k (vs k) j) i → Grp (vs j) (ls j) i := by
      intro j hi
      by_cases hjk : j = k
      · subst hjk
        rw [upd_same] at hi
        rcases hi with hi | hi <;> exact .inl hi
      · rwa [upd_other _ _ hjk] at hi
    exact h.two.apart a b ha hb hab i (hG a h1) (hG b h2)
  · by_cases hjk : j = k
    · subst hjk
      rw [upd_same] at hi
      exact .inr ⟨j, hj, hi⟩
    · rw [upd_other _ _ hjk] at hi
      exact h.own j hj i hi

theorem big_far (h : Big w0 w base m p G vs ns ls ms ds cur) {g : Nat} (hg : w0.heap.size ≤ g) (hv : ∀ k, k < m → (vs k).ownBlock ≠ some g) (hl : ∀ k, k < m → (ls k).ownBlock ≠ some g)
    (hp : p ≠ g) (hG : G ≠ g) (i : Nat) (u : Value) : Big w0 (w.setCell ⟨g, i, none⟩ u) base m p G vs ns ls ms ds cur :=
  ⟨⟨fun k hk => ownsRow_setCell_other (h.two.own k hk) (hv k hk) _, fun k hk => ownsRow_setCell_other (h.two.long k hk) (hl k hk) _, h.two.pre, h.two.apart⟩,
    h.lst.far hp _ _, h.lng.far hG _, h.new, h.frm.setCell (p := ⟨g, i, none⟩) (fun hlt => by have h1 : g < w0.heap.size := hlt; omega) _, h.own⟩

/-- A block laid since lies apart from all. -/
theorem big_new (h : Big w0 w base m p G vs ns ls ms ds cur) {g : Nat} (hg : w.heap.size ≤ g) : w0.heap.size ≤ g ∧ (∀ k, k < m → (vs k).ownBlock ≠ some g) ∧ (∀ k, k < m → (ls k).ownBlock ≠ some g) ∧ p ≠ g ∧ G ≠ g := by
  have h1 := h.frm.size
  have h2 := h.lng.lt
  obtain ⟨c, hb, _⟩ := h.lst
  have h3 := hb.lt
  refine ⟨by omega, fun k hk e => ?_, fun k hk e => ?_, by omega, by omega⟩
  · have := ((h.two.own k hk).lt g e).2
    omega
  · have := ((h.two.long k hk).lt g e).2
    omega
end
end Go.Proofs.Ytgpnnnjhcjjnmaa

/- E9 -/
namespace Go.Proofs.Ytgpnnnjhcjjnmaa
open Go.RowKit

theorem row_slice {w : World} {base n : Nat} {v : Value} {xs : List Value} (h : w.ownsRow base 5 1 v n xs) : ∃ A c, v = .slice A n c := by
  rcases h.2 with ⟨h1, h2⟩ | ⟨g, cap, cur, h1, _⟩
  · exact ⟨none, 0, by rw [h1, h2]⟩
  · exact ⟨_, cap, h1⟩

theorem big_at_long {w0 w : World} {base m p G : Nat} {vs : Nat → Value} {ns : Nat → Nat} {ls : Nat → Value} {ms : Nat → Nat} {ds : Nat → List UInt8} {cur : Array Value}
    (h : Big w0 w base m p G vs ns ls ms ds cur) {j q : Nat} {C : Prop} (hj : j < m) (hk : ms j = ns j + (q + 1) ∧ ds j = mk j (ms j) ∧ C) :
    ∃ g c, ls j = .slice (some ⟨g, 0, none⟩) (ns j + (q + 1)) c ∧ ns j + (q + 1) ≤ c ∧ ∀ i, i < ns j + (q + 1) → w.cell? ⟨g, i, none⟩ = some (.int .u8 ((markK j i).toNat : Int)) := by
  have h1 := h.two.long j hj
  rw [hk.1] at h1
  rw [hk.2.1, hk.1] at h1
  obtain ⟨g, c, hl, hr⟩ := Row.of_own h1 (by omega)
  refine ⟨g, c, hl, hr.cap.1, fun i hi => ?_⟩
  have h2 := hr.cell i (by rw [mk_len]; exact hi)
  have h3 : (mk j (ns j + (q + 1)))[i]'(by rw [mk_len]; exact hi) = markK j i := by
    have := mk_get j (ns j + (q + 1)) i hi
    rwa [List.getElem?_eq_getElem (by rw [mk_len]; exact hi), Option.some_inj] at this
  rw [h3] at h2
  exact h2

theorem big_at_head {w0 w : World} {base m p G : Nat} {vs : Nat → Value} {ns : Nat → Nat} {ls : Nat → Value} {ms : Nat → Nat} {ds : Nat → List UInt8} {cur : Array Value}
    (h : Big w0 w base m p G vs ns ls ms ds cur) {j q : Nat} (hj : j < m) (hk : ms j = ns j + (q + 1)) :
    ∃ g c, ls j = .slice (some ⟨g, 0, none⟩) (ns j + (q + 1)) c ∧ ns j + (q + 1) ≤ c ∧ ∀ i, i < ns j → w.cell? ⟨g, i, none⟩ = some (.int .u8 ((markK j i).toNat : Int)) := by
  have h1 := h.two.long j hj
  rw [hk] at h1
  obtain ⟨g, c, hl, hr⟩ := Row.of_own h1 (by omega)
  refine ⟨g, c, hl, hr.cap.1, fun i hi => ?_⟩
  have hlen := hr.len
  have h2 := hr.cell i (by omega)
  obtain ⟨t, ht⟩ := h.two.pre j hj
  have ht' : ds j = mk j (ns j) ++ t := ht.symm
  have h3 : (ds j)[i]'(by omega) = markK j i := by
    have h4 : (ds j)[i]? = some (markK j i) := by
      rw [ht', List.getElem?_append_left (by rw [mk_len]; exact hi)]
      exact mk_get j (ns j) i hi
    rwa [List.getElem?_eq_getElem (by omega), Option.some_inj] at h4
  rw [h3] at h2
  exact h2

theorem big_at_short {w0 w : World} {base m p G : Nat} {vs : Nat → Value} {ns : Nat → Nat} {ls : Nat → Value} {ms : Nat → Nat} {ds : Nat → List UInt8} {cur : Array Value}
    (h : Big w0 w base m p G vs ns ls ms ds cur) {j : Nat} (hj : j < m) {g c : Nat} (hv : vs j = .slice (some ⟨g, 0, none⟩) (ns j) c) (i : Nat) (hi : i < ns j) :
    w.cell? ⟨g, i, none⟩ = some (.int .u8 ((markK j i).toNat : Int)) := by
  have h1 := h.two.own j hj
  rw [hv] at h1
  have h2 := Row.cell (h := h1) i (by rw [mk_len]; exact hi)
  have h3 : (mk j (ns j))[i]'(by rw [mk_len]; exact hi) = markK j i := by
    have := mk_get j (ns j) i hi
    rwa [List.getElem?_eq_getElem (by rw [mk_len]; exact hi), Option.some_inj] at this
  rw [h3] at h2
  exact h2

theorem Big.drewN {w0 w : World} {base m p G : Nat} {vs : Nat → Value} {ns : Nat → Nat} {ls : Nat → Value} {ms : Nat → Nat} {ds : Nat → List UInt8} {cur : Array Value}
    (h : Big w0 w base m p G vs ns ls ms ds cur) (n : Nat) : Big w0 (w.drewN n) base m p G vs ns ls ms ds cur :=
  ⟨⟨h.two.own, h.two.long, h.two.pre, h.two.apart⟩, h.lst, h.lng.drewN n, h.new, h.frm.drewN n, h.own⟩

set_option maxRecDepth 100000 in
set_option maxHeartbeats 4000000 in
theorem flat_bytes (w : World) (base m p c0 : Nat) (vs : Nat → Value) (ns : Nat → Nat) (cs : Nat → List UInt8) (hm : m ≤ 101) (hmc : m ≤ c0) (hn : ∀ k, k < m → ns k ≤ 140737488351232)
    (hL : Lst w p m vs) (hT : Duo w base m vs ns cs vs ns cs) (hbase : base ≤ w.heap.size) :
    Calls Try.prog 86 #[.slice (some ⟨p, 0, none⟩) m c0] w fun e w' => e = .returned (.bool true) ∧ Frm (Own m vs) w w' := by
  have HN := Lib.hid hn
  have HL := Lib.hid hL
  have HT := Lib.hid hT
  have HF := Lib.hid (Frm.refl (Own m vs) w)
  clear hn hL hT
  go_enter Try.func86, Try.ntmps86
  go_upto_block 0 with fail
  go_cut [3, 4] from 16 to 39 (fun s3 s4 wx => ∃ cs', Hid (Duo wx base m vs ns cs' vs ns cs') ∧ Hid (∀ k, k < m → cs' k = mk k (ns k)) ∧ Hid (Lst wx p m vs) ∧ Hid (Frm (Own m vs) w wx))
  case first =>
    go_wp2_with fail
    go_loopw [3, 4] (fun a b wr => ∃ j cs', j ≤ m ∧ a = .int .i64 (j : Nat) ∧ Hid (Duo wr base m vs ns cs' vs ns cs') ∧ Hid (∀ k, k < j → cs' k = mk k (ns k)) ∧ Hid (Lst wr p m vs) ∧ Hid (Frm (Own m vs) w wr)) (fun a _ _ => m - (intOf a).toNat)
    case atStart => exact ⟨0, cs, by omega, rfl, HT, (fun k hk => by omega), HL, HF⟩
    case round =>
      obtain ⟨j, cs1, hj, rfl, HT1, HC1, HL1, HF1⟩ := hrel
      clear HT HL HF
      by_cases hlt : j < m
      · go_wp2_with fail
        go_loopw [4] (fun b wr2 => ∃ i cs2, i ≤ ns j ∧ b = .int .i64 (i : Nat) ∧ Hid (Duo wr2 base m vs ns cs2 vs ns cs2) ∧ Hid (∀ k, k < j → cs2 k = mk k (ns k)) ∧ Hid ((cs2 j).take i = mk j i) ∧ Hid (Lst wr2 p m vs) ∧ Hid (Frm (Own m vs) w wr2)) (fun b _ => ns j - (intOf b).toNat)
        case atStart => exact ⟨0, cs1, Nat.zero_le _, rfl, HT1, HC1, (show (cs1 j).take 0 = mk j 0 from by simp [mk]), HL1, HF1⟩
        case round =>
          obtain ⟨i, cs2, hi, rfl, HT2, HC2, HD2, HL2, HF2⟩ := hrel
          clear HT1 HC1 HL1 HF1
          obtain ⟨A, c, hv, hc, hA⟩ := HT2.out.form j hlt
          have p0 : wr.cell? ⟨p, j, none⟩ = some (.slice A (ns j) c) := by rw [← hv]; exact HL2.out.cell j hlt
          have hnj := HN.out j hlt
          by_cases hi2 : i < ns j
          · obtain ⟨g, rfl⟩ := hA (by omega)
            go_wp2_with fail
            refine wp_region_still_tail 9 (by kernel_rfl) (by kernel_rfl) ?_
            simp only [List.take_succ_cons, List.take_zero, List.drop_succ_cons, List.drop_zero]
            repeat still_step
            refine wpStill_step (fun K hK => ?_)
            go_simp
            refine ⟨_, (markByte_any _ j i (by omega) (by omega)).mono (fun e w' ⟨h1, h2⟩ => ⟨h1, h2.symm⟩), hK _ ?_⟩
            clear hK K
            repeat still_step
            refine wpStill_nil ?_
            have R0 : Row wr base g (ns j) c (cs2 j) := by
              have h1 := HT2.out.own j hlt
              rw [hv] at h1
              exact h1
            have d0 := R0.cell i (by have := R0.len; omega)
            have d1 := R0.frozen i
            change wpList _ _ _ _ _ wr.drew
            go_wp2_with fail
            have hpg : p ≠ g := by
              have h1 := HL2.out.ne (HT2.out.own j hlt)
              rw [hv] at h1
              intro e
              exact h1 (by rw [e]; rfl)
            have HT3 := Lib.hid (HT2.out.set j hlt g c hv i (markK j i) _ rfl).drew
            have HC3 : Hid (∀ k, k < j → upd cs2 j ((cs2 j).set i (markK j i)) k = mk k (ns k)) := fun k hk => by rw [upd_other _ _ (by omega)]; exact HC2.out k hk
            have HD3 : Hid ((upd cs2 j ((cs2 j).set i (markK j i)) j).take (i + 1) = mk j (i + 1)) := by
              show (upd cs2 j ((cs2 j).set i (markK j i)) j).take (i + 1) = mk j (i + 1)
              rw [upd_same, take_set_succ _ _ _ (by have := R0.len; omega), HD2.out, mk_succ]
            have HL3 := Lib.hid ((HL2.out.far hpg i (.int .u8 ((markK j i).toNat : Int))).drew)
            have HF3 := Lib.hid ((HF2.out.setCell (p := ⟨g, i, none⟩) (fun _ => ⟨j, hlt, by rw [hv]; rfl⟩) (.int .u8 ((markK j i).toNat : Int))).drew)
            refine ⟨⟨i + 1, upd cs2 j ((cs2 j).set i (markK j i)), by omega, by go_num, HT3, HC3, HD3, HL3, HF3⟩, ?_⟩
            simp [intOf]
            omega
          · obtain rfl : i = ns j := by omega
            go_wp2_with fail
            go_roundw
            case rel =>
              refine ⟨j + 1, cs2, by omega, by go_num, HT2, fun k hk => ?_, HL2, HF2⟩
              by_cases hkj : k = j
              · subst hkj
                have h1 := HD2.out
                rwa [List.take_of_length_le (by rw [HT2.out.len k hlt]; omega)] at h1
              · exact HC2.out k (by omega)
            case measure => simp [intOf]; omega
      · go_wp2_with fail
        go_meet
        obtain rfl : j = m := by omega
        exact ⟨cs1, HT1, HC1, HL1, HF1⟩
  case rest =>
    obtain ⟨cs1, HT1, HC1, HL1, HF1⟩ := hcut
    obtain ⟨Z, hZ, hmk⟩ := make_rows m hm
    have B0 : Hid (Big w (wc.alloc (.cells Z 22)) base m p wc.heap.size vs ns vs ns (fun k => mk k (ns k)) Z) :=
      ⟨(two_of_fill HT1.out HC1.out).alloc _, HL1.out.alloc _, Blk.new _ _ _, HF1.out.size, HF1.out.alloc _, fun k hk i hi => .inr ⟨k, hk, hi⟩⟩
    have hpG : p ≠ wc.heap.size := by
      obtain ⟨cur, hb, _⟩ := HL1.out
      have := hb.lt
      omega
    have hG : w.heap.size ≤ wc.heap.size := HF1.out.size
    clear HT1 HC1 HL1 HF1 HT HL HF
    go_upto_block 4 with fail
    generalize hGe : wc.heap.size = G at B0 hpG hG ⊢
    go_cut [6, 7, 8] from 43 to 72 (fun s6 s7 s8 wx => ∃ ls ms ds cur, Hid (Big w wx base m p G vs ns ls ms ds cur) ∧ Hid (∀ k, k < m → ms k = ns k + 64 ∧ ds k = mk k (ms k) ∧ cur[k]? = some (ls k)))
    case first =>
      go_wp2_with fail
      go_loopw [6, 7, 8] (fun a s7 s8 wr => ∃ j ls ms ds cur, j ≤ m ∧ a = .int .i64 (j : Nat) ∧ Hid (Big w wr base m p G vs ns ls ms ds cur) ∧ Hid (cur.size = m) ∧ Hid (∀ k, k < j → ms k = ns k + 64 ∧ ds k = mk k (ms k) ∧ cur[k]? = some (ls k)) ∧ Hid (∀ k, j ≤ k → ls k = vs k ∧ ms k = ns k ∧ ds k = mk k (ns k))) (fun a _ _ _ => m - (intOf a).toNat)
      case atStart => exact ⟨0, vs, ns, fun k => mk k (ns k), Z, Nat.zero_le _, rfl, B0, hZ, (fun k hk => by omega), (fun k hk => ⟨rfl, rfl, rfl⟩)⟩
      case round =>
        obtain ⟨j, ls, ms, ds, cur, hj, rfl, HB1, HS1, HC1, HD1⟩ := hrel
        clear B0
        by_cases hlt : j < m
        · obtain ⟨A, c, hv, hc, hA⟩ := HB1.out.two.form j hlt
          have p0 : wr.cell? ⟨p, j, none⟩ = some (.slice A (ns j) c) := by rw [← hv]; exact HB1.out.lst.cell j hlt
          go_wp2_with fail
          go_loopw [7, 8] (fun s7 b wr => ∃ q ls ms ds, q ≤ 64 ∧ s7 = ls j ∧ b = .int .i64 (q : Nat) ∧ Hid (Big w wr base m p G vs ns ls ms ds cur) ∧ Hid (ms j = ns j + q ∧ ds j = mk j (ns j + q)) ∧ Hid (∀ k, k < j → ms k = ns k + 64 ∧ ds k = mk k (ms k) ∧ cur[k]? = some (ls k)) ∧ Hid (∀ k, j < k → ls k = vs k ∧ ms k = ns k ∧ ds k = mk k (ns k))) (fun _ b _ => 64 - (intOf b).toNat)
          case atStart => exact ⟨0, ls, ms, ds, by omega, by rw [(HD1.out j (Nat.le_refl _)).1, hv], rfl, HB1, ⟨(HD1.out j (Nat.le_refl _)).2.1, (HD1.out j (Nat.le_refl _)).2.2⟩, HC1, fun k hk => HD1.out k (by omega)⟩
          case round =>
            obtain ⟨q, ls2, ms2, ds2, hq, rfl, rfl, HB2, HM2, HC2, HD2⟩ := hrel
            clear HB1 HC1 HD1 p0
            have hnj := HN.out j hlt
            by_cases hq2 : q < 64
            · have p0 : wr.cell? ⟨p, j, none⟩ = some (.slice A (ns j) c) := by rw [← hv]; exact HB2.out.lst.cell j hlt
              have hcall := fun W => markByte_any W j (ns j + q) (by omega) (by omega)
              simp only [Int.natCast_add] at hcall
              have hbs : base ≤ wr.heap.size := by have := HB2.out.frm.size; omega
              go_wp2_with (first | (go_at_call 72; refine (hcall _).mono ?_; rintro e w' ⟨rfl, rfl⟩) | (at_builtin; refine wpList_append_keep rfl (.tmp 57) (.tmp 67) rfl base (ls2 j) (ms2 j) (ds2 j) rfl ((HB2.out.alloc _).two.long j hlt) ⟨_, 0, none⟩ 1 1 [markK j (ns j + q)] rfl rfl (news1 _ _) (by omega) (by have := HM2.out.1; omega) (by simp; omega) ?_; intro g' cap' w2 hown' hkeep'))
              obtain ⟨hms, hds⟩ := HM2.out
              have HB3 := Lib.hid ((HB2.out.alloc _).app j hlt 1 _ g' cap' hown' hkeep')
              clear hown' hkeep'
              go_roundw
              case rel =>
                refine ⟨q + 1, upd ls2 j _, upd ms2 j _, upd ds2 j _, by omega, by rw [upd_same], by go_num, HB3, ⟨?_, ?_⟩, fun k hk => ?_, fun k hk => ?_⟩
                · rw [upd_same]; omega
                · rw [upd_same, hds, ← mk_succ]; rfl
                · rw [upd_other _ _ (by omega), upd_other _ _ (by omega), upd_other _ _ (by omega)]; exact HC2.out k hk
                · rw [upd_other _ _ (by omega), upd_other _ _ (by omega), upd_other _ _ (by omega)]; exact HD2.out k hk
              case measure => simp [intOf]; omega
            · obtain rfl : q = 64 := by omega
              have hjs : j < cur.size := by rw [HS1.out]; exact hlt
              have d0 : wr.cell? ⟨G, j, none⟩ = some cur[j] := (HB2.out.lng.cell j).trans (Array.getElem?_eq_getElem hjs)
              have d1 := HB2.out.lng.frozen j
              obtain ⟨A2, c2, hl2⟩ := row_slice (HB2.out.two.long j hlt)
              rw [hl2]
              go_wp2_with fail
              obtain ⟨hms, hds⟩ := HM2.out
              have HB3 := Lib.hid (HB2.out.put j (.slice A2 (ms2 j) c2) hpG)
              go_roundw
              case rel =>
                refine ⟨j + 1, ls2, ms2, ds2, _, by omega, by go_num, HB3, (show (cur.setIfInBounds j _).size = m from by rw [Array.size_setIfInBounds]; exact HS1.out), fun k hk => ?_, fun k hk => HD2.out k (by omega)⟩
                by_cases hkj : k = j
                · subst hkj
                  exact ⟨hms, by rw [hms]; exact hds, by rw [hl2]; simp [hjs]⟩
                · refine ⟨(HC2.out k (by omega)).1, (HC2.out k (by omega)).2.1, ?_⟩
                  rw [Array.getElem?_setIfInBounds_ne (fun e => hkj e.symm)]
                  exact (HC2.out k (by omega)).2.2
              case measure => simp [intOf]; omega
        · go_wp2_with fail
          go_meet
          obtain rfl : j = m := by omega
          exact ⟨ls, ms, ds, cur, HB1, HC1⟩
    case rest =>
      obtain ⟨ls, ms, ds, cur, HB, HC⟩ := hcut
      clear B0
      go_upto_block 8 with fail
      go_cut [9, 10] from 73 to 122 (fun s9 s10 wx => Hid (Big w wx base m p G vs ns ls ms ds cur))
      case first =>
        go_wp2_with fail
        go_loopw [9, 10] (fun a b wr => ∃ j, j ≤ m ∧ a = .int .i64 (j : Nat) ∧ Hid (Big w wr base m p G vs ns ls ms ds cur)) (fun a _ _ => m - (intOf a).toNat)
        case atStart => exact ⟨0, Nat.zero_le _, rfl, HB⟩
        case round =>
          obtain ⟨j, hj, rfl, HB1⟩ := hrel
          clear HB
          by_cases hlt : j < m
          · go_wp2_with fail
            go_loopw [10] (fun b wr => ∃ i, i ≤ ns j + 64 ∧ b = .int .i64 (i : Nat) ∧ Hid (Big w wr base m p G vs ns ls ms ds cur)) (fun b _ => ns j + 64 - (intOf b).toNat)
            case atStart => exact ⟨0, Nat.zero_le _, rfl, HB1⟩
            case round =>
              obtain ⟨i, hi, rfl, HB2⟩ := hrel
              clear HB1
              have hnj := HN.out j hlt
              obtain ⟨A, c, hv, hc, hA⟩ := HB2.out.two.form j hlt
              obtain ⟨g2, c2, hl, hlc, hld⟩ := big_at_long HB2.out hlt (HC.out j hlt)
              have p0 : wr.cell? ⟨p, j, none⟩ = some (.slice A (ns j) c) := by rw [← hv]; exact HB2.out.lst.cell j hlt
              have q0 : wr.cell? ⟨G, j, none⟩ = some (.slice (some ⟨g2, 0, none⟩) (ns j + 64) c2) := by rw [← hl]; exact (HB2.out.lng.cell j).trans (HC.out j hlt).2.2
              by_cases hi2 : i < ns j + 64
              · have r0 := hld i hi2
                have hi3 : (i : Int) < (ns j : Int) + 64 := by omega
                by_cases hi4 : i < ns j
                · obtain ⟨g, rfl⟩ := hA (by omega)
                  have s0 := big_at_short HB2.out hlt hv i hi4
                  have g0 : decide ((i : Int) < (ns j : Int)) = true := decide_eq_true (by omega)
                  have g1 : (i : Int) < (ns j : Int) := by omega
                  clear hv hl
                  go_wp2_with fail
                  go_quiet (first | exact Calls.quiet_of_same (markByte_any _ j i (by omega) (by omega)) | exact Calls.quiet_of_same ((markByte_any _ j i (by omega) (by omega)).mono (fun e w' ⟨h1, h2⟩ => ⟨h1, h2.symm⟩)))
                  go_wp2
                  go_roundw
                  case rel => exact ⟨i + 1, by omega, by go_num, HB2.out.drewN _⟩
                  case measure => simp [intOf]; omega
                · have g0 : decide ((i : Int) < (ns j : Int)) = false := decide_eq_false (by omega)
                  have g1 : decide (i < ns j) = false := decide_eq_false (by omega)
                  have g2 : decide (ns j ≤ i) = true := decide_eq_true (by omega)
                  clear hv hl
                  go_wp2_with fail
                  go_quiet (first | exact Calls.quiet_of_same (markByte_any _ j i (by omega) (by omega)) | exact Calls.quiet_of_same ((markByte_any _ j i (by omega) (by omega)).mono (fun e w' ⟨h1, h2⟩ => ⟨h1, h2.symm⟩)))
                  go_wp2
                  go_roundw
                  case rel => exact ⟨i + 1, by omega, by go_num, HB2.out.drewN _⟩
                  case measure => simp [intOf]; omega
              · obtain rfl : i = ns j + 64 := by omega
                go_wp2_with fail
                go_roundw
                case rel => exact ⟨j + 1, by omega, by go_num, HB2⟩
                case measure => simp [intOf]; omega
          · go_wp2_with fail
            go_meet
            exact HB1
      case rest =>
        have HB4 : Hid (Big w wc base m p G vs ns ls ms ds cur) := hcut
        have HC4 : Hid (∀ k, k < m → ms k = ns k + 64 ∧ cur[k]? = some (ls k)) := fun k hk => ⟨(HC.out k hk).1, (HC.out k hk).2.2⟩
        clear HB HC hcut
        go_upto_block 12 with fail
        go_cut [11, 12, 13] from 123 to 151 (fun s11 s12 s13 wx => ∃ ls ms ds cur, Hid (Big w wx base m p G vs ns ls ms ds cur) ∧ Hid (∀ k, k < m → ms k = ns k + 64 ∧ cur[k]? = some (ls k)))
        case first =>
          go_wp2_with fail
          go_loopw [11, 12, 13] (fun a s12 s13 wr => ∃ j ls ms ds cur, j ≤ m ∧ a = .int .i64 (j : Nat) ∧ Hid (Big w wr base m p G vs ns ls ms ds cur) ∧ Hid (∀ k, k < m → ms k = ns k + 64 ∧ cur[k]? = some (ls k))) (fun a _ _ _ => m - (intOf a).toNat)
          case atStart => exact ⟨0, ls, ms, ds, cur, Nat.zero_le _, rfl, HB4, HC4⟩
          case round =>
            obtain ⟨j, ls, ms, ds, cur, hj, rfl, HB5, HC5⟩ := hrel
            clear HB4 HC4
            by_cases hlt : j < m
            · have hnj := HN.out j hlt
              have hmk2 : ∀ w, (Instr.makeSlice 22 (.int .i64 64) (.int .i64 64)).run Try.prog w = .ok (.slice (some ⟨w.heap.size, 0, none⟩) 64 64) (w.alloc (.cells (byts (List.replicate 64 0)).toArray 5)) := by
                intro w
                have := make_bytes 64 64 (by omega) (by omega) w
                simpa using this
              obtain ⟨Z2, hZ2⟩ : ∃ Z, Z = (byts (List.replicate 64 0)).toArray := ⟨_, rfl⟩
              rw [← hZ2] at hmk2
              have T0 : Hid (Row (wr.alloc (.cells Z2 5)) 0 wr.heap.size 64 64 (List.replicate 64 0)) := by
                show Row _ _ _ _ _ _
                rw [hZ2]
                exact row_made wr 0 64 (List.replicate 64 0) (by simp) (Nat.zero_le _) (by omega)
              have HB6 := Lib.hid (HB5.out.alloc (.cells Z2 5))
              have HG := Lib.hid (big_new HB5.out (Nat.le_refl _))
              clear hZ2
              go_wp2_with fail
              generalize wr.heap.size = tb at T0 HG ⊢
              go_loopw [13] (fun b wr => ∃ i ts, i ≤ 64 ∧ b = .int .i64 (i : Nat) ∧ Hid (Row wr 0 tb 64 64 ts) ∧ Hid (Big w wr base m p G vs ns ls ms ds cur)) (fun b _ => 64 - (intOf b).toNat)
              case atStart => exact ⟨0, _, by omega, rfl, T0, HB6⟩
              case round =>
                obtain ⟨i, ts, hi, rfl, T1, HB7⟩ := hrel
                clear T0 HB6
                by_cases hi2 : i < 64
                · have hcall := fun W => markByte_any W (j + m) i (by omega) (by omega)
                  simp only [Int.natCast_add] at hcall
                  have d0 := T1.out.cell i (by rw [T1.out.len]; omega)
                  have d1 := T1.out.frozen i
                  go_wp2_with (go_at_call 72; refine (hcall _).mono ?_; rintro e w' ⟨rfl, rfl⟩)
                  have T2 := Lib.hid (T1.out.set i (markK (j + m) i) _ rfl)
                  have HB8 := Lib.hid (big_far HB7.out HG.out.1 HG.out.2.1 HG.out.2.2.1 HG.out.2.2.2.1 HG.out.2.2.2.2 i (.int .u8 ((markK (j + m) i).toNat : Int)))
                  go_roundw
                  case rel => exact ⟨i + 1, _, by omega, by go_num, T2, HB8⟩
                  case measure => simp [intOf]; omega
                · obtain rfl : i = 64 := by omega
                  obtain ⟨A, c, hv, hc, hA⟩ := HB7.out.two.form j hlt
                  have p0 : wr.cell? ⟨p, j, none⟩ = some (.slice A (ns j) c) := by rw [← hv]; exact HB7.out.lst.cell j hlt
                  have hjs : j < cur.size := (Array.getElem?_eq_some_iff.1 (HC5.out j hlt).2).1
                  have hown : wr.ownsRow base 5 1 (.slice A (ns j) c) (ns j) (byts (mk j (ns j))) := by rw [← hv]; exact HB7.out.two.own j hlt
                  have hbs : base ≤ wr.heap.size := by have := HB7.out.frm.size; omega
                  have HO := Lib.hid hown
                  have HV := Lib.hid hv
                  clear hown hv
                  go_wp2_with (at_builtin; refine wpList_append_keep rfl (.tmp 148) (.tmp 149) rfl base (.slice A (ns j) c) (ns j) (mk j (ns j)) rfl HO.out ⟨tb, 0, none⟩ 64 64 ts rfl T1.out.len T1.out.rds.news (by omega) (by omega) hbs ?_; intro g' cap' w2 hown' hkeep'; have h9 := (big_back HB7.out j).app j hlt 64 ts g' cap' (by rw [upd_same, upd_same]; exact hown') (by rw [upd_same, upd_same, HV.out]; exact hkeep'); have HB9 := Lib.hid h9; have d0 := (h9.lng.cell j).trans (Array.getElem?_eq_getElem hjs); have d1 := h9.lng.frozen j; clear hown' hkeep' h9)
                  have h9 := HB9.out
                  simp only [upd_same] at h9
                  have HB10 := Lib.hid (h9.put j (.slice (some ⟨g', 0, none⟩) (ns j + 64) cap') hpG)
                  clear h9 HB9
                  go_roundw
                  case rel =>
                    refine ⟨j + 1, _, _, _, _, by omega, by go_num, HB10, fun k hk => ?_⟩
                    by_cases hkj : k = j
                    · subst hkj
                      exact ⟨by rw [upd_same], by rw [upd_same]; simp [hjs]⟩
                    · rw [upd_other _ _ hkj, upd_other _ _ hkj, upd_other _ _ hkj, upd_other _ _ hkj, Array.getElem?_setIfInBounds_ne (fun e => hkj e.symm)]
                      exact HC5.out k hk
                  case measure => simp [intOf]; omega
            · go_wp2_with fail
              go_meet
              exact ⟨ls, ms, ds, cur, HB5, fun k hk => HC5.out k hk⟩
        case rest =>
          obtain ⟨ls, ms, ds, cur, HB, HC⟩ := hcut
          clear HB4 HC4
          go_wp2_with fail
          go_loopw [14, 15] (fun a b wr => ∃ j, j ≤ m ∧ a = .int .i64 (j : Nat) ∧ Hid (Big w wr base m p G vs ns ls ms ds cur)) (fun a _ _ => m - (intOf a).toNat)
          case atStart => exact ⟨0, Nat.zero_le _, rfl, HB⟩
          case round =>
            obtain ⟨j, hj, rfl, HB1⟩ := hrel
            clear HB
            by_cases hlt : j < m
            · go_wp2_with fail
              go_loopw [15] (fun b wr => ∃ i, i ≤ ns j ∧ b = .int .i64 (i : Nat) ∧ Hid (Big w wr base m p G vs ns ls ms ds cur)) (fun b _ => ns j - (intOf b).toNat)
              case atStart => exact ⟨0, Nat.zero_le _, rfl, HB1⟩
              case round =>
                obtain ⟨i, hi, rfl, HB2⟩ := hrel
                clear HB1
                have hnj := HN.out j hlt
                obtain ⟨A, c, hv, hc, hA⟩ := HB2.out.two.form j hlt
                have p0 : wr.cell? ⟨p, j, none⟩ = some (.slice A (ns j) c) := by rw [← hv]; exact HB2.out.lst.cell j hlt
                by_cases hi2 : i < ns j
                · obtain ⟨g2, c2, hl, hlc, hld⟩ := big_at_head HB2.out hlt (HC.out j hlt).1
                  have q0 : wr.cell? ⟨G, j, none⟩ = some (.slice (some ⟨g2, 0, none⟩) (ns j + 64) c2) := by rw [← hl]; exact (HB2.out.lng.cell j).trans (HC.out j hlt).2
                  have r0 := hld i hi2
                  obtain ⟨g, rfl⟩ := hA (by omega)
                  have s0 := big_at_short HB2.out hlt hv i hi2
                  have g1 : (i : Int) < (ns j : Int) := by omega
                  have hi3 : (i : Int) < (ns j : Int) + 64 := by omega
                  clear hv hl hld
                  go_wp2_with fail
                  go_quiet (first | exact Calls.quiet_of_same (markByte_any _ j i (by omega) (by omega)) | exact Calls.quiet_of_same ((markByte_any _ j i (by omega) (by omega)).mono (fun e w' ⟨h1, h2⟩ => ⟨h1, h2.symm⟩)))
                  go_wp2
                  go_roundw
                  case rel => exact ⟨i + 1, by omega, by go_num, HB2.out.drewN _⟩
                  case measure => simp [intOf]; omega
                · obtain rfl : i = ns j := by omega
                  go_wp2_with fail
                  go_roundw
                  case rel => exact ⟨j + 1, by omega, by go_num, HB2⟩
                  case measure => simp [intOf]; omega
            · go_wp2_with fail
              go_ret
              exact ⟨rfl, HB1.out.frm⟩
end Go.Proofs.Ytgpnnnjhcjjnmaa

/- E14 -/
namespace Go.Proofs.Ytgpnnnjhcjjnmaa
open Go.RowKit

theorem lst_of_range {W : World} {base g m k : Nat} {vs : Nat → Value} (h : W.ownsRow base 22 1 (.slice (some ⟨g, 0, none⟩) m k) m ((List.range m).map vs)) : Lst W g m vs ∧ m ≤ k := by
  rcases h.2 with ⟨h0, _⟩ | ⟨g', cap, cur, he, _, hg, hnc, _, _, ht⟩
  · cases h0
  · cases he
    refine ⟨⟨cur, hg, fun j hj => ?_⟩, hnc⟩
    have e : (cur.toList.take (m * 1))[j]? = cur.toList[j]? := List.getElem?_take_of_lt (by omega)
    rw [ht] at e
    rw [← Array.getElem?_toList, ← e]
    simp [hj]

theorem Duo.no {w w' : World} {base m : Nat} {vs : Nat → Value} {ns : Nat → Nat} {cs : Nat → List UInt8} (h : Duo w base m vs ns cs vs ns cs) (hf : Frm No w w') : Duo w' base m vs ns cs vs ns cs :=
  ⟨fun k hk => hf.own (h.own k hk) (fun _ _ x => x), fun k hk => hf.own (h.long k hk) (fun _ _ x => x), h.pre, h.apart⟩

set_option maxRecDepth 100000 in
set_option maxHeartbeats 2000000 in
theorem apart_many (w : World) (m base p c0 : Nat) (vs : Nat → Value) (ns : Nat → Nat) (cs : Nat → List UInt8) (h0 : 0 < m) (hm : m ≤ 101) (hn : ∀ k, k < m → ns k ≤ 140737488351232)
    (hL : Lst w p m vs) (hT : Duo w base m vs ns cs vs ns cs) (hbase : base ≤ w.heap.size) :
    Calls Try.prog 46 #[.slice (some ⟨p, 0, none⟩) m c0] w fun e w' => e = .returned (.bool true) ∧ Frm (Own m vs) w w' := by
  have hS : Hid (¬ Own m vs w.heap.size) := by
    refine Lib.hid ?_
    rintro ⟨k, hk, hi⟩
    have := (own_lt (hT.own k hk) hi).2
    omega
  have HFL : Hid (∀ V k W, Frm No w W → W.ownsRow w.heap.size 22 1 (.slice (some V) m k) m ((List.range m).map vs) → Calls Try.prog 86 #[.slice (some V) m k] W fun e w' => e = .returned (.bool true) ∧ Frm (Own m vs) W w') := by
    refine Lib.hid fun V k W hW hown => ?_
    obtain ⟨g, c', he⟩ := own_some hown h0
    cases he
    have hl := lst_of_range hown
    have := hW.size
    exact flat_bytes W base m g _ vs ns cs hm hl.2 hn hl.1 (hT.no hW) (by omega)
  have HL := Lib.hid hL
  have HT := Lib.hid hT
  have F0 := Lib.hid (Frm.refl No w)
  clear hL hT hn
  have B1 : Hid (Blk (w.alloc (.cells (bagOf (.slice none 0 0)) 124)) w.heap.size 124 (bagOf (.slice none 0 0))) := Blk.new _ _ _
  have O1 : Hid ((w.alloc (.cells (bagOf (.slice none 0 0)) 124)).ownsRow w.heap.size 22 1 (.slice none 0 0) 0 ((List.range 0).map vs)) := by
    refine ⟨?_, .inl ⟨rfl, rfl⟩⟩
    simp
  have F1 := Lib.hid (F0.out.alloc (.cells (bagOf (.slice none 0 0)) 124))
  go_enter Try.func46, Try.ntmps46
  go_wp2_with fail
  go_loopw [4] (fun i wr => ∃ (j : Nat) (V : Value), j ≤ m ∧ i = .int .i64 j ∧ Hid (Blk wr w.heap.size 124 (bagOf V)) ∧ Hid (wr.ownsRow w.heap.size 22 1 V j ((List.range j).map vs)) ∧ Hid (Frm No w wr)) (fun i _ => m - (intOf i).toNat)
  case atStart => exact ⟨0, _, by omega, rfl, B1, O1, F1⟩
  case round =>
    obtain ⟨j, V, hj, rfl, HB, HO, HR⟩ := hrel
    clear B1 O1 F1 F0
    by_cases hlt : j < m
    · obtain ⟨A, c, hv, -, -⟩ := HT.out.form j hlt
      have p0 : wr.cell? ⟨p, j, none⟩ = some (.slice A (ns j) c) := (((HL.out.frm HR.out (fun x => x)).cell j hlt)).trans (by rw [hv])
      have HV := Lib.hid hv
      clear hv
      go_wp2_with (go_at_call 73; refine (put_bytes w.heap.size _ w.heap.size V j _ A (ns j) c (Nat.le_refl _) HB.out HO.out (by omega)).mono ?_; rintro e w' ⟨rfl, V', hb', ho', hf'⟩)
      have HB' := Lib.hid hb'
      have HO' : Hid (w'.ownsRow w.heap.size 22 1 V' (j + 1) ((List.range (j + 1)).map vs)) := by
        rw [List.range_succ, List.map_append, List.map_singleton, HV.out]
        exact ho'
      have HR' : Hid (Frm No w w') := HR.out.trans hf' (fun i hi hs => by have hs' : w.heap.size ≤ i := hs; omega)
      clear hb' ho' hf' HB HO HR
      go_roundw
      case rel => exact ⟨j + 1, V', by omega, by go_num, HB', HO', HR'⟩
      case measure => simp [intOf]; omega
    · obtain rfl : j = m := by omega
      obtain ⟨g', k', rfl⟩ := own_some HO.out h0
      go_wp2_with (go_at_call 74; refine (apart_bag _ w.heap.size _ j _ (Own j vs) HB.out hS.out (fun W hW => HFL.out _ _ W (HR.out.trans hW (fun _ _ x => x)) (hW.own HO.out (fun _ _ x => x)))).mono ?_; rintro e w' ⟨rfl, hf'⟩)
      go_ret
      exact ⟨rfl, (HR.out.of_no (Own j vs)).trans hf' (fun _ _ x => x)⟩
end Go.Proofs.Ytgpnnnjhcjjnmaa

/- Ws -/
namespace Go.Proofs.Ytgpnnnjhcjjnmaa
open Go.RowKit

/-- Rows of two kinds lie in different blocks. -/
theorem own_own_ne {w : World} {b b' n n' sz sz' : Nat} {t t' : TypeId} {v v' : Value} {xs xs' : List Value} (h : w.ownsRow b t sz v n xs) (h' : w.ownsRow b' t' sz' v' n' xs') (ht : t ≠ t') (i : Nat) (hi : v.ownBlock = some i) : v'.ownBlock ≠ some i := by
  rcases h'.2 with ⟨rfl, _⟩ | ⟨g, cap, cur, rfl, _, hg, _⟩
  · simp [Value.ownBlock]
  · intro e
    obtain rfl : g = i := by simpa [Value.ownBlock] using e
    exact own_blk_ne h (show Blk w g t' cur from hg) ht hi

structure RS (W w : World) (gr : Nat) (vr : Value) (bs : List UInt8) (k : Nat) (f : Bool) (kx : Nat) (fx : Bool) (gx : Nat) (A : Option Addr) (c g5 c5 : Nat) (V : Value) (q : Nat) (vs : Nat → Value) (ns : Nat → Nat) (cs : Nat → List UInt8) : Prop where
  rd : Rd w gr vr bs k f
  x : Blk w gx 75 #[.slice A bs.length c, .int .i64 (kx : Int), .bool fx]
  frm : Frm No W w
  br : W.heap.size ≤ gr
  bx : W.heap.size ≤ gx
  row : w.ownsRow W.heap.size 22 1 V q ((List.range q).map vs)
  duo : Duo w W.heap.size q vs ns cs vs ns cs
  lng : ∀ j, j < q → ns j ≤ 131072
  lent : ∃ zs, w.ownsRow W.heap.size 5 1 (.slice (some ⟨g5, 0, none⟩) bs.length c5) bs.length (byts zs)
  far : ∀ j, j < q → (vs j).ownBlock ≠ some g5

section
variable {W w w' : World} {gr gx : Nat} {vr : Value} {bs : List UInt8} {k k' kx kx' : Nat} {f f' fx fx' : Bool} {A : Option Addr} {c g5 c5 q : Nat} {V V' : Value} {vs : Nat → Value} {ns : Nat → Nat} {cs : Nat → List UInt8}

theorem Duo.fr {S : Nat → Prop} {base m : Nat} (h : Duo w base m vs ns cs vs ns cs) (hf : Frm S w w') (hS : ∀ j, j < m → ∀ i, (vs j).ownBlock = some i → ¬ S i) : Duo w' base m vs ns cs vs ns cs :=
  ⟨fun j hj => hf.own (h.own j hj) (hS j hj), fun j hj => hf.own (h.long j hj) (hS j hj), h.pre, h.apart⟩

theorem RS.no (h : RS W w gr vr bs k f kx fx gx A c g5 c5 V q vs ns cs) (hf : Frm No w w') : RS W w' gr vr bs k f kx fx gx A c g5 c5 V q vs ns cs :=
  ⟨h.rd.frm hf (fun x => x) (fun _ _ x => x), h.x.frm hf (fun x => x), h.frm.new0 hf, h.br, h.bx, hf.own h.row (fun _ _ x => x), h.duo.no hf, h.lng, h.lent.imp fun _ hz => hf.own hz (fun _ _ x => x), h.far⟩

/-- The program's reader has gone on. -/
theorem RS.read (h : RS W w gr vr bs k f kx fx gx A c g5 c5 V q vs ns cs) (hr : Rd w' gr vr bs k' f') (hf : Frm (One gr) w w') : RS W w' gr vr bs k' f' kx fx gx A c g5 c5 V q vs ns cs :=
  ⟨hr, h.x.frm hf (fun e => blk_apart h.x h.rd.blk (by decide) e), h.frm.new1 hf h.br, h.br, h.bx,
    hf.own h.row (fun i hi e => own_blk_ne h.row h.rd.blk (by decide) (by rw [hi]; exact congrArg some e)),
    h.duo.fr hf (fun j hj i hi e => own_blk_ne (h.duo.own j hj) h.rd.blk (by decide) (by rw [hi]; exact congrArg some e)), h.lng,
    h.lent.imp fun _ hz => hf.own hz (fun i hi e => own_blk_ne hz h.rd.blk (by decide) (by rw [hi]; exact congrArg some e)), h.far⟩

/-- The document's reader is stored. -/
theorem RS.stored (h : RS W w gr vr bs k f kx fx gx A c g5 c5 V q vs ns cs) (kx' : Nat) (fx' : Bool) :
    RS W (((w.setCell ⟨gx, 0, none⟩ (.slice A bs.length c)).setCell ⟨gx, 1, none⟩ (.int .i64 (kx' : Int))).setCell ⟨gx, 2, none⟩ (.bool fx')) gr vr bs k f kx' fx' gx A c g5 c5 V q vs ns cs := by
  have F1 : Frm (One gx) w (((w.setCell ⟨gx, 0, none⟩ (.slice A bs.length c)).setCell ⟨gx, 1, none⟩ (.int .i64 (kx' : Int))).setCell ⟨gx, 2, none⟩ (.bool fx')) := ((((Frm.refl _ w).set1 0 _).set1 1 _).set1 2 _)
  refine ⟨h.rd.frm F1 (fun e => blk_apart h.rd.blk h.x (by decide) e) (fun i hi e => own_blk_ne h.rd.own h.x (by decide) (by rw [hi]; exact congrArg some e)), ?_, h.frm.new1 F1 h.bx, h.br, h.bx,
    F1.own h.row (fun i hi e => own_blk_ne h.row h.x (by decide) (by rw [hi]; exact congrArg some e)),
    h.duo.fr F1 (fun j hj i hi e => own_blk_ne (h.duo.own j hj) h.x (by decide) (by rw [hi]; exact congrArg some e)), h.lng,
    h.lent.imp fun _ hz => F1.own hz (fun i hi e => own_blk_ne hz h.x (by decide) (by rw [hi]; exact congrArg some e)), h.far⟩
  simpa using ((h.x.set_ 0 (.slice A bs.length c)).set_ 1 (.int .i64 (kx' : Int))).set_ 2 (.bool fx')

theorem duo_push {base b m : Nat} {got : Value} {xs : List UInt8} {l : List Value} (hd : Duo w base q vs ns cs vs ns cs) (hr : w.ownsRow base 22 1 V q l) (F1 : Frm (fun i => V.ownBlock = some i) w w')
    (hb : base ≤ b) (hg : w.ownsRow b 5 1 got m (byts xs)) (hne : ∀ j, j < q → ∀ i, (vs j).ownBlock = some i → got.ownBlock ≠ some i) :
    Duo w' base (q + 1) (upd vs q got) (upd ns q m) (upd cs q xs) (upd vs q got) (upd ns q m) (upd cs q xs) := by
  have hO : ∀ j, j < q + 1 → w'.ownsRow base 5 1 (upd vs q got j) (upd ns q m j) (byts (upd cs q xs j)) := by
    intro j hj
    by_cases e : j = q
    · subst e
      rw [upd_same, upd_same, upd_same]
      exact own_mono (F1.own hg (fun i hi e => own_own_ne hg hr (by decide) i hi e)) hb
    · rw [upd_other _ _ e, upd_other _ _ e, upd_other _ _ e]
      exact F1.own (hd.own j (by omega)) (fun i hi e => own_own_ne (hd.own j (by omega)) hr (by decide) i hi e)
  have hN : ∀ i j, i < q + 1 → j < q + 1 → i ≠ j → ∀ a, (upd vs q got i).ownBlock = some a → (upd vs q got j).ownBlock ≠ some a := by
    intro i j hi hj hij a h1 h2
    by_cases e1 : i = q
    · subst e1
      have e2 : j ≠ i := fun e => hij e.symm
      rw [upd_same] at h1
      rw [upd_other _ _ e2] at h2
      exact hne j (by omega) a h2 h1
    · rw [upd_other _ _ e1] at h1
      by_cases e2 : j = q
      · subst e2
        rw [upd_same] at h2
        exact hne i (by omega) a h1 h2
      · rw [upd_other _ _ e2] at h2
        exact hd.apart i j (by omega) (by omega) hij a (.inl h1) (.inl h2)
  exact ⟨hO, hO, fun _ _ => List.prefix_refl _, fun i j hi hj hij a h1 h2 => hN i j hi hj hij a (h1.elim id id) (h2.elim id id)⟩
theorem range_push (vs : Nat → Value) (q : Nat) (got : Value) : (List.range (q + 1)).map (upd vs q got) = (List.range q).map vs ++ [got] := by
  rw [List.range_succ, List.map_append, List.map_singleton, upd_same]
  congr 1
  exact List.map_congr_left fun j hj => upd_other _ _ (by have := List.mem_range.1 hj; omega)

/-- Own rows keep their bytes when the document's reader is stored. -/
theorem RS.keeps (h : RS W w gr vr bs k f kx fx gx A c g5 c5 V q vs ns cs) {b m : Nat} {u : Value} {xs : List UInt8} (ho : w.ownsRow b 5 1 u m (byts xs)) (kx' : Nat) (fx' : Bool) :
    (((w.setCell ⟨gx, 0, none⟩ (.slice A bs.length c)).setCell ⟨gx, 1, none⟩ (.int .i64 (kx' : Int))).setCell ⟨gx, 2, none⟩ (.bool fx')).ownsRow b 5 1 u m (byts xs) := by
  have F1 : Frm (One gx) w (((w.setCell ⟨gx, 0, none⟩ (.slice A bs.length c)).setCell ⟨gx, 1, none⟩ (.int .i64 (kx' : Int))).setCell ⟨gx, 2, none⟩ (.bool fx')) := ((((Frm.refl _ w).set1 0 _).set1 1 _).set1 2 _)
  exact F1.own ho (fun i hi e => own_blk_ne ho h.x (by decide) (by rw [hi]; exact congrArg some e))

theorem news22 (w : World) (v : Value) : ∀ (j : Nat) (u : Value), [v][j]? = some u → (w.alloc (.cells #[v] 22)).cell? ((⟨w.heap.size, 0, none⟩ : Addr).add j) = some u := by
  intro j u hu
  have hj : j = 0 := by
    have := (List.getElem?_eq_some_iff.1 hu).1
    simp at this
    omega
  subst hj
  simp at hu
  subst hu
  exact (Blk.new w 22 #[v]).cell 0

/-- What was read joins the list. -/
theorem RS.push (h : RS W w gr vr bs k f kx fx gx A c g5 c5 V q vs ns cs) {b m : Nat} {got : Value} {xs : List UInt8} {o : Obj} (hb : W.heap.size ≤ b) (hg : w.ownsRow b 5 1 got m (byts xs)) (hm : m ≤ 131072)
    (h5 : got.ownBlock ≠ some g5) (hne : ∀ j, j < q → ∀ i, (vs j).ownBlock = some i → got.ownBlock ≠ some i)
    (hrow : w'.ownsRow W.heap.size 22 1 V' (q + 1) ((List.range q).map vs ++ [got])) (hgr : (w.alloc o).grownBy w' V.ownBlock) :
    RS W w' gr vr bs k f kx fx gx A c g5 c5 V' (q + 1) (upd vs q got) (upd ns q m) (upd cs q xs) := by
  have F1 : Frm (fun i => V.ownBlock = some i) w w' := ((Frm.refl (fun i => V.ownBlock = some i) w).alloc o).trans (Frm.of_grown hgr) (fun i _ e => e)
  refine ⟨h.rd.frm F1 (fun e => own_blk_ne h.row h.rd.blk (by decide) e) (fun i hi e => own_own_ne h.rd.own h.row (by decide) i hi e), h.x.frm F1 (own_blk_ne h.row h.x (by decide)), h.frm.trans F1 (fun i hi e => by have := (own_lt h.row e).1; omega), h.br, h.bx, ?_,
    duo_push h.duo h.row F1 hb hg hne, ?_, h.lent.imp fun _ hz => F1.own hz (fun i hi e => own_own_ne hz h.row (by decide) i hi e), ?_⟩
  · rw [range_push]
    exact hrow
  · intro j hj
    by_cases e : j = q
    · subst e
      rw [upd_same]
      exact hm
    · rw [upd_other _ _ e]
      exact h.lng j (by omega)
  · intro j hj
    by_cases e : j = q
    · subst e
      rw [upd_same]
      exact h5
    · rw [upd_other _ _ e]
      exact h.far j (by omega)
/-- The end: the list and what was lent share no memory. -/
theorem RS.fin (h : RS W w gr vr bs k f kx fx gx A c g5 c5 V q vs ns cs) {o : Obj} (hq : q ≤ 100) (hn : bs.length ≤ 131072)
    (hrow : w'.ownsRow W.heap.size 22 1 V' (q + 1) ((List.range q).map vs ++ [.slice (some ⟨g5, 0, none⟩) bs.length c5])) (hgr : (w.alloc o).grownBy w' V.ownBlock) :
    Calls Try.prog 46 #[V'] w' fun e w'' => e = .returned (.bool true) ∧ Frm No W w'' := by
  have F1 : Frm (fun i => V.ownBlock = some i) w w' := ((Frm.refl (fun i => V.ownBlock = some i) w).alloc o).trans (Frm.of_grown hgr) (fun i _ e => e)
  obtain ⟨zs, hz⟩ := h.lent
  have hD := duo_push h.duo h.row F1 (Nat.le_refl _) hz (fun j hj i hi e => h.far j hj (by rw [hi]; exact e.symm ▸ rfl))
  have hW : Frm No W w' := h.frm.trans F1 (fun i hi e => by have := (own_lt h.row e).1; omega)
  rw [← range_push] at hrow
  obtain ⟨g, k', rfl⟩ := own_some hrow (by omega)
  have hL := lst_of_range hrow
  refine (apart_many w' (q + 1) W.heap.size g k' _ _ _ (by omega) (by omega) (fun j hj => ?_) hL.1 hD hW.size).mono fun e w'' ⟨he, hf⟩ => ⟨he, hW.trans hf (fun i hi ⟨j, hj, e⟩ => ?_)⟩
  · by_cases e : j = q
    · subst e
      rw [upd_same]
      omega
    · rw [upd_other _ _ e]
      have := h.lng j (by omega)
      omega
  · have := (own_lt (hD.own j hj) e).1
    omega
end
end Go.Proofs.Ytgpnnnjhcjjnmaa

/- Wq -/
namespace Go.Proofs.Ytgpnnnjhcjjnmaa
open Go.RowKit
attribute [local go_sem] undef
attribute [local irreducible] wpList

set_option maxRecDepth 100000 in
set_option maxHeartbeats 1000000 in
theorem reads_much (w : World) (A B : Option Addr) (n c l d : Nat) (h : 100 < l) : Calls Try.prog 12 #[.slice A n c, .slice B l d] w fun e w' => e = .returned (.bool true) ∧ Frm No w w' := by
  have q1 : (100 : Int) < l := by omega
  go_enter Try.func12, Try.ntmps12
  go_wp2
  go_ret
  exact ⟨rfl, Frm.refl _ _⟩

set_option maxRecDepth 100000 in
set_option maxHeartbeats 2000000 in
theorem reads_long (w : World) (A B : Option Addr) (n c l d : Nat) (bs : List UInt8) (hn : bs.length = n) (hs : Src w A c bs) (h1 : l ≤ 100) (h2 : 131072 < n) (h4 : n ≤ 140737488351232) :
    Calls Try.prog 12 #[.slice A n c, .slice B l d] w fun e w' => e = .returned (.bool true) ∧ Frm No w w' := by
  have q1 : ¬ (100 : Int) < l := by omega
  have HS := Lib.hid hs
  have HN := Lib.hid hn
  clear hs hn
  go_enter Try.func12, Try.ntmps12
  go_wp2_with fail
  refine (lent _ A c n bs HN.out HS.out (by omega)).mono ?_
  rintro e w1 ⟨A5, c5, he, ho5, hf5⟩
  rw [HN.out] at he
  subst he
  have O5 := Lib.hid ho5
  have F5 := Lib.hid hf5
  clear ho5 hf5
  have NR := Lib.hid (newReader_long w1 A5 c5 n h2)
  have KB := Lib.hid (kept_bytes w1 A5 A c5 c n bs HN.out (by have := (lent_src O5.out).2.2; have := HN.out; omega) (lent_src O5.out).2.1 (HS.out.rds.frm F5.out (fun _ _ x => x)) (by omega))
  have q2 : (131072 : Int) < n := by omega
  go_wp2_with fail
  refine NR.out.mono ?_
  rintro e w2 ⟨rfl, rfl⟩
  go_wp2_with fail
  refine KB.out.mono ?_
  rintro e w3 ⟨rfl, n3, rfl⟩
  have F6 := Lib.hid (F5.out.drewN n3)
  go_wp2_with fail
  go_ret
  exact ⟨rfl, F6.out⟩
end Go.Proofs.Ytgpnnnjhcjjnmaa

/- Wr -/
namespace Go.Proofs.Ytgpnnnjhcjjnmaa
open Go.RowKit
attribute [local go_sem] undef
attribute [local irreducible] wpList

set_option maxRecDepth 100000 in
set_option maxHeartbeats 4000000 in
theorem reads_ok (w : World) (A B : Option Addr) (c n l d : Nat) (bs : List UInt8) (hn : bs.length = n) (acts : List (Nat × Int)) (hl : acts.length = l) (hs : Src w A c bs) (ha : Acts w B acts) (h1 : l ≤ 100) (h2 : n ≤ 131072) :
    Calls Try.prog 12 #[.slice A n c, .slice B l d] w fun e w' => e = .returned (.bool true) ∧ Frm No w w' := by
  subst hn
  obtain ⟨i0, hi, hz0, hz1, hz2⟩ := info_parts info22
  have q1 : ¬ (100 : Int) < l := by omega
  have q2 : ¬ (131072 : Int) < bs.length := by omega
  have HS := Lib.hid hs
  have HA := Lib.hid ha
  have HL := Lib.hid hl
  clear hs ha hl
  go_enter Try.func12, Try.ntmps12
  go_wp2_with fail
  refine (lent _ A c bs.length bs rfl HS.out (by omega)).mono ?_
  rintro e w1 ⟨A5, c5, rfl, ho5, hf5⟩
  obtain ⟨g5, k5, he5⟩ := own_some ho5 (by omega)
  injection he5 with e1 e2 e3
  subst e1 e3
  have O5 := Lib.hid ho5
  have F5 := Lib.hid hf5
  clear ho5 hf5 e2
  have NR := Lib.hid (newReader w1 (some ⟨g5, 0, none⟩) c5 bs (lent_src O5.out).1.rds (by omega))
  go_wp2_with fail
  refine NR.out.mono ?_
  rintro e w2 ⟨gr, vr, rfl, hgr, hvr, hrd, hf2⟩
  have R2 := Lib.hid hrd
  have F2 := Lib.hid hf2
  have G2 := Lib.hid hgr
  have V2 := Lib.hid hvr
  clear hrd hf2 hgr hvr NR
  have O2 := Lib.hid (F2.out.own O5.out (fun _ _ x => x))
  go_wp2_with fail
  refine (kept_bytes _ (some ⟨g5, 0, none⟩) A c5 c bs.length bs rfl (lent_src O5.out).2.2 (lent_src O2.out).2.1 (HS.out.rds.frm (F5.out.new0 F2.out) (fun _ _ x => x)) (by omega)).mono ?_
  rintro e w3 ⟨rfl, n3, rfl⟩
  have O3 : Hid ((w2.drewN n3).ownsRow w.heap.size 5 1 (.slice (some ⟨g5, 0, none⟩) bs.length c5) bs.length (byts bs)) :=
    own_short (show (w2.drewN n3).ownsRow w.heap.size 5 1 (.slice (some ⟨g5, 0, none⟩) (bs.length + 12) c5) (bs.length + 12) (byts (bs ++ marks 12)) from O2.out) rfl (by decide)
  have OK := Lib.hid (over_keep (w2.drewN n3) O3.out (.inr (by simp [Value.ownBlock])) (by omega))
  go_wp2_with fail
  refine OK.out.mono ?_
  rintro e w4 ⟨⟨rfl, hf4⟩, zs, hz4⟩
  have F4 : Hid (Frm No w w4) := ((F5.out.new0 F2.out).drewN n3).trans hf4 (fun i hi e => by have := (own_lt O5.out e).1; omega)
  have R4 : Hid (Rd w4 gr vr bs 0 false) := (R2.out.drewN n3).frm hf4 (fun e => own_blk_ne O3.out (R2.out.drewN n3).blk (by decide) e) (fun i hi e => by have := V2.out i hi; have := (own_lt O5.out e).2; omega)
  have Z4 := Lib.hid hz4
  clear hf4 hz4 OK
  go_wp2_with fail
  have RS0 : Hid (RS w (w4.alloc (.cells #[.slice A bs.length c, .int .i64 0, .bool false] 75)) gr vr bs 0 false 0 false w4.heap.size A c g5 c5 (.slice none 0 0) 0 (fun _ => .slice none 0 0) (fun _ => 0) (fun _ => [])) := by
    refine ⟨R4.out.frm ((Frm.refl No w4).alloc _) (fun x => x) (fun _ _ x => x), Blk.new _ _ _, F4.out.alloc _, Nat.le_trans F5.out.size G2.out, F4.out.size, ⟨by simp, .inl ⟨rfl, rfl⟩⟩,
      ⟨fun k h => absurd h (Nat.not_lt_zero k), fun k h => absurd h (Nat.not_lt_zero k), fun k h => absurd h (Nat.not_lt_zero k), fun k _ h => absurd h (Nat.not_lt_zero k)⟩, fun k h => absurd h (Nat.not_lt_zero k), ⟨zs, Z4.out.alloc _⟩, fun k h => absurd h (Nat.not_lt_zero k)⟩
  obtain ⟨W2, hW2⟩ : ∃ W, w4.alloc (.cells #[.slice A bs.length c, .int .i64 0, .bool false] 75) = W := ⟨_, rfl⟩
  obtain ⟨gx, hgx⟩ : ∃ g, w4.heap.size = g := ⟨_, rfl⟩
  rw [hW2, hgx] at RS0
  rw [hW2, hgx]
  clear hW2 hgx F4 R4 Z4 O3 O2 O5 F5 R2 F2 G2 V2
  clear q1 q2
  go_loopw [9, 59] (fun V i wr => ∃ (j k : Nat) (f : Bool) (q : Nat) (vs : Nat → Value) (ns : Nat → Nat) (cs : Nat → List UInt8), j ≤ l ∧ i = .int .i64 (j : Int) ∧ q ≤ j ∧ Hid (RS w wr gr vr bs k f k f gx A c g5 c5 V q vs ns cs)) (fun _ i _ => l - (intOf i).toNat)
  case atStart => exact ⟨0, 0, false, 0, _, _, _, Nat.zero_le _, rfl, Nat.le_refl _, RS0⟩
  case round =>
    obtain ⟨j, k, f, q, vs, ns, cs, hj, rfl, hqj, HW⟩ := hrel
    clear RS0
    by_cases hlt : j < l
    · have q0 : (j : Int) < l := by omega
      obtain ⟨ad, rfl, had, hcell⟩ := (HA.out.frm HW.out.frm) (by have := HL.out; omega)
      obtain ⟨h0, h1, hk0, hn0, hn1⟩ := hcell j (by have := HL.out; omega)
      obtain ⟨kd, hkd⟩ : ∃ x, x = (acts[j]'(by have := HL.out; omega)).1 := ⟨_, rfl⟩
      obtain ⟨nn, hnn⟩ : ∃ x, x = (acts[j]'(by have := HL.out; omega)).2 := ⟨_, rfl⟩
      rw [← hkd] at h0 hk0
      rw [← hnn] at h1 hn0 hn1
      clear hkd hnn hcell
      have h2' : wr.cell? ⟨(ad.add (j * 2)).block, (ad.add (j * 2)).off + 1, none⟩ = some (.int .i64 nn) := by rw [add_next]; exact h1
      clear h1 had
      go_upto_region 15 with fail
      have AX : ∃ gl W4, wr.heap.size = gl ∧ wr.alloc (.cells #[.int .u8 (kd : Int), .int .i64 nn] 30) = W4 ∧ Hid (Blk W4 gl 30 #[.int .u8 (kd : Int), .int .i64 nn]) ∧ Hid (Frm No wr W4) :=
        ⟨_, _, rfl, rfl, Blk.new _ _ _, (Frm.refl No _).alloc _⟩
      obtain ⟨gl, W4, hgl, hW4, BX, FX⟩ := AX
      have HW4 := Lib.hid (HW.out.no FX.out)
      rw [hW4, hgl]
      clear hW4 hgl h0 h2' HW FX
      have hgl0 : W4.cell? ⟨gl, 0, none⟩ = some (.int .u8 (kd : Int)) := BX.out.cell 0
      go_upto_block 2 with fail
      go_cut [9, 12, 13, 14, 15, 16] from 65 to 139 (fun s9 _ _ _ _ _ wx => ∃ (k' : Nat) (f' : Bool) (q' : Nat) (vs' : Nat → Value) (ns' : Nat → Nat) (cs' : Nat → List UInt8), q' ≤ j + 1 ∧ Hid (RS w wx gr vr bs k' f' k' f' gx A c g5 c5 s9 q' vs' ns' cs'))
      case first =>
        have hgl1 : W4.cell? ⟨gl, 1, none⟩ = some (.int .i64 nn) := BX.out.cell 1
        rcases (show kd % 5 = 0 ∨ kd % 5 = 1 ∨ kd % 5 = 2 ∨ kd % 5 = 3 ∨ kd % 5 = 4 by omega) with hq | hq | hq | hq | hq
        · have q1 : (kd : Int) % 5 = 0 := by omega
          clear hq
          as_aux_lemma =>
            obtain ⟨ys, hys⟩ : ∃ x, rOut bs k f 1 = x := ⟨_, rfl⟩
            obtain ⟨kk, hkk⟩ : ∃ x, rAt bs k f 1 = x := ⟨_, rfl⟩
            obtain ⟨ff, hff⟩ : ∃ x, (!fits bs k f 1) = x := ⟨_, rfl⟩
            obtain ⟨z, hz⟩ : ∃ x, be (rOut bs k f 1) = x := ⟨_, rfl⟩
            have hyl : (rOut bs k f 1).length ≤ 1 := rOut_le bs k f 1
            have hzl := be_lt _ (rOut bs k f 1) rfl
            have hpow : 256 ^ (rOut bs k f 1).length ≤ 256 ^ 1 := Nat.pow_le_pow_right (by decide) hyl
            have RU := Lib.hid (rU8 HW4.out.rd)
            rw [hz] at RU hzl
            have qz : (z : Int) < 256 := by omega
            clear hzl hpow
            rw [hys] at hyl hz
            have HY := Lib.hid hyl
            have HZ := Lib.hid hz
            clear hyl hz
            go_wp2_with fail
            refine RU.out.mono ?_
            rintro e w5 ⟨rfl, hr5, hf5⟩
            rw [hkk, hff] at hr5
            have H5 := Lib.hid (HW4.out.read hr5 hf5)
            have RD := Lib.hid (ref_read w5 A c k bs f (HS.out.frm H5.out.frm (fun _ _ x => x)) HW4.out.rd.le h2 1)
            have x0 := H5.out.x.cell 0
            have x1 := H5.out.x.cell 1
            have x2 := H5.out.x.cell 2
            have y1 := (BX.out.frm hf5 (fun e => blk_apart BX.out HW4.out.rd.blk (by decide) e)).cell 1
            clear hr5 hf5 hgl1 hgl0
            go_wp2_with fail
            refine RD.out.mono ?_
            rintro e w6 ⟨u6, he, ho6, hf6⟩
            rw [hkk, hff] at he
            rw [hys] at ho6
            subst he
            have H6 := Lib.hid (H5.out.no hf6)
            have d0 := H6.out.x.cell 0
            have d1 := H6.out.x.cell 1
            have d2 := H6.out.x.cell 2
            have e0 := H6.out.x.frozen 0
            have e1 := H6.out.x.frozen 1
            have e2 := H6.out.x.frozen 2
            have WF := Lib.hid (H6.out.stored kk ff)
            have hoS := H6.out.keeps ho6 kk ff
            obtain ⟨A6, c6, rfl, -, hs6, -⟩ := Src.of_own hoS
            have S6 := Lib.hid hs6
            have RN := Lib.hid (ref_number _ A6 c6 ys S6.out.rds (by have := HY.out; omega))
            rw [HZ.out] at RN
            clear hf6 ho6 hs6 hoS hys hkk hff x0 x1 x2 y1
            go_wp2_with fail
            refine RN.out.mono ?_
            rintro e w7 ⟨rfl, rfl⟩
            go_wp2_with fail
            go_meet
            exact ⟨_, _, _, _, _, _, by omega, WF.out⟩
        · have q1 : (kd : Int) % 5 = 1 := by omega
          clear hq
          as_aux_lemma =>
            obtain ⟨ys, hys⟩ : ∃ x, rOut bs k f 2 = x := ⟨_, rfl⟩
            obtain ⟨kk, hkk⟩ : ∃ x, rAt bs k f 2 = x := ⟨_, rfl⟩
            obtain ⟨ff, hff⟩ : ∃ x, (!fits bs k f 2) = x := ⟨_, rfl⟩
            obtain ⟨z, hz⟩ : ∃ x, be (rOut bs k f 2) = x := ⟨_, rfl⟩
            have hyl : (rOut bs k f 2).length ≤ 2 := rOut_le bs k f 2
            have hzl := be_lt _ (rOut bs k f 2) rfl
            have hpow : 256 ^ (rOut bs k f 2).length ≤ 256 ^ 2 := Nat.pow_le_pow_right (by decide) hyl
            have RU := Lib.hid (rU16 HW4.out.rd)
            rw [hz] at RU hzl
            have qz : (z : Int) < 65536 := by omega
            clear hzl hpow
            rw [hys] at hyl hz
            have HY := Lib.hid hyl
            have HZ := Lib.hid hz
            clear hyl hz
            go_wp2_with fail
            refine RU.out.mono ?_
            rintro e w5 ⟨rfl, hr5, hf5⟩
            rw [hkk, hff] at hr5
            have H5 := Lib.hid (HW4.out.read hr5 hf5)
            have RD := Lib.hid (ref_read w5 A c k bs f (HS.out.frm H5.out.frm (fun _ _ x => x)) HW4.out.rd.le h2 2)
            have x0 := H5.out.x.cell 0
            have x1 := H5.out.x.cell 1
            have x2 := H5.out.x.cell 2
            have y1 := (BX.out.frm hf5 (fun e => blk_apart BX.out HW4.out.rd.blk (by decide) e)).cell 1
            clear hr5 hf5 hgl1 hgl0
            go_wp2_with fail
            refine RD.out.mono ?_
            rintro e w6 ⟨u6, he, ho6, hf6⟩
            rw [hkk, hff] at he
            rw [hys] at ho6
            subst he
            have H6 := Lib.hid (H5.out.no hf6)
            have d0 := H6.out.x.cell 0
            have d1 := H6.out.x.cell 1
            have d2 := H6.out.x.cell 2
            have e0 := H6.out.x.frozen 0
            have e1 := H6.out.x.frozen 1
            have e2 := H6.out.x.frozen 2
            have WF := Lib.hid (H6.out.stored kk ff)
            have hoS := H6.out.keeps ho6 kk ff
            obtain ⟨A6, c6, rfl, -, hs6, -⟩ := Src.of_own hoS
            have S6 := Lib.hid hs6
            have RN := Lib.hid (ref_number _ A6 c6 ys S6.out.rds (by have := HY.out; omega))
            rw [HZ.out] at RN
            clear hf6 ho6 hs6 hoS hys hkk hff x0 x1 x2 y1
            go_wp2_with fail
            refine RN.out.mono ?_
            rintro e w7 ⟨rfl, rfl⟩
            go_wp2_with fail
            go_meet
            exact ⟨_, _, _, _, _, _, by omega, WF.out⟩
        · have q1 : (kd : Int) % 5 = 2 := by omega
          clear hq
          as_aux_lemma =>
            obtain ⟨ys, hys⟩ : ∃ x, rOut bs k f 4 = x := ⟨_, rfl⟩
            obtain ⟨kk, hkk⟩ : ∃ x, rAt bs k f 4 = x := ⟨_, rfl⟩
            obtain ⟨ff, hff⟩ : ∃ x, (!fits bs k f 4) = x := ⟨_, rfl⟩
            obtain ⟨z, hz⟩ : ∃ x, be (rOut bs k f 4) = x := ⟨_, rfl⟩
            have hyl : (rOut bs k f 4).length ≤ 4 := rOut_le bs k f 4
            have hzl := be_lt _ (rOut bs k f 4) rfl
            have hpow : 256 ^ (rOut bs k f 4).length ≤ 256 ^ 4 := Nat.pow_le_pow_right (by decide) hyl
            have RU := Lib.hid (rU32 HW4.out.rd)
            rw [hz] at RU hzl
            have qz : (z : Int) < 4294967296 := by omega
            clear hzl hpow
            rw [hys] at hyl hz
            have HY := Lib.hid hyl
            have HZ := Lib.hid hz
            clear hyl hz
            go_wp2_with fail
            refine RU.out.mono ?_
            rintro e w5 ⟨rfl, hr5, hf5⟩
            rw [hkk, hff] at hr5
            have H5 := Lib.hid (HW4.out.read hr5 hf5)
            have RD := Lib.hid (ref_read w5 A c k bs f (HS.out.frm H5.out.frm (fun _ _ x => x)) HW4.out.rd.le h2 4)
            have x0 := H5.out.x.cell 0
            have x1 := H5.out.x.cell 1
            have x2 := H5.out.x.cell 2
            have y1 := (BX.out.frm hf5 (fun e => blk_apart BX.out HW4.out.rd.blk (by decide) e)).cell 1
            clear hr5 hf5 hgl1 hgl0
            go_wp2_with fail
            refine RD.out.mono ?_
            rintro e w6 ⟨u6, he, ho6, hf6⟩
            rw [hkk, hff] at he
            rw [hys] at ho6
            subst he
            have H6 := Lib.hid (H5.out.no hf6)
            have d0 := H6.out.x.cell 0
            have d1 := H6.out.x.cell 1
            have d2 := H6.out.x.cell 2
            have e0 := H6.out.x.frozen 0
            have e1 := H6.out.x.frozen 1
            have e2 := H6.out.x.frozen 2
            have WF := Lib.hid (H6.out.stored kk ff)
            have hoS := H6.out.keeps ho6 kk ff
            obtain ⟨A6, c6, rfl, -, hs6, -⟩ := Src.of_own hoS
            have S6 := Lib.hid hs6
            have RN := Lib.hid (ref_number _ A6 c6 ys S6.out.rds (by have := HY.out; omega))
            rw [HZ.out] at RN
            clear hf6 ho6 hs6 hoS hys hkk hff x0 x1 x2 y1
            go_wp2_with fail
            refine RN.out.mono ?_
            rintro e w7 ⟨rfl, rfl⟩
            go_wp2_with fail
            go_meet
            exact ⟨_, _, _, _, _, _, by omega, WF.out⟩
        · have q1 : (kd : Int) % 5 = 3 := by omega
          clear hq
          as_aux_lemma =>
            obtain ⟨ys, hys⟩ : ∃ x, rOut bs k f nn = x := ⟨_, rfl⟩
            obtain ⟨kk, hkk⟩ : ∃ x, rAt bs k f nn = x := ⟨_, rfl⟩
            obtain ⟨ff, hff⟩ : ∃ x, (!fits bs k f nn) = x := ⟨_, rfl⟩
            have hyl := rOut_le2 bs k f nn
            rw [hys] at hyl
            have HY := Lib.hid hyl
            clear hyl
            go_wp2_with fail
            refine (rBytes HW4.out.rd nn).mono ?_
            rintro e w5 ⟨x5, rfl, ho5, hr5, hf5⟩
            rw [hkk, hff] at hr5
            rw [hys] at ho5
            have H5 := Lib.hid (HW4.out.read hr5 hf5)
            have O5 := Lib.hid ho5
            obtain ⟨A5, k5, rfl⟩ := own_slice ho5
            clear ho5
            have RD := Lib.hid (ref_read w5 A c k bs f (HS.out.frm H5.out.frm (fun _ _ x => x)) HW4.out.rd.le h2 nn)
            have x0 := H5.out.x.cell 0
            have x1 := H5.out.x.cell 1
            have x2 := H5.out.x.cell 2
            have y1 := (BX.out.frm hf5 (fun e => blk_apart BX.out HW4.out.rd.blk (by decide) e)).cell 1
            clear hr5 hf5 hgl1 hgl0
            go_wp2_with fail
            refine RD.out.mono ?_
            rintro e w6 ⟨u6, he, ho6, hf6⟩
            rw [hkk, hff] at he
            rw [hys] at ho6
            subst he
            have H6 := Lib.hid (H5.out.no hf6)
            have d0 := H6.out.x.cell 0
            have d1 := H6.out.x.cell 1
            have d2 := H6.out.x.cell 2
            have e0 := H6.out.x.frozen 0
            have e1 := H6.out.x.frozen 1
            have e2 := H6.out.x.frozen 2
            have WF := Lib.hid (H6.out.stored kk ff)
            have hoS := H6.out.keeps ho6 kk ff
            obtain ⟨A6, c6, rfl, -, hs6, -⟩ := Src.of_own hoS
            have S6 := Lib.hid hs6
            have O6 := Lib.hid (H6.out.keeps (hf6.own O5.out (fun _ _ x => x)) kk ff)
            obtain ⟨A5', k5', he5, -, hs5, -⟩ := Src.of_own O6.out
            injection he5 with i1 i2 i3
            subst i1 i3
            have SB := Lib.hid (sames_any _ A5 A6 k5 c6 ys ys hs5.rds S6.out.rds (by have := HY.out; omega))
            clear hf6 ho6 hs6 hoS hys hkk hff x0 x1 x2 y1 hs5 i2
            go_wp2_with fail
            refine SB.out.mono ?_
            rintro e w8 ⟨he, n8, rfl⟩
            replace he : e = .returned (.bool true) := by simpa using he
            subst he
            have HD := Lib.hid (WF.out.no ((Frm.refl No _).drewN n8))
            have OD := Lib.hid (((Frm.refl No _).drewN n8).own O6.out (fun _ _ x => x))
            obtain ⟨W8, hW8⟩ : ∃ W, ((((w6.setCell ⟨gx, 0, none⟩ (.slice A bs.length c)).setCell ⟨gx, 1, none⟩ (.int .i64 (kk : Int))).setCell ⟨gx, 2, none⟩ (.bool ff)).drewN n8) = W := ⟨_, rfl⟩
            rw [hW8] at HD OD ⊢
            clear hW8 SB S6 WF
            go_wp2_with (at_builtin; refine wpList_append_own _ rfl (.tmp 136) (.tmp 138) 76 rfl w.heap.size 22 i0 (.slice none 0 0) 1 24 Try.underlying76 hi hz0 hz1 hz2 rfl (by decide) _ _ _ rfl (HD.out.row.alloc _) ⟨_, 0, none⟩ 1 1 [.slice A5 ys.length k5] rfl rfl (news22 _ _) (by simp [Value.oneCell']) (by unfold maxLen; omega) (by omega) (Nat.le_trans HD.out.frm.size (by simp)) ?_; intro v' w9 hown' hgr _)
            have HP := Lib.hid (HD.out.push HW4.out.frm.size OD.out (by have := HY.out; omega)
              (fun e => by obtain ⟨zs, hz⟩ := HW4.out.lent; have h3 : g5 < W4.heap.size := (own_lt hz rfl).2; have h4 := (own_lt O6.out e).1; omega)
              (fun i hi a h3 e => by have h4 := (own_lt (HW4.out.duo.own i hi) h3).2; have h5 := (own_lt O6.out e).1; omega) hown' hgr)
            go_meet
            exact ⟨_, _, _, _, _, _, by omega, HP.out⟩
        · have q1 : (kd : Int) % 5 = 4 := by omega
          clear hq
          as_aux_lemma =>
            obtain ⟨ys, hys⟩ : ∃ x, rOut bs k f nn = x := ⟨_, rfl⟩
            obtain ⟨kk, hkk⟩ : ∃ x, rAt bs k f nn = x := ⟨_, rfl⟩
            obtain ⟨ff, hff⟩ : ∃ x, (!fits bs k f nn) = x := ⟨_, rfl⟩
            go_wp2_with fail
            refine (rSkip HW4.out.rd nn).mono ?_
            rintro e w5 ⟨rfl, hr5, hf5⟩
            rw [hkk, hff] at hr5
            have H5 := Lib.hid (HW4.out.read hr5 hf5)
            have RD := Lib.hid (ref_read w5 A c k bs f (HS.out.frm H5.out.frm (fun _ _ x => x)) HW4.out.rd.le h2 nn)
            have x0 := H5.out.x.cell 0
            have x1 := H5.out.x.cell 1
            have x2 := H5.out.x.cell 2
            have y1 := (BX.out.frm hf5 (fun e => blk_apart BX.out HW4.out.rd.blk (by decide) e)).cell 1
            clear hr5 hf5 hgl1 hgl0
            go_wp2_with fail
            refine RD.out.mono ?_
            rintro e w6 ⟨u6, he, ho6, hf6⟩
            rw [hkk, hff] at he
            rw [hys] at ho6
            subst he
            have H6 := Lib.hid (H5.out.no hf6)
            have d0 := H6.out.x.cell 0
            have d1 := H6.out.x.cell 1
            have d2 := H6.out.x.cell 2
            have e0 := H6.out.x.frozen 0
            have e1 := H6.out.x.frozen 1
            have e2 := H6.out.x.frozen 2
            have WF := Lib.hid (H6.out.stored kk ff)
            have hoS := H6.out.keeps ho6 kk ff
            obtain ⟨A6, c6, rfl, -, hs6, -⟩ := Src.of_own hoS
            have S6 := Lib.hid hs6
            clear hf6 ho6 hs6 hoS hys hkk hff x0 x1 x2 y1
            go_wp2_with fail
            go_meet
            exact ⟨_, _, _, _, _, _, by omega, WF.out⟩
      case rest =>
        obtain ⟨k', f', q', vs', ns', cs', hq', HW5⟩ := hcut
        clear HW4 BX hgl0
        have hkl := HW5.out.rd.le
        have qw : IntKind.i64.wrap ((bs.length : Int) - k') = bs.length - k' := by rw [IntWalk.i64_in] <;> omega
        have g0 := HW5.out.x.cell 0
        have g1 := HW5.out.x.cell 1
        have g2 := HW5.out.x.cell 2
        have QA : Hid (∀ n, Calls Try.prog 32 #[.pointer (some ⟨gr, 0, none⟩)] (wc.drewN n) fun e w'' => e = .returned (.int .i64 (k' : Int)) ∧ ∃ k, w'' = wc.drewN k) :=
          Lib.hid fun n => (rAt_ (HW5.out.rd.drewN n)).mono fun e w'' ⟨he, hw⟩ => ⟨he, n, hw.symm⟩
        have QF : Hid (∀ n, Calls Try.prog 33 #[.pointer (some ⟨gr, 0, none⟩)] (wc.drewN n) fun e w'' => e = .returned (.bool f') ∧ ∃ k, w'' = wc.drewN k) :=
          Lib.hid fun n => (rFailed (HW5.out.rd.drewN n)).mono fun e w'' ⟨he, hw⟩ => ⟨he, n, hw.symm⟩
        have QL : Hid (∀ n, Calls Try.prog 31 #[.pointer (some ⟨gr, 0, none⟩)] (wc.drewN n) fun e w'' => e = .returned (.int .i64 ((bs.length : Int) - k')) ∧ ∃ k, w'' = wc.drewN k) :=
          Lib.hid fun n => (rLeft (HW5.out.rd.drewN n)).mono fun e w'' ⟨he, k, hw⟩ => ⟨he, n + k, by rw [hw, World.drewN_drewN]⟩
        cases f' with
        | false =>
          go_wp2_with fail
          go_quiet (first | (go_at_call 32; exact QA.out _) | (go_at_call 31; exact QL.out _) | (go_at_call 33; exact QF.out _))
          go_wp2_with fail
          go_roundw
          case rel => exact ⟨j + 1, k', false, q', vs', ns', cs', by omega, by go_num, hq', Lib.hid (HW5.out.no ((Frm.refl No _).drewN _))⟩
          case measure => simp [intOf]; omega
        | true =>
          go_wp2_with fail
          go_quiet (first | (go_at_call 32; exact QA.out _) | (go_at_call 31; exact QL.out _) | (go_at_call 33; exact QF.out _))
          go_wp2_with fail
          go_roundw
          case rel => exact ⟨j + 1, k', true, q', vs', ns', cs', by omega, by go_num, hq', Lib.hid (HW5.out.no ((Frm.refl No _).drewN _))⟩
          case measure => simp [intOf]; omega
    · obtain rfl : j = l := by omega
      go_wp2_with (at_builtin; refine wpList_append_own _ rfl (.tmp 164) (.tmp 166) 76 rfl w.heap.size 22 i0 (.slice none 0 0) 1 24 Try.underlying76 hi hz0 hz1 hz2 rfl (by decide) _ _ _ rfl (HW.out.row.alloc _) ⟨_, 0, none⟩ 1 1 [.slice (some ⟨g5, 0, none⟩) bs.length c5] rfl rfl (news22 _ _) (by simp [Value.oneCell']) (by unfold maxLen; omega) (by omega) (Nat.le_trans HW.out.frm.size (by simp)) ?_; intro v' w9 hown' hgr _)
      have FN := HW.out.fin (by omega) h2 hown' hgr
      refine FN.mono ?_
      rintro e w10 ⟨rfl, hf10⟩
      have F10 := Lib.hid hf10
      clear hf10 FN
      go_wp2
      go_ret
      exact ⟨rfl, F10.out⟩
end Go.Proofs.Ytgpnnnjhcjjnmaa

/- WireReads -/
namespace Go.Proofs.Ytgpnnnjhcjjnmaa
open Go.ChangeShapes Go.WideShapes Go.ChangeAt Go.RowKit

theorem reads (w : World) (A B : Option Addr) (c n l d : Nat) (bs : List UInt8) (hn : bs.length = n) (acts : List (Nat × Int)) (hl : acts.length = l) (hs : Src w A c bs) (ha : Acts w B acts) (h4 : n ≤ 140737488351232) :
    Calls Try.prog 12 #[.slice A n c, .slice B l d] w fun e w' => e = .returned (.bool true) ∧ Frm No w w' := by
  by_cases h : 100 < l
  · exact reads_much w A B n c l d h
  · by_cases h2 : 131072 < n
    · exact reads_long w A B n c l d bs hn hs (by omega) h2 h4
    · exact reads_ok w A B c n l d bs hn acts hl hs ha (by omega) (by omega)

set_option maxRecDepth 100000 in
theorem wireReads (w : World) (A B : Option Addr) (c n l d : Nat) (bs : List UInt8) (hn : bs.length = n) (acts : List (Nat × Int)) (hl : acts.length = l) (hs : Src w A c bs) (ha : Acts w B acts) (h4 : n ≤ 140737488351232) :
    Calls Try.prog 3 #[.slice A n c, .slice B l d] w fun e w' => e = .returned (.bool true) ∧ Frm No w w' := by
  have HT := Lib.hid (reads w A B c n l d bs hn acts hl hs ha h4)
  clear hn hl hs ha
  go_enter Try.func3, Try.ntmps3
  go_wp2_with fail
  refine HT.out.mono ?_
  rintro e w1 ⟨rfl, hf⟩
  have F1 := Lib.hid hf
  clear hf HT
  go_wp2_with fail
  refine (awake _).mono ?_
  rintro e w2 ⟨rfl, hf⟩
  have F2 := Lib.hid (F1.out.trans hf (fun _ _ x => x))
  clear hf
  go_wp2_with fail
  go_ret
  exact ⟨rfl, F2.out⟩

set_option maxRecDepth 100000 in
theorem wireReads_lifted (os : Os) (started : os.Started) (H : Type) (enc : TypeId × Value → H) :
    ReturnsInHanded {} Try.checked os 3 .any (Rows.wireReadsSpec.pre6 enc Try.prog Try.f3 Rows.wireReadsRow.domain false) (Rows.wireReadsSpec.post enc Try.prog Try.f3 false true false false) := by
  refine returnsInHanded_of_change_sized (C := Try.checked) Try.own started (by kernel_rfl) Try.func3
    (ChangeSpec.witness6 (enc := enc) (C := Try.checked) false ⟨#[], #[.slice none 0 0, .slice none 0 0], []⟩ 8 (by kernel_rfl) (by kernel_rfl) (by kernel_rfl) (by kernel_rfl)) ?_
  intro W base args ds gs before hval0 hW _ hsz0 _
  have hval : ∀ (j : Nat) t v, Try.f3.params[j]? = some t → args[j]? = some v → Value.okWide Try.prog W .any base t v := hval0
  have hW' := hW
  obtain ⟨p, q, hA0, hV, rfl, hfz, hnd⟩ := hW
  have hA : DataW.TrodAll enc Try.prog W 0 (fun _ => true) true Try.f3.params.toList args.toList ds p := hA0
  have hsz : (DataW.weightsEach Try.prog (Try.f3.params.toList ++ Rows.wireReadsSpec.plain.varTypes Try.prog) (ds ++ gs)).all (· ≤ reachBytes) = true := hsz0
  rw [Try.params3] at hA hval hsz
  obtain ⟨v0, v1, d0, d1, p0, p1, rfl, rfl, rfl, h0, h1⟩ := trodAll_two hA
  obtain ⟨rfl, rfl⟩ := trodVars_none hV
  obtain ⟨A, n, c, bs, rfl, rfl, hc, hr, hnil, hd⟩ := open_bytes (hval 0 22 v0 rfl rfl) h0
  obtain ⟨B, l, d, acts, rfl, hl, hld, ha⟩ := open_acts (hval 1 23 v1 rfl rfl) h1
  have hs : bs.length ≤ 140737488351232 := by
    rcases hd with ⟨_, rfl⟩ | ⟨es, sp, rfl, hl⟩
    · omega
    · have := sized_slice hsz (j := 0) (t := 22) (e := 5) rfl rfl Try.underlying22
      rw [show Try.prog.bytesOf 5 = 1 from by kernel_rfl] at this
      unfold reachBytes at this
      omega
  refine (wireReads W A B c bs.length l d bs rfl acts hl ⟨hr, hc, hnil⟩ ha hs).mono fun e W' ⟨he, hf⟩ => ?_
  subst he
  exact ⟨_, rfl, post_true rfl hW' (by rw [Try.params3]; intro t ht; simp at ht; rcases ht with rfl | rfl <;> exact ⟨by kernel_rfl, of_decide_eq_true (by kernel_rfl)⟩) rfl rfl rfl rfl rfl (hf.below (Nat.le_refl _) (fun _ h => h.elim))⟩

theorem wireReads_holds : Rows.WireReadsSaid :=
  OpenClaim.holds_of_wide 3 Try.f3 rfl rfl rfl rfl rfl rfl rfl ⟨rfl, rfl, rfl, rfl, rfl⟩ rfl rfl rfl rfl rfl (by kernel_rfl) Try.func3 (by kernel_rfl)
    (of_decide_eq_true (by kernel_rfl)) (by unfold Func.isWrapper; first | (rw [if_pos (by decide +kernel)]; kernel_rfl) | (rw [if_neg (by decide +kernel)]; exact ⟨rfl, rfl⟩))
    (fun os started H enc _ => wireReads_lifted os started H enc)
end Go.Proofs.Ytgpnnnjhcjjnmaa
