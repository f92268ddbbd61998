/-
  An append and a min in a drawing region whose world may have one more block already; what a stored header leaves.
-/
import Derived.Test.YtcclneaabnpbkaaIb
namespace Go.Proofs.Ytcclneaabnpbkaa
open Go.RowKit

theorem step_append_ex {P : Program} {ops : Array Oper} {o : Oper} {a : Act} {w : World} {K : Act → World → Prop} {Q : Exit → Act → World → Prop} {E : Prop} (hgd : o.guard = none) (s x : Operand) (t t' : TypeId)
    (ho : o.op = .call { callee := .builtin .append, args := #[s, x], argTypes := #[t, t'] }) (v u : Value) (hs : a.eval s = v) (hx : a.eval x = u) (n : Nat) (R : Addr → Nat → World → Prop)
    (hE : ∃ ad' c' w', (Builtin.append_ #[t, t'] o.type #[v, u]).run P w = .ok (.slice (some ad') n c') w' ∧ R ad' c' w') (h : ∀ ad' c' w', R ad' c' w' → K (a.put o.dst (.slice (some ad') n c')) w') :
    if Region.wanted o (yielded ops a.tmps) = true then Oper.wp P o a w K Q else E := by
  obtain ⟨ad', c', w', hrun, hR⟩ := hE
  exact step_append_run hgd s x t t' ho v u _ w' hs hx hrun (h _ _ _ hR)

theorem step_min {P : Program} {ops : Array Oper} {o : Oper} {a : Act} {w : World} {K : Act → World → Prop} {Q : Exit → Act → World → Prop} {E : Prop} (hgd : o.guard = none) (s x : Operand) (t t' : TypeId)
    (ho : o.op = .call { callee := .builtin .min, args := #[s, x], argTypes := #[t, t'] }) (v u v' : Value) (hs : a.eval s = v) (hx : a.eval x = u)
    (hrun : ∀ w, (Builtin.min_ #[t, t'] o.type #[v, u]).run P w = .ok v' w) (h : K (a.put o.dst v') w) :
    if Region.wanted o (yielded ops a.tmps) = true then Oper.wp P o a w K Q else E := by
  have hw : Region.wanted o (yielded ops a.tmps) = true := by simp [Region.wanted, hgd]
  rw [if_pos hw]
  unfold Oper.wp execOp
  simp only [ho, resolve, invoke, builtin, Sem.run_bind, Sem.run_pure, Result.andThen_ok, List.map_toArray, List.map_cons, List.map_nil, hs, hx, hrun]
  exact h

theorem min_50 (n : Nat) (h : (50 : Int) < n) (w : World) : (Builtin.min_ #[3, 3] 3 #[.int .i64 n, .int .i64 50]).run Try.prog w = .ok (.int .i64 50) w := by
  simp [Builtin.min_, Builtin.min2, h, Sem.run_pure]
theorem min_n (n : Nat) (h : ¬ (50 : Int) < n) (w : World) : (Builtin.min_ #[3, 3] 3 #[.int .i64 n, .int .i64 50]).run Try.prog w = .ok (.int .i64 n) w := by
  by_cases h2 : n = 50
  · subst h2
    simp [Builtin.min_, Builtin.min2, Sem.run_pure]
  · simp [Builtin.min_, Builtin.min2, h, Sem.run_pure]

def StoreF (w7 w9 : World) (tb g9 : Nat) (opts : List UInt8) : Prop :=
  ∀ (y0 y1 y2 y3 y4 y5 y6 y7 y8 y9 : Value), let W := (((((((((w9.setCell ⟨tb, 0, none⟩ y0).setCell ⟨tb, 1, none⟩ y1).setCell ⟨tb, 2, none⟩ y2).setCell ⟨tb, 3, none⟩ y3).setCell ⟨tb, 4, none⟩ y4).setCell ⟨tb, 5, none⟩ y5).setCell ⟨tb, 6, none⟩ y6).setCell ⟨tb, 7, none⟩ y7).setCell ⟨tb, 8, none⟩ y8).setCell ⟨tb, 9, none⟩ y9
    Frm No w7 W ∧ Blk W tb 28 #[y0, y1, y2, y3, y4, y5, y6, y7, y8, y9] ∧ Rds W (some ⟨g9, 0, none⟩) opts
theorem storeF {w7 w9 : World} {tb b0 g9 o k9 : Nat} {opts : List UInt8} {x0 x1 x2 x3 x4 x5 x6 x7 x8 x9 : Value} (F9 : Frm No w7 w9) (Z : Blk w9 tb 28 #[x0, x1, x2, x3, x4, x5, x6, x7, x8, x9]) (hb : w7.heap.size ≤ tb) (hrow : Row w9 b0 g9 o k9 opts) (htb : tb < b0) :
    StoreF w7 w9 tb g9 opts := by
  intro y0 y1 y2 y3 y4 y5 y6 y7 y8 y9 W
  have hg := hrow.cap.2.1
  refine ⟨frm10 F9 (fun h => absurd h (by omega)) _ _ _ _ _ _ _ _ _ _, set10 Z _ _ _ _ _ _ _ _ _ _, hrow.rds.frm (frm10 (S := One tb) (Frm.refl _ _) (fun _ => rfl) _ _ _ _ _ _ _ _ _ _) ?_⟩
  intro k hk h
  have h1 : k = tb := h
  simp only [blk, Option.map_some, Option.some.injEq] at hk
  omega
theorem storeN {w7 w9 : World} {b0 g9 o k9 : Nat} {opts : List UInt8} (cs : Array Value) (F9 : Frm No w7 w9) {x0 x1 x2 x3 x4 x5 x6 x7 x8 x9 : Value} (hcs : cs = #[x0, x1, x2, x3, x4, x5, x6, x7, x8, x9]) (hrow : Row w9 b0 g9 o k9 opts) :
    StoreF w7 (w9.alloc (.cells cs 28)) w9.heap.size g9 opts := by
  subst hcs
  intro y0 y1 y2 y3 y4 y5 y6 y7 y8 y9 W
  have hg := hrow.cap.2.2
  refine ⟨frm10 (F9.alloc _) (fun h => absurd h (by have := F9.size; omega)) _ _ _ _ _ _ _ _ _ _, set10 (Blk.new w9 28 _) _ _ _ _ _ _ _ _ _ _, (hrow.rds.alloc _).frm (frm10 (S := One w9.heap.size) (Frm.refl _ _) (fun _ => rfl) _ _ _ _ _ _ _ _ _ _) ?_⟩
  intro k hk h
  have h1 : k = w9.heap.size := h
  simp only [blk, Option.map_some, Option.some.injEq] at hk
  omega
theorem StoreF.name {w7 w9 : World} {tb g9 : Nat} {opts : List UInt8} (h : StoreF w7 w9 tb g9 opts) (y0 y1 y2 y3 y4 y5 y6 y7 y8 y9 : Value) :
    ∃ W, W = ((((((((((w9.setCell ⟨tb, 0, none⟩ y0).setCell ⟨tb, 1, none⟩ y1).setCell ⟨tb, 2, none⟩ y2).setCell ⟨tb, 3, none⟩ y3).setCell ⟨tb, 4, none⟩ y4).setCell ⟨tb, 5, none⟩ y5).setCell ⟨tb, 6, none⟩ y6).setCell ⟨tb, 7, none⟩ y7).setCell ⟨tb, 8, none⟩ y8).setCell ⟨tb, 9, none⟩ y9) ∧ Frm No w7 W ∧ Blk W tb 28 #[y0, y1, y2, y3, y4, y5, y6, y7, y8, y9] ∧ Rds W (some ⟨g9, 0, none⟩) opts :=
  ⟨_, rfl, h y0 y1 y2 y3 y4 y5 y6 y7 y8 y9⟩
end Go.Proofs.Ytcclneaabnpbkaa
