/-
  A region that may panic, in a function that defers: at a panic the frame is as it was, as far as the deferred calls and the results look.
-/
import Derived.Test.YtgpnnnjhcjjnmaaU1
import Derived.RegionTactic
namespace Go.Proofs.Ytgpnnnjhcjjnmaa
open Go.RowKit

/-- Q, but a panic must be c₀, in the world w₀. -/
def PanicIs (Q : Exit → Act → World → Prop) (c₀ : List PanicEntry) (w₀ : World) : Exit → Act → World → Prop
  | .panic c, _, w => c = c₀ ∧ w = w₀
  | e, a, w => Q e a w

theorem outs {Q : Exit → Act → World → Prop} {c₀ : List PanicEntry} {w₀ : World} (h : LetsOut (PanicIs Q c₀ w₀)) : LetsOut Q := h

section
variable {P : Program} {md : Region.Mode} {ops : Array Oper} {Q : Exit → Act → World → Prop} {c₀ : List PanicEntry} {w₀ : World}

theorem wpAny_at (hQ : ∀ (i : Nat) (o : Oper), ops[i]? = some o → ∀ c a v w, Q (.panic c) a w → Q (.panic c) (a.put o.dst v) w)
    (hD : ∀ (i : Nat) (o : Oper), ops[i]? = some o → ∀ (a : Act) (w : World) (d : Deferred) (w' : World), (execOp a.eval o).run P w ≠ .ok (.defer d) w') :
    ∀ (fuel : Nat) (listed : Array Bool) (a : Act) (w : World), Q (.panic c₀) a w₀ → wpAny P md ops (PanicIs Q c₀ w₀) fuel listed a w → wpAny P md ops Q fuel listed a w
  | 0, _, _, _, _, h => ⟨h.1, h.2⟩
  | fuel + 1, listed, a, w, hi, h => by
    refine ⟨fun h0 => h.1 h0, fun i hmem => ?_⟩
    have hh := h.2 i hmem
    unfold wpOp at hh ⊢
    cases ho : ops[i]? with
    | none =>
      rw [ho] at hh
      exact wpAny_at hQ hD fuel _ a w hi hh
    | some o =>
      rw [ho] at hh
      simp only at hh ⊢
      have hput : ∀ v, Q (.panic c₀) (a.put o.dst v) w₀ := fun v => hQ i o ho c₀ a v w₀ hi
      split
      · rename_i hw
        rw [if_pos hw] at hh
        rcases hh with hh | hh
        · refine .inl ?_
          unfold Oper.wp at hh ⊢
          have hd := hD i o ho a w
          cases hr : (execOp a.eval o).run P w with
          | ok n w' =>
            rw [hr] at hh hd
            cases n with
            | value v => exact wpAny_at hQ hD fuel _ _ _ (hput v) hh
            | skip => exact wpAny_at hQ hD fuel _ _ _ (hput undef) hh
            | defer d => exact (hd d w' rfl).elim
            | enter f args =>
              refine Calls.mono hh ?_
              intro e w2 he
              cases e with
              | returned v => exact wpAny_at hQ hD fuel _ _ _ (hput v) he
              | panicked c =>
                obtain ⟨rfl, rfl⟩ := he
                exact hi
              | outgrown => exact he
            | row r args => exact Rows.mono hh fun v w2 hk => wpAny_at hQ hD fuel _ _ _ (hput v) hk
            | _ => exact hh
          | halt hl w' =>
            rw [hr] at hh
            cases hl with
            | panic v =>
              obtain ⟨hc, rfl⟩ := hh
              rw [← hc] at hi
              exact hi
            | _ => exact hh
        · exact .inr ⟨hh.1, outs hh.2⟩
      · rename_i hw
        rw [if_neg hw] at hh
        exact wpAny_at hQ hD fuel _ _ _ (hput undef) hh

theorem wp_region_wrong {id : Nat} {a₀ : Act} {w : World} (hm : P.follows .mixedOrders = true)
    (hQ : ∀ (i : Nat) (o : Oper), ops[i]? = some o → ∀ c a v w, Q (.panic c) a w → Q (.panic c) (a.put o.dst v) w)
    (hD : ∀ (i : Nat) (o : Oper), ops[i]? = some o → ∀ (a : Act) (w : World) (d : Deferred) (w' : World), (execOp a.eval o).run P w ≠ .ok (.defer d) w')
    (hp : Q (.panic c₀) a₀ w₀)
    (h : wpAny P .any ops (PanicIs Q c₀ w₀) ops.size (Array.replicate ops.size false) a₀ w.drew) : (Code.region id ops true).wp P Q a₀ w :=
  wp_region_any hm (wpAny_at hQ hD _ _ _ _ hp h)

/-- No operation of these kinds defers a call. -/
def calm (o : Oper) : Bool :=
  match o.op with
  | .move _ | .assign _ | .binOp .. | .load .. | .store .. | .index .. | .indexAddr .. => true
  | .call { callee := .value (.func 82), .. } => true
  | _ => false

theorem v_calm (s : Sem Value) (w : World) (d : Deferred) (w' : World) : (do pure (Next.value (← s)) : Sem Next).run P w ≠ .ok (.defer d) w' := by
  rw [Sem.run_bind]
  cases h : s.run P w <;> simp [Result.andThen, Sem.run_pure]
theorem u_calm (s : Sem Unit) (w : World) (d : Deferred) (w' : World) : (do s; pure Next.skip : Sem Next).run P w ≠ .ok (.defer d) w' := by
  rw [Sem.run_bind]
  cases h : s.run P w <;> simp [Result.andThen, Sem.run_pure]
/-- The deferred calls and the results look at nothing else of the frame. -/
theorem leaves_same {fn : Func} {t t' : Array Value} {R : Ending → World → Prop} (hr : results fn t = results fn t') : ∀ (ds : List Deferred) (u : FrameMode) (w : World), Leaves P fn t R ds u w → Leaves P fn t' R ds u w
  | [], .returning, w, h => by
    obtain ⟨v, h1, h2⟩ := h
    exact ⟨v, by rw [← hr]; exact h1, h2⟩
  | [], .panicking _, w, h => h
  | [], .run, _, h => h
  | d :: ds, u, w, h => by
    obtain ⟨h0, fv, cap, f, args, h1, h2, h3⟩ := h
    refine ⟨h0, fv, cap, f, args, h1, h2, h3.mono ?_⟩
    intro e u' w' he
    cases e with
    | returned v => exact leaves_same hr ds _ _ he
    | panicked c => exact leaves_same hr ds _ _ he
    | outgrown => exact he
end

theorem func82_calm (a : Act) (args : Array Operand) (ts : Array TypeId) (ty : TypeId) (w : World) (d : Deferred) (w' : World) :
    (do let x ← resolve a.eval { callee := .value (.func 82), args := args, argTypes := ts } ty; invoke x.target x.args : Sem Next).run Try.prog w ≠ .ok (.defer d) w' := by
  simp [resolve, invoke, go_sem]

theorem calm_defer (o : Oper) (h : calm o = true) (a : Act) (w : World) (d : Deferred) (w' : World) : (execOp a.eval o).run Try.prog w ≠ .ok (.defer d) w' := by
  obtain ⟨dst, op, ty, pos, af, gd⟩ := o
  unfold calm at h
  split at h
  all_goals first | (cases h; done) | (rename_i hop; simp only at hop; subst hop; simp only [execOp])
  · simp [Sem.run_pure]
  · simp [Sem.run_pure]
  · exact v_calm _ _ _ _
  · exact v_calm _ _ _ _
  · exact u_calm _ _ _ _
  · exact v_calm _ _ _ _
  · exact v_calm _ _ _ _
  · exact func82_calm _ _ _ _ _ _ _

theorem results71 (t : Array Value) (d : Tmp) (v : Value) (h2 : d ≠ 2) (h3 : d ≠ 3) : results Try.f71 (t.setIfInBounds d v) = results Try.f71 t := by
  have e2 : (t.setIfInBounds d v)[2]? = t[2]? := by rw [Array.getElem?_setIfInBounds, if_neg h2]
  have e3 : (t.setIfInBounds d v)[3]? = t[3]? := by rw [Array.getElem?_setIfInBounds, if_neg h3]
  simp [results, Try.results71, e2, e3]

theorem put_leaves {R : Ending → World → Prop} {a : Act} {dst : Option Tmp} {v : Value} {c : List PanicEntry} {w : World} (hd : dst ≠ some 2 ∧ dst ≠ some 3) (h : Leaves Try.prog Try.f71 a.tmps R a.defers (.panicking c) w) :
    Leaves Try.prog Try.f71 (a.put dst v).tmps R (a.put dst v).defers (.panicking c) w := by
  cases dst with
  | none => exact h
  | some d =>
    refine leaves_same ?_ _ _ _ h
    exact (results71 a.tmps d v (fun e => hd.1 (by rw [e])) (fun e => hd.2 (by rw [e]))).symm
end Go.Proofs.Ytgpnnnjhcjjnmaa
