/-
  Rows of bytes of the call's own.
-/
import Derived.Test.YtgpnnnjhcjjnmaaRf
import Derived.Test.YtgpnnnjhcjjnmaaH1
import Derived.Test.YtgpnnnjhcjjnmaaZ1
import Derived.Laws.OwnMore
namespace Go.Proofs.Ytgpnnnjhcjjnmaa
open Go.RowKit

def Row (w : World) (base g n c : Nat) (bs : List UInt8) : Prop := w.ownsRow base 5 1 (.slice (some ⟨g, 0, none⟩) n c) n (byts bs)

theorem Row.len {w : World} {base g n c : Nat} {bs : List UInt8} (h : Row w base g n c bs) : bs.length = n := by
  have := h.1
  rw [byts_len] at this
  omega
theorem Row.cap {w : World} {base g n c : Nat} {bs : List UInt8} (h : Row w base g n c bs) : n ≤ c ∧ base ≤ g ∧ g < w.heap.size := by
  have h2 := (World.ownsRow.lt h g rfl)
  rcases h.2 with ⟨h', _⟩ | ⟨g', cap', cur, h', _, hg, hc, _⟩
  · simp at h'
  · simp only [Value.slice.injEq, Option.some.injEq, Addr.mk.injEq, and_true, true_and] at h'
    obtain ⟨_, rfl⟩ := h'
    exact ⟨hc, h2.1, h2.2⟩
theorem Row.rds {w : World} {base g n c : Nat} {bs : List UInt8} (h : Row w base g n c bs) : Rds w (some ⟨g, 0, none⟩) bs := Rds.of_own h
theorem Row.set {w : World} {base g n c : Nat} {bs : List UInt8} (h : Row w base g n c bs) (j : Nat) (b : UInt8) (u : Value) (hu : u = byt b) : Row (w.setCell ⟨g, j, none⟩ u) base g n c (bs.set j b) := by
  have := (World.ownsRow.stored h j u).1
  unfold Row
  subst hu
  rwa [show byts (bs.set j b) = (byts bs).set j (byt b) from by simp [byts]]
theorem Row.cell {w : World} {base g n c : Nat} {bs : List UInt8} (h : Row w base g n c bs) (j : Nat) (hj : j < bs.length) : w.cell? ⟨g, j, none⟩ = some (byt bs[j]) := by
  have hl := h.len
  rw [World.ownsRow.cellAt h j (by omega)]
  simp [byts, hj]
theorem Row.frozen {w : World} {base g n c : Nat} {bs : List UInt8} (h : Row w base g n c bs) (j : Nat) : w.frozen? ⟨g, j, none⟩ = false := World.ownsRow.frozenAt h j
theorem Row.frm {S : Nat → Prop} {w w' : World} {base g n c : Nat} {bs : List UInt8} (h : Row w base g n c bs) (hf : Frm S w w') (hS : ¬ S g) : Row w' base g n c bs :=
  hf.own h (fun k hk => by have : some g = some k := hk; injection this with this; subst this; exact hS)

theorem step_append_bytes {ops : Array Oper} {o : Oper} {a : Act} {w : World} {K : Act → World → Prop} {Q : Exit → Act → World → Prop} {E : Prop} (hgd : o.guard = none) (s x : Operand)
    (ho : o.op = .call { callee := .builtin .append, args := #[s, x], argTypes := #[22, 22] })
    (base : Nat) (v : Value) (n : Nat) (xs : List UInt8) (hs : a.eval s = v) (hown : w.ownsRow base 5 1 v n (byts xs))
    (A : Option Addr) (m c : Nat) (ys : List UInt8) (hx : a.eval x = .slice A m c) (hm : ys.length = m) (hr : Rds w A ys) (hnil : A = none → c = 0)
    (hbytes : n + m ≤ 140737488355328) (hbase : base ≤ w.heap.size)
    (h : ∀ v' w', w'.ownsRow base 5 1 v' (n + m) (byts (xs ++ ys)) → w.grownBy w' v.ownBlock → K (a.put o.dst v') w') :
    if Region.wanted o (yielded ops a.tmps) = true then Oper.wp Try.prog o a w K Q else E := by
  obtain ⟨i0, hi, hz0, hz1, hz2⟩ := info_parts info5
  cases A with
  | some ad =>
    refine step_append_own hgd s x 22 ho base 5 i0 (.int .u8 0) 1 1 Try.underlying22 hi hz0 hz1 hz2 rfl (by decide) v n (byts xs) hs hown ad m c (byts ys) hx (by rw [byts_len]; omega) hr.news (byts_one _) (by unfold maxLen; omega) (by omega) hbase ?_
    intro v' w' h1 h2 _
    refine h v' w' ?_ h2
    rwa [show byts (xs ++ ys) = byts xs ++ byts ys from by simp [byts]]
  | none =>
    have hy : ys = [] := by
      rcases Nat.eq_zero_or_pos ys.length with h0 | h0
      · exact List.eq_nil_of_length_eq_zero h0
      · obtain ⟨ad, h1, _⟩ := hr h0
        cases h1
    subst hy
    obtain rfl : m = 0 := hm.symm
    obtain rfl := hnil rfl
    have hw : Region.wanted o (yielded ops a.tmps) = true := by simp [Region.wanted, hgd]
    rw [if_pos hw]
    have hrun := run_append_owned_none (P := Try.prog) (w := w) base 22 o.type 5 i0 1 Try.underlying22 hi v n (byts xs) hown
    unfold Oper.wp execOp
    simp only [ho, resolve, invoke, builtin, Sem.run_bind, Sem.run_pure, Result.andThen_ok, List.map_toArray, List.map_cons, List.map_nil, hs, hx, hrun]
    exact h v w (by simpa using hown) ⟨rfl, rfl, rfl, Nat.le_refl _, fun _ _ _ => rfl⟩

theorem row_made (w : World) (base k : Nat) (xs : List UInt8) (hk : xs.length = k) (hb : base ≤ w.heap.size) (h4 : k ≤ 140737488355328) :
    (w.alloc (.cells (byts xs).toArray 5)).ownsRow base 5 1 (.slice (some ⟨w.heap.size, 0, none⟩) k k) k (byts xs) := by
  subst hk
  exact ⟨by simp [byts], .inr ⟨w.heap.size, xs.length, (byts xs).toArray, rfl, hb, heap_alloc_new w _, Nat.le_refl _, by unfold maxLen; omega, by simp [byts], by rw [List.take_of_length_le (by simp [byts])]⟩⟩

theorem Row.of_own {w : World} {base n : Nat} {v : Value} {bs : List UInt8} (h : w.ownsRow base 5 1 v n (byts bs)) (hn : 0 < n) : ∃ g c, v = .slice (some ⟨g, 0, none⟩) n c ∧ Row w base g n c bs := by
  rcases h.2 with ⟨_, h0⟩ | ⟨g, cap, cur, rfl, _⟩
  · omega
  · exact ⟨g, cap, rfl, h⟩
end Go.Proofs.Ytgpnnnjhcjjnmaa
