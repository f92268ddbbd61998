/-
  A region that draws its order, whose operations are quiet in a class of worlds but for the last one, which waits for all others: one walk in the order of the text serves every order.
-/
import Derived.Deep.Quiet
import Derived.StillTail
import Derived.Tactics
namespace Go.Proofs.Ytcclneaabnpbkaa

/-- No operation waits for one that stands behind it. -/
def backB (ops : Array Oper) : Bool := (List.range ops.size).all fun i => ((ops[i]?).map fun o => o.after.all fun e => !Region.binds .any e || decide (e.on < i)).getD true

theorem backB_at {ops : Array Oper} (h : backB ops = true) {i : Nat} {o : Oper} (ho : ops[i]? = some o) : ∀ e ∈ o.after, Region.binds .any e = true → e.on < i := by
  have hi : i < ops.size := (Array.getElem?_eq_some_iff.1 ho).1
  have h1 := List.all_eq_true.1 h i (List.mem_range.2 hi)
  rw [ho] at h1
  simp only [Option.map_some, Option.getD_some] at h1
  intro e he hb
  have h2 := Array.all_eq_true'.1 h1 e he
  rw [hb] at h2
  simpa using h2

theorem push_getD_true (L : Array Bool) (i : Nat) (h : i < L.size) : (L.push false).getD i true = L.getD i true := by
  simp [Array.getElem_push, h, Nat.lt_succ_of_lt h]
theorem push_getD_false (L : Array Bool) (i : Nat) : (L.push false).getD i false = L.getD i false := by
  rcases Nat.lt_trichotomy i L.size with h | h | h
  · simp [Array.getElem_push, h, Nat.lt_succ_of_lt h]
  · subst h; simp
  · rw [Array.getD_eq_getD_getElem?, Array.getD_eq_getD_getElem?, Array.getElem?_eq_none (by simp; omega), Array.getElem?_eq_none (by omega)]
theorem push_set (L : Array Bool) (i : Nat) (h : i < L.size) : (L.push false).setIfInBounds i true = (L.setIfInBounds i true).push false := by
  apply Array.ext_getElem?
  intro j
  simp only [Array.getElem?_setIfInBounds, Array.getElem?_push, Array.size_push, Array.size_setIfInBounds]
  by_cases hij : i = j
  · subst hij
    simp [h, Nat.lt_succ_of_lt h, Nat.ne_of_lt h]
  · simp [hij]

section
variable {P : Program} {Q : Exit → Act → World → Prop} {C : World → Prop} {l : List Oper} {o : Oper}

theorem ops_at (l : List Oper) (o : Oper) {i : Nat} (h : i < l.length) : ((l ++ [o]).toArray)[i]? = l.toArray[i]? := by
  simp [List.getElem?_append_left h]
theorem ops_last (l : List Oper) (o : Oper) : ((l ++ [o]).toArray)[l.length]? = some o := by
  simp

theorem ready_iff {L : Array Bool} (hL : L.size = l.length) {i : Nat} (hi : i < l.length) :
    i ∈ Region.ready .any (l ++ [o]).toArray (L.push false) ↔ i ∈ Region.ready .any l.toArray L := by
  rw [mem_ready, mem_ready, ops_at l o hi, push_getD_true L i (by omega)]
  simp only [push_getD_false]

/-- All operations but the last one have come up. -/
def AllUp (l : List Oper) (L : Array Bool) : Prop := ∀ i, i < l.length → L.getD i true = true

theorem least_ready {L : Array Bool} (hL : L.size = l.length) (hb : backB l.toArray = true) (h : Region.ready .any l.toArray L = []) : AllUp l L := by
  intro i
  induction i using Nat.strongRecOn with
  | _ i ih =>
    intro hi
    cases hc : L.getD i true with
    | true => rfl
    | false =>
      exfalso
      have hoi : l.toArray[i]? = some l[i] := by simp [hi]
      have : i ∈ Region.ready .any l.toArray L := by
        rw [mem_ready]
        refine ⟨hc, _, hoi, fun e he hbd => ?_⟩
        have h1 := backB_at hb hoi e he hbd
        have h2 := ih e.on h1 (by omega)
        have h3 : e.on < L.size := by omega
        simpa [h3] using h2
      rw [h] at this
      cases this

theorem ready_none {L : Array Bool} (h : AllUp l L) : Region.ready .any l.toArray L = [] := by
  rw [List.eq_nil_iff_forall_not_mem]
  intro i hi
  obtain ⟨h1, oi, hoi, _⟩ := mem_ready.1 hi
  have hlt : i < l.length := by simpa using (Array.getElem?_eq_some_iff.1 hoi).1
  rw [h i hlt] at h1
  cases h1

theorem last_comes {L : Array Bool} (hL : L.size = l.length) (h : AllUp l L) {a : Act} {w : World}
    (hq : wpList P (l ++ [o]).toArray Q [o] a w) (fuel : Nat) : wpOp P (l ++ [o]).toArray Q l.length (wpAny P .any (l ++ [o]).toArray Q fuel ((L.push false).setIfInBounds l.length true)) a w := by
  have hr : Region.ready .any (l ++ [o]).toArray ((L.push false).setIfInBounds l.length true) = [] := by
    rw [List.eq_nil_iff_forall_not_mem]
    intro i hi
    obtain ⟨h1, oi, hoi, _⟩ := mem_ready.1 hi
    have hlt : i < l.length + 1 := by simpa using (Array.getElem?_eq_some_iff.1 hoi).1
    by_cases hin : l.length = i
    · subst hin
      simp [hL] at h1
    · rw [getD_set_ne true hin, push_getD_true L i (by omega), h i (by omega)] at h1
      cases h1
  have hk : ∀ (a' : Act) (w' : World), wpList P (l ++ [o]).toArray Q [] a' w' → wpAny P .any (l ++ [o]).toArray Q fuel ((L.push false).setIfInBounds l.length true) a' w' := by
    intro a' w' h'
    cases fuel with
    | zero => exact ⟨hr, h'⟩
    | succ f => exact ⟨fun _ => h', fun i hi => by rw [hr] at hi; cases hi⟩
  refine wpOp_mono hk ?_
  unfold wpOp
  rw [ops_last l o]
  exact hq

theorem wanted_plain {ops : Array Oper} {o : Oper} {a : Act} (h : o.guard = none) : Region.wanted o (yielded ops a.tmps) = true := by simp [Region.wanted, h]

theorem any_last (hg : ∀ x ∈ l, x.guard = none) (hb : backB (l ++ [o]).toArray = true) (hb0 : backB l.toArray = true) (hs : Region.sinkB .any (l ++ [o]).toArray l.length = true) (hc : Region.chainB .any (l ++ [o]).toArray l.length = true) :
    ∀ (fuel : Nat) (L : Array Bool) (a : Act) (w : World), L.size = l.length → HeadInv .any (l ++ [o]).toArray l.length (L.push false) → C w →
      wpAnyQ P .any l.toArray C (fun a' => ∀ w', C w' → wpList P (l ++ [o]).toArray Q [o] a' w') fuel L a → wpAny P .any (l ++ [o]).toArray Q (fuel + 1) (L.push false) a w := by
  intro fuel
  induction fuel with
  | zero =>
    intro L a w hL inv hw H
    have hall := least_ready hL hb0 H.1
    have hlr : l.length ∈ Region.ready .any (l ++ [o]).toArray (L.push false) := by
      rw [mem_ready]
      refine ⟨by simp [← hL], o, ops_last l o, fun e he hbd => ?_⟩
      have h1 := backB_at hb (ops_last l o) e he hbd
      rw [push_getD_false]
      have h2 := hall e.on h1
      have h3 : e.on < L.size := by omega
      simpa [h3] using h2
    refine ⟨fun h => (by rw [h] at hlr; cases hlr), fun i hi => ?_⟩
    obtain ⟨_, oi, hoi, _⟩ := mem_ready.1 hi
    have hlt : i < l.length + 1 := by simpa using (Array.getElem?_eq_some_iff.1 hoi).1
    by_cases hin : i = l.length
    · subst hin
      exact last_comes hL hall (H.2 w hw) 0
    · have := (ready_iff (o := o) hL (show i < l.length by omega)).1 hi
      rw [H.1] at this
      cases this
  | succ fuel ih =>
    intro L a w hL inv hw H
    have hne : Region.ready .any (l ++ [o]).toArray (L.push false) ≠ [] := by
      intro h0
      have h1 : Region.ready .any l.toArray L = [] := by
        rw [List.eq_nil_iff_forall_not_mem]
        intro i hi
        obtain ⟨_, oi, hoi, _⟩ := mem_ready.1 hi
        have hlt : i < l.length := by simpa using (Array.getElem?_eq_some_iff.1 hoi).1
        have := (ready_iff (o := o) hL hlt).2 hi
        rw [h0] at this
        cases this
      have hall := least_ready hL hb0 h1
      have hlr : l.length ∈ Region.ready .any (l ++ [o]).toArray (L.push false) := by
        rw [mem_ready]
        refine ⟨by simp [← hL], o, ops_last l o, fun e he hbd => ?_⟩
        have h1 := backB_at hb (ops_last l o) e he hbd
        rw [push_getD_false]
        have h2 := hall e.on h1
        have h3 : e.on < L.size := by omega
        simpa [h3] using h2
      rw [h0] at hlr
      cases hlr
    refine ⟨fun h => absurd h hne, fun i hi => ?_⟩
    obtain ⟨_, oi, hoi, _⟩ := mem_ready.1 hi
    have hlt : i < l.length + 1 := by simpa using (Array.getElem?_eq_some_iff.1 hoi).1
    by_cases hin : i = l.length
    · subst hin
      have hall : AllUp l L := by
        intro j hj
        cases hcj : L.getD j true with
        | true => rfl
        | false =>
          exact absurd hi (tail_waits hs hc (by simp) inv _ j rfl hj (by rw [push_getD_true L j (by omega)]; exact hcj) l.length (Nat.le_refl _))
      exact last_comes hL hall (H.1 (ready_none hall) w hw) (fuel + 1)
    · have hil : i < l.length := by omega
      have hr := (ready_iff (o := o) hL hil).1 hi
      have hq := H.2 i hr
      have hoi' : l.toArray[i]? = some l[i] := by simp [hil]
      have hg' : l[i].guard = none := hg _ (List.getElem_mem hil)
      unfold qOp at hq
      simp only [hoi', wanted_plain hg', if_true] at hq
      unfold wpOp
      rw [ops_at l o hil, hoi']
      simp only [wanted_plain hg', if_true]
      refine .inl (Oper.wp_of_quiet hw (fun a' w' hw' hk => ?_) hq)
      rw [push_set L i (by omega)]
      exact ih _ _ _ (by simp [hL]) (by rw [← push_set L i (by omega)]; exact inv.set hi hil) hw' hk

theorem wp_region_quiet_last {id : Nat} {a : Act} {w : World} (C : World → Prop) (l : List Oper) (o : Oper) (hm : P.follows .mixedOrders = true) (hB : Region.lexB .any l.toArray = true)
    (hg : l.all (fun x => x.guard.isNone) = true) (hb : backB (l ++ [o]).toArray = true) (hb0 : backB l.toArray = true) (hs : Region.sinkB .any (l ++ [o]).toArray l.length = true) (hc : Region.chainB .any (l ++ [o]).toArray l.length = true)
    (hC : C { w with drawn := w.drawn + 1 })
    (h : wpQuiet P l.toArray C (fun a' => ∀ w', C w' → wpList P (l ++ [o]).toArray Q [o] a' w') l a) : (Code.region id (l ++ [o]).toArray true).wp P Q a w := by
  simp only [Region.lexB, Bool.and_eq_true] at hB
  refine wp_region_any hm ?_
  have hq := wpAnyQ_lex (C := C) (md := .any) hB.1 l 0 (Array.replicate l.length false) a (by simp) (by simpa using hB.2) h
  have hrep : Array.replicate (l ++ [o]).toArray.size false = (Array.replicate l.length false).push false := by
    rw [← Array.replicate_succ]
    simp
  have hsz : (l ++ [o]).toArray.size = l.length + 1 := by simp
  have inv : HeadInv .any (l ++ [o]).toArray l.length ((Array.replicate l.length false).push false) := by
    rw [← Array.replicate_succ]
    refine ⟨by simp, fun j oj _ hl => (by rw [getD_replicate_false] at hl; cases hl), fun t ht ht' => getD_in (by simpa using ht') (getD_replicate_false _ _)⟩
  rw [hrep, hsz]
  refine any_last (fun x hx => ?_) hb hb0 hs hc l.length _ a _ (by simp) inv hC hq
  have := List.all_eq_true.1 hg x hx
  simpa using this
end
end Go.Proofs.Ytcclneaabnpbkaa
