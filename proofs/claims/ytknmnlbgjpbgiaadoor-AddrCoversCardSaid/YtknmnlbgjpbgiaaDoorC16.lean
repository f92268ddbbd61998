/-
  The prefixes that cover a range of addresses: Cover.
-/
import Derived.Test.YtknmnlbgjpbgiaaDoorC15
import Derived.Maps.OwnIn
import Derived.Maps.AppendAt
import Derived.Deep.AppendLies
namespace Go.Proofs.YtknmnlbgjpbgiaaDoor
open Go.RowKit
attribute [local go_sem] Oper.semAt_some

/-- The cells of a list of prefixes. -/
def flat (l : List (Nat × Nat)) : List Value := l.flatMap fun x => [.int .u32 (x.1 : Int), .int .u8 (x.2 : Int)]
theorem flat_snoc (l : List (Nat × Nat)) (x : Nat × Nat) : flat (l ++ [x]) = flat l ++ [.int .u32 (x.1 : Int), .int .u8 (x.2 : Int)] := by
  unfold flat
  rw [List.flatMap_append]
  rfl
theorem flat_len (l : List (Nat × Nat)) : (flat l).length = l.length * 2 := by
  induction l with
  | nil => rfl
  | cons x r ih =>
    have e : flat (x :: r) = [.int .u32 (x.1 : Int), .int .u8 (x.2 : Int)] ++ flat r := rfl
    rw [e, List.length_append, ih]
    simp
    omega

theorem info24 : (Tryd.prog.info? 24).map (fun i => (i.zero, i.size, i.bytes)) = some (some (.agg #[.int .u32 0, .int .u8 0]), 2, 8) := by kernel_rfl

theorem covering_any (w : World) (f t : Int) :
    Calls Tryd.prog 53 #[.int .u32 f, .int .u32 t] w fun e w' => e = .returned (.func (.func 69) #[] #[.pointer (some ⟨w.heap.size, 0, none⟩), .pointer (some ⟨w.heap.size + 1, 0, none⟩)]) ∧ w' = (w.alloc (.cells #[.int .u32 f] 22)).alloc (.cells #[.int .u32 t] 22) := by
  have hmf : ∀ (fn : Fn) (first cap : Array Value) (w : World), (Instr.makeFunc fn first cap).run Tryd.prog w = .ok (.func fn first cap) w := fun _ _ _ _ => rfl
  go_enter Tryd.func53, Tryd.ntmps53
  go_wp2
  go_ret
  exact ⟨rfl, rfl⟩

/-- What Cover leaves. -/
def CovEnds (f t : Nat) (w : World) (e : Ending) (w' : World) : Prop :=
  ∃ v, e = .returned (.tuple #[v, .int .i64 0]) ∧ w'.ownsRow w.heap.size 24 2 v (cov f t).length (flat (cov f t)) ∧ Below w.heap.size w w'

theorem cover_no (w : World) (f t : Nat) (h : t < f) : Calls Tryd.prog 15 #[.int .u32 (f : Int), .int .u32 (t : Int)] w fun e w' => e = .returned (.tuple #[.slice none 0 0, .int .i64 2]) ∧ w = w' := by
  have q : (t : Int) < f := by omega
  go_enter Tryd.func15, Tryd.ntmps15
  go_wp2
  go_ret2
  exact ⟨rfl, rfl⟩

/-- What the loop keeps. -/
def CovInv (w : World) (bp : Nat) (pre : List (Nat × Nat)) (W : World) : Prop :=
  ∃ v, Boxed W w.heap.size 36 v ∧ W.ownsRow (w.heap.size + 3) 24 2 v pre.length (flat pre) ∧ v.ownBlock ≠ some bp ∧ Below w.heap.size w W
def CovAct (f t : Nat) (b : Nat) (Bx : Nat) (x : Nat × Nat) : Act :=
  { tmps := #[.int .u32 (f : Int), .int .u32 (t : Int), undef, undef, .slice none 0 0, .int .i64 0, .pointer (some ⟨b, 0, none⟩), .pointer (some ⟨Bx, 0, none⟩), .int .u32 (f : Int), .int .u32 (t : Int), .bool false, .int .u32 (f : Int), .int .u32 (t : Int),
      .func (.func 69) #[] #[.pointer (some ⟨b + 1, 0, none⟩), .pointer (some ⟨b + 1 + 1, 0, none⟩)], .agg #[.int .u32 (x.1 : Int), .int .u8 (x.2 : Int)], undef, undef, undef, undef, undef], defers := [] }
def CovVar (f t b B : Nat) (x : Nat × Nat) (a' : Act) (W : World) : Prop :=
  ∃ Bx, B ≤ Bx ∧ Blk W Bx 24 #[.int .u32 (x.1 : Int), .int .u8 (x.2 : Int)] ∧ a' = CovAct f t b Bx x

theorem CovInv.step1 {w wl : World} (hs : wl.heap.size = w.heap.size + 3) (bp : Nat) (s : List (Nat × Nat)) (A B : World) (hbp : wl.heap.size ≤ bp) (h : CovInv w bp s A) (hg : A.grownBy B (some bp)) : CovInv w bp s B := by
  obtain ⟨v, hv, hr, hne, hb⟩ := h
  refine ⟨v, hv.kept hg (fun e => by injection e with e; omega), hr.kept hg (.inr (fun e => hne e)), hne, hb.grown hg hb.size (fun k e => by injection e with e; omega)⟩
theorem CovInv.step2 {w wl : World} (hs : wl.heap.size = w.heap.size + 3) (bp : Nat) (s : List (Nat × Nat)) (A : World) (l : Nat) (o o' : Obj) (h : CovInv w bp s A) (hl : wl.heap.size ≤ l) (ho : A.heap[l]? = some o) (hc : o.isCells = false) : CovInv w bp s (A.putObj l o') := by
  obtain ⟨v, hv, hr, hne, hb⟩ := h
  exact ⟨v, hv.kept (grownBy_putObj' A l o') (fun e => by injection e with e; omega), ownsRow_putObj hr o' ho hc, hne, hb.grown (grownBy_putObj' A l o') hb.size (fun k e => by injection e with e; omega)⟩

theorem own_base {w : World} {b b' : Nat} {e : TypeId} {size n : Nat} {v : Value} {xs : List Value} (h : w.ownsRow b e size v n xs) (hb : b' ≤ b) : w.ownsRow b' e size v n xs := by
  refine ⟨h.1, ?_⟩
  rcases h.2 with h2 | ⟨g, cap, cur, hv, hg, rest⟩
  · exact .inl h2
  · exact .inr ⟨g, cap, cur, hv, Nat.le_trans hb hg, rest⟩

theorem CovInv.alloc {w W : World} {bp : Nat} {s : List (Nat × Nat)} (h : CovInv w bp s W) (o : Obj) : CovInv w bp s (W.alloc o) := by
  obtain ⟨v, hv, hr, hne, hb⟩ := h
  exact ⟨v, hv.alloc o, hr.alloc o, hne, hb.alloc hb.size o⟩

theorem cov_step {w W w1 : World} {bp Bl : Nat} {v v' : Value} {pre : List (Nat × Nat)} {x : Nat × Nat} {tmp : Obj} (hbl : w.heap.size + 3 ≤ Bl) (hbp : Bl ≤ bp) (hlt : bp < W.heap.size) (hv : Boxed W w.heap.size 36 v) (hr : W.ownsRow (w.heap.size + 3) 24 2 v pre.length (flat pre)) (hne : v.ownBlock ≠ some bp) (hb : Below w.heap.size w W)
    (hown' : w1.ownsRow (w.heap.size + 3) 24 2 v' (pre.length + 1) (flat pre ++ [.int .u32 (x.1 : Int), .int .u8 (x.2 : Int)])) (hgrow : (W.alloc tmp).grownBy w1 v.ownBlock) (hat : v'.ownBlock = v.ownBlock ∨ v'.ownBlock = some (W.alloc tmp).heap.size) :
    Boxed w1 w.heap.size 36 v ∧ Stp Bl (fun k => k = w.heap.size + 1 + 1) bp W (w1.setCell ⟨w.heap.size, 0, none⟩ v') ∧ CovInv w bp (pre ++ [x]) (w1.setCell ⟨w.heap.size, 0, none⟩ v') := by
  obtain ⟨hv1, hv2, hr2, hk2, hb2⟩ := hv.appended (by decide) (own_base hr (by omega)) hb.size (Nat.le_refl _) (own_base hown' (by omega)) hgrow
  have hrow : ∀ k, v.ownBlock = some k → w.heap.size + 3 ≤ k := fun k hk => (hr.lt k hk).1
  have hsame : ∀ k, k < W.heap.size → k ≠ w.heap.size → v.ownBlock ≠ some k → (w1.setCell ⟨w.heap.size, 0, none⟩ v').heap[k]? = W.heap[k]? := fun k hk h1 h2 =>
    ((Below.heap_setCell w1 ⟨w.heap.size, 0, none⟩ v' k h1).trans (hgrow.block k (by simp; omega) (fun e => h2 e.symm))).trans (Below.heap_alloc W tmp k hk)
  have := hb.size
  refine ⟨hv1, ⟨hk2.from _, hsame bp hlt (by omega) hne, fun k hk => ?_⟩, v', hv2, ?_, ?_, hb.trans hb2⟩
  · subst hk
    exact hsame _ (by omega) (by omega) (fun e => by have := hrow _ e; omega)
  · have h3 := hown'.kept (grownBy_setCell' w1 w.heap.size v') (.inr (hv1.not_row (by decide) hown').symm)
    rw [flat_snoc]
    simpa using h3
  · rcases hat with h | h
    · rw [h]; exact hne
    · rw [h]
      simp
      omega

set_option maxRecDepth 100000 in
set_option maxHeartbeats 4000000 in
theorem cover_in (n : Nat) (hn : 4 ≤ n) (w : World) (f t : Nat) (hf0 : f < 4294967296) (ht : t < 4294967296) (hft : f ≤ t) :
    CallsIn Fence.wide n Tryd.prog 15 #[.int .u32 (f : Int), .int .u32 (t : Int)] w (CovEnds f t w) := by
  have h1 : 1 ≤ n := by omega
  obtain ⟨i0, hi, hz0, hz1, hz2⟩ := info_parts info24
  have q : ¬ (t : Int) < f := by omega
  refine callsIn_of_wp_marks Tryd.func15 rfl trivial ?_ rfl
  simp only [Tryd.ntmps15, List.size_toArray, List.length_cons, List.length_nil, Nat.reduceAdd, Nat.reduceSub, Array.replicate_succ, Array.replicate_zero, List.push_toArray, List.append_toArray, List.nil_append, List.cons_append]
  gi_wp2_with fail
  refine ⟨trivial, (callsIn_wide.2 (covering_any _ _ _)).mono ?_⟩
  rintro e w' ⟨rfl, rfl⟩
  gi_wp2
  obtain ⟨wl, hwl⟩ : ∃ wl, (((w.alloc (.cells #[.slice none 0 0] 36)).alloc (.cells #[.int .u32 (f : Int)] 22)).alloc (.cells #[.int .u32 (t : Int)] 22)) = wl := ⟨_, rfl⟩
  have hsz : wl.heap.size = w.heap.size + 3 := by rw [← hwl]; simp
  have hbl : Below w.heap.size w wl := by
    rw [← hwl]
    exact (((Below.refl _ w).alloc (Nat.le_refl _) _).alloc (by simp) _).alloc (by simp; omega) _
  have hbx : Boxed wl w.heap.size 36 (.slice none 0 0) := by
    rw [← hwl]
    exact ((Boxed.new w 36 (.slice none 0 0)).alloc _).alloc _
  have k1 : wl.cell? ⟨w.heap.size + 1, 0, none⟩ = some (.int .u32 (f : Int)) := by
    rw [← hwl]
    have := ((Boxed.new (w.alloc (.cells #[.slice none 0 0] 36)) 22 (.int .u32 (f : Int))).alloc (.cells #[.int .u32 (t : Int)] 22)).cell
    simpa using this
  have k2 : wl.cell? ⟨w.heap.size + 1 + 1, 0, none⟩ = some (.int .u32 (t : Int)) := by
    rw [← hwl]
    have := (Boxed.new ((w.alloc (.cells #[.slice none 0 0] 36)).alloc (.cells #[.int .u32 (f : Int)] 22)) 22 (.int .u32 (t : Int))).cell
    simpa using this
  rw [hwl]
  have hlen := covGo_len t (t - f + 1) f
  have hlen2 : (cov f t).length ≤ t - f + 1 := hlen
  clear hwl hlen
  refine wpIn_rangeFunc_cells rfl h1 (gf := 69) (lb := #[.pointer (some ⟨w.heap.size + 1, 0, none⟩), .pointer (some ⟨w.heap.size + 1 + 1, 0, none⟩)]) rfl trivial (enters_of Tryd.func69 (by kernel_rfl) rfl)
    (cov_seq (n - 1) (by omega) (w.heap.size + 1) (w.heap.size + 1 + 1) f t (fun k => k = w.heap.size + 1 + 1) hf0 ht hft wl (by omega) (by omega) rfl k1 k2) (fun k hk => by omega) (Below.refl _ _) (fun _ => rfl)
    (CovInv w) (fun bp s A B hbp h hg => CovInv.step1 hsz bp s A B hbp h hg) (fun bp s A l o o' h hl ho hc => CovInv.step2 hsz bp s A l o o' h hl ho hc)
    (fun bp A hA hbp => ⟨.slice none 0 0, hbx.kept (row := none) ⟨hA.os, hA.tape, hA.output, hA.size, fun k hk _ => hA.block k hk⟩ (by simp), World.ownsRow_nil _ _ _ _, by simp [Value.ownBlock], hbl.trans (hA.mono (by omega))⟩)
    (CovVar f t w.heap.size wl.heap.size) (fun x a' A l o o' h hl ho hc => by
      obtain ⟨Bx, hB, hblk, rfl⟩ := h
      refine ⟨Bx, hB, ?_, rfl⟩
      exact (World.putObj_heap_other (fun e => by subst e; rw [show A.heap[Bx]? = _ from hblk] at ho; cases ho; cases hc)).trans hblk) ?assign ?body ?done
  case assign =>
    rintro l bp pre x W K hbp hlt hi2 hK
    have hpv : pv x = .agg #[.int .u32 (x.1 : Int), .int .u8 (x.2 : Int)] := rfl
    gi_wp2
    refine hK _ _ ⟨(KeepsOthers.alloc W _).from _, Below.heap_alloc W _ bp hlt, fun k hk => Below.heap_alloc W _ k (by obtain ⟨v, hv, _⟩ := hi2; have := hv.lt; omega)⟩ (hi2.alloc _) ⟨W.heap.size, by omega, Blk.new _ _ _, rfl⟩
  case body =>
    rintro l bp pre x a' W hbp hlt ⟨v, hv, hr, hne, hb⟩ ⟨Bx, hBx, hblk, rfl⟩ hlen
    have hc := hv.cell
    have c0 := hblk.cell 0
    have c1 := hblk.cell 1
    unfold CovAct
    gi_wp2_with (gi_at_builtin; refine wpListIn_append_own_at _ rfl _ _ 36 rfl (w.heap.size + 3) 24 i0 _ 2 8 Tryd.underlying36 hi hz0 hz1 hz2 rfl (by decide) _ _ _ rfl (hr.alloc _) ⟨W.heap.size, 0, none⟩ 1 1 [.int .u32 (x.1 : Int), .int .u8 (x.2 : Int)] rfl rfl (World.news_of_block (cs := #[.int .u32 (x.1 : Int), .int .u8 (x.2 : Int)]) (t := 24) (fr := (0, 0)) (heap_alloc_new W _)) (by simp [Value.oneCell']) (by unfold maxLen; omega) (by omega) (by simp; omega) ?_; intro v' w1 hown' hgrow _ hat; obtain ⟨g', cap', rfl⟩ := ownsRow_succ hown'; obtain ⟨hv1, hs2, hi2⟩ := cov_step (Bl := wl.heap.size) (by omega) hbp hlt hv hr hne hb hown' hgrow hat; have hc1 := hv1.cell; have hf1 := hv1.frozen)
    exact ⟨hs2, hi2⟩
  case done =>
    rintro D bp ys W hD rfl ⟨v, hv, hr, hne, hb⟩ hK
    have hc := hv.cell
    gi_wp2
    refine ⟨by simp, .inl ⟨_, _, rfl, run_takeDeferred hK, ?_⟩⟩
    refine ⟨_, results_tmp2 rfl _ _ _, v, rfl, ownsRow_putObj (own_base hr (by omega)) _ hK rfl, hb.trans (belowK_b (w := w) (Nat.le_refl _) W D _ _ (by omega) hK rfl rfl)⟩

theorem cover_yes (w : World) (f t : Nat) (hf0 : f < 4294967296) (ht : t < 4294967296) (hft : f ≤ t) : Calls Tryd.prog 15 #[.int .u32 (f : Int), .int .u32 (t : Int)] w (CovEnds f t w) :=
  callsIn_wide.1 (cover_in 6 (by omega) w f t hf0 ht hft)
end Go.Proofs.YtknmnlbgjpbgiaaDoor
