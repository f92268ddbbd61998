/-
  What is yielded is added up and folded: csum.total, for every iterator; Sum, Of, Right.
-/
import Derived.Test.YtnokbnggpbjchaaC2
namespace Go.Proofs.Ytnokbnggpbjchaa
open Go.RowKit Go.Shelf
attribute [local go_sem] Oper.semAt_some

def addU (xs : List UInt16) : Nat := addUp (xs.map (·.toNat))
theorem addU_snoc (xs : List UInt16) (x : UInt16) : addU (xs ++ [x]) = addU xs + x.toNat := by
  unfold addU
  rw [List.map_append]
  exact addUp_snoc _ _
theorem addU_le (xs : List UInt16) : addU xs ≤ xs.length * 65535 := by
  have := addUp_le (xs.map (·.toNat)) (fun x hx => by
    obtain ⟨y, _, rfl⟩ := List.mem_map.1 hx
    exact y.toNat_lt)
  simpa [addU] using this
theorem addU_W16 (bs : List UInt8) : addU (W16 bs) = wsum bs := by
  unfold addU W16 wsum
  rw [List.map_map]
  congr 1
  conv => rhs; rw [← List.map_id (wordsOf bs)]
  apply List.map_congr_left
  intro x hx
  have := wordsOf_lt bs x hx
  simp
  omega

theorem conv64 (x : UInt16) : IntKind.u64.wrap (x.toNat : Int) = x.toNat := by
  have := x.toNat_lt
  have e : IntKind.u64.wrap (x.toNat : Int) = (x.toNat : Int) % 18446744073709551616 := rfl
  rw [e]
  omega
theorem add64 (s x : Nat) (h : s + x < 18446744073709551616) : IntKind.u64.wrap ((s : Int) + x) = ((s + x : Nat) : Int) := by
  have e : IntKind.u64.wrap ((s : Int) + x) = ((s : Int) + x) % 18446744073709551616 := rfl
  rw [e]
  omega

set_option maxRecDepth 100000 in
set_option maxHeartbeats 2000000 in
theorem total_in (n : Nat) (hn : 3 ≤ n) (gf : Nat) (lb : Array Value) (eg : ∀ args w, (callFunc gf args).run Try.prog w = .ok (.enter gf args) w) (xs : List UInt16) (N : Nat) (hN : N ≤ 140737488355328) (hx : xs.length ≤ N) (Sp : List UInt16 → Prop) (w : World)
    (hseq : SeqStopsK Fence.wide (n - 1) Try.prog gf lb (fun x : UInt16 => #[Value.int .u16 (x.toNat : Int)]) (Below w.heap.size) (fun ys => ys = xs) Sp N w) :
    CallsIn Fence.wide n Try.prog 45 #[.func (.func gf) #[] lb] w fun e W' => e = .returned (.int .u16 (fold (addU xs) : Int)) ∧ Below w.heap.size w W' := by
  have h1 : 1 ≤ n := by omega
  refine callsIn_of_wp_marks Try.func45 rfl trivial ?_ rfl
  simp only [Try.ntmps45, List.size_toArray, List.length_cons, List.length_nil, Nat.reduceAdd, Nat.reduceSub, Array.replicate_succ, Array.replicate_zero, List.push_toArray, List.append_toArray, List.nil_append, List.cons_append]
  have HS := Lib.hid hseq
  have HE := Lib.hid eg
  clear hseq eg
  gi_wp2
  have bS := Boxed.new w 92 (.int .u64 0)
  have hB0 : Below w.heap.size w (w.alloc (.cells #[.int .u64 0] 92)) := (Below.refl _ w).alloc (Nat.le_refl _) _
  refine wpIn_rangeFunc_ownG rfl h1 (gf := gf) (lb := lb) rfl trivial HE.out
    HS.out belowK_t (belowK_b (by simp)) hB0 (fun _ => rfl)
    (fun pre W => (W.cell? ⟨w.heap.size, 0, none⟩ = some (.int .u64 (addU pre : Int)) ∧ W.frozen? ⟨w.heap.size, 0, none⟩ = false) ∧ Below w.heap.size w W)
    (fun _ _ _ => False)
    (OwnFrom.and (Own.from (fun s A B row hs hg hr => ⟨cell_kept hs.1 hg hr, (frozen_kept hs.1 hg hr).trans hs.2⟩) _) (ownFrom_below (Nat.le_refl _) (by simp)))
    (fun _ _ _ _ _ hs _ _ => hs)
    ⟨⟨bS.cell, bS.frozen⟩, hB0⟩
    (fun x => { tmps := #[.func (.func gf) #[] lb, undef, .int .u16 0, .pointer (some ⟨w.heap.size, 0, none⟩), .int .u16 (x.toNat : Int), .func (.func gf) #[] lb, .int .u16 (x.toNat : Int), undef, undef, undef, undef, undef, undef], defers := [] }) ?assign ?body ?done ?stop
  case assign =>
    intro l x W K hK
    gi_wp2
    exact hK
  case body =>
    rintro l pre x W ⟨⟨hc, hf⟩, hB⟩ hlen
    have c1 := conv64 x
    have a1 := add64 (addU pre) x.toNat (by have := addU_le pre; have := x.toNat_lt; omega)
    rw [← addU_snoc] at a1
    gi_wp2
    exact ⟨(KeepsOthers.setCell _ _ _).from _, (Below.refl w.heap.size W).setCell (p := ⟨w.heap.size, 0, none⟩) (Nat.le_refl _) _, ⟨World.cell?_setCell_same' _ _ _ (by rw [hc]; rfl), by rw [World.frozen?_setCell]; exact hf⟩, hB.setCell (p := ⟨w.heap.size, 0, none⟩) (Nat.le_refl _) _⟩
  case done =>
    rintro D ys W hD rfl ⟨⟨hc, _⟩, hB⟩ hK
    have hlt : addU ys < 18446744073709551616 := by have := addU_le ys; omega
    gi_wp2_with fail
    refine ⟨trivial, (callsIn_wide.2 (fold_any _ (addU ys) _ rfl hlt)).mono ?_⟩
    rintro e w' ⟨rfl, rfl⟩
    gi_wp2
    refine ⟨by simp, .inl ⟨_, _, rfl, run_takeDeferred hK, ?_⟩⟩
    exact ⟨_, results_tmp rfl _ _ _, rfl, hB.trans (belowK_b (w := w) (Nat.le_refl _) W D _ _ (by simp at hD; omega) hK rfl rfl)⟩
  case stop =>
    rintro D c pre W _ _ h _
    exact h.elim
end Go.Proofs.Ytnokbnggpbjchaa
