/-
  Lists of prefixes beside one another: SamePrefixes.
-/
import Derived.Test.YtknmnlbgjpbgiaaDoorC16
namespace Go.Proofs.YtknmnlbgjpbgiaaDoor
open Go.RowKit
attribute [local go_sem] undef

/-- A slice that reads as a list of prefixes. -/
def Pfs (w : World) (v : Value) (xs : List (Nat × Nat)) : Prop :=
  ∃ A c, v = .slice A xs.length c ∧ (0 < xs.length → ∃ g, A = some ⟨g, 0, none⟩ ∧ ∀ (i : Nat) (h : i < xs.length), w.cell? ⟨g, i * 2, none⟩ = some (.int .u32 (xs[i].1 : Int)) ∧ w.cell? ⟨g, i * 2 + 1, none⟩ = some (.int .u8 (xs[i].2 : Int)))

theorem flat_at (xs : List (Nat × Nat)) (i : Nat) (h : i < xs.length) : (flat xs)[i * 2]? = some (.int .u32 (xs[i].1 : Int)) ∧ (flat xs)[i * 2 + 1]? = some (.int .u8 (xs[i].2 : Int)) := by
  induction xs generalizing i with
  | nil => simp at h
  | cons x r ih =>
    have e : flat (x :: r) = .int .u32 (x.1 : Int) :: .int .u8 (x.2 : Int) :: flat r := rfl
    rw [e]
    cases i with
    | zero => exact ⟨rfl, rfl⟩
    | succ i =>
      have := ih i (by simpa using h)
      rw [show (i + 1) * 2 = i * 2 + 2 by omega]
      simpa using this

theorem Pfs.of_own {w : World} {base : Nat} {v : Value} {n : Nat} {xs : List (Nat × Nat)} (hn : n = xs.length) (h : w.ownsRow base 24 2 v n (flat xs)) : Pfs w v xs := by
  subst hn
  rcases h.2 with ⟨rfl, h0⟩ | ⟨g, cap, cur, rfl, _, hg, h1, h2, h3⟩
  · exact ⟨none, 0, by rw [h0], fun hp => by omega⟩
  · refine ⟨_, cap, rfl, fun _ => ⟨g, rfl, fun i hi => ?_⟩⟩
    have hf := flat_at xs i hi
    have hl := flat_len xs
    have ht := h3.2
    have hc : ∀ j, j < xs.length * 2 → w.cell? ⟨g, j, none⟩ = (flat xs)[j]? := fun j hj => by
      rw [cell_of_row w g j cur 24 (0, 0) hg, ← ht, List.getElem?_take_of_lt hj, Array.getElem?_toList]
    exact ⟨(hc _ (by omega)).trans hf.1, (hc _ (by omega)).trans hf.2⟩
theorem Pfs.frm {w w' : World} {v : Value} {xs : List (Nat × Nat)} (h : Pfs w v xs) (hf : Frm No w w') : Pfs w' v xs := by
  obtain ⟨A, c, hv, hc⟩ := h
  refine ⟨A, c, hv, fun hp => ?_⟩
  obtain ⟨g, hA, hcell⟩ := hc hp
  refine ⟨g, hA, fun i hi => ?_⟩
  have h1 := hcell i hi
  have hlt : g < w.heap.size := World.block_lt_of_cell? w _ h1.1
  exact ⟨(hf.cell (p := ⟨g, i * 2, none⟩) hlt (fun x => x)).trans h1.1, (hf.cell (p := ⟨g, i * 2 + 1, none⟩) hlt (fun x => x)).trans h1.2⟩

/-- It answers b, and has only drawn. -/
def Answers (b : Bool) (w : World) (e : Ending) (w' : World) : Prop := e = .returned (.bool b) ∧ ∃ n, w' = w.drewN n

set_option maxRecDepth 100000 in
set_option maxHeartbeats 1000000 in
theorem same_len (w : World) (A B : Option Addr) (n m c d : Nat) (hn : n ≠ m) : Calls Tryd.prog 39 #[.slice A n c, .slice B m d] w (Answers false w) := by
  have hne : ((n : Int) != (m : Int)) = true := by simp; omega
  go_enter Tryd.func39, Tryd.ntmps39
  go_wp2
  go_ret
  exact ⟨rfl, 0, rfl⟩

set_option maxRecDepth 100000 in
set_option maxHeartbeats 2000000 in
theorem same_eq (w : World) (A B : Option Addr) (n c d : Nat) (xs ys : List (Nat × Nat)) (hx : xs.length = n) (hy : ys.length = n) (hn : n ≤ 4611686018427387904)
    (ha : 0 < n → ∃ g, A = some ⟨g, 0, none⟩ ∧ ∀ (i : Nat) (h : i < xs.length), w.cell? ⟨g, i * 2, none⟩ = some (.int .u32 (xs[i].1 : Int)) ∧ w.cell? ⟨g, i * 2 + 1, none⟩ = some (.int .u8 (xs[i].2 : Int)))
    (hb : 0 < n → ∃ g, B = some ⟨g, 0, none⟩ ∧ ∀ (i : Nat) (h : i < ys.length), w.cell? ⟨g, i * 2, none⟩ = some (.int .u32 (ys[i].1 : Int)) ∧ w.cell? ⟨g, i * 2 + 1, none⟩ = some (.int .u8 (ys[i].2 : Int))) :
    Calls Tryd.prog 39 #[.slice A n c, .slice B n d] w (Answers (decide (xs = ys)) w) := by
  have HA := Lib.hid ha
  have HB := Lib.hid hb
  have HX := Lib.hid hx
  have HY := Lib.hid hy
  clear ha hb hx hy
  go_enter Tryd.func39, Tryd.ntmps39
  go_wp2
  go_loopw [5] (fun i wr => ∃ j m : Nat, j ≤ n ∧ i = .int .i64 j ∧ wr = w.drewN m ∧ Hid (∀ k (h1 : k < xs.length) (h2 : k < ys.length), k < j → xs[k] = ys[k])) (fun i _ => n - (RowKit.intOf i).toNat)
  case atStart => exact ⟨0, 0, Nat.zero_le _, rfl, rfl, fun _ _ _ h => absurd h (by omega)⟩
  case round =>
    obtain ⟨j, m, hj, rfl, rfl, HP⟩ := hrel
    by_cases hlt : j < n
    · obtain ⟨g1, rfl, hc1⟩ := HA.out (by omega)
      obtain ⟨g2, rfl, hc2⟩ := HB.out (by omega)
      have hj1 : j < xs.length := by rw [HX.out]; exact hlt
      have hj2 : j < ys.length := by rw [HY.out]; exact hlt
      obtain ⟨c10, c11⟩ := hc1 j hj1
      obtain ⟨c20, c21⟩ := hc2 j hj2
      clear hc1 hc2
      obtain ⟨⟨a, b⟩, hab⟩ : ∃ p, xs[j] = p := ⟨_, rfl⟩
      obtain ⟨⟨a', b'⟩, hab'⟩ : ∃ p, ys[j] = p := ⟨_, rfl⟩
      rw [hab] at c10 c11
      rw [hab'] at c20 c21
      have HV := Lib.hid hab
      have HV' := Lib.hid hab'
      clear hab hab'
      simp only at c10 c11 c20 c21
      by_cases he : a = a' ∧ b = b'
      · obtain ⟨rfl, rfl⟩ := he
        have e1 : ((a : Int) == a) = true := by simp
        have e2 : ((b : Int) == b) = true := by simp
        go_wp2
        go_quiet (fail)
        go_wp2
        go_roundw
        case rel => exact ⟨j + 1, _, by omega, by go_num, rfl, fun k h1 h3 hk => by
          rcases Nat.lt_or_ge k j with h4 | h4
          · exact HP k h1 h3 h4
          · obtain rfl : k = j := by omega
            rw [HV.out, HV'.out]⟩
        case measure => simp [RowKit.intOf]; omega
      · have hx : decide (xs = ys) = false := decide_eq_false (fun h => he (by
          have h1 := HV.out
          have h2 := HV'.out
          subst h
          rw [h1] at h2
          simpa using h2))
        have HF := Lib.hid hx
        clear hx
        have e0 : ((a : Int) == a') = false ∨ ((a : Int) == a') = true ∧ ((b : Int) == b') = false := by
          by_cases h1 : a = a'
          · right
            refine ⟨by rw [h1]; simp, ?_⟩
            simp
            omega
          · left
            simp
            omega
        rcases e0 with e1 | ⟨e1, e2⟩
        all_goals
          go_wp2
          go_quiet (fail)
          go_wp2
          go_ret
          exact ⟨by rw [HF.out]; rfl, _, World.drewN_drewN _ _ _⟩
    · go_wp2
      go_ret
      have hx : decide (xs = ys) = true := decide_eq_true (List.ext_getElem (by rw [HX.out, HY.out]) (fun k h1 h2 => HP k h1 h2 (by have := HX.out; omega)))
      exact ⟨by rw [hx]; rfl, _, rfl⟩

theorem same_any (w : World) (u v : Value) (xs ys : List (Nat × Nat)) (hu : Pfs w u xs) (hv : Pfs w v ys) (hn : xs.length ≤ 4611686018427387904) : Calls Tryd.prog 39 #[u, v] w (Answers (decide (xs = ys)) w) := by
  obtain ⟨A, c, rfl, ha⟩ := hu
  obtain ⟨B, d, rfl, hb⟩ := hv
  by_cases hl : ys.length = xs.length
  · rw [hl]
    exact same_eq w A B _ c d xs ys rfl hl hn ha (fun hp => hb (by omega))
  · have hx : decide (xs = ys) = false := decide_eq_false (fun h => hl (by rw [h]))
    rw [hx]
    exact same_len w A B _ _ c d (fun h => hl h.symm)
end Go.Proofs.YtknmnlbgjpbgiaaDoor
