/-
  Bytes that are written over: OverBytes.
-/
import Derived.Test.YtgpnnnjhcjjnmaaMk
import Derived.Test.YtgpnnnjhcjjnmaaW4
import Derived.Outline
import Derived.Deep.Cut
import Derived.Deep.CutRange
namespace Go.Proofs.Ytgpnnnjhcjjnmaa
open Go.RowKit

/-- The block of a slice, and no other one, has changed. -/
def Own1 (v : Value) : Nat → Prop := fun k => v.ownBlock = some k
def Overs (w : World) (v : Value) (e : Ending) (w' : World) : Prop := e = .returned (.tuple #[]) ∧ Frm (Own1 v) w w'

set_option maxRecDepth 100000 in
set_option maxHeartbeats 1000000 in
theorem over_nil (w : World) : Calls Try.prog 42 #[.slice none 0 0] w (Overs w (.slice none 0 0)) := by
  go_enter Try.func42, Try.ntmps42
  go_wp2
  refine wp_loop_rounds 1 ?_
  rw [rounds_succ]
  go_wp2
  go_end0
  exact ⟨rfl, Frm.refl _ _⟩

set_option maxRecDepth 100000 in
set_option maxHeartbeats 2000000 in
theorem over_some (w : World) (g n cap K : Nat) (hn : n ≤ cap) (hc : cap ≤ maxLen) (hn2 : n ≤ 140737488351232) (hK : K = min cap (n + 12)) (cur : Array Value) (hg : w.heap[g]? = some (.cells cur 5 (0, 0))) (hs : cur.size = cap) :
    Calls Try.prog 42 #[.slice (some ⟨g, 0, none⟩) n cap] w (Overs w (.slice (some ⟨g, 0, none⟩) n cap)) := by
  have hKc : K ≤ cap := by omega
  have hKn : K ≤ 140737488351244 := by omega
  have H0 : Hid (∃ c2 : Array Value, w.heap[g]? = some (.cells c2 5 (0, 0)) ∧ c2.size = cap) := ⟨cur, hg, hs⟩
  have HK := Lib.hid hK
  clear hg hs hK
  unfold maxLen at hc
  go_enter Try.func42, Try.ntmps42
  go_upto_region 0 with fail
  go_cut [2] from 4 to 11 (fun s wx => s = .slice (some ⟨g, 0, none⟩) K cap ∧ wx = w)
  case first =>
    have hw : IntKind.i64.wrap ((n : Int) + 12) = n + 12 := by rw [IntWalk.i64_in] <;> omega
    by_cases h : cap ≤ n + 12
    · have q1 : (cap : Int) ≤ n + 12 := by omega
      have q2 : ¬ (n : Int) + 12 < cap := by omega
      have E := Lib.hid (show K = cap by have := HK.out; omega)
      clear h
      go_wp2_with fail
      go_meet
      exact ⟨by rw [E.out], rfl⟩
    · have q1 : ¬ (cap : Int) ≤ n + 12 := by omega
      have q2 : (n : Int) + 12 < cap := by omega
      have q3 : (n : Int) + 12 ≤ cap := by omega
      have E := Lib.hid (show K = n + 12 by have := HK.out; omega)
      clear h
      go_wp2_with fail
      go_meet
      exact ⟨by rw [E.out], rfl⟩
  case rest =>
    obtain ⟨rfl, rfl⟩ := hcut
    have H1 : Hid (Frm (Own1 (.slice (some ⟨g, 0, none⟩) n cap)) wc wc) := Frm.refl _ _
    go_wp2_with fail
    go_loopw [3] (fun i wr => ∃ j : Nat, j ≤ K ∧ i = .int .i64 (j : Int) ∧ Hid (∃ c2 : Array Value, wr.heap[g]? = some (.cells c2 5 (0, 0)) ∧ c2.size = cap) ∧ Hid (Frm (Own1 (.slice (some ⟨g, 0, none⟩) n cap)) wc wr)) (fun i _ => K - (intOf i).toNat)
    case atStart => exact ⟨0, Nat.zero_le _, rfl, H0, H1⟩
    case round =>
      obtain ⟨j, hj, rfl, HC, HF⟩ := hrel
      by_cases hlt : j < K
      · have q0 : (j : Int) < K := by omega
        obtain ⟨c2, hc2, hs2⟩ := HC.out
        have hB : Blk wr g 5 c2 := hc2
        have hcell : wr.cell? ⟨g, j, none⟩ = some (c2[j]'(by omega)) := by rw [hB.cell]; exact Array.getElem?_eq_getElem (by omega)
        have hfr := hB.frozen j
        obtain ⟨u, hu⟩ : ∃ u, c2[j]'(by omega) = u := ⟨_, rfl⟩
        rw [hu] at hcell
        have HB2 := Lib.hid hB
        have HS := Lib.hid hs2
        clear hc2 hs2 hu hB HC H0 H1
        go_wp2_with (go_at_call 72; refine (markByte_any _ 2 j (by omega) (by omega)).mono ?_; rintro e w' ⟨rfl, rfl⟩)
        go_roundw
        case rel => exact ⟨j + 1, by omega, by go_num, ⟨_, HB2.out.set_ j _, by simpa using HS.out⟩, HF.out.setCell (p := ⟨g, j, none⟩) (fun _ => rfl) _⟩
        case measure => simp [intOf]; omega
      · go_wp2
        go_end0
        exact ⟨rfl, HF.out⟩

theorem over_own (w : World) {b n : Nat} {v : Value} {xs : List UInt8} (h : w.ownsRow b 5 1 v n (byts xs)) (hn : n ≤ 140737488351232) : Calls Try.prog 42 #[v] w (Overs w v) := by
  rcases h.2 with ⟨rfl, h0⟩ | ⟨g, cap, cur, rfl, _, hg, h1, h2, h3, _⟩
  · exact over_nil w
  · exact over_some w g n cap _ h1 h2 hn rfl cur hg (by omega)
end Go.Proofs.Ytgpnnnjhcjjnmaa
