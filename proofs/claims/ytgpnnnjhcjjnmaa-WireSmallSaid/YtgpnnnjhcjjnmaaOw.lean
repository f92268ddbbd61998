/-
  OverBytes once more: what is written over is still a row of bytes; a shorter slice of an own row.
-/
import Derived.Test.YtgpnnnjhcjjnmaaOv
import Derived.Test.YtgpnnnjhcjjnmaaWw
namespace Go.Proofs.Ytgpnnnjhcjjnmaa
open Go.RowKit

theorem take_byt {c2 : Array Value} {n : Nat} {zs : List UInt8} (h : c2.toList.take n = byts zs) (j : Nat) (b : UInt8) : ∃ zs', (c2.setIfInBounds j (byt b)).toList.take n = byts zs' := by
  refine ⟨zs.set j b, ?_⟩
  rw [Array.toList_setIfInBounds, List.take_set, h]
  simp [byts]

/-- A shorter slice of an own row. -/
theorem own_short {w : World} {base n m c : Nat} {A : Option Addr} {xs ys : List UInt8} (h : w.ownsRow base 5 1 (.slice A (n + m) c) (n + m) (byts (xs ++ ys))) (hx : xs.length = n) (hm : 0 < m) : w.ownsRow base 5 1 (.slice A n c) n (byts xs) := by
  rcases h.2 with ⟨_, h0⟩ | ⟨g, cap, cur, hv, h1, h2, h3, h4, h5, h6⟩
  · omega
  · injection hv with e1 e2 e3
    subst e1 e3
    refine ⟨by rw [byts_len]; omega, .inr ⟨g, c, cur, rfl, h1, h2, by omega, h4, h5, ?_⟩⟩
    have h7 := congrArg (List.take (n * 1)) h6
    rw [List.take_take, show min (n * 1) ((n + m) * 1) = n * 1 by omega] at h7
    rw [h7, Nat.mul_one, byts, byts, List.map_append, List.take_left' (by simp [hx])]

set_option maxRecDepth 100000 in
set_option maxHeartbeats 2000000 in
theorem over_some2 (w : World) (g n cap K : Nat) (hn : n ≤ cap) (_hc : cap ≤ maxLen) (hn2 : n ≤ 140737488351232) (hK : K = min cap (n + 12)) (cur : Array Value) (hg : w.heap[g]? = some (.cells cur 5 (0, 0))) (hs : cur.size = cap) (zs0 : List UInt8) (hz : cur.toList.take n = byts zs0) :
    Calls Try.prog 42 #[.slice (some ⟨g, 0, none⟩) n cap] w fun e w' => Overs w (.slice (some ⟨g, 0, none⟩) n cap) e w' ∧ ∃ c2 : Array Value, w'.heap[g]? = some (.cells c2 5 (0, 0)) ∧ c2.size = cap ∧ ∃ zs, c2.toList.take n = byts zs := by
  have hKc : K ≤ cap := by omega
  have hKn : K ≤ 140737488351244 := by omega
  have H0 : Hid (∃ c2 : Array Value, w.heap[g]? = some (.cells c2 5 (0, 0)) ∧ c2.size = cap ∧ ∃ zs, c2.toList.take n = byts zs) := ⟨cur, hg, hs, zs0, hz⟩
  have HK := Lib.hid hK
  clear hg hs hK hz
  unfold maxLen at _hc
  go_enter Try.func42, Try.ntmps42
  go_upto_region 0 with fail
  go_cut [2] from 4 to 11 (fun s wx => s = .slice (some ⟨g, 0, none⟩) K cap ∧ wx = w)
  case first =>
    have hw : IntKind.i64.wrap ((n : Int) + 12) = n + 12 := by rw [IntWalk.i64_in] <;> omega
    by_cases h : cap ≤ n + 12
    · have q1 : (cap : Int) ≤ n + 12 := by omega
      have q2 : ¬ (n : Int) + 12 < cap := by omega
      have E := Lib.hid (show K = cap by have := HK.out; omega)
      clear h
      go_wp2_with fail
      go_meet
      exact ⟨by rw [E.out], rfl⟩
    · have q1 : ¬ (cap : Int) ≤ n + 12 := by omega
      have q2 : (n : Int) + 12 < cap := by omega
      have q3 : (n : Int) + 12 ≤ cap := by omega
      have E := Lib.hid (show K = n + 12 by have := HK.out; omega)
      clear h
      go_wp2_with fail
      go_meet
      exact ⟨by rw [E.out], rfl⟩
  case rest =>
    obtain ⟨rfl, rfl⟩ := hcut
    have H1 : Hid (Frm (Own1 (.slice (some ⟨g, 0, none⟩) n cap)) wc wc) := Frm.refl _ _
    go_wp2_with fail
    go_loopw [3] (fun i wr => ∃ j : Nat, j ≤ K ∧ i = .int .i64 (j : Int) ∧ Hid (∃ c2 : Array Value, wr.heap[g]? = some (.cells c2 5 (0, 0)) ∧ c2.size = cap ∧ ∃ zs, c2.toList.take n = byts zs) ∧ Hid (Frm (Own1 (.slice (some ⟨g, 0, none⟩) n cap)) wc wr)) (fun i _ => K - (intOf i).toNat)
    case atStart => exact ⟨0, Nat.zero_le _, rfl, H0, H1⟩
    case round =>
      obtain ⟨j, hj, rfl, HC, HF⟩ := hrel
      by_cases hlt : j < K
      · have q0 : (j : Int) < K := by omega
        obtain ⟨c2, hc2, hs2, zs, hz2⟩ := HC.out
        have hB : Blk wr g 5 c2 := hc2
        have hcell : wr.cell? ⟨g, j, none⟩ = some (c2[j]'(by omega)) := by rw [hB.cell]; exact Array.getElem?_eq_getElem (by omega)
        have hfr := hB.frozen j
        obtain ⟨u, hu⟩ : ∃ u, c2[j]'(by omega) = u := ⟨_, rfl⟩
        rw [hu] at hcell
        have HB2 := Lib.hid hB
        have HS := Lib.hid hs2
        have HZ := Lib.hid (take_byt hz2 j (markK 2 j))
        clear hz2 hc2 hs2 hu hB HC H0 H1
        go_wp2_with (go_at_call 72; refine (markByte_any _ 2 j (by omega) (by omega)).mono ?_; rintro e w' ⟨rfl, rfl⟩)
        go_roundw
        case rel => exact ⟨j + 1, by omega, by go_num, ⟨_, HB2.out.set_ j _, by simpa using HS.out, HZ.out⟩, HF.out.setCell (p := ⟨g, j, none⟩) (fun _ => rfl) _⟩
        case measure => simp [intOf]; omega
      · go_wp2
        go_end0
        exact ⟨⟨rfl, HF.out⟩, HC.out⟩


theorem over_keep (w : World) {b n : Nat} {v : Value} {xs : List UInt8} (h : w.ownsRow b 5 1 v n (byts xs)) (hn0 : 0 < n ∨ v.ownBlock ≠ none) (hn : n ≤ 140737488351232) :
    Calls Try.prog 42 #[v] w fun e w' => Overs w v e w' ∧ ∃ zs, w'.ownsRow b 5 1 v n (byts zs) := by
  rcases h.2 with ⟨rfl, h0⟩ | ⟨g, cap, cur, rfl, hb, hg, h1, h2, h3, h4⟩
  · exact (hn0.elim (fun h => by omega) (fun h => h rfl)).elim
  · rw [Nat.mul_one] at h3 h4
    refine (over_some2 w g n cap _ h1 h2 hn rfl cur hg h3 xs h4).mono fun e w' ⟨ho, c2, hc2, hs2, zs, hz⟩ => ⟨ho, zs, ?_⟩
    have hl := congrArg List.length hz
    rw [List.length_take, byts_len, Array.length_toList] at hl
    exact ⟨by rw [byts_len]; omega, .inr ⟨g, cap, c2, rfl, hb, hc2, h1, h2, by rw [Nat.mul_one]; exact hs2, by rw [Nat.mul_one]; exact hz⟩⟩
end Go.Proofs.Ytgpnnnjhcjjnmaa
