/-
  The document's own Fold, Join, Update, Update32, Pseudo.
-/
import Derived.Test.YtnokbnggpbjchaaB2
namespace Go.Proofs.Ytnokbnggpbjchaa
open Go.RowKit

set_option maxRecDepth 100000 in
theorem refFold (w : World) (s : Nat) (z : Int) (hz : z = s) (hs : s < 9223372036854775808) : Calls Try.prog 53 #[.int .i64 z] w fun e w' => e = .returned (.int .i64 (fold s : Int)) ∧ w = w' := by
  by_cases h0 : s = 0
  · subst h0 hz
    go_enter Try.func53, Try.ntmps53
    go_wp2
    go_ret
    exact ⟨rfl, rfl⟩
  · have hf : fold s = 1 + (s - 1) % 65535 := by unfold fold; rw [if_neg h0]
    have e0 : ¬ z = 0 := by omega
    obtain ⟨t, ht⟩ : ∃ t : Nat, t = s - 1 := ⟨_, rfl⟩
    have e1 : IntKind.i64.wrap (z - 1) = t := by rw [IntWalk.i64_in] <;> omega
    obtain ⟨m, hm, hm2⟩ : ∃ m : Nat, (t : Int) % 65535 = m ∧ m = t % 65535 := ⟨t % 65535, by omega, rfl⟩
    have e3 : IntKind.i64.wrap (1 + (m : Int)) = 1 + m := by rw [IntWalk.i64_in] <;> omega
    have hr : (fold s : Int) = 1 + m := by rw [hf, ← ht, ← hm2]; simp
    have t0 : (t : Int) ≤ 9223372036854775807 := by omega
    rw [hr]
    clear hf hs hz ht hm2 hr
    go_enter Try.func53, Try.ntmps53
    go_wp2
    go_ret
    exact ⟨rfl, rfl⟩

theorem addU_take (xs : List UInt16) (k : Nat) (hk : k < xs.length) : addU (xs.take (k + 1)) = addU (xs.take k) + xs[k].toNat := by
  rw [List.take_succ_eq_append_getElem hk, addU_snoc]

set_option maxRecDepth 100000 in
set_option maxHeartbeats 1000000 in
theorem refJoin (w : World) (A : Option Addr) (n c : Nat) (xs : List UInt16) (hn : xs.length = n) (h : RdW w A xs) (h4 : n ≤ 100000) :
    Calls Try.prog 40 #[.slice A n c] w fun e w' => e = .returned (.int .i64 (fold (addU xs) : Int)) ∧ w = w' := by
  have H := Lib.hid h
  clear h
  go_enter Try.func40, Try.ntmps40
  go_wp2
  go_loop [3, 4] (fun s i => ∃ j : Nat, j ≤ n ∧ i = .int .i64 j ∧ s = .int .i64 (addU (xs.take j) : Int)) (fun _ i => n - (intOf i).toNat)
  case atStart => exact ⟨0, Nat.zero_le _, rfl, rfl⟩
  case round =>
    obtain ⟨j, hj, rfl, rfl⟩ := hrel
    by_cases hlt : j < n
    · have hjx : j < xs.length := by omega
      obtain ⟨ad, rfl, hc⟩ := H.out.at_ hjx
      have hb := addU_le (xs.take j)
      have hx := xs[j].toNat_lt
      have hl : (xs.take j).length ≤ 100000 := by rw [List.length_take]; omega
      have hs := addU_take xs j hjx
      obtain ⟨s, hss⟩ : ∃ s, addU (xs.take j) = s := ⟨_, rfl⟩
      rw [hss] at hb hs ⊢
      obtain ⟨x, hxx⟩ : ∃ x, xs[j].toNat = x := ⟨_, rfl⟩
      rw [hxx] at hc hx hs
      have a1 : IntKind.i64.wrap ((s : Int) + x) = ((s + x : Nat) : Int) := by rw [IntWalk.i64_in] <;> omega
      have HS := Lib.hid hs
      clear hss hxx hs hb hl
      go_wp2
      go_round
      case rel => exact ⟨j + 1, by omega, by go_num, by rw [HS.out]; simp⟩
      case measure => simp [intOf]; omega
    · have ht : xs.take j = xs := List.take_of_length_le (by omega)
      have hb := addU_le xs
      rw [ht]
      have HF := Lib.hid (refFold w (addU xs) (addU xs) rfl (by omega))
      clear ht hb
      go_wp2_with fail
      refine HF.out.mono ?_
      rintro e w' ⟨rfl, rfl⟩
      go_wp2
      go_ret
      exact ⟨rfl, rfl⟩

set_option maxRecDepth 100000 in
theorem refUpdate (w : World) (c o x : Nat) (hc : c ≤ 65535) (ho : o ≤ 65535) (hx : x ≤ 65535) : Calls Try.prog 41 #[.int .i64 (c : Int), .int .i64 (o : Int), .int .i64 (x : Int)] w fun e w' => e = .returned (.int .i64 (updOf c o x : Int)) ∧ w = w' := by
  obtain ⟨a, ha⟩ : ∃ a : Nat, a = 65535 - c := ⟨_, rfl⟩
  obtain ⟨b, hb⟩ : ∃ b : Nat, b = 65535 - c + 65535 := ⟨_, rfl⟩
  obtain ⟨d, hd⟩ : ∃ d : Nat, d = 65535 - c + 65535 - o := ⟨_, rfl⟩
  have e1 : IntKind.i64.wrap (65535 - (c : Int)) = a := by rw [IntWalk.i64_in] <;> omega
  have e2 : IntKind.i64.wrap ((a : Int) + 65535) = b := by rw [IntWalk.i64_in] <;> omega
  have e3 : IntKind.i64.wrap ((b : Int) - o) = d := by rw [IntWalk.i64_in] <;> omega
  have e4 : IntKind.i64.wrap ((d : Int) + x) = ((d + x : Nat) : Int) := by rw [IntWalk.i64_in] <;> omega
  have HF := Lib.hid (refFold w (d + x) ((d : Int) + x) (by simp) (by omega))
  obtain ⟨t, ht⟩ : ∃ t, fold (d + x) = t := ⟨_, rfl⟩
  have htl : t ≤ 65535 := by rw [← ht]; exact fold_le _
  obtain ⟨u, hu⟩ : ∃ u : Nat, u = 65535 - t := ⟨_, rfl⟩
  have e5 : IntKind.i64.wrap (65535 - (t : Int)) = u := by rw [IntWalk.i64_in] <;> omega
  have hres : updOf c o x = u := by
    have e : 65535 - c + (65535 - o) + x = d + x := by omega
    unfold updOf
    rw [hu, ← ht, e]
  rw [ht] at HF
  rw [hres]
  clear ha hb hd ht hu hres
  go_enter Try.func41, Try.ntmps41
  go_wp2_with fail
  refine HF.out.mono ?_
  rintro e w' ⟨rfl, rfl⟩
  go_wp2
  go_ret
  exact ⟨rfl, rfl⟩

set_option maxRecDepth 100000 in
theorem refUpdate32 (w : World) (c o x : Nat) (hc : c ≤ 65535) (ho : o < 4294967296) (hx : x < 4294967296) : Calls Try.prog 42 #[.int .i64 (c : Int), .int .i64 (o : Int), .int .i64 (x : Int)] w fun e w' => e = .returned (.int .i64 (upd32Of c o x : Int)) ∧ w = w' := by
  have u1 : (up o).toNat = o / 65536 := by unfold up; rw [UInt16.toNat_ofNat']; omega
  have u2 : (up x).toNat = x / 65536 := by unfold up; rw [UInt16.toNat_ofNat']; omega
  have u3 : (lo o).toNat = o % 65536 := by unfold lo; rw [UInt16.toNat_ofNat']
  have u4 : (lo x).toNat = x % 65536 := by unfold lo; rw [UInt16.toNat_ofNat']
  unfold upd32Of
  rw [u1, u2, u3, u4]
  clear u1 u2 u3 u4
  have H1 := Lib.hid (refUpdate w c (o / 65536) (x / 65536) hc (by omega) (by omega))
  have hle := updOf_le c (o / 65536) (x / 65536)
  obtain ⟨v, hv⟩ : ∃ v, updOf c (o / 65536) (x / 65536) = v := ⟨_, rfl⟩
  rw [hv] at H1 hle ⊢
  have H2 := Lib.hid (refUpdate w v (o % 65536) (x % 65536) hle (by omega) (by omega))
  obtain ⟨a1, h1, q1⟩ : ∃ a : Nat, o / 65536 = a ∧ (o : Int) / 65536 = a := ⟨_, rfl, by simp⟩
  obtain ⟨a2, h2, q2⟩ : ∃ a : Nat, x / 65536 = a ∧ (x : Int) / 65536 = a := ⟨_, rfl, by simp⟩
  obtain ⟨a3, h3, q3⟩ : ∃ a : Nat, o % 65536 = a ∧ (o : Int) % 65536 = a := ⟨_, rfl, by simp⟩
  obtain ⟨a4, h4, q4⟩ : ∃ a : Nat, x % 65536 = a ∧ (x : Int) % 65536 = a := ⟨_, rfl, by simp⟩
  obtain ⟨u, hu⟩ : ∃ u, updOf v (o % 65536) (x % 65536) = u := ⟨_, rfl⟩
  rw [hu] at H2 ⊢
  rw [h1, h2] at H1
  rw [h3, h4] at H2
  clear hv hu hle h1 h2 h3 h4
  go_enter Try.func42, Try.ntmps42
  go_wp2_with fail
  refine H1.out.mono ?_
  rintro e w' ⟨rfl, rfl⟩
  go_wp2_with fail
  refine H2.out.mono ?_
  rintro e w' ⟨rfl, rfl⟩
  go_wp2
  go_ret
  exact ⟨rfl, rfl⟩

theorem psOf_sum (s d p n : Nat) (hp : p < 256) (hn : n ≤ 65535) (hs : s < 4294967296) (hd : d < 4294967296) : psOf s d p n = fold (s / 65536 + s % 65536 + d / 65536 + d % 65536 + p + n) := by
  have u1 : (up s).toNat = s / 65536 := by unfold up; rw [UInt16.toNat_ofNat']; omega
  have u2 : (up d).toNat = d / 65536 := by unfold up; rw [UInt16.toNat_ofNat']; omega
  have u3 : (lo s).toNat = s % 65536 := by unfold lo; rw [UInt16.toNat_ofNat']
  have u4 : (lo d).toNat = d % 65536 := by unfold lo; rw [UInt16.toNat_ofNat']
  have u5 : (UInt16.ofNat p).toNat = p := by rw [UInt16.toNat_ofNat']; omega
  have u6 : (UInt16.ofNat n).toNat = n := by rw [UInt16.toNat_ofNat']; omega
  unfold psOf addU
  simp only [List.map_cons, List.map_nil, addUp, u1, u2, u3, u4, u5, u6]
  congr 1
  omega

set_option maxRecDepth 100000 in
set_option maxHeartbeats 1000000 in
theorem refPseudo_yes (w : World) (s d p n : Nat) (hs : s < 4294967296) (hd : d < 4294967296) (hp : p < 256) (hn : n ≤ 65535) :
    Calls Try.prog 39 #[.int .i64 (s : Int), .int .i64 (d : Int), .int .i64 (p : Int), .int .i64 (n : Int)] w fun e w' => e = .returned (.tuple #[.int .i64 (psOf s d p n : Int), .int .i64 0]) ∧ w = w' := by
  rw [psOf_sum s d p n hp hn hs hd]
  obtain ⟨a1, h1, q1⟩ : ∃ a : Nat, s / 65536 = a ∧ (s : Int) / 65536 = a := ⟨_, rfl, by simp⟩
  obtain ⟨a2, h2, q2⟩ : ∃ a : Nat, d / 65536 = a ∧ (d : Int) / 65536 = a := ⟨_, rfl, by simp⟩
  obtain ⟨a3, h3, q3⟩ : ∃ a : Nat, s % 65536 = a ∧ (s : Int) % 65536 = a := ⟨_, rfl, by simp⟩
  obtain ⟨a4, h4, q4⟩ : ∃ a : Nat, d % 65536 = a ∧ (d : Int) % 65536 = a := ⟨_, rfl, by simp⟩
  have b1 : a1 < 65536 := by omega
  have b2 : a2 < 65536 := by omega
  have b3 : a3 < 65536 := by omega
  have b4 : a4 < 65536 := by omega
  rw [h1, h2, h3, h4]
  clear h1 h2 h3 h4
  have HF := Lib.hid (refFold w (a1 + a3 + a2 + a4 + p + n) ((a1 : Int) + a3 + a2 + a4 + p + n) (by simp) (by omega))
  obtain ⟨t, ht⟩ : ∃ t, fold (a1 + a3 + a2 + a4 + p + n) = t := ⟨_, rfl⟩
  rw [ht] at HF ⊢
  have e1 : IntKind.i64.wrap ((a1 : Int) + a3) = a1 + a3 := by rw [IntWalk.i64_in] <;> omega
  have e2 : IntKind.i64.wrap ((a1 : Int) + a3 + a2) = a1 + a3 + a2 := by rw [IntWalk.i64_in] <;> omega
  have e3 : IntKind.i64.wrap ((a1 : Int) + a3 + a2 + a4) = a1 + a3 + a2 + a4 := by rw [IntWalk.i64_in] <;> omega
  have e4 : IntKind.i64.wrap ((a1 : Int) + a3 + a2 + a4 + p) = a1 + a3 + a2 + a4 + p := by rw [IntWalk.i64_in] <;> omega
  have e5 : IntKind.i64.wrap ((a1 : Int) + a3 + a2 + a4 + p + n) = a1 + a3 + a2 + a4 + p + n := by rw [IntWalk.i64_in] <;> omega
  have n0 : ¬ (n : Int) < 0 := by omega
  have n1 : ¬ (65535 : Int) < n := by omega
  clear ht
  go_enter Try.func39, Try.ntmps39
  go_wp2_with fail
  refine HF.out.mono ?_
  rintro e w' ⟨rfl, rfl⟩
  go_wp2
  go_ret2
  exact ⟨rfl, rfl⟩

set_option maxRecDepth 100000 in
theorem refPseudo_no (w : World) (s d p : Int) (n : Int) (h : n < 0 ∨ 65535 < n) :
    Calls Try.prog 39 #[.int .i64 s, .int .i64 d, .int .i64 p, .int .i64 n] w fun e w' => e = .returned (.tuple #[.int .i64 0, .int .i64 2]) ∧ w = w' := by
  by_cases h0 : n < 0
  · go_enter Try.func39, Try.ntmps39
    go_wp2
    go_ret2
    exact ⟨rfl, rfl⟩
  · have h1 : 65535 < n := by omega
    go_enter Try.func39, Try.ntmps39
    go_wp2
    go_ret2
    exact ⟨rfl, rfl⟩
end Go.Proofs.Ytnokbnggpbjchaa
