/-
  Loans.
-/
import Derived.Test.YtcclneaabnpbkaaK1
import Derived.Test.YtcclneaabnpbkaaAp

/- L1 -/
namespace Go.Proofs.Ytcclneaabnpbkaa
open Go.RowKit

/-- The mark that stands at i behind what was lent. -/
def markN (i : Nat) : Nat := ((8000024 + i) * 11400714819323198485 % 18446744073709551616) / 72057594037927936
def markB (i : Nat) : UInt8 := UInt8.ofNat (markN i)
def marks (n : Nat) : List UInt8 := (List.range n).map markB

set_option maxRecDepth 100000 in
set_option maxHeartbeats 1000000 in
theorem mark_one (w : World) (i : Nat) (hi : i < 12) : Calls Try.prog 77 #[.int .i64 1, .int .i64 (i : Int)] w fun e w' => e = .returned (.int .i64 ((8000024 + i : Nat) : Int)) ∧ w = w' := by
  have hw : IntKind.i64.wrap (8000024 + (i : Int)) = 8000024 + i := by rw [IntWalk.i64_in]; omega
  go_enter Try.func77, Try.ntmps77
  go_wp2
  go_ret
  exact ⟨by simp, rfl⟩

set_option maxRecDepth 100000 in
set_option maxHeartbeats 1000000 in
theorem mark_byte (w : World) (i : Nat) (hi : i < 12) : Calls Try.prog 48 #[.int .i64 1, .int .i64 (i : Int)] w fun e w' => e = .returned (.int .u8 ((markB i).toNat : Int)) ∧ w = w' := by
  have hM := mark_one w i hi
  have h : i = 0 ∨ i = 1 ∨ i = 2 ∨ i = 3 ∨ i = 4 ∨ i = 5 ∨ i = 6 ∨ i = 7 ∨ i = 8 ∨ i = 9 ∨ i = 10 ∨ i = 11 := by omega
  rcases h with rfl | rfl | rfl | rfl | rfl | rfl | rfl | rfl | rfl | rfl | rfl | rfl
  all_goals
    go_enter Try.func48, Try.ntmps48
    go_wp2_with fail
    refine hM.mono ?_
    rintro e w' ⟨rfl, rfl⟩
    go_wp2
    go_ret
    exact ⟨by kernel_rfl, rfl⟩
end Go.Proofs.Ytcclneaabnpbkaa

/- Sr -/
namespace Go.Proofs.Ytcclneaabnpbkaa
open Go.RowKit

/-- What is read at A, of the capacity c, is xs; a nil slice has no capacity. -/
structure Src (w : World) (A : Option Addr) (c : Nat) (xs : List UInt8) : Prop where
  rds : Rds w A xs
  le : xs.length ≤ c
  nil : A = none → c = 0

theorem Src.of_own {w : World} {base : Nat} {v : Value} {n : Nat} {bs : List UInt8} (h : w.ownsRow base 5 1 v n (byts bs)) :
    ∃ A c, v = .slice A n c ∧ n = bs.length ∧ Src w A c bs ∧ v.ownBlock = Go.Proofs.Ytcclneaabnpbkaa.blk A := by
  have hl := h.1
  rw [byts_len] at hl
  have h' := h
  rcases h.2 with ⟨rfl, hn⟩ | ⟨g, cap, cur, rfl, _, _, h1, h2, _⟩
  · subst hn
    exact ⟨none, 0, rfl, by omega, ⟨Rds.of_own h', by omega, fun _ => rfl⟩, rfl⟩
  · exact ⟨_, _, rfl, by omega, ⟨Rds.of_own h', by omega, fun h => by cases h⟩, rfl⟩

theorem own_lt {w : World} {b : Nat} {e : TypeId} {size n : Nat} {v : Value} {xs : List Value} (h : w.ownsRow b e size v n xs) {i : Nat} (hi : v.ownBlock = some i) : b ≤ i ∧ i < w.heap.size := h.lt i hi

theorem Src.frm {w w' : World} {S : Nat → Prop} {A : Option Addr} {c : Nat} {xs : List UInt8} (h : Src w A c xs) (hf : Frm S w w') (hS : ∀ k, Go.Proofs.Ytcclneaabnpbkaa.blk A = some k → ¬ S k) : Src w' A c xs :=
  ⟨h.rds.frm hf hS, h.le, h.nil⟩

end Go.Proofs.Ytcclneaabnpbkaa

/- L2 -/
namespace Go.Proofs.Ytcclneaabnpbkaa
open Go.RowKit

theorem marks_len (n : Nat) : (marks n).length = n := by simp [marks]
theorem marks_succ (n : Nat) : marks (n + 1) = marks n ++ [markB n] := by simp [marks, List.range_succ]

theorem news1 (w : World) (x : UInt8) : ∀ (j : Nat) (u : Value), (byts [x])[j]? = some u → (w.alloc (.cells #[.int .u8 (x.toNat : Int)] 5)).cell? ((⟨w.heap.size, 0, none⟩ : Addr).add j) = some u := by
  intro j u hu
  have hj : j = 0 := by
    have := (List.getElem?_eq_some_iff.1 hu).1
    simp [byts] at this
    omega
  subst hj
  have hb : Blk (w.alloc (.cells #[.int .u8 (x.toNat : Int)] 5)) w.heap.size 5 #[.int .u8 (x.toNat : Int)] := Blk.new _ _ _
  have h0 := hb.cell 0
  simp [byts, byt] at hu
  subst hu
  exact h0

/-- What was lent: the bytes, and the marks behind them. -/
def Lent (w : World) (bs : List UInt8) (e : Ending) (w' : World) : Prop :=
  ∃ A c, e = .returned (.slice A bs.length c) ∧ w'.ownsRow w.heap.size 5 1 (.slice A (bs.length + 12) c) (bs.length + 12) (byts (bs ++ marks 12)) ∧ Frm No w w'

theorem lent_step {w wr w2 : World} {bs : List UInt8} {v v' : Value} {j : Nat} {o : Obj} {n : Nat} (HO : wr.ownsRow w.heap.size 5 1 v (bs.length + j) (byts (bs ++ marks j))) (HF : Frm No w wr)
    (hown : w2.ownsRow w.heap.size 5 1 v' n (byts (bs ++ marks j) ++ byts [markB j])) (hgr : (wr.alloc o).grownBy w2 v.ownBlock) (hn : n = bs.length + j + 1 := by rfl) :
    Hid (w2.ownsRow w.heap.size 5 1 v' (bs.length + (j + 1)) (byts (bs ++ marks (j + 1)))) ∧ Hid (Frm No w w2) := by
  subst hn
  constructor
  · show w2.ownsRow w.heap.size 5 1 v' (bs.length + (j + 1)) (byts (bs ++ marks (j + 1)))
    rw [marks_succ]
    simpa [byts, Nat.add_assoc] using hown
  · show Frm No w w2
    exact (HF.alloc o).trans (Frm.of_grown hgr) (fun i hi hs => by
      have := (World.ownsRow.lt HO i hs).1
      omega)

set_option maxRecDepth 100000 in
set_option maxHeartbeats 1000000 in
theorem lent_nil (w : World) : Calls Try.prog 28 #[.slice none 0 0] w (Lent w []) := by
  obtain ⟨i0, hi, hz0, hz1, hz2⟩ := info_parts info5
  have hmk : ∀ w, (Instr.makeSlice 22 (.int .i64 0) (.int .i64 12)).run Try.prog w = .ok (.slice (some ⟨w.heap.size, 0, none⟩) 0 12) (w.alloc (.cells (byts (List.replicate 12 0)).toArray 5)) := by
    intro w
    have := make_bytes 0 12 (by omega) (by omega) w
    simpa using this
  obtain ⟨Z, hZ⟩ : ∃ Z, Z = (byts (List.replicate 12 0)).toArray := ⟨_, rfl⟩
  rw [← hZ] at hmk
  have HZ : Hid (Z.size = 12) := by show Z.size = _; rw [hZ]; simp [byts_len]
  clear hZ
  have hown : (w.alloc (.cells Z 5)).ownsRow w.heap.size 5 1 (.slice (some ⟨w.heap.size, 0, none⟩) 0 12) 0 [] := World.ownsRow_made w Z 12 (Nat.le_refl _) (by unfold maxLen; omega) (by rw [HZ.out, Nat.mul_one])
  have HO1 : Hid ((w.alloc (.cells Z 5)).ownsRow w.heap.size 5 1 (.slice (some ⟨w.heap.size, 0, none⟩) 0 12) (0 + 0) (byts ([] ++ marks 0))) := by
    show (w.alloc (.cells Z 5)).ownsRow w.heap.size 5 1 (.slice (some ⟨w.heap.size, 0, none⟩) 0 12) (0 + 0) (byts ([] ++ marks 0))
    simpa [marks, byts] using hown
  have HF1 : Hid (Frm No w (w.alloc (.cells Z 5))) := (Frm.refl No w).alloc _
  have HOWN := Lib.hid hown
  clear hown
  go_enter Try.func28, Try.ntmps28
  go_wp2_with (at_builtin; refine wpList_append_own_none rfl (.tmp 9) (.tmp 10) 22 rfl w.heap.size 5 i0 1 Try.underlying22 hi _ 0 [] rfl HOWN.out rfl ?_)
  clear HOWN
  go_loopw [3, 4] (fun v i wr => ∃ j : Nat, j ≤ 12 ∧ i = .int .i64 j ∧ Hid (wr.ownsRow w.heap.size 5 1 v (0 + j) (byts ([] ++ marks j))) ∧ Hid (Frm No w wr)) (fun _ i _ => 12 - (intOf i).toNat)
  case atStart => exact ⟨0, by omega, rfl, HO1, HF1⟩
  case round =>
    obtain ⟨j, hj, rfl, HO, HF⟩ := hrel
    clear HO1 HF1
    by_cases hlt : j < 12
    · have hsz := HF.out.size
      go_wp2_with (first | (go_at_call 48; refine (mark_byte _ j hlt).mono ?_; rintro e w' ⟨rfl, rfl⟩) | (at_builtin; refine wpList_append_own _ rfl (.tmp 16) (.tmp 19) 22 rfl w.heap.size 5 i0 (.int .u8 0) 1 1 Try.underlying22 hi hz0 hz1 hz2 rfl (by decide) _ _ _ rfl (HO.out.alloc _) ⟨_, 0, none⟩ 1 1 (byts [markB j]) rfl rfl (news1 _ _) (byts_one _) (by unfold maxLen; omega) (by omega) (by simp; omega) ?_; intro v' w2 hown' hgr _))
      have HS := Lib.hid (lent_step (bs := []) HO.out HF.out hown' hgr)
      clear hown' hgr
      go_roundw
      case rel => exact ⟨j + 1, by omega, by go_num, HS.out.1, HS.out.2⟩
      case measure => simp [intOf]; omega
    · obtain rfl : j = 12 := by omega
      rcases HO.out.2 with ⟨_, h0⟩ | ⟨g, cap, cur, hu, _, _, hnc, _⟩
      · omega
      · have q1 : (0 : Int) ≤ cap := by omega
        subst hu
        go_wp2
        go_ret
        exact ⟨_, _, rfl, HO.out, HF.out⟩

set_option maxRecDepth 100000 in
set_option maxHeartbeats 1000000 in
theorem lent (w : World) (A : Option Addr) (c n : Nat) (bs : List UInt8) (hn : bs.length = n) (h : Src w A c bs) (h4 : n ≤ 140737488351232) :
    Calls Try.prog 28 #[.slice A n c] w (Lent w bs) := by
  subst hn
  obtain ⟨i0, hi, hz0, hz1, hz2⟩ := info_parts info5
  have hw1 : IntKind.i64.wrap ((bs.length : Int) + 12) = bs.length + 12 := by rw [IntWalk.i64_in]; omega
  have hmk : ∀ w, (Instr.makeSlice 22 (.int .i64 0) (.int .i64 ((bs.length : Int) + 12))).run Try.prog w = .ok (.slice (some ⟨w.heap.size, 0, none⟩) 0 (bs.length + 12)) (w.alloc (.cells (byts (List.replicate (bs.length + 12) 0)).toArray 5)) := by
    intro w
    have := make_bytes 0 (bs.length + 12) (by omega) (by omega) w
    simpa using this
  obtain ⟨Z, hZ⟩ : ∃ Z, Z = (byts (List.replicate (bs.length + 12) 0)).toArray := ⟨_, rfl⟩
  rw [← hZ] at hmk
  have HZ : Hid (Z.size = bs.length + 12) := by show Z.size = _; rw [hZ]; simp [byts_len]
  have H := Lib.hid h
  clear h hZ
  have hown : (w.alloc (.cells Z 5)).ownsRow w.heap.size 5 1 (.slice (some ⟨w.heap.size, 0, none⟩) 0 (bs.length + 12)) 0 [] := World.ownsRow_made w Z (bs.length + 12) (Nat.le_refl _) (by unfold maxLen; omega) (by rw [HZ.out, Nat.mul_one])
  have HOWN := Lib.hid hown
  clear hown
  have HN := Lib.hid ((H.out.rds.alloc (.cells Z 5)))
  rcases A with _ | ad
  · have hc := H.out.nil rfl
    have h0 : bs = [] := List.eq_nil_of_length_eq_zero (by have := H.out.le; omega)
    subst h0 hc
    exact lent_nil w
  · go_enter Try.func28, Try.ntmps28
    go_wp2_with (at_builtin; refine wpList_append_own _ rfl (.tmp 9) (.tmp 10) 22 rfl w.heap.size 5 i0 (.int .u8 0) 1 1 Try.underlying22 hi hz0 hz1 hz2 rfl (by decide) _ _ _ rfl HOWN.out ad bs.length c (byts bs) rfl (by simp [byts_len]) HN.out.news (byts_one bs) (by unfold maxLen; omega) (by omega) (by simp) ?_; intro v' w1 hown' hgr _)
    have hf1 : Frm No w w1 := ((Frm.refl No w).alloc (.cells Z 5)).trans (Frm.of_grown hgr) (fun i hi hs => by have hs' : some w.heap.size = some i := hs; injection hs' with hs'; omega)
    have HO1 : Hid (w1.ownsRow w.heap.size 5 1 v' (bs.length + 0) (byts (bs ++ marks 0))) := by
      show w1.ownsRow w.heap.size 5 1 v' (bs.length + 0) (byts (bs ++ marks 0))
      simpa [marks] using hown'
    have HF1 := Lib.hid hf1
    clear hown' hgr hf1 HOWN HN
    go_loopw [3, 4] (fun v i wr => ∃ j : Nat, j ≤ 12 ∧ i = .int .i64 j ∧ Hid (wr.ownsRow w.heap.size 5 1 v (bs.length + j) (byts (bs ++ marks j))) ∧ Hid (Frm No w wr)) (fun _ i _ => 12 - (intOf i).toNat)
    case atStart => exact ⟨0, by omega, rfl, HO1, HF1⟩
    case round =>
      obtain ⟨j, hj, rfl, HO, HF⟩ := hrel
      clear HO1 HF1
      by_cases hlt : j < 12
      · have hsz := HF.out.size
        go_wp2_with (first | (go_at_call 48; refine (mark_byte _ j hlt).mono ?_; rintro e w' ⟨rfl, rfl⟩) | (at_builtin; refine wpList_append_own _ rfl (.tmp 16) (.tmp 19) 22 rfl w.heap.size 5 i0 (.int .u8 0) 1 1 Try.underlying22 hi hz0 hz1 hz2 rfl (by decide) _ _ _ rfl (HO.out.alloc _) ⟨_, 0, none⟩ 1 1 (byts [markB j]) rfl rfl (news1 _ _) (byts_one _) (by unfold maxLen; omega) (by omega) (by simp; omega) ?_; intro v' w2 hown' hgr _))
        have HS := Lib.hid (lent_step HO.out HF.out hown' hgr)
        clear hown' hgr
        go_roundw
        case rel => exact ⟨j + 1, by omega, by go_num, HS.out.1, HS.out.2⟩
        case measure => simp [intOf]; omega
      · obtain rfl : j = 12 := by omega
        rcases HO.out.2 with ⟨_, h0⟩ | ⟨g, cap, cur, hu, _, _, hnc, _⟩
        · omega
        · have q1 : (bs.length : Int) ≤ cap := by omega
          subst hu
          go_wp2
          go_ret
          exact ⟨_, _, rfl, HO.out, HF.out⟩
end Go.Proofs.Ytcclneaabnpbkaa

/- L3 -/
namespace Go.Proofs.Ytcclneaabnpbkaa
open Go.RowKit

theorem mark_quiet (w : World) (i : Nat) (hi : i < 12) : Calls Try.prog 48 #[.int .i64 1, .int .i64 (i : Int)] w fun e w' => e = .returned (.int .u8 ((markB i).toNat : Int)) ∧ w' = w :=
  (mark_byte w i hi).mono fun _ _ h => ⟨h.1, h.2.symm⟩

set_option maxRecDepth 100000 in
set_option maxHeartbeats 2000000 in
theorem kept_bytes (w : World) (A B : Option Addr) (c d n : Nat) (bs : List UInt8) (hn : bs.length = n) (hc : n + 12 ≤ c) (ha : Rds w A (bs ++ marks 12)) (hb : Rds w B bs) (h4 : n ≤ 140737488351232) :
    Calls Try.prog 32 #[.slice A n c, .slice B n d] w (Answers true w) := by
  subst hn
  have hw1 : IntKind.i64.wrap ((bs.length : Int) + 12) = bs.length + 12 := by rw [IntWalk.i64_in]; omega
  have q1 : (bs.length : Int) + 12 ≤ c := by omega
  go_enter Try.func32, Try.ntmps32
  go_wp2_with fail
  go_loopw [6] (fun i wr => ∃ j m : Nat, j ≤ bs.length + 12 ∧ i = .int .i64 j ∧ wr = w.drewN m) (fun i _ => bs.length + 12 - (intOf i).toNat)
  case atStart => exact ⟨0, 0, Nat.zero_le _, rfl, rfl⟩
  case round =>
    obtain ⟨j, m, hj, rfl, rfl⟩ := hrel
    by_cases hlt : j < bs.length + 12
    · obtain ⟨ad, rfl, hcell⟩ := ha.at_ (k := j) (by rw [List.length_append, marks_len]; exact hlt)
      have hlt2 : (j : Int) < (bs.length : Int) + 12 := by omega
      by_cases hl : j < bs.length
      · obtain ⟨bd, rfl, hcb⟩ := hb.at_ hl
        have e1 : (bs ++ marks 12)[j]'(by rw [List.length_append, marks_len]; exact hlt) = bs[j] := List.getElem_append_left hl
        rw [e1] at hcell
        have g0 : decide ((j : Int) < (bs.length : Int)) = true := decide_eq_true (by omega)
        have g1 : decide ((bs.length : Int) ≤ j) = false := decide_eq_false (by omega)
        have g2 : decide ((j : Int) ≥ (bs.length : Int)) = false := decide_eq_false (by omega)
        have g3 : decide (bs.length ≤ j) = false := decide_eq_false (by omega)
        have g4 : (!decide ((j : Int) < (bs.length : Int))) = false := by rw [g0]; rfl
        clear e1
        go_wp2_with fail
        go_quiet (fail)
        go_wp2
        go_roundw
        case rel => exact ⟨j + 1, _, by omega, by go_num, rfl⟩
        case measure => simp [intOf]; omega
      · obtain ⟨q, hq⟩ : ∃ q, j = bs.length + q := ⟨j - bs.length, by omega⟩
        have hq2 : q < 12 := by omega
        have e1 : (bs ++ marks 12)[j]'(by rw [List.length_append, marks_len]; exact hlt) = markB q := by
          subst hq
          rw [List.getElem_append_right (by omega)]
          simp [marks]
        rw [e1] at hcell
        have hw2 : IntKind.i64.wrap ((j : Int) - (bs.length : Int)) = q := by rw [IntWalk.i64_in] <;> omega
        have g0 : decide ((j : Int) < (bs.length : Int)) = false := decide_eq_false (by omega)
        have g1 : decide ((bs.length : Int) ≤ j) = true := decide_eq_true (by omega)
        have g2 : decide ((j : Int) ≥ (bs.length : Int)) = true := decide_eq_true (by omega)
        have g3 : decide (bs.length ≤ j) = true := decide_eq_true (by omega)
        have M := Lib.hid (fun W : World => mark_quiet W q hq2)
        obtain ⟨x, hx⟩ : ∃ x : Nat, (markB q).toNat = x := ⟨_, rfl⟩
        rw [hx] at hcell M
        clear e1 hx hq
        go_wp2_with fail
        refine wp_region_quiet_lit (by kernel_rfl) (by kernel_rfl) ?_
        repeat (first | go_big_quiet_step (fail) | quiet_step (fail))
        refine wpQuiet_step (fun K hK => ?_)
        go_simp
        apply Exists.intro
        refine ⟨fun n => ?_, hK _ ?_⟩
        · refine (M.out _).mono ?_
          rintro e w' ⟨rfl, rfl⟩
          exact ⟨rfl, n, rfl⟩
        clear hK K
        repeat (first | go_big_quiet_step (fail) | quiet_step (fail))
        refine wpQuiet_nil ?_
        intro _ hw'
        obtain ⟨nq, hw''⟩ := hw'
        subst hw''
        go_wp2
        go_roundw
        case rel => exact ⟨j + 1, _, by omega, by go_num, rfl⟩
        case measure => simp [intOf]; omega
    · go_wp2
      go_ret
      exact ⟨rfl, m, rfl⟩
end Go.Proofs.Ytcclneaabnpbkaa
