/-
  Lent bytes: LentBytes.
-/
import Derived.Test.YtgpnnnjhcjjnmaaL1
import Derived.Test.YtgpnnnjhcjjnmaaH1
namespace Go.Proofs.Ytgpnnnjhcjjnmaa
open Go.RowKit

theorem marks_len (n : Nat) : (marks n).length = n := by simp [marks]
theorem marks_succ (n : Nat) : marks (n + 1) = marks n ++ [markB n] := by simp [marks, List.range_succ]

theorem news1 (w : World) (x : UInt8) : ∀ (j : Nat) (u : Value), (byts [x])[j]? = some u → (w.alloc (.cells #[.int .u8 (x.toNat : Int)] 5)).cell? ((⟨w.heap.size, 0, none⟩ : Addr).add j) = some u := by
  intro j u hu
  have hj : j = 0 := by
    have := (List.getElem?_eq_some_iff.1 hu).1
    simp [byts] at this
    omega
  subst hj
  have hb : Blk (w.alloc (.cells #[.int .u8 (x.toNat : Int)] 5)) w.heap.size 5 #[.int .u8 (x.toNat : Int)] := Blk.new _ _ _
  have h0 := hb.cell 0
  simp [byts, byt] at hu
  subst hu
  exact h0

/-- What was lent: the bytes, and the marks behind them. -/
def Lent (w : World) (bs : List UInt8) (e : Ending) (w' : World) : Prop :=
  ∃ A c, e = .returned (.slice A bs.length c) ∧ w'.ownsRow w.heap.size 5 1 (.slice A (bs.length + 12) c) (bs.length + 12) (byts (bs ++ marks 12)) ∧ Frm No w w'

theorem lent_step {w wr w2 : World} {bs : List UInt8} {v v' : Value} {j : Nat} {o : Obj} {n : Nat} (HO : wr.ownsRow w.heap.size 5 1 v (bs.length + j) (byts (bs ++ marks j))) (HF : Frm No w wr)
    (hown : w2.ownsRow w.heap.size 5 1 v' n (byts (bs ++ marks j) ++ byts [markB j])) (hgr : (wr.alloc o).grownBy w2 v.ownBlock) (hn : n = bs.length + j + 1 := by rfl) :
    Hid (w2.ownsRow w.heap.size 5 1 v' (bs.length + (j + 1)) (byts (bs ++ marks (j + 1)))) ∧ Hid (Frm No w w2) := by
  subst hn
  constructor
  · show w2.ownsRow w.heap.size 5 1 v' (bs.length + (j + 1)) (byts (bs ++ marks (j + 1)))
    rw [marks_succ]
    simpa [byts, Nat.add_assoc] using hown
  · show Frm No w w2
    exact (HF.alloc o).trans (Frm.of_grown hgr) (fun i hi hs => by
      have := (World.ownsRow.lt HO i hs).1
      omega)

set_option maxRecDepth 100000 in
set_option maxHeartbeats 1000000 in
theorem lent_nil (w : World) : Calls Try.prog 40 #[.slice none 0 0] w (Lent w []) := by
  obtain ⟨i0, hi, hz0, hz1, hz2⟩ := info_parts info5
  have hmk : ∀ w, (Instr.makeSlice 22 (.int .i64 0) (.int .i64 12)).run Try.prog w = .ok (.slice (some ⟨w.heap.size, 0, none⟩) 0 12) (w.alloc (.cells (byts (List.replicate 12 0)).toArray 5)) := by
    intro w
    have := make_bytes 0 12 (by omega) (by omega) w
    simpa using this
  obtain ⟨Z, hZ⟩ : ∃ Z, Z = (byts (List.replicate 12 0)).toArray := ⟨_, rfl⟩
  rw [← hZ] at hmk
  have HZ : Hid (Z.size = 12) := by show Z.size = _; rw [hZ]; simp [byts_len]
  clear hZ
  have hown : (w.alloc (.cells Z 5)).ownsRow w.heap.size 5 1 (.slice (some ⟨w.heap.size, 0, none⟩) 0 12) 0 [] := World.ownsRow_made w Z 12 (Nat.le_refl _) (by unfold maxLen; omega) (by rw [HZ.out, Nat.mul_one])
  have HO1 : Hid ((w.alloc (.cells Z 5)).ownsRow w.heap.size 5 1 (.slice (some ⟨w.heap.size, 0, none⟩) 0 12) (0 + 0) (byts ([] ++ marks 0))) := by
    show (w.alloc (.cells Z 5)).ownsRow w.heap.size 5 1 (.slice (some ⟨w.heap.size, 0, none⟩) 0 12) (0 + 0) (byts ([] ++ marks 0))
    simpa [marks, byts] using hown
  have HF1 : Hid (Frm No w (w.alloc (.cells Z 5))) := (Frm.refl No w).alloc _
  have HOWN := Lib.hid hown
  clear hown
  go_enter Try.func40, Try.ntmps40
  go_wp2_with (at_builtin; refine wpList_append_own_none rfl (.tmp 9) (.tmp 10) 22 rfl w.heap.size 5 i0 1 Try.underlying22 hi _ 0 [] rfl HOWN.out rfl ?_)
  clear HOWN
  go_loopw [3, 4] (fun v i wr => ∃ j : Nat, j ≤ 12 ∧ i = .int .i64 j ∧ Hid (wr.ownsRow w.heap.size 5 1 v (0 + j) (byts ([] ++ marks j))) ∧ Hid (Frm No w wr)) (fun _ i _ => 12 - (intOf i).toNat)
  case atStart => exact ⟨0, by omega, rfl, HO1, HF1⟩
  case round =>
    obtain ⟨j, hj, rfl, HO, HF⟩ := hrel
    clear HO1 HF1
    by_cases hlt : j < 12
    · have hsz := HF.out.size
      go_wp2_with (first | (go_at_call 72; refine (mark_byte _ j hlt).mono ?_; rintro e w' ⟨rfl, rfl⟩) | (at_builtin; refine wpList_append_own _ rfl (.tmp 16) (.tmp 19) 22 rfl w.heap.size 5 i0 (.int .u8 0) 1 1 Try.underlying22 hi hz0 hz1 hz2 rfl (by decide) _ _ _ rfl (HO.out.alloc _) ⟨_, 0, none⟩ 1 1 (byts [markB j]) rfl rfl (news1 _ _) (byts_one _) (by unfold maxLen; omega) (by omega) (by simp; omega) ?_; intro v' w2 hown' hgr _))
      have HS := Lib.hid (lent_step (bs := []) HO.out HF.out hown' hgr)
      clear hown' hgr
      go_roundw
      case rel => exact ⟨j + 1, by omega, by go_num, HS.out.1, HS.out.2⟩
      case measure => simp [intOf]; omega
    · obtain rfl : j = 12 := by omega
      rcases HO.out.2 with ⟨_, h0⟩ | ⟨g, cap, cur, hu, _, _, hnc, _⟩
      · omega
      · have q1 : (0 : Int) ≤ cap := by omega
        subst hu
        go_wp2
        go_ret
        exact ⟨_, _, rfl, HO.out, HF.out⟩

set_option maxRecDepth 100000 in
set_option maxHeartbeats 1000000 in
theorem lent (w : World) (A : Option Addr) (c n : Nat) (bs : List UInt8) (hn : bs.length = n) (h : Src w A c bs) (h4 : n ≤ 140737488351232) :
    Calls Try.prog 40 #[.slice A n c] w (Lent w bs) := by
  subst hn
  obtain ⟨i0, hi, hz0, hz1, hz2⟩ := info_parts info5
  have hw1 : IntKind.i64.wrap ((bs.length : Int) + 12) = bs.length + 12 := by rw [IntWalk.i64_in]; omega
  have hmk : ∀ w, (Instr.makeSlice 22 (.int .i64 0) (.int .i64 ((bs.length : Int) + 12))).run Try.prog w = .ok (.slice (some ⟨w.heap.size, 0, none⟩) 0 (bs.length + 12)) (w.alloc (.cells (byts (List.replicate (bs.length + 12) 0)).toArray 5)) := by
    intro w
    have := make_bytes 0 (bs.length + 12) (by omega) (by omega) w
    simpa using this
  obtain ⟨Z, hZ⟩ : ∃ Z, Z = (byts (List.replicate (bs.length + 12) 0)).toArray := ⟨_, rfl⟩
  rw [← hZ] at hmk
  have HZ : Hid (Z.size = bs.length + 12) := by show Z.size = _; rw [hZ]; simp [byts_len]
  have H := Lib.hid h
  clear h hZ
  have hown : (w.alloc (.cells Z 5)).ownsRow w.heap.size 5 1 (.slice (some ⟨w.heap.size, 0, none⟩) 0 (bs.length + 12)) 0 [] := World.ownsRow_made w Z (bs.length + 12) (Nat.le_refl _) (by unfold maxLen; omega) (by rw [HZ.out, Nat.mul_one])
  have HOWN := Lib.hid hown
  clear hown
  have HN := Lib.hid ((H.out.rds.alloc (.cells Z 5)))
  rcases A with _ | ad
  · have hc := H.out.nil rfl
    have h0 : bs = [] := List.eq_nil_of_length_eq_zero (by have := H.out.le; omega)
    subst h0 hc
    exact lent_nil w
  · go_enter Try.func40, Try.ntmps40
    go_wp2_with (at_builtin; refine wpList_append_own _ rfl (.tmp 9) (.tmp 10) 22 rfl w.heap.size 5 i0 (.int .u8 0) 1 1 Try.underlying22 hi hz0 hz1 hz2 rfl (by decide) _ _ _ rfl HOWN.out ad bs.length c (byts bs) rfl (by simp [byts_len]) HN.out.news (byts_one bs) (by unfold maxLen; omega) (by omega) (by simp) ?_; intro v' w1 hown' hgr _)
    have hf1 : Frm No w w1 := ((Frm.refl No w).alloc (.cells Z 5)).trans (Frm.of_grown hgr) (fun i hi hs => by have hs' : some w.heap.size = some i := hs; injection hs' with hs'; omega)
    have HO1 : Hid (w1.ownsRow w.heap.size 5 1 v' (bs.length + 0) (byts (bs ++ marks 0))) := by
      show w1.ownsRow w.heap.size 5 1 v' (bs.length + 0) (byts (bs ++ marks 0))
      simpa [marks] using hown'
    have HF1 := Lib.hid hf1
    clear hown' hgr hf1 HOWN HN
    go_loopw [3, 4] (fun v i wr => ∃ j : Nat, j ≤ 12 ∧ i = .int .i64 j ∧ Hid (wr.ownsRow w.heap.size 5 1 v (bs.length + j) (byts (bs ++ marks j))) ∧ Hid (Frm No w wr)) (fun _ i _ => 12 - (intOf i).toNat)
    case atStart => exact ⟨0, by omega, rfl, HO1, HF1⟩
    case round =>
      obtain ⟨j, hj, rfl, HO, HF⟩ := hrel
      clear HO1 HF1
      by_cases hlt : j < 12
      · have hsz := HF.out.size
        go_wp2_with (first | (go_at_call 72; refine (mark_byte _ j hlt).mono ?_; rintro e w' ⟨rfl, rfl⟩) | (at_builtin; refine wpList_append_own _ rfl (.tmp 16) (.tmp 19) 22 rfl w.heap.size 5 i0 (.int .u8 0) 1 1 Try.underlying22 hi hz0 hz1 hz2 rfl (by decide) _ _ _ rfl (HO.out.alloc _) ⟨_, 0, none⟩ 1 1 (byts [markB j]) rfl rfl (news1 _ _) (byts_one _) (by unfold maxLen; omega) (by omega) (by simp; omega) ?_; intro v' w2 hown' hgr _))
        have HS := Lib.hid (lent_step HO.out HF.out hown' hgr)
        clear hown' hgr
        go_roundw
        case rel => exact ⟨j + 1, by omega, by go_num, HS.out.1, HS.out.2⟩
        case measure => simp [intOf]; omega
      · obtain rfl : j = 12 := by omega
        rcases HO.out.2 with ⟨_, h0⟩ | ⟨g, cap, cur, hu, _, _, hnc, _⟩
        · omega
        · have q1 : (bs.length : Int) ≤ cap := by omega
          subst hu
          go_wp2
          go_ret
          exact ⟨_, _, rfl, HO.out, HF.out⟩
end Go.Proofs.Ytgpnnnjhcjjnmaa
