/-
  Bytes: slices.Clone, slices.Equal.
-/
import Derived.Test.YtgpnnnjhcjjnmaaBase
import Derived.Test.YtgpnnnjhcjjnmaaRows
import Derived.Deep.QuietTactic
import Derived.BigQuiet
namespace Go.Proofs.Ytgpnnnjhcjjnmaa
open Go.RowKit

theorem info5 : (Try.prog.info? 5).map (fun i => (i.zero, i.size, i.bytes)) = some (some (.int .u8 0), 1, 1) := by kernel_rfl

/-- A new slice of its own that holds bs; nothing that was there has changed. -/
def Fresh (w : World) (bs : List UInt8) (e : Ending) (w' : World) : Prop :=
  ∃ v, e = .returned v ∧ w'.ownsRow w.heap.size 5 1 v bs.length (byts bs) ∧ Frm No w w'

set_option maxRecDepth 100000 in
set_option maxHeartbeats 400000 in
theorem clone_any (w : World) (A : Option Addr) (c : Nat) (bs : List UInt8) (h : Rds w A bs) (h4 : bs.length ≤ 140737488355328) :
    Calls Try.prog 59 #[.slice A bs.length c] w (Fresh w bs) := by
  obtain ⟨i0, hi, hz0, hz1, hz2⟩ := info_parts info5
  have hnl := fun (a : Option Addr) (n c : Nat) (w : World) => Lib.run_eql_slice_nil (P := Try.prog) w 22 5 a n c 0 0 Try.underlying22
  rcases A with _ | ad
  · have h0 : bs = [] := by
      rcases Nat.eq_zero_or_pos bs.length with h0 | h0
      · exact List.eq_nil_of_length_eq_zero h0
      · obtain ⟨ad, h1, _⟩ := h h0
        cases h1
    subst h0
    go_enter Try.func59, Try.ntmps59
    go_wp2
    go_ret
    exact ⟨_, rfl, World.ownsRow_nil _ _ _ _, Frm.refl _ _⟩
  · have hown : (w.alloc (.cells #[] 5)).ownsRow w.heap.size 5 1 (.slice (some ⟨w.heap.size, 0, none⟩) 0 0) 0 [] := World.ownsRow_made w #[] 0 (Nat.le_refl _) (by unfold maxLen; omega) (by simp)
    have hnews := (h.alloc (.cells #[] 5)).news
    have HN := Lib.hid hnews
    clear hnews
    go_enter Try.func59, Try.ntmps59
    go_wp2_with (at_builtin; refine wpList_append_own _ rfl (.tmp 5) (.tmp 6) 22 rfl w.heap.size 5 i0 (.int .u8 0) 1 1 Try.underlying22 hi hz0 hz1 hz2 rfl (by decide) _ _ _ rfl hown ad bs.length c (byts bs) rfl (by simp [byts_len]) HN.out (byts_one bs) (by unfold maxLen; omega) (by omega) (by simp) ?_; intro v' w1 hown' hgr _)
    go_ret
    refine ⟨_, rfl, by simpa using hown', ?_⟩
    exact ((Frm.refl No w).alloc _).trans (Frm.of_grown hgr) (fun i hi hs => by have hs' : some w.heap.size = some i := hs; injection hs' with hs'; omega)

/-- It answers b, and has only drawn. -/
def Answers (b : Bool) (w : World) (e : Ending) (w' : World) : Prop := e = .returned (.bool b) ∧ ∃ n, w' = w.drewN n

theorem eq_of_prefix {xs ys : List UInt8} (hl : xs.length = ys.length) (h : ∀ i (h1 : i < xs.length) (h2 : i < ys.length), xs[i] = ys[i]) : xs = ys := List.ext_getElem hl h
theorem drewN_zero (w : World) : w = w.drewN 0 := rfl

set_option maxRecDepth 100000 in
set_option maxHeartbeats 400000 in
theorem equal_len (w : World) (A B : Option Addr) (c d n m : Nat) (hn : n ≠ m) :
    Calls Try.prog 37 #[.slice A n c, .slice B m d] w (Answers false w) := by
  have hne : ((n : Int) != (m : Int)) = true := by simp; omega
  go_enter Try.func37, Try.ntmps37
  go_wp2
  go_ret
  exact ⟨rfl, 0, rfl⟩

set_option maxRecDepth 100000 in
set_option maxHeartbeats 400000 in
theorem equal_same (w : World) (A B : Option Addr) (c d : Nat) (xs ys : List UInt8) (ha : Rds w A xs) (hb : Rds w B ys) (hs : xs.length ≤ 140737488355328) (hl : ys.length = xs.length) :
    Calls Try.prog 37 #[.slice A xs.length c, .slice B xs.length d] w (Answers (decide (xs = ys)) w) := by
  have HL := Lib.hid hl
  clear hl
  go_enter Try.func37, Try.ntmps37
  go_wp2
  go_loopw [13] (fun i wr => ∃ j m : Nat, j ≤ xs.length ∧ i = .int .i64 j ∧ wr = w.drewN m ∧ Hid (∀ k (h1 : k < xs.length) (h2 : k < ys.length), k < j → xs[k] = ys[k])) (fun i _ => xs.length - (intOf i).toNat)
  case atStart => exact ⟨0, 0, Nat.zero_le _, rfl, rfl, fun _ _ _ h => absurd h (by omega)⟩
  case round =>
    obtain ⟨j, m, hj, rfl, rfl, HP⟩ := hrel
    by_cases hlt : j < xs.length
    · obtain ⟨ad, rfl, hc⟩ := ha.at_ hlt
      obtain ⟨bd, rfl, hd⟩ := hb.at_ (k := j) (by have := HL.out; omega)
      have h2 : j < ys.length := by have := HL.out; omega
      by_cases he : xs[j] = ys[j]
      · have hne : ((xs[j].toNat : Int) != (ys[j].toNat : Int)) = false := by simp [he]
        have HE := Lib.hid he
        clear he
        go_wp2
        go_quiet (fail)
        go_wp2
        go_roundw
        case rel => exact ⟨j + 1, _, by omega, by go_num, rfl, fun k h1 h3 hk => by
          rcases Nat.lt_or_ge k j with h4 | h4
          · exact HP k h1 h3 h4
          · obtain rfl : k = j := by omega
            exact HE.out⟩
        case measure => simp [intOf]; omega
      · have hne : ((xs[j].toNat : Int) != (ys[j].toNat : Int)) = true := by
          simp only [bne_iff_ne, ne_eq]
          intro h
          exact he (UInt8.toNat_inj.1 (by omega))
        have HE := Lib.hid he
        clear he
        go_wp2
        go_quiet (fail)
        go_wp2
        go_ret
        have hx : decide (xs = ys) = false := decide_eq_false (fun h => HE.out (by subst h; rfl))
        exact ⟨by rw [hx]; rfl, _, World.drewN_drewN _ _ _⟩
    · go_wp2
      go_ret
      have hx : decide (xs = ys) = true := decide_eq_true (eq_of_prefix HL.out.symm (fun k h1 h2 => HP k h1 h2 (by omega)))
      exact ⟨by rw [hx]; rfl, _, rfl⟩

theorem equal_any (w : World) (A B : Option Addr) (c d : Nat) (xs ys : List UInt8) (ha : Rds w A xs) (hb : Rds w B ys) (hs : xs.length ≤ 140737488355328) :
    Calls Try.prog 37 #[.slice A xs.length c, .slice B ys.length d] w (Answers (decide (xs = ys)) w) := by
  by_cases hl : ys.length = xs.length
  · rw [hl]
    exact equal_same w A B c d xs ys ha hb hs hl
  · have hx : decide (xs = ys) = false := decide_eq_false (fun h => hl (by rw [h]))
    rw [hx]
    exact equal_len w A B c d _ _ (fun h => hl h.symm)
set_option maxRecDepth 100000 in
set_option maxHeartbeats 400000 in
theorem sames_len (w : World) (A B : Option Addr) (c d n m : Nat) (hn : n ≠ m) :
    Calls Try.prog 45 #[.slice A n c, .slice B m d] w (Answers false w) := by
  have hne : ((n : Int) != (m : Int)) = true := by simp; omega
  go_enter Try.func45, Try.ntmps45
  go_wp2
  go_ret
  exact ⟨rfl, 0, rfl⟩

set_option maxRecDepth 100000 in
set_option maxHeartbeats 400000 in
theorem sames_same (w : World) (A B : Option Addr) (c d : Nat) (xs ys : List UInt8) (ha : Rds w A xs) (hb : Rds w B ys) (hs : xs.length ≤ 140737488355328) (hl : ys.length = xs.length) :
    Calls Try.prog 45 #[.slice A xs.length c, .slice B xs.length d] w (Answers (decide (xs = ys)) w) := by
  have HL := Lib.hid hl
  clear hl
  go_enter Try.func45, Try.ntmps45
  go_wp2
  go_loopw [5] (fun i wr => ∃ j m : Nat, j ≤ xs.length ∧ i = .int .i64 j ∧ wr = w.drewN m ∧ Hid (∀ k (h1 : k < xs.length) (h2 : k < ys.length), k < j → xs[k] = ys[k])) (fun i _ => xs.length - (intOf i).toNat)
  case atStart => exact ⟨0, 0, Nat.zero_le _, rfl, rfl, fun _ _ _ h => absurd h (by omega)⟩
  case round =>
    obtain ⟨j, m, hj, rfl, rfl, HP⟩ := hrel
    by_cases hlt : j < xs.length
    · obtain ⟨ad, rfl, hc⟩ := ha.at_ hlt
      obtain ⟨bd, rfl, hd⟩ := hb.at_ (k := j) (by have := HL.out; omega)
      have h2 : j < ys.length := by have := HL.out; omega
      by_cases he : xs[j] = ys[j]
      · have hne : ((xs[j].toNat : Int) != (ys[j].toNat : Int)) = false := by simp [he]
        have HE := Lib.hid he
        clear he
        go_wp2
        go_quiet (fail)
        go_wp2
        go_roundw
        case rel => exact ⟨j + 1, _, by omega, by go_num, rfl, fun k h1 h3 hk => by
          rcases Nat.lt_or_ge k j with h4 | h4
          · exact HP k h1 h3 h4
          · obtain rfl : k = j := by omega
            exact HE.out⟩
        case measure => simp [intOf]; omega
      · have hne : ((xs[j].toNat : Int) != (ys[j].toNat : Int)) = true := by
          simp only [bne_iff_ne, ne_eq]
          intro h
          exact he (UInt8.toNat_inj.1 (by omega))
        have HE := Lib.hid he
        clear he
        go_wp2
        go_quiet (fail)
        go_wp2
        go_ret
        have hx : decide (xs = ys) = false := decide_eq_false (fun h => HE.out (by subst h; rfl))
        exact ⟨by rw [hx]; rfl, _, World.drewN_drewN _ _ _⟩
    · go_wp2
      go_ret
      have hx : decide (xs = ys) = true := decide_eq_true (eq_of_prefix HL.out.symm (fun k h1 h2 => HP k h1 h2 (by omega)))
      exact ⟨by rw [hx]; rfl, _, rfl⟩

theorem sames_any (w : World) (A B : Option Addr) (c d : Nat) (xs ys : List UInt8) (ha : Rds w A xs) (hb : Rds w B ys) (hs : xs.length ≤ 140737488355328) :
    Calls Try.prog 45 #[.slice A xs.length c, .slice B ys.length d] w (Answers (decide (xs = ys)) w) := by
  by_cases hl : ys.length = xs.length
  · rw [hl]
    exact sames_same w A B c d xs ys ha hb hs hl
  · have hx : decide (xs = ys) = false := decide_eq_false (fun h => hl (by rw [h]))
    rw [hx]
    exact sames_len w A B c d _ _ (fun h => hl h.symm)
end Go.Proofs.Ytgpnnnjhcjjnmaa
