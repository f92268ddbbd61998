/-
  WireBack: parts, and their bytes: plain lists.
-/
import Derived.Test.YtgpnnnjhcjjnmaaW5
import Derived.Test.YtgpnnnjhcjjnmaaO1
namespace Go.Proofs.Ytgpnnnjhcjjnmaa
open Go.RowKit

/-- A part. -/
structure Pt where
  k : Nat
  n : Nat
  bs : List UInt8
/-- The bytes of a part. -/
def Pt.enc (p : Pt) : List UInt8 :=
  if p.k % 4 = 0 then digs 1 (p.n % 256) else if p.k % 4 = 1 then digs 2 (p.n % 65536) else if p.k % 4 = 2 then digs 4 p.n else p.bs.take 40
theorem Pt.enc_le (p : Pt) : p.enc.length ≤ 40 := by
  unfold Pt.enc
  split
  · rw [digs_len]; omega
  · split
    · rw [digs_len]; omega
    · split
      · rw [digs_len]; omega
      · rw [List.length_take]; omega
theorem Pt.enc0 {p : Pt} (h : p.k % 4 = 0) : p.enc = digs 1 (p.n % 256) := by unfold Pt.enc; rw [if_pos h]
theorem Pt.enc1 {p : Pt} (h : p.k % 4 = 1) : p.enc = digs 2 (p.n % 65536) := by unfold Pt.enc; rw [if_neg (by omega), if_pos h]
theorem Pt.enc2 {p : Pt} (h : p.k % 4 = 2) : p.enc = digs 4 p.n := by unfold Pt.enc; rw [if_neg (by omega), if_neg (by omega), if_pos h]
theorem Pt.enc3 {p : Pt} (h : p.k % 4 = 3) : p.enc = p.bs.take 40 := by unfold Pt.enc; rw [if_neg (by omega), if_neg (by omega), if_neg (by omega)]

def encs (l : List Pt) : List UInt8 := l.flatMap Pt.enc
/-- The bytes of the first j parts. -/
def fore (l : List Pt) (j : Nat) : List UInt8 := encs (l.take j)
theorem fore_zero (l : List Pt) : fore l 0 = [] := rfl
theorem fore_all (l : List Pt) : fore l l.length = encs l := by unfold fore; rw [List.take_length]
theorem fore_succ (l : List Pt) (j : Nat) (h : j < l.length) : fore l (j + 1) = fore l j ++ l[j].enc := by
  unfold fore encs
  rw [List.take_succ_eq_append_getElem h, List.flatMap_append]
  simp
theorem encs_split (l : List Pt) (j : Nat) (h : j < l.length) : encs l = fore l j ++ (l[j].enc ++ encs (l.drop (j + 1))) := by
  unfold fore encs
  conv => lhs; rw [← List.take_append_drop j l, List.drop_eq_getElem_cons h]
  rw [List.flatMap_append, List.flatMap_cons]
theorem fore_le (l : List Pt) (j : Nat) (h : j ≤ l.length) : (fore l j).length ≤ (encs l).length := by
  rcases Nat.lt_or_ge j l.length with h1 | h1
  · rw [encs_split l j h1]
    simp
  · obtain rfl : j = l.length := by omega
    rw [fore_all]
    exact Nat.le_refl _
theorem encs_le : ∀ l : List Pt, (encs l).length ≤ 40 * l.length
  | [] => Nat.le_refl _
  | p :: l => by
    have h := encs_le l
    have h2 := p.enc_le
    have e : encs (p :: l) = p.enc ++ encs l := rfl
    rw [e, List.length_append, List.length_cons]
    omega

/-- Reading the part j, of the first m bytes. -/
theorem part_fits (l : List Pt) (j m : Nat) (hj : j < l.length) (s : Nat) (hs : l[j].enc.length = s) (h : (fore l j).length + s ≤ m) :
    fits ((encs l).take m) (fore l j).length false (s : Int) = true ∧ rOut ((encs l).take m) (fore l j).length false (s : Int) = l[j].enc ∧ rAt ((encs l).take m) (fore l j).length false (s : Int) = (fore l (j + 1)).length := by
  have e := encs_split l j hj
  have hl : ((encs l).take m).length = min m (encs l).length := List.length_take
  have hle : (fore l j).length + s ≤ (encs l).length := by rw [e]; simp; omega
  have hf : fits ((encs l).take m) (fore l j).length false (s : Int) = true := by simp [fits]; omega
  refine ⟨hf, ?_, ?_⟩
  · rw [rOut, if_pos hf, Int.toNat_natCast, List.drop_take, e, List.drop_left, List.take_take, show min s (m - (fore l j).length) = s by omega, ← hs, List.take_left]
  · rw [rAt, if_pos hf, Int.toNat_natCast, fore_succ l j hj, List.length_append, hs]
theorem part_not (l : List Pt) (j m : Nat) (s : Nat) (h : m < (fore l j).length + s) : fits ((encs l).take m) (fore l j).length false (s : Int) = false := by
  have hl : ((encs l).take m).length = min m (encs l).length := List.length_take
  simp [fits]
  omega

theorem be_digs1 (x : Nat) (h : x < 256) : be (digs 1 x) = x := by simp [digs, be]; omega
theorem be_digs2 (x : Nat) (h : x < 65536) : be (digs 2 x) = x := by simp [digs, be]; omega
theorem be_digs4 (x : Nat) (h : x < 4294967296) : be (digs 4 x) = x := by simp [digs, be]; omega
end Go.Proofs.Ytgpnnnjhcjjnmaa
