/-
  Read in one; Hop and Turn.
-/
import Derived.Test.YtcclneaabnpbkaaP6a
import Derived.Test.YtcclneaabnpbkaaP6b
import Derived.Test.YtcclneaabnpbkaaP6c
import Derived.Test.YtcclneaabnpbkaaP6d
import Derived.Test.YtcclneaabnpbkaaP10
namespace Go.Proofs.Ytcclneaabnpbkaa
open Go.RowKit
attribute [local go_sem] undef

/-- The first fault of some bytes; 0 if there is none. -/
def faultB (bs : List UInt8) : Nat :=
  if q1 bs = true then 50 else if q2 bs = true then 51 else if q3 bs = true then 52 else if q4 bs = true then 53 else if q5 bs = true then 54 else if q6 bs = true then 55 else if q7 bs = true then 56 else 0

theorem bfalse {b : Bool} (h : ¬ b = true) : b = false := by cases b <;> simp at h ⊢

theorem read_bad (w : World) (A : Option Addr) (n c : Nat) (bs : List UInt8) (hn : bs.length = n) (hc : n ≤ c) (h4 : n ≤ 140737488355328) (h : Rds w A bs) (k : Nat) (z : Int) (hz : z = k) (hk : faultB bs = k) (h0 : k ≠ 0) :
    Calls Try.prog 18 #[.slice A n c] w (ReadBad z w) := by
  subst hz
  unfold faultB at hk
  by_cases g1 : q1 bs = true
  · rw [if_pos g1] at hk; subst hk; exact read_1 w A n c bs hn hc h4 h g1
  rw [if_neg g1] at hk
  have g1 := bfalse g1
  by_cases g2 : q2 bs = true
  · rw [if_pos g2] at hk; subst hk; exact read_2 w A n c bs hn hc h4 h g1 g2
  rw [if_neg g2] at hk
  have g2 := bfalse g2
  by_cases g3 : q3 bs = true
  · rw [if_pos g3] at hk; subst hk; exact read_3 w A n c bs hn hc h4 h g1 g2 g3
  rw [if_neg g3] at hk
  have g3 := bfalse g3
  by_cases g4 : q4 bs = true
  · rw [if_pos g4] at hk; subst hk; exact read_4 w A n c bs hn hc h4 h g1 g2 g3 g4
  rw [if_neg g4] at hk
  have g4 := bfalse g4
  by_cases g5 : q5 bs = true
  · rw [if_pos g5] at hk; subst hk; exact read_5 w A n c bs hn hc h4 h g1 g2 g3 g4 g5
  rw [if_neg g5] at hk
  have g5 := bfalse g5
  by_cases g6 : q6 bs = true
  · rw [if_pos g6] at hk; subst hk; exact read_6 w A n c bs hn hc h4 h g1 g2 g3 g4 g5 g6
  rw [if_neg g6] at hk
  have g6 := bfalse g6
  by_cases g7 : q7 bs = true
  · rw [if_pos g7] at hk; subst hk; exact read_7 w A n c bs hn hc h4 h g1 g2 g3 g4 g5 g6 g7
  rw [if_neg g7] at hk
  exact absurd hk.symm h0

structure NoFault (bs : List UInt8) : Prop where
  h1 : q1 bs = false
  h2 : q2 bs = false
  h3 : q3 bs = false
  h4 : q4 bs = false
  h5 : q5 bs = false
  h6 : q6 bs = false
  h7 : q7 bs = false
theorem fault_zero {bs : List UInt8} : faultB bs = 0 ↔ NoFault bs := by
  constructor
  · intro h
    unfold faultB at h
    split at h
    · cases h
    split at h
    · cases h
    split at h
    · cases h
    split at h
    · cases h
    split at h
    · cases h
    split at h
    · cases h
    split at h
    · cases h
    exact ⟨bfalse (by assumption), bfalse (by assumption), bfalse (by assumption), bfalse (by assumption), bfalse (by assumption), bfalse (by assumption), bfalse (by assumption)⟩
  · intro h
    unfold faultB
    simp [h.h1, h.h2, h.h3, h.h4, h.h5, h.h6, h.h7]

theorem NoFault.sizes {bs : List UInt8} (h : NoFault bs) : 20 ≤ sizeAt bs ∧ sizeAt bs ≤ totAt bs ∧ totAt bs ≤ bs.length ∧ sizeAt bs ≤ 60 ∧ sizeAt bs % 4 = 0 ∧ totAt bs < 65536 := by
  have a1 := of_decide_eq_false h.h1
  have a3 := of_decide_eq_false h.h3
  have a4 := of_decide_eq_false h.h4
  have a5 := sizeAt_le bs
  have a6 := wordAt_lt bs 2
  unfold totAt at *
  refine ⟨by omega, by omega, by omega, by omega, by unfold sizeAt; omega, by omega⟩
theorem NoFault.right {bs : List UInt8} (h : NoFault bs) : rightB (sizeAt bs - 20) (offAt bs : Int) (mfAt bs) ((totAt bs - sizeAt bs : Nat) : Int) = true := by
  have h7 := h.h7
  have hs := h.sizes
  unfold q7 at h7
  rw [Int.ofNat_sub hs.2.1]
  simpa using h7

theorem read_ok (w : World) (A : Option Addr) (n c : Nat) (bs : List UInt8) (hn : bs.length = n) (hc : n ≤ c) (h4 : n ≤ 140737488355328) (h : Rds w A bs) (f : NoFault bs) :
    Calls Try.prog 18 #[.slice A n c] w (ReadOk bs w) := read_8 w A n c bs hn hc h4 h f.h1 f.h2 f.h3 f.h4 f.h5 f.h6 f.h7

/-- The numbers of the header that some bytes have. -/
def hdOf (bs : List UInt8) : Hd := ⟨byteAt bs 1, wordAt bs 4, dfAt bs, mfAt bs, offAt bs, byteAt bs 8, byteAt bs 9, addrAt bs 12, addrAt bs 16⟩
theorem addrAt_lt (bs : List UInt8) (k : Nat) : addrAt bs k < 4294967296 := by
  have := wordAt_lt bs k
  have := wordAt_lt bs (k + 2)
  unfold addrAt
  omega
theorem hdOf_ok (bs : List UInt8) : (hdOf bs).Ok := ⟨byteAt_lt _ _, wordAt_lt _ _, by show offAt bs ≤ 65528; unfold offAt; omega, byteAt_lt _ _, byteAt_lt _ _, addrAt_lt _ _, addrAt_lt _ _⟩
/-- The bytes of data. -/
def dataAt (bs : List UInt8) : List UInt8 := (bs.take (totAt bs)).drop (sizeAt bs)
theorem dataAt_len {bs : List UInt8} (h : NoFault bs) : (dataAt bs).length = totAt bs - sizeAt bs := by
  have := h.sizes
  unfold dataAt
  simp
  omega
end Go.Proofs.Ytcclneaabnpbkaa
