/-
  A function's code cut into statements.
-/
import Derived.Test.YtcclneaabnpbkaaMd
import Derived.Deep.CutBlock
import Derived.LoopN
namespace Go.Proofs.Ytcclneaabnpbkaa
open Go.RowKit

def dropS : Nat → Code → Code
  | 0, c => c
  | n + 1, .seq _ b => dropS n b
  | _, c => c
def headS : Code → Code
  | .seq a _ => a
  | c => c
def tailS : Code → Code
  | .seq _ b => b
  | c => c
theorem own_caps {w : World} {base n c : Nat} {A : Option Addr} {bs : List UInt8} (h : w.ownsRow base 5 1 (.slice A n c) n (byts bs)) : n ≤ c ∧ (A = none → c = 0) ∧ Rds w A bs := by
  refine ⟨?_, ?_, Rds.of_own h⟩
  · rcases h.2 with ⟨hv, h0⟩ | ⟨g, cap, cur, hv, _, _, hnc, _⟩
    · omega
    · injection hv with _ _ h3
      omega
  · rintro rfl
    rcases h.2 with ⟨hv, h0⟩ | ⟨g, cap, cur, hv, _, _, hnc, _⟩
    · injection hv
    · injection hv with h1
      cases h1
end Go.Proofs.Ytcclneaabnpbkaa
