/-
  IpAgain answers true, for every slice of bytes.
-/
import Derived.Test.YtcclneaabnpbkaaAh
namespace Go.Proofs.Ytcclneaabnpbkaa
open Go.RowKit

theorem ip_again (w : World) (A : Option Addr) (n c : Nat) (bs : List UInt8) (hn : bs.length = n) (hc : n ≤ c) (h : Rds w A bs) :
    Calls Try.prog 7 #[.slice A n c] w (BoolNo true w) := by
  by_cases h4 : n ≤ 400
  · by_cases h0 : faultB bs = 0
    · exact again_yes w A n c bs hn hc h4 h (fault_zero.1 h0)
    · exact again_bad w A n c bs hn hc h4 h _ rfl h0
  · exact again_long w A n c (by omega)
end Go.Proofs.Ytcclneaabnpbkaa
