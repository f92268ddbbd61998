/-
  Same: headers are compared.
-/
import Derived.Test.YtcclneaabnpbkaaP3
import Derived.Test.YtcclneaabnpbkaaP1
namespace Go.Proofs.Ytcclneaabnpbkaa
open Go.RowKit
attribute [local go_sem] undef

set_option maxRecDepth 100000 in
set_option maxHeartbeats 8000000 in
/-- Two headers with the same bytes as options: the numbers decide; here they are the same. -/
theorem same_yes (w : World) (x0 x1 x4 x5 x6 x7 x8 : Int) (x2 x3 : Bool) (A B : Option Addr) (o c d : Nat) (xs : List UInt8) (ho : xs.length = o) (hA : Rds w A xs) (hB : Rds w B xs) (h4 : o ≤ 140737488355328) :
    Calls Try.prog 23 #[.agg #[.int .u8 x0, .int .u16 x1, .bool x2, .bool x3, .int .i64 x4, .int .u8 x5, .int .u8 x6, .int .u32 x7, .int .u32 x8, .slice A o c], .agg #[.int .u8 x0, .int .u16 x1, .bool x2, .bool x3, .int .i64 x4, .int .u8 x5, .int .u8 x6, .int .u32 x7, .int .u32 x8, .slice B o d]] w (BoolNo true w) := by
  subst ho
  have e0 : (x0 == x0) = true := by simp
  have e1 : (x1 == x1) = true := by simp
  have e4 : (x4 == x4) = true := by simp
  have e5 : (x5 == x5) = true := by simp
  have e6 : (x6 == x6) = true := by simp
  have e7 : (x7 == x7) = true := by simp
  have e8 : (x8 == x8) = true := by simp
  have HS := Lib.hid (fun W (h1 : Rds W A xs) (h2 : Rds W B xs) => sames_any W A B c d xs xs h1 h2 h4)
  rw [show decide (xs = xs) = true from decide_eq_true rfl] at HS
  have A0 := Lib.hid hA
  have B0 := Lib.hid hB
  clear hA hB
  go_enter Try.func23, Try.ntmps23
  go_wp2_with fail
  refine (HS.out _ ((A0.out.alloc _).alloc _) ((B0.out.alloc _).alloc _)).mono ?_
  rintro e w1 ⟨rfl, m, rfl⟩
  go_wp2_with fail
  go_ret
  exact ⟨by simp, (((Frm.refl No w).alloc _).alloc _).drewN m⟩
end Go.Proofs.Ytcclneaabnpbkaa
