/-
  Read, fault by fault.
-/
import Derived.Test.YtcclneaabnpbkaaP5
import Derived.LoopN
namespace Go.Proofs.Ytcclneaabnpbkaa
open Go.RowKit
attribute [local go_sem] undef

set_option maxRecDepth 100000 in
set_option maxHeartbeats 4000000 in
theorem read_1 (w : World) (A : Option Addr) (n c : Nat) (bs : List UInt8) (hn : bs.length = n) (_hc : n ≤ c) (_h4 : n ≤ 140737488355328) (h : Rds w A bs)  (g1 : q1 bs = true) :
    Calls Try.prog 18 #[.slice A n c] w (ReadBad 50 w) := by
  have K1 := Lib.hid (fun (W : World) (B : Nat) (hB : Box W B A n c) (_hR : Rds W A bs) => fault1 W B A n c bs hn hB)
  rw [g1] at K1
  have R0 := Lib.hid h
  have i0 := fun (x0 x1 x2 x3 x4 x5 x6 : Value) (W : World) => (ix7 x0 x1 x2 x3 x4 x5 x6 W).1
  have i1 := fun (x0 x1 x2 x3 x4 x5 x6 : Value) (W : World) => (ix7 x0 x1 x2 x3 x4 x5 x6 W).2.1
  have i2 := fun (x0 x1 x2 x3 x4 x5 x6 : Value) (W : World) => (ix7 x0 x1 x2 x3 x4 x5 x6 W).2.2.1
  have i3 := fun (x0 x1 x2 x3 x4 x5 x6 : Value) (W : World) => (ix7 x0 x1 x2 x3 x4 x5 x6 W).2.2.2.1
  have i4 := fun (x0 x1 x2 x3 x4 x5 x6 : Value) (W : World) => (ix7 x0 x1 x2 x3 x4 x5 x6 W).2.2.2.2.1
  have i5 := fun (x0 x1 x2 x3 x4 x5 x6 : Value) (W : World) => (ix7 x0 x1 x2 x3 x4 x5 x6 W).2.2.2.2.2.1
  have i6 := fun (x0 x1 x2 x3 x4 x5 x6 : Value) (W : World) => (ix7 x0 x1 x2 x3 x4 x5 x6 W).2.2.2.2.2.2
  clear h g1
  go_enter Try.func18, Try.ntmps18
  go_wp2_with fail
  refine (faults_any _ A n c).mono ?_
  rintro e w0 ⟨B, rfl, hBl, hB, hF⟩
  have F0 := Lib.hid (((Frm.refl No w).alloc _).new0 hF)
  have T0 := Lib.hid ((Blk.new w 28 #[.int .u8 0, .int .u16 0, .bool false, .bool false, .int .i64 0, .int .u8 0, .int .u8 0, .int .u32 0, .int .u32 0, .slice none 0 0]).frm hF (fun x => x))
  have X0 := Lib.hid hB
  have S0 := Lib.hid (R0.out.frm F0.out (fun _ _ x => x))
  clear hBl hB hF R0
  go_wp2_with fail
  refine wp_loop_rounds 9 ?_
  rw [rounds_succ]
  go_wp2_with fail
  refine (K1.out _ _ X0.out S0.out).mono ?_
  rintro e w1 ⟨rfl, hF⟩
  have F1 := Lib.hid (F0.out.new0 hF)
  have T1 := Lib.hid (T0.out.frm hF (fun x => x))
  have X1 : Hid (Box w1 B A n c) := Blk.frm X0.out hF (fun x => x)
  have S1 := Lib.hid (S0.out.frm hF (fun _ _ x => x))
  clear hF F0 T0 X0 S0 K1
  obtain ⟨_, _, _, _, _, _, _, _, _, _⟩ := blk10 T1.out
  have zf := T1.out.frozen
  have _ := zf 0
  have _ := zf 1
  have _ := zf 2
  have _ := zf 3
  have _ := zf 4
  have _ := zf 5
  have _ := zf 6
  have _ := zf 7
  have _ := zf 8
  have _ := zf 9
  clear zf
  go_wp2_with fail
  have B3 := Lib.hid (set10 T1.out (.int .u8 0) (.int .u16 0) (.bool false) (.bool false) (.int .i64 0) (.int .u8 0) (.int .u8 0) (.int .u32 0) (.int .u32 0) (.slice none 0 0))
  obtain ⟨z0, z1, z2, z3, z4, z5, z6, z7, z8, z9⟩ := blk10 B3.out
  refine bodyPost_ret (v := .tuple #[.agg #[.int .u8 0, .int .u16 0, .bool false, .bool false, .int .i64 0, .int .u8 0, .int .u8 0, .int .u32 0, .int .u32 0, .slice none 0 0], .int .i64 0, .int .i64 0, .int .i64 50]) (by simp [results, Try.results18, go_sem, z0, z1, z2, z3, z4, z5, z6, z7, z8, z9]) rfl ⟨rfl, ?_⟩
  exact frm10 F1.out (fun h => absurd h (by omega)) _ _ _ _ _ _ _ _ _ _

set_option maxRecDepth 100000 in
set_option maxHeartbeats 4000000 in
theorem read_2 (w : World) (A : Option Addr) (n c : Nat) (bs : List UInt8) (hn : bs.length = n) (_hc : n ≤ c) (h4 : n ≤ 140737488355328) (h : Rds w A bs) (g1 : q1 bs = false) (g2 : q2 bs = true) :
    Calls Try.prog 18 #[.slice A n c] w (ReadBad 51 w) := by
  have a1 : ¬ bs.length < 20 := of_decide_eq_false g1
  have K1 := Lib.hid (fun (W : World) (B : Nat) (hB : Box W B A n c) (_hR : Rds W A bs) => fault1 W B A n c bs hn hB)
  rw [g1] at K1
  have K2 := Lib.hid (fun (W : World) (B : Nat) (hB : Box W B A n c) (_hR : Rds W A bs) => fault2 W B A n c bs hn (by omega) hB _hR)
  rw [g2] at K2
  have R0 := Lib.hid h
  have i0 := fun (x0 x1 x2 x3 x4 x5 x6 : Value) (W : World) => (ix7 x0 x1 x2 x3 x4 x5 x6 W).1
  have i1 := fun (x0 x1 x2 x3 x4 x5 x6 : Value) (W : World) => (ix7 x0 x1 x2 x3 x4 x5 x6 W).2.1
  have i2 := fun (x0 x1 x2 x3 x4 x5 x6 : Value) (W : World) => (ix7 x0 x1 x2 x3 x4 x5 x6 W).2.2.1
  have i3 := fun (x0 x1 x2 x3 x4 x5 x6 : Value) (W : World) => (ix7 x0 x1 x2 x3 x4 x5 x6 W).2.2.2.1
  have i4 := fun (x0 x1 x2 x3 x4 x5 x6 : Value) (W : World) => (ix7 x0 x1 x2 x3 x4 x5 x6 W).2.2.2.2.1
  have i5 := fun (x0 x1 x2 x3 x4 x5 x6 : Value) (W : World) => (ix7 x0 x1 x2 x3 x4 x5 x6 W).2.2.2.2.2.1
  have i6 := fun (x0 x1 x2 x3 x4 x5 x6 : Value) (W : World) => (ix7 x0 x1 x2 x3 x4 x5 x6 W).2.2.2.2.2.2
  clear h g1 g2 a1
  go_enter Try.func18, Try.ntmps18
  go_wp2_with fail
  refine (faults_any _ A n c).mono ?_
  rintro e w0 ⟨B, rfl, hBl, hB, hF⟩
  have F0 := Lib.hid (((Frm.refl No w).alloc _).new0 hF)
  have T0 := Lib.hid ((Blk.new w 28 #[.int .u8 0, .int .u16 0, .bool false, .bool false, .int .i64 0, .int .u8 0, .int .u8 0, .int .u32 0, .int .u32 0, .slice none 0 0]).frm hF (fun x => x))
  have X0 := Lib.hid hB
  have S0 := Lib.hid (R0.out.frm F0.out (fun _ _ x => x))
  clear hBl hB hF R0
  go_wp2_with fail
  refine wp_loop_rounds 9 ?_
  rw [rounds_succ]
  go_wp2_with fail
  refine (K1.out _ _ X0.out S0.out).mono ?_
  rintro e w1 ⟨rfl, hF⟩
  have F1 := Lib.hid (F0.out.new0 hF)
  have T1 := Lib.hid (T0.out.frm hF (fun x => x))
  have X1 : Hid (Box w1 B A n c) := Blk.frm X0.out hF (fun x => x)
  have S1 := Lib.hid (S0.out.frm hF (fun _ _ x => x))
  clear hF F0 T0 X0 S0 K1
  go_wp2_with fail
  rw [rounds_succ]
  go_wp2_with fail
  refine (K2.out _ _ X1.out S1.out).mono ?_
  rintro e w2 ⟨rfl, hF⟩
  have F2 := Lib.hid (F1.out.new0 hF)
  have T2 := Lib.hid (T1.out.frm hF (fun x => x))
  have X2 : Hid (Box w2 B A n c) := Blk.frm X1.out hF (fun x => x)
  have S2 := Lib.hid (S1.out.frm hF (fun _ _ x => x))
  clear hF F1 T1 X1 S1 K2
  obtain ⟨_, _, _, _, _, _, _, _, _, _⟩ := blk10 T2.out
  have zf := T2.out.frozen
  have _ := zf 0
  have _ := zf 1
  have _ := zf 2
  have _ := zf 3
  have _ := zf 4
  have _ := zf 5
  have _ := zf 6
  have _ := zf 7
  have _ := zf 8
  have _ := zf 9
  clear zf
  go_wp2_with fail
  have B3 := Lib.hid (set10 T2.out (.int .u8 0) (.int .u16 0) (.bool false) (.bool false) (.int .i64 0) (.int .u8 0) (.int .u8 0) (.int .u32 0) (.int .u32 0) (.slice none 0 0))
  obtain ⟨z0, z1, z2, z3, z4, z5, z6, z7, z8, z9⟩ := blk10 B3.out
  refine bodyPost_ret (v := .tuple #[.agg #[.int .u8 0, .int .u16 0, .bool false, .bool false, .int .i64 0, .int .u8 0, .int .u8 0, .int .u32 0, .int .u32 0, .slice none 0 0], .int .i64 0, .int .i64 0, .int .i64 51]) (by simp [results, Try.results18, go_sem, z0, z1, z2, z3, z4, z5, z6, z7, z8, z9]) rfl ⟨rfl, ?_⟩
  exact frm10 F2.out (fun h => absurd h (by omega)) _ _ _ _ _ _ _ _ _ _

set_option maxRecDepth 100000 in
set_option maxHeartbeats 4000000 in
theorem read_3 (w : World) (A : Option Addr) (n c : Nat) (bs : List UInt8) (hn : bs.length = n) (_hc : n ≤ c) (h4 : n ≤ 140737488355328) (h : Rds w A bs) (g1 : q1 bs = false) (g2 : q2 bs = false) (g3 : q3 bs = true) :
    Calls Try.prog 18 #[.slice A n c] w (ReadBad 52 w) := by
  have a1 : ¬ bs.length < 20 := of_decide_eq_false g1
  have K1 := Lib.hid (fun (W : World) (B : Nat) (hB : Box W B A n c) (_hR : Rds W A bs) => fault1 W B A n c bs hn hB)
  rw [g1] at K1
  have K2 := Lib.hid (fun (W : World) (B : Nat) (hB : Box W B A n c) (_hR : Rds W A bs) => fault2 W B A n c bs hn (by omega) hB _hR)
  rw [g2] at K2
  have K3 := Lib.hid (fun (W : World) (B : Nat) (hB : Box W B A n c) (_hR : Rds W A bs) => fault3 W B A n c bs hn (by omega) h4 hB _hR)
  rw [g3] at K3
  have R0 := Lib.hid h
  have i0 := fun (x0 x1 x2 x3 x4 x5 x6 : Value) (W : World) => (ix7 x0 x1 x2 x3 x4 x5 x6 W).1
  have i1 := fun (x0 x1 x2 x3 x4 x5 x6 : Value) (W : World) => (ix7 x0 x1 x2 x3 x4 x5 x6 W).2.1
  have i2 := fun (x0 x1 x2 x3 x4 x5 x6 : Value) (W : World) => (ix7 x0 x1 x2 x3 x4 x5 x6 W).2.2.1
  have i3 := fun (x0 x1 x2 x3 x4 x5 x6 : Value) (W : World) => (ix7 x0 x1 x2 x3 x4 x5 x6 W).2.2.2.1
  have i4 := fun (x0 x1 x2 x3 x4 x5 x6 : Value) (W : World) => (ix7 x0 x1 x2 x3 x4 x5 x6 W).2.2.2.2.1
  have i5 := fun (x0 x1 x2 x3 x4 x5 x6 : Value) (W : World) => (ix7 x0 x1 x2 x3 x4 x5 x6 W).2.2.2.2.2.1
  have i6 := fun (x0 x1 x2 x3 x4 x5 x6 : Value) (W : World) => (ix7 x0 x1 x2 x3 x4 x5 x6 W).2.2.2.2.2.2
  clear h g1 g2 g3 a1
  go_enter Try.func18, Try.ntmps18
  go_wp2_with fail
  refine (faults_any _ A n c).mono ?_
  rintro e w0 ⟨B, rfl, hBl, hB, hF⟩
  have F0 := Lib.hid (((Frm.refl No w).alloc _).new0 hF)
  have T0 := Lib.hid ((Blk.new w 28 #[.int .u8 0, .int .u16 0, .bool false, .bool false, .int .i64 0, .int .u8 0, .int .u8 0, .int .u32 0, .int .u32 0, .slice none 0 0]).frm hF (fun x => x))
  have X0 := Lib.hid hB
  have S0 := Lib.hid (R0.out.frm F0.out (fun _ _ x => x))
  clear hBl hB hF R0
  go_wp2_with fail
  refine wp_loop_rounds 9 ?_
  rw [rounds_succ]
  go_wp2_with fail
  refine (K1.out _ _ X0.out S0.out).mono ?_
  rintro e w1 ⟨rfl, hF⟩
  have F1 := Lib.hid (F0.out.new0 hF)
  have T1 := Lib.hid (T0.out.frm hF (fun x => x))
  have X1 : Hid (Box w1 B A n c) := Blk.frm X0.out hF (fun x => x)
  have S1 := Lib.hid (S0.out.frm hF (fun _ _ x => x))
  clear hF F0 T0 X0 S0 K1
  go_wp2_with fail
  rw [rounds_succ]
  go_wp2_with fail
  refine (K2.out _ _ X1.out S1.out).mono ?_
  rintro e w2 ⟨rfl, hF⟩
  have F2 := Lib.hid (F1.out.new0 hF)
  have T2 := Lib.hid (T1.out.frm hF (fun x => x))
  have X2 : Hid (Box w2 B A n c) := Blk.frm X1.out hF (fun x => x)
  have S2 := Lib.hid (S1.out.frm hF (fun _ _ x => x))
  clear hF F1 T1 X1 S1 K2
  go_wp2_with fail
  rw [rounds_succ]
  go_wp2_with fail
  refine (K3.out _ _ X2.out S2.out).mono ?_
  rintro e w3 ⟨rfl, hF⟩
  have F3 := Lib.hid (F2.out.new0 hF)
  have T3 := Lib.hid (T2.out.frm hF (fun x => x))
  have X3 : Hid (Box w3 B A n c) := Blk.frm X2.out hF (fun x => x)
  have S3 := Lib.hid (S2.out.frm hF (fun _ _ x => x))
  clear hF F2 T2 X2 S2 K3
  obtain ⟨_, _, _, _, _, _, _, _, _, _⟩ := blk10 T3.out
  have zf := T3.out.frozen
  have _ := zf 0
  have _ := zf 1
  have _ := zf 2
  have _ := zf 3
  have _ := zf 4
  have _ := zf 5
  have _ := zf 6
  have _ := zf 7
  have _ := zf 8
  have _ := zf 9
  clear zf
  go_wp2_with fail
  have B3 := Lib.hid (set10 T3.out (.int .u8 0) (.int .u16 0) (.bool false) (.bool false) (.int .i64 0) (.int .u8 0) (.int .u8 0) (.int .u32 0) (.int .u32 0) (.slice none 0 0))
  obtain ⟨z0, z1, z2, z3, z4, z5, z6, z7, z8, z9⟩ := blk10 B3.out
  refine bodyPost_ret (v := .tuple #[.agg #[.int .u8 0, .int .u16 0, .bool false, .bool false, .int .i64 0, .int .u8 0, .int .u8 0, .int .u32 0, .int .u32 0, .slice none 0 0], .int .i64 0, .int .i64 0, .int .i64 52]) (by simp [results, Try.results18, go_sem, z0, z1, z2, z3, z4, z5, z6, z7, z8, z9]) rfl ⟨rfl, ?_⟩
  exact frm10 F3.out (fun h => absurd h (by omega)) _ _ _ _ _ _ _ _ _ _

set_option maxRecDepth 100000 in
set_option maxHeartbeats 4000000 in
theorem read_4 (w : World) (A : Option Addr) (n c : Nat) (bs : List UInt8) (hn : bs.length = n) (_hc : n ≤ c) (h4 : n ≤ 140737488355328) (h : Rds w A bs) (g1 : q1 bs = false) (g2 : q2 bs = false) (g3 : q3 bs = false) (g4 : q4 bs = true) :
    Calls Try.prog 18 #[.slice A n c] w (ReadBad 53 w) := by
  have a1 : ¬ bs.length < 20 := of_decide_eq_false g1
  have a3 : ¬ (sizeAt bs < 20 ∨ bs.length < sizeAt bs) := of_decide_eq_false g3
  have K1 := Lib.hid (fun (W : World) (B : Nat) (hB : Box W B A n c) (_hR : Rds W A bs) => fault1 W B A n c bs hn hB)
  rw [g1] at K1
  have K2 := Lib.hid (fun (W : World) (B : Nat) (hB : Box W B A n c) (_hR : Rds W A bs) => fault2 W B A n c bs hn (by omega) hB _hR)
  rw [g2] at K2
  have K3 := Lib.hid (fun (W : World) (B : Nat) (hB : Box W B A n c) (_hR : Rds W A bs) => fault3 W B A n c bs hn (by omega) h4 hB _hR)
  rw [g3] at K3
  have K4 := Lib.hid (fun (W : World) (B : Nat) (hB : Box W B A n c) (_hR : Rds W A bs) => fault4 W B A n c bs hn (by omega) h4 hB _hR)
  rw [g4] at K4
  have R0 := Lib.hid h
  have i0 := fun (x0 x1 x2 x3 x4 x5 x6 : Value) (W : World) => (ix7 x0 x1 x2 x3 x4 x5 x6 W).1
  have i1 := fun (x0 x1 x2 x3 x4 x5 x6 : Value) (W : World) => (ix7 x0 x1 x2 x3 x4 x5 x6 W).2.1
  have i2 := fun (x0 x1 x2 x3 x4 x5 x6 : Value) (W : World) => (ix7 x0 x1 x2 x3 x4 x5 x6 W).2.2.1
  have i3 := fun (x0 x1 x2 x3 x4 x5 x6 : Value) (W : World) => (ix7 x0 x1 x2 x3 x4 x5 x6 W).2.2.2.1
  have i4 := fun (x0 x1 x2 x3 x4 x5 x6 : Value) (W : World) => (ix7 x0 x1 x2 x3 x4 x5 x6 W).2.2.2.2.1
  have i5 := fun (x0 x1 x2 x3 x4 x5 x6 : Value) (W : World) => (ix7 x0 x1 x2 x3 x4 x5 x6 W).2.2.2.2.2.1
  have i6 := fun (x0 x1 x2 x3 x4 x5 x6 : Value) (W : World) => (ix7 x0 x1 x2 x3 x4 x5 x6 W).2.2.2.2.2.2
  clear h g1 g2 g3 g4 a1 a3
  go_enter Try.func18, Try.ntmps18
  go_wp2_with fail
  refine (faults_any _ A n c).mono ?_
  rintro e w0 ⟨B, rfl, hBl, hB, hF⟩
  have F0 := Lib.hid (((Frm.refl No w).alloc _).new0 hF)
  have T0 := Lib.hid ((Blk.new w 28 #[.int .u8 0, .int .u16 0, .bool false, .bool false, .int .i64 0, .int .u8 0, .int .u8 0, .int .u32 0, .int .u32 0, .slice none 0 0]).frm hF (fun x => x))
  have X0 := Lib.hid hB
  have S0 := Lib.hid (R0.out.frm F0.out (fun _ _ x => x))
  clear hBl hB hF R0
  go_wp2_with fail
  refine wp_loop_rounds 9 ?_
  rw [rounds_succ]
  go_wp2_with fail
  refine (K1.out _ _ X0.out S0.out).mono ?_
  rintro e w1 ⟨rfl, hF⟩
  have F1 := Lib.hid (F0.out.new0 hF)
  have T1 := Lib.hid (T0.out.frm hF (fun x => x))
  have X1 : Hid (Box w1 B A n c) := Blk.frm X0.out hF (fun x => x)
  have S1 := Lib.hid (S0.out.frm hF (fun _ _ x => x))
  clear hF F0 T0 X0 S0 K1
  go_wp2_with fail
  rw [rounds_succ]
  go_wp2_with fail
  refine (K2.out _ _ X1.out S1.out).mono ?_
  rintro e w2 ⟨rfl, hF⟩
  have F2 := Lib.hid (F1.out.new0 hF)
  have T2 := Lib.hid (T1.out.frm hF (fun x => x))
  have X2 : Hid (Box w2 B A n c) := Blk.frm X1.out hF (fun x => x)
  have S2 := Lib.hid (S1.out.frm hF (fun _ _ x => x))
  clear hF F1 T1 X1 S1 K2
  go_wp2_with fail
  rw [rounds_succ]
  go_wp2_with fail
  refine (K3.out _ _ X2.out S2.out).mono ?_
  rintro e w3 ⟨rfl, hF⟩
  have F3 := Lib.hid (F2.out.new0 hF)
  have T3 := Lib.hid (T2.out.frm hF (fun x => x))
  have X3 : Hid (Box w3 B A n c) := Blk.frm X2.out hF (fun x => x)
  have S3 := Lib.hid (S2.out.frm hF (fun _ _ x => x))
  clear hF F2 T2 X2 S2 K3
  go_wp2_with fail
  rw [rounds_succ]
  go_wp2_with fail
  refine (K4.out _ _ X3.out S3.out).mono ?_
  rintro e w4 ⟨rfl, hF⟩
  have F4 := Lib.hid (F3.out.new0 hF)
  have T4 := Lib.hid (T3.out.frm hF (fun x => x))
  have X4 : Hid (Box w4 B A n c) := Blk.frm X3.out hF (fun x => x)
  have S4 := Lib.hid (S3.out.frm hF (fun _ _ x => x))
  clear hF F3 T3 X3 S3 K4
  obtain ⟨_, _, _, _, _, _, _, _, _, _⟩ := blk10 T4.out
  have zf := T4.out.frozen
  have _ := zf 0
  have _ := zf 1
  have _ := zf 2
  have _ := zf 3
  have _ := zf 4
  have _ := zf 5
  have _ := zf 6
  have _ := zf 7
  have _ := zf 8
  have _ := zf 9
  clear zf
  go_wp2_with fail
  have B3 := Lib.hid (set10 T4.out (.int .u8 0) (.int .u16 0) (.bool false) (.bool false) (.int .i64 0) (.int .u8 0) (.int .u8 0) (.int .u32 0) (.int .u32 0) (.slice none 0 0))
  obtain ⟨z0, z1, z2, z3, z4, z5, z6, z7, z8, z9⟩ := blk10 B3.out
  refine bodyPost_ret (v := .tuple #[.agg #[.int .u8 0, .int .u16 0, .bool false, .bool false, .int .i64 0, .int .u8 0, .int .u8 0, .int .u32 0, .int .u32 0, .slice none 0 0], .int .i64 0, .int .i64 0, .int .i64 53]) (by simp [results, Try.results18, go_sem, z0, z1, z2, z3, z4, z5, z6, z7, z8, z9]) rfl ⟨rfl, ?_⟩
  exact frm10 F4.out (fun h => absurd h (by omega)) _ _ _ _ _ _ _ _ _ _

end Go.Proofs.Ytcclneaabnpbkaa
