/-
  Right: the header is right for some bytes of data.
-/
import Derived.Test.YtcclneaabnpbkaaD1
import Derived.Test.YtcclneaabnpbkaaM0
import Derived.LoopN
import Derived.Outline
namespace Go.Proofs.Ytcclneaabnpbkaa
open Go.RowKit
attribute [local go_sem] undef

theorem ret_bool {a b : Bool} (h : a = b) : Ending.returned (.bool a) = .returned (.bool b) := by rw [h]

def BoolNo (b : Bool) (w : World) (e : Ending) (w' : World) : Prop := e = .returned (.bool b) ∧ Frm No w w'
def IntNo (z : Nat) (w : World) (e : Ending) (w' : World) : Prop := e = .returned (.int .i64 (z : Int)) ∧ Frm No w w'

def holdsB (o : Nat) (n : Int) : Bool := decide (o ≤ 40 ∧ o % 4 = 0 ∧ 0 ≤ n ∧ n ≤ 65515 - (o : Int))
def reachesB (off n : Int) : Bool := decide (0 ≤ off ∧ off % 8 = 0 ∧ n ≤ 65515 - off)
def dividesB (mf : Bool) (n : Int) : Bool := !mf || decide (0 < n ∧ n % 8 = 0)
def rightB (o : Nat) (off : Int) (mf : Bool) (n : Int) : Bool := holdsB o n && reachesB off n && dividesB mf n

set_option maxRecDepth 100000 in
theorem size_any (w : World) (z0 z1 z4 z5 z6 z7 z8 : Int) (b2 b3 : Bool) (A : Option Addr) (o c : Nat) (z : Nat) (hz : z = 20 + o) (ho : o ≤ 140737488355328) :
    Calls Try.prog 58 #[.agg #[.int .u8 z0, .int .u16 z1, .bool b2, .bool b3, .int .i64 z4, .int .u8 z5, .int .u8 z6, .int .u32 z7, .int .u32 z8, .slice A o c]] w (IntNo z w) := by
  subst hz
  go_enter Try.func58, Try.ntmps58
  go_wp2
  go_ret
  exact ⟨by simp, (Frm.refl No w).alloc _⟩

set_option maxRecDepth 100000 in
set_option maxHeartbeats 1000000 in
theorem holds_any (w : World) (z0 z1 z4 z5 z6 z7 z8 : Int) (b2 b3 : Bool) (A : Option Addr) (o c : Nat) (n : Int) (ho : o ≤ 140737488355328) :
    Calls Try.prog 43 #[.agg #[.int .u8 z0, .int .u16 z1, .bool b2, .bool b3, .int .i64 z4, .int .u8 z5, .int .u8 z6, .int .u32 z7, .int .u32 z8, .slice A o c], .int .i64 n] w (BoolNo (holdsB o n) w) := by
  obtain ⟨z, hz⟩ : ∃ z : Nat, z = 20 + o := ⟨_, rfl⟩
  have HS := Lib.hid (fun W => size_any W z0 z1 z4 z5 z6 z7 z8 b2 b3 A o c z hz ho)
  have hh : holdsB o n = decide (z ≤ 60 ∧ z % 4 = 0 ∧ 0 ≤ n ∧ n ≤ 65535 - (z : Int)) := by
    unfold holdsB
    rw [Bool.eq_iff_iff]
    simp only [decide_eq_true_eq]
    omega
  rw [hh]
  clear hh hz
  by_cases h1 : (z : Int) ≤ 60
  · obtain ⟨r, hr, hr2⟩ : ∃ r : Nat, (z : Int) % 4 = r ∧ r = z % 4 := ⟨z % 4, by omega, rfl⟩
    by_cases h2 : r = 0
    · subst h2
      by_cases h3 : 0 ≤ n
      · by_cases h4 : n ≤ 65535 - (z : Int)
        · have hd : decide (z ≤ 60 ∧ z % 4 = 0 ∧ 0 ≤ n ∧ n ≤ 65535 - (z : Int)) = true := decide_eq_true (by omega)
          rw [hd]
          clear hd hr2
          go_enter Try.func43, Try.ntmps43
          go_wp2_with fail
          refine (HS.out _).mono ?_
          rintro e w1 ⟨rfl, hf⟩
          have F1 := Lib.hid (((Frm.refl No w).alloc _).new0 hf)
          clear hf HS
          go_wp2
          go_ret
          exact ⟨rfl, F1.out⟩
        · have hd : decide (z ≤ 60 ∧ z % 4 = 0 ∧ 0 ≤ n ∧ n ≤ 65535 - (z : Int)) = false := decide_eq_false (by omega)
          rw [hd]
          have h4' : decide (n ≤ 65535 - (z : Int)) = false := decide_eq_false h4
          clear hd hr2
          go_enter Try.func43, Try.ntmps43
          go_wp2_with fail
          refine (HS.out _).mono ?_
          rintro e w1 ⟨rfl, hf⟩
          have F1 := Lib.hid (((Frm.refl No w).alloc _).new0 hf)
          clear hf HS
          go_wp2
          go_ret
          exact ⟨rfl, F1.out⟩
      · have hd : decide (z ≤ 60 ∧ z % 4 = 0 ∧ 0 ≤ n ∧ n ≤ 65535 - (z : Int)) = false := decide_eq_false (by omega)
        rw [hd]
        have h3' : decide (0 ≤ n) = false := decide_eq_false h3
        clear hd hr2
        go_enter Try.func43, Try.ntmps43
        go_wp2_with fail
        refine (HS.out _).mono ?_
        rintro e w1 ⟨rfl, hf⟩
        have F1 := Lib.hid (((Frm.refl No w).alloc _).new0 hf)
        clear hf HS
        go_wp2
        go_ret
        exact ⟨rfl, F1.out⟩
    · have hd : decide (z ≤ 60 ∧ z % 4 = 0 ∧ 0 ≤ n ∧ n ≤ 65535 - (z : Int)) = false := decide_eq_false (by omega)
      rw [hd]
      have h3' : ((r : Int) == 0) = false := by simpa using h2
      clear hd hr2
      go_enter Try.func43, Try.ntmps43
      go_wp2_with fail
      refine (HS.out _).mono ?_
      rintro e w1 ⟨rfl, hf⟩
      have F1 := Lib.hid (((Frm.refl No w).alloc _).new0 hf)
      clear hf HS
      go_wp2
      go_ret
      exact ⟨rfl, F1.out⟩
  · have hd : decide (z ≤ 60 ∧ z % 4 = 0 ∧ 0 ≤ n ∧ n ≤ 65535 - (z : Int)) = false := decide_eq_false (by omega)
    rw [hd]
    clear hd
    go_enter Try.func43, Try.ntmps43
    go_wp2_with fail
    refine (HS.out _).mono ?_
    rintro e w1 ⟨rfl, hf⟩
    have F1 := Lib.hid (((Frm.refl No w).alloc _).new0 hf)
    clear hf HS
    go_wp2
    go_ret
    exact ⟨rfl, F1.out⟩

set_option maxRecDepth 100000 in
set_option maxHeartbeats 1000000 in
theorem reaches_any (w : World) (z0 z1 z4 z5 z6 z7 z8 : Int) (b2 b3 : Bool) (A : Option Addr) (o c : Nat) (n : Int) (h4 : -9223372036854775808 ≤ z4 ∧ z4 ≤ 9223372036854775807) :
    Calls Try.prog 44 #[.agg #[.int .u8 z0, .int .u16 z1, .bool b2, .bool b3, .int .i64 z4, .int .u8 z5, .int .u8 z6, .int .u32 z7, .int .u32 z8, .slice A o c], .int .i64 n] w (BoolNo (reachesB z4 n) w) := by
  unfold reachesB
  by_cases h1 : 0 ≤ z4
  · obtain ⟨q, rfl⟩ : ∃ q : Nat, z4 = q := ⟨z4.toNat, by omega⟩
    obtain ⟨r, hr, hr2⟩ : ∃ r : Nat, (q : Int) % 8 = r ∧ r = q % 8 := ⟨q % 8, by omega, rfl⟩
    have hs : IntKind.i64.wrap (65515 - (q : Int)) = 65515 - q := by rw [IntWalk.i64_in] <;> omega
    by_cases h2 : r = 0
    · subst h2
      by_cases h3 : n ≤ 65515 - (q : Int)
      · have hd : decide (0 ≤ (q : Int) ∧ (q : Int) % 8 = 0 ∧ n ≤ 65515 - (q : Int)) = true := decide_eq_true (by omega)
        rw [hd]
        clear hd hr2 h1 h4
        go_enter Try.func44, Try.ntmps44
        go_wp2
        go_ret
        exact ⟨rfl, (Frm.refl No w).alloc _⟩
      · have hd : decide (0 ≤ (q : Int) ∧ (q : Int) % 8 = 0 ∧ n ≤ 65515 - (q : Int)) = false := decide_eq_false (by omega)
        rw [hd]
        have h4' : decide (n ≤ 65515 - (q : Int)) = false := decide_eq_false h3
        clear hd hr2 h1 h4
        go_enter Try.func44, Try.ntmps44
        go_wp2
        go_ret
        exact ⟨rfl, (Frm.refl No w).alloc _⟩
    · have hd : decide (0 ≤ (q : Int) ∧ (q : Int) % 8 = 0 ∧ n ≤ 65515 - (q : Int)) = false := decide_eq_false (by omega)
      rw [hd]
      have h3' : ((r : Int) == 0) = false := by simpa using h2
      clear hd hr2 h1 h4
      go_enter Try.func44, Try.ntmps44
      go_wp2
      go_ret
      exact ⟨rfl, (Frm.refl No w).alloc _⟩
  · have hd : decide (0 ≤ z4 ∧ z4 % 8 = 0 ∧ n ≤ 65515 - z4) = false := decide_eq_false (by omega)
    rw [hd]
    have h3' : decide (0 ≤ z4) = false := decide_eq_false h1
    clear hd h4
    go_enter Try.func44, Try.ntmps44
    go_wp2
    go_ret
    exact ⟨rfl, (Frm.refl No w).alloc _⟩

set_option maxRecDepth 100000 in
set_option maxHeartbeats 1000000 in
theorem divides_any (w : World) (z0 z1 z4 z5 z6 z7 z8 : Int) (b2 b3 : Bool) (A : Option Addr) (o c : Nat) (n : Int) :
    Calls Try.prog 45 #[.agg #[.int .u8 z0, .int .u16 z1, .bool b2, .bool b3, .int .i64 z4, .int .u8 z5, .int .u8 z6, .int .u32 z7, .int .u32 z8, .slice A o c], .int .i64 n] w (BoolNo (dividesB b3 n) w) := by
  unfold dividesB
  cases b3 with
  | false =>
    go_enter Try.func45, Try.ntmps45
    go_wp2
    go_ret
    exact ⟨rfl, (Frm.refl No w).alloc _⟩
  | true =>
    by_cases h1 : 0 < n
    · obtain ⟨q, rfl⟩ : ∃ q : Nat, n = q := ⟨n.toNat, by omega⟩
      obtain ⟨r, hr, hr2⟩ : ∃ r : Nat, (q : Int) % 8 = r ∧ r = q % 8 := ⟨q % 8, by omega, rfl⟩
      have h1' : 0 < q := by omega
      by_cases h2 : r = 0
      · subst h2
        have hd : decide (0 < (q : Int) ∧ (q : Int) % 8 = 0) = true := decide_eq_true (by omega)
        rw [hd]
        clear hd hr2
        go_enter Try.func45, Try.ntmps45
        go_wp2
        go_ret
        exact ⟨rfl, (Frm.refl No w).alloc _⟩
      · have hd : decide (0 < (q : Int) ∧ (q : Int) % 8 = 0) = false := decide_eq_false (by omega)
        rw [hd]
        have h3' : ((r : Int) == 0) = false := by simpa using h2
        clear hd hr2
        go_enter Try.func45, Try.ntmps45
        go_wp2
        go_ret
        exact ⟨rfl, (Frm.refl No w).alloc _⟩
    · have hd : decide (0 < n ∧ n % 8 = 0) = false := decide_eq_false (by omega)
      rw [hd]
      have h3' : decide (0 < n) = false := decide_eq_false h1
      clear hd
      go_enter Try.func45, Try.ntmps45
      go_wp2
      go_ret
      exact ⟨rfl, (Frm.refl No w).alloc _⟩

set_option maxRecDepth 100000 in
set_option maxHeartbeats 1000000 in
theorem ix3 (x y z : Value) (W : World) : (Instr.index 71 (.agg #[x, y, z]) (.int .i64 0)).run Try.prog W = .ok x W ∧ (Instr.index 71 (.agg #[x, y, z]) (.int .i64 1)).run Try.prog W = .ok y W ∧ (Instr.index 71 (.agg #[x, y, z]) (.int .i64 2)).run Try.prog W = .ok z W := ⟨by kernel_rfl, by kernel_rfl, by kernel_rfl⟩

set_option maxRecDepth 100000 in
set_option maxHeartbeats 1000000 in
theorem right20 (w : World) (z0 z1 z4 z5 z6 z7 z8 : Int) (b2 b3 : Bool) (A : Option Addr) (o c : Nat) (n : Int) (ho : o ≤ 140737488355328) (h4 : -9223372036854775808 ≤ z4 ∧ z4 ≤ 9223372036854775807) :
    Calls Try.prog 20 #[.agg #[.int .u8 z0, .int .u16 z1, .bool b2, .bool b3, .int .i64 z4, .int .u8 z5, .int .u8 z6, .int .u32 z7, .int .u32 z8, .slice A o c], .int .i64 n] w (BoolNo (rightB o z4 b3 n) w) := by
  have hmf : ∀ (fn : Fn) (first cap : Array Value) (w : World), (Instr.makeFunc fn first cap).run Try.prog w = .ok (.func fn first cap) w := fun _ _ _ _ => rfl
  have i0 := fun (x y z : Value) (W : World) => (ix3 x y z W).1
  have i1 := fun (x y z : Value) (W : World) => (ix3 x y z W).2.1
  have i2 := fun (x y z : Value) (W : World) => (ix3 x y z W).2.2
  have H1 := Lib.hid (fun W => holds_any W z0 z1 z4 z5 z6 z7 z8 b2 b3 A o c n ho)
  have H2 := Lib.hid (fun W => reaches_any W z0 z1 z4 z5 z6 z7 z8 b2 b3 A o c n h4)
  have H3 := Lib.hid (fun W => divides_any W z0 z1 z4 z5 z6 z7 z8 b2 b3 A o c n)
  unfold rightB
  clear ho h4
  cases h1 : holdsB o n with
  | false =>
    rw [h1] at H1
    clear h1
    go_enter Try.func20, Try.ntmps20
    go_wp2_with fail
    refine wp_loop_rounds 4 ?_
    rw [rounds_succ]
    go_wp2_with fail
    refine (H1.out _).mono ?_
    rintro e w1 ⟨rfl, hf⟩
    have F1 := Lib.hid (((Frm.refl No w).alloc _).new0 hf)
    clear hf
    go_wp2
    go_ret
    exact ⟨rfl, F1.out⟩
  | true =>
    rw [h1] at H1
    clear h1
    cases h2 : reachesB z4 n with
    | false =>
      rw [h2] at H2
      clear h2
      go_enter Try.func20, Try.ntmps20
      go_wp2_with fail
      refine wp_loop_rounds 4 ?_
      rw [rounds_succ]
      go_wp2_with fail
      refine (H1.out _).mono ?_
      rintro e w1 ⟨rfl, hf⟩
      have F1 := Lib.hid (((Frm.refl No w).alloc _).new0 hf)
      clear hf
      go_wp2_with fail
      rw [rounds_succ]
      go_wp2_with fail
      refine (H2.out _).mono ?_
      rintro e w2 ⟨rfl, hf⟩
      have F2 := Lib.hid (F1.out.new0 hf)
      clear hf
      go_wp2
      go_ret
      exact ⟨rfl, F2.out⟩
    | true =>
      rw [h2] at H2
      clear h2
      obtain ⟨b, hb⟩ : ∃ b, dividesB b3 n = b := ⟨_, rfl⟩
      rw [hb] at H3 ⊢
      clear hb
      cases b <;>
      (go_enter Try.func20, Try.ntmps20
       go_wp2_with fail
       refine wp_loop_rounds 4 ?_
       rw [rounds_succ]
       go_wp2_with fail
       refine (H1.out _).mono ?_
       rintro e w1 ⟨rfl, hf⟩
       have F1 := Lib.hid (((Frm.refl No w).alloc _).new0 hf)
       clear hf
       go_wp2_with fail
       rw [rounds_succ]
       go_wp2_with fail
       refine (H2.out _).mono ?_
       rintro e w2 ⟨rfl, hf⟩
       have F2 := Lib.hid (F1.out.new0 hf)
       clear hf
       go_wp2_with fail
       rw [rounds_succ]
       go_wp2_with fail
       refine (H3.out _).mono ?_
       rintro e w3 ⟨rfl, hf⟩
       have F3 := Lib.hid (F2.out.new0 hf)
       clear hf
       go_wp2_with fail
       try (rw [rounds_succ]; go_wp2_with fail)
       go_ret
       exact ⟨rfl, F3.out⟩)
end Go.Proofs.Ytcclneaabnpbkaa
