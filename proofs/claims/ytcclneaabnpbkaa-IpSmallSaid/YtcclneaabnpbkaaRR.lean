/-
  The document's Right and Write.
-/
import Derived.Test.YtcclneaabnpbkaaP12
import Derived.Test.YtcclneaabnpbkaaNN
import Derived.LoopN
import Derived.Deep.CutBlock
import Derived.Test.YtcclneaabnpbkaaCu

/- Ra -/
namespace Go.Proofs.Ytcclneaabnpbkaa
open Go.RowKit
attribute [local go_sem] undef

set_option maxRecDepth 100000 in
set_option maxHeartbeats 1000000 in
theorem ref_right (w : World) (z0 z1 z4 z5 z6 z7 z8 : Int) (b2 b3 : Bool) (A : Option Addr) (o c : Nat) (n : Int) (ho : o ≤ 140737488355328) (h4 : -9223372036854775808 ≤ z4 ∧ z4 ≤ 9223372036854775807) (hn : -9223372036854775808 ≤ n ∧ n ≤ 9223372036854775807) :
    Calls Try.prog 35 #[.agg #[.int .u8 z0, .int .u16 z1, .bool b2, .bool b3, .int .i64 z4, .int .u8 z5, .int .u8 z6, .int .u32 z7, .int .u32 z8, .slice A o c], .int .i64 n] w (BoolNo (rightB o z4 b3 n) w) := by
  by_cases c1 : z4 < 0
  · have hv : rightB o z4 b3 n = false := by unfold rightB reachesB; rw [decide_eq_false (by omega), Bool.and_false, Bool.false_and]
    go_enter Try.func35, Try.ntmps35
    go_wp2_with fail
    go_ret
    first | exact ⟨rfl, (Frm.refl No w).alloc _⟩ | exact ⟨ret_bool hv.symm, (Frm.refl No w).alloc _⟩
  by_cases c2 : z4 > 65528
  · have hv : rightB o z4 b3 n = false := by
      unfold rightB holdsB reachesB
      by_cases h0 : 0 ≤ n
      · rw [decide_eq_false (p := 0 ≤ z4 ∧ z4 % 8 = 0 ∧ n ≤ 65515 - z4) (by omega), Bool.and_false, Bool.false_and]
      · rw [decide_eq_false (p := o ≤ 40 ∧ o % 4 = 0 ∧ 0 ≤ n ∧ n ≤ 65515 - (o : Int)) (by omega)]; rfl
    go_enter Try.func35, Try.ntmps35
    go_wp2_with fail
    go_ret
    first | exact ⟨rfl, (Frm.refl No w).alloc _⟩ | exact ⟨ret_bool hv.symm, (Frm.refl No w).alloc _⟩
  have d0 : 0 ≤ z4 := by omega
  have d1 : z4 ≤ 65528 := by omega
  by_cases c3 : ¬ z4 % 8 = 0
  · have hv : rightB o z4 b3 n = false := by unfold rightB reachesB; rw [decide_eq_false (by omega), Bool.and_false, Bool.false_and]
    go_enter Try.func35, Try.ntmps35
    go_wp2_with fail
    go_ret
    first | exact ⟨rfl, (Frm.refl No w).alloc _⟩ | exact ⟨ret_bool hv.symm, (Frm.refl No w).alloc _⟩
  have c3' : z4 % 8 = 0 := by omega
  clear c3
  by_cases e1 : (o : Int) > 40
  · have hv : rightB o z4 b3 n = false := by unfold rightB holdsB; rw [decide_eq_false (by omega)]; rfl
    have hv2 := Lib.hid c3'
    go_enter Try.func35, Try.ntmps35
    go_wp2_with fail
    go_ret
    first | exact ⟨rfl, (Frm.refl No w).alloc _⟩ | exact ⟨ret_bool hv.symm, (Frm.refl No w).alloc _⟩
  have e1' : o ≤ 40 := by omega
  by_cases e2 : ¬ (o : Int) % 4 = 0
  · have hv : rightB o z4 b3 n = false := by unfold rightB holdsB; rw [decide_eq_false (by omega)]; rfl
    go_enter Try.func35, Try.ntmps35
    go_wp2_with fail
    go_ret
    first | exact ⟨rfl, (Frm.refl No w).alloc _⟩ | exact ⟨ret_bool hv.symm, (Frm.refl No w).alloc _⟩
  have e2' : (o : Int) % 4 = 0 := by omega
  clear e2
  by_cases e3 : n < 0
  · have hv : rightB o z4 b3 n = false := by unfold rightB holdsB; rw [decide_eq_false (by omega)]; rfl
    go_enter Try.func35, Try.ntmps35
    go_wp2_with fail
    go_ret
    first | exact ⟨rfl, (Frm.refl No w).alloc _⟩ | exact ⟨ret_bool hv.symm, (Frm.refl No w).alloc _⟩
  have e3' : 0 ≤ n := by omega
  by_cases e4 : n > 65515 - (o : Int)
  · have hv : rightB o z4 b3 n = false := by unfold rightB holdsB; rw [decide_eq_false (by omega)]; rfl
    go_enter Try.func35, Try.ntmps35
    go_wp2_with fail
    go_ret
    first | exact ⟨rfl, (Frm.refl No w).alloc _⟩ | exact ⟨ret_bool hv.symm, (Frm.refl No w).alloc _⟩
  by_cases e5 : n > 65515 - z4
  · have hv : rightB o z4 b3 n = false := by unfold rightB reachesB; rw [decide_eq_false (p := 0 ≤ z4 ∧ z4 % 8 = 0 ∧ n ≤ 65515 - z4) (by omega), Bool.and_false, Bool.false_and]
    go_enter Try.func35, Try.ntmps35
    go_wp2_with fail
    go_ret
    first | exact ⟨rfl, (Frm.refl No w).alloc _⟩ | exact ⟨ret_bool hv.symm, (Frm.refl No w).alloc _⟩
  have g1 : holdsB o n = true := decide_eq_true (by omega)
  have g2 : reachesB z4 n = true := decide_eq_true (by omega)
  cases b3 with
  | false =>
    have hv : rightB o z4 false n = true := by unfold rightB dividesB; rw [g1, g2]; rfl
    clear g1 g2
    go_enter Try.func35, Try.ntmps35
    go_wp2_with fail
    go_ret
    first | exact ⟨rfl, (Frm.refl No w).alloc _⟩ | exact ⟨ret_bool hv.symm, (Frm.refl No w).alloc _⟩
  | true =>
    by_cases e6 : n > 0
    · by_cases e7 : n % 8 = 0
      · have hv : rightB o z4 true n = true := by unfold rightB dividesB; rw [g1, g2, decide_eq_true (by omega)]; rfl
        have e8 : (n % 8 == 0) = true := by simp; omega
        clear g1 g2
        go_enter Try.func35, Try.ntmps35
        go_wp2_with fail
        go_ret
        first | exact ⟨rfl, (Frm.refl No w).alloc _⟩ | exact ⟨ret_bool hv.symm, (Frm.refl No w).alloc _⟩
      · have hv : rightB o z4 true n = false := by unfold rightB dividesB; rw [g1, g2, decide_eq_false (by omega)]; rfl
        have e8 : (n % 8 == 0) = false := by simp; omega
        clear g1 g2
        go_enter Try.func35, Try.ntmps35
        go_wp2_with fail
        go_ret
        first | exact ⟨rfl, (Frm.refl No w).alloc _⟩ | exact ⟨ret_bool hv.symm, (Frm.refl No w).alloc _⟩
    · have hv : rightB o z4 true n = false := by unfold rightB dividesB; rw [g1, g2, decide_eq_false (by omega)]; rfl
      clear g1 g2
      go_enter Try.func35, Try.ntmps35
      go_wp2_with fail
      go_ret
      first | exact ⟨rfl, (Frm.refl No w).alloc _⟩ | exact ⟨ret_bool hv.symm, (Frm.refl No w).alloc _⟩

end Go.Proofs.Ytcclneaabnpbkaa

/- Rb -/
namespace Go.Proofs.Ytcclneaabnpbkaa
open Go.RowKit
attribute [local go_sem] undef

def BytesEnds (bs : List UInt8) (n : Nat) (w : World) (e : Ending) (w' : World) : Prop :=
  ∃ g c, e = .returned (.slice (some ⟨g, 0, none⟩) n c) ∧ Row w' w.heap.size g n c bs ∧ Frm No w w'

set_option maxRecDepth 100000 in
set_option maxHeartbeats 1000000 in
theorem ref_bytes2 (w : World) (x : Nat) (hx : x < 65536) (z : Int) (hz : z = x) :
    Calls Try.prog 54 #[.int .i64 z, .int .i64 2] w (BytesEnds [hiB x, loB x] 2 w) := by
  subst hz
  obtain ⟨W0, hW0⟩ : ∃ W0, W0 = w.alloc (.cells (byts (List.replicate 2 0)).toArray 5) := ⟨_, rfl⟩
  have hmk : (Instr.makeSlice 22 (.int .i64 2) (.int .i64 2)).run Try.prog w = .ok (.slice (some ⟨w.heap.size, 0, none⟩) 2 2) W0 := by rw [hW0]; exact make_bytes 2 2 (by omega) (by omega) w
  have R0 : Row W0 w.heap.size w.heap.size 2 2 (List.replicate 2 0) := by rw [hW0]; exact row_made w w.heap.size 2 (List.replicate 2 0) rfl (Nat.le_refl _) (by omega)
  have F0 : Frm No w W0 := by rw [hW0]; exact (Frm.refl No w).alloc _
  obtain ⟨g, hg⟩ : ∃ g, w.heap.size = g := ⟨_, rfl⟩
  rw [hg] at hmk
  have R0' : Row W0 w.heap.size g 2 2 (List.replicate 2 0) := by rw [← hg]; exact R0
  have hgl : g < w.heap.size → No g := fun h => absurd h (by omega)
  have fz0 := R0'.frozen 0
  have cz0 : W0.cell? ⟨g, 0, none⟩ = some (.int .u8 0) := R0'.cell 0 (by decide)
  have fz1 := R0'.frozen 1
  have cz1 : W0.cell? ⟨g, 1, none⟩ = some (.int .u8 0) := R0'.cell 1 (by decide)
  obtain ⟨v0, hv0, hw0⟩ : ∃ v : UInt8, (x : Int) % 256 = (v.toNat : Int) ∧ v = UInt8.ofNat x := ⟨UInt8.ofNat x, by rw [UInt8.toNat_ofNat']; omega, rfl⟩
  have hc0 : IntKind.u8.wrap (v0.toNat : Int) = (v0.toNat : Int) := by have e : IntKind.u8.wrap (v0.toNat : Int) = (v0.toNat : Int) % 256 := rfl; rw [e]; have := v0.toNat_lt; omega
  obtain ⟨y0, hy0, hq0⟩ : ∃ y : Nat, (x : Int) / 256 = (y : Int) ∧ y = x / 256 := ⟨x / 256, by omega, rfl⟩
  have hb0 : y0 ≤ 16777216 := by omega
  obtain ⟨v1, hv1, hw1⟩ : ∃ v : UInt8, (y0 : Int) % 256 = (v.toNat : Int) ∧ v = UInt8.ofNat y0 := ⟨UInt8.ofNat y0, by rw [UInt8.toNat_ofNat']; omega, rfl⟩
  have hc1 : IntKind.u8.wrap (v1.toNat : Int) = (v1.toNat : Int) := by have e : IntKind.u8.wrap (v1.toNat : Int) = (v1.toNat : Int) % 256 := rfl; rw [e]; have := v1.toNat_lt; omega
  obtain ⟨y1, hy1, hq1⟩ : ∃ y : Nat, (y0 : Int) / 256 = (y : Int) ∧ y = y0 / 256 := ⟨y0 / 256, by omega, rfl⟩
  have hb1 : y1 ≤ 16777216 := by omega
  have FE := Lib.hid ((F0.setCell (p := ⟨g, 1, none⟩) hgl (.int .u8 (v0.toNat : Int))).setCell (p := ⟨g, 0, none⟩) hgl (.int .u8 (v1.toNat : Int)))
  have RE := Lib.hid ((R0'.set 1 v0 _ rfl).set 0 v1 _ rfl)
  have HL : Hid (((List.replicate 2 (0 : UInt8)).set 1 v0).set 0 v1 = [hiB x, loB x]) := by
    show _ = _
    show [v1, v0] = _
    rw [hw0, hw1, hq0]
    rfl
  have hx2 : x ≤ 4294967296 := by omega
  clear hW0 R0 R0' F0 hgl hx hw0 hq0 hw1 hq1
  go_enter Try.func54, Try.ntmps54
  go_upto_block 0 with fail
  refine wp_block (wp_loop_rounds 3 ?_)
  rw [rounds_succ]
  go_wp2_with fail
  rw [rounds_succ]
  go_wp2_with fail
  rw [rounds_succ]
  go_wp2_with fail
  go_ret
  exact ⟨g, 2, rfl, by rw [← HL.out]; exact RE.out, FE.out⟩

set_option maxRecDepth 100000 in
set_option maxHeartbeats 1000000 in
theorem ref_bytes4 (w : World) (x : Nat) (hx : x < 4294967296) (z : Int) (hz : z = x) :
    Calls Try.prog 54 #[.int .i64 z, .int .i64 4] w (BytesEnds (b4 x) 4 w) := by
  subst hz
  obtain ⟨W0, hW0⟩ : ∃ W0, W0 = w.alloc (.cells (byts (List.replicate 4 0)).toArray 5) := ⟨_, rfl⟩
  have hmk : (Instr.makeSlice 22 (.int .i64 4) (.int .i64 4)).run Try.prog w = .ok (.slice (some ⟨w.heap.size, 0, none⟩) 4 4) W0 := by rw [hW0]; exact make_bytes 4 4 (by omega) (by omega) w
  have R0 : Row W0 w.heap.size w.heap.size 4 4 (List.replicate 4 0) := by rw [hW0]; exact row_made w w.heap.size 4 (List.replicate 4 0) rfl (Nat.le_refl _) (by omega)
  have F0 : Frm No w W0 := by rw [hW0]; exact (Frm.refl No w).alloc _
  obtain ⟨g, hg⟩ : ∃ g, w.heap.size = g := ⟨_, rfl⟩
  rw [hg] at hmk
  have R0' : Row W0 w.heap.size g 4 4 (List.replicate 4 0) := by rw [← hg]; exact R0
  have hgl : g < w.heap.size → No g := fun h => absurd h (by omega)
  have fz0 := R0'.frozen 0
  have cz0 : W0.cell? ⟨g, 0, none⟩ = some (.int .u8 0) := R0'.cell 0 (by decide)
  have fz1 := R0'.frozen 1
  have cz1 : W0.cell? ⟨g, 1, none⟩ = some (.int .u8 0) := R0'.cell 1 (by decide)
  have fz2 := R0'.frozen 2
  have cz2 : W0.cell? ⟨g, 2, none⟩ = some (.int .u8 0) := R0'.cell 2 (by decide)
  have fz3 := R0'.frozen 3
  have cz3 : W0.cell? ⟨g, 3, none⟩ = some (.int .u8 0) := R0'.cell 3 (by decide)
  obtain ⟨v0, hv0, hw0⟩ : ∃ v : UInt8, (x : Int) % 256 = (v.toNat : Int) ∧ v = UInt8.ofNat x := ⟨UInt8.ofNat x, by rw [UInt8.toNat_ofNat']; omega, rfl⟩
  have hc0 : IntKind.u8.wrap (v0.toNat : Int) = (v0.toNat : Int) := by have e : IntKind.u8.wrap (v0.toNat : Int) = (v0.toNat : Int) % 256 := rfl; rw [e]; have := v0.toNat_lt; omega
  obtain ⟨y0, hy0, hq0⟩ : ∃ y : Nat, (x : Int) / 256 = (y : Int) ∧ y = x / 256 := ⟨x / 256, by omega, rfl⟩
  have hb0 : y0 ≤ 16777216 := by omega
  obtain ⟨v1, hv1, hw1⟩ : ∃ v : UInt8, (y0 : Int) % 256 = (v.toNat : Int) ∧ v = UInt8.ofNat y0 := ⟨UInt8.ofNat y0, by rw [UInt8.toNat_ofNat']; omega, rfl⟩
  have hc1 : IntKind.u8.wrap (v1.toNat : Int) = (v1.toNat : Int) := by have e : IntKind.u8.wrap (v1.toNat : Int) = (v1.toNat : Int) % 256 := rfl; rw [e]; have := v1.toNat_lt; omega
  obtain ⟨y1, hy1, hq1⟩ : ∃ y : Nat, (y0 : Int) / 256 = (y : Int) ∧ y = y0 / 256 := ⟨y0 / 256, by omega, rfl⟩
  have hb1 : y1 ≤ 16777216 := by omega
  obtain ⟨v2, hv2, hw2⟩ : ∃ v : UInt8, (y1 : Int) % 256 = (v.toNat : Int) ∧ v = UInt8.ofNat y1 := ⟨UInt8.ofNat y1, by rw [UInt8.toNat_ofNat']; omega, rfl⟩
  have hc2 : IntKind.u8.wrap (v2.toNat : Int) = (v2.toNat : Int) := by have e : IntKind.u8.wrap (v2.toNat : Int) = (v2.toNat : Int) % 256 := rfl; rw [e]; have := v2.toNat_lt; omega
  obtain ⟨y2, hy2, hq2⟩ : ∃ y : Nat, (y1 : Int) / 256 = (y : Int) ∧ y = y1 / 256 := ⟨y1 / 256, by omega, rfl⟩
  have hb2 : y2 ≤ 16777216 := by omega
  obtain ⟨v3, hv3, hw3⟩ : ∃ v : UInt8, (y2 : Int) % 256 = (v.toNat : Int) ∧ v = UInt8.ofNat y2 := ⟨UInt8.ofNat y2, by rw [UInt8.toNat_ofNat']; omega, rfl⟩
  have hc3 : IntKind.u8.wrap (v3.toNat : Int) = (v3.toNat : Int) := by have e : IntKind.u8.wrap (v3.toNat : Int) = (v3.toNat : Int) % 256 := rfl; rw [e]; have := v3.toNat_lt; omega
  obtain ⟨y3, hy3, hq3⟩ : ∃ y : Nat, (y2 : Int) / 256 = (y : Int) ∧ y = y2 / 256 := ⟨y2 / 256, by omega, rfl⟩
  have hb3 : y3 ≤ 16777216 := by omega
  have FE := Lib.hid ((((F0.setCell (p := ⟨g, 3, none⟩) hgl (.int .u8 (v0.toNat : Int))).setCell (p := ⟨g, 2, none⟩) hgl (.int .u8 (v1.toNat : Int))).setCell (p := ⟨g, 1, none⟩) hgl (.int .u8 (v2.toNat : Int))).setCell (p := ⟨g, 0, none⟩) hgl (.int .u8 (v3.toNat : Int)))
  have RE := Lib.hid ((((R0'.set 3 v0 _ rfl).set 2 v1 _ rfl).set 1 v2 _ rfl).set 0 v3 _ rfl)
  have HL : Hid (((((List.replicate 4 (0 : UInt8)).set 3 v0).set 2 v1).set 1 v2).set 0 v3 = (b4 x)) := by
    show _ = _
    show [v3, v2, v1, v0] = _
    have e0 : v0 = loB (x % 65536) := by rw [hw0]; unfold loB; apply UInt8.toNat_inj.1; rw [UInt8.toNat_ofNat', UInt8.toNat_ofNat']; omega
    have e1 : v1 = hiB (x % 65536) := by rw [hw1]; unfold hiB; apply UInt8.toNat_inj.1; rw [UInt8.toNat_ofNat', UInt8.toNat_ofNat']; omega
    have e2 : v2 = loB (x / 65536) := by rw [hw2]; unfold loB; apply UInt8.toNat_inj.1; rw [UInt8.toNat_ofNat', UInt8.toNat_ofNat']; omega
    have e3 : v3 = hiB (x / 65536) := by rw [hw3]; unfold hiB; apply UInt8.toNat_inj.1; rw [UInt8.toNat_ofNat', UInt8.toNat_ofNat']; omega
    unfold b4
    rw [e0, e1, e2, e3]
  have hx2 : x ≤ 4294967296 := by omega
  clear hW0 R0 R0' F0 hgl hx hw0 hq0 hw1 hq1 hw2 hq2 hw3 hq3
  go_enter Try.func54, Try.ntmps54
  go_upto_block 0 with fail
  refine wp_block (wp_loop_rounds 5 ?_)
  rw [rounds_succ]
  go_wp2_with fail
  rw [rounds_succ]
  go_wp2_with fail
  rw [rounds_succ]
  go_wp2_with fail
  rw [rounds_succ]
  go_wp2_with fail
  rw [rounds_succ]
  go_wp2_with fail
  go_ret
  exact ⟨g, 4, rfl, by rw [← HL.out]; exact RE.out, FE.out⟩
end Go.Proofs.Ytcclneaabnpbkaa

/- Rd -/
namespace Go.Proofs.Ytcclneaabnpbkaa
open Go.RowKit
attribute [local go_sem] undef

noncomputable def B34 : Code := Try.f34.body.getD .skip

theorem Rds.frm0 {w w' : World} {A : Option Addr} {bs : List UInt8} {S : Nat → Prop} (h : Rds w A bs) (hf : Frm S w w') (hS : 0 < bs.length → ∀ k, blk A = some k → ¬ S k) : Rds w' A bs := by
  by_cases h0 : 0 < bs.length
  · exact h.frm hf (hS h0)
  · obtain rfl : bs = [] := List.eq_nil_of_length_eq_zero (by omega)
    exact Rds.nil _ _

/-- What an append onto the row leaves. -/
theorem out_step {w wk w2 : World} {hb gk nk ck m : Nat} {HV : Array Value} {A D : Option Addr} {opts data xs ys : List UInt8} {V' : Value} (hF : Frm No w wk) (hT : Blk wk hb 54 HV) (hA : Rds wk A opts) (hD : Rds wk D data) (hbA : 0 < opts.length → ∀ q, blk A = some q → q < w.heap.size) (hbD : 0 < data.length → ∀ q, blk D = some q → q < w.heap.size)
    (hO : Row wk w.heap.size gk nk ck xs) (hown : w2.ownsRow w.heap.size 5 1 V' (nk + m) (byts (xs ++ ys))) (hgr : wk.grownBy w2 (Value.slice (some ⟨gk, 0, none⟩) nk ck).ownBlock) (h0 : 0 < nk) (p : Nat) (hp : p = nk + m) :
    ∃ g c, V' = .slice (some ⟨g, 0, none⟩) p c ∧ Frm No w w2 ∧ Blk w2 hb 54 HV ∧ Rds w2 A opts ∧ Rds w2 D data ∧ Row w2 w.heap.size g p c (xs ++ ys) := by
  subst hp
  obtain ⟨g, c, hv, hrow⟩ := Row.of_own hown (by omega)
  have fr := Frm.of_grown hgr
  have hne : ¬ (Value.slice (some ⟨gk, 0, none⟩) nk ck).ownBlock = some hb := own_blk_ne hO hT (by decide)
  have hfar : ∀ q, q < w.heap.size → ¬ (Value.slice (some ⟨gk, 0, none⟩) nk ck).ownBlock = some q := fun q hq h => by have := (World.ownsRow.lt hO q h).1; omega
  exact ⟨g, c, hv, hF.trans fr (fun i hi h => absurd h (hfar i hi)), hT.frm fr hne, hA.frm0 fr (fun h0 q hq h => hfar q (hbA h0 q hq) h), hD.frm0 fr (fun h0 q hq h => hfar q (hbD h0 q hq) h), hrow⟩

set_option maxRecDepth 100000 in
set_option maxHeartbeats 8000000 in
theorem ref_write_tail (w w1 : World) (u0 u3 u4 u5 u8 u9 u10 u11 u12 u13 u14 u15 u16 u17 u18 u19 u20 u21 u22 u23 u24 u25 u26 u27 u28 u29 u30 u31 u32 u33 u34 u35 u36 u37 u38 u39 u40 u41 u42 u43 u44 u45 u46 u47 u48 u49 u50 u51 u52 u53 u54 u55 u56 u57 u58 u59 u60 u61 u62 u63 u64 u65 u66 u67 u68 u69 u70 u71 u72 u73 u74 u75 u76 u77 u78 u79 u80 u81 u82 u83 : Value) (hb z pl N : Nat) (v7 : Int) (tos id : Nat) (hdf hmf : Bool) (off ttl pro src dst : Nat) (ok : Hd.Ok ⟨tos, id, hdf, hmf, off, ttl, pro, src, dst⟩) (A D : Option Addr) (o c n k : Nat) (opts data : List UInt8) (K : Act → World → Prop)
    (hK : ∀ a W, Code.wp Try.prog (dropS 7 B34) (bodyPost Try.prog Try.f34 (WroteOk ⟨tos, id, hdf, hmf, off, ttl, pro, src, dst⟩ opts data N w)) a W → K a W)
    (ho : opts.length = o) (hd : data.length = n) (hA : A = none → c = 0) (hD : D = none → k = 0) (hbA : 0 < opts.length → ∀ q, blk A = some q → q < w.heap.size) (hbD : 0 < data.length → ∀ q, blk D = some q → q < w.heap.size)
    (hz : z = 20 + o) (hN : N = 20 + o + n) (ob : o ≤ 40) (nb : n ≤ 65515) (hNb : N ≤ 65535) (hpl : plcOf off hdf hmf = pl) (hpl2 : pl < 32768) (hv7 : v7 = (pl : Int))
    (F0 : Frm No w w1) (T0 : Blk w1 hb 54 #[.int .u8 (tos : Int), .int .u16 (id : Int), .bool hdf, .bool hmf, .int .i64 (off : Int), .int .u8 (ttl : Int), .int .u8 (pro : Int), .int .u32 (src : Int), .int .u32 (dst : Int), .slice A o c]) (RA0 : Rds w1 A opts) (RD0 : Rds w1 D data) :
    Code.wp Try.prog (headS (dropS 6 B34)) (Exit.then K (bodyPost Try.prog Try.f34 (WroteOk ⟨tos, id, hdf, hmf, off, ttl, pro, src, dst⟩ opts data N w))) ⟨#[u0, .slice D n k, .pointer (some ⟨hb, 0, none⟩), u3, u4, u5, .int .i64 (z : Int), .int .i64 v7, u8, u9, u10, u11, u12, u13, u14, u15, u16, u17, u18, u19, u20, u21, u22, u23, u24, u25, u26, u27, u28, u29, u30, u31, u32, u33, u34, u35, u36, u37, u38, u39, u40, u41, u42, u43, u44, u45, u46, u47, u48, u49, u50, u51, u52, u53, u54, u55, u56, u57, u58, u59, u60, u61, u62, u63, u64, u65, u66, u67, u68, u69, u70, u71, u72, u73, u74, u75, u76, u77, u78, u79, u80, u81, u82, u83], []⟩ w1 := by
  subst hv7
  have l0 : tos < 256 := ok.tos
  have l1 : id < 65536 := ok.id
  have l3 : ttl < 256 := ok.ttl
  have l4 : pro < 256 := ok.pro
  have l5 : src < 4294967296 := ok.src
  have l6 : dst < 4294967296 := ok.dst
  obtain ⟨q, hq⟩ : ∃ q, q = z / 4 := ⟨_, rfl⟩
  have HB1 := Lib.hid (fun W => ref_bytes2 W N (by omega) N rfl)
  have HB2 := Lib.hid (fun W => ref_bytes2 W id l1 id rfl)
  have HB3 := Lib.hid (fun W => ref_bytes2 W pl (by omega) pl rfl)
  have HB4 := Lib.hid (fun W => ref_bytes4 W src l5 src rfl)
  have HB5 := Lib.hid (fun W => ref_bytes4 W dst l6 dst rfl)
  have e2 : IntKind.i64.wrap ((z : Int) + n) = (N : Int) := by rw [IntWalk.i64_in] <;> omega
  have e3 : (z : Int) / 4 = (q : Int) := by omega
  have e4 : IntKind.u8.wrap (64 + (q : Int)) = ((64 + q : Nat) : Int) := by have e : IntKind.u8.wrap (64 + (q : Int)) = (64 + (q : Int)) % 256 := rfl; rw [e]; omega
  have e5 : IntKind.i64.wrap (64 + (q : Int)) = ((64 + q : Nat) : Int) := by rw [IntWalk.i64_in] <;> omega
  obtain ⟨q6, hq6⟩ : ∃ p, 64 + q = p := ⟨_, rfl⟩
  rw [hq6] at e4 e5
  have q80 : q6 < 80 := by omega
  have e6 : IntKind.u8.wrap (q6 : Int) = (q6 : Int) := by have e : IntKind.u8.wrap (q6 : Int) = (q6 : Int) % 256 := rfl; rw [e]; omega
  have i1 : IntKind.i64.wrap (id : Int) = id := by rw [IntWalk.i64_in] <;> omega
  have i2 : IntKind.i64.wrap (src : Int) = src := by rw [IntWalk.i64_in] <;> omega
  have i3 : IntKind.i64.wrap (dst : Int) = dst := by rw [IntWalk.i64_in] <;> omega
  -- the first row
  obtain ⟨w2, hw2⟩ : ∃ W, W = w1.alloc (.cells #[.int .u8 (q6 : Int), .int .u8 (tos : Int)] 5) := ⟨_, rfl⟩
  have F2 : Hid (Frm No w w2) := by show Frm No w w2; rw [hw2]; exact F0.alloc _
  have T2 : Hid (Blk w2 hb 54 #[.int .u8 (tos : Int), .int .u16 (id : Int), .bool hdf, .bool hmf, .int .i64 (off : Int), .int .u8 (ttl : Int), .int .u8 (pro : Int), .int .u32 (src : Int), .int .u32 (dst : Int), .slice A o c]) := by show Blk w2 _ _ _; rw [hw2]; exact T0.alloc _
  have RA2 : Hid (Rds w2 A opts) := by show Rds w2 _ _; rw [hw2]; exact RA0.alloc _
  have RD2 : Hid (Rds w2 D data) := by show Rds w2 _ _; rw [hw2]; exact RD0.alloc _
  obtain ⟨g2, hg2⟩ : ∃ g, g = w1.heap.size := ⟨_, rfl⟩
  have R2 : Hid (Row w2 w.heap.size g2 2 2 [UInt8.ofNat q6, UInt8.ofNat tos]) := by
    show Row w2 _ _ _ _ _
    have h := row_made w1 w.heap.size 2 [UInt8.ofNat q6, UInt8.ofNat tos] rfl F0.size (by omega)
    have e : (byts [UInt8.ofNat q6, UInt8.ofNat tos]).toArray = #[.int .u8 (q6 : Int), .int .u8 (tos : Int)] := by
      simp only [byts, List.map_cons, List.map_nil, byt]
      rw [toN q6 (by omega), toN tos l0]
    rw [e] at h
    rw [hw2, hg2]
    exact h
  have HBA := Lib.hid hbA
  have HBD := Lib.hid hbD
  have HO := Lib.hid ho
  have HDL := Lib.hid hd
  have HA := Lib.hid hA
  have HD := Lib.hid hD
  have HN := Lib.hid hN
  have HK := Lib.hid hK
  have HQ : Hid (q6 = 64 + (20 + o) / 4) := by show _ = _; omega
  have HPL := Lib.hid hpl
  have HZ := Lib.hid hz
  obtain ⟨b0, b1, b2, b3, b4', b5, b6, b7, b8, b9⟩ := blk10 T0
  have zb : z ≤ 60 := by omega
  clear ho hd hA hD hbA hbD hz hN hpl hK F0 T0 RA0 RD0 ok hq hq6
  conv => arg 2; whnf
  go_wp2_with fail
  rw [← hw2]
  try rw [← hg2]
  have hKK := HK.out
  refine hKK _ _ ?_
  clear hKK HK hw2 hg2 b0 b1 b2 b3 b4' b5 b6 b7 b8 b9
  conv => arg 2; whnf
  obtain ⟨b0, b1, b2, b3, b4', b5, b6, b7, b8, b9⟩ := blk10 T2.out
  go_wp2_with fail
  refine (HB1.out _).mono ?_
  rintro e w3 ⟨g3, c3, rfl, hrow, hf⟩
  have F3 := Lib.hid (F2.out.new0 hf)
  have T3 := Lib.hid (T2.out.frm hf (fun x => x))
  have RA3 := Lib.hid (RA2.out.frm hf (fun _ _ x => x))
  have RD3 := Lib.hid (RD2.out.frm hf (fun _ _ x => x))
  have R3 := Lib.hid (R2.out.frm hf (fun x => x))
  have Y3 := Lib.hid hrow.rds
  clear hrow hf F2 T2 RA2 RD2 R2 HB1
  clear b0 b1 b2 b3 b4' b5 b6 b7 b8 b9
  obtain ⟨b0, b1, b2, b3, b4', b5, b6, b7, b8, b9⟩ := blk10 T3.out
  go_upto_region 11 with (at_builtin; refine wpList_append_bytes rfl (.tmp 36) (.tmp 41) rfl w.heap.size _ 2 ([UInt8.ofNat q6, UInt8.ofNat tos]) rfl R3.out (some ⟨g3, 0, none⟩) 2 c3 [hiB N, loB N] rfl rfl Y3.out (fun h => by cases h) (by omega) F3.out.size ?_; intro V4 w4 hown hgr; obtain ⟨g4, c4, rfl, hF, hT, hA, hD, hO⟩ := out_step F3.out T3.out RA3.out RD3.out HBA.out HBD.out R3.out hown hgr (by omega) 4 (rfl); have F4 := Lib.hid hF; have T4 := Lib.hid hT; have RA4 := Lib.hid hA; have RD4 := Lib.hid hD; have R4 := Lib.hid hO; clear hown hgr hF hT hA hD hO F3 T3 RA3 RD3 R3)
  clear b0 b1 b2 b3 b4' b5 b6 b7 b8 b9
  obtain ⟨b0, b1, b2, b3, b4', b5, b6, b7, b8, b9⟩ := blk10 T4.out
  go_wp2_with fail
  refine (HB2.out _).mono ?_
  rintro e w5 ⟨g5, c5, rfl, hrow, hf⟩
  have F5 := Lib.hid (F4.out.new0 hf)
  have T5 := Lib.hid (T4.out.frm hf (fun x => x))
  have RA5 := Lib.hid (RA4.out.frm hf (fun _ _ x => x))
  have RD5 := Lib.hid (RD4.out.frm hf (fun _ _ x => x))
  have R5 := Lib.hid (R4.out.frm hf (fun x => x))
  have Y5 := Lib.hid hrow.rds
  clear hrow hf F4 T4 RA4 RD4 R4 HB2
  clear b0 b1 b2 b3 b4' b5 b6 b7 b8 b9
  obtain ⟨b0, b1, b2, b3, b4', b5, b6, b7, b8, b9⟩ := blk10 T5.out
  go_upto_region 12 with (at_builtin; refine wpList_append_bytes rfl (.tmp 43) (.tmp 47) rfl w.heap.size _ 4 ([UInt8.ofNat q6, UInt8.ofNat tos] ++ [hiB N, loB N]) rfl R5.out (some ⟨g5, 0, none⟩) 2 c5 [hiB id, loB id] rfl rfl Y5.out (fun h => by cases h) (by omega) F5.out.size ?_; intro V6 w6 hown hgr; obtain ⟨g6, c6, rfl, hF, hT, hA, hD, hO⟩ := out_step F5.out T5.out RA5.out RD5.out HBA.out HBD.out R5.out hown hgr (by omega) 6 (rfl); have F6 := Lib.hid hF; have T6 := Lib.hid hT; have RA6 := Lib.hid hA; have RD6 := Lib.hid hD; have R6 := Lib.hid hO; clear hown hgr hF hT hA hD hO F5 T5 RA5 RD5 R5)
  clear b0 b1 b2 b3 b4' b5 b6 b7 b8 b9
  obtain ⟨b0, b1, b2, b3, b4', b5, b6, b7, b8, b9⟩ := blk10 T6.out
  go_wp2_with fail
  refine (HB3.out _).mono ?_
  rintro e w7 ⟨g7, c7, rfl, hrow, hf⟩
  have F7 := Lib.hid (F6.out.new0 hf)
  have T7 := Lib.hid (T6.out.frm hf (fun x => x))
  have RA7 := Lib.hid (RA6.out.frm hf (fun _ _ x => x))
  have RD7 := Lib.hid (RD6.out.frm hf (fun _ _ x => x))
  have R7 := Lib.hid (R6.out.frm hf (fun x => x))
  have Y7 := Lib.hid hrow.rds
  clear hrow hf F6 T6 RA6 RD6 R6 HB3
  clear b0 b1 b2 b3 b4' b5 b6 b7 b8 b9
  obtain ⟨b0, b1, b2, b3, b4', b5, b6, b7, b8, b9⟩ := blk10 T7.out
  go_upto_region 13 with (at_builtin; refine wpList_append_bytes rfl (.tmp 49) (.tmp 51) rfl w.heap.size _ 6 ([UInt8.ofNat q6, UInt8.ofNat tos] ++ [hiB N, loB N] ++ [hiB id, loB id]) rfl R7.out (some ⟨g7, 0, none⟩) 2 c7 [hiB pl, loB pl] rfl rfl Y7.out (fun h => by cases h) (by omega) F7.out.size ?_; intro V8 w8 hown hgr; obtain ⟨g8, c8, rfl, hF, hT, hA, hD, hO⟩ := out_step F7.out T7.out RA7.out RD7.out HBA.out HBD.out R7.out hown hgr (by omega) 8 (rfl); have F8 := Lib.hid hF; have T8 := Lib.hid hT; have RA8 := Lib.hid hA; have RD8 := Lib.hid hD; have R8 := Lib.hid hO; clear hown hgr hF hT hA hD hO F7 T7 RA7 RD7 R7)
  clear b0 b1 b2 b3 b4' b5 b6 b7 b8 b9
  obtain ⟨w9, hw9⟩ : ∃ W, W = w8.alloc (.cells #[.int .u8 (ttl : Int), .int .u8 (pro : Int), .int .u8 0, .int .u8 0] 5) := ⟨_, rfl⟩
  have hf : Frm No w8 w9 := by rw [hw9]; exact (Frm.refl No w8).alloc _
  have F9 := Lib.hid (F8.out.new0 hf)
  have T9 := Lib.hid (T8.out.frm hf (fun x => x))
  have RA9 := Lib.hid (RA8.out.frm hf (fun _ _ x => x))
  have RD9 := Lib.hid (RD8.out.frm hf (fun _ _ x => x))
  have R9 := Lib.hid (R8.out.frm hf (fun x => x))
  have Y9 : Hid (Rds w9 (some ⟨w8.heap.size, 0, none⟩) [UInt8.ofNat ttl, UInt8.ofNat pro, 0, 0]) := by
    show Rds w9 _ _
    have h := rds_new w8 [UInt8.ofNat ttl, UInt8.ofNat pro, 0, 0]
    have e : (byts [UInt8.ofNat ttl, UInt8.ofNat pro, 0, 0]).toArray = #[.int .u8 (ttl : Int), .int .u8 (pro : Int), .int .u8 0, .int .u8 0] := by
      simp only [byts, List.map_cons, List.map_nil, byt]
      rw [toN ttl l3, toN pro l4]
      rfl
    rw [e] at h
    rw [hw9]
    exact h
  obtain ⟨b0, b1, b2, b3, b4', b5, b6, b7, b8, b9⟩ := blk10 T8.out
  go_upto_region 14 with (at_builtin; rw [← hw9]; refine wpList_append_bytes rfl (.tmp 53) (.tmp 58) rfl w.heap.size _ 8 ([UInt8.ofNat q6, UInt8.ofNat tos] ++ [hiB N, loB N] ++ [hiB id, loB id] ++ [hiB pl, loB pl]) rfl R9.out (some ⟨w8.heap.size, 0, none⟩) 4 4 [UInt8.ofNat ttl, UInt8.ofNat pro, 0, 0] rfl rfl Y9.out (fun h => by cases h) (by omega) F9.out.size ?_; intro V10 w10 hown hgr; obtain ⟨g10, c10, rfl, hF, hT, hA, hD, hO⟩ := out_step F9.out T9.out RA9.out RD9.out HBA.out HBD.out R9.out hown hgr (by omega) 12 (rfl); have F10 := Lib.hid hF; have T10 := Lib.hid hT; have RA10 := Lib.hid hA; have RD10 := Lib.hid hD; have R10 := Lib.hid hO; clear hown hgr hF hT hA hD hO F9 T9 RA9 RD9 R9)
  clear hf hw9 F8 T8 RA8 RD8 R8
  clear b0 b1 b2 b3 b4' b5 b6 b7 b8 b9
  obtain ⟨b0, b1, b2, b3, b4', b5, b6, b7, b8, b9⟩ := blk10 T10.out
  go_wp2_with fail
  refine (HB4.out _).mono ?_
  rintro e w11 ⟨g11, c11, rfl, hrow, hf⟩
  have F11 := Lib.hid (F10.out.new0 hf)
  have T11 := Lib.hid (T10.out.frm hf (fun x => x))
  have RA11 := Lib.hid (RA10.out.frm hf (fun _ _ x => x))
  have RD11 := Lib.hid (RD10.out.frm hf (fun _ _ x => x))
  have R11 := Lib.hid (R10.out.frm hf (fun x => x))
  have Y11 := Lib.hid hrow.rds
  clear hrow hf F10 T10 RA10 RD10 R10 HB4
  clear b0 b1 b2 b3 b4' b5 b6 b7 b8 b9
  obtain ⟨b0, b1, b2, b3, b4', b5, b6, b7, b8, b9⟩ := blk10 T11.out
  go_upto_region 15 with (at_builtin; refine wpList_append_bytes rfl (.tmp 60) (.tmp 64) rfl w.heap.size _ 12 ([UInt8.ofNat q6, UInt8.ofNat tos] ++ [hiB N, loB N] ++ [hiB id, loB id] ++ [hiB pl, loB pl] ++ [UInt8.ofNat ttl, UInt8.ofNat pro, 0, 0]) rfl R11.out (some ⟨g11, 0, none⟩) 4 c11 (b4 src) rfl rfl Y11.out (fun h => by cases h) (by omega) F11.out.size ?_; intro V12 w12 hown hgr; obtain ⟨g12, c12, rfl, hF, hT, hA, hD, hO⟩ := out_step F11.out T11.out RA11.out RD11.out HBA.out HBD.out R11.out hown hgr (by omega) 16 (rfl); have F12 := Lib.hid hF; have T12 := Lib.hid hT; have RA12 := Lib.hid hA; have RD12 := Lib.hid hD; have R12 := Lib.hid hO; clear hown hgr hF hT hA hD hO F11 T11 RA11 RD11 R11)
  clear b0 b1 b2 b3 b4' b5 b6 b7 b8 b9
  obtain ⟨b0, b1, b2, b3, b4', b5, b6, b7, b8, b9⟩ := blk10 T12.out
  go_wp2_with fail
  refine (HB5.out _).mono ?_
  rintro e w13 ⟨g13, c13, rfl, hrow, hf⟩
  have F13 := Lib.hid (F12.out.new0 hf)
  have T13 := Lib.hid (T12.out.frm hf (fun x => x))
  have RA13 := Lib.hid (RA12.out.frm hf (fun _ _ x => x))
  have RD13 := Lib.hid (RD12.out.frm hf (fun _ _ x => x))
  have R13 := Lib.hid (R12.out.frm hf (fun x => x))
  have Y13 := Lib.hid hrow.rds
  clear hrow hf F12 T12 RA12 RD12 R12 HB5
  clear b0 b1 b2 b3 b4' b5 b6 b7 b8 b9
  obtain ⟨b0, b1, b2, b3, b4', b5, b6, b7, b8, b9⟩ := blk10 T13.out
  go_upto_region 16 with (at_builtin; refine wpList_append_bytes rfl (.tmp 66) (.tmp 70) rfl w.heap.size _ 16 ([UInt8.ofNat q6, UInt8.ofNat tos] ++ [hiB N, loB N] ++ [hiB id, loB id] ++ [hiB pl, loB pl] ++ [UInt8.ofNat ttl, UInt8.ofNat pro, 0, 0] ++ (b4 src)) rfl R13.out (some ⟨g13, 0, none⟩) 4 c13 (b4 dst) rfl rfl Y13.out (fun h => by cases h) (by omega) F13.out.size ?_; intro V14 w14 hown hgr; obtain ⟨g14, c14, rfl, hF, hT, hA, hD, hO⟩ := out_step F13.out T13.out RA13.out RD13.out HBA.out HBD.out R13.out hown hgr (by omega) 20 (rfl); have F14 := Lib.hid hF; have T14 := Lib.hid hT; have RA14 := Lib.hid hA; have RD14 := Lib.hid hD; have R14 := Lib.hid hO; clear hown hgr hF hT hA hD hO F13 T13 RA13 RD13 R13)
  clear b0 b1 b2 b3 b4' b5 b6 b7 b8 b9
  obtain ⟨b0, b1, b2, b3, b4', b5, b6, b7, b8, b9⟩ := blk10 T14.out
  go_upto_region 17 with (at_builtin; refine wpList_append_bytes rfl (.tmp 72) (.tmp 74) rfl w.heap.size _ 20 ([UInt8.ofNat q6, UInt8.ofNat tos] ++ [hiB N, loB N] ++ [hiB id, loB id] ++ [hiB pl, loB pl] ++ [UInt8.ofNat ttl, UInt8.ofNat pro, 0, 0] ++ (b4 src) ++ (b4 dst)) rfl R14.out A o c opts rfl HO.out RA14.out HA.out (by omega) F14.out.size ?_; intro V15 w15 hown hgr; obtain ⟨g15, c15, rfl, hF, hT, hA, hD, hO⟩ := out_step F14.out T14.out RA14.out RD14.out HBA.out HBD.out R14.out hown hgr (by omega) z (by have := HZ.out; omega); have F15 := Lib.hid hF; have T15 := Lib.hid hT; have RA15 := Lib.hid hA; have RD15 := Lib.hid hD; have R15 := Lib.hid hO; clear hown hgr hF hT hA hD hO F14 T14 RA14 RD14 R14)
  clear b0 b1 b2 b3 b4' b5 b6 b7 b8 b9
  have hlen := Row.len R15.out
  have HF := Lib.hid (refFix_yes w15 (some ⟨g15, 0, none⟩) z c15 ([UInt8.ofNat q6, UInt8.ofNat tos] ++ [hiB N, loB N] ++ [hiB id, loB id] ++ [hiB pl, loB pl] ++ [UInt8.ofNat ttl, UInt8.ofNat pro, 0, 0] ++ (b4 src) ++ (b4 dst) ++ opts) 10 hlen (fun h => by cases h) (by decide) (by have := HZ.out; omega) R15.out.rds (by omega))
  have hbare : [UInt8.ofNat q6, UInt8.ofNat tos] ++ [hiB N, loB N] ++ [hiB id, loB id] ++ [hiB pl, loB pl] ++ [UInt8.ofNat ttl, UInt8.ofNat pro, 0, 0] ++ (b4 src) ++ (b4 dst) ++ opts = bare ⟨tos, id, hdf, hmf, off, ttl, pro, src, dst⟩ opts n := by
    unfold bare first20
    rw [HO.out, HPL.out, show UInt8.ofNat (64 + (20 + o) / 4) = UInt8.ofNat q6 by rw [HQ.out], show 20 + o + n = N from HN.out.symm]
    simp
  rw [hbare] at HF
  clear hlen hbare
  go_wp2_with fail
  refine HF.out.mono ?_
  rintro e w16 ⟨g16, c16, rfl, hrow, hf⟩
  have F16 := Lib.hid (F15.out.new0 hf)
  have RD16 := Lib.hid (RD15.out.frm hf (fun _ _ x => x))
  have R16 := Lib.hid hrow
  have hsz := F15.out.size
  clear hrow hf F15 T15 RA15 RD15 R15 HF
  go_wp2_with (at_builtin; refine wpList_append_bytes rfl (.tmp 81) (.tmp 82) rfl w15.heap.size _ z (fixOf (bare ⟨tos, id, hdf, hmf, off, ttl, pro, src, dst⟩ opts n) 10) rfl R16.out D n k data rfl HDL.out RD16.out HD.out (by omega) (by have := R16.out.cap; have := F16.out.size; omega) ?_; intro V w17 hown hgr)
  rw [show z + n = N by have := HZ.out; have := HN.out; omega] at hown
  obtain ⟨g17, c17, rfl, hrow⟩ := Row.of_own hown (by have := HZ.out; have := HN.out; omega)
  have fr := Frm.of_grown hgr
  have hcap := R16.out.cap
  have hF : Frm No w w17 := F16.out.trans fr (fun i hi h => by
    have h2 := (World.ownsRow.lt R16.out i h).1
    omega)
  have hO0 := own_more hrow hsz
  have hO : Row w17 w.heap.size g17 N c17 (pkt ⟨tos, id, hdf, hmf, off, ttl, pro, src, dst⟩ opts data) := by unfold pkt; rw [HDL.out]; exact hO0
  clear hO0 hrow hown
  go_ret2
  exact ⟨g17, c17, rfl, hO, hF⟩
end Go.Proofs.Ytcclneaabnpbkaa

/- Rc -/
namespace Go.Proofs.Ytcclneaabnpbkaa
open Go.RowKit
attribute [local go_sem] undef

set_option maxRecDepth 100000 in
set_option maxHeartbeats 1000000 in
theorem ref_write_no (w : World) (z0 z1 z4 z5 z6 z7 z8 : Int) (b2 b3 : Bool) (A D : Option Addr) (o c n k : Nat) (ho : o ≤ 140737488355328) (hn : n ≤ 140737488355328) (h4 : -9223372036854775808 ≤ z4 ∧ z4 ≤ 9223372036854775807)
    (hR : rightB o z4 b3 (n : Int) = false) :
    Calls Try.prog 34 #[.agg #[.int .u8 z0, .int .u16 z1, .bool b2, .bool b3, .int .i64 z4, .int .u8 z5, .int .u8 z6, .int .u32 z7, .int .u32 z8, .slice A o c], .slice D n k] w (WroteNo w) := by
  have HR := Lib.hid (fun W => ref_right W z0 z1 z4 z5 z6 z7 z8 b2 b3 A o c (n : Int) ho h4 (by omega))
  rw [hR] at HR
  have T := Lib.hid (Blk.new w 54 #[.int .u8 z0, .int .u16 z1, .bool b2, .bool b3, .int .i64 z4, .int .u8 z5, .int .u8 z6, .int .u32 z7, .int .u32 z8, .slice A o c])
  clear hR h4
  obtain ⟨b0, b1, b2', b3', b4, b5, b6, b7, b8, b9⟩ := blk10 T.out
  go_enter Try.func34, Try.ntmps34
  go_wp2_with fail
  refine (HR.out _).mono ?_
  rintro e w1 ⟨rfl, hf⟩
  have F1 := Lib.hid (((Frm.refl No w).alloc _).new0 hf)
  clear hf b0 b1 b2' b3' b4 b5 b6 b7 b8 b9 T HR
  go_wp2_with fail
  go_ret2
  exact ⟨rfl, F1.out⟩

set_option maxRecDepth 100000 in
set_option maxHeartbeats 8000000 in
theorem ref_write_yes (w : World) (tos id : Nat) (hdf hmf : Bool) (off ttl pro src dst : Nat) (ok : Hd.Ok ⟨tos, id, hdf, hmf, off, ttl, pro, src, dst⟩) (A D : Option Addr) (o c n k : Nat) (opts data : List UInt8) (ho : opts.length = o) (hd : data.length = n) (hr : Rds w A opts) (hdr : Rds w D data) (hc : o ≤ c) (hA : A = none → c = 0) (hD : D = none → k = 0)
    (hR : rightB o (off : Int) hmf (n : Int) = true) (N : Nat) (hN : N = 20 + o + n) :
    Calls Try.prog 34 #[.agg #[.int .u8 (tos : Int), .int .u16 (id : Int), .bool hdf, .bool hmf, .int .i64 (off : Int), .int .u8 (ttl : Int), .int .u8 (pro : Int), .int .u32 (src : Int), .int .u32 (dst : Int), .slice A o c], .slice D n k] w (WroteOk ⟨tos, id, hdf, hmf, off, ttl, pro, src, dst⟩ opts data N w) := by
  obtain ⟨f1, f2, f3, f4, f5, f6⟩ := right_facts hR
  have HR := Lib.hid (fun W => ref_right W (tos : Int) (id : Int) (off : Int) (ttl : Int) (pro : Int) (src : Int) (dst : Int) hdf hmf A o c (n : Int) (by omega) (by omega) (by omega))
  rw [hR] at HR
  have l0 : tos < 256 := ok.tos
  have l1 : id < 65536 := ok.id
  have l2 : off ≤ 65528 := ok.off
  have l3 : ttl < 256 := ok.ttl
  have l4 : pro < 256 := ok.pro
  have l5 : src < 4294967296 := ok.src
  have l6 : dst < 4294967296 := ok.dst
  obtain ⟨z, hz⟩ : ∃ z, z = 20 + o := ⟨_, rfl⟩
  obtain ⟨pl, hpl⟩ : ∃ p, plcOf off hdf hmf = p := ⟨_, rfl⟩
  have hpl2 : pl < 32768 := by rw [← hpl]; unfold plcOf; cases hdf <;> cases hmf <;> simp <;> omega
  have HPL := Lib.hid hpl
  have T := Lib.hid (Blk.new w 54 #[.int .u8 (tos : Int), .int .u16 (id : Int), .bool hdf, .bool hmf, .int .i64 (off : Int), .int .u8 (ttl : Int), .int .u8 (pro : Int), .int .u32 (src : Int), .int .u32 (dst : Int), .slice A o c])
  have e1 : IntKind.i64.wrap (20 + (o : Int)) = (z : Int) := by rw [IntWalk.i64_in] <;> omega
  have HRA := Lib.hid hr
  have HRD := Lib.hid hdr
  have HO := Lib.hid ho
  have HD := Lib.hid hd
  have HA := Lib.hid hA
  have HDN := Lib.hid hD
  have HBA := Lib.hid (fun (h0 : 0 < opts.length) q (hq : blk A = some q) => hr.lt h0 hq)
  have HBD := Lib.hid (fun (h0 : 0 < data.length) q (hq : blk D = some q) => hdr.lt h0 hq)
  have HZ := Lib.hid hz
  have HN := Lib.hid hN
  have zb : z ≤ 60 := by omega
  have nb : n + o ≤ 65515 := by omega
  have ob : o ≤ 40 := by omega
  have HOK := Lib.hid ok
  clear hR f1 f2 f3 f4 f5 f6 hpl ok hr hdr ho hd hA hD hz hN
  obtain ⟨b0, b1, b2, b3, b4, b5, b6, b7, b8, b9⟩ := blk10 T.out
  go_enter Try.func34, Try.ntmps34
  go_wp2_with fail
  refine (HR.out _).mono ?_
  rintro e w1 ⟨rfl, hf⟩
  have F1 := Lib.hid (((Frm.refl No w).alloc _).new0 hf)
  have T1 := Lib.hid (T.out.frm hf (fun x => x))
  have RA1 := Lib.hid (HRA.out.frm F1.out (fun _ _ x => x))
  have RD1 := Lib.hid (HRD.out.frm F1.out (fun _ _ x => x))
  clear hf b0 b1 b2 b3 b4 b5 b6 b7 b8 b9 T HR HRA HRD
  obtain ⟨hb, hhb⟩ : ∃ b, b = w.heap.size := ⟨_, rfl⟩
  rw [← hhb] at T1 ⊢
  have hbl : hb < w1.heap.size := T1.out.lt
  clear hhb
  obtain ⟨b0, b1, b2, b3, b4, b5, b6, b7, b8, b9⟩ := blk10 T1.out
  obtain ⟨x8, hx8, hx8'⟩ : ∃ x : Nat, (off : Int) / 8 = (x : Int) ∧ x = off / 8 := ⟨off / 8, by omega, rfl⟩
  have hx9 : x8 ≤ 8191 := by omega
  have HX := Lib.hid hx8'
  clear hx8'
  cases hdf <;> cases hmf <;> (
    go_upto_region 9 with fail
    exact ref_write_tail w w1 _ _ _ _ _ _ _ _ _ _ _ _ _ _ _ _ _ _ _ _ _ _ _ _ _ _ _ _ _ _ _ _ _ _ _ _ _ _ _ _ _ _ _ _ _ _ _ _ _ _ _ _ _ _ _ _ _ _ _ _ _ _ _ _ _ _ _ _ _ _ _ _ _ _ _ _ _ _ _ _ hb z pl N _ tos id _ _ off ttl pro src dst HOK.out A D o c n k opts data _ (by assumption) HO.out HD.out HA.out HDN.out HBA.out HBD.out HZ.out HN.out ob (by omega) (by have := HN.out; omega) HPL.out hpl2 (by have h1 := HPL.out; have h2 := HX.out; unfold plcOf at h1; simp at h1; omega) F1.out T1.out RA1.out RD1.out)
end Go.Proofs.Ytcclneaabnpbkaa
