/-
  CsumWrong answers true: indices and lengths that there are not are rejected. For every slice of bytes, every integer and every number.
-/
import Derived.Test.YtnokbnggpbjchaaA1
import Derived.Test.YtnokbnggpbjchaaM0
import Derived.Lib.QuoteBits
import Derived.LoopN
import Derived.Deep.Cut
import Derived.Deep.CutRange
import Derived.Deep.CutBlock
namespace Go.Proofs.Ytnokbnggpbjchaa
open Go.ChangeShapes Go.WideShapes Go.ChangeAt Go.RowKit

theorem or_odd (k : Int) : bits .or .i64 k 1 % 2 = 1 := by
  have e : bits .or .i64 k 1 = IntKind.i64.wrap ((BitVec.ofInt 64 k ||| BitVec.ofInt 64 1).toNat : Int) := rfl
  have e1 : (BitVec.ofInt 64 (1 : Int)).toNat = 1 := by decide
  rw [e, BitVec.toNat_or, e1, Lib.or_one_nat]
  have hb := (BitVec.ofInt 64 k).isLt
  obtain ⟨N, hN⟩ : ∃ N, (BitVec.ofInt 64 k).toNat / 2 * 2 + 1 = N := ⟨_, rfl⟩
  rw [hN]
  have hN2 : N % 2 = 1 := by omega
  have hN3 : N < 18446744073709551616 := by omega
  by_cases h : N < 9223372036854775808
  · rw [Lib.wrap_i64_small N h]
    omega
  · have e2 : (N : Int) % 2 ^ 64 = N := Int.emod_eq_of_lt (by omega) (by omega)
    simp only [IntKind.wrap, IntKind.bits, IntKind.signed, e2]
    rw [if_pos (by simp; omega)]
    omega

set_option maxRecDepth 100000 in
set_option maxHeartbeats 4000000 in
theorem csumWrong (w : World) (A : Option Addr) (c n : Nat) (k : Int) (x : Int) (hc : n ≤ c) (h4 : n ≤ 140737488355328) :
    Calls Try.prog 10 #[.slice A n c, .int .i64 k, .int .u32 x] w fun e w' => e = .returned (.bool true) ∧ Frm No w w' := by
  obtain ⟨z, hz⟩ : ∃ z, bits .or .i64 k 1 = z := ⟨_, rfl⟩
  have hz2 : z % 2 = 1 := by rw [← hz]; exact or_odd k
  go_enter Try.func10, Try.ntmps10
  go_wp2_with fail
  refine (awake w).mono ?_
  rintro e w1 ⟨rfl, hf⟩
  have F1 := Lib.hid hf
  clear hf
  go_upto_region 3 with fail
  go_cut [0] from 17 to 21 (fun s0 wx => ∃ m : Nat, m ≤ 3000 ∧ m ≤ c ∧ s0 = .slice A m c ∧ w1 = wx)
  case first =>
    by_cases hn : 3000 < n
    · have q0 : (3000 : Int) < n := by omega
      have q1 : (3000 : Int) ≤ c := by omega
      go_wp2_with fail
      all_goals
        go_meet
        exact ⟨3000, by omega, by omega, rfl, rfl⟩
    · have q0 : ¬ (3000 : Int) < n := by omega
      have q1 : (n : Int) ≤ c := by omega
      go_wp2_with fail
      all_goals
        go_meet
        exact ⟨n, by omega, by omega, rfl, rfl⟩
  case rest =>
  obtain ⟨m, hm, hmc, rfl, rfl⟩ := hcut
  clear hc h4
  have q3 : IntKind.i64.wrap ((m : Int) - 1) = m - 1 := by rw [IntWalk.i64_in] <;> omega
  go_upto_region 4 with fail
  go_cut [33, 34, 35] from 22 to 35 (fun s33 s34 s35 wx => ∃ (v1 v3 : Int), s33 = .slice (some ⟨w1.heap.size, 0, none⟩) 4 4 ∧ s34 = .int .i64 4 ∧ s35 = .int .i64 0 ∧
    v1 < 0 ∧ (m : Int) - 2 < v3 ∧ wx = w1.alloc (.cells #[.int .i64 v1, .int .i64 z, .int .i64 v3, .int .i64 (m : Int)] 3))
  case first =>
    go_wp2_with fail
    all_goals
      go_meet
      refine ⟨_, _, rfl, rfl, rfl, ?_, ?_, rfl⟩ <;> omega
  case rest =>
  obtain ⟨v1, v3, rfl, rfl, rfl, hv1, hv3, rfl⟩ := hcut
  have B1 : Hid (Frm No w (w1.alloc (.cells #[.int .i64 v1, .int .i64 z, .int .i64 v3, .int .i64 (m : Int)] 3))) := F1.out.alloc _
  obtain ⟨W, hW⟩ : ∃ W, w1.alloc (.cells #[.int .i64 v1, .int .i64 z, .int .i64 v3, .int .i64 (m : Int)] 3) = W := ⟨_, rfl⟩
  have HB : Hid (Blk W w1.heap.size 3 #[.int .i64 v1, .int .i64 z, .int .i64 v3, .int .i64 (m : Int)]) := by
    show Blk W _ _ _
    rw [← hW]
    exact Blk.new _ _ _
  rw [hW] at B1 ⊢
  obtain ⟨g, hg⟩ : ∃ g, w1.heap.size = g := ⟨_, rfl⟩
  rw [hg] at HB ⊢
  clear hW hg F1
  have c0 : W.cell? ⟨g, 0, none⟩ = some (.int .i64 v1) := (HB.out.cell 0).trans rfl
  have c1 : W.cell? ⟨g, 1, none⟩ = some (.int .i64 z) := (HB.out.cell 1).trans rfl
  have c2 : W.cell? ⟨g, 2, none⟩ = some (.int .i64 v3) := (HB.out.cell 2).trans rfl
  have c3 : W.cell? ⟨g, 3, none⟩ = some (.int .i64 (m : Int)) := (HB.out.cell 3).trans rfl
  clear HB
  go_wp2_with fail
  refine wp_loop_rounds 5 ?_
  rw [rounds_succ]
  go_wp2_with fail
  refine (fix_no W A m c v1 (.inl hv1) (by omega)).mono ?_
  rintro e w2 ⟨rfl, rfl⟩
  go_wp2_with fail
  rw [rounds_succ]
  go_wp2_with fail
  refine (fix_no W A m c z (.inr (.inl (by omega))) (by omega)).mono ?_
  rintro e w2 ⟨rfl, rfl⟩
  go_wp2_with fail
  rw [rounds_succ]
  go_wp2_with fail
  refine (fix_no W A m c v3 (.inr (.inr hv3)) (by omega)).mono ?_
  rintro e w2 ⟨rfl, rfl⟩
  go_wp2_with fail
  rw [rounds_succ]
  go_wp2_with fail
  refine (fix_no W A m c (m : Int) (.inr (.inr (by omega))) (by omega)).mono ?_
  rintro e w2 ⟨rfl, rfl⟩
  go_wp2_with fail
  rw [rounds_succ]
  go_wp2_with fail
  all_goals
    refine wp_loop_rounds 3 ?_
    rw [rounds_succ]
    go_wp2_with fail
    refine (pseudo_no _ x x 6 _ (.inl (by omega))).mono ?_
    rintro e w2 ⟨rfl, rfl⟩
    go_wp2_with fail
    rw [rounds_succ]
    go_wp2_with fail
    refine (pseudo_no _ x x 6 _ (.inr (by omega))).mono ?_
    rintro e w2 ⟨rfl, rfl⟩
    go_wp2_with fail
    rw [rounds_succ]
    go_wp2
    go_ret
    exact ⟨rfl, B1.out.alloc _⟩

set_option maxRecDepth 100000 in
theorem csumWrong_lifted (os : Os) (started : os.Started) (H : Type) (enc : TypeId × Value → H) :
    ReturnsInHanded {} Try.checked os 10 .any (Rows.csumWrongSpec.pre6 enc Try.prog Try.f10 Rows.csumWrongRow.domain false) (Rows.csumWrongSpec.post enc Try.prog Try.f10 false true false false) := by
  refine returnsInHanded_of_change_sized (C := Try.checked) Try.own started (by kernel_rfl) Try.func10
    (ChangeSpec.witness6 (enc := enc) (C := Try.checked) false ⟨#[], #[.slice none 0 0, .int .i64 0, .int .u32 0], []⟩ 8 (by kernel_rfl) (by kernel_rfl) (by kernel_rfl) (by kernel_rfl)) ?_
  intro W base args ds gs before hval0 hW _ hsz0 _
  have hval : ∀ (j : Nat) t v, Try.f10.params[j]? = some t → args[j]? = some v → Value.okWide Try.prog W .any base t v := hval0
  have hW' := hW
  obtain ⟨p, q, hA0, hV, rfl, hfz, hnd⟩ := hW
  have hA : DataW.TrodAll enc Try.prog W 0 (fun _ => true) true Try.f10.params.toList args.toList ds p := hA0
  have hsz : (DataW.weightsEach Try.prog (Try.f10.params.toList ++ Rows.csumWrongSpec.plain.varTypes Try.prog) (ds ++ gs)).all (· ≤ reachBytes) = true := hsz0
  rw [Try.params10] at hA hval hsz
  obtain ⟨v0, v1, v2, d0, d1, d2, p0, p1, p2, rfl, rfl, rfl, h0, h1, h2⟩ := trodAll_three hA
  obtain ⟨rfl, rfl⟩ := trodVars_none hV
  obtain ⟨A, n, c, bs, rfl, hn, hc, hr, hnil, hd⟩ := open_bytes (hval 0 22 v0 rfl rfl) h0
  obtain ⟨k, rfl, rfl, rfl, _⟩ := open_int Try.underlying3 (hval 1 3 v1 rfl rfl) h1
  obtain ⟨x, rfl, rfl, rfl, _⟩ := open_int Try.underlying27 (hval 2 27 v2 rfl rfl) h2
  have hs : n ≤ 140737488355328 := by
    rcases hd with ⟨_, rfl⟩ | ⟨es, sp, rfl, hl⟩
    · omega
    · have := sized_slice hsz (j := 0) (t := 22) (e := 5) rfl rfl Try.underlying22
      rw [show Try.prog.bytesOf 5 = 1 from by kernel_rfl] at this
      unfold reachBytes at this
      omega
  refine (csumWrong W A c n k x hc hs).mono fun e W' ⟨he, hf⟩ => ?_
  subst he
  exact ⟨_, rfl, post_true rfl hW' (by rw [Try.params10]; intro t ht; simp at ht; rcases ht with rfl | rfl | rfl <;> exact ⟨by kernel_rfl, of_decide_eq_true (by kernel_rfl)⟩) rfl rfl rfl rfl rfl (hf.below (Nat.le_refl _) (fun _ h => h.elim))⟩

theorem csumWrong_holds : Rows.CsumWrongSaid :=
  OpenClaim.holds_of_wide 10 Try.f10 rfl rfl rfl rfl rfl rfl rfl ⟨rfl, rfl, rfl, rfl, rfl⟩ rfl rfl rfl rfl rfl (by kernel_rfl) Try.func10 (by kernel_rfl)
    (of_decide_eq_true (by kernel_rfl)) (by unfold Func.isWrapper; first | (rw [if_pos (by decide +kernel)]; kernel_rfl) | (rw [if_neg (by decide +kernel)]; exact ⟨rfl, rfl⟩))
    (fun os started H enc _ => csumWrong_lifted os started H enc)
end Go.Proofs.Ytnokbnggpbjchaa
