/-
  slices.ContainsFunc over bytes: is one of them not 0? What Fix makes, by arithmetic.
-/
import Derived.Test.YtnokbnggpbjchaaA1
import Derived.Test.YtnokbnggpbjchaaAp
namespace Go.Proofs.Ytnokbnggpbjchaa
open Go.RowKit

set_option maxRecDepth 100000 in
theorem nz19 (w : World) (x : UInt8) : Calls Try.prog 19 #[.int .u8 (x.toNat : Int)] w fun e w' => e = .returned (.bool (decide (x ≠ 0))) ∧ w = w' := by
  have hd : ((x.toNat : Int) != 0) = decide (x ≠ 0) := by
    by_cases h : x = 0
    · subst h; rfl
    · rw [decide_eq_true h]
      have : x.toNat ≠ 0 := fun h2 => h (UInt8.toNat_inj.1 h2)
      simp
      omega
  go_enter Try.func19, Try.ntmps19
  go_wp2
  go_ret
  exact ⟨by show Ending.returned (Value.bool (!decide (x = 0))) = _; simp, rfl⟩

def Found (xs : List UInt8) (w : World) (e : Ending) (w' : World) : Prop :=
  ∃ z : Int, e = .returned (.int .i64 z) ∧ ((0 ≤ z ∧ ¬ ∀ x ∈ xs, x = 0) ∨ (z = -1 ∧ ∀ x ∈ xs, x = 0)) ∧ ∃ m, w' = w.drewN m

set_option maxRecDepth 100000 in
set_option maxHeartbeats 1000000 in
theorem index19 (w : World) (A : Option Addr) (n c : Nat) (xs : List UInt8) (hn : xs.length = n) (h : Rds w A xs) (h4 : n ≤ 140737488355328) :
    Calls Try.prog 44 #[.slice A n c, .func (.func 19) #[] #[]] w (Found xs w) := by
  go_enter Try.func44, Try.ntmps44
  go_wp2
  go_loopw [8] (fun i wr => ∃ j m : Nat, j ≤ n ∧ i = .int .i64 j ∧ wr = w.drewN m ∧ Hid (∀ k (h1 : k < xs.length), k < j → xs[k] = 0)) (fun i _ => n - (intOf i).toNat)
  case atStart => exact ⟨0, 0, Nat.zero_le _, rfl, rfl, fun _ _ h => absurd h (by omega)⟩
  case round =>
    obtain ⟨j, m, hj, rfl, rfl, HP⟩ := hrel
    by_cases hlt : j < n
    · have hjx : j < xs.length := by omega
      obtain ⟨ad, rfl, hc⟩ := h.at_ hjx
      have HZ := Lib.hid (nz19 (w.drewN m) xs[j])
      by_cases hz : xs[j] = 0
      · rw [show decide (xs[j] ≠ 0) = false from decide_eq_false (fun h => h hz)] at HZ
        have HE := Lib.hid hz
        clear hz
        go_wp2_with fail
        refine HZ.out.mono ?_
        rintro e w' ⟨rfl, rfl⟩
        go_wp2
        go_roundw
        case rel => exact ⟨j + 1, _, by omega, by go_num, rfl, fun k h1 hk => by
          rcases Nat.lt_or_ge k j with h4 | h4
          · exact HP k h1 h4
          · obtain rfl : k = j := by omega
            exact HE.out⟩
        case measure => simp [intOf]; omega
      · rw [show decide (xs[j] ≠ 0) = true from decide_eq_true hz] at HZ
        have HE := Lib.hid hz
        clear hz
        go_wp2_with fail
        refine HZ.out.mono ?_
        rintro e w' ⟨rfl, rfl⟩
        go_wp2
        go_ret
        exact ⟨_, rfl, .inl ⟨by omega, fun h => HE.out (h _ (List.getElem_mem hjx))⟩, _, rfl⟩
    · go_wp2
      go_ret
      refine ⟨_, rfl, .inr ⟨rfl, fun x hx => ?_⟩, _, rfl⟩
      obtain ⟨k, hk, rfl⟩ := List.getElem_of_mem hx
      exact HP k hk (by omega)

set_option maxRecDepth 100000 in
theorem contains19 (w : World) (A : Option Addr) (n c : Nat) (xs : List UInt8) (hn : xs.length = n) (h : Rds w A xs) (h4 : n ≤ 140737488355328) :
    Calls Try.prog 18 #[.slice A n c, .func (.func 19) #[] #[]] w fun e w' => e = .returned (.bool (decide (wsum xs ≠ 0))) ∧ ∃ m, w' = w.drewN m := by
  have HI := Lib.hid (index19 w A n c xs hn h h4)
  clear h
  go_enter Try.func18, Try.ntmps18
  go_wp2_with fail
  refine HI.out.mono ?_
  rintro e w' ⟨z, rfl, hz, m, rfl⟩
  rcases hz with ⟨h0, h1⟩ | ⟨rfl, h1⟩
  · rw [← wsum_zero] at h1
    have g0 : decide (0 ≤ z) = true := decide_eq_true h0
    have H1 := Lib.hid h1
    clear h1
    go_wp2
    go_ret
    exact ⟨by rw [decide_eq_true H1.out]; rfl, m, rfl⟩
  · rw [← wsum_zero] at h1
    have H1 := Lib.hid h1
    clear h1
    go_wp2
    go_ret
    exact ⟨by rw [decide_eq_false (fun h => h H1.out)]; rfl, m, rfl⟩

theorem fixOf_sum (bs : List UInt8) (i : Nat) (hi : i % 2 = 0) (h : i + 1 < bs.length) : sumOf (fixOf bs i) = 65535 := by
  have hz : hiB 0 = 0 := rfl
  have hz2 : loB 0 = 0 := rfl
  unfold fixOf
  rw [hz, hz2]
  obtain ⟨o, ho⟩ : ∃ o, ofOf (putAt bs i 0 0) = o := ⟨_, rfl⟩
  rw [ho]
  unfold ofOf sumOf at ho
  unfold sumOf
  rw [putAt_sum _ _ _ _ hi h] at ho ⊢
  rw [word_hi_lo o (by omega)]
  have e0 : word 0 0 = 0 := rfl
  rw [e0] at ho
  obtain ⟨T, hT⟩ : ∃ T, wsum (bs.take i) + 0 + wsum (bs.drop (i + 2)) = T := ⟨_, rfl⟩
  rw [hT] at ho
  rw [show wsum (bs.take i) + o + wsum (bs.drop (i + 2)) = T + o from by omega, fold_all]
  have h1 := fold_mod T
  have h2 := fold_zero T
  have h3 := fold_le T
  omega
theorem fixOf_take (bs : List UInt8) (i : Nat) : (fixOf bs i).take i = bs.take i := putAt_take _ _ _ _
theorem fixOf_drop (bs : List UInt8) (i : Nat) : (fixOf bs i).drop (i + 2) = bs.drop (i + 2) := putAt_drop _ _ _ _
theorem fixOf_length (bs : List UInt8) (i : Nat) : (fixOf bs i).length = bs.length := putAt_length _ _ _ _

def sameW (x y : Nat) : Bool := decide (x = y) || (decide (x = 0) && decide (y = 65535)) || (decide (x = 65535) && decide (y = 0))
/-- One word of right bytes replaced by another one. -/
theorem fixed_last (F : List UInt8) (k y : Nat) (hF : sumOf F = 65535) (hk : k % 2 = 0) (h : k + 1 < F.length) (hy : y < 65536) :
    decide (sumOf (putAt F k (hiB y) (loB y)) = 65535) = (sameW (word F[k] F[k + 1]) y && decide (wsum (putAt F k (hiB y) (loB y)) ≠ 0)) := by
  have hx := word_lt F[k] F[k + 1]
  unfold sumOf at hF ⊢
  rw [fold_all] at hF
  rw [wsum_split F k hk h] at hF
  have e := putAt_sum F k (hiB y) (loB y) hk h
  rw [word_hi_lo y hy] at e
  obtain ⟨S, hS⟩ : ∃ S, wsum (putAt F k (hiB y) (loB y)) = S := ⟨_, rfl⟩
  rw [hS] at e ⊢
  have ha := fold_all S
  obtain ⟨x, hxx⟩ : ∃ x, word F[k] F[k + 1] = x := ⟨_, rfl⟩
  rw [hxx] at hF hx ⊢
  unfold sameW
  by_cases h1 : fold S = 65535
  · rw [decide_eq_true h1]
    have h2 := ha.1 h1
    by_cases hxy : x = y
    · simp [hxy, h2.1]
    · have : (x = 0 ∧ y = 65535) ∨ (x = 65535 ∧ y = 0) := by omega
      rcases this with ⟨rfl, rfl⟩ | ⟨rfl, rfl⟩ <;> simp [h2.1]
  · rw [decide_eq_false h1]
    have h2 : ¬ (S ≠ 0 ∧ S % 65535 = 0) := fun h => h1 (ha.2 h)
    by_cases h3 : S = 0
    · simp [h3]
    · have n1 : ¬ x = y := by omega
      have n2 : ¬ (x = 0 ∧ y = 65535) := by omega
      have n3 : ¬ (x = 65535 ∧ y = 0) := by omega
      simp [n1, h3]
      exact ⟨fun a b => n2 ⟨a, b⟩, fun a b => n3 ⟨a, b⟩⟩

theorem wpList_append_bytes {ops : Array Oper} {rest : List Oper} {o : Oper} {a : Act} {w : World} {Q : Exit → Act → World → Prop} (hgd : o.guard = none) (s x : Operand)
    (ho : o.op = .call { callee := .builtin .append, args := #[s, x], argTypes := #[22, 22] })
    (base : Nat) (v : Value) (n : Nat) (xs : List UInt8) (hs : a.eval s = v) (hown : w.ownsRow base 5 1 v n (byts xs))
    (A : Option Addr) (m c : Nat) (ys : List UInt8) (hx : a.eval x = .slice A m c) (hm : ys.length = m) (hr : Rds w A ys) (hnil : A = none → c = 0)
    (hbytes : n + m ≤ 140737488355328) (hbase : base ≤ w.heap.size)
    (h : ∀ v' w', w'.ownsRow base 5 1 v' (n + m) (byts (xs ++ ys)) → w.grownBy w' v.ownBlock → wpList Try.prog ops Q rest (a.put o.dst v') w') : wpList Try.prog ops Q (o :: rest) a w := by
  refine wpList_plain hgd fun K hK => ?_
  have hw : Region.wanted o (yielded ops a.tmps) = true := by simp [Region.wanted, hgd]
  have := step_append_bytes (ops := ops) (K := K) (Q := Q) (E := True) hgd s x ho base v n xs hs hown A m c ys hx hm hr hnil hbytes hbase (fun v' w' h1 h2 => hK _ _ (h v' w' h1 h2))
  rwa [if_pos hw] at this
end Go.Proofs.Ytnokbnggpbjchaa
