/-
  csum.Sum, Of, Right; slices.Values over numbers of 16 bits, and Join.
-/
import Derived.Test.YtnokbnggpbjchaaC3
namespace Go.Proofs.Ytnokbnggpbjchaa
open Go.RowKit Go.Shelf

theorem frm_of_below {w w' : World} (h : Below w.heap.size w w') : Frm No w w' := Frm.of_below h (fun i hi h2 => absurd hi (by omega))

theorem Rds.rdB {w w' : World} {A : Option Addr} {bs : List UInt8} (h : Rds w A bs) (hf : Frm No w w') : RdB w'.heap.size w' A bs :=
  ⟨h.frm hf (fun _ _ x => x), fun h0 i hi => by have := h.lt h0 hi; have := hf.size; omega⟩

set_option maxRecDepth 100000 in
theorem sum_any (w : World) (A : Option Addr) (n c : Nat) (bs : List UInt8) (hn : bs.length = n) (hc : n ≤ c) (h : Rds w A bs) (h4 : n ≤ 140737488355328) :
    Calls Try.prog 20 #[.slice A n c] w fun e w' => e = .returned (.int .u16 (sumOf bs : Int)) ∧ Frm No w w' := by
  have H := Lib.hid h
  clear h
  go_enter Try.func20, Try.ntmps20
  go_wp2_with fail
  refine (words_any w A n c).mono ?_
  rintro e w1 ⟨rfl, hw1⟩
  have F1 : Hid (Frm No w w1) := by show Frm No w w1; rw [hw1]; exact (Frm.refl _ _).alloc _
  have hs1 : w.heap.size < w1.heap.size := by rw [hw1]; simp
  have hcell : w1.cell? ⟨w.heap.size, 0, none⟩ = some (.slice A n c) := by
    rw [hw1]
    rw [(Blk.new w 22 #[.slice A n c]).cell 0]
    rfl
  have HT := Lib.hid (callsIn_wide.1 (total_in 5 (by omega) 57 #[.pointer (some ⟨w.heap.size, 0, none⟩)] (enters_of Try.func57 (by kernel_rfl) rfl) (W16 bs) ((n + 1) / 2) (by omega) (by rw [W16_length, hn]; omega) _ w1
    (words_stops 4 (by omega) w.heap.size w1.heap.size A n c bs hn hc w1 hs1 (Nat.le_refl _) hcell (H.out.rdB F1.out))))
  clear hw1 hcell hs1
  go_wp2_with fail
  refine HT.out.mono ?_
  rintro e w2 ⟨rfl, hb⟩
  have F2 := Lib.hid (F1.out.trans (frm_of_below hb) (fun _ _ x => x))
  clear hb HT
  go_wp2
  go_ret
  exact ⟨by rw [addU_W16]; rfl, F2.out⟩

theorem sub16 (s : Nat) (h : s ≤ 65535) : IntKind.u16.wrap (65535 - (s : Int)) = ((65535 - s : Nat) : Int) := by
  have e : IntKind.u16.wrap (65535 - (s : Int)) = (65535 - (s : Int)) % 65536 := rfl
  rw [e]
  omega

def ofOf (bs : List UInt8) : Nat := 65535 - sumOf bs
theorem sumOf_le (bs : List UInt8) : sumOf bs ≤ 65535 := fold_le _

set_option maxRecDepth 100000 in
theorem of_any (w : World) (A : Option Addr) (n c : Nat) (bs : List UInt8) (hn : bs.length = n) (hc : n ≤ c) (h : Rds w A bs) (h4 : n ≤ 140737488355328) :
    Calls Try.prog 26 #[.slice A n c] w fun e w' => e = .returned (.int .u16 (ofOf bs : Int)) ∧ Frm No w w' := by
  have HS := Lib.hid (sum_any w A n c bs hn hc h h4)
  have h1 := sub16 _ (sumOf_le bs)
  have h2 : ofOf bs = 65535 - sumOf bs := rfl
  rw [← h2] at h1
  clear h h2
  go_enter Try.func26, Try.ntmps26
  go_wp2_with fail
  refine HS.out.mono ?_
  rintro e w1 ⟨rfl, hf⟩
  have F1 := Lib.hid hf
  clear hf HS
  go_wp2
  go_ret
  exact ⟨rfl, F1.out⟩

set_option maxRecDepth 100000 in
theorem right_any (w : World) (A : Option Addr) (n c : Nat) (bs : List UInt8) (hn : bs.length = n) (hc : n ≤ c) (h : Rds w A bs) (h4 : n ≤ 140737488355328) :
    Calls Try.prog 15 #[.slice A n c] w fun e w' => e = .returned (.bool (decide (sumOf bs = 65535))) ∧ Frm No w w' := by
  have HS := Lib.hid (sum_any w A n c bs hn hc h h4)
  clear h
  obtain ⟨s, hs⟩ : ∃ s, sumOf bs = s := ⟨_, rfl⟩
  rw [hs] at HS ⊢
  clear hs
  go_enter Try.func15, Try.ntmps15
  go_wp2_with fail
  refine HS.out.mono ?_
  rintro e w1 ⟨rfl, hf⟩
  have F1 := Lib.hid hf
  clear hf HS
  have hd : ((s : Int) == 65535) = decide (s = 65535) := by
    by_cases h : s = 65535
    · subst h; rfl
    · rw [decide_eq_false h]; simp; omega
  go_wp2
  go_ret
  exact ⟨by rw [← hd]; rfl, F1.out⟩

/-- Numbers of 16 bits that a slice reads. -/
def RdW (w : World) (A : Option Addr) (xs : List UInt16) : Prop :=
  0 < xs.length → ∃ ad, A = some ad ∧ ∀ j (h : j < xs.length), w.cell? (ad.add j) = some (.int .u16 (xs[j].toNat : Int))

theorem RdW.at_ {w : World} {A : Option Addr} {xs : List UInt16} (h : RdW w A xs) {k : Nat} (hk : k < xs.length) : ∃ ad, A = some ad ∧ w.cell? (ad.add k) = some (.int .u16 (xs[k].toNat : Int)) := by
  obtain ⟨ad, e, hc⟩ := h (by omega)
  exact ⟨ad, e, hc k hk⟩
theorem RdW.lt {w : World} {A : Option Addr} {xs : List UInt16} (h : RdW w A xs) (h0 : 0 < xs.length) {k : Nat} (hk : blk A = some k) : k < w.heap.size := by
  obtain ⟨ad, e, hc⟩ := h h0
  subst e
  simp only [blk, Option.map_some, Option.some.injEq] at hk
  subst hk
  have := World.block_lt_of_cell? w _ (hc 0 h0)
  rwa [block_of_add] at this
theorem RdW.frm {S : Nat → Prop} {w w' : World} {A : Option Addr} {xs : List UInt16} (h : RdW w A xs) (hf : Frm S w w') (hS : ∀ k, blk A = some k → ¬ S k) : RdW w' A xs := by
  intro h0
  obtain ⟨ad, e, hc⟩ := h h0
  subst e
  refine ⟨ad, rfl, fun j hj => ?_⟩
  have h1 := hc j hj
  rw [hf.cell (World.block_lt_of_cell? w _ h1) (by rw [block_of_add]; exact hS _ rfl)]
  exact h1

def RwB (n₀ : Nat) (w : World) (A : Option Addr) (xs : List UInt16) : Prop := RdW w A xs ∧ (0 < xs.length → ∀ i, blk A = some i → i < n₀)
theorem RwB.below {n₀ : Nat} {w w' : World} {A : Option Addr} {xs : List UInt16} (h : RwB n₀ w A xs) (hb : Below n₀ w w') : RwB n₀ w' A xs := by
  refine ⟨fun h0 => ?_, h.2⟩
  exact h.1.frm (S := fun i => n₀ ≤ i) (Frm.of_below hb (fun i _ hi => hi)) (fun k hk => by have := h.2 h0 k hk; omega) h0
theorem RdW.rwB {w w' : World} {A : Option Addr} {xs : List UInt16} (h : RdW w A xs) (hf : Frm No w w') : RwB w'.heap.size w' A xs :=
  ⟨h.frm hf (fun _ _ x => x), fun h0 i hi => by have := h.lt h0 hi; have := hf.size; omega⟩

attribute [local go_sem] Oper.semAt_some

set_option maxRecDepth 100000 in
theorem values_any (w : World) (A : Option Addr) (n c : Nat) :
    Calls Try.prog 48 #[.slice A n c] w fun e w' => e = .returned (.func (.func 58) #[] #[.pointer (some ⟨w.heap.size, 0, none⟩)]) ∧ w' = w.alloc (.cells #[.slice A n c] 26) := by
  have hmf : ∀ (fn : Fn) (first cap : Array Value) (w : World), (Instr.makeFunc fn first cap).run Try.prog w = .ok (.func fn first cap) w := fun _ _ _ _ => rfl
  go_enter Try.func48, Try.ntmps48
  go_wp2
  go_ret
  exact ⟨rfl, rfl⟩

set_option maxRecDepth 100000 in
set_option maxHeartbeats 1000000 in
theorem values1_in (n : Nat) (hn : 1 ≤ n) (l Bs n₀ : Nat) (A : Option Addr) (m c : Nat) (xs : List UInt16) (hm : xs.length = m) (h4 : m ≤ 140737488355328) (J Jx : List UInt16 → World → Prop)
    (hY : ∀ pre x W, J pre W → pre.length < m → YieldAt Fence.wide (n - 1) Try.prog l #[.int .u16 (x.toNat : Int)] W fun e W' =>
      (e = .returned (.bool true) ∧ J (pre ++ [x]) W' ∧ Below n₀ W W') ∨ (e = .returned (.bool false) ∧ Jx (pre ++ [x]) W'))
    (W : World) (hBs : W.cell? ⟨Bs, 0, none⟩ = some (.slice A m c)) (hR : RwB n₀ W A xs) (h0 : J [] W) :
    CallsIn Fence.wide n Try.prog 58 #[.func (.yield l) #[] #[], .pointer (some ⟨Bs, 0, none⟩)] W fun e W' => (∃ v, e = .returned v) ∧
      ((∃ ys, ys = xs ∧ J ys W') ∨ (∃ pre, pre <+: xs ∧ Jx pre W')) := by
  refine callsIn_of_wp Try.func58 rfl trivial ?_ rfl
  simp only [Try.ntmps58, List.size_toArray, List.length_cons, List.length_nil, Nat.reduceAdd, Nat.reduceSub, Array.replicate_succ, Array.replicate_zero, List.push_toArray, List.append_toArray, List.nil_append, List.cons_append]
  have HR := Lib.hid hR
  clear hR
  gi_wp2
  gi_loopw [7] (fun i wr => ∃ k : Nat, k ≤ m ∧ i = .int .i64 k ∧ Hid (J (xs.take k) wr) ∧ Hid (RwB n₀ wr A xs))
    (fun i _ => m - (intOf i).toNat)
  case atStart => exact ⟨0, Nat.zero_le _, rfl, by show J _ W; simpa using h0, HR⟩
  case round =>
    obtain ⟨k, hk, rfl, HJ, HK⟩ := hrel
    by_cases hlt : k < m
    · have hkx : k < xs.length := by omega
      obtain ⟨ad, rfl, hc⟩ := HK.out.1.at_ hkx
      obtain ⟨fn, tmps, assign, body, hy, hR⟩ := hY _ xs[k] wr HJ.out (by rw [List.length_take]; omega)
      have ht : xs.take (k + 1) = xs.take k ++ [xs[k]] := List.take_succ_eq_append_getElem hkx
      gi_wp2
      refine hR.mono ?_
      rintro e W3 (⟨rfl, hJ3, hk3⟩ | ⟨rfl, hJx3⟩)
      · gi_wp2
        go_roundw
        case rel => exact ⟨k + 1, by omega, by go_num, by show J _ W3; rw [ht]; exact hJ3, HK.out.below hk3⟩
        case measure => simp [intOf]; omega
      · gi_wp2
        refine bodyPost_ret (results_none rfl _ _ _) rfl ?_
        exact ⟨⟨_, rfl⟩, .inr ⟨_, List.take_prefix (k + 1) xs, by rw [ht]; exact hJx3⟩⟩
    · obtain rfl : k = m := by omega
      have ht : xs.take k = xs := List.take_of_length_le (by omega)
      gi_wp2
      go_end0
      exact ⟨⟨_, rfl⟩, .inl ⟨_, ht, HJ.out⟩⟩

theorem values_stops (n : Nat) (hn : 1 ≤ n) (Bs n₀ : Nat) (A : Option Addr) (m c : Nat) (xs : List UInt16) (hm : xs.length = m) (h4 : m ≤ 140737488355328) (w : World) (hBs : Bs < w.heap.size) (hn₀ : n₀ ≤ w.heap.size)
    (hcell : w.cell? ⟨Bs, 0, none⟩ = some (.slice A m c)) (hR : RwB n₀ w A xs) :
    SeqStopsK Fence.wide n Try.prog 58 #[.pointer (some ⟨Bs, 0, none⟩)] (fun x : UInt16 => #[Value.int .u16 (x.toNat : Int)]) (Below n₀) (fun ys => ys = xs) (fun pre => pre <+: xs) m w :=
  fun l J Jx W hW _ _ hY h0 =>
    values1_in n hn l Bs n₀ A m c xs hm h4 J Jx hY W ((hW.cell (p := ⟨Bs, 0, none⟩) hBs).trans hcell) (hR.below (hW.mono hn₀)) h0

set_option maxRecDepth 100000 in
theorem join_any (w : World) (A : Option Addr) (n c : Nat) (xs : List UInt16) (hn : xs.length = n) (h : RdW w A xs) (h4 : n ≤ 140737488355328) :
    Calls Try.prog 22 #[.slice A n c] w fun e w' => e = .returned (.int .u16 (fold (addU xs) : Int)) ∧ Frm No w w' := by
  have H := Lib.hid h
  clear h
  go_enter Try.func22, Try.ntmps22
  go_wp2_with fail
  refine (values_any w A n c).mono ?_
  rintro e w1 ⟨rfl, hw1⟩
  have F1 : Hid (Frm No w w1) := by show Frm No w w1; rw [hw1]; exact (Frm.refl _ _).alloc _
  have hs1 : w.heap.size < w1.heap.size := by rw [hw1]; simp
  have hcell : w1.cell? ⟨w.heap.size, 0, none⟩ = some (.slice A n c) := by
    rw [hw1]
    rw [(Blk.new w 26 #[.slice A n c]).cell 0]
    rfl
  have HT := Lib.hid (callsIn_wide.1 (total_in 5 (by omega) 58 #[.pointer (some ⟨w.heap.size, 0, none⟩)] (enters_of Try.func58 (by kernel_rfl) rfl) xs n h4 (by omega) _ w1
    (values_stops 4 (by omega) w.heap.size w1.heap.size A n c xs hn h4 w1 hs1 (Nat.le_refl _) hcell (H.out.rwB F1.out))))
  clear hw1 hcell hs1
  go_wp2_with fail
  refine HT.out.mono ?_
  rintro e w2 ⟨rfl, hb⟩
  have F2 := Lib.hid (F1.out.trans (frm_of_below hb) (fun _ _ x => x))
  clear hb HT
  go_wp2
  go_ret
  exact ⟨rfl, F2.out⟩
end Go.Proofs.Ytnokbnggpbjchaa
