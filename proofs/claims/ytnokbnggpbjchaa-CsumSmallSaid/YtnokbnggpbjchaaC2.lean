/-
  The iterator over the words of some bytes (csum.words' closure): for every loop body that keeps what lay below.
-/
import Derived.Test.YtnokbnggpbjchaaC1
import Derived.Test.YtnokbnggpbjchaaStill
namespace Go.Proofs.Ytnokbnggpbjchaa
open Go.RowKit Go.Shelf
attribute [local go_sem] Oper.semAt_some
attribute [local irreducible] wpStill

def lenOf : Value → Nat
  | .slice _ m _ => m
  | _ => 0

theorem abides_drew {β : Type} {B : Nat} {J : β → World → Prop} (h : AbidesFrom B J) {s : β} {w : World} (hj : J s w) : J s w.drew :=
  h s w w.drew none hj ⟨rfl, rfl, rfl, Nat.le_refl _, fun _ _ _ => rfl⟩ (fun r e => by cases e)

theorem conv16 (a : UInt8) : IntKind.u16.wrap (a.toNat : Int) = a.toNat := by
  have := a.toNat_lt
  have e : IntKind.u16.wrap (a.toNat : Int) = (a.toNat : Int) % 65536 := rfl
  rw [e]
  omega
theorem shl16 (a : UInt8) : IntKind.u16.wrap ((a.toNat : Int) * 256) = a.toNat * 256 := by
  have := a.toNat_lt
  have e : IntKind.u16.wrap ((a.toNat : Int) * 256) = ((a.toNat : Int) * 256) % 65536 := rfl
  rw [e]
  omega

theorem or_word' (a b : UInt8) : bits BinOp.or IntKind.u16 ((a.toNat : Int) * 256) (b.toNat : Int) = (word a b : Int) := by
  have := or_word a b
  have ha := a.toNat_lt
  rwa [show (a.toNat : Int) * 256 % 65536 = (a.toNat : Int) * 256 from by omega] at this

set_option maxRecDepth 100000 in
set_option maxHeartbeats 1000000 in
theorem words1_in (n : Nat) (hn : 1 ≤ n) (l Bs n₀ : Nat) (A : Option Addr) (m c B : Nat) (bs : List UInt8) (hm : bs.length = m) (hc : m ≤ c) (J Jx : List UInt16 → World → Prop) (hJ : AbidesFrom B J)
    (hY : ∀ pre x W, J pre W → pre.length < (m + 1) / 2 → YieldAt Fence.wide (n - 1) Try.prog l #[.int .u16 (x.toNat : Int)] W fun e W' =>
      (e = .returned (.bool true) ∧ J (pre ++ [x]) W' ∧ Below n₀ W W') ∨ (e = .returned (.bool false) ∧ Jx (pre ++ [x]) W'))
    (W : World) (hBs : W.cell? ⟨Bs, 0, none⟩ = some (.slice A m c)) (hR : RdB n₀ W A bs) (h0 : J [] W) :
    CallsIn Fence.wide n Try.prog 57 #[.func (.yield l) #[] #[], .pointer (some ⟨Bs, 0, none⟩)] W fun e W' => (∃ v, e = .returned v) ∧
      ((∃ ys, ys = W16 bs ∧ J ys W') ∨ (∃ pre, pre <+: W16 bs ∧ Jx pre W')) := by
  refine callsIn_of_wp Try.func57 rfl trivial ?_ rfl
  simp only [Try.ntmps57, List.size_toArray, List.length_cons, List.length_nil, Nat.reduceAdd, Nat.reduceSub, Array.replicate_succ, Array.replicate_zero, List.push_toArray, List.append_toArray, List.nil_append, List.cons_append]
  have HR := Lib.hid hR
  have HJ := Lib.hid hJ
  clear hR hJ
  gi_wp2
  gi_loopw [3] (fun r wr => ∃ (k m' c' : Nat) (A' : Option Addr) (cs : List UInt8), r = .slice A' m' c' ∧ cs.length = m' ∧ m' ≤ c' ∧ Hid (RdB n₀ wr A' cs) ∧ (W16 bs).drop k = W16 cs ∧ Hid (J ((W16 bs).take k) wr))
    (fun r _ => lenOf r)
  case atStart => exact ⟨0, m, c, A, bs, rfl, hm, hc, HR, rfl, by show J _ W; simpa using h0⟩
  case round =>
    obtain ⟨k, m', c', A', cs, rfl, hm', hc', HR', hk, HJ'⟩ := hrel
    have HD := Lib.hid (abides_drew HJ.out HJ'.out)
    cases cs with
    | nil =>
      obtain rfl : m' = 0 := hm'.symm
      have ht : W16 bs = (W16 bs).take k := by
        have := List.take_append_drop k (W16 bs)
        rw [hk] at this
        simpa [W16, wordsOf] using this.symm
      gi_wp2
      refine wpIn_region_still_tail 15 (by kernel_rfl) (by kernel_rfl) ?_
      simp only [List.take_succ_cons, List.take_zero, List.drop_succ_cons, List.drop_zero]
      iterate 15 still_step
      refine wpStill_nil ?_
      gi_wp2
      all_goals
        refine ⟨fun _ h => (by cases h), ?_⟩
        gi_wp2
        go_end0
        exact ⟨⟨_, rfl⟩, .inl ⟨_, ht.symm, HD.out⟩⟩
    | cons a cs =>
      cases cs with
      | nil =>
        obtain rfl : m' = 1 := hm'.symm
        obtain ⟨ad, rfl, hc0⟩ := HR'.out.1.at_ (k := 0) (by simp)
        have hc1 : wr.cell? ad = some (.int .u8 (a.toNat : Int)) := hc0
        gi_wp2
        refine wpIn_region_still_tail 15 (by kernel_rfl) (by kernel_rfl) ?_
        simp only [List.take_succ_cons, List.take_zero, List.drop_succ_cons, List.drop_zero]
        iterate 15 still_step
        refine wpStill_nil ?_
        have hlen : ((W16 bs).take k).length < (m + 1) / 2 := by
          have h1 := congrArg List.length hk
          rw [List.length_drop, W16_length, W16_length, hm] at h1
          rw [List.length_take, W16_length, hm]
          simp at h1
          omega
        obtain ⟨fn, tmps, assign, body, hy, hRr⟩ := hY _ (UInt16.ofNat (word a 0)) wr.drew HD.out hlen
        have hz : (((UInt16.ofNat (word a 0)).toNat : Nat) : Int) = (a.toNat : Int) * 256 := by
          rw [ofNat_word]
          unfold word
          simp
        have c1 := conv16 a
        have s1 := shl16 a
        rw [hz] at hy
        have ht : W16 bs = (W16 bs).take k ++ [UInt16.ofNat (word a 0)] := by
          have := List.take_append_drop k (W16 bs)
          rw [hk, W16_one] at this
          exact this.symm
        gi_wp2
        all_goals
          refine ⟨fun _ h => (by cases h), ?_⟩
          gi_wp2
          refine hRr.mono ?_
          rintro e W3 (⟨rfl, hJ3, _⟩ | ⟨rfl, hJx3⟩)
          · gi_wp2
            go_end0
            exact ⟨⟨_, rfl⟩, .inl ⟨_, ht.symm, hJ3⟩⟩
          · gi_wp2
            go_end0
            exact ⟨⟨_, rfl⟩, .inr ⟨_, ⟨[], by rw [List.append_nil]; exact ht.symm⟩, hJx3⟩⟩
      | cons b r =>
        obtain ⟨q, rfl⟩ : ∃ q, m' = q + 2 := ⟨r.length, by rw [← hm']; rfl⟩
        obtain ⟨ad, rfl, hc0⟩ := HR'.out.1.at_ (k := 0) (by simp)
        have hc1 : wr.cell? ad = some (.int .u8 (a.toNat : Int)) := hc0
        obtain ⟨ad', he, hc2⟩ := HR'.out.1.at_ (k := 1) (by simp)
        injection he with he
        subst he
        have hc3 : wr.cell? ⟨ad.block, ad.off + 1, none⟩ = some (.int .u8 (b.toNat : Int)) := hc2
        have c1 := conv16 a
        have c2 := conv16 b
        have s1 := shl16 a
        have g1 : (1 : Int) < ((q + 2 : Nat) : Int) := by omega
        have g2 : (1 : Int) < (q : Int) + 2 := by omega
        have g3 : (0 : Int) < (q : Int) + 2 := by omega
        gi_wp2
        refine wpIn_region_still_tail 15 (by kernel_rfl) (by kernel_rfl) ?_
        simp only [List.take_succ_cons, List.take_zero, List.drop_succ_cons, List.drop_zero]
        iterate 15 still_step
        refine wpStill_nil ?_
        have hlen : ((W16 bs).take k).length < (m + 1) / 2 := by
          have h1 := congrArg List.length hk
          rw [List.length_drop, W16_length, W16_length, hm] at h1
          rw [List.length_take, W16_length, hm]
          simp at h1
          omega
        obtain ⟨fn, tmps, assign, body, hy, hRr⟩ := hY _ (UInt16.ofNat (word a b)) wr.drew HD.out hlen
        have hz : (((UInt16.ofNat (word a b)).toNat : Nat) : Int) = bits BinOp.or IntKind.u16 ((a.toNat : Int) * 256) (b.toNat : Int) := by
          rw [ofNat_word, or_word']
        rw [hz] at hy
        have ht : (W16 bs).take (k + 1) = (W16 bs).take k ++ [UInt16.ofNat (word a b)] := take_next (by rw [hk, W16_two])
        have hp : (W16 bs).take (k + 1) <+: W16 bs := List.take_prefix _ _
        have hk2 : (W16 bs).drop (k + 1) = W16 r := by
          rw [show k + 1 = k + 1 from rfl, ← List.drop_drop, hk, W16_two]
          rfl
        have q1 : (2 : Int) ≤ (q : Int) + 2 := by omega
        have q2 : (q : Int) + 2 ≤ c' := by omega
        have q3 : (2 : Int) ≤ c' := by omega
        gi_wp2
        refine hRr.mono ?_
        rintro e W3 (⟨rfl, hJ3, hb3⟩ | ⟨rfl, hJx3⟩)
        · have HR3 := Lib.hid (HR'.out.below (Below.trans (Below.refl n₀ wr).drew hb3))
          gi_wp2
          have hl2 : r.length = q := by simp at hm'; omega
          have hR4 : RdB n₀ W3 (if c' = 2 then some ad else some ⟨ad.block, ad.off + 2, none⟩) r := by
            refine ⟨HR3.out.1.drop 2 c' (by rw [hm']; exact hc') _ rfl, fun _ i hi => HR3.out.2 (by simp) i ?_⟩
            split at hi <;> exact hi
          exact ⟨⟨k + 1, q, c' - 2, _, r, rfl, hl2, by omega, hR4, hk2, by show J _ W3; rw [ht]; exact hJ3⟩, by show q < q + 2; omega⟩
        · gi_wp2
          go_end0
          exact ⟨⟨_, rfl⟩, .inr ⟨_, hp, by rw [ht]; exact hJx3⟩⟩

/-- csum.words hands back a value that yields the words, in their order; or the first of them. -/
theorem words_stops (n : Nat) (hn : 1 ≤ n) (Bs n₀ : Nat) (A : Option Addr) (m c : Nat) (bs : List UInt8) (hm : bs.length = m) (hc : m ≤ c) (w : World) (hBs : Bs < w.heap.size) (hn₀ : n₀ ≤ w.heap.size)
    (hcell : w.cell? ⟨Bs, 0, none⟩ = some (.slice A m c)) (hR : RdB n₀ w A bs) :
    SeqStopsK Fence.wide n Try.prog 57 #[.pointer (some ⟨Bs, 0, none⟩)] (fun x : UInt16 => #[Value.int .u16 (x.toNat : Int)]) (Below n₀) (fun ys => ys = W16 bs) (fun pre => pre <+: W16 bs) ((m + 1) / 2) w :=
  fun l J Jx W hW hJ _ hY h0 =>
    words1_in n hn l Bs n₀ A m c W.heap.size bs hm hc J Jx hJ hY W ((hW.cell (p := ⟨Bs, 0, none⟩) hBs).trans hcell) (hR.below (hW.mono hn₀)) h0
end Go.Proofs.Ytnokbnggpbjchaa
