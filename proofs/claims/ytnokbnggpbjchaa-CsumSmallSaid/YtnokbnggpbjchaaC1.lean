/-
  The words of some bytes are yielded: csum.words, and what it hands back; fold.
-/
import Derived.Test.YtnokbnggpbjchaaBase
import Derived.Test.YtnokbnggpbjchaaRows
import Derived.Test.YtnokbnggpbjchaaMath
import Derived.RangeFuncNested
import Derived.RangeFuncBound
import Derived.RangeFuncCalls
import Derived.RangeFuncLeaves
import Derived.RangeFuncBox
import Derived.Shelf.Abstract
import Derived.OwnWalkIn
import Derived.TacticsInMore
import Derived.LoopNIn
import Derived.LoopIn
namespace Go.Proofs.Ytnokbnggpbjchaa
open Go.RowKit Go.Shelf
attribute [local go_sem] Oper.semAt_some

set_option maxRecDepth 100000 in
theorem fold_any (w : World) (s : Nat) (z : Int) (hz : z = s) (hs : s < 18446744073709551616) : Calls Try.prog 56 #[.int .u64 z] w fun e w' => e = .returned (.int .u16 (fold s : Int)) ∧ w = w' := by
  by_cases h0 : s = 0
  · subst h0 hz
    go_enter Try.func56, Try.ntmps56
    go_wp2
    go_ret
    exact ⟨rfl, rfl⟩
  · have hf : fold s = 1 + (s - 1) % 65535 := by unfold fold; rw [if_neg h0]
    have e0 : ¬ z = 0 := by omega
    obtain ⟨t, ht⟩ : ∃ t : Nat, t = s - 1 := ⟨_, rfl⟩
    have e1 : IntKind.u64.wrap (z - 1) = t := by
      have e : IntKind.u64.wrap (z - 1) = (z - 1) % 18446744073709551616 := rfl
      rw [e]
      omega
    obtain ⟨m, hm, hm2⟩ : ∃ m : Nat, (t : Int) % 65535 = m ∧ m = t % 65535 := ⟨t % 65535, by omega, rfl⟩
    have e3 : IntKind.u64.wrap (1 + (m : Int)) = 1 + m := by
      have e : IntKind.u64.wrap (1 + (m : Int)) = (1 + (m : Int)) % 18446744073709551616 := rfl
      rw [e]
      omega
    have e4 : IntKind.u16.wrap (1 + (m : Int)) = 1 + m := by
      have e : IntKind.u16.wrap (1 + (m : Int)) = (1 + (m : Int)) % 65536 := rfl
      rw [e]
      omega
    have hr : (fold s : Int) = 1 + m := by rw [hf, ← ht, ← hm2]; simp
    rw [hr]
    clear hf hs hz ht hm2 hr
    go_enter Try.func56, Try.ntmps56
    go_wp2
    go_ret
    exact ⟨rfl, rfl⟩

theorem words_any (w : World) (A : Option Addr) (n c : Nat) :
    Calls Try.prog 46 #[.slice A n c] w fun e w' => e = .returned (.func (.func 57) #[] #[.pointer (some ⟨w.heap.size, 0, none⟩)]) ∧ w' = w.alloc (.cells #[.slice A n c] 22) := by
  have hmf : ∀ (fn : Fn) (first cap : Array Value) (w : World), (Instr.makeFunc fn first cap).run Try.prog w = .ok (.func fn first cap) w := fun _ _ _ _ => rfl
  go_enter Try.func46, Try.ntmps46
  go_wp2
  go_ret
  exact ⟨rfl, rfl⟩

/-- Bytes of a slice that lie below n₀. -/
def RdB (n₀ : Nat) (w : World) (A : Option Addr) (bs : List UInt8) : Prop := Rds w A bs ∧ (0 < bs.length → ∀ i, blk A = some i → i < n₀)

theorem RdB.below {n₀ : Nat} {w w' : World} {A : Option Addr} {bs : List UInt8} (h : RdB n₀ w A bs) (hb : Below n₀ w w') : RdB n₀ w' A bs := by
  refine ⟨fun h0 => ?_, h.2⟩
  exact h.1.frm (S := fun i => n₀ ≤ i) (Frm.of_below hb (fun i _ hi => hi)) (fun k hk => by have := h.2 h0 k hk; omega) h0

def W16 (bs : List UInt8) : List UInt16 := (wordsOf bs).map UInt16.ofNat
theorem W16_length (bs : List UInt8) : (W16 bs).length = (bs.length + 1) / 2 := by rw [W16, List.length_map, wordsOf_length]
theorem ofNat_word (a b : UInt8) : (UInt16.ofNat (word a b)).toNat = word a b := by
  have := word_lt a b
  rw [UInt16.toNat_ofNat']
  omega
theorem W16_drop : ∀ (k : Nat) (bs : List UInt8), 2 * k ≤ bs.length → (W16 bs).drop k = W16 (bs.drop (2 * k))
  | 0, bs, _ => by simp
  | k + 1, [], h => by simp at h
  | k + 1, [a], h => by simp at h; omega
  | k + 1, a :: b :: r, h => by
    have := W16_drop k r (by simp at h; omega)
    rw [show 2 * (k + 1) = 2 * k + 1 + 1 from by omega]
    simpa [W16, wordsOf] using this
theorem W16_two (a b : UInt8) (r : List UInt8) : W16 (a :: b :: r) = UInt16.ofNat (word a b) :: W16 r := rfl
theorem W16_one (a : UInt8) : W16 [a] = [UInt16.ofNat (word a 0)] := rfl
theorem take_next {l : List UInt16} {k : Nat} {x : UInt16} {r : List UInt16} (h : l.drop k = x :: r) : l.take (k + 1) = l.take k ++ [x] := by
  have hk : k < l.length := by
    rcases Nat.lt_or_ge k l.length with h1 | h1
    · exact h1
    · rw [List.drop_eq_nil_of_le h1] at h; cases h
  have h2 : l[k] = x := by
    have h3 := List.getElem_cons_drop hk
    rw [h] at h3
    injection h3
  rw [List.take_succ_eq_append_getElem hk, h2]

theorem or_word (a b : UInt8) : bits BinOp.or IntKind.u16 ((a.toNat : Int) * 256 % 65536) (b.toNat : Int) = (word a b : Int) := by
  have ha := a.toNat_lt
  have hb := b.toNat_lt
  have e1 : (a.toNat : Int) * 256 % 65536 = ((a.toNat * 256 : Nat) : Int) := by omega
  rw [e1, u16_or_nat _ _ (by omega) (by omega)]
  have h3 := Nat.two_pow_add_eq_or_of_lt (i := 8) (b := b.toNat) (by omega) a.toNat
  rw [Nat.mul_comm (2 ^ 8)] at h3
  rw [← h3, word]
end Go.Proofs.Ytnokbnggpbjchaa
