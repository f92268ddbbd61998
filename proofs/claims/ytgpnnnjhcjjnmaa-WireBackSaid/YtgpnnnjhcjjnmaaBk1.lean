/-
  WireBack: how many bytes a part has.
-/
import Derived.Test.YtgpnnnjhcjjnmaaBk0
namespace Go.Proofs.Ytgpnnnjhcjjnmaa
open Go.RowKit

/-- What size answers. -/
def SizeOf (s : Nat) (w : World) (e : Ending) (w' : World) : Prop := e = .returned (.int .i64 (s : Int)) ∧ Frm No w w'

set_option maxRecDepth 100000 in
set_option maxHeartbeats 1000000 in
theorem size_any (w : World) (p : Pt) (A : Option Addr) (k m c s : Nat) (hkk : p.k = k) (hk : k < 256) (hm : p.bs.length = m) (hs : p.enc.length = s) :
    Calls Try.prog 36 #[.agg #[.int .u8 (k : Int), .int .u32 (p.n : Int), .slice A m c]] w (SizeOf s w) := by
  have h : k % 4 = 0 ∨ k % 4 = 1 ∨ k % 4 = 2 ∨ k % 4 = 3 := by omega
  by_cases hl : m ≤ 40
  · have h1 : (m : Int) ≤ 40 := by omega
    rcases h with h | h | h | h
    · have E : Hid (s = 1) := by
        show s = 1
        rw [← hs]
        rw [Pt.enc0 (by omega), digs_len]
      have q : (k : Int) % 4 = 0 := by omega
      clear h hs hm hkk
      go_enter Try.func36, Try.ntmps36
      go_wp2
      go_ret
      exact ⟨ret_num (by have := E.out; omega), ((Frm.refl No w).alloc _).alloc _⟩
    · have E : Hid (s = 2) := by
        show s = 2
        rw [← hs]
        rw [Pt.enc1 (by omega), digs_len]
      have q : (k : Int) % 4 = 1 := by omega
      clear h hs hm hkk
      go_enter Try.func36, Try.ntmps36
      go_wp2
      go_ret
      exact ⟨ret_num (by have := E.out; omega), ((Frm.refl No w).alloc _).alloc _⟩
    · have E : Hid (s = 4) := by
        show s = 4
        rw [← hs]
        rw [Pt.enc2 (by omega), digs_len]
      have q : (k : Int) % 4 = 2 := by omega
      clear h hs hm hkk
      go_enter Try.func36, Try.ntmps36
      go_wp2
      go_ret
      exact ⟨ret_num (by have := E.out; omega), ((Frm.refl No w).alloc _).alloc _⟩
    · have E : Hid (s = m) := by
        show s = m
        rw [← hs]
        rw [Pt.enc3 (by omega), List.length_take] <;> omega
      have q : (k : Int) % 4 = 3 := by omega
      clear h hs hm hkk
      go_enter Try.func36, Try.ntmps36
      go_wp2
      go_ret
      exact ⟨ret_num (by have := E.out; omega), ((Frm.refl No w).alloc _).alloc _⟩
  · have h1 : ¬ (m : Int) ≤ 40 := by omega
    rcases h with h | h | h | h
    · have E : Hid (s = 1) := by
        show s = 1
        rw [← hs]
        rw [Pt.enc0 (by omega), digs_len]
      have q : (k : Int) % 4 = 0 := by omega
      clear h hs hm hkk
      go_enter Try.func36, Try.ntmps36
      go_wp2
      go_ret
      exact ⟨ret_num (by have := E.out; omega), ((Frm.refl No w).alloc _).alloc _⟩
    · have E : Hid (s = 2) := by
        show s = 2
        rw [← hs]
        rw [Pt.enc1 (by omega), digs_len]
      have q : (k : Int) % 4 = 1 := by omega
      clear h hs hm hkk
      go_enter Try.func36, Try.ntmps36
      go_wp2
      go_ret
      exact ⟨ret_num (by have := E.out; omega), ((Frm.refl No w).alloc _).alloc _⟩
    · have E : Hid (s = 4) := by
        show s = 4
        rw [← hs]
        rw [Pt.enc2 (by omega), digs_len]
      have q : (k : Int) % 4 = 2 := by omega
      clear h hs hm hkk
      go_enter Try.func36, Try.ntmps36
      go_wp2
      go_ret
      exact ⟨ret_num (by have := E.out; omega), ((Frm.refl No w).alloc _).alloc _⟩
    · have E : Hid (s = 40) := by
        show s = 40
        rw [← hs]
        rw [Pt.enc3 (by omega), List.length_take] <;> omega
      have q : (k : Int) % 4 = 3 := by omega
      clear h hs hm hkk
      go_enter Try.func36, Try.ntmps36
      go_wp2
      go_ret
      exact ⟨ret_num (by have := E.out; omega), ((Frm.refl No w).alloc _).alloc _⟩
end Go.Proofs.Ytgpnnnjhcjjnmaa
