/-
  Numbers taken apart into bytes.
-/
import Derived.Test.YtgpnnnjhcjjnmaaJ1
import Derived.Test.YtgpnnnjhcjjnmaaK1
namespace Go.Proofs.Ytgpnnnjhcjjnmaa
open Go.RowKit

/-- The n bytes of x, the most significant one first. -/
def digs : Nat → Nat → List UInt8
  | 0, _ => []
  | n + 1, x => digs n (x / 256) ++ [UInt8.ofNat (x % 256)]
theorem digs_len (n : Nat) : ∀ x, (digs n x).length = n := by
  induction n with
  | zero => intro x; rfl
  | succ n ih => intro x; simp [digs, ih]


theorem fresh_row (w : World) (bs : List UInt8) (n : Nat) (hn : bs.length = n) (hm : n ≤ 140737488355328) (cs : Array Value) (hc : cs = (byts bs).toArray) :
    Fresh w bs (.returned (.slice (some ⟨w.heap.size, 0, none⟩) n n)) (w.alloc (.cells cs 5)) := by
  subst hn hc
  refine ⟨_, rfl, ⟨by simp [byts_len], .inr ⟨w.heap.size, bs.length, _, rfl, Nat.le_refl _, heap_alloc_new w _, Nat.le_refl _, by unfold maxLen; omega, by simp [byts_len], ?_⟩⟩, (Frm.refl _ _).alloc _⟩
  simp [← byts_len bs]

theorem arr1 {a a' : Int} (h : a = a') : #[Value.int .u8 a] = [Value.int .u8 a'].toArray := by rw [h]
theorem arr2 {a a' b b' : Int} (h : a = a') (h2 : b = b') : #[Value.int .u8 a, .int .u8 b] = [Value.int .u8 a', .int .u8 b'].toArray := by rw [h, h2]
theorem arr4 {a a' b b' c c' d d' : Int} (h : a = a') (h2 : b = b') (h3 : c = c') (h4 : d = d') : #[Value.int .u8 a, .int .u8 b, .int .u8 c, .int .u8 d] = [Value.int .u8 a', .int .u8 b', .int .u8 c', .int .u8 d'].toArray := by rw [h, h2, h3, h4]
theorem byt_of (x : Nat) : byt (UInt8.ofNat (x % 256)) = .int .u8 ((x : Int) % 256) := by
  simp [byt]

set_option maxRecDepth 100000 in
set_option maxHeartbeats 400000 in
theorem split8 (w : World) (x : Nat) (hx : x < 256) :
    Calls Try.prog 61 #[.int .u8 (x : Int), .int .i64 1] w (Fresh w (digs 1 x)) := by
  have hmk : ∀ w, (Instr.makeSlice 22 (.int .i64 1) (.int .i64 1)).run Try.prog w = .ok (.slice (some ⟨w.heap.size, 0, none⟩) 1 1) (w.alloc (.cells #[.int .u8 0] 5)) := fun _ => by kernel_rfl
  go_enter Try.func61, Try.ntmps61
  go_wp2
  refine wp_loop_rounds 2 ?_
  rw [rounds_succ]
  go_wp2
  rw [rounds_succ]
  go_wp2
  go_ret
  refine fresh_row w _ _ (digs_len _ _) (by omega) _ ?_
  simp only [digs, byts, List.nil_append, List.map_cons, List.map_nil, byt_of]
  exact arr1 (by omega)

set_option maxRecDepth 100000 in
set_option maxHeartbeats 400000 in
theorem split16 (w : World) (x : Nat) (hx : x < 65536) :
    Calls Try.prog 62 #[.int .u16 (x : Int), .int .i64 2] w (Fresh w (digs 2 x)) := by
  have hmk : ∀ w, (Instr.makeSlice 22 (.int .i64 2) (.int .i64 2)).run Try.prog w = .ok (.slice (some ⟨w.heap.size, 0, none⟩) 2 2) (w.alloc (.cells #[.int .u8 0, .int .u8 0] 5)) := fun _ => by kernel_rfl
  go_enter Try.func62, Try.ntmps62
  go_wp2
  refine wp_loop_rounds 3 ?_
  rw [rounds_succ]
  go_wp2
  rw [rounds_succ]
  go_wp2
  rw [rounds_succ]
  go_wp2
  go_ret
  refine fresh_row w _ _ (digs_len _ _) (by omega) _ ?_
  simp only [digs, byts, List.nil_append, List.cons_append, List.map_cons, List.map_nil, byt_of]
  exact arr2 (by omega) (by omega)

set_option maxRecDepth 100000 in
set_option maxHeartbeats 400000 in
theorem split32 (w : World) (x : Nat) (hx : x < 4294967296) :
    Calls Try.prog 63 #[.int .u32 (x : Int), .int .i64 4] w (Fresh w (digs 4 x)) := by
  have hmk : ∀ w, (Instr.makeSlice 22 (.int .i64 4) (.int .i64 4)).run Try.prog w = .ok (.slice (some ⟨w.heap.size, 0, none⟩) 4 4) (w.alloc (.cells #[.int .u8 0, .int .u8 0, .int .u8 0, .int .u8 0] 5)) := fun _ => by kernel_rfl
  go_enter Try.func63, Try.ntmps63
  go_wp2
  refine wp_loop_rounds 5 ?_
  rw [rounds_succ]
  go_wp2
  rw [rounds_succ]
  go_wp2
  rw [rounds_succ]
  go_wp2
  rw [rounds_succ]
  go_wp2
  rw [rounds_succ]
  go_wp2
  go_ret
  refine fresh_row w _ _ (digs_len _ _) (by omega) _ ?_
  simp only [digs, byts, List.nil_append, List.cons_append, List.map_cons, List.map_nil, byt_of]
  exact arr4 (by omega) (by omega) (by omega) (by omega)

end Go.Proofs.Ytgpnnnjhcjjnmaa
