/-
  The document's bytes of a number: Bytes.
-/
import Derived.Test.YtgpnnnjhcjjnmaaRf
import Derived.Test.YtgpnnnjhcjjnmaaA1
import Derived.Deep.RegionHeld3
import Derived.Deep.Cut
namespace Go.Proofs.Ytgpnnnjhcjjnmaa
open Go.RowKit

set_option maxRecDepth 100000 in
set_option maxHeartbeats 1000000 in
theorem ref_bytes1 (w : World) (x : Nat) (hx : x < 256) : Calls Try.prog 48 #[.int .i64 (x : Int), .int .i64 1] w (Fresh w (digs 1 x)) := by
  have hmk : ∀ w, (Instr.makeSlice 22 (.int .i64 1) (.int .i64 1)).run Try.prog w = .ok (.slice (some ⟨w.heap.size, 0, none⟩) 1 1) (w.alloc (.cells #[.int .u8 0] 5)) := fun _ => by kernel_rfl
  go_enter Try.func48, Try.ntmps48
  go_wp2
  refine wp_loop_rounds 2 ?_
  rw [rounds_succ]
  go_wp2
  rw [rounds_succ]
  go_wp2
  go_ret
  refine fresh_row w _ _ (digs_len _ _) (by omega) _ ?_
  simp only [digs, byts, List.nil_append, List.map_cons, List.map_nil, byt_of]

set_option maxRecDepth 100000 in
set_option maxHeartbeats 1000000 in
theorem ref_bytes2 (w : World) (x : Nat) (hx : x < 65536) : Calls Try.prog 48 #[.int .i64 (x : Int), .int .i64 2] w (Fresh w (digs 2 x)) := by
  have hmk : ∀ w, (Instr.makeSlice 22 (.int .i64 2) (.int .i64 2)).run Try.prog w = .ok (.slice (some ⟨w.heap.size, 0, none⟩) 2 2) (w.alloc (.cells #[.int .u8 0, .int .u8 0] 5)) := fun _ => by kernel_rfl
  go_enter Try.func48, Try.ntmps48
  go_wp2
  refine wp_loop_rounds 3 ?_
  rw [rounds_succ]
  go_wp2
  rw [rounds_succ]
  go_wp2
  rw [rounds_succ]
  go_wp2
  go_ret
  refine fresh_row w _ _ (digs_len _ _) (by omega) _ ?_
  simp only [digs, byts, List.nil_append, List.map_cons, List.map_nil, byt_of, List.cons_append]
  exact arr2 (by omega) (by omega)

set_option maxRecDepth 100000 in
set_option maxHeartbeats 1000000 in
theorem ref_bytes4 (w : World) (x : Nat) (hx : x < 4294967296) : Calls Try.prog 48 #[.int .i64 (x : Int), .int .i64 4] w (Fresh w (digs 4 x)) := by
  have hmk : ∀ w, (Instr.makeSlice 22 (.int .i64 4) (.int .i64 4)).run Try.prog w = .ok (.slice (some ⟨w.heap.size, 0, none⟩) 4 4) (w.alloc (.cells #[.int .u8 0, .int .u8 0, .int .u8 0, .int .u8 0] 5)) := fun _ => by kernel_rfl
  go_enter Try.func48, Try.ntmps48
  go_wp2
  refine wp_loop_rounds 5 ?_
  rw [rounds_succ]
  go_wp2
  rw [rounds_succ]
  go_wp2
  rw [rounds_succ]
  go_wp2
  rw [rounds_succ]
  go_wp2
  rw [rounds_succ]
  go_wp2
  go_ret
  refine fresh_row w _ _ (digs_len _ _) (by omega) _ ?_
  simp only [digs, byts, List.nil_append, List.map_cons, List.map_nil, byt_of, List.cons_append]
  exact arr4 (by omega) (by omega) (by omega) (by omega)

set_option maxRecDepth 100000 in
set_option maxHeartbeats 2000000 in
theorem ref_zeros_bad (w : World) (m : Nat) (u : Value) (ys : List UInt8) (f : Bool) (hu : w.ownsRow 0 5 1 u ys.length (byts ys)) (hym : ys.length ≤ m) (n : Int) (hn : n < 0 ∨ (m : Int) < n) :
    Calls Try.prog 49 #[.agg #[.int .i64 (m : Int), u, .bool f], .int .i64 n] w (RWDone w m u (if wfits m ys f n = true then ys ++ List.replicate n.toNat 0 else ys) (!wfits m ys f n)) := by
  obtain ⟨U, cu, rfl, -, hsu, -⟩ := Src.of_own hu
  clear hsu
  have hff : wfits m ys f n = false := by
    rcases hn with h | h
    · have : ¬ 0 ≤ n := by omega
      simp [wfits, this]
    · have : ¬ n ≤ (m : Int) - ys.length := by omega
      simp [wfits, this]
  rw [hff, if_neg (by decide), Bool.not_false]
  have HU := Lib.hid hu
  clear hff hu
  by_cases h0 : n < 0
  · go_enter Try.func49, Try.ntmps49
    go_wp2
    refine bodyPost_ret (v := .agg #[.int .i64 (m : Int), .slice U ys.length cu, .bool true]) (by simp [results, Try.results49, go_sem]) rfl ⟨_, rfl, ?_, ?_, fun i hi => .inl hi⟩
    · exact (HU.out.alloc _).alloc _
    · exact ((Frm.refl No w).alloc _).alloc _
  · have h1 : (m : Int) < n := by omega
    clear hn
    go_enter Try.func49, Try.ntmps49
    go_wp2
    refine bodyPost_ret (v := .agg #[.int .i64 (m : Int), .slice U ys.length cu, .bool true]) (by simp [results, Try.results49, go_sem]) rfl ⟨_, rfl, ?_, ?_, fun i hi => .inl hi⟩
    · exact (HU.out.alloc _).alloc _
    · exact ((Frm.refl No w).alloc _).alloc _

set_option maxRecDepth 100000 in
set_option maxHeartbeats 4000000 in
theorem ref_zeros_ok (w : World) (m : Nat) (u : Value) (ys zs : List UInt8) (f f2 : Bool) (hu : w.ownsRow 0 5 1 u ys.length (byts ys)) (hym : ys.length ≤ m) (hm : m ≤ 131072) (n : Nat) (hn : n ≤ m)
    (hz : (if wfits m ys f (n : Int) = true then ys ++ List.replicate n 0 else ys) = zs) (hf : (!wfits m ys f (n : Int)) = f2) :
    Calls Try.prog 49 #[.agg #[.int .i64 (m : Int), u, .bool f], .int .i64 (n : Int)] w (RWDone w m u zs f2) := by
  obtain ⟨U, cu, rfl, -, hsu, -⟩ := Src.of_own hu
  clear hsu
  have HU := Lib.hid hu
  clear hu
  have hmk := fun w => make_bytes n n (Nat.le_refl _) (by omega) w
  obtain ⟨Z, hZ⟩ : ∃ Z, Z = (byts (List.replicate n 0)).toArray := ⟨_, rfl⟩
  rw [← hZ] at hmk
  have HZ := Lib.hid hZ
  clear hZ
  have hnm : (n : Int) ≤ m := by omega
  have B0 := Lib.hid ((Blk.new w 82 #[.int .i64 (m : Int), .slice U ys.length cu, .bool f]).alloc (.cells #[.int .i64 0, .slice none 0 0, .bool false] 82))
  have C0 : Hid (Blk ((w.alloc (.cells #[.int .i64 (m : Int), .slice U ys.length cu, .bool f] 82)).alloc (.cells #[.int .i64 0, .slice none 0 0, .bool false] 82)) (w.heap.size + 1) 82 #[.int .i64 0, .slice none 0 0, .bool false]) := by
    have := Blk.new (w.alloc (.cells #[.int .i64 (m : Int), .slice U ys.length cu, .bool f] 82)) 82 #[.int .i64 0, .slice none 0 0, .bool false]
    rwa [show (w.alloc (.cells #[.int .i64 (m : Int), .slice U ys.length cu, .bool f] 82)).heap.size = w.heap.size + 1 by simp] at this
  go_enter Try.func49, Try.ntmps49
  go_upto_region 4 with fail
  obtain ⟨W0, hW0⟩ : ∃ W, (w.alloc (.cells #[.int .i64 (m : Int), .slice U ys.length cu, .bool f] 82)).alloc (.cells #[.int .i64 0, .slice none 0 0, .bool false] 82) = W := ⟨_, rfl⟩
  have F0 : Hid (Frm No w W0) := by
    show Frm No w W0
    rw [← hW0]
    exact ((Frm.refl No w).alloc _).alloc _
  rw [hW0] at B0 C0 ⊢
  have O0 := Lib.hid (F0.out.own HU.out (fun _ _ x => x))
  have SRC : Hid (∀ W : World, Src (W.alloc (.cells Z 5)) (some ⟨W.heap.size, 0, none⟩) n (List.replicate n 0)) :=
    Lib.hid fun W => ⟨rds_new W _ Z HZ.out, by rw [List.length_replicate]; exact Nat.le_refl _, fun h => by cases h⟩
  have CALL : Hid (Calls Try.prog 47 #[.agg #[.int .i64 (m : Int), .slice U ys.length cu, .bool f], .slice (some ⟨W0.heap.size, 0, none⟩) n n] (W0.alloc (.cells Z 5)).drew (RWDone (W0.alloc (.cells Z 5)).drew m (.slice U ys.length cu) zs f2)) := by
    have h := ref_write _ m _ ys f ((F0.out.alloc (.cells Z 5)).drew.own HU.out (fun _ _ x => x)) hym hm _ n n (List.replicate n 0) ((SRC.out W0).frm (Frm.refl No _).drew (fun _ _ x => x)) List.length_replicate (by omega)
    rw [hz, hf] at h
    exact h
  clear hz hf
  clear hW0
  obtain ⟨a0, a1, a2⟩ : W0.cell? ⟨w.heap.size, 0, none⟩ = some (.int .i64 (m : Int)) ∧ W0.cell? ⟨w.heap.size, 1, none⟩ = some (.slice U ys.length cu) ∧ W0.cell? ⟨w.heap.size, 2, none⟩ = some (.bool f) := ⟨B0.out.cell 0, B0.out.cell 1, B0.out.cell 2⟩
  have k0 := World.new_ne W0 _ a0
  have k1 := World.new_ne W0 _ a1
  have k2 := World.new_ne W0 _ a2
  go_region_held3 (fun W => W.cell? ⟨w.heap.size, 0, none⟩ = some (.int .i64 (m : Int)) ∧ W.cell? ⟨w.heap.size, 1, none⟩ = some (.slice U ys.length cu) ∧ W.cell? ⟨w.heap.size, 2, none⟩ = some (.bool f)) (go_keep)
    ((go_at_call 47; refine (CALL.out).mono ?_; rintro e w2 ⟨u2, rfl, ho2, hf2, hb2⟩; obtain ⟨V2, c2, rfl⟩ := own_slice ho2; have HB2 := Lib.hid hb2; clear hb2; have F2 := Lib.hid ((F0.out.alloc (.cells Z 5)).drew.new0 hf2); have B2 := (B0.out.alloc (.cells Z 5)).drew.frm hf2 (fun x => x); have C2 := (C0.out.alloc (.cells Z 5)).drew.frm hf2 (fun x => x); have b0 := B2.cell 0; have b1 := B2.cell 1; have b2 := B2.cell 2; have d0 := C2.cell 0; have d1 := C2.cell 1; have d2 := C2.cell 2; have e0 := C2.frozen 0; have e1 := C2.frozen 1; have e2 := C2.frozen 2; have O2 := Lib.hid ho2; have HC2 := Lib.hid C2; clear ho2 hf2 B2 C2))
  go_wp2
  have hn2 := own_blk_ne O2.out HC2.out (by decide)
  refine bodyPost_ret (v := .agg #[.int .i64 (m : Int), .slice V2 zs.length c2, .bool f2]) (by simp [results, Try.results49, go_sem, d0, d1, d2]) rfl ⟨_, rfl, ?_, ?_, fun i hi => (HB2.out i hi).imp id (fun h => Nat.le_trans (F0.out.alloc (.cells Z 5)).size h)⟩
  · exact ownsRow_setCell_other (ownsRow_setCell_other (ownsRow_setCell_other O2.out hn2 _) hn2 _) hn2 _
  · exact ((F2.out.setCell (p := ⟨w.heap.size + 1, 0, none⟩) (fun h => absurd h (by simp)) _).setCell (p := ⟨w.heap.size + 1, 1, none⟩) (fun h => absurd h (by simp)) _).setCell (p := ⟨w.heap.size + 1, 2, none⟩) (fun h => absurd h (by simp)) _

theorem ref_zeros (w : World) (m : Nat) (u : Value) (ys : List UInt8) (f : Bool) (hu : w.ownsRow 0 5 1 u ys.length (byts ys)) (hym : ys.length ≤ m) (hm : m ≤ 131072) (n : Int) :
    Calls Try.prog 49 #[.agg #[.int .i64 (m : Int), u, .bool f], .int .i64 n] w (RWDone w m u (if wfits m ys f n = true then ys ++ List.replicate n.toNat 0 else ys) (!wfits m ys f n)) := by
  by_cases h : n < 0 ∨ (m : Int) < n
  · exact ref_zeros_bad w m u ys f hu hym n h
  · obtain ⟨k, rfl⟩ := Int.eq_ofNat_of_zero_le (by omega : 0 ≤ n)
    exact ref_zeros_ok w m u ys _ f _ hu hym hm k (by omega) rfl rfl
end Go.Proofs.Ytgpnnnjhcjjnmaa
