/-
  The kit's bag: ApartBytes of two slices.
-/
import Derived.Test.YtnokbnggpbjchaaE4
namespace Go.Proofs.Ytnokbnggpbjchaa
open Go.RowKit

set_option maxRecDepth 100000 in
set_option maxHeartbeats 2000000 in
theorem apart_bytes (w : World) (p : Nat) (A B : Option Addr) (n c m d : Nat) (S : Nat → Prop) (hp : Blk w p 22 #[.slice A n c, .slice B m d]) (hS : ∀ i, w.heap.size ≤ i → ¬ S i)
    (HF : ∀ V k W, Frm No w W → W.ownsRow w.heap.size 22 1 (.slice V 2 k) 2 [.slice A n c, .slice B m d] → Calls Try.prog 63 #[.slice V 2 k] W fun e w' => e = .returned (.bool true) ∧ Frm S W w') :
    Calls Try.prog 38 #[.slice (some ⟨p, 0, none⟩) 2 2] w fun e w' => e = .returned (.bool true) ∧ Frm S w w' := by
  have HF := Lib.hid HF
  have P0 := Lib.hid hp
  have F0 := Lib.hid (Frm.refl No w)
  clear hp
  have B1 : Hid (Blk (w.alloc (.cells (bagOf (.slice none 0 0)) 90)) w.heap.size 90 (bagOf (.slice none 0 0))) := Blk.new _ _ _
  have O1 : Hid ((w.alloc (.cells (bagOf (.slice none 0 0)) 90)).ownsRow w.heap.size 22 1 (.slice none 0 0) 0 []) := by
    refine ⟨?_, .inl ⟨rfl, rfl⟩⟩
    simp
  have F1 := Lib.hid (F0.out.alloc (.cells (bagOf (.slice none 0 0)) 90))
  go_enter Try.func38, Try.ntmps38
  go_wp2_with fail
  go_loopw [4] (fun i wr => ∃ (j : Nat) (V : Value), j ≤ 2 ∧ i = .int .i64 j ∧ Hid (Blk wr w.heap.size 90 (bagOf V)) ∧ Hid (wr.ownsRow w.heap.size 22 1 V j (List.take j [.slice A n c, .slice B m d])) ∧ Hid (Frm No w wr)) (fun i _ => 2 - (intOf i).toNat)
  case atStart => exact ⟨0, _, by omega, rfl, B1, O1, F1⟩
  case round =>
    obtain ⟨j, V, hj, rfl, HB, HO, HR⟩ := hrel
    clear B1 O1 F1 F0
    have hlt := P0.out.lt
    have PR := Lib.hid (P0.out.frm HR.out (fun x => x))
    rcases j with _ | _ | j
    · have p0 : wr.cell? ⟨p, 0, none⟩ = some (.slice A n c) := PR.out.cell 0
      go_wp2_with (go_at_call 54; refine (put_bytes w.heap.size _ w.heap.size V 0 _ A n c (Nat.le_refl _) HB.out HO.out (by omega)).mono ?_; rintro e w' ⟨rfl, V', hb', ho', hf'⟩)
      have HB' := Lib.hid hb'
      have HO' := Lib.hid ho'
      have HR' : Hid (Frm No w w') := HR.out.trans hf' (fun i hi hs => by have hs' : w.heap.size ≤ i := hs; omega)
      clear hb' ho' hf' HB HO HR
      go_roundw
      case rel => exact ⟨1, V', by omega, by go_num, HB', HO', HR'⟩
      case measure => simp [intOf]
    · have p1 : wr.cell? ⟨p, 1, none⟩ = some (.slice B m d) := PR.out.cell 1
      go_wp2_with (go_at_call 54; refine (put_bytes w.heap.size _ w.heap.size V 1 _ B m d (Nat.le_refl _) HB.out HO.out (by omega)).mono ?_; rintro e w' ⟨rfl, V', hb', ho', hf'⟩)
      have HB' := Lib.hid hb'
      have HO' := Lib.hid ho'
      have HR' : Hid (Frm No w w') := HR.out.trans hf' (fun i hi hs => by have hs' : w.heap.size ≤ i := hs; omega)
      clear hb' ho' hf' HB HO HR
      go_roundw
      case rel => exact ⟨2, V', by omega, by go_num, HB', HO', HR'⟩
      case measure => simp [intOf]
    · obtain rfl : j = 0 := by omega
      obtain ⟨g', k', rfl⟩ := own_some HO.out (by omega)
      go_wp2_with (go_at_call 55; refine (apart_bag _ w.heap.size _ 2 _ S HB.out (hS _ (Nat.le_refl _)) (fun W hW => HF.out _ _ W (HR.out.trans hW (fun _ _ x => x)) (hW.own HO.out (fun _ _ x => x)))).mono ?_; rintro e w' ⟨rfl, hf'⟩)
      go_ret
      exact ⟨rfl, (HR.out.of_no S).trans hf' (fun _ _ x => x)⟩
end Go.Proofs.Ytnokbnggpbjchaa
