/-
  csum.Update, Update32, Pseudo, Over.
-/
import Derived.Test.YtcclneaabnpbkaaC6
namespace Go.Proofs.Ytcclneaabnpbkaa
open Go.RowKit

set_option maxRecDepth 100000 in
theorem updater_any (w : World) (c : Nat) :
    Calls Try.prog 47 #[.int .u16 (c : Int)] w fun e w' => e = .returned (.func (.func 75) #[] #[.pointer (some ⟨w.heap.size, 0, none⟩)]) ∧ w' = w.alloc (.cells #[.int .u16 (c : Int)] 25) := by
  have hmf : ∀ (fn : Fn) (first cap : Array Value) (w : World), (Instr.makeFunc fn first cap).run Try.prog w = .ok (.func fn first cap) w := fun _ _ _ _ => rfl
  go_enter Try.func47, Try.ntmps47
  go_wp2
  go_ret
  exact ⟨rfl, rfl⟩

theorem one_no {w : World} {g : Nat} (h : w.heap.size ≤ g) : ∀ i, i < w.heap.size → One g i → No i := fun i hi h1 => by
  have : i = g := h1
  omega

set_option maxRecDepth 100000 in
theorem update_any (w : World) (c o x : Nat) (hc : c ≤ 65535) (ho : o ≤ 65535) (hx : x ≤ 65535) :
    Calls Try.prog 25 #[.int .u16 (c : Int), .int .u16 (o : Int), .int .u16 (x : Int)] w fun e w' => e = .returned (.int .u16 (updOf c o x : Int)) ∧ Frm No w w' := by
  have HU := Lib.hid (upd_any (w.alloc (.cells #[.int .u16 (c : Int)] 25)) w.heap.size c o x hc ho hx (Blk.new _ _ _))
  obtain ⟨u, hu⟩ : ∃ u, updOf c o x = u := ⟨_, rfl⟩
  unfold Upd at HU
  rw [hu] at HU ⊢
  clear hu
  go_enter Try.func25, Try.ntmps25
  go_wp2_with fail
  refine (updater_any w c).mono ?_
  rintro e w1 ⟨rfl, rfl⟩
  go_wp2_with fail
  refine HU.out.mono ?_
  rintro e w2 ⟨rfl, _, hf⟩
  have F2 := Lib.hid (((Frm.refl No w).alloc _).trans hf (one_no (Nat.le_refl _)))
  clear hf HU
  go_wp2
  go_ret
  exact ⟨rfl, F2.out⟩

def psOf (s d p n : Nat) : Nat := fold (addU [up s, lo s, up d, lo d, UInt16.ofNat p, UInt16.ofNat n])

def overOf (p : Nat) (bs : List UInt8) : Nat := 65535 - fold (p + sumOf bs)

end Go.Proofs.Ytcclneaabnpbkaa
