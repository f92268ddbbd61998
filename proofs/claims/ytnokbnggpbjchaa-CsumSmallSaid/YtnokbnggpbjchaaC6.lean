/-
  csum.Update, Update32, Pseudo, Over, Never.
-/
import Derived.Test.YtnokbnggpbjchaaC4
namespace Go.Proofs.Ytnokbnggpbjchaa
open Go.RowKit

def up (x : Nat) : UInt16 := UInt16.ofNat (x / 65536)
def lo (x : Nat) : UInt16 := UInt16.ofNat x
theorem up_val (x : Nat) (hx : x < 4294967296) : ((up x).toNat : Int) = (x : Int) / 65536 := by
  unfold up
  rw [UInt16.toNat_ofNat']
  omega
theorem lo_val (x : Nat) : ((lo x).toNat : Int) = (x : Int) % 65536 := by
  unfold lo
  rw [UInt16.toNat_ofNat']
  omega

theorem ret_int {k : IntKind} {a b : Int} (h : a = b) : Ending.returned (.int k a) = .returned (.int k b) := by rw [h]

set_option maxRecDepth 100000 in
theorem upper_any (w : World) (x : Nat) (hx : x < 4294967296) : Calls Try.prog 50 #[.int .u32 (x : Int)] w fun e w' => e = .returned (.int .u16 ((up x).toNat : Int)) ∧ w = w' := by
  rw [up_val x hx]
  go_enter Try.func50, Try.ntmps50
  go_wp2
  go_ret
  exact ⟨rfl, rfl⟩

set_option maxRecDepth 100000 in
theorem lower_any (w : World) (x : Nat) : Calls Try.prog 51 #[.int .u32 (x : Int)] w fun e w' => e = .returned (.int .u16 ((lo x).toNat : Int)) ∧ w = w' := by
  rw [lo_val x]
  go_enter Try.func51, Try.ntmps51
  go_wp2
  go_ret
  exact ⟨rfl, rfl⟩

def w16s (xs : List UInt16) : Array Value := (xs.map fun x => Value.int .u16 (x.toNat : Int)).toArray
theorem RdW.new (w : World) (xs : List UInt16) : RdW (w.alloc (.cells (w16s xs) 23)) (some ⟨w.heap.size, 0, none⟩) xs := by
  intro _
  refine ⟨_, rfl, fun j hj => ?_⟩
  have h := (Blk.new w 23 (w16s xs)).cell j
  have e : (w16s xs)[j]? = some (.int .u16 (xs[j].toNat : Int)) := by simp [w16s, hj]
  rw [e] at h
  rw [← h]
  unfold Addr.add
  by_cases h0 : j = 0 <;> simp [h0]

def neverOf (x : Nat) : Nat := if x = 0 then 65535 else x
set_option maxRecDepth 100000 in
theorem never_any (w : World) (x : Nat) : Calls Try.prog 30 #[.int .u16 (x : Int)] w fun e w' => e = .returned (.int .u16 (neverOf x : Int)) ∧ w = w' := by
  unfold neverOf
  by_cases h0 : x = 0
  · subst h0
    go_enter Try.func30, Try.ntmps30
    go_wp2
    go_ret
    exact ⟨rfl, rfl⟩
  · rw [if_neg h0]
    have e0 : ¬ (x : Int) = 0 := by omega
    go_enter Try.func30, Try.ntmps30
    go_wp2
    go_ret
    exact ⟨rfl, rfl⟩

/-- A number less 65535. -/
theorem less16 (s : Nat) (h : s ≤ 65535) : ∃ t : Nat, t = 65535 - s ∧ t ≤ 65535 ∧ IntKind.u16.wrap (65535 - (s : Int)) = (t : Int) := ⟨_, rfl, by omega, sub16 s h⟩

def updOf (c o x : Nat) : Nat := 65535 - fold ((65535 - c) + (65535 - o) + x)
theorem updOf_le (c o x : Nat) : updOf c o x ≤ 65535 := by unfold updOf; omega

def Upd (w : World) (g c o x : Nat) (e : Ending) (w' : World) : Prop :=
  e = .returned (.int .u16 (updOf c o x : Int)) ∧ Blk w' g 23 #[.int .u16 (updOf c o x : Int)] ∧ Frm (One g) w w'

set_option maxRecDepth 100000 in
set_option maxHeartbeats 1000000 in
theorem upd_any (w : World) (g c o x : Nat) (hc : c ≤ 65535) (ho : o ≤ 65535) (hx : x ≤ 65535) (h : Blk w g 23 #[.int .u16 (c : Int)]) :
    Calls Try.prog 59 #[.int .u16 (o : Int), .int .u16 (x : Int), .pointer (some ⟨g, 0, none⟩)] w (Upd w g c o x) := by
  obtain ⟨c', hc1, hc2, hc3⟩ := less16 c hc
  obtain ⟨o', ho1, ho2, ho3⟩ := less16 o ho
  have hcell : w.cell? ⟨g, 0, none⟩ = some (.int .u16 (c : Int)) := by rw [h.cell]; rfl
  have H := Lib.hid h
  obtain ⟨C, hC⟩ : ∃ C : UInt16, C.toNat = c' := ⟨UInt16.ofNat c', by rw [UInt16.toNat_ofNat']; omega⟩
  obtain ⟨O, hO⟩ : ∃ O : UInt16, O.toNat = o' := ⟨UInt16.ofNat o', by rw [UInt16.toNat_ofNat']; omega⟩
  obtain ⟨X, hX⟩ : ∃ X : UInt16, X.toNat = x := ⟨UInt16.ofNat x, by rw [UInt16.toNat_ofNat']; omega⟩
  obtain ⟨t, ht⟩ : ∃ t, fold (addU [C, O, X]) = t := ⟨_, rfl⟩
  have htl : t ≤ 65535 := by rw [← ht]; exact fold_le _
  obtain ⟨u, hu1, hu2, hu3⟩ := less16 t htl
  have hres : updOf c o x = u := by
    unfold updOf
    rw [hu1, ← ht, ← hc1, ← ho1]
    simp [addU, addUp, hC, hO, hX, Nat.add_assoc]
  have HJ := Lib.hid (join_any (w.alloc (.cells (w16s [C, O, X]) 23)) (some ⟨w.heap.size, 0, none⟩) 3 3 [C, O, X] rfl (RdW.new w _) (by omega))
  have hW : w16s [C, O, X] = #[.int .u16 (c' : Int), .int .u16 (o' : Int), .int .u16 (x : Int)] := by
    simp [w16s, hC, hO, hX]
  rw [ht, hW] at HJ
  unfold Upd
  rw [hres]
  clear h hW hres hu1 ht hc1 ho1 hC hO hX
  have hg := H.out.lt
  go_enter Try.func59, Try.ntmps59
  go_wp2_with fail
  refine HJ.out.mono ?_
  rintro e w2 ⟨rfl, hf⟩
  have F2 := Lib.hid (((Frm.refl No w).alloc _).trans hf (fun _ _ x => x))
  have B2 := Lib.hid (H.out.frm F2.out (fun x => x))
  have hc5 : w2.cell? ⟨g, 0, none⟩ = some (.int .u16 (c : Int)) := by rw [B2.out.cell]; rfl
  have hf5 := B2.out.frozen 0
  have B3 := Lib.hid (B2.out.set_ 0 (.int .u16 (u : Int)))
  have hc6 : (w2.setCell ⟨g, 0, none⟩ (.int .u16 (u : Int))).cell? ⟨g, 0, none⟩ = some (.int .u16 (u : Int)) := by rw [B3.out.cell]; rfl
  clear hf HJ
  go_wp2
  go_ret
  exact ⟨rfl, B3.out, (F2.out.of_no _).set1 0 _⟩
end Go.Proofs.Ytnokbnggpbjchaa
