/-
  csum.Update, Update32, Pseudo, Over.
-/
import Derived.Test.YtnokbnggpbjchaaC6
namespace Go.Proofs.Ytnokbnggpbjchaa
open Go.RowKit

set_option maxRecDepth 100000 in
theorem updater_any (w : World) (c : Nat) :
    Calls Try.prog 49 #[.int .u16 (c : Int)] w fun e w' => e = .returned (.func (.func 59) #[] #[.pointer (some ⟨w.heap.size, 0, none⟩)]) ∧ w' = w.alloc (.cells #[.int .u16 (c : Int)] 23) := by
  have hmf : ∀ (fn : Fn) (first cap : Array Value) (w : World), (Instr.makeFunc fn first cap).run Try.prog w = .ok (.func fn first cap) w := fun _ _ _ _ => rfl
  go_enter Try.func49, Try.ntmps49
  go_wp2
  go_ret
  exact ⟨rfl, rfl⟩

theorem one_no {w : World} {g : Nat} (h : w.heap.size ≤ g) : ∀ i, i < w.heap.size → One g i → No i := fun i hi h1 => by
  have : i = g := h1
  omega

set_option maxRecDepth 100000 in
theorem update_any (w : World) (c o x : Nat) (hc : c ≤ 65535) (ho : o ≤ 65535) (hx : x ≤ 65535) :
    Calls Try.prog 25 #[.int .u16 (c : Int), .int .u16 (o : Int), .int .u16 (x : Int)] w fun e w' => e = .returned (.int .u16 (updOf c o x : Int)) ∧ Frm No w w' := by
  have HU := Lib.hid (upd_any (w.alloc (.cells #[.int .u16 (c : Int)] 23)) w.heap.size c o x hc ho hx (Blk.new _ _ _))
  obtain ⟨u, hu⟩ : ∃ u, updOf c o x = u := ⟨_, rfl⟩
  unfold Upd at HU
  rw [hu] at HU ⊢
  clear hu
  go_enter Try.func25, Try.ntmps25
  go_wp2_with fail
  refine (updater_any w c).mono ?_
  rintro e w1 ⟨rfl, rfl⟩
  go_wp2_with fail
  refine HU.out.mono ?_
  rintro e w2 ⟨rfl, _, hf⟩
  have F2 := Lib.hid (((Frm.refl No w).alloc _).trans hf (one_no (Nat.le_refl _)))
  clear hf HU
  go_wp2
  go_ret
  exact ⟨rfl, F2.out⟩

def psOf (s d p n : Nat) : Nat := fold (addU [up s, lo s, up d, lo d, UInt16.ofNat p, UInt16.ofNat n])

set_option maxRecDepth 100000 in
set_option maxHeartbeats 1000000 in
theorem pseudo_yes (w : World) (s d p n : Nat) (hs : s < 4294967296) (hd : d < 4294967296) (hp : p < 256) (hn : n ≤ 65535) :
    Calls Try.prog 28 #[.int .u32 (s : Int), .int .u32 (d : Int), .int .u8 (p : Int), .int .i64 (n : Int)] w fun e w' => e = .returned (.tuple #[.int .u16 (psOf s d p n : Int), .int .i64 0]) ∧ Frm No w w' := by
  have HJ := Lib.hid (join_any (w.alloc (.cells (w16s [up s, lo s, up d, lo d, UInt16.ofNat p, UInt16.ofNat n]) 23)) (some ⟨w.heap.size, 0, none⟩) 6 6 [up s, lo s, up d, lo d, UInt16.ofNat p, UInt16.ofNat n] rfl (RdW.new w _) (by omega))
  obtain ⟨t, ht⟩ : ∃ t, psOf s d p n = t := ⟨_, rfl⟩
  unfold psOf at ht
  have hW : w16s [up s, lo s, up d, lo d, UInt16.ofNat p, UInt16.ofNat n] = #[.int .u16 ((up s).toNat : Int), .int .u16 ((lo s).toNat : Int), .int .u16 ((up d).toNat : Int), .int .u16 ((lo d).toNat : Int), .int .u16 (p : Int), .int .u16 (n : Int)] := by
    have e1 : (UInt16.ofNat p).toNat = p := by rw [UInt16.toNat_ofNat']; omega
    have e2 : (UInt16.ofNat n).toNat = n := by rw [UInt16.toNat_ofNat']; omega
    simp [w16s, e1, e2]
  rw [hW, ht] at HJ
  unfold psOf
  rw [ht]
  clear hW ht
  have U1 := Lib.hid (fun W => upper_any W s hs)
  have U2 := Lib.hid (fun W => lower_any W s)
  have U3 := Lib.hid (fun W => upper_any W d hd)
  have U4 := Lib.hid (fun W => lower_any W d)
  obtain ⟨a1, h1⟩ : ∃ a, (up s).toNat = a := ⟨_, rfl⟩
  obtain ⟨a2, h2⟩ : ∃ a, (lo s).toNat = a := ⟨_, rfl⟩
  obtain ⟨a3, h3⟩ : ∃ a, (up d).toNat = a := ⟨_, rfl⟩
  obtain ⟨a4, h4⟩ : ∃ a, (lo d).toNat = a := ⟨_, rfl⟩
  rw [h1] at HJ U1
  rw [h2] at HJ U2
  rw [h3] at HJ U3
  rw [h4] at HJ U4
  clear h1 h2 h3 h4
  have n0 : ¬ (n : Int) < 0 := by omega
  have n1 : ¬ (65535 : Int) < n := by omega
  go_enter Try.func28, Try.ntmps28
  go_wp2_with fail
  refine (U1.out w).mono ?_
  rintro e w1 ⟨rfl, rfl⟩
  go_wp2_with fail
  refine (U2.out w).mono ?_
  rintro e w1 ⟨rfl, rfl⟩
  go_wp2_with fail
  refine (U3.out w).mono ?_
  rintro e w1 ⟨rfl, rfl⟩
  go_wp2_with fail
  refine (U4.out w).mono ?_
  rintro e w1 ⟨rfl, rfl⟩
  go_wp2_with fail
  refine HJ.out.mono ?_
  rintro e w2 ⟨rfl, hf⟩
  have F2 := Lib.hid (((Frm.refl No w).alloc _).trans hf (fun _ _ x => x))
  clear hf HJ
  go_wp2
  go_ret2
  exact ⟨rfl, F2.out⟩

set_option maxRecDepth 100000 in
theorem pseudo_no (w : World) (s d p : Int) (n : Int) (h : n < 0 ∨ 65535 < n) :
    Calls Try.prog 28 #[.int .u32 s, .int .u32 d, .int .u8 p, .int .i64 n] w fun e w' => e = .returned (.tuple #[.int .u16 0, .int .i64 2]) ∧ w = w' := by
  by_cases h0 : n < 0
  · go_enter Try.func28, Try.ntmps28
    go_wp2
    go_ret2
    exact ⟨rfl, rfl⟩
  · have h1 : 65535 < n := by omega
    go_enter Try.func28, Try.ntmps28
    go_wp2
    go_ret2
    exact ⟨rfl, rfl⟩

def overOf (p : Nat) (bs : List UInt8) : Nat := 65535 - fold (p + sumOf bs)

set_option maxRecDepth 100000 in
theorem over_any (w : World) (p : Nat) (hp : p ≤ 65535) (A : Option Addr) (n c : Nat) (bs : List UInt8) (hn : bs.length = n) (hc : n ≤ c) (h : Rds w A bs) (h4 : n ≤ 140737488355328) :
    Calls Try.prog 29 #[.int .u16 (p : Int), .slice A n c] w fun e w' => e = .returned (.int .u16 (overOf p bs : Int)) ∧ Frm No w w' := by
  have HS := Lib.hid (sum_any w A n c bs hn hc h h4)
  obtain ⟨s, hs⟩ : ∃ s, sumOf bs = s := ⟨_, rfl⟩
  have hsl := sumOf_le bs
  rw [hs] at HS hsl
  obtain ⟨P, hP⟩ : ∃ P : UInt16, P.toNat = p := ⟨UInt16.ofNat p, by rw [UInt16.toNat_ofNat']; omega⟩
  obtain ⟨S, hS⟩ : ∃ S : UInt16, S.toNat = s := ⟨UInt16.ofNat s, by rw [UInt16.toNat_ofNat']; omega⟩
  obtain ⟨t, ht⟩ : ∃ t, fold (addU [P, S]) = t := ⟨_, rfl⟩
  have htl : t ≤ 65535 := by rw [← ht]; exact fold_le _
  obtain ⟨u, hu1, hu2, hu3⟩ := less16 t htl
  have hres : overOf p bs = u := by
    unfold overOf
    rw [hu1, ← ht, hs]
    simp [addU, addUp, hP, hS]
  have hW : w16s [P, S] = #[.int .u16 (p : Int), .int .u16 (s : Int)] := by simp [w16s, hP, hS]
  have HJ := Lib.hid (fun W : World => join_any (W.alloc (.cells (w16s [P, S]) 23)) (some ⟨W.heap.size, 0, none⟩) 2 2 [P, S] rfl (RdW.new W _) (by omega))
  rw [ht, hW] at HJ
  rw [hres]
  clear h hs hP hS ht hu1 hres hW
  go_enter Try.func29, Try.ntmps29
  go_wp2_with fail
  refine HS.out.mono ?_
  rintro e w1 ⟨rfl, hf1⟩
  have F1 := Lib.hid hf1
  clear hf1 HS
  go_wp2_with fail
  refine (HJ.out w1).mono ?_
  rintro e w2 ⟨rfl, hf⟩
  have F2 := Lib.hid ((F1.out.alloc _).trans hf (fun _ _ x => x))
  clear hf HJ
  go_wp2
  go_ret
  exact ⟨rfl, F2.out⟩
end Go.Proofs.Ytnokbnggpbjchaa
