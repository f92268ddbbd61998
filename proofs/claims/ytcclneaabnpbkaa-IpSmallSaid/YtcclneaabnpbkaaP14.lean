/-
  Turn: both addresses are exchanged.
-/
import Derived.Test.YtcclneaabnpbkaaP13
namespace Go.Proofs.Ytcclneaabnpbkaa
open Go.RowKit
attribute [local go_sem] undef

def turnOf (bs : List UInt8) : List UInt8 := bs.take 12 ++ (bs.take 20).drop 16 ++ (bs.take 16).drop 12 ++ (bs.take (totAt bs)).drop 20
def TurnOk (bs : List UInt8) (N : Nat) (w : World) (e : Ending) (w' : World) : Prop :=
  ∃ g c, e = .returned (.tuple #[.slice (some ⟨g, 0, none⟩) N c, .int .i64 0]) ∧ Row w' w.heap.size g N c (turnOf bs) ∧ Frm No w w'

set_option maxRecDepth 100000 in
set_option maxHeartbeats 4000000 in
theorem turn_yes (w : World) (A : Option Addr) (n c : Nat) (bs : List UInt8) (hn : bs.length = n) (hc : n ≤ c) (h4 : n ≤ 140737488355328) (h : Rds w A bs) (nf : NoFault bs) (N : Nat) (hN : N = totAt bs) :
    Calls Try.prog 26 #[.slice A n c] w (TurnOk bs N w) := by
  have HR := Lib.hid (read_ok w A n c bs hn hc h4 h nf)
  have hs := nf.sizes
  obtain ⟨ad, rfl⟩ := h.addr (by omega)
  obtain ⟨b, hb⟩ : ∃ b, (if c = 20 then some ad else some (⟨ad.block, ad.off + 20, none⟩ : Addr)) = some b := by split <;> exact ⟨_, rfl⟩
  have HCC := Lib.hid (fun W (hf : Frm No w W) (g k0 k1 k2 k3 : Nat) (hblk : Blk W g 22 #[.slice (some ad) 12 k0, .slice (some ⟨ad.block, ad.off + 16, none⟩) 4 k1, .slice (some ⟨ad.block, ad.off + 12, none⟩) 4 k2, .slice (some b) (totAt bs - 20) k3]) =>
    concat_4 W g (some ad) (some ⟨ad.block, ad.off + 16, none⟩) (some ⟨ad.block, ad.off + 12, none⟩) (some b) 12 4 4 (totAt bs - 20) k0 k1 k2 k3 (bs.take 12) ((bs.take 20).drop 16) ((bs.take 16).drop 12) ((bs.take (totAt bs)).drop 20)
      (by simp; omega) (by simp; omega) (by simp; omega) (by simp; omega) (by omega) (fun h => by cases h) (fun h => by cases h) (fun h => by cases h) (fun h => by cases h)
      ((h.frm hf (fun _ _ x => x)).take 12)
      (((h.frm hf (fun _ _ x => x)).take 20).drop 16 c (by simp; omega) (some ⟨ad.block, ad.off + 16, none⟩) (by rw [if_neg (by omega)]; simp [Addr.add]))
      (((h.frm hf (fun _ _ x => x)).take 16).drop 12 c (by simp; omega) (some ⟨ad.block, ad.off + 12, none⟩) (by rw [if_neg (by omega)]; simp [Addr.add]))
      (((h.frm hf (fun _ _ x => x)).take (totAt bs)).drop 20 c (by simp; omega) (some b) (by rw [← hb]; simp [Addr.add])) hblk)
  have HEND := Lib.hid (fun (w' : World) (v : Value) (b : Nat) (hb : w.heap.size ≤ b) (hown : w'.ownsRow b 5 1 v (12 + 4 + 4 + (totAt bs - 20)) (byts (bs.take 12 ++ (bs.take 20).drop 16 ++ (bs.take 16).drop 12 ++ (bs.take (totAt bs)).drop 20))) (hF : Frm No w w') =>
    (by
      obtain ⟨g, c', rfl, hrow⟩ := Row.of_own hown (by omega)
      have e : 12 + 4 + 4 + (totAt bs - 20) = N := by omega
      rw [e] at hrow ⊢
      exact ⟨g, c', rfl, own_more hrow hb, hF⟩ : TurnOk bs N w (.returned (.tuple #[v, .int .i64 0])) w'))
  unfold ReadOk hdrV at HR
  obtain ⟨z, hz⟩ : ∃ z, sizeAt bs = z := ⟨_, rfl⟩
  obtain ⟨t, ht⟩ : ∃ z, totAt bs = z := ⟨_, rfl⟩
  obtain ⟨v1, hv1⟩ : ∃ q, byteAt bs 1 = q := ⟨_, rfl⟩
  obtain ⟨v8, hv8⟩ : ∃ q, byteAt bs 8 = q := ⟨_, rfl⟩
  obtain ⟨v9, hv9⟩ : ∃ q, byteAt bs 9 = q := ⟨_, rfl⟩
  obtain ⟨i4, hi4⟩ : ∃ q, wordAt bs 4 = q := ⟨_, rfl⟩
  obtain ⟨df, hdf⟩ : ∃ q, dfAt bs = q := ⟨_, rfl⟩
  obtain ⟨mf, hmf⟩ : ∃ q, mfAt bs = q := ⟨_, rfl⟩
  obtain ⟨f, hf⟩ : ∃ q, offAt bs = q := ⟨_, rfl⟩
  obtain ⟨sr, hsr⟩ : ∃ q, addrAt bs 12 = q := ⟨_, rfl⟩
  obtain ⟨ds, hds⟩ : ∃ q, addrAt bs 16 = q := ⟨_, rfl⟩
  obtain ⟨os, hos⟩ : ∃ q, optsAt bs = q := ⟨_, rfl⟩

  obtain ⟨o, ho⟩ : ∃ o, z - 20 = o := ⟨_, rfl⟩
  obtain ⟨m, hm⟩ : ∃ o, t - 20 = o := ⟨_, rfl⟩
  rw [hz] at HR hs
  rw [hv1, hv8, hv9, hi4, hdf, hmf, hf, hsr, hds, hos, ho, ht] at HR
  unfold Joins at HCC
  rw [ht, hm] at HCC HEND
  rw [ht] at hs
  have m1 : (20 : Int) ≤ t := by omega
  have m2 : (t : Int) ≤ c := by omega
  have m3 : (20 : Int) ≤ c := by omega
  have m4 : (16 : Int) ≤ c := by omega
  have m5 : (12 : Int) ≤ c := by omega
  have n1 : ¬ c = 16 := by omega
  have n2 : ¬ c = 12 := by omega
  have e1 : t - 20 = m := hm
  clear h hn hc h4 nf hz ht hv1 hv8 hv9 hi4 hdf hmf hf hsr hds hos ho hs hm hN
  go_enter Try.func26, Try.ntmps26
  go_wp2_with fail
  refine HR.out.mono ?_
  rintro e w1 ⟨g, c1, rfl, hrow, hf⟩
  obtain ⟨W2, hW2⟩ : ∃ W, W = w1.alloc (.cells #[.int .u8 (v1 : Int), .int .u16 (i4 : Int), .bool df, .bool mf, .int .i64 (f : Int), .int .u8 (v8 : Int), .int .u8 (v9 : Int), .int .u32 (sr : Int), .int .u32 (ds : Int), .slice (some ⟨g, 0, none⟩) o c1] 28) := ⟨_, rfl⟩
  have F2 : Hid (Frm No w W2) := by show Frm No w W2; rw [hW2]; exact hf.alloc _
  clear hrow hf
  go_upto_region 4 with fail
  rw [← hW2]
  clear hW2 HR
  go_region_held3 (fun _ => True) (trivial)
    (first
      | (go_at_call 38; refine (HCC.out _ (F2.out.drew.alloc _) _ _ _ _ _ (Blk.new _ _ _)).mono ?_; rintro e w' ⟨v, rfl, hown, hf⟩; have FC := Lib.hid (Frm.new0 (F2.out.drew.alloc _) hf); have RC := Lib.hid hown; clear hf hown))
  go_wp2_with fail
  go_ret2
  exact HEND.out _ _ _ (by have := F2.out.size; simp; omega) RC.out FC.out
end Go.Proofs.Ytcclneaabnpbkaa
