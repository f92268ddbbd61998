/-
  Write: the packet with a header and data.
-/
import Derived.Test.YtcclneaabnpbkaaP8
import Derived.Test.YtcclneaabnpbkaaP9
namespace Go.Proofs.Ytcclneaabnpbkaa
open Go.RowKit
attribute [local go_sem] undef

/-- The packet with a header, options and data. -/
def pkt (h : Hd) (opts data : List UInt8) : List UInt8 := fixOf (bare h opts data.length) 10 ++ data

theorem first20_len (h : Hd) (z t : Nat) : (first20 h z t).length = 20 := by simp [first20, b4]
theorem bare_len (h : Hd) (opts : List UInt8) (n : Nat) : (bare h opts n).length = 20 + opts.length := by
  unfold bare
  rw [List.length_append, first20_len]
theorem fixed_len (bs : List UInt8) (k : Nat) : (fixOf bs k).length = bs.length := putAt_length _ _ _ _
theorem pkt_len (h : Hd) (opts data : List UInt8) : (pkt h opts data).length = 20 + opts.length + data.length := by
  unfold pkt
  rw [List.length_append, fixed_len, bare_len]

def WroteOk (h : Hd) (opts data : List UInt8) (N : Nat) (w : World) (e : Ending) (w' : World) : Prop :=
  ∃ g c, e = .returned (.tuple #[.slice (some ⟨g, 0, none⟩) N c, .int .i64 0]) ∧ Row w' w.heap.size g N c (pkt h opts data) ∧ Frm No w w'
def WroteNo (w : World) (e : Ending) (w' : World) : Prop := e = .returned (.tuple #[.slice none 0 0, .int .i64 2]) ∧ Frm No w w'

theorem right_facts {o : Nat} {off n : Nat} {mf : Bool} (h : rightB o (off : Int) mf (n : Int) = true) : o ≤ 40 ∧ o % 4 = 0 ∧ n + o ≤ 65515 ∧ off % 8 = 0 ∧ n + off ≤ 65515 ∧ (mf = true → 0 < n ∧ n % 8 = 0) := by
  unfold rightB at h
  simp only [Bool.and_eq_true] at h
  obtain ⟨⟨h1, h2⟩, h3⟩ := h
  have h1 := of_decide_eq_true h1
  have h2 := of_decide_eq_true h2
  refine ⟨by omega, by omega, by omega, by omega, by omega, ?_⟩
  rintro rfl
  unfold dividesB at h3
  simp only [Bool.not_true, Bool.false_or] at h3
  have h3 := of_decide_eq_true h3
  omega

set_option maxRecDepth 100000 in
set_option maxHeartbeats 4000000 in
theorem write_yes (w : World) (tos id : Nat) (df mf : Bool) (off ttl pro src dst : Nat) (ok : Hd.Ok ⟨tos, id, df, mf, off, ttl, pro, src, dst⟩) (A D : Option Addr) (o c n k : Nat) (opts data : List UInt8) (ho : opts.length = o) (hd : data.length = n) (hr : Rds w A opts) (hdr : Rds w D data) (hc : o ≤ c) (hD : D = none → k = 0)
    (hR : rightB o (off : Int) mf (n : Int) = true) (N : Nat) (hN : N = 20 + o + n) :
    Calls Try.prog 17 #[.agg #[.int .u8 (tos : Int), .int .u16 (id : Int), .bool df, .bool mf, .int .i64 (off : Int), .int .u8 (ttl : Int), .int .u8 (pro : Int), .int .u32 (src : Int), .int .u32 (dst : Int), .slice A o c], .slice D n k] w (WroteOk ⟨tos, id, df, mf, off, ttl, pro, src, dst⟩ opts data N w) := by
  subst hN
  obtain ⟨f1, f2, f3, f4, f5, f6⟩ := right_facts hR
  have HRT := Lib.hid (fun W => right20 W (tos : Int) (id : Int) (off : Int) (ttl : Int) (pro : Int) (src : Int) (dst : Int) df mf A o c (n : Int) (by omega) (by omega))
  rw [hR] at HRT
  have HBR := Lib.hid (fun W (hR : Rds W A opts) => bare_any W tos id df mf off ttl pro src dst ok A o c n opts ho hR f1 (by omega) (by omega) hc)
  have HFX := Lib.hid (fun W (g c' : Nat) (hrow : Row W 0 g (20 + o) c' (bare ⟨tos, id, df, mf, off, ttl, pro, src, dst⟩ opts n)) => fix_yes W (some ⟨g, 0, none⟩) (20 + o) c' (bare ⟨tos, id, df, mf, off, ttl, pro, src, dst⟩ opts n) 10 hrow.len (by omega) (by omega) hrow.rds (by omega))
  have HCC := Lib.hid (fun W (g g1 c1 : Nat) (xs : List UInt8) (hx : xs.length = 20 + o) (h1 : Rds W (some ⟨g1, 0, none⟩) xs) (h2 : Rds W D data) (hb : Blk W g 22 #[.slice (some ⟨g1, 0, none⟩) (20 + o) c1, .slice D n k]) =>
    concat_2 W g (some ⟨g1, 0, none⟩) D (20 + o) n c1 k xs data hx hd (by omega) (fun h => by cases h) hD h1 h2 hb)
  have HEND := Lib.hid (fun (w' : World) (v : Value) (b : Nat) (hb : w.heap.size ≤ b) (hown : w'.ownsRow b 5 1 v (20 + o + n) (byts (fixOf (bare ⟨tos, id, df, mf, off, ttl, pro, src, dst⟩ opts n) 10 ++ data))) (hF : Frm No w w') =>
    (by
      obtain ⟨g, c', rfl, hrow⟩ := Row.of_own hown (by omega)
      exact ⟨g, c', rfl, by unfold pkt; rw [hd]; exact own_more hrow hb, hF⟩ : WroteOk ⟨tos, id, df, mf, off, ttl, pro, src, dst⟩ opts data (20 + o + n) w (.returned (.tuple #[v, .int .i64 0])) w'))
  have hfl : Hid ((fixOf (bare ⟨tos, id, df, mf, off, ttl, pro, src, dst⟩ opts n) 10).length = 20 + o) := by show _ = _; rw [fixed_len, bare_len, ho]
  have R0 := Lib.hid hr
  have D0 := Lib.hid hdr
  obtain ⟨z, hz⟩ : ∃ z, 20 + o = z := ⟨_, rfl⟩
  unfold BareEnds at HBR
  unfold Fresh2 at HFX
  unfold Joins at HCC
  rw [hz] at HBR HFX HCC HEND hfl ⊢
  clear f1 f2 f3 f4 f5 f6 hR hr hdr hc hD ho hd hz ok
  go_enter Try.func17, Try.ntmps17
  go_wp2_with fail
  refine (HRT.out _).mono ?_
  rintro e w1 ⟨rfl, hf⟩
  have F1 := Lib.hid (((Frm.refl No w).alloc _).new0 hf)
  have T1 := Lib.hid ((Blk.new w 28 #[.int .u8 (tos : Int), .int .u16 (id : Int), .bool df, .bool mf, .int .i64 (off : Int), .int .u8 (ttl : Int), .int .u8 (pro : Int), .int .u32 (src : Int), .int .u32 (dst : Int), .slice A o c]).frm hf (fun x => x))
  clear hf
  obtain ⟨b0, b1, b2, b3, b4, b5, b6, b7, b8, b9⟩ := blk10 T1.out
  go_wp2_with fail
  refine (HBR.out _ (R0.out.frm F1.out (fun _ _ x => x))).mono ?_
  rintro e w2 ⟨g2, c2, rfl, hrow, hf⟩
  have F2 := Lib.hid (F1.out.new0 hf)
  have R2 := Lib.hid (own_more hrow (Nat.zero_le _))
  clear hf hrow b0 b1 b2 b3 b4 b5 b6 b7 b8 b9 T1
  go_wp2_with fail
  refine (HFX.out _ g2 c2 R2.out).mono ?_
  rintro e w3 ⟨g3, c3, rfl, hrow, hf⟩
  have F3 := Lib.hid (F2.out.new0 hf)
  have R3 := Lib.hid hrow
  clear hf hrow R2
  go_wp2_with fail
  refine (HCC.out _ _ g3 c3 _ hfl.out (R3.out.rds.alloc _) ((D0.out.frm F3.out (fun _ _ x => x)).alloc _) (Blk.new w3 22 #[.slice (some ⟨g3, 0, none⟩) z c3, .slice D n k])).mono ?_
  rintro e w4 ⟨v, rfl, hown, hf⟩
  have F4 := Lib.hid ((F3.out.alloc _).new0 hf)
  have O4 := Lib.hid hown
  clear hf hown
  go_wp2_with fail
  go_ret2
  exact HEND.out _ _ _ (by have := F3.out.size; simp; omega) O4.out F4.out

set_option maxRecDepth 100000 in
set_option maxHeartbeats 1000000 in
theorem write_no (w : World) (z0 z1 z4 z5 z6 z7 z8 : Int) (b2 b3 : Bool) (A D : Option Addr) (o c n k : Nat) (ho : o ≤ 140737488355328) (h4 : -9223372036854775808 ≤ z4 ∧ z4 ≤ 9223372036854775807)
    (hR : rightB o z4 b3 (n : Int) = false) :
    Calls Try.prog 17 #[.agg #[.int .u8 z0, .int .u16 z1, .bool b2, .bool b3, .int .i64 z4, .int .u8 z5, .int .u8 z6, .int .u32 z7, .int .u32 z8, .slice A o c], .slice D n k] w (WroteNo w) := by
  have HRT := Lib.hid (fun W => right20 W z0 z1 z4 z5 z6 z7 z8 b2 b3 A o c (n : Int) ho h4)
  rw [hR] at HRT
  clear ho h4 hR
  go_enter Try.func17, Try.ntmps17
  go_wp2_with fail
  refine (HRT.out _).mono ?_
  rintro e w1 ⟨rfl, hf⟩
  have F1 := Lib.hid (((Frm.refl No w).alloc _).new0 hf)
  clear hf
  go_wp2_with fail
  go_ret2
  exact ⟨rfl, F1.out⟩
end Go.Proofs.Ytcclneaabnpbkaa
