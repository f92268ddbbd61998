/-
  WireWrong: what Hex gave, made wrong, isn't read.
-/
import Derived.Test.YtgpnnnjhcjjnmaaA1
import Derived.Test.YtgpnnnjhcjjnmaaO1
import Derived.BigRegion
namespace Go.Proofs.Ytgpnnnjhcjjnmaa
open Go.RowKit

theorem conv_one (w : World) (z : Nat) (h1 : z ≤ 255) : (convert 22 9 (.slice (some ⟨w.heap.size, 0, none⟩) 1 1)).run Try.prog (w.alloc (.cells #[.int .u8 (z : Int)] 5)).drew = .ok (.string ⟨#[UInt8.ofNat z]⟩) (w.alloc (.cells #[.int .u8 (z : Int)] 5)).drew := by
  have e : #[Value.int .u8 z] = (byts [UInt8.ofNat z]).toArray := by simp [byts, byt]; omega
  have h : (w.alloc (.cells #[.int .u8 z] 5)).drew.ownsRow w.heap.size 5 1 (.slice (some ⟨w.heap.size, 0, none⟩) 1 1) 1 (byts [UInt8.ofNat z]) := by
    rw [e]
    exact ⟨by simp [byts], .inr ⟨w.heap.size, 1, (byts [UInt8.ofNat z]).toArray, rfl, Nat.le_refl _, heap_alloc_new w _, Nat.le_refl _, by unfold maxLen; omega, by simp [byts], by simp [byts]⟩⟩
  exact string_of h

theorem or128 (y : Nat) (hy : y < 256) : ∃ z : Nat, bits BinOp.or IntKind.u8 (y : Int) 128 = (z : Int) ∧ 128 ≤ z ∧ z < 256 := by
  have h : ∀ y : Fin 256, bits BinOp.or IntKind.u8 ((y.1 : Nat) : Int) 128 = (((bits BinOp.or IntKind.u8 ((y.1 : Nat) : Int) 128).toNat : Nat) : Int) ∧ (bits BinOp.or IntKind.u8 ((y.1 : Nat) : Int) 128).toNat < 256 ∧ 128 ≤ (bits BinOp.or IntKind.u8 ((y.1 : Nat) : Int) 128).toNat := by decide +kernel
  obtain ⟨a, b, c⟩ := h ⟨y, hy⟩
  exact ⟨_, a, c, b⟩

theorem unhexs_bad : ∀ (l : List UInt8) (x : UInt8), x ∈ l → good x.toNat = false → unhexs l = none
  | [], x, h, _ => by simp at h
  | [a], _, _, _ => rfl
  | a :: b :: l, x, h, hg => by
    rw [unhexs_two]
    rcases List.mem_cons.1 h with rfl | h
    · simp [hg]
    · rcases List.mem_cons.1 h with rfl | h
      · simp [hg]
      · rw [unhexs_bad l x h hg]
        split <;> rfl

/-- A string that is not read. -/
def Bad (s : ByteArray) : Prop := s.size ≤ 262144 ∧ unhexs s.data.toList = none

theorem bad_odd (t : ByteArray) (n : Nat) (h : t.size = 2 * n) (hn : n ≤ 2000) : Bad (t ++ ⟨#[48]⟩) := by
  have e : (t ++ ⟨#[48]⟩ : ByteArray).size = 2 * n + 1 := by rw [ByteArray.size_append, h]; rfl
  refine ⟨by omega, unhexs_odd n _ ?_⟩
  rw [Array.length_toList]
  exact e

theorem bad_mid (t : ByteArray) (m n : Nat) (h : t.size = 2 * n) (hn : n ≤ 2000) (hm : m ≤ 2 * n) (N : Nat) (hN : N = 2 * n) (ch : UInt8) (hch : good ch.toNat = false) : Bad (t.extract 0 m ++ ⟨#[ch]⟩ ++ t.extract m N ++ ⟨#[48]⟩) := by
  have e : (t.extract 0 m ++ ⟨#[ch]⟩ ++ t.extract m N ++ ⟨#[48]⟩ : ByteArray).size = 2 * n + 2 := by
    simp only [ByteArray.size_append, ByteArray.size_extract, h, hN]
    show _ + 1 + _ + 1 = _
    omega
  refine ⟨by omega, unhexs_bad _ ch ?_ hch⟩
  simp [ByteArray.data_append]

theorem unhex_bad (s : ByteArray) (w : World) (h : Bad s) : Calls Try.prog 39 #[.string s] w fun e w' => e = .returned (.tuple #[.slice none 0 0, .int .i64 10]) ∧ Frm No w w' :=
  unhex_none s w h.1 h.2

theorem good_high (z : Nat) (h : 128 ≤ z) (h2 : z < 256) : good (UInt8.ofNat z).toNat = false := by
  have e : (UInt8.ofNat z).toNat = z := by simp; omega
  rw [e]
  simp [good]
  omega

set_option maxRecDepth 100000 in
set_option maxHeartbeats 2000000 in
theorem wireWrong (w : World) (A : Option Addr) (c n : Nat) (bs : List UInt8) (hn : bs.length = n) (x y : Nat) (h : Src w A c bs) (hx : x < 65536) (hy : y < 256) :
    Calls Try.prog 11 #[.slice A n c, .int .u16 (x : Int), .int .u8 (y : Int)] w fun e w' => e = .returned (.bool true) ∧ Frm No w w' := by
  subst hn
  obtain ⟨cs, hcs⟩ : ∃ cs, cs = bs.take 2000 := ⟨_, rfl⟩
  have hcl : cs.length = min 2000 bs.length := by rw [hcs, List.length_take]
  have H : Hid (Src w A c cs) := by
    show Src w A c cs
    rw [hcs]
    exact ⟨h.rds.take 2000, by rw [List.length_take]; have := h.le; omega, h.nil⟩
  have HCL := Lib.hid hcl
  have hc := h.le
  clear h hcs hcl
  go_enter Try.func11, Try.ntmps11
  go_wp2_with fail
  refine (awake w).mono ?_
  rintro e w1 ⟨rfl, f1⟩
  have F1 := Lib.hid f1
  clear f1
  go_wp2_with fail
  all_goals
    refine (hex_n _ _ _ _ cs (by have := HCL.out; omega) (H.out.rds.frm F1.out (fun _ _ x => x)) (by omega)).mono ?_
    rintro e w2 ⟨t, rfl, ht, htn, f2⟩
    have F2 := Lib.hid (F1.out.new0 f2)
    have HT := Lib.hid ht
    clear f2 ht
    go_wp2_with fail
  · obtain ⟨m, hm, hm2⟩ : ∃ m : Nat, (x : Int) % 4001 = m ∧ m ≤ 4000 := ⟨((x : Int) % 4001).toNat, by omega, by omega⟩
    rw [hm]
    have b1 : (m : Int) ≤ t.size := by omega
    obtain ⟨z, hz, hz2, hz3⟩ := or128 y hy
    have hcv := conv_one w2 z (by omega)
    go_region
    clear hcv
    obtain ⟨s1, hs1⟩ : ∃ s, t ++ { data := #[48] } = s := ⟨_, rfl⟩
    obtain ⟨s2, hs2⟩ : ∃ s, t.extract 0 m ++ { data := #[65] } ++ t.extract m 4000 ++ { data := #[48] } = s := ⟨_, rfl⟩
    obtain ⟨s3, hs3⟩ : ∃ s, t.extract 0 m ++ { data := #[71] } ++ t.extract m 4000 ++ { data := #[48] } = s := ⟨_, rfl⟩
    obtain ⟨s4, hs4⟩ : ∃ s, t.extract 0 m ++ { data := #[32] } ++ t.extract m 4000 ++ { data := #[48] } = s := ⟨_, rfl⟩
    obtain ⟨s5, hs5⟩ : ∃ s, t.extract 0 m ++ { data := #[UInt8.ofNat z] } ++ t.extract m 4000 ++ { data := #[48] } = s := ⟨_, rfl⟩
    rw [hs1, hs2, hs3, hs4, hs5]
    have HB1 : Hid (Bad s1) := by show Bad s1; rw [← hs1]; exact bad_odd t 2000 htn (by omega)
    have HB2 : Hid (Bad s2) := by show Bad s2; rw [← hs2]; exact bad_mid t m 2000 htn (by omega) (by omega) _ (by omega) 65 (by decide)
    have HB3 : Hid (Bad s3) := by show Bad s3; rw [← hs3]; exact bad_mid t m 2000 htn (by omega) (by omega) _ (by omega) 71 (by decide)
    have HB4 : Hid (Bad s4) := by show Bad s4; rw [← hs4]; exact bad_mid t m 2000 htn (by omega) (by omega) _ (by omega) 32 (by decide)
    have HB5 : Hid (Bad s5) := by show Bad s5; rw [← hs5]; exact bad_mid t m 2000 htn (by omega) (by omega) _ (by omega) _ (good_high z hz2 hz3)
    clear hs1 hs2 hs3 hs4 hs5
    have BB : Hid (Blk (((w2.alloc (.cells #[.int .u8 (z : Int)] 5)).alloc (.cells #[.string s1, .string s2, .string s3, .string s4, .string s5] 9)).drew) (w2.heap.size + 1) 9 #[.string s1, .string s2, .string s3, .string s4, .string s5]) := by
      have h := (Blk.new (w2.alloc (.cells #[.int .u8 (z : Int)] 5)) 9 #[.string s1, .string s2, .string s3, .string s4, .string s5]).drew
      rw [show (w2.alloc (.cells #[.int .u8 (z : Int)] 5)).heap.size = w2.heap.size + 1 from by simp] at h
      exact h
    have FF := Lib.hid ((((F2.out.alloc (.cells #[.int .u8 (z : Int)] 5)).alloc (.cells #[.string s1, .string s2, .string s3, .string s4, .string s5] 9))).drew)
    go_wp2_with fail
    refine wp_loop_rounds 6 ?_
    rw [rounds_succ]
    have c1 := (BB.out.cell 0).trans rfl
    go_wp2_with fail
    refine (unhex_bad s1 _ HB1.out).mono ?_
    rintro e u1 ⟨rfl, g1⟩
    have BB' := Lib.hid (BB.out.frm g1 (fun x => x))
    have FF' := Lib.hid (FF.out.new0 g1)
    clear g1 c1 BB FF
    have BB := BB'
    have FF := FF'
    clear BB' FF'
    go_wp2_with fail
    rw [rounds_succ]
    have c2 := (BB.out.cell 1).trans rfl
    go_wp2_with fail
    refine (unhex_bad s2 _ HB2.out).mono ?_
    rintro e u2 ⟨rfl, g2⟩
    have BB' := Lib.hid (BB.out.frm g2 (fun x => x))
    have FF' := Lib.hid (FF.out.new0 g2)
    clear g2 c2 BB FF
    have BB := BB'
    have FF := FF'
    clear BB' FF'
    go_wp2_with fail
    rw [rounds_succ]
    have c3 := (BB.out.cell 2).trans rfl
    go_wp2_with fail
    refine (unhex_bad s3 _ HB3.out).mono ?_
    rintro e u3 ⟨rfl, g3⟩
    have BB' := Lib.hid (BB.out.frm g3 (fun x => x))
    have FF' := Lib.hid (FF.out.new0 g3)
    clear g3 c3 BB FF
    have BB := BB'
    have FF := FF'
    clear BB' FF'
    go_wp2_with fail
    rw [rounds_succ]
    have c4 := (BB.out.cell 3).trans rfl
    go_wp2_with fail
    refine (unhex_bad s4 _ HB4.out).mono ?_
    rintro e u4 ⟨rfl, g4⟩
    have BB' := Lib.hid (BB.out.frm g4 (fun x => x))
    have FF' := Lib.hid (FF.out.new0 g4)
    clear g4 c4 BB FF
    have BB := BB'
    have FF := FF'
    clear BB' FF'
    go_wp2_with fail
    rw [rounds_succ]
    have c5 := (BB.out.cell 4).trans rfl
    go_wp2_with fail
    refine (unhex_bad s5 _ HB5.out).mono ?_
    rintro e u5 ⟨rfl, g5⟩
    have BB' := Lib.hid (BB.out.frm g5 (fun x => x))
    have FF' := Lib.hid (FF.out.new0 g5)
    clear g5 c5 BB FF
    have BB := BB'
    have FF := FF'
    clear BB' FF'
    go_wp2_with fail
    rw [rounds_succ]
    go_wp2
    go_ret
    exact ⟨rfl, FF.out⟩
  · obtain ⟨m, hm, hm2⟩ : ∃ m : Nat, (x : Int) % (2 * (bs.length : Int) + 1) = m ∧ m ≤ 2 * bs.length := ⟨x % (2 * bs.length + 1), by simp, by have := Nat.mod_lt x (show 2 * bs.length + 1 > 0 by omega); omega⟩
    rw [hm]
    have b1 : (m : Int) ≤ t.size := by omega
    obtain ⟨z, hz, hz2, hz3⟩ := or128 y hy
    have hcv := conv_one w2 z (by omega)
    go_region
    clear hcv
    obtain ⟨s1, hs1⟩ : ∃ s, t ++ { data := #[48] } = s := ⟨_, rfl⟩
    obtain ⟨s2, hs2⟩ : ∃ s, t.extract 0 m ++ { data := #[65] } ++ t.extract m (2 * bs.length) ++ { data := #[48] } = s := ⟨_, rfl⟩
    obtain ⟨s3, hs3⟩ : ∃ s, t.extract 0 m ++ { data := #[71] } ++ t.extract m (2 * bs.length) ++ { data := #[48] } = s := ⟨_, rfl⟩
    obtain ⟨s4, hs4⟩ : ∃ s, t.extract 0 m ++ { data := #[32] } ++ t.extract m (2 * bs.length) ++ { data := #[48] } = s := ⟨_, rfl⟩
    obtain ⟨s5, hs5⟩ : ∃ s, t.extract 0 m ++ { data := #[UInt8.ofNat z] } ++ t.extract m (2 * bs.length) ++ { data := #[48] } = s := ⟨_, rfl⟩
    rw [hs1, hs2, hs3, hs4, hs5]
    have HB1 : Hid (Bad s1) := by show Bad s1; rw [← hs1]; exact bad_odd t bs.length htn (by omega)
    have HB2 : Hid (Bad s2) := by show Bad s2; rw [← hs2]; exact bad_mid t m bs.length htn (by omega) (by omega) _ (by omega) 65 (by decide)
    have HB3 : Hid (Bad s3) := by show Bad s3; rw [← hs3]; exact bad_mid t m bs.length htn (by omega) (by omega) _ (by omega) 71 (by decide)
    have HB4 : Hid (Bad s4) := by show Bad s4; rw [← hs4]; exact bad_mid t m bs.length htn (by omega) (by omega) _ (by omega) 32 (by decide)
    have HB5 : Hid (Bad s5) := by show Bad s5; rw [← hs5]; exact bad_mid t m bs.length htn (by omega) (by omega) _ (by omega) _ (good_high z hz2 hz3)
    clear hs1 hs2 hs3 hs4 hs5
    have BB : Hid (Blk (((w2.alloc (.cells #[.int .u8 (z : Int)] 5)).alloc (.cells #[.string s1, .string s2, .string s3, .string s4, .string s5] 9)).drew) (w2.heap.size + 1) 9 #[.string s1, .string s2, .string s3, .string s4, .string s5]) := by
      have h := (Blk.new (w2.alloc (.cells #[.int .u8 (z : Int)] 5)) 9 #[.string s1, .string s2, .string s3, .string s4, .string s5]).drew
      rw [show (w2.alloc (.cells #[.int .u8 (z : Int)] 5)).heap.size = w2.heap.size + 1 from by simp] at h
      exact h
    have FF := Lib.hid ((((F2.out.alloc (.cells #[.int .u8 (z : Int)] 5)).alloc (.cells #[.string s1, .string s2, .string s3, .string s4, .string s5] 9))).drew)
    go_wp2_with fail
    refine wp_loop_rounds 6 ?_
    rw [rounds_succ]
    have c1 := (BB.out.cell 0).trans rfl
    go_wp2_with fail
    refine (unhex_bad s1 _ HB1.out).mono ?_
    rintro e u1 ⟨rfl, g1⟩
    have BB' := Lib.hid (BB.out.frm g1 (fun x => x))
    have FF' := Lib.hid (FF.out.new0 g1)
    clear g1 c1 BB FF
    have BB := BB'
    have FF := FF'
    clear BB' FF'
    go_wp2_with fail
    rw [rounds_succ]
    have c2 := (BB.out.cell 1).trans rfl
    go_wp2_with fail
    refine (unhex_bad s2 _ HB2.out).mono ?_
    rintro e u2 ⟨rfl, g2⟩
    have BB' := Lib.hid (BB.out.frm g2 (fun x => x))
    have FF' := Lib.hid (FF.out.new0 g2)
    clear g2 c2 BB FF
    have BB := BB'
    have FF := FF'
    clear BB' FF'
    go_wp2_with fail
    rw [rounds_succ]
    have c3 := (BB.out.cell 2).trans rfl
    go_wp2_with fail
    refine (unhex_bad s3 _ HB3.out).mono ?_
    rintro e u3 ⟨rfl, g3⟩
    have BB' := Lib.hid (BB.out.frm g3 (fun x => x))
    have FF' := Lib.hid (FF.out.new0 g3)
    clear g3 c3 BB FF
    have BB := BB'
    have FF := FF'
    clear BB' FF'
    go_wp2_with fail
    rw [rounds_succ]
    have c4 := (BB.out.cell 3).trans rfl
    go_wp2_with fail
    refine (unhex_bad s4 _ HB4.out).mono ?_
    rintro e u4 ⟨rfl, g4⟩
    have BB' := Lib.hid (BB.out.frm g4 (fun x => x))
    have FF' := Lib.hid (FF.out.new0 g4)
    clear g4 c4 BB FF
    have BB := BB'
    have FF := FF'
    clear BB' FF'
    go_wp2_with fail
    rw [rounds_succ]
    have c5 := (BB.out.cell 4).trans rfl
    go_wp2_with fail
    refine (unhex_bad s5 _ HB5.out).mono ?_
    rintro e u5 ⟨rfl, g5⟩
    have BB' := Lib.hid (BB.out.frm g5 (fun x => x))
    have FF' := Lib.hid (FF.out.new0 g5)
    clear g5 c5 BB FF
    have BB := BB'
    have FF := FF'
    clear BB' FF'
    go_wp2_with fail
    rw [rounds_succ]
    go_wp2
    go_ret
    exact ⟨rfl, FF.out⟩
end Go.Proofs.Ytgpnnnjhcjjnmaa
