/-
  awake: the examples of the chapter.
-/
import Derived.Test.YtgpnnnjhcjjnmaaU3
namespace Go.Proofs.Ytgpnnnjhcjjnmaa
open Go.RowKit

theorem Frm.new1 {w w1 w2 : World} {g : Nat} (h : Frm No w w1) (k : Frm (One g) w1 w2) (hg : w.heap.size ≤ g) : Frm No w w2 :=
  h.trans k (fun i hi (hs : i = g) => by omega)
theorem Frm.new2 {w w1 w2 : World} {g : Nat} {v : Value} (h : Frm No w w1) (k : Frm (Two g v) w1 w2) (hg : w.heap.size ≤ g) (hv : ∀ i, v.ownBlock = some i → w.heap.size ≤ i) : Frm No w w2 :=
  h.trans k (fun i hi hs => by
    rcases hs with hs | hs
    · have : i = g := hs
      omega
    · have := hv i hs
      omega)
theorem Frm.new0 {w w1 w2 : World} (h : Frm No w w1) (k : Frm No w1 w2) : Frm No w w2 := h.trans k (fun _ _ x => x)
/-- The block of a writer's bytes is new. -/
theorem newer {w w1 : World} {v v' : Value} (hw : w.heap.size ≤ w1.heap.size) (hv : ∀ i, v.ownBlock = some i → w.heap.size ≤ i) (h : v'.ownBlock = v.ownBlock ∨ ∀ i, v'.ownBlock = some i → w1.heap.size ≤ i) : ∀ i, v'.ownBlock = some i → w.heap.size ≤ i := by
  intro i hi
  rcases h with h | h
  · exact hv i (by rw [← h]; exact hi)
  · exact Nat.le_trans hw (h i hi)

/-- A block of bytes that was just made reads as them. -/
theorem rds_new (w : World) (bs : List UInt8) (cs : Array Value) (h : cs = (byts bs).toArray) : Rds (w.alloc (.cells cs 5)) (some ⟨w.heap.size, 0, none⟩) bs := by
  subst h
  intro _
  refine ⟨_, rfl, fun j u hu => ?_⟩
  have hadd : (⟨w.heap.size, 0, none⟩ : Addr).add j = ⟨w.heap.size, j, none⟩ := by unfold Addr.add; split <;> simp_all
  rw [hadd, (Blk.new w 5 _).cell j]
  simpa using hu

set_option maxRecDepth 100000 in
set_option maxHeartbeats 1000000 in
theorem awake (w : World) : Calls Try.prog 13 #[] w fun e w' => e = .returned (.bool true) ∧ Frm No w w' := by
  have hr0 := Lib.hid (rds_new w [1, 2, 3, 4, 5] #[.int .u8 1, .int .u8 2, .int .u8 3, .int .u8 4, .int .u8 5] rfl)
  go_enter Try.func13, Try.ntmps13
  go_wp2_with fail
  refine (newReader _ _ _ [1, 2, 3, 4, 5] hr0.out (by decide)).mono ?_
  rintro e w1 ⟨g, v, rfl, hg, hv, hrd, hf⟩
  have F1 := Lib.hid (((Frm.refl No w).alloc _).new0 hf)
  have HG : Hid (w.heap.size ≤ g) := by show w.heap.size ≤ g; simp at hg; omega
  have R1 := rU16 hrd
  rw [show be (rOut [1, 2, 3, 4, 5] 0 false 2) = 258 from by decide] at R1
  have HR1 := Lib.hid R1
  clear hg hv hrd hf R1
  go_wp2_with fail
  refine HR1.out.mono ?_
  rintro e w2 ⟨rfl, h2, f2⟩
  have F2 := Lib.hid (F1.out.new1 f2 HG.out)
  have hrd : Rd w2 g v [1, 2, 3, 4, 5] 2 false := h2
  have R2 := Lib.hid (rAt_ hrd)
  have HRD := Lib.hid hrd
  clear h2 f2 hrd
  go_wp2_with fail
  refine R2.out.mono ?_
  rintro e w2' ⟨rfl, rfl⟩
  have R3 := rLeft HRD.out
  rw [show (([1, 2, 3, 4, 5] : List UInt8).length : Int) - ((2 : Nat) : Int) = 3 from rfl] at R3
  have HR3 := Lib.hid R3
  clear R3
  go_wp2_with fail
  refine HR3.out.mono ?_
  rintro e w3 ⟨rfl, n3, rfl⟩
  have F3 := Lib.hid (F2.out.drewN n3)
  have R4 := Lib.hid (HRD.out.drewN n3)
  go_wp2_with fail
  refine (rFailed R4.out).mono ?_
  rintro e w4 ⟨rfl, rfl⟩
  have R5 := rU32 R4.out
  rw [show be (rOut [1, 2, 3, 4, 5] 2 false 4) = 0 from by decide] at R5
  have HR5 := Lib.hid R5
  clear R5
  go_wp2_with fail
  refine HR5.out.mono ?_
  rintro e w5 ⟨rfl, h5, f5⟩
  have F5 := Lib.hid (F3.out.new1 f5 HG.out)
  have R6 : Hid (Rd w5 g v [1, 2, 3, 4, 5] 2 true) := h5
  clear h5 f5
  go_wp2_with fail
  refine (rFailed R6.out).mono ?_
  rintro e w6 ⟨rfl, rfl⟩
  have R7 := rU8 R6.out
  rw [show be (rOut [1, 2, 3, 4, 5] 2 true 1) = 0 from by decide] at R7
  have HR7 := Lib.hid R7
  clear R7
  go_wp2_with fail
  refine HR7.out.mono ?_
  rintro e w7 ⟨rfl, h7, f7⟩
  have F7 := Lib.hid (F5.out.new1 f7 HG.out)
  have R8 : Hid (Rd w7 g v [1, 2, 3, 4, 5] 2 true) := h7
  clear h7 f7
  go_wp2_with fail
  refine (rAt_ R8.out).mono ?_
  rintro e w8 ⟨rfl, rfl⟩
  go_wp2_with fail
  refine (newWriter _ 5 (by omega)).mono ?_
  rintro e w9 ⟨g2, rfl, hg2, hw9, hf9⟩
  have F9 := Lib.hid (F7.out.new0 hf9)
  have W9 := Lib.hid hw9
  have HG2 : Hid (w.heap.size ≤ g2) := Nat.le_trans F7.out.size hg2
  clear hw9 hf9 hg2
  go_wp2_with fail
  refine (wU8 W9.out 7 (by omega)).mono ?_
  rintro e w10 ⟨v10, rfl, h10, f10, b10⟩
  have W10 : Hid (Wr w10 g2 v10 5 [7] false) := h10
  have F10 := Lib.hid (F9.out.new2 f10 HG2.out (fun i hi => by cases hi))
  have B10 := Lib.hid (newer (v := .slice none 0 0) F9.out.size (fun i hi => by cases hi) b10)
  clear h10 f10 b10
  go_wp2_with fail
  refine (wU16 W10.out 258 (by omega)).mono ?_
  rintro e w11 ⟨v11, rfl, h11, f11, b11⟩
  have W11 : Hid (Wr w11 g2 v11 5 [7, 1, 2] false) := h11
  have F11 := Lib.hid (F10.out.new2 f11 HG2.out B10.out)
  have B11 := Lib.hid (newer F10.out.size B10.out b11)
  clear h11 f11 b11
  go_wp2_with fail
  refine (wZeros W11.out 1).mono ?_
  rintro e w12 ⟨v12, rfl, h12, f12, b12⟩
  have W12 : Hid (Wr w12 g2 v12 5 [7, 1, 2, 0] false) := h12
  have F12 := Lib.hid (F11.out.new2 f12 HG2.out B11.out)
  have B12 := Lib.hid (newer F11.out.size B11.out b12)
  clear h12 f12 b12
  go_wp2_with fail
  refine (wSet16 W12.out 2 65535 (by omega)).mono ?_
  rintro e w13 ⟨rfl, h13, f13⟩
  have W13 : Hid (Wr w13 g2 v12 5 [7, 1, 255, 255] false) := h13
  have F13 := Lib.hid (F12.out.new2 f13 HG2.out B12.out)
  clear h13 f13
  go_wp2_with fail
  refine (wDone W13.out).mono ?_
  rintro e w14 ⟨x14, rfl, h14, f14⟩
  have O14 : Hid (w14.ownsRow w13.heap.size 5 1 x14 4 (byts [7, 1, 255, 255])) := h14
  have F14 := Lib.hid (F13.out.new0 f14)
  have W14 := Lib.hid (W13.out.frm f14 (fun x => x) (fun _ _ x => x))
  clear h14 f14
  go_wp2_with fail
  refine (wU16 W14.out 1 (by omega)).mono ?_
  rintro e w15 ⟨v15, rfl, h15, f15, b15⟩
  have W15 : Hid (Wr w15 g2 v15 5 [7, 1, 255, 255] true) := h15
  have F15 := Lib.hid (F14.out.new2 f15 HG2.out B12.out)
  have O15 := Lib.hid (f15.own O14.out (fun i hi => by
    have h1 := (own_lt O14.out hi).1
    have h2 := W13.out.blk.lt
    rintro (h | h)
    · omega
    · have := (own_lt W13.out.own h).2
      omega))
  clear h15 f15 b15
  go_wp2_with fail
  refine (wDone W15.out).mono ?_
  rintro e w16 ⟨x16, rfl, h16, f16⟩
  have F16 := Lib.hid (F15.out.new0 f16)
  have W16 := Lib.hid (W15.out.frm f16 (fun x => x) (fun _ _ x => x))
  have O16 := f16.own O15.out (fun _ _ x => x)
  obtain ⟨A16, c16, rfl, hl16, hs16, hb16⟩ := Src.of_own O16
  have S16 := Lib.hid hs16.rds
  clear h16 f16 O16 hs16 hl16 hb16
  have r16 := rds_new w16 [7, 1, 255, 255] #[.int .u8 7, .int .u8 1, .int .u8 255, .int .u8 255] rfl
  have Q16 := sames_any _ A16 (some ⟨w16.heap.size, 0, none⟩) c16 4 [7, 1, 255, 255] [7, 1, 255, 255] (S16.out.alloc _) r16 (by decide)
  rw [show decide (([7, 1, 255, 255] : List UInt8) = [7, 1, 255, 255]) = true from by decide] at Q16
  have HQ16 := Lib.hid Q16
  clear r16 Q16
  go_wp2_with fail
  refine HQ16.out.mono ?_
  rintro e w17 ⟨rfl, n17, rfl⟩
  have F17 := Lib.hid ((F16.out.alloc (.cells #[.int .u8 7, .int .u8 1, .int .u8 255, .int .u8 255] 5)).drewN n17)
  have W17 := Lib.hid ((W16.out.frm ((Frm.refl No _).alloc (.cells #[.int .u8 7, .int .u8 1, .int .u8 255, .int .u8 255] 5)) (fun x => x) (fun _ _ x => x)).drewN n17)
  go_wp2_with fail
  refine (wLen W17.out).mono ?_
  rintro e w18 ⟨rfl, rfl⟩
  obtain ⟨w18, hw18⟩ : ∃ w18, w18 = (w16.alloc (.cells #[.int .u8 7, .int .u8 1, .int .u8 255, .int .u8 255] 5)).drewN n17 := ⟨_, rfl⟩
  rw [← hw18] at F17 ⊢
  clear hw18
  go_wp2_with fail
  have r18 := rds_new w18 [0, 31, 255] #[.int .u8 0, .int .u8 31, .int .u8 255] rfl
  have Q18 := hex_any _ (some ⟨w18.heap.size, 0, none⟩) 3 [0, 31, 255] r18 (by decide)
  rw [show (hexs [0, 31, 255]).toArray = #[48, 48, 49, 102, 102, 102] from by decide] at Q18
  have HQ18 := Lib.hid Q18
  clear r18 Q18
  refine HQ18.out.mono ?_
  rintro e w19 ⟨rfl, f19⟩
  have F19 := Lib.hid ((F17.out.alloc _).new0 f19)
  clear f19
  go_wp2_with fail
  refine (unhex_any ⟨#[]⟩ _ (by decide)).mono ?_
  rintro e w20 ⟨v20, rfl, h20, f20⟩
  obtain ⟨A20, c20, rfl, hl20, hs20, hb20⟩ := Src.of_own h20
  have F20 := Lib.hid (F19.out.new0 f20)
  clear h20 f20 hl20 hs20 hb20
  have B20 := Lib.hid (Blk.new w20 9 #[.string ⟨#[48, 48, 49, 70, 70, 70]⟩, .string ⟨#[49]⟩, .string ⟨#[48, 103]⟩])
  have G20 := Lib.hid (F20.out.alloc (.cells #[.string ⟨#[48, 48, 49, 70, 70, 70]⟩, .string ⟨#[49]⟩, .string ⟨#[48, 103]⟩] 9))
  go_wp2_with fail
  refine wp_loop_rounds 4 ?_
  rw [rounds_succ]
  have c21 := (B20.out.cell 0).trans rfl
  go_wp2_with fail
  refine (unhex_any ⟨#[48, 48, 49, 70, 70, 70]⟩ _ (by decide)).mono ?_
  rintro e w21 ⟨rfl, f21⟩
  have B21 := Lib.hid (B20.out.frm f21 (fun x => x))
  have G21 := Lib.hid (G20.out.new0 f21)
  clear f21 c21
  go_wp2_with fail
  rw [rounds_succ]
  have c22 := (B21.out.cell 1).trans rfl
  go_wp2_with fail
  refine (unhex_any ⟨#[49]⟩ _ (by decide)).mono ?_
  rintro e w22 ⟨rfl, f22⟩
  have B22 := Lib.hid (B21.out.frm f22 (fun x => x))
  have G22 := Lib.hid (G21.out.new0 f22)
  clear f22 c22
  go_wp2_with fail
  rw [rounds_succ]
  have c23 := (B22.out.cell 2).trans rfl
  go_wp2_with fail
  refine (unhex_any ⟨#[48, 103]⟩ _ (by decide)).mono ?_
  rintro e w23 ⟨rfl, f23⟩
  have B23 := Lib.hid (B22.out.frm f23 (fun x => x))
  have G23 := Lib.hid (G22.out.new0 f23)
  clear f23 c23
  go_wp2_with fail
  rw [rounds_succ]
  go_wp2_with fail
  go_ret
  exact ⟨rfl, G23.out⟩
end Go.Proofs.Ytgpnnnjhcjjnmaa
