/-
  AddrWrong answers true.
-/
import Derived.Test.YtknmnlbgjpbgiaaDoorN1
namespace Go.Proofs.YtknmnlbgjpbgiaaDoor
open Go.RowKit
attribute [local go_sem] undef
attribute [local irreducible] wpList wpQuiet

theorem or_bit (c m k : Nat) (hc : c < 4294967296) (h0 : c % sz m = 0) (hk : k < 32 - m) : bits .or .u32 (c : Int) (2 ^ min k 32 % 4294967296) = ((c + 2 ^ k : Nat) : Int) ∧ c + 2 ^ k < 4294967296 ∧ rightB (c + 2 ^ k) m = false := by
  have hlt : 2 ^ k < sz m := Nat.pow_lt_pow_right (by omega) hk
  have hle := sz_le m
  have hp : 0 < 2 ^ k := Nat.two_pow_pos k
  have hr := right_room c m hc h0
  have e1 : (2 : Int) ^ min k 32 % 4294967296 = ((2 ^ k : Nat) : Int) := by
    rw [Nat.min_eq_left (by omega), show (2 : Int) ^ k = ((2 ^ k : Nat) : Int) by simp]
    omega
  have e : bits .or .u32 (c : Int) ((2 ^ k : Nat) : Int) = IntKind.u32.wrap ((BitVec.ofInt 32 (c : Int) ||| BitVec.ofInt 32 ((2 ^ k : Nat) : Int)).toNat : Int) := rfl
  refine ⟨?_, by omega, ?_⟩
  · rw [e1, e, BitVec.toNat_or, toNat_u32 c hc, toNat_u32 _ (by omega)]
    have hd := Nat.div_add_mod c (sz m)
    have h1 := Nat.two_pow_add_eq_or_of_lt (i := 32 - m) (b := 2 ^ k) hlt (c / sz m)
    have h2 : 2 ^ (32 - m) * (c / sz m) = c := by
      show sz m * (c / sz m) = c
      omega
    rw [h2] at h1
    rw [← h1, wrap_u32_nat _ (by omega)]
  · unfold rightB
    apply decide_eq_false
    rintro ⟨_, hm⟩
    obtain ⟨u, rfl⟩ := Nat.dvd_of_mod_eq_zero h0
    rw [Nat.mul_add_mod, Nat.mod_eq_of_lt hlt] at hm
    omega

/-- What a prefix that is not right has. -/
structure Bad (x y c m : Nat) : Prop where
  PT : ∀ W, Tab W → Calls Tryd.prog 23 #[.agg #[.int .u32 (x : Int), .int .u8 (y : Int)]] W fun e w' => e = .returned (.tuple #[.string ⟨#[]⟩, .int .i64 31]) ∧ Frm No W w'
  BD : ∀ W, Calls Tryd.prog 16 #[.agg #[.int .u32 (x : Int), .int .u8 (y : Int)]] W fun e w' => e = .returned (.tuple #[.int .u32 0, .int .u32 0, .int .i64 31]) ∧ Frm No W w'
  RT : ∀ W, Calls Tryd.prog 17 #[.agg #[.int .u32 (x : Int), .int .u8 (y : Int)]] W (BoolNo false W)
  HS : ∀ W, Calls Tryd.prog 18 #[.agg #[.int .u32 (x : Int), .int .u8 (y : Int)], .int .u32 (x : Int)] W (BoolNo false W)
  I1 : ∀ W, Calls Tryd.prog 20 #[.agg #[.int .u32 (x : Int), .int .u8 (y : Int)], .agg #[.int .u32 (c : Int), .int .u8 (m : Int)]] W (BoolNo false W)
  I2 : ∀ W, Calls Tryd.prog 20 #[.agg #[.int .u32 (c : Int), .int .u8 (m : Int)], .agg #[.int .u32 (x : Int), .int .u8 (y : Int)]] W (BoolNo false W)
  I3 : ∀ W, Calls Tryd.prog 20 #[.agg #[.int .u32 (x : Int), .int .u8 (y : Int)], .agg #[.int .u32 (x : Int), .int .u8 (y : Int)]] W (BoolNo false W)
  M1 : ∀ W, Calls Tryd.prog 29 #[.agg #[.int .u32 (x : Int), .int .u8 (y : Int)], .agg #[.int .u32 (c : Int), .int .u8 (m : Int)]] W (BoolNo false W)
  M2 : ∀ W, Calls Tryd.prog 29 #[.agg #[.int .u32 (c : Int), .int .u8 (m : Int)], .agg #[.int .u32 (x : Int), .int .u8 (y : Int)]] W (BoolNo false W)
  M3 : ∀ W, Calls Tryd.prog 29 #[.agg #[.int .u32 (x : Int), .int .u8 (y : Int)], .agg #[.int .u32 (x : Int), .int .u8 (y : Int)]] W (BoolNo false W)

theorem bad_of (x y c m : Nat) (hx : x < 4294967296) (hy : y < 256) (hc : c < 4294967296) (hm : m < 256) (h : rightB x y = false) : Bad x y c m := by
  have h1 : ∀ z, hasB x y z = false := fun z => by unfold hasB; rw [h]; rfl
  have h2 : ∀ u v, insideB x y u v = false := fun u v => by unfold insideB; rw [h]; rfl
  have h3 : ∀ u v, insideB u v x y = false := fun u v => by unfold insideB; rw [h1, Bool.and_false]
  have h4 : ∀ u v, meetB x y u v = false := fun u v => by unfold meetB; rw [h2, h3]; rfl
  have h5 : ∀ u v, meetB u v x y = false := fun u v => by unfold meetB; rw [h2, h3]; rfl
  refine ⟨fun W ht => ?_, fun W => ?_, fun W => h ▸ right_pfx W x y hx hy, fun W => h1 x ▸ has_pfx W x y x hx hy hx, fun W => h2 c m ▸ inside_pfx W x y c m hx hy hc hm, fun W => h3 c m ▸ inside_pfx W c m x y hc hm hx hy,
    fun W => h2 x y ▸ inside_pfx W x y x y hx hy hx hy, fun W => h4 c m ▸ meet_pfx W x y c m hx hy hc hm, fun W => h5 c m ▸ meet_pfx W c m x y hc hm hx hy, fun W => h4 x y ▸ meet_pfx W x y x y hx hy hx hy⟩
  · refine (ptext_pfx W ht x y hx hy).mono ?_
    rintro e w' ⟨he, hw⟩
    unfold pfxTextV at he
    rw [if_neg (by rw [h]; decide)] at he
    exact ⟨he, hw⟩
  · refine (bounds_pfx W x y hx hy).mono ?_
    rintro e w' ⟨he, hw⟩
    unfold boundsV at he
    rw [if_neg (by rw [h]; decide)] at he
    exact ⟨he, hw⟩

theorem rtext_bad (w : World) (f t : Nat) (h : ¬ f ≤ t) : Calls Tryd.prog 27 #[.agg #[.int .u16 (f : Int), .int .u16 (t : Int)]] w fun e w' => e = .returned (.tuple #[.string ⟨#[]⟩, .int .i64 32]) ∧ Frm No w w' := by
  refine (rtext_no w f t h).mono ?_
  rintro e w' ⟨he, hw⟩
  unfold rngTextV at he
  rw [if_neg h] at he
  exact ⟨he, hw⟩
theorem in_bad (X Y z : Nat) (h : ¬ (X ≤ z ∧ z ≤ Y)) : (decide (X ≤ z) && decide (z ≤ Y)) = false := by
  rw [← Bool.decide_and]
  exact decide_eq_false h
theorem beq_f' (x y : Nat) (h : ¬ x = y) : ((x : Int) == y) = false := by
  rw [Bool.eq_false_iff]
  simp
  omega
theorem cut_no (w : World) (a n : Nat) (ha : a < 4294967296) (h : 32 < n) (hn : n < 256) : Calls Tryd.prog 19 #[.int .u32 (a : Int), .int .u8 (n : Int)] w fun e w' => e = .returned (.tuple #[.agg #[.int .u32 0, .int .u8 0], .int .i64 2]) ∧ Frm No w w' := by
  refine (cut_pfx w a n ha hn).mono ?_
  rintro e w' ⟨he, hw⟩
  unfold cutV at he
  rw [if_neg (by omega)] at he
  exact ⟨he, hw⟩

theorem size_alloc' (w : World) (o : Obj) : (w.alloc o).heap.size = w.heap.size + 1 := by
  show (w.heap.push o).size = _
  exact Array.size_push ..

set_option maxRecDepth 100000 in
set_option maxHeartbeats 2000000 in
theorem addrWrong (w : World) (htab : Tab w) (a n0 b0 f t : Nat) (ha : a < 4294967296) (hn0 : n0 < 256) (hb0 : b0 < 256) (hf : f < 65536) (ht : t < 65536) :
    Calls Tryd.prog 11 #[.int .u32 (a : Int), .int .u8 (n0 : Int), .int .u8 (b0 : Int), .int .u16 (f : Int), .int .u16 (t : Int)] w fun e w' => e = .returned (.bool true) ∧ Frm No w w' := by
  have T0 := Lib.hid htab
  clear htab
  obtain ⟨m, hm⟩ : ∃ m, n0 % 32 = m := ⟨_, rfl⟩
  have em : (n0 : Int) % 32 = (m : Int) := by omega
  have X1 := Lib.hid (fun W => cut_yes W a m ha (by omega))
  go_enter Tryd.func11, Tryd.ntmps11
  go_wp2_with fail
  refine (awake _ T0.out).mono ?_
  rintro e w1 ⟨rfl, hf⟩
  have F1 := Lib.hid hf
  clear hf
  go_wp2_with fail
  refine (X1.out _).mono ?_
  rintro e w2 ⟨rfl, hf⟩
  have F2 := Lib.hid (F1.out.new0 hf)
  clear hf F1 X1
  obtain ⟨c, hc⟩ : ∃ c, cutN a m = c := ⟨_, rfl⟩
  rw [hc]
  have HC0 : c % sz m = 0 := by rw [← hc]; exact cut_mod a m
  have HCL : c < 4294967296 := by rw [← hc]; exact Nat.lt_of_le_of_lt (cut_le a m) ha
  have hsz := Lib.hid F2.out.size
  clear hc
  obtain ⟨W2, hW2⟩ : ∃ W, (w2.alloc (.cells #[.int .u32 (c : Int), .int .u8 (m : Int)] 24)).alloc (.cells #[.int .u32 (c : Int), .int .u8 (m : Int)] 24) = W := ⟨_, rfl⟩
  have F3 : Hid (Frm No w W2) := by
    show Frm No w W2
    rw [← hW2]
    exact (F2.out.alloc _).alloc _
  have BG : Hid (Blk W2 w2.heap.size 24 #[.int .u32 (c : Int), .int .u8 (m : Int)]) := by
    show Blk W2 _ _ _
    rw [← hW2]
    exact (Blk.new w2 _ _).alloc _
  have BB : Hid (Blk W2 (w2.heap.size + 1) 24 #[.int .u32 (c : Int), .int .u8 (m : Int)]) := by
    show Blk W2 _ _ _
    rw [← hW2]
    have := Blk.new (w2.alloc (.cells #[.int .u32 (c : Int), .int .u8 (m : Int)] 24)) 24 #[.int .u32 (c : Int), .int .u8 (m : Int)]
    rw [size_alloc'] at this
    exact this
  go_upto_region 7 with fail
  try rw [hW2]
  clear hW2 F2
  obtain ⟨c0, c1, z0, z1⟩ := blk_cells2 BB.out
  obtain ⟨k, hk⟩ : ∃ k, b0 % (32 - m) = k := ⟨_, rfl⟩
  have ek : (b0 : Int) % (32 - (m : Int)) = (k : Int) := by
    rw [show (32 : Int) - (m : Int) = ((32 - m : Nat) : Int) by omega, ← hk, Int.natCast_emod]
  have OB := or_bit c m k HCL HC0 (by rw [← hk]; exact Nat.mod_lt _ (by omega))
  have OB1 := Lib.hid OB.1
  have OB2 := Lib.hid OB.2
  clear OB
  go_region
  rw [OB1.out]
  clear OB1
  obtain ⟨d, hd⟩ : ∃ d, c + 2 ^ k = d := ⟨_, rfl⟩
  rw [hd] at OB2 ⊢
  clear hd ek hk
  obtain ⟨W3, hW3⟩ : ∃ W, (W2.setCell ⟨w2.heap.size + 1, 0, none⟩ (.int .u32 (d : Int))).drew = W := ⟨_, rfl⟩
  have F4 : Hid (Frm No w W3) := by
    show Frm No w W3
    rw [← hW3]
    have := hsz.out
    exact (F3.out.setCell (p := ⟨w2.heap.size + 1, 0, none⟩) (fun hx => absurd hx (by show ¬ w2.heap.size + 1 < _; omega)) _).drew
  have CG : Hid (Blk W3 w2.heap.size 24 #[.int .u32 (c : Int), .int .u8 (m : Int)]) := by
    show Blk W3 _ _ _
    rw [← hW3]
    exact (BG.out.far (p := ⟨w2.heap.size + 1, 0, none⟩) (by simp) _).drew
  have CB : Hid (Blk W3 (w2.heap.size + 1) 24 #[.int .u32 (d : Int), .int .u8 (m : Int)]) := by
    show Blk W3 _ _ _
    rw [← hW3]
    exact (BB.out.set_ 0 (.int .u32 (d : Int))).drew
  rw [hW3]
  clear hW3 F3 BG BB c0 c1 z0 z1
  obtain ⟨M, hM⟩ : ∃ M, max n0 33 = M := ⟨_, rfl⟩
  have eM : max (n0 : Int) 33 = (M : Int) := by rw [← hM]; omega
  have hM2 : Hid (32 < M ∧ M < 256) := Lib.hid (by omega)
  clear hM
  go_upto_region 9 with fail
  obtain ⟨W4, hW4⟩ : ∃ W, W3.alloc (.cells #[.int .u32 (a : Int), .int .u8 (M : Int)] 24) = W := ⟨_, rfl⟩
  have F5 : Hid (Frm No w W4) := by
    show Frm No w W4
    rw [← hW4]
    exact F4.out.alloc _
  have DG : Hid (Blk W4 w2.heap.size 24 #[.int .u32 (c : Int), .int .u8 (m : Int)]) := by
    show Blk W4 _ _ _
    rw [← hW4]
    exact CG.out.alloc _
  have DB : Hid (Blk W4 (w2.heap.size + 1) 24 #[.int .u32 (d : Int), .int .u8 (m : Int)]) := by
    show Blk W4 _ _ _
    rw [← hW4]
    exact CB.out.alloc _
  have DL : Hid (Blk W4 W3.heap.size 24 #[.int .u32 (a : Int), .int .u8 (M : Int)]) := by
    show Blk W4 _ _ _
    rw [← hW4]
    exact Blk.new _ _ _
  obtain ⟨gb, hgb⟩ : ∃ g, w2.heap.size + 1 = g := ⟨_, rfl⟩
  obtain ⟨gl, hgl⟩ : ∃ g, W3.heap.size = g := ⟨_, rfl⟩
  rw [hgb] at DB
  rw [hgl] at DL
  rw [hW4]
  clear hW4 F4 CG CB
  obtain ⟨b0', b1', _, _⟩ := blk_cells2 DB.out
  obtain ⟨l0, l1, _, _⟩ := blk_cells2 DL.out
  try rw [hgb]
  try rw [hgl]
  clear hgb hgl
  have EV1 := Lib.hid (bad_of d m c m OB2.out.1 (by omega) HCL (by omega) OB2.out.2)
  have EV2 := Lib.hid (bad_of a M c m ha hM2.out.2 HCL (by omega) (by unfold rightB; exact decide_eq_false (fun h => by have := hM2.out.1; omega)))
  go_wp2_with fail
  have EA := Lib.hid (Blk.new W4 24 #[.int .u32 (d : Int), .int .u8 (m : Int), .int .u32 (a : Int), .int .u8 (M : Int)])
  have EG := Lib.hid (DG.out.alloc (.cells #[.int .u32 (d : Int), .int .u8 (m : Int), .int .u32 (a : Int), .int .u8 (M : Int)] 24))
  have F6 := Lib.hid (F5.out.alloc (.cells #[.int .u32 (d : Int), .int .u8 (m : Int), .int .u32 (a : Int), .int .u8 (M : Int)] 24))
  have T4 := Lib.hid (T0.out.frm F6.out)
  have EM := Lib.hid eM
  clear F5 DG DB DL b0' b1' l0 l1 T0 eM em
  go_loopw [56] (fun i wr => ∃ j : Nat, j ≤ 2 ∧ i = .int .i64 (j : Int) ∧ Hid (Frm No (W4.alloc (.cells #[.int .u32 (d : Int), .int .u8 (m : Int), .int .u32 (a : Int), .int .u8 (M : Int)] 24)) wr)) (fun i _ => 2 - (RowKit.intOf i).toNat)
  case atStart => exact ⟨0, by omega, rfl, Frm.refl _ _⟩
  case round =>
    obtain ⟨j, hj, rfl, HF⟩ := hrel
    have x0 := (EA.out.frm HF.out (fun x => x)).cell 0
    have x1 := (EA.out.frm HF.out (fun x => x)).cell 1
    have x2 := (EA.out.frm HF.out (fun x => x)).cell 2
    have x3 := (EA.out.frm HF.out (fun x => x)).cell 3
    rcases (show j = 0 ∨ j = 1 ∨ j = 2 by omega) with rfl | rfl | rfl
    · clear hj
      go_wp2_with fail
      have PB := Lib.hid (Blk.new wr 24 #[.int .u32 (d : Int), .int .u8 (m : Int)])
      have K0 := Lib.hid (HF.out.alloc (.cells #[.int .u32 (d : Int), .int .u8 (m : Int)] 24))
      have PC := Lib.hid (fun W (hW : Frm No (wr.alloc (.cells #[.int .u32 (d : Int), .int .u8 (m : Int)] 24)) W) => And.intro (blk_cells2 (PB.out.frm hW (fun x => x))) (blk_cells2 (EG.out.frm (K0.out.new0 hW) (fun x => x))))
      clear PB
      refine (EV1.out.PT _ (T4.out.frm K0.out)).mono ?_
      rintro e v1 ⟨rfl, hf⟩
      have L1 := Lib.hid hf
      clear hf
      obtain ⟨⟨p0, p1, _, _⟩, q0, q1, _, _⟩ := PC.out _ L1.out
      go_wp2_with fail
      refine (EV1.out.BD _).mono ?_
      rintro e v2 ⟨rfl, hf⟩
      have L2 := Lib.hid (L1.out.new0 hf)
      clear hf L1 p0 p1 q0 q1
      obtain ⟨⟨p0, p1, _, _⟩, q0, q1, _, _⟩ := PC.out _ L2.out
      go_wp2_with fail
      refine (EV1.out.RT _).mono ?_
      rintro e v3 ⟨rfl, hf⟩
      have L3 := Lib.hid (L2.out.new0 hf)
      clear hf L2 p0 p1 q0 q1
      obtain ⟨⟨p0, p1, _, _⟩, q0, q1, _, _⟩ := PC.out _ L3.out
      go_wp2_with fail
      refine (EV1.out.HS _).mono ?_
      rintro e v4 ⟨rfl, hf⟩
      have L4 := Lib.hid (L3.out.new0 hf)
      clear hf L3 p0 p1 q0 q1
      obtain ⟨⟨p0, p1, _, _⟩, q0, q1, _, _⟩ := PC.out _ L4.out
      go_wp2_with fail
      refine (EV1.out.I1 _).mono ?_
      rintro e v5 ⟨rfl, hf⟩
      have L5 := Lib.hid (L4.out.new0 hf)
      clear hf L4 p0 p1 q0 q1
      obtain ⟨⟨p0, p1, _, _⟩, q0, q1, _, _⟩ := PC.out _ L5.out
      go_wp2_with fail
      refine (EV1.out.I2 _).mono ?_
      rintro e v6 ⟨rfl, hf⟩
      have L6 := Lib.hid (L5.out.new0 hf)
      clear hf L5 p0 p1 q0 q1
      obtain ⟨⟨p0, p1, _, _⟩, q0, q1, _, _⟩ := PC.out _ L6.out
      go_wp2_with fail
      refine (EV1.out.I3 _).mono ?_
      rintro e v7 ⟨rfl, hf⟩
      have L7 := Lib.hid (L6.out.new0 hf)
      clear hf L6 p0 p1 q0 q1
      obtain ⟨⟨p0, p1, _, _⟩, q0, q1, _, _⟩ := PC.out _ L7.out
      go_wp2_with fail
      refine (EV1.out.M1 _).mono ?_
      rintro e v8 ⟨rfl, hf⟩
      have L8 := Lib.hid (L7.out.new0 hf)
      clear hf L7 p0 p1 q0 q1
      obtain ⟨⟨p0, p1, _, _⟩, q0, q1, _, _⟩ := PC.out _ L8.out
      go_wp2_with fail
      refine (EV1.out.M2 _).mono ?_
      rintro e v9 ⟨rfl, hf⟩
      have L9 := Lib.hid (L8.out.new0 hf)
      clear hf L8 p0 p1 q0 q1
      obtain ⟨⟨p0, p1, _, _⟩, q0, q1, _, _⟩ := PC.out _ L9.out
      go_wp2_with fail
      refine (EV1.out.M3 _).mono ?_
      rintro e v10 ⟨rfl, hf⟩
      have L10 := Lib.hid (L9.out.new0 hf)
      clear hf L9 p0 p1 q0 q1
      obtain ⟨⟨p0, p1, _, _⟩, q0, q1, _, _⟩ := PC.out _ L10.out
      go_wp2
      go_roundw
      case rel => exact ⟨1, by omega, by go_num, K0.out.new0 L10.out⟩
      case measure => simp [RowKit.intOf]
    · clear hj
      go_wp2_with fail
      have PB := Lib.hid (Blk.new wr 24 #[.int .u32 (a : Int), .int .u8 (M : Int)])
      have K0 := Lib.hid (HF.out.alloc (.cells #[.int .u32 (a : Int), .int .u8 (M : Int)] 24))
      have PC := Lib.hid (fun W (hW : Frm No (wr.alloc (.cells #[.int .u32 (a : Int), .int .u8 (M : Int)] 24)) W) => And.intro (blk_cells2 (PB.out.frm hW (fun x => x))) (blk_cells2 (EG.out.frm (K0.out.new0 hW) (fun x => x))))
      clear PB
      refine (EV2.out.PT _ (T4.out.frm K0.out)).mono ?_
      rintro e v1 ⟨rfl, hf⟩
      have L1 := Lib.hid hf
      clear hf
      obtain ⟨⟨p0, p1, _, _⟩, q0, q1, _, _⟩ := PC.out _ L1.out
      go_wp2_with fail
      refine (EV2.out.BD _).mono ?_
      rintro e v2 ⟨rfl, hf⟩
      have L2 := Lib.hid (L1.out.new0 hf)
      clear hf L1 p0 p1 q0 q1
      obtain ⟨⟨p0, p1, _, _⟩, q0, q1, _, _⟩ := PC.out _ L2.out
      go_wp2_with fail
      refine (EV2.out.RT _).mono ?_
      rintro e v3 ⟨rfl, hf⟩
      have L3 := Lib.hid (L2.out.new0 hf)
      clear hf L2 p0 p1 q0 q1
      obtain ⟨⟨p0, p1, _, _⟩, q0, q1, _, _⟩ := PC.out _ L3.out
      go_wp2_with fail
      refine (EV2.out.HS _).mono ?_
      rintro e v4 ⟨rfl, hf⟩
      have L4 := Lib.hid (L3.out.new0 hf)
      clear hf L3 p0 p1 q0 q1
      obtain ⟨⟨p0, p1, _, _⟩, q0, q1, _, _⟩ := PC.out _ L4.out
      go_wp2_with fail
      refine (EV2.out.I1 _).mono ?_
      rintro e v5 ⟨rfl, hf⟩
      have L5 := Lib.hid (L4.out.new0 hf)
      clear hf L4 p0 p1 q0 q1
      obtain ⟨⟨p0, p1, _, _⟩, q0, q1, _, _⟩ := PC.out _ L5.out
      go_wp2_with fail
      refine (EV2.out.I2 _).mono ?_
      rintro e v6 ⟨rfl, hf⟩
      have L6 := Lib.hid (L5.out.new0 hf)
      clear hf L5 p0 p1 q0 q1
      obtain ⟨⟨p0, p1, _, _⟩, q0, q1, _, _⟩ := PC.out _ L6.out
      go_wp2_with fail
      refine (EV2.out.I3 _).mono ?_
      rintro e v7 ⟨rfl, hf⟩
      have L7 := Lib.hid (L6.out.new0 hf)
      clear hf L6 p0 p1 q0 q1
      obtain ⟨⟨p0, p1, _, _⟩, q0, q1, _, _⟩ := PC.out _ L7.out
      go_wp2_with fail
      refine (EV2.out.M1 _).mono ?_
      rintro e v8 ⟨rfl, hf⟩
      have L8 := Lib.hid (L7.out.new0 hf)
      clear hf L7 p0 p1 q0 q1
      obtain ⟨⟨p0, p1, _, _⟩, q0, q1, _, _⟩ := PC.out _ L8.out
      go_wp2_with fail
      refine (EV2.out.M2 _).mono ?_
      rintro e v9 ⟨rfl, hf⟩
      have L9 := Lib.hid (L8.out.new0 hf)
      clear hf L8 p0 p1 q0 q1
      obtain ⟨⟨p0, p1, _, _⟩, q0, q1, _, _⟩ := PC.out _ L9.out
      go_wp2_with fail
      refine (EV2.out.M3 _).mono ?_
      rintro e v10 ⟨rfl, hf⟩
      have L10 := Lib.hid (L9.out.new0 hf)
      clear hf L9 p0 p1 q0 q1
      obtain ⟨⟨p0, p1, _, _⟩, q0, q1, _, _⟩ := PC.out _ L10.out
      go_wp2
      go_roundw
      case rel => exact ⟨2, by omega, by go_num, K0.out.new0 L10.out⟩
      case measure => simp [RowKit.intOf]
    · clear x0 x1 x2 x3 EV1 EV2
      have eM := EM.out
      have X9 := Lib.hid (fun W => cut_no W a M ha hM2.out.1 hM2.out.2)
      clear EM hM2
      go_wp2_with fail
      refine (X9.out _).mono ?_
      rintro e w9 ⟨rfl, hg⟩
      have F9 := Lib.hid ((F6.out.new0 HF.out).new0 hg)
      clear hg X9
      by_cases hft : f = t
      · subst hft
        go_wp2_with fail
        go_ret
        exact ⟨rfl, F9.out.alloc _⟩
      · have hne : ¬ (f : Int) = t := by omega
        have hne2 : ((f : Int) == t) = false := beq_f' f t hft
        obtain ⟨X, hX⟩ : ∃ X, max f t = X := ⟨_, rfl⟩
        obtain ⟨Y, hY⟩ : ∃ Y, min f t = Y := ⟨_, rfl⟩
        obtain ⟨z, hz⟩ : ∃ z, f / 2 + t / 2 = z := ⟨_, rfl⟩
        have eX : max (f : Int) t = (X : Int) := by omega
        have eY : min (f : Int) t = (Y : Int) := by omega
        have ez : (f : Int) / 2 + (t : Int) / 2 = (z : Int) := by omega
        have R1 := Lib.hid (fun W => rtext_bad W X Y (by omega))
        have R2 := Lib.hid (fun W => by have h := rright_any W X Y; rw [decide_eq_false (show ¬ X ≤ Y by omega)] at h; exact h)
        have R3 := Lib.hid (fun W => by have h := in_any W X Y f; rw [in_bad X Y f (by omega)] at h; exact h)
        have R4 := Lib.hid (fun W => by have h := in_any W X Y t; rw [in_bad X Y t (by omega)] at h; exact h)
        have R5 := Lib.hid (fun W => by have h := in_any W X Y z; rw [in_bad X Y z (by omega)] at h; exact h)
        have F8 := Lib.hid (F9.out.alloc (.cells #[.int .u32 0, .int .u8 0] 24))
        clear hX hY hz hft F9
        obtain ⟨V, hV⟩ : ∃ V, (w9.alloc (.cells #[.int .u32 0, .int .u8 0] 24)).alloc (.cells #[.int .u16 (X : Int), .int .u16 (Y : Int)] 29) = V := ⟨_, rfl⟩
        have HB : Hid (Blk V (w9.heap.size + 1) 29 #[.int .u16 (X : Int), .int .u16 (Y : Int)]) := by
          show Blk V _ _ _
          rw [← hV]
          have := Blk.new (w9.alloc (.cells #[.int .u32 0, .int .u8 0] 24)) 29 #[.int .u16 (X : Int), .int .u16 (Y : Int)]
          rw [size_alloc'] at this
          exact this
        have FV : Hid (Frm No w V) := by
          show Frm No w V
          rw [← hV]
          exact F8.out.alloc _
        have PV := Lib.hid (fun W (hW : Frm No V W) => blk_cells2 (HB.out.frm hW (fun x => x)))
        obtain ⟨p0, p1, _, _⟩ := PV.out V (Frm.refl _ _)
        go_wp2_with fail
        try rw [hV]
        clear hV F8 HB p0 p1
        refine (R1.out _).mono ?_
        rintro e y1 ⟨rfl, hg⟩
        have J1 := Lib.hid hg
        clear hg R1
        obtain ⟨p0, p1, _, _⟩ := PV.out _ J1.out
        go_wp2_with fail
        refine (R2.out _).mono ?_
        rintro e y2 ⟨rfl, hg⟩
        have J2 := Lib.hid (J1.out.new0 hg)
        clear hg R2 p0 p1
        obtain ⟨p0, p1, _, _⟩ := PV.out _ J2.out
        go_wp2_with fail
        refine (R3.out _).mono ?_
        rintro e y3 ⟨rfl, hg⟩
        have J3 := Lib.hid (J2.out.new0 hg)
        clear hg R3 p0 p1
        obtain ⟨p0, p1, _, _⟩ := PV.out _ J3.out
        go_wp2_with fail
        refine (R4.out _).mono ?_
        rintro e y4 ⟨rfl, hg⟩
        have J4 := Lib.hid (J3.out.new0 hg)
        clear hg R4 p0 p1
        obtain ⟨p0, p1, _, _⟩ := PV.out _ J4.out
        go_wp2_with fail
        refine (R5.out _).mono ?_
        rintro e y5 ⟨rfl, hg⟩
        have J5 := Lib.hid (J4.out.new0 hg)
        clear hg R5 p0 p1
        go_wp2_with fail
        go_ret
        exact ⟨rfl, FV.out.new0 J5.out⟩
end Go.Proofs.YtknmnlbgjpbgiaaDoor
