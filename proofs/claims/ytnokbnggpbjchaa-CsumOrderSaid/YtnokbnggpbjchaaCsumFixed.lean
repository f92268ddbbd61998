/-
  CsumFixed answers true: bytes with their checksum put in are right, and with one word replaced they are not, but for 0 and 65535. For all bytes, indices and words.
-/
import Derived.Test.YtnokbnggpbjchaaB1
import Derived.Test.YtnokbnggpbjchaaM0
import Derived.BigRegion
import Derived.Deep.QuietTactic
import Derived.BigQuiet
import Derived.LoopN
import Derived.Deep.Cut
import Derived.Deep.CutRange
import Derived.Deep.CutBlock
namespace Go.Proofs.Ytnokbnggpbjchaa
open Go.ChangeShapes Go.WideShapes Go.ChangeAt Go.RowKit

theorem fx_first {w w1 w2 : World} {ys : List UInt8} {m n0 g c' : Nat} {zs : List UInt8} {o : Obj} {u : Value} (hu : u.ownBlock = some w1.heap.size) (hm : ys.length = m) (hf : Frm No w w1) (hr : Row w2 w.heap.size g (n0 + m) c' (zs ++ ys)) (hg : (w1.alloc o).grownBy w2 u.ownBlock) :
    ∃ g1 c1, Value.slice (some ⟨g, 0, none⟩) (n0 + m) c' = .slice (some ⟨g1, 0, none⟩) (n0 + ys.length) c1 ∧ Hid (Row w2 w.heap.size g1 (n0 + ys.length) c1 (zs ++ ys)) ∧ Hid (Frm No w w2) := by
  subst hm
  refine ⟨g, c', rfl, hr, ?_⟩
  refine (hf.alloc o).trans (Frm.of_grown hg) (fun i hi hs => ?_)
  rw [hu] at hs
  injection hs with hs
  have := hf.size
  omega

theorem equal_yes (w : World) (A B : Option Addr) (c d n : Nat) (xs ys : List UInt8) (hn : xs.length = n) (he : xs = ys) (ha : Rds w A xs) (hb : Rds w B ys) (hs : n ≤ 140737488355328) :
    Calls Try.prog 16 #[.slice A n c, .slice B n d] w (Answers true w) := by
  subst hn he
  have := equal_any w A B c d xs xs ha hb hs
  rwa [decide_eq_true rfl] at this

theorem sameW_bools {x y : Nat} {b1 b2 b3 b4 b5 : Bool} (e1 : ((x : Int) == y) = b1) (e2 : ((x : Int) == 0) = b2) (e3 : ((y : Int) == 65535) = b3) (e4 : ((x : Int) == 65535) = b4) (e5 : ((y : Int) == 0) = b5) :
    sameW x y = (b1 || (b2 && b3) || (b4 && b5)) := by
  subst e1 e2 e3 e4 e5
  have q : ∀ (a b : Nat), ((a : Int) == b) = decide (a = b) := by
    intro a b
    by_cases h : a = b
    · subst h; simp
    · rw [decide_eq_false h]; simp; omega
  unfold sameW
  rw [q x y, show ((x : Int) == 0) = decide (x = 0) from q x 0, show ((y : Int) == 65535) = decide (y = 65535) from q y 65535, show ((x : Int) == 65535) = decide (x = 65535) from q x 65535, show ((y : Int) == 0) = decide (y = 0) from q y 0]

/-- A region that draws its order, whose operations and calls leave all that was there, whatever they lay anew. -/
theorem region_class {P : Program} {id : Nat} {Q : Exit → Act → World → Prop} {a : Act} {w : World} {l : List Oper} (C : World → Prop) (hm : P.follows .mixedOrders = true) (hB : Region.lexB .any l.toArray = true) (hC : C w.drew)
    (h : wpQuiet P l.toArray C (fun a' => ∀ w', C w' → Q .normal a' w') l a) : (Code.region id l.toArray true).wp P Q a w :=
  wp_region_quiet (C := C) hm hB hC (by simpa using h)

attribute [local go_sem] undef
attribute [local irreducible] wpList wpQuiet

set_option maxRecDepth 100000 in
set_option maxHeartbeats 8000000 in
theorem csumFixed (w : World) (A : Option Addr) (n c : Nat) (bs : List UInt8) (t u y : Nat) (ht : t < 65536) (hu : u < 65536) (hy : y < 65536) (hn : bs.length = n) (hc : n ≤ c) (hnil : A = none → c = 0) (h : Rds w A bs) (h4 : n ≤ 140737488355328) :
    Calls Try.prog 6 #[.slice A n c, .int .u16 (t : Int), .int .u16 (u : Int), .int .u16 (y : Int)] w fun e w' => e = .returned (.bool true) ∧ Frm No w w' := by
  obtain ⟨ys, hys⟩ : ∃ ys, ys = bs.take 3000 := ⟨_, rfl⟩
  have H := Lib.hid (h.take 3000)
  rw [← hys] at H
  have hyl : ys.length = min 3000 n := by rw [hys, List.length_take, hn]
  clear h hys
  go_enter Try.func6, Try.ntmps6
  go_wp2_with fail
  refine (awake w).mono ?_
  rintro e w1 ⟨rfl, hf⟩
  have F1 := Lib.hid hf
  have H1 := Lib.hid (H.out.frm hf (fun _ _ x => x))
  clear hf H
  go_upto_region 3 with fail
  go_cut [0] from 19 to 25 (fun s3 wx => ∃ g c', s3 = .slice (some ⟨g, 0, none⟩) (2 + ys.length) c' ∧ Hid (Row wx w.heap.size g (2 + ys.length) c' ([0, 0] ++ ys)) ∧ Hid (Frm No w wx))
  case first =>
    by_cases hb : 3000 < n
    · have q0 : (3000 : Int) < n := by omega
      have q1 : (3000 : Int) ≤ c := by omega
      have q2 : ys.length = 3000 := by omega
      go_wp2_with (at_builtin; refine wpList_append_bytes rfl (.tmp 19) (.tmp 24) rfl w.heap.size _ 2 [0, 0] rfl (by exact row_made w1 w.heap.size 2 [0, 0] rfl F1.out.size (by omega)) A 3000 c ys rfl q2 (by exact (H1.out.alloc _)) (fun h => by have := hnil h; omega) (by omega) (by have := F1.out.size; simp; omega) ?_; intro v' w2 hown' hgr; obtain ⟨g, c', rfl, hrow⟩ := Row.of_own hown' (by omega); have HR := Lib.hid hrow; have HG := Lib.hid hgr; clear hown' hrow hgr)
      all_goals
        go_meet
        exact fx_first rfl q2 F1.out HR.out HG.out
    · have q0 : ¬ (3000 : Int) < n := by omega
      have q1 : (n : Int) ≤ c := by omega
      have q2 : ys.length = n := by omega
      go_wp2_with (at_builtin; refine wpList_append_bytes rfl (.tmp 19) (.tmp 24) rfl w.heap.size _ 2 [0, 0] rfl (by exact row_made w1 w.heap.size 2 [0, 0] rfl F1.out.size (by omega)) A n c ys rfl q2 (by exact (H1.out.alloc _)) (fun h => by have := hnil h; omega) (by omega) (by have := F1.out.size; simp; omega) ?_; intro v' w2 hown' hgr; obtain ⟨g, c', rfl, hrow⟩ := Row.of_own hown' (by omega); have HR := Lib.hid hrow; have HG := Lib.hid hgr; clear hown' hrow hgr)
      all_goals
        go_meet
        exact fx_first rfl q2 F1.out HR.out HG.out
  case rest =>
  obtain ⟨g, c', rfl, HR, HF⟩ := hcut
  obtain ⟨xs, hxs⟩ : ∃ xs, [(0 : UInt8), 0] ++ ys = xs := ⟨_, rfl⟩
  obtain ⟨L, hL⟩ : ∃ L, 2 + ys.length = L := ⟨_, rfl⟩
  have hxl : xs.length = L := by rw [← hxs, ← hL]; simp; omega
  rw [hxs, hL] at HR
  have L1 : 2 ≤ L := by omega
  have L2 : L ≤ 3002 := by omega
  rw [hL]
  clear hxs hL hyl H1 hnil F1 hn hc h4
  obtain ⟨h, hh, hh2, hh3⟩ : ∃ h : Nat, (L : Int) / 2 = h ∧ 2 * h ≤ L ∧ 1 ≤ h := ⟨L / 2, by omega, by omega, by omega⟩
  obtain ⟨r, hr, hr2⟩ : ∃ r : Nat, (t : Int) % (h : Int) = r ∧ r < h := ⟨t % h, by simp, Nat.mod_lt _ (by omega)⟩
  obtain ⟨i, hi, hi2⟩ : ∃ i : Nat, i = 2 * r ∧ IntKind.i64.wrap ((r : Int) * 2) = (i : Int) := ⟨2 * r, rfl, by rw [IntWalk.i64_in] <;> omega⟩
  have hne : ¬ (h : Int) = 0 := by omega
  have hev : i % 2 = 0 := by omega
  have hlt : i + 1 < L := by omega
  clear hi
  have HX := Lib.hid (fix_yes wc _ L c' xs i hxl hev hlt HR.out.rds (by omega))
  go_wp2_with fail
  refine HX.out.mono ?_
  rintro e w3 ⟨g2, c2, rfl, hr3, hf3⟩
  have F3 := Lib.hid (HF.out.new0 hf3)
  have R3 := Lib.hid (HR.out.frm hf3 (fun x => x))
  have RF := Lib.hid hr3
  clear hr3 hf3 HX HF HR
  obtain ⟨F, hFF⟩ : ∃ F, fixOf xs i = F := ⟨_, rfl⟩
  have hfs := fixOf_sum xs i hev (by omega)
  have hft := fixOf_take xs i
  have hfd := fixOf_drop xs i
  have hfl := fixOf_length xs i
  rw [hFF] at hfs hft hfd hfl RF
  rw [hxl] at hfl
  clear hFF
  have k1 := RF.out.cap.1
  have k2 := R3.out.cap.1
  have RT := Lib.hid (fun (W : World) (h : Rds W (some ⟨g2, 0, none⟩) F) => right_any W (some ⟨g2, 0, none⟩) L c2 F hfl k1 h (by omega))
  rw [hfs] at RT
  have EQ1 := Lib.hid (fun (W : World) (h1 : Rds W (some ⟨g2, 0, none⟩) F) (h2 : Rds W (some ⟨g, 0, none⟩) xs) => equal_yes W (some ⟨g2, 0, none⟩) (some ⟨g, 0, none⟩) c2 c' i (F.take i) (xs.take i) (by rw [List.length_take]; omega) hft (h1.take i) (h2.take i) (by omega))
  have EQ2 := Lib.hid (fun (W : World) (h1 : Rds W (some ⟨g2, 0, none⟩) F) (h2 : Rds W (some ⟨g, 0, none⟩) xs) => equal_yes W (if c2 = i + 2 then some ⟨g2, 0, none⟩ else some ⟨g2, i + 2, none⟩) (if c' = i + 2 then some ⟨g, 0, none⟩ else some ⟨g, i + 2, none⟩) (c2 - (i + 2)) (c' - (i + 2)) (L - (i + 2)) (F.drop (i + 2)) (xs.drop (i + 2)) (by rw [List.length_drop]; omega) hfd
    (h1.drop (i + 2) c2 (by omega) _ (by simp [Addr.add])) (h2.drop (i + 2) c' (by omega) _ (by simp [Addr.add])) (by omega))
  have hLL : ((L : Int) != (L : Int)) = false := by simp
  have hw2 : IntKind.i64.wrap ((i : Int) + 2) = i + 2 := by rw [IntWalk.i64_in] <;> omega
  have m1 : (i : Int) ≤ c2 := by omega
  have m2 : (i : Int) ≤ c' := by omega
  have m3 : (i : Int) + 2 ≤ L := by omega
  have m4 : (L : Int) ≤ c2 := by omega
  have m5 : (L : Int) ≤ c' := by omega
  have m6 : (0 : Int) ≤ (i : Int) + 2 := by omega
  go_wp2_with fail
  go_cut [74] from 39 to 74 (fun s w4 => s = .bool false ∧ Hid (Frm No w3 w4))
  case first =>
    refine region_class (fun W => Frm No w3 W) (by kernel_rfl) (by kernel_rfl) (Frm.refl No w3).drew ?_
    repeat (refine wpQuiet_step (fun K hK => ?_); go_simp; first | (refine hK _ ?_; clear hK K) | (apply Exists.intro; refine ⟨fun w hw => rfl, hK _ ?_⟩; clear hK K))
    refine wpQuiet_step (fun K hK => ?_)
    go_simp
    apply Exists.intro
    refine ⟨fun W hW => (RT.out W (RF.out.rds.frm hW (fun _ _ x => x))).mono fun e w' he => ⟨he.1, hW.new0 he.2⟩, hK _ ?_⟩
    clear hK K
    repeat (refine wpQuiet_step (fun K hK => ?_); go_simp; first | (refine hK _ ?_; clear hK K) | (apply Exists.intro; refine ⟨fun w hw => rfl, hK _ ?_⟩; clear hK K))
    refine wpQuiet_step (fun K hK => ?_)
    go_simp
    apply Exists.intro
    refine ⟨fun W hW => (EQ1.out W (RF.out.rds.frm hW (fun _ _ x => x)) (R3.out.rds.frm hW (fun _ _ x => x))).mono fun e w' ⟨he, k, hk⟩ => ⟨he, by rw [hk]; exact hW.drewN k⟩, hK _ ?_⟩
    clear hK K
    repeat (refine wpQuiet_step (fun K hK => ?_); go_simp; first | (refine hK _ ?_; clear hK K) | (apply Exists.intro; refine ⟨fun w hw => rfl, hK _ ?_⟩; clear hK K))
    refine wpQuiet_step (fun K hK => ?_)
    go_simp
    apply Exists.intro
    refine ⟨fun W hW => (EQ2.out W (RF.out.rds.frm hW (fun _ _ x => x)) (R3.out.rds.frm hW (fun _ _ x => x))).mono fun e w' ⟨he, k, hk⟩ => ⟨he, by rw [hk]; exact hW.drewN k⟩, hK _ ?_⟩
    clear hK K
    repeat (refine wpQuiet_step (fun K hK => ?_); go_simp; first | (refine hK _ ?_; clear hK K) | (apply Exists.intro; refine ⟨fun w hw => rfl, hK _ ?_⟩; clear hK K))
    refine wpQuiet_nil ?_
    intro w4 hf
    generalize (if c2 = ((i : Int) + 2).toNat then some (⟨g2, 0, none⟩ : Addr) else some ⟨g2, ((i : Int) + 2).toNat, none⟩) = z1
    generalize (if c' = ((i : Int) + 2).toNat then some (⟨g, 0, none⟩ : Addr) else some ⟨g, ((i : Int) + 2).toNat, none⟩) = z2
    go_wp2_with fail
    go_meet
    exact ⟨rfl, hf⟩
  case rest =>
  obtain ⟨rfl, HF4⟩ := hcut
  have hf := HF4.out
  have F4 := Lib.hid (F3.out.new0 hf)
  have RF4 := Lib.hid (RF.out.frm hf (fun x => x))
  clear hf F3 R3 RF RT EQ1 EQ2 hft hfd m1 m2 m3 m5 m6 hw2 hLL
  clear hr hr2 hi2 hev hlt
  obtain ⟨r2, hr3, hr4⟩ : ∃ r : Nat, (u : Int) % (h : Int) = r ∧ r < h := ⟨u % h, by simp, Nat.mod_lt _ (by omega)⟩
  obtain ⟨k, hk, hk2⟩ : ∃ i : Nat, i = 2 * r2 ∧ IntKind.i64.wrap ((r2 : Int) * 2) = (i : Int) := ⟨2 * r2, rfl, by rw [IntWalk.i64_in] <;> omega⟩
  have kev : k % 2 = 0 := by omega
  have klt : k + 1 < L := by omega
  clear hk
  go_upto_region 9 with fail
  have hw1 : IntKind.i64.wrap ((k : Int) + 1) = k + 1 := by rw [IntWalk.i64_in] <;> omega
  have i0 : (k : Int) < L := by omega
  have i1 : (k : Int) + 1 < L := by omega
  have i2 : (0 : Int) ≤ (k : Int) + 1 := by omega
  have kl : k < F.length := by omega
  have kl1 : k + 1 < F.length := by omega
  have hxz := or_word' F[k] F[k + 1]
  have hxl2 := word_lt F[k] F[k + 1]
  obtain ⟨x, hx⟩ : ∃ x : Nat, word F[k] F[k + 1] = x := ⟨_, rfl⟩
  rw [hx] at hxz hxl2
  have HL := Lib.hid (fixed_last F k y hfs kev kl1 hy)
  rw [hx] at HL
  have cv1 := conv16 F[k]
  have cv2 := conv16 F[k + 1]
  have cv3 := shl16 F[k]
  have d0 : wc.cell? ⟨g2, k, none⟩ = some (.int .u8 (F[k].toNat : Int)) := RF4.out.cell k kl
  have d1 : wc.cell? ⟨g2, k + 1, none⟩ = some (.int .u8 (F[k + 1].toNat : Int)) := RF4.out.cell (k + 1) kl1
  clear hx
  go_region
  clear cv1 cv2 cv3 d0 d1 hxz
  have HC := Lib.hid (clone_row wc.drew (some ⟨g2, 0, none⟩) L c2 F hfl (by omega) RF4.out.rds (by omega))
  go_wp2_with fail
  refine HC.out.mono ?_
  rintro e w5 ⟨g3, c3, rfl, hr5, hf5⟩
  have F5 := Lib.hid (F4.out.drew.new0 hf5)
  have hg3 : w.heap.size ≤ g3 := Nat.le_trans F4.out.size hr5.cap.2.1
  have R5 := Lib.hid hr5
  clear hr5 hf5 HC F4 RF4
  have d0 := R5.out.cell k kl
  have d1 := R5.out.frozen k
  have S1 := Lib.hid (R5.out.set k (hiB y) (.int .u8 ((y : Int) / 256)) (by rw [byt, hiB_val y hy]))
  have d2 := S1.out.cell (k + 1) (by simp; omega)
  have d3 := S1.out.frozen (k + 1)
  have S2 := Lib.hid (S1.out.set (k + 1) (loB y) (.int .u8 ((y : Int) % 256)) (by rw [byt, loB_val y]))
  go_upto_region 12 with fail
  obtain ⟨W6, hW6⟩ : ∃ W, (w5.setCell ⟨g3, k, none⟩ (.int .u8 ((y : Int) / 256))).setCell ⟨g3, k + 1, none⟩ (.int .u8 ((y : Int) % 256)) = W := ⟨_, rfl⟩
  have F6 : Hid (Frm No w W6) := by
    show Frm No w W6
    rw [← hW6]
    exact (F5.out.setCell (p := ⟨g3, k, none⟩) (fun h => absurd h (by show ¬ g3 < w.heap.size; omega)) _).setCell (p := ⟨g3, k + 1, none⟩) (fun h => absurd h (by show ¬ g3 < w.heap.size; omega)) _
  obtain ⟨O, hO⟩ : ∃ O, putAt F k (hiB y) (loB y) = O := ⟨_, rfl⟩
  have hol : O.length = L := by rw [← hO, putAt_length, hfl]
  have R6 : Hid (Row W6 wc.drew.heap.size g3 L c3 O) := by
    show Row W6 _ _ _ _ _
    rw [← hW6, ← hO]
    exact S2.out
  rw [hO] at HL
  rw [hW6]
  clear hW6 hO S1 S2 d0 d1 d2 d3 R5 F5 hfs
  go_cut [15] from 109 to 127 (fun s wx => s = .bool (sameW x y) ∧ W6 = wx)
  case first =>
    obtain ⟨b1, e1⟩ : ∃ b, ((x : Int) == y) = b := ⟨_, rfl⟩
    obtain ⟨b2, e2⟩ : ∃ b, ((x : Int) == 0) = b := ⟨_, rfl⟩
    obtain ⟨b3, e3⟩ : ∃ b, ((y : Int) == 65535) = b := ⟨_, rfl⟩
    obtain ⟨b4, e4⟩ : ∃ b, ((x : Int) == 65535) = b := ⟨_, rfl⟩
    obtain ⟨b5, e5⟩ : ∃ b, ((y : Int) == 0) = b := ⟨_, rfl⟩
    have HSB := Lib.hid (sameW_bools e1 e2 e3 e4 e5)
    cases b1 with
    | true =>
        go_wp2_with fail
        go_meet
        exact ⟨by rw [HSB.out]; rfl, rfl⟩
    | false =>
      cases b2 <;> cases b4
      case false.false =>
        go_wp2_with fail
        go_meet
        exact ⟨by rw [HSB.out]; rfl, rfl⟩
      case false.true =>
        cases b5 <;>
        (go_wp2_with fail
         go_meet
         exact ⟨by rw [HSB.out]; rfl, rfl⟩)
      case true.false =>
        cases b3 <;>
        (go_wp2_with fail
         go_meet
         exact ⟨by rw [HSB.out]; rfl, rfl⟩)
      case true.true =>
        exfalso
        simp at e2 e4
        omega
  case rest =>
  obtain ⟨rfl, rfl⟩ := hcut
  have hk3 := R6.out.cap.1
  have HC := Lib.hid (contains19 W6 (some ⟨g3, 0, none⟩) L c3 O hol R6.out.rds (by omega))
  have HR := Lib.hid (fun (W : World) (h : Rds W (some ⟨g3, 0, none⟩) O) => right_any W (some ⟨g3, 0, none⟩) L c3 O hol hk3 h (by omega))
  obtain ⟨z, hz⟩ : ∃ z, decide (wsum O ≠ 0) = z := ⟨_, rfl⟩
  obtain ⟨s, hs⟩ : ∃ s, sameW x y = s := ⟨_, rfl⟩
  rw [HL.out] at HR
  rw [hz] at HC HR
  rw [hs] at HR ⊢
  clear hz hs HL
  go_wp2_with fail
  refine HC.out.mono ?_
  rintro e w7 ⟨rfl, m7, rfl⟩
  have R7 : Hid (Row (W6.drewN m7) wc.drew.heap.size g3 L c3 O) := R6.out
  clear HC
  go_wp2_with fail
  refine (HR.out _ R7.out.rds).mono ?_
  rintro e w8 ⟨rfl, hf⟩
  have F8 := Lib.hid ((F6.out.drewN m7).new0 hf)
  clear hf HR
  cases s <;> cases z <;>
  (go_wp2
   go_ret
   exact ⟨rfl, F8.out⟩)
end Go.Proofs.Ytnokbnggpbjchaa
