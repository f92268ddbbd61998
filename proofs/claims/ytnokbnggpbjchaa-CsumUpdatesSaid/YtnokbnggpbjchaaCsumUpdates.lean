/-
  CsumUpdates answers true: an updated checksum is that of the bytes in which a word, or two, have been replaced. For all bytes, indices and numbers.
-/
import Derived.Test.YtnokbnggpbjchaaCsumFixed
import Derived.Test.YtnokbnggpbjchaaB2
namespace Go.Proofs.Ytnokbnggpbjchaa
open Go.ChangeShapes Go.WideShapes Go.ChangeAt Go.RowKit

theorem conv32 (a : UInt8) : IntKind.u32.wrap (a.toNat : Int) = a.toNat := by
  have := a.toNat_lt
  have e : IntKind.u32.wrap (a.toNat : Int) = (a.toNat : Int) % 4294967296 := rfl
  rw [e]
  omega
theorem shl32 (a : UInt8) (k : Nat) (hk : k ≤ 16777216) : IntKind.u32.wrap ((a.toNat : Int) * (k : Int)) = a.toNat * k := by
  have := a.toNat_lt
  have e : IntKind.u32.wrap ((a.toNat : Int) * (k : Int)) = ((a.toNat : Int) * k) % 4294967296 := rfl
  rw [e, Int.emod_eq_of_lt (Int.mul_nonneg (by omega) (by omega))]
  have : (a.toNat : Int) * k ≤ 255 * 16777216 := Int.mul_le_mul (by omega) (by omega) (by omega) (by omega)
  omega

attribute [local go_sem] undef
attribute [local irreducible] wpList wpQuiet

set_option maxRecDepth 100000 in
set_option maxHeartbeats 8000000 in
theorem csumUpdates (w : World) (A : Option Addr) (n c : Nat) (bs : List UInt8) (t y : Nat) (ht : t < 65536) (hy : y < 4294967296) (hn : bs.length = n) (hc : n ≤ c) (hnil : A = none → c = 0) (h : Rds w A bs) (h4 : n ≤ 140737488355328) :
    Calls Try.prog 8 #[.slice A n c, .int .u16 (t : Int), .int .u32 (y : Int)] w fun e w' => e = .returned (.bool true) ∧ Frm No w w' := by
  obtain ⟨ys, hys⟩ : ∃ ys, ys = bs.take 3000 := ⟨_, rfl⟩
  have H := Lib.hid (h.take 3000)
  rw [← hys] at H
  have hyl : ys.length = min 3000 n := by rw [hys, List.length_take, hn]
  clear h hys
  go_enter Try.func8, Try.ntmps8
  go_wp2_with fail
  refine (awake w).mono ?_
  rintro e w1 ⟨rfl, hf⟩
  have F1 := Lib.hid hf
  have H1 := Lib.hid (H.out.frm hf (fun _ _ x => x))
  clear hf H
  go_upto_region 3 with fail
  go_cut [0] from 15 to 21 (fun s3 wx => ∃ g c', s3 = .slice (some ⟨g, 0, none⟩) (4 + ys.length) c' ∧ Hid (Row wx w.heap.size g (4 + ys.length) c' ([0, 0, 0, 0] ++ ys)) ∧ Hid (Frm No w wx))
  case first =>
    by_cases hb : 3000 < n
    · have q0 : (3000 : Int) < n := by omega
      have q1 : (3000 : Int) ≤ c := by omega
      have q2 : ys.length = 3000 := by omega
      go_wp2_with (at_builtin; refine wpList_append_bytes rfl (.tmp 15) (.tmp 20) rfl w.heap.size _ 4 [0, 0, 0, 0] rfl (by exact row_made w1 w.heap.size 4 [0, 0, 0, 0] rfl F1.out.size (by omega)) A 3000 c ys rfl q2 (by exact (H1.out.alloc _)) (fun h => by have := hnil h; omega) (by omega) (by have := F1.out.size; simp; omega) ?_; intro v' w2 hown' hgr; obtain ⟨g, c', rfl, hrow⟩ := Row.of_own hown' (by omega); have HR := Lib.hid hrow; have HG := Lib.hid hgr; clear hown' hrow hgr)
      all_goals
        go_meet
        exact fx_first rfl q2 F1.out HR.out HG.out
    · have q0 : ¬ (3000 : Int) < n := by omega
      have q1 : (n : Int) ≤ c := by omega
      have q2 : ys.length = n := by omega
      go_wp2_with (at_builtin; refine wpList_append_bytes rfl (.tmp 15) (.tmp 20) rfl w.heap.size _ 4 [0, 0, 0, 0] rfl (by exact row_made w1 w.heap.size 4 [0, 0, 0, 0] rfl F1.out.size (by omega)) A n c ys rfl q2 (by exact (H1.out.alloc _)) (fun h => by have := hnil h; omega) (by omega) (by have := F1.out.size; simp; omega) ?_; intro v' w2 hown' hgr; obtain ⟨g, c', rfl, hrow⟩ := Row.of_own hown' (by omega); have HR := Lib.hid hrow; have HG := Lib.hid hgr; clear hown' hrow hgr)
      all_goals
        go_meet
        exact fx_first rfl q2 F1.out HR.out HG.out
  case rest =>
  obtain ⟨g, c', rfl, HR, HF⟩ := hcut
  obtain ⟨xs, hxs⟩ : ∃ xs, [(0 : UInt8), 0, 0, 0] ++ ys = xs := ⟨_, rfl⟩
  obtain ⟨L, hL⟩ : ∃ L, 4 + ys.length = L := ⟨_, rfl⟩
  have hxl : xs.length = L := by rw [← hxs, ← hL]; simp; omega
  rw [hxs, hL] at HR
  have L1 : 4 ≤ L := by omega
  have L2 : L ≤ 3004 := by omega
  rw [hL]
  clear hxs hL hyl H1 hnil F1 hn hc h4
  obtain ⟨h, hh, hh2, hh3⟩ : ∃ h : Nat, (L : Int) / 2 = h ∧ 2 * h ≤ L ∧ 2 ≤ h := ⟨L / 2, by omega, by omega, by omega⟩
  obtain ⟨h1, hh4, hh5, hh6⟩ : ∃ h1 : Nat, IntKind.i64.wrap ((h : Int) - 1) = h1 ∧ h1 + 1 ≤ h ∧ 1 ≤ h1 := ⟨h - 1, by rw [IntWalk.i64_in] <;> omega, by omega, by omega⟩
  obtain ⟨r, hr, hr2⟩ : ∃ r : Nat, (t : Int) % (h1 : Int) = r ∧ r < h1 := ⟨t % h1, by simp, Nat.mod_lt _ (by omega)⟩
  obtain ⟨i, hi, hi2⟩ : ∃ i : Nat, i = 2 * r ∧ IntKind.i64.wrap ((r : Int) * 2) = (i : Int) := ⟨2 * r, rfl, by rw [IntWalk.i64_in] <;> omega⟩
  have hne : ¬ (h1 : Int) = 0 := by omega
  have hev : i % 2 = 0 := by omega
  have hlt : i + 3 < L := by omega
  clear hi
  have HC := Lib.hid (clone_row wc (some ⟨g, 0, none⟩) L c' xs hxl (by omega) HR.out.rds (by omega))
  go_wp2_with fail
  refine HC.out.mono ?_
  rintro e w3 ⟨g3, c3, rfl, hr3, hf3⟩
  have F3 := Lib.hid (HF.out.new0 hf3)
  have hg3 : w.heap.size ≤ g3 := Nat.le_trans HF.out.size hr3.cap.2.1
  have R3 := Lib.hid (HR.out.frm hf3 (fun x => x))
  have RO := Lib.hid hr3
  have hgg : g ≠ g3 := by
    have q1 := HR.out.cap.2.2
    have q2 := hr3.cap.2.1
    omega
  clear hr3 hf3 HC HF HR
  have hw1 : IntKind.i64.wrap ((i : Int) + 1) = i + 1 := by rw [IntWalk.i64_in] <;> omega
  have hw2 : IntKind.i64.wrap ((i : Int) + 2) = i + 2 := by rw [IntWalk.i64_in] <;> omega
  have hw3 : IntKind.i64.wrap ((i : Int) + 3) = i + 3 := by rw [IntWalk.i64_in] <;> omega
  have i0 : (i : Int) < L := by omega
  have i1 : (i : Int) + 1 < L := by omega
  have i2 : (i : Int) + 2 < L := by omega
  have i3 : (i : Int) + 3 < L := by omega
  have j1 : (0 : Int) ≤ (i : Int) + 1 := by omega
  have j2 : (0 : Int) ≤ (i : Int) + 2 := by omega
  have j3 : (0 : Int) ≤ (i : Int) + 3 := by omega
  have k0 : i < xs.length := by omega
  have k1 : i + 1 < xs.length := by omega
  have k2 : i + 2 < xs.length := by omega
  have k3 : i + 3 < xs.length := by omega
  obtain ⟨n1, n2, o, o1, o2, o3, ho⟩ := four xs[i] xs[i + 1] xs[i + 2] xs[i + 3]
  have HOO := Lib.hid ho
  have hol : o < 4294967296 := by
    have := word_lt xs[i] xs[i + 1]
    have := word_lt xs[i + 2] xs[i + 3]
    omega
  have v0 := conv32 xs[i]
  have v1 := conv32 xs[i + 1]
  have v2 := conv32 xs[i + 2]
  have v3 := conv32 xs[i + 3]
  have s0 : IntKind.u32.wrap ((xs[i].toNat : Int) * 16777216) = xs[i].toNat * 16777216 := shl32 _ 16777216 (by omega)
  have s1 : IntKind.u32.wrap ((xs[i + 1].toNat : Int) * 65536) = xs[i + 1].toNat * 65536 := shl32 _ 65536 (by omega)
  have s2 : IntKind.u32.wrap ((xs[i + 2].toNat : Int) * 256) = xs[i + 2].toNat * 256 := shl32 _ 256 (by omega)
  have d0 : w3.cell? ⟨g, i, none⟩ = some (.int .u8 (xs[i].toNat : Int)) := R3.out.cell i k0
  have d1 : w3.cell? ⟨g, i + 1, none⟩ = some (.int .u8 (xs[i + 1].toNat : Int)) := R3.out.cell (i + 1) k1
  have d2 : w3.cell? ⟨g, i + 2, none⟩ = some (.int .u8 (xs[i + 2].toNat : Int)) := R3.out.cell (i + 2) k2
  have d3 : w3.cell? ⟨g, i + 3, none⟩ = some (.int .u8 (xs[i + 3].toNat : Int)) := R3.out.cell (i + 3) k3
  clear ho
  go_wp2_with fail
  go_region
  clear v0 v1 v2 v3 s0 s1 s2 d0 d1 d2 d3 o1 o2 o3
  obtain ⟨wd, hwd⟩ : ∃ W, w3.drew = W := ⟨_, rfl⟩
  have F4 : Hid (Frm No w wd) := by show Frm No w wd; rw [← hwd]; exact F3.out.drew
  have R4 : Hid (Row wd w.heap.size g L c' xs) := by show Row wd _ _ _ _ _; rw [← hwd]; exact R3.out
  obtain ⟨B0, hB0⟩ : ∃ B, wc.heap.size = B := ⟨_, rfl⟩
  have RO4 : Hid (Row wd B0 g3 L c3 xs) := by show Row wd _ _ _ _ _; rw [← hwd, ← hB0]; exact RO.out
  rw [hwd]
  clear hwd hB0 F3 R3 RO
  obtain ⟨X1, hX1⟩ : ∃ X, (up y).toNat = X := ⟨_, rfl⟩
  obtain ⟨X2, hX2⟩ : ∃ X, (lo y).toNat = X := ⟨_, rfl⟩
  have x1v : X1 = y / 65536 := by rw [← hX1]; unfold up; rw [UInt16.toNat_ofNat']; omega
  have x2v : X2 = y % 65536 := by rw [← hX2]; unfold lo; rw [UInt16.toNat_ofNat']
  have x1l : X1 < 65536 := by omega
  have x2l : X2 < 65536 := by omega
  have p1 : ((hiB X1).toNat : Int) = (y : Int) / 16777216 := by rw [hiB_val X1 x1l, x1v]; omega
  have p2 : ((loB X1).toNat : Int) = (y : Int) / 65536 % 256 := by rw [loB_val X1, x1v]; omega
  have p3 : ((hiB X2).toNat : Int) = (y : Int) / 256 % 256 := by rw [hiB_val X2 x2l, x2v]; omega
  have p4 : ((loB X2).toNat : Int) = (y : Int) % 256 := by rw [loB_val X2, x2v]; omega
  have HP3 := Lib.hid p3
  have HP4 := Lib.hid p4
  have ow : o / 65536 = word xs[i] xs[i + 1] := by
    have := word_lt xs[i + 2] xs[i + 3]
    have := HOO.out
    omega
  have HU1 := Lib.hid (updates_one xs i (o / 65536) X1 hev k1 ow x1l)
  have HU2 := Lib.hid (fun h0 => updates_two xs i o y hev k3 HOO.out h0)
  rw [hX1, hX2] at HU2
  have HX1 := Lib.hid x1v
  have d0 := RO4.out.cell i k0
  have d1 := RO4.out.frozen i
  have S1 := Lib.hid (RO4.out.set i (hiB X1) (.int .u8 ((y : Int) / 16777216)) (by rw [byt, p1]))
  have d2 := S1.out.cell (i + 1) (by simp; omega)
  have d3 := S1.out.frozen (i + 1)
  have S2 := Lib.hid (S1.out.set (i + 1) (loB X1) (.int .u8 ((y : Int) / 65536 % 256)) (by rw [byt, p2]))
  clear p1 p2 p3 p4 x1v x2v hX1 hX2 ow HOO
  go_upto_region 9 with fail
  clear d0 d1 d2 d3
  obtain ⟨W5, hW5⟩ : ∃ W, (wd.setCell ⟨g3, i, none⟩ (.int .u8 ((y : Int) / 16777216))).setCell ⟨g3, i + 1, none⟩ (.int .u8 ((y : Int) / 65536 % 256)) = W := ⟨_, rfl⟩
  have hno : ∀ k, (⟨g3, k, none⟩ : Addr).block < w.heap.size → No (⟨g3, k, none⟩ : Addr).block := fun k h => absurd h (by show ¬ g3 < w.heap.size; omega)
  have F5 : Hid (Frm No w W5) := by
    show Frm No w W5
    rw [← hW5]
    exact (F4.out.setCell (hno i) _).setCell (hno (i + 1)) _
  have R5 : Hid (Row W5 w.heap.size g L c' xs) := by
    show Row W5 _ _ _ _ _
    rw [← hW5]
    exact ownsRow_setCell_other (ownsRow_setCell_other R4.out (fun h => hgg (by injection h)) _) (fun h => hgg (by injection h)) _
  obtain ⟨O, hO⟩ : ∃ O, putAt xs i (hiB X1) (loB X1) = O := ⟨_, rfl⟩
  have hol2 : O.length = L := by rw [← hO, putAt_length, hxl]
  have RO5 : Hid (Row W5 B0 g3 L c3 O) := by
    show Row W5 _ _ _ _ _
    rw [← hW5, ← hO]
    exact S2.out
  rw [hO] at HU1 HU2
  rw [hW5]
  clear hW5 hO S1 S2 F4 R4 RO4
  have kc := R5.out.cap.1
  have kc3 := RO5.out.cap.1
  have OF := Lib.hid (fun (W : World) (h : Rds W (some ⟨g, 0, none⟩) xs) => of_any W (some ⟨g, 0, none⟩) L c' xs hxl kc h (by omega))
  obtain ⟨v, hv⟩ : ∃ v, ofOf xs = v := ⟨_, rfl⟩
  have hvl : v ≤ 65535 := by rw [← hv]; unfold ofOf; omega
  rw [hv] at OF HU1 HU2
  clear hv
  have UP := Lib.hid (fun W : World => lit_update W v (o / 65536) X1 v ((o : Int) / 65536) ((y : Int) / 65536) _ rfl (by simp) (by rw [HX1.out]; simp) hvl (by omega) (by omega) rfl)
  rw [HU1.out] at UP
  obtain ⟨G, hG⟩ : ∃ G, (if wsum O = 0 then 0 else ofOf O) = G := ⟨_, rfl⟩
  rw [hG] at UP
  have HG := Lib.hid hG
  clear hG HU1
  go_wp2_with fail
  refine (OF.out W5 R5.out.rds).mono ?_
  rintro e w6 ⟨rfl, hf⟩
  have F6 := Lib.hid (F5.out.new0 hf)
  have R6 := Lib.hid (R5.out.frm hf (fun x => x))
  have RO6 := Lib.hid (RO5.out.frm hf (fun x => x))
  clear hf F5 R5 RO5
  go_wp2_with fail
  refine (UP.out w6).mono ?_
  rintro e w7 ⟨rfl, hf⟩
  have F7 := Lib.hid (F6.out.new0 hf)
  have R7 := Lib.hid (R6.out.frm hf (fun x => x))
  have RO7 := Lib.hid (RO6.out.frm hf (fun x => x))
  clear hf F6 R6 RO6 UP
  go_upto_region 10 with fail
  have NZ := Lib.hid (fun (W : World) (h : Rds W (some ⟨g3, 0, none⟩) O) => nonzero_any W (some ⟨g3, 0, none⟩) L c3 O hol2 h (by omega))
  have OG := Lib.hid (fun (W : World) (h : Rds W (some ⟨g3, 0, none⟩) O) => of_any W (some ⟨g3, 0, none⟩) L c3 O hol2 kc3 h (by omega))
  go_cut [105] from 83 to 105 (fun s wx => s = .bool false ∧ Hid (Frm No w7 wx))
  case first =>
    by_cases hz : wsum O = 0
    · have hG := HG.out
      rw [if_pos hz] at hG
      subst hG
      rw [show decide (wsum O ≠ 0) = false from decide_eq_false (fun h => h hz)] at NZ
      clear hz HG OG
      go_wp2_with fail
      refine (NZ.out w7 RO7.out.rds).mono ?_
      rintro e w8 ⟨rfl, m8, rfl⟩
      go_wp2_with fail
      refine (NZ.out _ (RO7.out.rds.drewN m8)).mono ?_
      rintro e w9 ⟨rfl, m9, rfl⟩
      go_wp2_with fail
      go_meet
      exact ⟨rfl, (Frm.refl No w7).drewN _⟩
    · have hG := HG.out
      rw [if_neg hz] at hG
      rw [hG] at OG
      rw [show decide (wsum O ≠ 0) = true from decide_eq_true hz] at NZ
      clear hz hG HG
      have hGG : ((G : Int) != (G : Int)) = false := by simp
      go_wp2_with fail
      refine (NZ.out w7 RO7.out.rds).mono ?_
      rintro e w8 ⟨rfl, m8, rfl⟩
      go_wp2_with fail
      refine (OG.out _ (RO7.out.rds.drewN m8)).mono ?_
      rintro e w9 ⟨rfl, hf9⟩
      go_wp2_with fail
      refine (NZ.out _ ((RO7.out.rds.drewN m8).frm hf9 (fun _ _ x => x))).mono ?_
      rintro e w10 ⟨rfl, m10, rfl⟩
      go_wp2_with fail
      go_meet
      exact ⟨rfl, (((Frm.refl No w7).drewN m8).new0 hf9).drewN m10⟩
  case rest =>
  obtain ⟨rfl, HF8⟩ := hcut
  have F8 := Lib.hid (F7.out.new0 HF8.out)
  have R8 := Lib.hid (R7.out.frm HF8.out (fun x => x))
  have RO8 := Lib.hid (RO7.out.frm HF8.out (fun x => x))
  clear F7 R7 RO7 NZ OG HG
  have d0 := RO8.out.cell (i + 2) (by omega)
  have d1 := RO8.out.frozen (i + 2)
  have S1 := Lib.hid (RO8.out.set (i + 2) (hiB X2) (.int .u8 ((y : Int) / 256 % 256)) (by rw [byt, HP3.out]))
  have d2 := S1.out.cell (i + 3) (by simp; omega)
  have d3 := S1.out.frozen (i + 3)
  have S2 := Lib.hid (S1.out.set (i + 3) (loB X2) (.int .u8 ((y : Int) % 256)) (by rw [byt, HP4.out]))
  go_upto_region 13 with fail
  clear d0 d1 d2 d3
  obtain ⟨W9, hW9⟩ : ∃ W, (wc.setCell ⟨g3, i + 2, none⟩ (.int .u8 ((y : Int) / 256 % 256))).setCell ⟨g3, i + 3, none⟩ (.int .u8 ((y : Int) % 256)) = W := ⟨_, rfl⟩
  have F9 : Hid (Frm No w W9) := by
    show Frm No w W9
    rw [← hW9]
    exact (F8.out.setCell (hno (i + 2)) _).setCell (hno (i + 3)) _
  have R9 : Hid (Row W9 w.heap.size g L c' xs) := by
    show Row W9 _ _ _ _ _
    rw [← hW9]
    exact ownsRow_setCell_other (ownsRow_setCell_other R8.out (fun h => hgg (by injection h)) _) (fun h => hgg (by injection h)) _
  obtain ⟨P, hP⟩ : ∃ P, putAt O (i + 2) (hiB X2) (loB X2) = P := ⟨_, rfl⟩
  have hpl : P.length = L := by rw [← hP, putAt_length, hol2]
  have RP9 : Hid (Row W9 B0 g3 L c3 P) := by
    show Row W9 _ _ _ _ _
    rw [← hW9, ← hP]
    exact S2.out
  rw [hP] at HU2
  rw [hW9]
  clear hW9 hP S1 S2 F8 R8 RO8
  have U3 := Lib.hid (fun W : World => update32_any W v o y hvl hol hy)
  obtain ⟨u, hu⟩ : ∃ u, upd32Of v o y = u := ⟨_, rfl⟩
  rw [hu] at U3 HU2
  clear hu
  have NZ := Lib.hid (fun (W : World) (h : Rds W (some ⟨g3, 0, none⟩) P) => nonzero_any W (some ⟨g3, 0, none⟩) L c3 P hpl h (by omega))
  have OG := Lib.hid (fun (W : World) (h : Rds W (some ⟨g3, 0, none⟩) P) => of_any W (some ⟨g3, 0, none⟩) L c3 P hpl kc3 h (by omega))
  go_wp2_with fail
  refine (OF.out W9 R9.out.rds).mono ?_
  rintro e w10 ⟨rfl, hf⟩
  have F10 := Lib.hid (F9.out.new0 hf)
  have RP10 := Lib.hid (RP9.out.frm hf (fun x => x))
  clear hf F9 R9 RP9 OF
  go_wp2_with fail
  refine (U3.out w10).mono ?_
  rintro e w11 ⟨rfl, hf⟩
  have F11 := Lib.hid (F10.out.new0 hf)
  have RP11 := Lib.hid (RP10.out.frm hf (fun x => x))
  clear hf F10 RP10 U3
  by_cases hz : wsum P = 0
  · rw [show decide (wsum P ≠ 0) = false from decide_eq_false (fun h => h hz)] at NZ
    clear hz HU2 OG
    go_wp2_with fail
    refine (NZ.out w11 RP11.out.rds).mono ?_
    rintro e w12 ⟨rfl, m12, rfl⟩
    go_wp2
    go_ret
    exact ⟨rfl, F11.out.drewN m12⟩
  · have hu2 := HU2.out hz
    rw [← hu2] at OG
    rw [show decide (wsum P ≠ 0) = true from decide_eq_true hz] at NZ
    clear hz hu2 HU2
    have hGG : ((u : Int) == (u : Int)) = true := by simp
    go_wp2_with fail
    refine (NZ.out w11 RP11.out.rds).mono ?_
    rintro e w12 ⟨rfl, m12, rfl⟩
    go_wp2_with fail
    refine (OG.out _ (RP11.out.rds.drewN m12)).mono ?_
    rintro e w13 ⟨rfl, hf13⟩
    go_wp2
    go_ret
    exact ⟨rfl, (F11.out.drewN m12).new0 hf13⟩

theorem csumUpdates_int (w : World) (A : Option Addr) (n c : Nat) (bs : List UInt8) (t y : Int) (ht : 0 ≤ t ∧ t ≤ 65535) (hy : 0 ≤ y ∧ y ≤ 4294967295) (hn : bs.length = n) (hc : n ≤ c) (hnil : A = none → c = 0) (h : Rds w A bs) (h4 : n ≤ 140737488355328) :
    Calls Try.prog 8 #[.slice A n c, .int .u16 t, .int .u32 y] w fun e w' => e = .returned (.bool true) ∧ Frm No w w' := by
  obtain ⟨t', rfl⟩ : ∃ b : Nat, t = b := ⟨t.toNat, by omega⟩
  obtain ⟨y', rfl⟩ : ∃ b : Nat, y = b := ⟨y.toNat, by omega⟩
  exact csumUpdates w A n c bs t' y' (by omega) (by omega) hn hc hnil h h4
end Go.Proofs.Ytnokbnggpbjchaa
