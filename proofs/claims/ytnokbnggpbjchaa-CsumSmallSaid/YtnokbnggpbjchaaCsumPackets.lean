/-
  CsumPackets answers true: bytes whose checksum was computed with a pseudo header are right together with it. For all addresses, protocols, bytes and indices.
-/
import Derived.Test.YtnokbnggpbjchaaA1
import Derived.Test.YtnokbnggpbjchaaAp
import Derived.Test.YtnokbnggpbjchaaM0
import Derived.BigRegion
import Derived.Deep.RegionLaw
import Derived.LoopN
import Derived.Deep.Cut
import Derived.Deep.CutRange
import Derived.Deep.CutBlock
namespace Go.Proofs.Ytnokbnggpbjchaa
open Go.ChangeShapes Go.WideShapes Go.ChangeAt Go.RowKit

theorem neverOf_le {x : Nat} (h : x ≤ 65535) : neverOf x ≤ 65535 := by unfold neverOf; split <;> omega
theorem overOf_le (p : Nat) (bs : List UInt8) : overOf p bs ≤ 65535 := by unfold overOf; omega

/-- With its checksum put in, the sum is 65535. -/
theorem packet_sum (p : Nat) (bs : List UInt8) (i : Nat) (hi : i % 2 = 0) (h : i + 1 < bs.length) (c : Nat) (hc : c = overOf p (putAt bs i 0 0) ∨ c = neverOf (overOf p (putAt bs i 0 0))) :
    fold (p + sumOf (putAt bs i (hiB c) (loB c))) = 65535 := by
  have hle := overOf_le p (putAt bs i 0 0)
  have hc2 : c < 65536 := by
    have := neverOf_le hle
    rcases hc with rfl | rfl <;> omega
  unfold overOf at hc
  unfold sumOf at hc ⊢
  rw [fold_add_fold] at hc ⊢
  rw [putAt_sum _ _ _ _ hi h] at hc ⊢
  rw [word_hi_lo c hc2]
  obtain ⟨T, hT⟩ : ∃ T, p + wsum (bs.take i) + wsum (bs.drop (i + 2)) = T := ⟨_, rfl⟩
  have e0 : word 0 0 = 0 := rfl
  rw [e0, show p + (wsum (bs.take i) + 0 + wsum (bs.drop (i + 2))) = T from by omega] at hc
  rw [show p + (wsum (bs.take i) + c + wsum (bs.drop (i + 2))) = T + c from by omega]
  have h1 := fold_mod T
  have h2 := fold_zero T
  have h3 := fold_le T
  rw [fold_all]
  unfold neverOf at hc
  rcases hc with rfl | hc
  · omega
  · split at hc <;> omega

theorem pk_first {w w1 w2 : World} {ys : List UInt8} {m g c' : Nat} {o : Obj} {u : Value} (hu : u.ownBlock = some w1.heap.size) (hm : ys.length = m) (hf : Frm No w w1) (hr : Row w2 w.heap.size g (8 + m) c' (List.replicate 8 0 ++ ys)) (hg : (w1.alloc o).drew.grownBy w2 u.ownBlock) :
    ∃ g1 c1, Value.slice (some ⟨g, 0, none⟩) (8 + m) c' = .slice (some ⟨g1, 0, none⟩) (8 + ys.length) c1 ∧ Hid (Row w2 w.heap.size g1 (8 + ys.length) c1 (List.replicate 8 0 ++ ys)) ∧ Hid (Frm No w w2) := by
  subst hm
  refine ⟨g, c', rfl, hr, ?_⟩
  refine ((hf.alloc o).drew).trans (Frm.of_grown hg) (fun i hi hs => ?_)
  rw [hu] at hs
  injection hs with hs
  have := hf.size
  omega

theorem never_zero (w : World) : Calls Try.prog 30 #[.int .u16 0] w fun e w' => e = .returned (.int .u16 65535) ∧ w = w' := never_any w 0

attribute [local go_sem] undef
attribute [local irreducible] wpList

set_option maxRecDepth 100000 in
set_option maxHeartbeats 4000000 in
theorem csumPackets (w : World) (s d q : Nat) (A : Option Addr) (n c : Nat) (bs : List UInt8) (t : Nat) (hs : s < 4294967296) (hd : d < 4294967296) (hq : q < 256) (ht : t < 65536) (hn : bs.length = n) (hc : n ≤ c) (hnil : A = none → c = 0) (h : Rds w A bs) (h4 : n ≤ 140737488355328) :
    Calls Try.prog 9 #[.int .u32 (s : Int), .int .u32 (d : Int), .int .u8 (q : Int), .slice A n c, .int .u16 (t : Int)] w fun e w' => e = .returned (.bool true) ∧ Frm No w w' := by
  obtain ⟨ys, hys⟩ : ∃ ys, ys = bs.take 2992 := ⟨_, rfl⟩
  have H := Lib.hid (h.take 2992)
  rw [← hys] at H
  have hyl : ys.length = min 2992 n := by rw [hys, List.length_take, hn]
  have hmk := make_bytes 8 8 (by omega) (by omega)
  rw [show ((8 : Nat) : Int) = 8 from rfl] at hmk
  clear h hys
  go_enter Try.func9, Try.ntmps9
  go_wp2_with fail
  refine (awake w).mono ?_
  rintro e w1 ⟨rfl, hf⟩
  have F1 := Lib.hid hf
  have H1 := Lib.hid (H.out.frm hf (fun _ _ x => x))
  clear hf H
  go_upto_region 3 with fail
  go_cut [3] from 18 to 24 (fun s3 wx => ∃ g c', s3 = .slice (some ⟨g, 0, none⟩) (8 + ys.length) c' ∧ Hid (Row wx w.heap.size g (8 + ys.length) c' (List.replicate 8 0 ++ ys)) ∧ Hid (Frm No w wx))
  case first =>
    by_cases hb : 2992 < n
    · have q0 : (2992 : Int) < n := by omega
      have q1 : (2992 : Int) ≤ c := by omega
      have q2 : ys.length = 2992 := by omega
      go_region_law (refine step_append_bytes rfl (.tmp 18) (.tmp 23) rfl w.heap.size _ 8 (List.replicate 8 0) rfl (by exact (row_made w1 w.heap.size 8 (List.replicate 8 0) rfl F1.out.size (by omega)).drew) A 2992 c ys rfl q2 (by exact (H1.out.alloc _)) (fun h => by have := hnil h; omega) (by omega) (by have := F1.out.size; simp; omega) ?_; intro v' w2 hown' hgr; obtain ⟨g, c', rfl, hrow⟩ := Row.of_own hown' (by omega); have HR := Lib.hid hrow; have HG := Lib.hid hgr; clear hown' hrow hgr)
      all_goals
        go_wp2_with fail
        go_meet
        exact pk_first rfl q2 F1.out HR.out HG.out
    · have q0 : ¬ (2992 : Int) < n := by omega
      have q1 : (n : Int) ≤ c := by omega
      have q2 : ys.length = n := by omega
      go_region_law (refine step_append_bytes rfl (.tmp 18) (.tmp 23) rfl w.heap.size _ 8 (List.replicate 8 0) rfl (by exact (row_made w1 w.heap.size 8 (List.replicate 8 0) rfl F1.out.size (by omega)).drew) A n c ys rfl q2 (by exact (H1.out.alloc _)) (fun h => by have := hnil h; omega) (by omega) (by have := F1.out.size; simp; omega) ?_; intro v' w2 hown' hgr; obtain ⟨g, c', rfl, hrow⟩ := Row.of_own hown' (by omega); have HR := Lib.hid hrow; have HG := Lib.hid hgr; clear hown' hrow hgr)
      all_goals
        go_wp2_with fail
        go_meet
        exact pk_first rfl q2 F1.out HR.out HG.out
  case rest =>
  obtain ⟨g, c', rfl, HR, HF⟩ := hcut
  obtain ⟨xs, hxs⟩ : ∃ xs, List.replicate 8 (0 : UInt8) ++ ys = xs := ⟨_, rfl⟩
  obtain ⟨L, hL⟩ : ∃ L, 8 + ys.length = L := ⟨_, rfl⟩
  have hxl : xs.length = L := by rw [← hxs, ← hL]; simp; omega
  rw [hxs, hL] at HR
  have L1 : 8 ≤ L := by omega
  have L2 : L ≤ 3000 := by omega
  rw [hL]
  clear hxs hL hyl H1 hmk hnil F1 hn hc h4
  obtain ⟨h, hh, hh2, hh3⟩ : ∃ h : Nat, (L : Int) / 2 = h ∧ 2 * h ≤ L ∧ 4 ≤ h := ⟨L / 2, by omega, by omega, by omega⟩
  obtain ⟨r, hr, hr2⟩ : ∃ r : Nat, (t : Int) % (h : Int) = r ∧ r < h := ⟨t % h, by simp, Nat.mod_lt _ (by omega)⟩
  obtain ⟨i, hi, hi2⟩ : ∃ i : Nat, i = 2 * r ∧ IntKind.i64.wrap ((r : Int) * 2) = (i : Int) := ⟨2 * r, rfl, by rw [IntWalk.i64_in] <;> omega⟩
  have hne : ¬ (h : Int) = 0 := by omega
  have hev : i % 2 = 0 := by omega
  have hlt : i + 1 < L := by omega
  have hw1 : IntKind.i64.wrap ((i : Int) + 1) = i + 1 := by rw [IntWalk.i64_in] <;> omega
  have i0 : (i : Int) < L := by omega
  have i1 : (i : Int) + 1 < L := by omega
  have i2 : (0 : Int) ≤ (i : Int) + 1 := by omega
  clear hi
  have c0 := HR.out.cell i (by omega)
  have f0 := HR.out.frozen i
  have R1 := Lib.hid (HR.out.set i 0 (.int .u8 0) rfl)
  have c1 := R1.out.cell (i + 1) (by simp; omega)
  have f1 := R1.out.frozen (i + 1)
  have R2 := Lib.hid (R1.out.set (i + 1) 0 (.int .u8 0) rfl)
  go_wp2_with fail
  clear c0 f0 c1 f1
  obtain ⟨W2, hW2⟩ : ∃ W, (wc.setCell ⟨g, i, none⟩ (.int .u8 0)).setCell ⟨g, i + 1, none⟩ (.int .u8 0) = W := ⟨_, rfl⟩
  have hgw := HR.out.cap.2.1
  have F2 : Hid (Frm No w W2) := by
    show Frm No w W2
    rw [← hW2]
    exact (HF.out.setCell (p := ⟨g, i, none⟩) (fun h => absurd h (by show ¬ g < w.heap.size; omega)) _).setCell (p := ⟨g, i + 1, none⟩) (fun h => absurd h (by show ¬ g < w.heap.size; omega)) _
  have RR : Hid (Row W2 w.heap.size g L c' (putAt xs i 0 0)) := by
    show Row W2 _ _ _ _ _
    rw [← hW2]
    exact R2.out
  rw [hW2]
  clear hW2 R1 R2 HR HF
  obtain ⟨p, hp⟩ : ∃ p, psOf s d q L = p := ⟨_, rfl⟩
  have hp2 : p ≤ 65535 := by rw [← hp]; exact fold_le _
  have hp3 : ¬ p = 0 := by
    rw [← hp]
    intro h0
    have h1 := (fold_zero _).1 h0
    have e : (UInt16.ofNat L).toNat = L := by rw [UInt16.toNat_ofNat']; omega
    simp [addU, addUp, e] at h1
    omega
  have HP := Lib.hid (pseudo_yes W2 s d q L hs hd hq (by omega))
  rw [hp] at HP
  clear hp
  refine HP.out.mono ?_
  rintro e W3 ⟨rfl, hf⟩
  have F3 := Lib.hid (F2.out.new0 hf)
  have R3 := Lib.hid (RR.out.frm hf (fun x => x))
  clear hf HP F2 RR
  obtain ⟨zs, hzs⟩ : ∃ zs, putAt xs i 0 0 = zs := ⟨_, rfl⟩
  have hzl : zs.length = L := by rw [← hzs, putAt_length, hxl]
  rw [hzs] at R3
  have PS : Hid (∀ c, c = overOf p zs ∨ c = neverOf (overOf p zs) → fold (p + sumOf (putAt zs i (hiB c) (loB c))) = 65535) := fun c hc => by
    rw [← hzs] at hc ⊢
    rw [putAt_twice]
    exact packet_sum p xs i hev (by omega) c hc
  clear hzs
  have hcap := R3.out.cap.1
  obtain ⟨o, ho⟩ : ∃ o, overOf p zs = o := ⟨_, rfl⟩
  have ho2 : o ≤ 65535 := by rw [← ho]; exact overOf_le _ _
  have HO := Lib.hid (fun (W : World) (h : Rds W (some ⟨g, 0, none⟩) zs) => over_any W p hp2 (some ⟨g, 0, none⟩) L c' zs hzl hcap h (by omega))
  rw [ho] at HO PS
  clear ho
  obtain ⟨o', ho'⟩ : ∃ o', neverOf o = o' := ⟨_, rfl⟩
  have ho3 : o' ≤ 65535 := by rw [← ho']; exact neverOf_le ho2
  have HN := Lib.hid (fun W : World => never_any W o)
  rw [ho'] at HN PS
  clear ho'
  go_wp2_with fail
  refine (HO.out W3 R3.out.rds).mono ?_
  rintro e W4 ⟨rfl, hf⟩
  have F4 := Lib.hid (F3.out.new0 hf)
  have R4 := Lib.hid (R3.out.frm hf (fun x => x))
  clear hf F3 R3
  go_wp2_with fail
  refine (HO.out W4 R4.out.rds).mono ?_
  rintro e W5 ⟨rfl, hf⟩
  have F5 := Lib.hid (F4.out.new0 hf)
  have R5 := Lib.hid (R4.out.frm hf (fun x => x))
  clear hf F4 R4 HO
  go_wp2_with fail
  refine (HN.out W5).mono ?_
  rintro e W6 ⟨rfl, rfl⟩
  have B6 : Hid (Blk (W5.alloc (.cells #[.int .u16 (o : Int), .int .u16 (o' : Int)] 23)) W5.heap.size 23 #[.int .u16 (o : Int), .int .u16 (o' : Int)]) := Blk.new _ _ _
  have F6 : Hid (Frm No w (W5.alloc (.cells #[.int .u16 (o : Int), .int .u16 (o' : Int)] 23))) := F5.out.alloc _
  have R6 : Hid (Row (W5.alloc (.cells #[.int .u16 (o : Int), .int .u16 (o' : Int)] 23)) w.heap.size g L c' zs) := R5.out.frm ((Frm.refl No _).alloc _) (fun x => x)
  have hg2 : g ≠ W5.heap.size := by have := R5.out.cap.2.2; omega
  obtain ⟨g2, hg2'⟩ : ∃ g2, W5.heap.size = g2 := ⟨_, rfl⟩
  rw [hg2'] at hg2 B6
  obtain ⟨W7, hW7⟩ : ∃ W, W5.alloc (.cells #[.int .u16 (o : Int), .int .u16 (o' : Int)] 23) = W := ⟨_, rfl⟩
  rw [hW7] at B6 F6 R6
  go_wp2_with fail
  clear hW7 hg2' F5 R5 HN hlt
  have o2 : o < 65536 := by omega
  have o3 : o' < 65536 := by omega
  clear ho2 ho3
  have hlt : i + 1 < L := by omega
  go_loopw [59] (fun v wr => ∃ (j : Nat) (us : List UInt8), j ≤ 2 ∧ v = .int .i64 j ∧ Hid (Row wr w.heap.size g L c' us) ∧ Hid (∀ x y, putAt us i x y = putAt zs i x y) ∧ Hid (Blk wr g2 23 #[.int .u16 (o : Int), .int .u16 (o' : Int)]) ∧ Hid (Frm No w wr)) (fun v _ => 2 - (intOf v).toNat)
  case atStart => exact ⟨0, zs, by omega, rfl, R6, fun _ _ => rfl, B6, F6⟩
  case round =>
    obtain ⟨j, us, hj, rfl, RW, PW, BW, FW⟩ := hrel
    clear R6 B6 F6
    have hul := RW.out.len
    by_cases hj2 : j < 2
    · obtain ⟨cv, hcell, hcv, hcl⟩ : ∃ cv : Nat, wr.cell? ⟨g2, j, none⟩ = some (.int .u16 (cv : Int)) ∧ (cv = o ∨ cv = o') ∧ cv < 65536 := by
        rcases (show j = 0 ∨ j = 1 by omega) with rfl | rfl
        · exact ⟨o, (BW.out.cell 0).trans rfl, .inl rfl, o2⟩
        · exact ⟨o', (BW.out.cell 1).trans rfl, .inr rfl, o3⟩
      have hsum := PS.out cv hcv
      rw [← PW.out] at hsum
      have c0 := RW.out.cell i (by omega)
      have f0 := RW.out.frozen i
      have R1 := Lib.hid (RW.out.set i (hiB cv) (.int .u8 ((cv : Int) / 256)) (by rw [byt, hiB_val cv hcl]))
      have c1 := R1.out.cell (i + 1) (by simp; omega)
      have f1 := R1.out.frozen (i + 1)
      have R2 := Lib.hid (R1.out.set (i + 1) (loB cv) (.int .u8 ((cv : Int) % 256)) (by rw [byt, loB_val cv]))
      obtain ⟨W2, hW2⟩ : ∃ W, (wr.setCell ⟨g, i, none⟩ (.int .u8 ((cv : Int) / 256))).setCell ⟨g, i + 1, none⟩ (.int .u8 ((cv : Int) % 256)) = W := ⟨_, rfl⟩
      have F2 : Hid (Frm No w W2) := by
        show Frm No w W2
        rw [← hW2]
        exact (FW.out.setCell (p := ⟨g, i, none⟩) (fun h => absurd h (by show ¬ g < w.heap.size; omega)) _).setCell (p := ⟨g, i + 1, none⟩) (fun h => absurd h (by show ¬ g < w.heap.size; omega)) _
      have RR : Hid (Row W2 w.heap.size g L c' (putAt us i (hiB cv) (loB cv))) := by
        show Row W2 _ _ _ _ _
        rw [← hW2]
        exact R2.out
      have BB : Hid (Blk W2 g2 23 #[.int .u16 (o : Int), .int .u16 (o' : Int)]) := by
        show Blk W2 _ _ _
        rw [← hW2]
        exact (BW.out.far (p := ⟨g, i, none⟩) (fun h => hg2 h.symm) _).far (p := ⟨g, i + 1, none⟩) (fun h => hg2 h.symm) _
      clear R1 R2 RW BW FW
      obtain ⟨vs, hvs⟩ : ∃ vs, putAt us i (hiB cv) (loB cv) = vs := ⟨_, rfl⟩
      have hvl : vs.length = L := by rw [← hvs, putAt_length, hul]
      have PV : Hid (∀ x y, putAt vs i x y = putAt zs i x y) := fun x y => by rw [← hvs, putAt_twice]; exact PW.out x y
      rw [hvs] at RR hsum
      clear hvs PW
      have HO := Lib.hid (fun (W : World) (h : Rds W (some ⟨g, 0, none⟩) vs) => over_any W p hp2 (some ⟨g, 0, none⟩) L c' vs hvl hcap h (by omega))
      rw [show overOf p vs = 0 from by unfold overOf; rw [hsum]] at HO
      have HS := Lib.hid (fun (W : World) (h : Rds W (some ⟨g, 0, none⟩) vs) => sum_any W (some ⟨g, 0, none⟩) L c' vs hvl hcap h (by omega))
      obtain ⟨sv, hsv⟩ : ∃ sv, sumOf vs = sv := ⟨_, rfl⟩
      have hsl := sumOf_le vs
      rw [hsv] at HS hsl hsum
      obtain ⟨P, hP⟩ : ∃ P : UInt16, P.toNat = p := ⟨UInt16.ofNat p, by rw [UInt16.toNat_ofNat']; omega⟩
      obtain ⟨S, hS⟩ : ∃ S : UInt16, S.toNat = sv := ⟨UInt16.ofNat sv, by rw [UInt16.toNat_ofNat']; omega⟩
      have HJ := Lib.hid (fun W : World => join_any (W.alloc (.cells (w16s [P, S]) 23)) (some ⟨W.heap.size, 0, none⟩) 2 2 [P, S] rfl (RdW.new W _) (by omega))
      rw [show fold (addU [P, S]) = 65535 from by rw [← hsum]; simp [addU, addUp, hP, hS], show w16s [P, S] = #[.int .u16 (p : Int), .int .u16 (sv : Int)] from by simp [w16s, hP, hS]] at HJ
      clear hsv hsum hP hS hsl
      go_wp2_with fail
      refine (HS.out W2 RR.out.rds).mono ?_
      rintro e W3 ⟨rfl, hf⟩
      have F3 := Lib.hid (F2.out.new0 hf)
      have R3 := Lib.hid (RR.out.frm hf (fun x => x))
      have B3 := Lib.hid (BB.out.frm hf (fun x => x))
      clear hf F2 RR BB HS
      go_wp2_with fail
      refine (HJ.out W3).mono ?_
      rintro e W4 ⟨rfl, hf'⟩
      have hf := ((Frm.refl No W3).alloc _).new0 hf'
      have F4 := Lib.hid (F3.out.new0 hf)
      have R4 := Lib.hid (R3.out.frm hf (fun x => x))
      have B4 := Lib.hid (B3.out.frm hf (fun x => x))
      clear hf hf' F3 R3 B3 HJ
      go_wp2_with fail
      refine (HO.out W4 R4.out.rds).mono ?_
      rintro e W5 ⟨rfl, hf⟩
      have F5 := Lib.hid (F4.out.new0 hf)
      have R5 := Lib.hid (R4.out.frm hf (fun x => x))
      have B5 := Lib.hid (B4.out.frm hf (fun x => x))
      clear hf F4 R4 B4 HO
      go_wp2
      go_roundw
      case rel => exact ⟨j + 1, vs, by omega, by go_num, R5, PV, B5, F5⟩
      case measure => simp [intOf]; omega
    · have hj3 : j = 2 := by omega
      subst hj3
      have hp4 : ((p : Int) == 0) = false := by simp; omega
      have hL0 : ((L : Int) == 0) = false := by simp; omega
      go_wp2_with fail
      refine (never_zero wr).mono ?_
      rintro e W8 ⟨rfl, rfl⟩
      by_cases s0 : (s : Int) = 0
      · by_cases d0 : (d : Int) = 0
        · by_cases q0 : (q : Int) = 0
          · go_wp2
            go_ret
            exact ⟨rfl, FW.out⟩
          · go_wp2
            go_ret
            exact ⟨rfl, FW.out⟩
        · go_wp2
          go_ret
          exact ⟨rfl, FW.out⟩
      · go_wp2
        go_ret
        exact ⟨rfl, FW.out⟩

theorem csumPackets_int (w : World) (s d q : Int) (A : Option Addr) (n c : Nat) (bs : List UInt8) (t : Int) (hs : 0 ≤ s ∧ s ≤ 4294967295) (hd : 0 ≤ d ∧ d ≤ 4294967295) (hq : 0 ≤ q ∧ q ≤ 255) (ht : 0 ≤ t ∧ t ≤ 65535) (hn : bs.length = n) (hc : n ≤ c) (hnil : A = none → c = 0) (h : Rds w A bs) (h4 : n ≤ 140737488355328) :
    Calls Try.prog 9 #[.int .u32 s, .int .u32 d, .int .u8 q, .slice A n c, .int .u16 t] w fun e w' => e = .returned (.bool true) ∧ Frm No w w' := by
  obtain ⟨s', rfl⟩ : ∃ b : Nat, s = b := ⟨s.toNat, by omega⟩
  obtain ⟨d', rfl⟩ : ∃ b : Nat, d = b := ⟨d.toNat, by omega⟩
  obtain ⟨q', rfl⟩ : ∃ b : Nat, q = b := ⟨q.toNat, by omega⟩
  obtain ⟨t', rfl⟩ : ∃ b : Nat, t = b := ⟨t.toNat, by omega⟩
  exact csumPackets w s' d' q' A n c bs t' (by omega) (by omega) (by omega) (by omega) hn hc hnil h h4

theorem trodAll_five {H : Type} {enc : TypeId × Value → H} {P : Program} {w : World} {base : Nat} {spare : Nat → Bool} {held : Bool} {t t' t'' t3 t4 : TypeId} {args : Array Value} {ds : List (DataW H)} {ps : List MemPlace} (h : DataW.TrodAll enc P w base spare held [t, t', t'', t3, t4] args.toList ds ps) :
    ∃ v v' v'' v3 v4 d d' d'' d3 d4 p p' p'' p3 p4, args = #[v, v', v'', v3, v4] ∧ ds = [d, d', d'', d3, d4] ∧ ps = p ++ p' ++ p'' ++ p3 ++ p4 ∧ DataW.Trod enc P w base spare held t v d p ∧ DataW.Trod enc P w base spare held t' v' d' p' ∧ DataW.Trod enc P w base spare held t'' v'' d'' p'' ∧
      DataW.Trod enc P w base spare held t3 v3 d3 p3 ∧ DataW.Trod enc P w base spare held t4 v4 d4 p4 := by
  obtain ⟨v, vs, d, ds', p, q, hargs, rfl, rfl, hd, hrest⟩ := trodAll_cons h
  obtain ⟨v', vs', d', ds'', p', q', rfl, rfl, rfl, hd', hrest'⟩ := trodAll_cons hrest
  obtain ⟨v'', vs'', d'', ds''', p'', q'', rfl, rfl, rfl, hd'', hrest''⟩ := trodAll_cons hrest'
  obtain ⟨v3, vs3, d3, ds3, p3, q3, rfl, rfl, rfl, hd3, hrest3⟩ := trodAll_cons hrest''
  obtain ⟨v4, vs4, d4, ds4, p4, q4, rfl, rfl, rfl, hd4, hrest4⟩ := trodAll_cons hrest3
  obtain ⟨rfl, rfl, rfl⟩ := trodAll_nil hrest4
  exact ⟨v, v', v'', v3, v4, d, d', d'', d3, d4, p, p', p'', p3, p4, by cases args; simp_all, rfl, by simp, hd, hd', hd'', hd3, hd4⟩

set_option maxRecDepth 100000 in
theorem csumPackets_lifted (os : Os) (started : os.Started) (H : Type) (enc : TypeId × Value → H) :
    ReturnsInHanded {} Try.checked os 9 .any (Rows.csumPacketsSpec.pre6 enc Try.prog Try.f9 Rows.csumPacketsRow.domain false) (Rows.csumPacketsSpec.post enc Try.prog Try.f9 false true false false) := by
  refine returnsInHanded_of_change_sized (C := Try.checked) Try.own started (by kernel_rfl) Try.func9
    (ChangeSpec.witness6 (enc := enc) (C := Try.checked) false ⟨#[], #[.int .u32 0, .int .u32 0, .int .u8 0, .slice none 0 0, .int .u16 0], []⟩ 8 (by kernel_rfl) (by kernel_rfl) (by kernel_rfl) (by kernel_rfl)) ?_
  intro W base args ds gs before hval0 hW _ hsz0 _
  have hval : ∀ (j : Nat) t v, Try.f9.params[j]? = some t → args[j]? = some v → Value.okWide Try.prog W .any base t v := hval0
  have hW' := hW
  obtain ⟨p, q, hA0, hV, rfl, hfz, hnd⟩ := hW
  have hA : DataW.TrodAll enc Try.prog W 0 (fun _ => true) true Try.f9.params.toList args.toList ds p := hA0
  have hsz : (DataW.weightsEach Try.prog (Try.f9.params.toList ++ Rows.csumPacketsSpec.plain.varTypes Try.prog) (ds ++ gs)).all (· ≤ reachBytes) = true := hsz0
  rw [Try.params9] at hA hval hsz
  obtain ⟨v0, v1, v2, v3, v4, d0, d1, d2, d3, d4, p0, p1, p2, p3, p4, rfl, rfl, rfl, h0, h1, h2, h3, h4⟩ := trodAll_five hA
  obtain ⟨rfl, rfl⟩ := trodVars_none hV
  obtain ⟨x0, rfl, rfl, rfl, w0⟩ := open_int Try.underlying27 (hval 0 27 v0 rfl rfl) h0
  obtain ⟨x1, rfl, rfl, rfl, w1⟩ := open_int Try.underlying27 (hval 1 27 v1 rfl rfl) h1
  obtain ⟨x2, rfl, rfl, rfl, w2⟩ := open_int Try.underlying5 (hval 2 5 v2 rfl rfl) h2
  obtain ⟨A, n, c, bs, rfl, hn, hc, hr, hnil, hd⟩ := open_bytes (hval 3 22 v3 rfl rfl) h3
  obtain ⟨x4, rfl, rfl, rfl, w4⟩ := open_int Try.underlying23 (hval 4 23 v4 rfl rfl) h4
  have b0 : 0 ≤ x0 ∧ x0 ≤ 4294967295 := by simpa [Lit.wf, IntKind.min, IntKind.max, IntKind.signed, IntKind.bits] using w0
  have b1 : 0 ≤ x1 ∧ x1 ≤ 4294967295 := by simpa [Lit.wf, IntKind.min, IntKind.max, IntKind.signed, IntKind.bits] using w1
  have b2 : 0 ≤ x2 ∧ x2 ≤ 255 := by simpa [Lit.wf, IntKind.min, IntKind.max, IntKind.signed, IntKind.bits] using w2
  have b4 : 0 ≤ x4 ∧ x4 ≤ 65535 := by simpa [Lit.wf, IntKind.min, IntKind.max, IntKind.signed, IntKind.bits] using w4
  have hs : n ≤ 140737488355328 := by
    rcases hd with ⟨_, rfl⟩ | ⟨es, sp, rfl, hl⟩
    · omega
    · have := sized_slice hsz (j := 3) (t := 22) (e := 5) rfl rfl Try.underlying22
      rw [show Try.prog.bytesOf 5 = 1 from by kernel_rfl] at this
      unfold reachBytes at this
      omega
  refine (csumPackets_int W x0 x1 x2 A n c bs x4 b0 b1 b2 b4 hn hc hnil hr hs).mono fun e W' ⟨he, hf⟩ => ?_
  subst he
  exact ⟨_, rfl, post_true rfl hW' (by rw [Try.params9]; intro t ht; simp at ht; rcases ht with rfl | rfl | rfl | rfl <;> exact ⟨by kernel_rfl, of_decide_eq_true (by kernel_rfl)⟩) rfl rfl rfl rfl rfl (hf.below (Nat.le_refl _) (fun _ h => h.elim))⟩

theorem csumPackets_holds : Rows.CsumPacketsSaid :=
  OpenClaim.holds_of_wide 9 Try.f9 rfl rfl rfl rfl rfl rfl rfl ⟨rfl, rfl, rfl, rfl, rfl⟩ rfl rfl rfl rfl rfl (by kernel_rfl) Try.func9 (by kernel_rfl)
    (of_decide_eq_true (by kernel_rfl)) (by unfold Func.isWrapper; first | (rw [if_pos (by decide +kernel)]; kernel_rfl) | (rw [if_neg (by decide +kernel)]; exact ⟨rfl, rfl⟩))
    (fun os started H enc _ => csumPackets_lifted os started H enc)
end Go.Proofs.Ytnokbnggpbjchaa
