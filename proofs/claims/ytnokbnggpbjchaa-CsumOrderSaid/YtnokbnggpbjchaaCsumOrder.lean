/-
  CsumOrder answers true: the order of words does not matter; the sum of bytes put together is that of both sums. For all bytes and numbers.
-/
import Derived.Test.YtnokbnggpbjchaaCsumFixed
import Derived.Test.YtnokbnggpbjchaaD1
import Derived.Deep.RegionLaw
namespace Go.Proofs.Ytnokbnggpbjchaa
open Go.ChangeShapes Go.WideShapes Go.ChangeAt Go.RowKit

theorem sum_two (zs ys : List UInt8) (h : zs.length % 2 = 0) : fold (sumOf zs + sumOf ys) = sumOf (zs ++ ys) := by
  unfold sumOf
  rw [fold_fold_add, fold_add_fold, wsum_append zs ys h]
theorem sum_zero (xs : List UInt8) : sumOf (xs ++ [0]) = sumOf xs := by
  unfold sumOf
  rcases Nat.mod_two_eq_zero_or_one xs.length with h | h
  · rw [wsum_append xs [0] h]
    rfl
  · rw [wsum_odd xs h]
theorem sum_turned (zs : List UInt8) (k : Nat) (hz : zs.length % 2 = 0) (hk : k % 2 = 0) (hkl : k ≤ zs.length) : sumOf (zs.drop k ++ zs.take k) = sumOf zs := by
  have h1 : (zs.drop k).length % 2 = 0 := by rw [List.length_drop]; omega
  have h2 : (zs.take k).length % 2 = 0 := by rw [List.length_take]; omega
  have e := wsum_append (zs.take k) (zs.drop k) h2
  rw [List.take_append_drop] at e
  unfold sumOf
  rw [wsum_append _ _ h1, e, Nat.add_comm]

/-- Concat of two slices, wherever they have been laid. -/
theorem concat_new (w : World) (A B : Option Addr) (n c m d : Nat) (xs ys : List UInt8) (hx : xs.length = n) (hy : ys.length = m) (hn : n ≤ 60000) (hm : m ≤ 60000) (hA : A = none → c = 0) (hB : B = none → d = 0)
    (hxr : Rds w A xs) (hyr : Rds w B ys) : Calls Try.prog 21 #[.slice (some ⟨w.heap.size, 0, none⟩) 2 2] (w.alloc (.cells #[.slice A n c, .slice B m d] 22)) (Joined w (n + m) (xs ++ ys)) := by
  refine (concat_two _ w.heap.size A B n c m d xs ys hx hy hn hm hA hB (hxr.alloc _) (hyr.alloc _) (Blk.new _ _ _)).mono ?_
  rintro e w' ⟨R, c', rfl, hc, hr, hf⟩
  exact ⟨R, c', rfl, hc, hr, ((Frm.refl No w).alloc _).new0 hf⟩

attribute [local go_sem] undef
attribute [local irreducible] wpList wpQuiet

set_option maxRecDepth 100000 in
set_option maxHeartbeats 8000000 in
theorem csumOrder (w : World) (A B : Option Addr) (n c m d : Nat) (asl bs : List UInt8) (t : Nat) (ht : t < 65536) (hn : asl.length = n) (hm : bs.length = m) (hc : n ≤ c) (hd : m ≤ d) (hA : A = none → c = 0) (hB : B = none → d = 0) (ha : Rds w A asl) (hb : Rds w B bs) (h4 : n ≤ 140737488355328) (h5 : m ≤ 140737488355328) :
    Calls Try.prog 7 #[.slice A n c, .slice B m d, .int .u16 (t : Int)] w fun e w' => e = .returned (.bool true) ∧ Frm No w w' := by
  obtain ⟨xs, hxs⟩ : ∃ xs, xs = asl.take 3000 := ⟨_, rfl⟩
  obtain ⟨ys, hys⟩ : ∃ ys, ys = bs.take 3000 := ⟨_, rfl⟩
  have HX := Lib.hid (ha.take 3000)
  have HY := Lib.hid (hb.take 3000)
  rw [← hxs] at HX
  rw [← hys] at HY
  have hxl : xs.length = min 3000 n := by rw [hxs, List.length_take, hn]
  have hyl : ys.length = min 3000 m := by rw [hys, List.length_take, hm]
  clear ha hb hxs hys hn hm
  go_enter Try.func7, Try.ntmps7
  go_wp2_with fail
  refine (awake w).mono ?_
  rintro e w1 ⟨rfl, hf⟩
  have F1 := Lib.hid hf
  have X1 := Lib.hid (HX.out.frm hf (fun _ _ x => x))
  have Y1 := Lib.hid (HY.out.frm hf (fun _ _ x => x))
  clear hf HX HY
  go_upto_region 3 with fail
  go_cut [0, 1] from 11 to 20 (fun a b wx => a = .slice A xs.length c ∧ b = .slice B ys.length d ∧ w1.drew = wx)
  case first =>
    by_cases hb1 : 3000 < n <;> by_cases hb2 : 3000 < m
    · have c1 : (3000 : Int) < n := by omega
      have c2 : (3000 : Int) < m := by omega
      have c3 : (3000 : Int) ≤ c := by omega
      have c4 : (3000 : Int) ≤ d := by omega
      have E1 := Lib.hid (show xs.length = 3000 by omega)
      have E2 := Lib.hid (show ys.length = 3000 by omega)
      clear hxl hyl
      go_region
      go_wp2_with fail
      go_meet
      exact ⟨by rw [E1.out], by rw [E2.out], rfl⟩
    · have c1 : (3000 : Int) < n := by omega
      have c2 : ¬ (3000 : Int) < m := by omega
      have c3 : (3000 : Int) ≤ c := by omega
      have c4 : (m : Int) ≤ d := by omega
      have E1 := Lib.hid (show xs.length = 3000 by omega)
      have E2 := Lib.hid (show ys.length = m by omega)
      clear hxl hyl
      go_region
      go_wp2_with fail
      go_meet
      exact ⟨by rw [E1.out], by rw [E2.out], rfl⟩
    · have c1 : ¬ (3000 : Int) < n := by omega
      have c2 : (3000 : Int) < m := by omega
      have c3 : (n : Int) ≤ c := by omega
      have c4 : (3000 : Int) ≤ d := by omega
      have E1 := Lib.hid (show xs.length = n by omega)
      have E2 := Lib.hid (show ys.length = 3000 by omega)
      clear hxl hyl
      go_region
      go_wp2_with fail
      go_meet
      exact ⟨by rw [E1.out], by rw [E2.out], rfl⟩
    · have c1 : ¬ (3000 : Int) < n := by omega
      have c2 : ¬ (3000 : Int) < m := by omega
      have c3 : (n : Int) ≤ c := by omega
      have c4 : (m : Int) ≤ d := by omega
      have E1 := Lib.hid (show xs.length = n by omega)
      have E2 := Lib.hid (show ys.length = m by omega)
      clear hxl hyl
      go_region
      go_wp2_with fail
      go_meet
      exact ⟨by rw [E1.out], by rw [E2.out], rfl⟩
  case rest =>
  obtain ⟨rfl, rfl, rfl⟩ := hcut
  have F2 : Hid (Frm No w w1.drew) := F1.out.drew
  have X2 : Hid (Rds w1.drew A xs) := X1.out
  have Y2 : Hid (Rds w1.drew B ys) := Y1.out
  obtain ⟨W, hW⟩ : ∃ W, w1.drew = W := ⟨_, rfl⟩
  rw [hW] at F2 X2 Y2 ⊢
  clear hW F1 X1 Y1
  obtain ⟨L, hL⟩ : ∃ L, xs.length = L := ⟨_, rfl⟩
  obtain ⟨M, hM⟩ : ∃ M, ys.length = M := ⟨_, rfl⟩
  rw [hL] at hxl ⊢
  rw [hM] at hyl ⊢
  have L1 : L ≤ 3000 := by omega
  have L2 : L ≤ c := by omega
  have M1 : M ≤ 3000 := by omega
  have M2 : M ≤ d := by omega
  clear hxl hyl hc hd h4 h5 n m
  obtain ⟨h, hh, hh2, hh3⟩ : ∃ h : Nat, (L : Int) / 2 = h ∧ 2 * h ≤ L ∧ L ≤ 2 * h + 1 := ⟨L / 2, by omega, by omega, by omega⟩
  obtain ⟨e, he, he2⟩ : ∃ e : Nat, e = 2 * h ∧ IntKind.i64.wrap ((h : Int) * 2) = (e : Int) := ⟨2 * h, rfl, by rw [IntWalk.i64_in] <;> omega⟩
  have hee : e % 2 = 0 := by omega
  have heL : e ≤ L := by omega
  have hec : (e : Int) ≤ c := by omega
  have hec2 : e ≤ c := by omega
  have hhe : (e : Int) / 2 = h := by omega
  clear he
  obtain ⟨zs, hzs⟩ : ∃ zs, xs.take e = zs := ⟨_, rfl⟩
  have hzl : zs.length = e := by rw [← hzs, List.length_take]; omega
  have Z2 := Lib.hid (X2.out.take e)
  rw [hzs] at Z2
  clear hzs
  have SZ := Lib.hid (fun (W : World) (h : Rds W A zs) => sum_any W A e c zs hzl hec2 h (by omega))
  have SX := Lib.hid (fun (W : World) (h : Rds W A xs) => sum_any W A L c xs hL L2 h (by omega))
  have SY := Lib.hid (fun (W : World) (h : Rds W B ys) => sum_any W B M d ys hM M2 h (by omega))
  obtain ⟨sz, hsz⟩ : ∃ s, sumOf zs = s := ⟨_, rfl⟩
  obtain ⟨sx, hsx⟩ : ∃ s, sumOf xs = s := ⟨_, rfl⟩
  obtain ⟨sy, hsy⟩ : ∃ s, sumOf ys = s := ⟨_, rfl⟩
  have szl := sumOf_le zs
  have syl := sumOf_le ys
  have h2 := sum_two zs ys (by omega)
  have h3 := sum_zero xs
  rw [hsz] at SZ szl h2
  rw [hsx] at SX h3
  rw [hsy] at SY syl h2
  obtain ⟨P, hP⟩ : ∃ P : UInt16, P.toNat = sz := ⟨UInt16.ofNat sz, by rw [UInt16.toNat_ofNat']; omega⟩
  obtain ⟨S, hS⟩ : ∃ S : UInt16, S.toNat = sy := ⟨UInt16.ofNat sy, by rw [UInt16.toNat_ofNat']; omega⟩
  obtain ⟨u, hu⟩ : ∃ u, sumOf (zs ++ ys) = u := ⟨_, rfl⟩
  rw [hu] at h2
  have HJ := Lib.hid (fun W : World => join_any (W.alloc (.cells (w16s [P, S]) 23)) (some ⟨W.heap.size, 0, none⟩) 2 2 [P, S] rfl (RdW.new W _) (by omega))
  rw [show fold (addU [P, S]) = u from by rw [← h2]; simp [addU, addUp, hP, hS], show w16s [P, S] = #[.int .u16 (sz : Int), .int .u16 (sy : Int)] from by simp [w16s, hP, hS]] at HJ
  have SC := Lib.hid (fun (W : World) (R : Option Addr) (c' : Nat) (hc : e + M ≤ c') (h : Rds W R (zs ++ ys)) => sum_any W R (e + M) c' (zs ++ ys) (by rw [List.length_append, hzl, hM]) hc h (by omega))
  rw [hu] at SC
  have SD := Lib.hid (fun (W : World) (R : Option Addr) (c' : Nat) (hc : L + 1 ≤ c') (h : Rds W R (xs ++ [0])) => sum_any W R (L + 1) c' (xs ++ [0]) (by rw [List.length_append, hL]; rfl) hc h (by omega))
  rw [h3] at SD
  clear hP hS hu h2 h3 szl syl
  have n1 : ((u : Int) != (u : Int)) = false := by simp
  have n2 : ((sx : Int) != (sx : Int)) = false := by simp
  go_upto_region 5 with fail
  go_wp2_with fail
  refine (concat_new W A B e c M d zs ys hzl hM (by omega) (by omega) hA hB Z2.out Y2.out).mono ?_
  rintro e5 w5 ⟨R5, c5, rfl, hc5, hr5, hf5⟩
  have F5 := Lib.hid (F2.out.new0 hf5)
  have X5 := Lib.hid (X2.out.frm hf5 (fun _ _ x => x))
  have Y5 := Lib.hid (Y2.out.frm hf5 (fun _ _ x => x))
  have Z5 := Lib.hid (Z2.out.frm hf5 (fun _ _ x => x))
  have R5' := Lib.hid hr5
  clear hf5 hr5 F2 X2 Y2 Z2
  go_wp2_with fail
  refine (SC.out w5 R5 c5 hc5 R5'.out).mono ?_
  rintro e6 w6 ⟨rfl, hf⟩
  have F6 := Lib.hid (F5.out.new0 hf)
  have X6 := Lib.hid (X5.out.frm hf (fun _ _ x => x))
  have Y6 := Lib.hid (Y5.out.frm hf (fun _ _ x => x))
  have Z6 := Lib.hid (Z5.out.frm hf (fun _ _ x => x))
  clear hf F5 X5 Y5 Z5 R5' SC
  go_wp2_with fail
  refine (SZ.out w6 Z6.out).mono ?_
  rintro e7 w7 ⟨rfl, hf⟩
  have F7 := Lib.hid (F6.out.new0 hf)
  have X7 := Lib.hid (X6.out.frm hf (fun _ _ x => x))
  have Y7 := Lib.hid (Y6.out.frm hf (fun _ _ x => x))
  have Z7 := Lib.hid (Z6.out.frm hf (fun _ _ x => x))
  clear hf F6 X6 Y6 Z6
  go_wp2_with fail
  refine (SY.out w7 Y7.out).mono ?_
  rintro e8 w8 ⟨rfl, hf⟩
  have F8 := Lib.hid (F7.out.new0 hf)
  have X8 := Lib.hid (X7.out.frm hf (fun _ _ x => x))
  have Z8 := Lib.hid (Z7.out.frm hf (fun _ _ x => x))
  clear hf F7 X7 Y7 Z7 SY
  go_wp2_with fail
  refine (HJ.out w8).mono ?_
  rintro e9 w9 ⟨rfl, hf'⟩
  have hf := ((Frm.refl No w8).alloc _).new0 hf'
  have F9 := Lib.hid (F8.out.new0 hf)
  have X9 := Lib.hid (X8.out.frm hf (fun _ _ x => x))
  have Z9 := Lib.hid (Z8.out.frm hf (fun _ _ x => x))
  clear hf hf' F8 X8 Z8 HJ
  go_wp2_with fail
  have CD : Calls Try.prog 21 #[.slice (some ⟨w9.heap.size + 1, 0, none⟩) 2 2] ((w9.alloc (.cells #[.int .u8 0] 5)).alloc (.cells #[.slice A L c, .slice (some ⟨w9.heap.size, 0, none⟩) 1 1] 22)) (Joined (w9.alloc (.cells #[.int .u8 0] 5)) (L + 1) (xs ++ [0])) := by
    have := concat_new (w9.alloc (.cells #[.int .u8 0] 5)) A (some ⟨w9.heap.size, 0, none⟩) L c 1 1 xs [0] hL rfl (by omega) (by omega) hA (fun h => by cases h) (X9.out.alloc _) (rds_new w9 [0])
    rwa [World.size_alloc] at this
  refine CD.mono ?_
  rintro e10 w10 ⟨R10, c10, rfl, hc10, hr10, hf'⟩
  have hf := ((Frm.refl No w9).alloc (.cells #[.int .u8 0] 5)).new0 hf'
  have F10 := Lib.hid (F9.out.new0 hf)
  have X10 := Lib.hid (X9.out.frm hf (fun _ _ x => x))
  have Z10 := Lib.hid (Z9.out.frm hf (fun _ _ x => x))
  have R10' := Lib.hid hr10
  clear hf hf' F9 X9 Z9 hr10 CD
  go_wp2_with fail
  refine (SD.out w10 R10 c10 hc10 R10'.out).mono ?_
  rintro e11 w11 ⟨rfl, hf⟩
  have F11 := Lib.hid (F10.out.new0 hf)
  have X11 := Lib.hid (X10.out.frm hf (fun _ _ x => x))
  have Z11 := Lib.hid (Z10.out.frm hf (fun _ _ x => x))
  clear hf F10 X10 Z10 R10' SD
  go_wp2_with fail
  refine (SX.out w11 X11.out).mono ?_
  rintro e12 w12 ⟨rfl, hf⟩
  have F12 := Lib.hid (F11.out.new0 hf)
  have Z12 := Lib.hid (Z11.out.frm hf (fun _ _ x => x))
  clear hf F11 X11 Z11 SX
  by_cases he0 : e = 0
  · subst he0
    obtain rfl : zs = [] := List.eq_nil_of_length_eq_zero hzl
    cases A with
    | none =>
      obtain rfl : c = 0 := hA rfl
      have CC := Lib.hid (fun (W' : World) (hb : Blk W' w12.heap.size 22 #[.slice none 0 0, .slice none 0 0]) =>
        concat_two W' w12.heap.size none none 0 0 0 0 [] [] rfl rfl (by omega) (by omega) (fun _ => by first | rfl | contradiction) (fun _ => by first | rfl | contradiction) (Rds.nil _ _) (Rds.nil _ _) hb)
      rw [show ([] : List UInt8) ++ [] = [] from rfl] at CC
      have SE := Lib.hid (fun (W : World) (R : Option Addr) (c' : Nat) => sum_any W R 0 c' [] rfl (by omega) (Rds.nil _ _) (by omega))
      rw [hsz] at SE
      have n3 : ((sz : Int) == (sz : Int)) = true := by simp
      go_wp2_with fail
      go_region_law (first
        | (go_simp; go_at_call 21; refine (CC.out _ (by exact Blk.new _ _ _)).mono ?_; rintro e13 w13 ⟨R13, c13, rfl, hc13, hr13, hf13⟩; have HF13 := Lib.hid hf13; have HR13 := Lib.hid hr13; clear hf13 hr13 CC)
        | (go_simp; go_at_call 20; refine (SE.out _ R13 c13).mono ?_; rintro e14 w14 ⟨rfl, hf14⟩; have HF14 := Lib.hid (HF13.out.new0 hf14); clear hf14 SE)
        | (go_simp; go_at_call 20; refine (SZ.out _ (Rds.nil _ _)).mono ?_; rintro e15 w15 ⟨rfl, hf15⟩; have HF15 := Lib.hid (HF14.out.new0 hf15); clear hf15))
      all_goals
        go_wp2
        go_ret
        exact ⟨rfl, ((F12.out.alloc _).drew).new0 HF15.out⟩
    | some ad =>
      have CC := Lib.hid (fun (W' : World) (hb : Blk W' w12.heap.size 22 #[.slice (some ad) 0 c, .slice (some ad) 0 c]) =>
        concat_two W' w12.heap.size (some ad) (some ad) 0 c 0 c [] [] rfl rfl (by omega) (by omega) (fun _ => by first | rfl | contradiction) (fun _ => by first | rfl | contradiction) (Rds.nil _ _) (Rds.nil _ _) hb)
      rw [show ([] : List UInt8) ++ [] = [] from rfl] at CC
      have SE := Lib.hid (fun (W : World) (R : Option Addr) (c' : Nat) => sum_any W R 0 c' [] rfl (by omega) (Rds.nil _ _) (by omega))
      rw [hsz] at SE
      have n3 : ((sz : Int) == (sz : Int)) = true := by simp
      go_wp2_with fail
      go_region_law (first
        | (go_simp; go_at_call 21; refine (CC.out _ (by exact Blk.new _ _ _)).mono ?_; rintro e13 w13 ⟨R13, c13, rfl, hc13, hr13, hf13⟩; have HF13 := Lib.hid hf13; have HR13 := Lib.hid hr13; clear hf13 hr13 CC)
        | (go_simp; go_at_call 20; refine (SE.out _ R13 c13).mono ?_; rintro e14 w14 ⟨rfl, hf14⟩; have HF14 := Lib.hid (HF13.out.new0 hf14); clear hf14 SE)
        | (go_simp; go_at_call 20; refine (SZ.out _ (Rds.nil _ _)).mono ?_; rintro e15 w15 ⟨rfl, hf15⟩; have HF15 := Lib.hid (HF14.out.new0 hf15); clear hf15))
      all_goals
        go_wp2
        go_ret
        exact ⟨rfl, ((F12.out.alloc _).drew).new0 HF15.out⟩
  · have hep : (0 : Int) < e := by omega
    obtain ⟨r, hr, hr2⟩ : ∃ r : Nat, (t : Int) % (h : Int) = r ∧ r < h := ⟨t % h, by simp, Nat.mod_lt _ (by omega)⟩
    obtain ⟨k, hk, hk2⟩ : ∃ i : Nat, i = 2 * r ∧ IntKind.i64.wrap ((r : Int) * 2) = (i : Int) := ⟨2 * r, rfl, by rw [IntWalk.i64_in] <;> omega⟩
    have hne : ¬ (h : Int) = 0 := by omega
    have kev : k % 2 = 0 := by omega
    have klt : k < e := by omega
    have kle : (k : Int) ≤ e := by omega
    have kc : (k : Int) ≤ c := by omega
    have kc2 : ¬ c = k := by omega
    clear hk
    cases A with
    | none =>
      have := hA rfl
      omega
    | some ad =>
    have hek : e - k + k = e := by omega
    have hst := sum_turned zs k (by omega) kev (by omega)
    rw [hsz] at hst
    have htl : (zs.drop k ++ zs.take k).length = e := by rw [List.length_append, List.length_drop, List.length_take]; omega
    have CC := Lib.hid (fun (W' : World) (hb : Blk W' w12.heap.size 22 #[.slice (some (ad.add k)) (e - k) (c - k), .slice (some ad) k c]) (h : Rds W' (some ad) zs) =>
      concat_two W' w12.heap.size (some (ad.add k)) (some ad) (e - k) (c - k) k c (zs.drop k) (zs.take k) (by rw [List.length_drop]; omega) (by rw [List.length_take]; omega) (by omega) (by omega) (fun h => by cases h) (fun h => by cases h)
        (h.drop k c (by omega) _ (by rw [if_neg kc2]; rfl)) (h.take k) hb)
    rw [hek] at CC
    have SE := Lib.hid (fun (W : World) (R : Option Addr) (c' : Nat) (hc : e ≤ c') (h : Rds W R (zs.drop k ++ zs.take k)) => sum_any W R e c' (zs.drop k ++ zs.take k) htl hc h (by omega))
    rw [hst] at SE
    have n3 : ((sz : Int) == (sz : Int)) = true := by simp
    clear hst htl hek
    go_wp2_with fail
    go_region_law (first
      | (go_simp; go_at_call 21; refine (CC.out _ (by exact Blk.new _ _ _) (by exact Z12.out.alloc _)).mono ?_; rintro e13 w13 ⟨R13, c13, rfl, hc13, hr13, hf13⟩; have HF13 := Lib.hid hf13; have HR13 := Lib.hid hr13; clear hf13 hr13 CC)
      | (go_simp; go_at_call 20; refine (SE.out _ R13 c13 hc13 HR13.out).mono ?_; rintro e14 w14 ⟨rfl, hf14⟩; have HF14 := Lib.hid (HF13.out.new0 hf14); clear hf14 SE)
      | (go_simp; go_at_call 20; refine (SZ.out _ (Rds.frm (by exact Z12.out.alloc _) HF14.out (fun _ _ x => x))).mono ?_; rintro e15 w15 ⟨rfl, hf15⟩; have HF15 := Lib.hid (HF14.out.new0 hf15); clear hf15))
    all_goals
      go_wp2
      go_ret
      exact ⟨rfl, ((F12.out.alloc _).drew).new0 HF15.out⟩
end Go.Proofs.Ytnokbnggpbjchaa
