/-
  ContainsFunc for CsumUpdates' own test; csum.Update32; the arithmetic of updates; four bytes as one number.
-/
import Derived.Test.YtnokbnggpbjchaaB1
namespace Go.Proofs.Ytnokbnggpbjchaa
open Go.RowKit

set_option maxRecDepth 100000 in
theorem nz24 (w : World) (x : UInt8) : Calls Try.prog 24 #[.int .u8 (x.toNat : Int)] w fun e w' => e = .returned (.bool (decide (x ≠ 0))) ∧ w = w' := by
  have hd : ((x.toNat : Int) != 0) = decide (x ≠ 0) := by
    by_cases h : x = 0
    · subst h; rfl
    · rw [decide_eq_true h]
      have : x.toNat ≠ 0 := fun h2 => h (UInt8.toNat_inj.1 h2)
      simp
      omega
  go_enter Try.func24, Try.ntmps24
  go_wp2
  go_ret
  exact ⟨by show Ending.returned (Value.bool (!decide (x = 0))) = _; simp, rfl⟩

set_option maxRecDepth 100000 in
set_option maxHeartbeats 1000000 in
theorem index24 (w : World) (A : Option Addr) (n c : Nat) (xs : List UInt8) (hn : xs.length = n) (h : Rds w A xs) (h4 : n ≤ 140737488355328) :
    Calls Try.prog 44 #[.slice A n c, .func (.func 24) #[] #[]] w (Found xs w) := by
  go_enter Try.func44, Try.ntmps44
  go_wp2
  go_loopw [8] (fun i wr => ∃ j m : Nat, j ≤ n ∧ i = .int .i64 j ∧ wr = w.drewN m ∧ Hid (∀ k (h1 : k < xs.length), k < j → xs[k] = 0)) (fun i _ => n - (intOf i).toNat)
  case atStart => exact ⟨0, 0, Nat.zero_le _, rfl, rfl, fun _ _ h => absurd h (by omega)⟩
  case round =>
    obtain ⟨j, m, hj, rfl, rfl, HP⟩ := hrel
    by_cases hlt : j < n
    · have hjx : j < xs.length := by omega
      obtain ⟨ad, rfl, hc⟩ := h.at_ hjx
      have HZ := Lib.hid (nz24 (w.drewN m) xs[j])
      by_cases hz : xs[j] = 0
      · rw [show decide (xs[j] ≠ 0) = false from decide_eq_false (fun h => h hz)] at HZ
        have HE := Lib.hid hz
        clear hz
        go_wp2_with fail
        refine HZ.out.mono ?_
        rintro e w' ⟨rfl, rfl⟩
        go_wp2
        go_roundw
        case rel => exact ⟨j + 1, _, by omega, by go_num, rfl, fun k h1 hk => by
          rcases Nat.lt_or_ge k j with h4 | h4
          · exact HP k h1 h4
          · obtain rfl : k = j := by omega
            exact HE.out⟩
        case measure => simp [intOf]; omega
      · rw [show decide (xs[j] ≠ 0) = true from decide_eq_true hz] at HZ
        have HE := Lib.hid hz
        clear hz
        go_wp2_with fail
        refine HZ.out.mono ?_
        rintro e w' ⟨rfl, rfl⟩
        go_wp2
        go_ret
        exact ⟨_, rfl, .inl ⟨by omega, fun h => HE.out (h _ (List.getElem_mem hjx))⟩, _, rfl⟩
    · go_wp2
      go_ret
      refine ⟨_, rfl, .inr ⟨rfl, fun x hx => ?_⟩, _, rfl⟩
      obtain ⟨k, hk, rfl⟩ := List.getElem_of_mem hx
      exact HP k hk (by omega)

set_option maxRecDepth 100000 in
theorem contains24 (w : World) (A : Option Addr) (n c : Nat) (xs : List UInt8) (hn : xs.length = n) (h : Rds w A xs) (h4 : n ≤ 140737488355328) :
    Calls Try.prog 18 #[.slice A n c, .func (.func 24) #[] #[]] w fun e w' => e = .returned (.bool (decide (wsum xs ≠ 0))) ∧ ∃ m, w' = w.drewN m := by
  have HI := Lib.hid (index24 w A n c xs hn h h4)
  clear h
  go_enter Try.func18, Try.ntmps18
  go_wp2_with fail
  refine HI.out.mono ?_
  rintro e w' ⟨z, rfl, hz, m, rfl⟩
  rcases hz with ⟨h0, h1⟩ | ⟨rfl, h1⟩
  · rw [← wsum_zero] at h1
    have g0 : decide (0 ≤ z) = true := decide_eq_true h0
    have H1 := Lib.hid h1
    clear h1
    go_wp2
    go_ret
    exact ⟨by rw [decide_eq_true H1.out]; rfl, m, rfl⟩
  · rw [← wsum_zero] at h1
    have H1 := Lib.hid h1
    clear h1
    go_wp2
    go_ret
    exact ⟨by rw [decide_eq_false (fun h => h H1.out)]; rfl, m, rfl⟩

set_option maxRecDepth 100000 in
theorem nonzero_any (w : World) (A : Option Addr) (n c : Nat) (xs : List UInt8) (hn : xs.length = n) (h : Rds w A xs) (h4 : n ≤ 140737488355328) :
    Calls Try.prog 23 #[.slice A n c] w fun e w' => e = .returned (.bool (decide (wsum xs ≠ 0))) ∧ ∃ m, w' = w.drewN m := by
  have HI := Lib.hid (contains24 w A n c xs hn h h4)
  obtain ⟨z, hz⟩ : ∃ z, decide (wsum xs ≠ 0) = z := ⟨_, rfl⟩
  rw [hz] at HI ⊢
  clear h hz
  go_enter Try.func23, Try.ntmps23
  go_wp2_with fail
  refine HI.out.mono ?_
  rintro e w' ⟨rfl, m, rfl⟩
  go_wp2
  go_ret
  exact ⟨rfl, m, rfl⟩

def upd32Of (c o x : Nat) : Nat := updOf (updOf c (up o).toNat (up x).toNat) (lo o).toNat (lo x).toNat

set_option maxRecDepth 100000 in
set_option maxHeartbeats 1000000 in
theorem update32_any (w : World) (c o x : Nat) (hc : c ≤ 65535) (ho : o < 4294967296) (hx : x < 4294967296) :
    Calls Try.prog 27 #[.int .u16 (c : Int), .int .u32 (o : Int), .int .u32 (x : Int)] w fun e w' => e = .returned (.int .u16 (upd32Of c o x : Int)) ∧ Frm No w w' := by
  have U1 := Lib.hid (fun W => upper_any W o ho)
  have U2 := Lib.hid (fun W => upper_any W x hx)
  have L1 := Lib.hid (fun W => lower_any W o)
  have L2 := Lib.hid (fun W => lower_any W x)
  unfold upd32Of
  have b1 := (up o).toNat_lt
  have b2 := (up x).toNat_lt
  have b3 := (lo o).toNat_lt
  have b4 := (lo x).toNat_lt
  obtain ⟨a1, h1⟩ : ∃ a, (up o).toNat = a := ⟨_, rfl⟩
  obtain ⟨a2, h2⟩ : ∃ a, (up x).toNat = a := ⟨_, rfl⟩
  obtain ⟨a3, h3⟩ : ∃ a, (lo o).toNat = a := ⟨_, rfl⟩
  obtain ⟨a4, h4⟩ : ∃ a, (lo x).toNat = a := ⟨_, rfl⟩
  rw [h1] at U1 b1 ⊢
  rw [h2] at U2 b2 ⊢
  rw [h3] at L1 b3 ⊢
  rw [h4] at L2 b4 ⊢
  clear h1 h2 h3 h4
  have HU1 := Lib.hid (upd_any (w.alloc (.cells #[.int .u16 (c : Int)] 23)) w.heap.size c a1 a2 hc (by omega) (by omega) (Blk.new _ _ _))
  have hle := updOf_le c a1 a2
  obtain ⟨v, hv⟩ : ∃ v, updOf c a1 a2 = v := ⟨_, rfl⟩
  unfold Upd at HU1
  rw [hv] at HU1 hle ⊢
  have HU2 := Lib.hid (fun (W : World) (h : Blk W w.heap.size 23 #[.int .u16 (v : Int)]) => upd_any W w.heap.size v a3 a4 hle (by omega) (by omega) h)
  obtain ⟨u, hu⟩ : ∃ u, updOf v a3 a4 = u := ⟨_, rfl⟩
  unfold Upd at HU2
  rw [hu] at HU2 ⊢
  clear hv hu hle
  go_enter Try.func27, Try.ntmps27
  go_wp2_with fail
  refine (updater_any w c).mono ?_
  rintro e w1 ⟨rfl, rfl⟩
  go_wp2_with fail
  refine (U1.out _).mono ?_
  rintro e w1 ⟨rfl, rfl⟩
  go_wp2_with fail
  refine (U2.out _).mono ?_
  rintro e w1 ⟨rfl, rfl⟩
  go_wp2_with fail
  refine HU1.out.mono ?_
  rintro e w2 ⟨rfl, hb, hf⟩
  have B2 := Lib.hid hb
  have F2 := Lib.hid (((Frm.refl No w).alloc _).trans hf (one_no (Nat.le_refl _)))
  clear hf hb HU1
  go_wp2_with fail
  refine (L1.out _).mono ?_
  rintro e w1 ⟨rfl, rfl⟩
  go_wp2_with fail
  refine (L2.out _).mono ?_
  rintro e w1 ⟨rfl, rfl⟩
  go_wp2_with fail
  refine (HU2.out w2 B2.out).mono ?_
  rintro e w3 ⟨rfl, _, hf⟩
  have F3 := Lib.hid (F2.out.trans hf (one_no (Nat.le_refl _)))
  clear hf HU2
  go_wp2
  go_ret
  exact ⟨rfl, F3.out⟩

theorem upd_word (S S' o x : Nat) (h : S + x = S' + o) (ho : o ≤ 65535) : updOf (65535 - fold S) o x = 65535 - fold (S' + 65535) := by
  have h1 := fold_le S
  unfold updOf
  rw [show 65535 - (65535 - fold S) + (65535 - o) + x = fold S + (65535 - o + x) from by omega, fold_fold_add, show S + (65535 - o + x) = S' + 65535 from by omega]
theorem fold_more (S k : Nat) (h : S ≠ 0) : fold (S + 65535 * k) = fold S := fold_congr (by omega) (by omega)
theorem fold_sub (S : Nat) : 65535 - (65535 - fold S) = fold S := by have := fold_le S; omega

/-- One word replaced. -/
theorem updates_one (bs : List UInt8) (i o x : Nat) (hi : i % 2 = 0) (h : i + 1 < bs.length) (ho : o = word bs[i] bs[i + 1]) (hx : x < 65536) :
    updOf (ofOf bs) o x = if wsum (putAt bs i (hiB x) (loB x)) = 0 then 0 else ofOf (putAt bs i (hiB x) (loB x)) := by
  have e1 := wsum_split bs i hi h
  have e2 := putAt_sum bs i (hiB x) (loB x) hi h
  rw [word_hi_lo x hx] at e2
  have hol := word_lt bs[i] bs[i + 1]
  rw [← ho] at e1 hol
  unfold ofOf sumOf
  obtain ⟨S', hS⟩ : ∃ S', wsum (putAt bs i (hiB x) (loB x)) = S' := ⟨_, rfl⟩
  rw [hS] at e2 ⊢
  rw [upd_word (wsum bs) S' o x (by omega) (by omega)]
  split
  · rename_i h0
    subst h0
    rfl
  · rename_i h0
    rw [show S' + 65535 = S' + 65535 * 1 from rfl, fold_more S' 1 h0]

theorem putAt_far (bs : List UInt8) (i : Nat) (x y : UInt8) (k : Nat) (hk : k < bs.length) (h : i + 2 ≤ k) (hk2 : k < (putAt bs i x y).length) : (putAt bs i x y)[k] = bs[k] := by
  have e : (putAt bs i x y)[k]? = bs[k]? := by
    unfold putAt
    rw [List.getElem?_set_ne (by omega), List.getElem?_set_ne (by omega)]
  rw [List.getElem?_eq_getElem hk2, List.getElem?_eq_getElem hk] at e
  injection e

/-- Two words replaced. -/
theorem updates_two (bs : List UInt8) (i o x : Nat) (hi : i % 2 = 0) (h : i + 3 < bs.length) (ho : o = word bs[i] bs[i + 1] * 65536 + word bs[i + 2] bs[i + 3])
    (h0 : wsum (putAt (putAt bs i (hiB (up x).toNat) (loB (up x).toNat)) (i + 2) (hiB (lo x).toNat) (loB (lo x).toNat)) ≠ 0) :
    upd32Of (ofOf bs) o x = ofOf (putAt (putAt bs i (hiB (up x).toNat) (loB (up x).toNat)) (i + 2) (hiB (lo x).toNat) (loB (lo x).toNat)) := by
  have l1 := word_lt bs[i] bs[i + 1]
  have l2 := word_lt bs[i + 2] bs[i + 3]
  have u1 : (up o).toNat = word bs[i] bs[i + 1] := by unfold up; rw [UInt16.toNat_ofNat']; omega
  have u2 : (lo o).toNat = word bs[i + 2] bs[i + 3] := by unfold lo; rw [UInt16.toNat_ofNat']; omega
  obtain ⟨x1, hx1⟩ : ∃ x1, (up x).toNat = x1 := ⟨_, rfl⟩
  obtain ⟨x2, hx2⟩ : ∃ x2, (lo x).toNat = x2 := ⟨_, rfl⟩
  have m1 : x1 < 65536 := by rw [← hx1]; exact (up x).toNat_lt
  have m2 : x2 < 65536 := by rw [← hx2]; exact (lo x).toNat_lt
  unfold upd32Of
  rw [u1, u2, hx1, hx2]
  rw [hx1, hx2] at h0
  obtain ⟨cs, hcs⟩ : ∃ cs, putAt bs i (hiB x1) (loB x1) = cs := ⟨_, rfl⟩
  have hcl : cs.length = bs.length := by rw [← hcs, putAt_length]
  have e1 := wsum_split bs i hi (by omega)
  have e2 := putAt_sum bs i (hiB x1) (loB x1) hi (by omega)
  rw [word_hi_lo x1 m1, hcs] at e2
  rw [hcs] at h0 ⊢
  have g2 : cs[i + 2]'(by omega) = bs[i + 2] := by
    subst hcs
    exact putAt_far bs i _ _ (i + 2) (by omega) (by omega) _
  have g3 : cs[i + 3]'(by omega) = bs[i + 3] := by
    subst hcs
    exact putAt_far bs i _ _ (i + 3) (by omega) (by omega) _
  have e3 := wsum_split cs (i + 2) (by omega) (by omega)
  have e4 := putAt_sum cs (i + 2) (hiB x2) (loB x2) (by omega) (by omega)
  rw [word_hi_lo x2 m2] at e4
  rw [show cs[i + 2 + 1]'(by omega) = bs[i + 3] from g3, g2] at e3
  unfold ofOf sumOf
  obtain ⟨S2, hS2⟩ : ∃ S2, wsum (putAt cs (i + 2) (hiB x2) (loB x2)) = S2 := ⟨_, rfl⟩
  rw [hS2] at e4 h0 ⊢
  rw [upd_word (wsum bs) (wsum cs) _ x1 (by omega) (by omega), upd_word (wsum cs + 65535) (S2 + 65535) _ x2 (by omega) (by omega)]
  rw [show S2 + 65535 + 65535 = S2 + 65535 * 2 from by omega, fold_more S2 2 h0]

theorem or32 (p q k : Nat) (hp : p * 2 ^ k < 4294967296) (hq : q < 2 ^ k) (hk : q < 4294967296) : bits BinOp.or IntKind.u32 ((p * 2 ^ k : Nat) : Int) (q : Int) = ((p * 2 ^ k + q : Nat) : Int) := by
  rw [u32_or_nat _ _ hp hk]
  have h3 := Nat.two_pow_add_eq_or_of_lt hq p
  rw [Nat.mul_comm (2 ^ k)] at h3
  rw [← h3]

/-- Four bytes as one number, as the walk reads them. -/
theorem four (a b c d : UInt8) : ∃ n1 n2 n3 : Nat, bits BinOp.or IntKind.u32 ((a.toNat : Int) * 16777216) ((b.toNat : Int) * 65536) = (n1 : Int) ∧ bits BinOp.or IntKind.u32 (n1 : Int) ((c.toNat : Int) * 256) = (n2 : Int) ∧
    bits BinOp.or IntKind.u32 (n2 : Int) (d.toNat : Int) = (n3 : Int) ∧ n3 = word a b * 65536 + word c d := by
  have ha := a.toNat_lt
  have hb := b.toNat_lt
  have hc := c.toNat_lt
  have hd := d.toNat_lt
  refine ⟨a.toNat * 2 ^ 24 + b.toNat * 65536, (a.toNat * 2 ^ 8 + b.toNat) * 2 ^ 16 + c.toNat * 256, (a.toNat * 2 ^ 16 + b.toNat * 256 + c.toNat) * 2 ^ 8 + d.toNat, ?_, ?_, ?_, ?_⟩
  · have := or32 a.toNat (b.toNat * 65536) 24 (by omega) (by omega) (by omega)
    rw [← this]
    simp
  · have := or32 (a.toNat * 2 ^ 8 + b.toNat) (c.toNat * 256) 16 (by omega) (by omega) (by omega)
    rw [← this, show a.toNat * 2 ^ 24 + b.toNat * 65536 = (a.toNat * 2 ^ 8 + b.toNat) * 2 ^ 16 from by omega]
    simp
  · have := or32 (a.toNat * 2 ^ 16 + b.toNat * 256 + c.toNat) d.toNat 8 (by omega) (by omega) (by omega)
    rw [← this, show (a.toNat * 2 ^ 8 + b.toNat) * 2 ^ 16 + c.toNat * 256 = (a.toNat * 2 ^ 16 + b.toNat * 256 + c.toNat) * 2 ^ 8 from by omega]
  · unfold word
    omega
end Go.Proofs.Ytnokbnggpbjchaa
