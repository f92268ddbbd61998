/-
  WireOne: texts and bytes belong to one another.
-/
import Derived.Test.YtgpnnnjhcjjnmaaA1
namespace Go.Proofs.Ytgpnnnjhcjjnmaa
open Go.RowKit

theorem dig_good (n : Nat) (h : n < 16) : good (dig n).toNat = true ∧ val (dig n).toNat = n := by
  have h16 : ∀ k : Fin 16, good (dig k.val).toNat = true ∧ val (dig k.val).toNat = k.val := by decide
  exact h16 ⟨n, h⟩
theorem good_dig (c : UInt8) (h : good c.toNat = true) : dig (val c.toNat) = c := by
  have hg : (48 ≤ c.toNat ∧ c.toNat ≤ 57) ∨ (97 ≤ c.toNat ∧ c.toNat ≤ 102) := by simpa [good] using h
  apply UInt8.toNat_inj.1
  unfold dig val
  rw [UInt8.toNat_ofNat']
  split <;> split <;> omega

theorem unhexs_hexs : ∀ bs : List UInt8, unhexs (hexs bs) = some bs
  | [] => rfl
  | b :: l => by
    have ih := unhexs_hexs l
    have hb := b.toNat_lt
    have h1 := dig_good (b.toNat / 16) (by omega)
    have h2 := dig_good (b.toNat % 16) (by omega)
    have e : hexs (b :: l) = dig (b.toNat / 16) :: dig (b.toNat % 16) :: hexs l := rfl
    rw [e, unhexs_two, h1.1, h2.1, ih, h1.2, h2.2]
    have : UInt8.ofNat (b.toNat / 16 * 16 + b.toNat % 16) = b := by
      apply UInt8.toNat_inj.1
      rw [UInt8.toNat_ofNat']
      omega
    simp [this]

theorem hexs_unhexs : ∀ (n : Nat) (l bs : List UInt8), l.length ≤ n → unhexs l = some bs → hexs bs = l
  | _, [], bs, _, h => by
    simp [unhexs] at h
    subst h
    rfl
  | _, [a], bs, _, h => by cases h
  | 0, a :: b :: l, bs, hn, h => by simp at hn
  | n + 1, a :: b :: l, bs, hn, h => by
    rw [unhexs_two] at h
    split at h
    · rename_i hg
      cases hu : unhexs l with
      | none => rw [hu] at h; cases h
      | some q =>
        rw [hu] at h
        simp only [Option.map_some, Option.some.injEq] at h
        subst h
        have ih := hexs_unhexs n l q (by simp at hn; omega) hu
        simp only [Bool.and_eq_true] at hg
        have v1 := val_le hg.1
        have v2 := val_le hg.2
        have e : hexs (UInt8.ofNat (val a.toNat * 16 + val b.toNat) :: q) = dig ((UInt8.ofNat (val a.toNat * 16 + val b.toNat)).toNat / 16) :: dig ((UInt8.ofNat (val a.toNat * 16 + val b.toNat)).toNat % 16) :: hexs q := rfl
        have e2 : (UInt8.ofNat (val a.toNat * 16 + val b.toNat)).toNat = val a.toNat * 16 + val b.toNat := by rw [UInt8.toNat_ofNat']; omega
        rw [e, e2, ih, show (val a.toNat * 16 + val b.toNat) / 16 = val a.toNat from by omega, show (val a.toNat * 16 + val b.toNat) % 16 = val b.toNat from by omega, good_dig a hg.1, good_dig b hg.2]
    · cases h

theorem ret_bool {b : Bool} (h : b = true) : Ending.returned (.bool b) = .returned (.bool true) := by rw [h]

/-- A string of these bytes. -/
theorem str_eq {s t : ByteArray} (h : s.data.toList = t.data.toList) : s = t := by
  obtain ⟨⟨l⟩⟩ := s
  obtain ⟨⟨m⟩⟩ := t
  have h' : l = m := h
  rw [h']

/-- The text t of bytes; nothing that was there has changed. -/
def Text (w : World) (bs : List UInt8) (n : Nat) (e : Ending) (w' : World) : Prop :=
  ∃ t : ByteArray, e = .returned (.tuple #[.string t, .int .i64 0]) ∧ t.data.toList = hexs bs ∧ t.size = 2 * n ∧ Frm No w w'

theorem hex_n (w : World) (A : Option Addr) (c n : Nat) (bs : List UInt8) (hn : bs.length = n) (h : Rds w A bs) (hs : n ≤ 131072) :
    Calls Try.prog 38 #[.slice A n c] w (Text w bs n) := by
  subst hn
  refine (hex_any w A c bs h hs).mono ?_
  rintro e w' ⟨rfl, hf⟩
  exact ⟨_, rfl, rfl, by show (hexs bs).toArray.size = _; rw [List.size_toArray, hexs_len], hf⟩

/-- The bytes of a text. -/
def Back (w : World) (bs : List UInt8) (n : Nat) (e : Ending) (w' : World) : Prop :=
  ∃ A c, e = .returned (.tuple #[.slice A n c, .int .i64 0]) ∧ bs.length = n ∧ Src w' A c bs ∧ (∀ i, blk A = some i → w.heap.size ≤ i) ∧ Frm No w w'

theorem unhex_some (s : ByteArray) (w : World) (bs : List UInt8) (n : Nat) (hn : bs.length = n) (hs : s.size ≤ 262144) (h : unhexs s.data.toList = some bs) : Calls Try.prog 39 #[.string s] w (Back w bs n) := by
  refine (unhex_any s w hs).mono ?_
  intro e w' he
  unfold Parsed at he
  rw [h] at he
  obtain ⟨v, rfl, ho, hf⟩ := he
  obtain ⟨A, c, rfl, hl, hs, hb⟩ := Src.of_own ho
  subst hn
  exact ⟨A, c, rfl, rfl, hs, fun i hi => (own_lt ho (hb.trans hi)).1, hf⟩
theorem unhex_none (s : ByteArray) (w : World) (hs : s.size ≤ 262144) (h : unhexs s.data.toList = none) : Calls Try.prog 39 #[.string s] w fun e w' => e = .returned (.tuple #[.slice none 0 0, .int .i64 10]) ∧ Frm No w w' := by
  refine (unhex_any s w hs).mono ?_
  intro e w' he
  unfold Parsed at he
  rw [h] at he
  exact he

theorem unhexs_len2 {l r : List UInt8} (h : unhexs l = some r) : l.length = 2 * r.length := by
  have := hexs_unhexs l.length l r (Nat.le_refl _) h
  rw [← this, hexs_len]

theorem equal_n (w : World) (A B : Option Addr) (c d n m : Nat) (xs ys : List UInt8) (hn : xs.length = n) (hm : ys.length = m) (ha : Rds w A xs) (hb : Rds w B ys) (hs : n ≤ 140737488355328) (b : Bool) (hxy : decide (xs = ys) = b) :
    Calls Try.prog 37 #[.slice A n c, .slice B m d] w (Answers b w) := by
  subst hn hm hxy
  exact equal_any w A B c d xs ys ha hb hs

set_option maxRecDepth 100000 in
set_option maxHeartbeats 1000000 in
theorem wireOne (w : World) (A : Option Addr) (c : Nat) (bs : List UInt8) (s : ByteArray) (h : Rds w A bs) (hc : bs.length ≤ c) (hs : s.size ≤ 140737488351232) :
    Calls Try.prog 9 #[.slice A bs.length c, .string s] w fun e w' => e = .returned (.bool true) ∧ Frm No w w' := by
  obtain ⟨cs, hcs⟩ : ∃ cs, cs = bs.take 2000 := ⟨_, rfl⟩
  have hcl : cs.length = min 2000 bs.length := by rw [hcs, List.length_take]
  have H := Lib.hid (h.take 2000)
  rw [← hcs] at H
  have HCL := Lib.hid hcl
  clear h hcs hcl
  go_enter Try.func9, Try.ntmps9
  go_wp2_with fail
  refine (awake w).mono ?_
  rintro e w1 ⟨rfl, f1⟩
  have F1 := Lib.hid f1
  clear f1
  go_wp2_with fail
  all_goals
    refine (hex_n _ _ _ _ cs (by have := HCL.out; omega) (H.out.frm F1.out (fun _ _ x => x)) (by omega)).mono ?_
    rintro e w2 ⟨t, rfl, ht, htn, f2⟩
    have F2 := Lib.hid (F1.out.new0 f2)
    have HT := Lib.hid ht
    clear f2 ht
    go_wp2_with fail
    refine (unhex_some t _ cs cs.length rfl (by omega) (by rw [HT.out, unhexs_hexs])).mono ?_
    rintro e w3 ⟨A3, c3, rfl, _, h3, b3, f3⟩
    have F3 := Lib.hid (F2.out.new0 f3)
    have H3 := Lib.hid h3
    clear h3 f3 b3
    go_wp2_with fail
    refine (equal_n _ _ _ _ _ cs.length _ cs cs rfl (by have := HCL.out; omega) H3.out.rds (H.out.frm F3.out (fun _ _ x => x)) (by have := HCL.out; omega) true (by simp)).mono ?_
    rintro e w4 ⟨rfl, n4, rfl⟩
    have F4 := Lib.hid (F3.out.drewN n4)
    go_wp2_with fail
    by_cases hl : 262144 < s.size
    · refine (unhex_long s _ hl).mono ?_
      rintro e w5 ⟨rfl, rfl⟩
      go_wp2
      go_ret
      exact ⟨ret_bool (decide_eq_true (by omega)), F4.out⟩
    · cases hu : unhexs s.data.toList with
      | none =>
        refine (unhex_none s _ (by omega) hu).mono ?_
        rintro e w5 ⟨rfl, f5⟩
        have F5 := Lib.hid (F4.out.new0 f5)
        clear f5 hu
        go_wp2
        go_ret
        exact ⟨rfl, F5.out⟩
      | some r =>
        have hrl := unhexs_len2 hu
        have hrs : s.data.toList.length = s.size := Array.length_toList
        refine (unhex_some s _ r r.length rfl (by omega) hu).mono ?_
        rintro e w5 ⟨A5, c5, rfl, _, h5, _, f5⟩
        have F5 := Lib.hid (F4.out.new0 f5)
        have H5 := Lib.hid h5
        have HU := Lib.hid hu
        have HRL : Hid (r.length ≤ 131072) := by show r.length ≤ 131072; omega
        clear f5 h5 hu hrl hrs
        go_wp2_with fail
        refine (hex_n _ _ _ _ r rfl H5.out.rds HRL.out).mono ?_
        rintro e w6 ⟨t6, rfl, ht6, _, f6⟩
        obtain rfl : t6 = s := str_eq (by rw [ht6]; exact hexs_unhexs _ _ _ (Nat.le_refl _) HU.out)
        have F6 := Lib.hid (F5.out.new0 f6)
        clear f6 ht6
        go_wp2
        go_ret
        exact ⟨rfl, F6.out⟩
end Go.Proofs.Ytgpnnnjhcjjnmaa
