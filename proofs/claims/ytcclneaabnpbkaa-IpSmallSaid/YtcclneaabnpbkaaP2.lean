/-
  What bytes say: two bytes as a number, four, the lengths; bytes.Clone.
-/
import Derived.Test.YtcclneaabnpbkaaP1
import Derived.Deep.QuietTactic
import Derived.BigQuiet
import Derived.BigRegion
import Derived.Laws.BitsAllLaws
namespace Go.Proofs.Ytcclneaabnpbkaa
open Go.RowKit
attribute [local go_sem] undef

def byteAt (bs : List UInt8) (k : Nat) : Nat := (bs.getD k 0).toNat
def wordAt (bs : List UInt8) (k : Nat) : Nat := word (bs.getD k 0) (bs.getD (k + 1) 0)
def addrAt (bs : List UInt8) (k : Nat) : Nat := wordAt bs k * 65536 + wordAt bs (k + 2)
/-- How many bytes the header, and the packet, are said to have. -/
def sizeAt (bs : List UInt8) : Nat := byteAt bs 0 % 16 * 4
def totAt (bs : List UInt8) : Nat := wordAt bs 2

theorem wordAt_lt (bs : List UInt8) (k : Nat) : wordAt bs k < 65536 := word_lt _ _
theorem byteAt_lt (bs : List UInt8) (k : Nat) : byteAt bs k < 256 := UInt8.toNat_lt _
theorem getD_at {bs : List UInt8} {k : Nat} (h : k < bs.length) : bs.getD k 0 = bs[k] := by simp [h]
theorem byteAt_at {bs : List UInt8} {k : Nat} (h : k < bs.length) : byteAt bs k = bs[k].toNat := by unfold byteAt; rw [getD_at h]
theorem wordAt_at {bs : List UInt8} {k : Nat} (h : k + 1 < bs.length) : wordAt bs k = word bs[k] bs[k + 1] := by unfold wordAt; rw [getD_at h, getD_at (k := k) (by omega)]

theorem Rds.byte {w : World} {A : Option Addr} {bs : List UInt8} (h : Rds w A bs) {k : Nat} (hk : k < bs.length) : ∃ ad, A = some ad ∧ w.cell? (ad.add k) = some (.int .u8 (byteAt bs k : Int)) := by
  rw [byteAt_at hk]
  exact h.at_ hk
/-- Bytes that a slice reads, in a block of which the address is not told. -/
theorem Rds.addr {w : World} {A : Option Addr} {bs : List UInt8} (h : Rds w A bs) (h0 : 0 < bs.length) : ∃ ad, A = some ad := by
  obtain ⟨ad, e, _⟩ := h h0
  exact ⟨ad, e⟩

theorem and15 (b : Nat) (h : b < 256) : bits .and .u8 (b : Int) 15 = ((b % 16 : Nat) : Int) := by
  have := u8_and_nat b 15 h (by omega)
  rw [show ((15 : Nat) : Int) = 15 from rfl] at this
  rw [this, Nat.and_two_pow_sub_one_eq_mod b 4]
theorem and_two (p k : Nat) : p &&& 2 ^ k = if p / 2 ^ k % 2 = 1 then 2 ^ k else 0 := by
  apply Nat.eq_of_testBit_eq
  intro i
  rw [Nat.testBit_and, Nat.testBit_two_pow]
  have h := @Nat.testBit_eq_decide_div_mod_eq k p
  by_cases hk : p / 2 ^ k % 2 = 1
  · rw [decide_eq_true hk] at h
    rw [if_pos hk, Nat.testBit_two_pow]
    by_cases hi : k = i
    · subst hi; simp [h]
    · simp [hi]
  · rw [decide_eq_false hk] at h
    rw [if_neg hk]
    by_cases hi : k = i
    · subst hi; simp [h]
    · simp [hi]
theorem bits_two (p k q : Nat) (z : Int) (hz : z = (q : Int)) (hq : q = 2 ^ k) (hp : p < 65536) (hk : k < 16) : ∃ r : Nat, bits .and .u16 (p : Int) z = (r : Int) ∧ ((r : Int) != 0) = decide (p / q % 2 = 1) := by
  subst hz hq
  have hlt : 2 ^ k < 65536 := by
    have : 2 ^ k ≤ 2 ^ 15 := Nat.pow_le_pow_right (by omega) (by omega)
    omega
  refine ⟨_, u16_and_nat p (2 ^ k) hp hlt, ?_⟩
  rw [and_two]
  have hpos : 0 < 2 ^ k := Nat.pow_pos (by omega)
  by_cases h : p / 2 ^ k % 2 = 1
  · rw [if_pos h, decide_eq_true h]
    simp only [bne_iff_ne, ne_eq]
    intro h0
    have := Int.natCast_eq_zero.1 h0
    omega
  · rw [if_neg h, decide_eq_false h]
    rfl
theorem and8191 (p : Nat) (hp : p < 65536) : bits .and .u16 (p : Int) 8191 = ((p % 8192 : Nat) : Int) := by
  have := u16_and_nat p 8191 hp (by omega)
  rw [show ((8191 : Nat) : Int) = 8191 from rfl] at this
  rw [this, Nat.and_two_pow_sub_one_eq_mod p 13]

set_option maxRecDepth 100000 in
set_option maxHeartbeats 1000000 in
theorem word_any (w : World) (A : Option Addr) (n c : Nat) (bs : List UInt8) (k : Nat) (z : Int) (hz : z = k) (hn : bs.length = n) (hk : k + 1 < n) (h : Rds w A bs) (h4 : n ≤ 140737488355328) :
    Calls Try.prog 69 #[.slice A n c, .int .i64 z] w fun e w' => e = .returned (.int .u16 (wordAt bs k : Int)) ∧ ∃ m, w' = w.drewN m := by
  subst hz
  obtain ⟨ad, rfl, d0⟩ := h.at_ (k := k) (by omega)
  obtain ⟨ad', he, d1⟩ := h.at_ (k := k + 1) (by omega)
  injection he with he
  subst he
  have ea : ad.add (k + 1) = ⟨ad.block, ad.off + (k + 1), none⟩ := by unfold Addr.add; simp
  rw [ea] at d1
  clear ea
  have hxz := or_word' bs[k] bs[k + 1]
  have hw := wordAt_at (bs := bs) (k := k) (by omega)
  rw [hw]
  obtain ⟨x, hx⟩ : ∃ x : Nat, word bs[k] bs[k + 1] = x := ⟨_, rfl⟩
  rw [hx] at hxz ⊢
  have cv1 := conv16 bs[k]
  have cv2 := conv16 bs[k + 1]
  have cv3 := shl16 bs[k]
  have hw1 : IntKind.i64.wrap ((k : Int) + 1) = k + 1 := by rw [IntWalk.i64_in] <;> omega
  have i0 : (k : Int) < n := by omega
  have i1 : (k : Int) + 1 < n := by omega
  have i2 : (0 : Int) ≤ (k : Int) + 1 := by omega
  have i3 : ((k : Int) + 1).toNat = k + 1 := by omega
  clear hw hx h
  go_enter Try.func69, Try.ntmps69
  go_wp2
  go_quiet (fail)
  go_wp2
  go_ret
  exact ⟨rfl, _, rfl⟩

theorem conv32 (x : Nat) (h : x < 65536) : IntKind.u32.wrap (x : Int) = x := by
  have e : IntKind.u32.wrap (x : Int) = (x : Int) % 4294967296 := rfl
  rw [e]
  omega
theorem shl32 (x : Nat) (h : x < 65536) : IntKind.u32.wrap ((x : Int) * 65536) = x * 65536 := by
  have e : IntKind.u32.wrap ((x : Int) * 65536) = ((x : Int) * 65536) % 4294967296 := rfl
  rw [e]
  omega
theorem or_addr (x y : Nat) (hx : x < 65536) (hy : y < 65536) : bits .or .u32 ((x : Int) * 65536) (y : Int) = ((x * 65536 + y : Nat) : Int) := by
  have e1 : (x : Int) * 65536 = ((x * 65536 : Nat) : Int) := by simp
  rw [e1, u32_or_nat _ _ (by omega) (by omega)]
  have h3 := Nat.two_pow_add_eq_or_of_lt (i := 16) (b := y) (by omega) x
  rw [Nat.mul_comm (2 ^ 16)] at h3
  rw [← h3]

set_option maxRecDepth 100000 in
set_option maxHeartbeats 1000000 in
theorem addr_any (w : World) (A : Option Addr) (n c : Nat) (bs : List UInt8) (k : Nat) (z : Int) (hz : z = k) (hn : bs.length = n) (hk : k + 3 < n) (h : Rds w A bs) (h4 : n ≤ 140737488355328) :
    Calls Try.prog 71 #[.slice A n c, .int .i64 z] w fun e w' => e = .returned (.int .u32 (addrAt bs k : Int)) ∧ ∃ m, w' = w.drewN m := by
  subst hz
  have HW1 := Lib.hid (fun m => word_any (w.drewN m) A n c bs k _ rfl hn (by omega) (h.drewN m) h4)
  have HW2 := Lib.hid (fun m => word_any (w.drewN m) A n c bs (k + 2) ((k : Int) + 2) (by omega) hn (by omega) (h.drewN m) h4)
  have hw1 : IntKind.i64.wrap ((k : Int) + 2) = k + 2 := by rw [IntWalk.i64_in] <;> omega
  have b1 := wordAt_lt bs k
  have b2 := wordAt_lt bs (k + 2)
  have ha : addrAt bs k = wordAt bs k * 65536 + wordAt bs (k + 2) := rfl
  rw [ha]
  obtain ⟨x, hx⟩ : ∃ x, wordAt bs k = x := ⟨_, rfl⟩
  obtain ⟨y, hy⟩ : ∃ x, wordAt bs (k + 2) = x := ⟨_, rfl⟩
  rw [hx] at b1 HW1 ⊢
  rw [hy] at b2 HW2 ⊢
  have s1 := conv32 x b1
  have s2 := conv32 y b2
  have s3 := shl32 x b1
  have s4 := or_addr x y b1 b2
  obtain ⟨v, hv⟩ : ∃ v : Nat, x * 65536 + y = v := ⟨_, rfl⟩
  rw [hv] at s4 ⊢
  clear ha hx hy hv h b1 b2
  go_enter Try.func71, Try.ntmps71
  go_wp2_with fail
  refine (HW1.out 0).mono ?_
  rintro e w1 ⟨rfl, m1, rfl⟩
  go_wp2_with fail
  refine (HW2.out m1).mono ?_
  rintro e w2 ⟨rfl, m2, rfl⟩
  go_wp2
  go_ret
  exact ⟨rfl, _, rfl⟩

set_option maxRecDepth 100000 in
theorem size_of (w : World) (A : Option Addr) (n c : Nat) (bs : List UInt8) (hn : bs.length = n) (h0 : 0 < n) (h : Rds w A bs) (h4 : n ≤ 140737488355328) :
    Calls Try.prog 41 #[.slice A n c] w fun e w' => e = .returned (.int .i64 (sizeAt bs : Int)) ∧ w' = w := by
  obtain ⟨ad, rfl, d0⟩ := h.byte (k := 0) (by omega)
  have hb := byteAt_lt bs 0
  have ha := and15 (byteAt bs 0) hb
  have hs : sizeAt bs = byteAt bs 0 % 16 * 4 := rfl
  rw [hs]
  obtain ⟨r, hr⟩ : ∃ r, byteAt bs 0 % 16 = r := ⟨_, rfl⟩
  have hr2 : r < 16 := by omega
  obtain ⟨b, hbb⟩ : ∃ b, byteAt bs 0 = b := ⟨_, rfl⟩
  rw [hr] at ha ⊢
  rw [hbb] at ha d0
  have d1 : w.cell? ad = some (.int .u8 (b : Int)) := d0
  have i0 : (0 : Int) < n := by omega
  have cv : IntKind.i64.wrap (r : Int) = r := by rw [IntWalk.i64_in] <;> omega
  have cm : IntKind.i64.wrap ((r : Int) * 4) = r * 4 := by rw [IntWalk.i64_in] <;> omega
  clear hs hr hbb h
  go_enter Try.func41, Try.ntmps41
  go_wp2
  go_ret
  exact ⟨by simp, rfl⟩

set_option maxRecDepth 100000 in
theorem total_of (w : World) (A : Option Addr) (n c : Nat) (bs : List UInt8) (hn : bs.length = n) (h0 : 3 < n) (h : Rds w A bs) (h4 : n ≤ 140737488355328) :
    Calls Try.prog 42 #[.slice A n c] w fun e w' => e = .returned (.int .i64 (totAt bs : Int)) ∧ ∃ m, w' = w.drewN m := by
  have HW1 := Lib.hid (word_any w A n c bs 2 2 rfl hn (by omega) h h4)
  have b1 := wordAt_lt bs 2
  have ht : totAt bs = wordAt bs 2 := rfl
  rw [ht]
  obtain ⟨x, hx⟩ : ∃ x, wordAt bs 2 = x := ⟨_, rfl⟩
  rw [hx] at b1 HW1 ⊢
  have cv : IntKind.i64.wrap (x : Int) = x := by rw [IntWalk.i64_in] <;> omega
  clear ht hx h
  go_enter Try.func42, Try.ntmps42
  go_wp2_with fail
  refine HW1.out.mono ?_
  rintro e w1 ⟨rfl, m1, rfl⟩
  go_wp2
  go_ret
  exact ⟨rfl, m1, rfl⟩

set_option maxRecDepth 100000 in
set_option maxHeartbeats 400000 in
theorem bclone (w : World) (ad : Addr) (n c : Nat) (bs : List UInt8) (hn : bs.length = n) (h : Rds w (some ad) bs) (h4 : n ≤ 140737488355328) :
    Calls Try.prog 72 #[.slice (some ad) n c] w (Fresh w bs) := by
  subst hn
  obtain ⟨i0, hi, hz0, hz1, hz2⟩ := info_parts info5
  have hnl := fun (a : Option Addr) (n c : Nat) (w : World) => Lib.run_eql_slice_nil (P := Try.prog) w 22 5 a n c 0 0 Try.underlying22
  have hown : (w.alloc (.cells #[] 5)).ownsRow w.heap.size 5 1 (.slice (some ⟨w.heap.size, 0, none⟩) 0 0) 0 [] := World.ownsRow_made w #[] 0 (Nat.le_refl _) (by unfold maxLen; omega) (by simp)
  have HN := Lib.hid (h.alloc (.cells #[] 5)).news
  clear h
  go_enter Try.func72, Try.ntmps72
  go_wp2_with (at_builtin; refine wpList_append_own _ rfl (.tmp 5) (.tmp 6) 22 rfl w.heap.size 5 i0 (.int .u8 0) 1 1 Try.underlying22 hi hz0 hz1 hz2 rfl (by decide) _ _ _ rfl hown ad bs.length c (byts bs) rfl (by simp [byts_len]) HN.out (byts_one bs) (by unfold maxLen; omega) (by omega) (by simp) ?_; intro v' w1 hown' hgr _)
  go_ret
  refine ⟨_, rfl, by simpa using hown', ?_⟩
  exact ((Frm.refl No w).alloc _).trans (Frm.of_grown hgr) (fun i hi hs => by have hs' : some w.heap.size = some i := hs; injection hs' with hs'; omega)
end Go.Proofs.Ytcclneaabnpbkaa
