/-
  The header that some bytes have.
-/
import Derived.Test.YtcclneaabnpbkaaP2
import Derived.Test.YtcclneaabnpbkaaQL
import Derived.Deep.RegionHeld3
import Derived.Deep.DeepCutAuto
import Derived.Deep.Cut
import Derived.Deep.CutRange
namespace Go.Proofs.Ytcclneaabnpbkaa
open Go.RowKit
attribute [local go_sem] undef

def dfAt (bs : List UInt8) : Bool := decide (wordAt bs 6 / 16384 % 2 = 1)
def mfAt (bs : List UInt8) : Bool := decide (wordAt bs 6 / 8192 % 2 = 1)
def offAt (bs : List UInt8) : Nat := wordAt bs 6 % 8192 * 8
def optsAt (bs : List UInt8) : List UInt8 := (bs.take (sizeAt bs)).drop 20

/-- The header as a value, with what its options are. -/
def hdrV (bs : List UInt8) (V : Value) : Value := .agg #[.int .u8 (byteAt bs 1 : Int), .int .u16 (wordAt bs 4 : Int), .bool (dfAt bs), .bool (mfAt bs), .int .i64 (offAt bs : Int), .int .u8 (byteAt bs 8 : Int), .int .u8 (byteAt bs 9 : Int), .int .u32 (addrAt bs 12 : Int), .int .u32 (addrAt bs 16 : Int), V]

def HdrEnds (bs : List UInt8) (w : World) (e : Ending) (w' : World) : Prop :=
  ∃ g c, e = .returned (hdrV bs (.slice (some ⟨g, 0, none⟩) (sizeAt bs - 20) c)) ∧ Row w' w.heap.size g (sizeAt bs - 20) c (optsAt bs) ∧ Frm No w w'

theorem own_more {w : World} {b b' e size n : Nat} {v : Value} {xs : List Value} (h : w.ownsRow b e size v n xs) (hb : b' ≤ b) : w.ownsRow b' e size v n xs := by
  refine ⟨h.1, ?_⟩
  rcases h.2 with hn | ⟨g, cap, cur, hv, hg, rest⟩
  · exact .inl hn
  · exact .inr ⟨g, cap, cur, hv, by omega, rest⟩

theorem optsAt_len (bs : List UInt8) (h : sizeAt bs ≤ bs.length) : (optsAt bs).length = sizeAt bs - 20 := by
  unfold optsAt
  simp
  omega
theorem sizeAt_le (bs : List UInt8) : sizeAt bs ≤ 60 := by unfold sizeAt; omega
/-- bytes.Clone of a part of some bytes: a row of its own, with an address. -/
theorem bclone_row (w : World) (ad : Addr) (n c : Nat) (bs : List UInt8) (hn : bs.length = n) (h : Rds w (some ad) bs) (h4 : n ≤ 140737488355328) :
    Calls Try.prog 72 #[.slice (some ad) n c] w fun e w' => ∃ g c', e = .returned (.slice (some ⟨g, 0, none⟩) n c') ∧ Row w' w.heap.size g n c' bs ∧ Frm No w w' := by
  subst hn
  obtain ⟨i0, hi, hz0, hz1, hz2⟩ := info_parts info5
  have hnl := fun (a : Option Addr) (n c : Nat) (w : World) => Lib.run_eql_slice_nil (P := Try.prog) w 22 5 a n c 0 0 Try.underlying22
  have hown : (w.alloc (.cells #[] 5)).ownsRow w.heap.size 5 1 (.slice (some ⟨w.heap.size, 0, none⟩) 0 0) 0 [] := World.ownsRow_made w #[] 0 (Nat.le_refl _) (by unfold maxLen; omega) (by simp)
  have HN := Lib.hid (h.alloc (.cells #[] 5)).news
  clear h
  go_enter Try.func72, Try.ntmps72
  go_wp2_with (at_builtin; refine wpList_append_own _ rfl (.tmp 5) (.tmp 6) 22 rfl w.heap.size 5 i0 (.int .u8 0) 1 1 Try.underlying22 hi hz0 hz1 hz2 rfl (by decide) _ _ _ rfl hown ad bs.length c (byts bs) rfl (by simp [byts_len]) HN.out (byts_one bs) (by unfold maxLen; omega) (by omega) (by simp) ?_; intro v' w1 hown' hgr hnn)
  go_ret
  have hF : Frm No w w1 := ((Frm.refl No w).alloc _).trans (Frm.of_grown hgr) (fun i hi hs => by have hs' : some w.heap.size = some i := hs; injection hs' with hs'; omega)
  have ho : w1.ownsRow w.heap.size 5 1 v' bs.length (byts bs) := by simpa using hown'
  rcases ho.2 with ⟨hv, _⟩ | ⟨g, cap, cur, hv, _⟩
  · exact absurd (hnn.1 hv).1 (fun h => by cases h)
  · subst hv
    exact ⟨g, cap, rfl, ho, hF⟩

theorem bclone_some (w : World) (A : Option Addr) (n c : Nat) (bs : List UInt8) (hn : bs.length = n) (hA : ∃ ad, A = some ad) (h : Rds w A bs) (h4 : n ≤ 140737488355328) :
    Calls Try.prog 72 #[.slice A n c] w fun e w' => ∃ g c', e = .returned (.slice (some ⟨g, 0, none⟩) n c') ∧ Row w' w.heap.size g n c' bs ∧ Frm No w w' := by
  obtain ⟨ad, rfl⟩ := hA
  exact bclone_row w ad n c bs hn h h4

theorem blk10 {w : World} {g t : Nat} {x0 x1 x2 x3 x4 x5 x6 x7 x8 x9 : Value} (h : Blk w g t #[x0, x1, x2, x3, x4, x5, x6, x7, x8, x9]) :
    w.cell? ⟨g, 0, none⟩ = some x0 ∧ w.cell? ⟨g, 1, none⟩ = some x1 ∧ w.cell? ⟨g, 2, none⟩ = some x2 ∧ w.cell? ⟨g, 3, none⟩ = some x3 ∧ w.cell? ⟨g, 4, none⟩ = some x4 ∧ w.cell? ⟨g, 5, none⟩ = some x5 ∧ w.cell? ⟨g, 6, none⟩ = some x6 ∧ w.cell? ⟨g, 7, none⟩ = some x7 ∧ w.cell? ⟨g, 8, none⟩ = some x8 ∧ w.cell? ⟨g, 9, none⟩ = some x9 :=
  ⟨h.cell 0, h.cell 1, h.cell 2, h.cell 3, h.cell 4, h.cell 5, h.cell 6, h.cell 7, h.cell 8, h.cell 9⟩
theorem one10_0 {w : World} {g t : Nat} {x0 x1 x2 x3 x4 x5 x6 x7 x8 x9 : Value} (h : Blk w g t #[x0, x1, x2, x3, x4, x5, x6, x7, x8, x9]) (y : Value) : Blk (w.setCell ⟨g, 0, none⟩ y) g t #[y, x1, x2, x3, x4, x5, x6, x7, x8, x9] := h.set_ 0 y
theorem one10_1 {w : World} {g t : Nat} {x0 x1 x2 x3 x4 x5 x6 x7 x8 x9 : Value} (h : Blk w g t #[x0, x1, x2, x3, x4, x5, x6, x7, x8, x9]) (y : Value) : Blk (w.setCell ⟨g, 1, none⟩ y) g t #[x0, y, x2, x3, x4, x5, x6, x7, x8, x9] := h.set_ 1 y
theorem one10_2 {w : World} {g t : Nat} {x0 x1 x2 x3 x4 x5 x6 x7 x8 x9 : Value} (h : Blk w g t #[x0, x1, x2, x3, x4, x5, x6, x7, x8, x9]) (y : Value) : Blk (w.setCell ⟨g, 2, none⟩ y) g t #[x0, x1, y, x3, x4, x5, x6, x7, x8, x9] := h.set_ 2 y
theorem one10_3 {w : World} {g t : Nat} {x0 x1 x2 x3 x4 x5 x6 x7 x8 x9 : Value} (h : Blk w g t #[x0, x1, x2, x3, x4, x5, x6, x7, x8, x9]) (y : Value) : Blk (w.setCell ⟨g, 3, none⟩ y) g t #[x0, x1, x2, y, x4, x5, x6, x7, x8, x9] := h.set_ 3 y
theorem one10_4 {w : World} {g t : Nat} {x0 x1 x2 x3 x4 x5 x6 x7 x8 x9 : Value} (h : Blk w g t #[x0, x1, x2, x3, x4, x5, x6, x7, x8, x9]) (y : Value) : Blk (w.setCell ⟨g, 4, none⟩ y) g t #[x0, x1, x2, x3, y, x5, x6, x7, x8, x9] := h.set_ 4 y
theorem one10_5 {w : World} {g t : Nat} {x0 x1 x2 x3 x4 x5 x6 x7 x8 x9 : Value} (h : Blk w g t #[x0, x1, x2, x3, x4, x5, x6, x7, x8, x9]) (y : Value) : Blk (w.setCell ⟨g, 5, none⟩ y) g t #[x0, x1, x2, x3, x4, y, x6, x7, x8, x9] := h.set_ 5 y
theorem one10_6 {w : World} {g t : Nat} {x0 x1 x2 x3 x4 x5 x6 x7 x8 x9 : Value} (h : Blk w g t #[x0, x1, x2, x3, x4, x5, x6, x7, x8, x9]) (y : Value) : Blk (w.setCell ⟨g, 6, none⟩ y) g t #[x0, x1, x2, x3, x4, x5, y, x7, x8, x9] := h.set_ 6 y
theorem one10_7 {w : World} {g t : Nat} {x0 x1 x2 x3 x4 x5 x6 x7 x8 x9 : Value} (h : Blk w g t #[x0, x1, x2, x3, x4, x5, x6, x7, x8, x9]) (y : Value) : Blk (w.setCell ⟨g, 7, none⟩ y) g t #[x0, x1, x2, x3, x4, x5, x6, y, x8, x9] := h.set_ 7 y
theorem one10_8 {w : World} {g t : Nat} {x0 x1 x2 x3 x4 x5 x6 x7 x8 x9 : Value} (h : Blk w g t #[x0, x1, x2, x3, x4, x5, x6, x7, x8, x9]) (y : Value) : Blk (w.setCell ⟨g, 8, none⟩ y) g t #[x0, x1, x2, x3, x4, x5, x6, x7, y, x9] := h.set_ 8 y
theorem one10_9 {w : World} {g t : Nat} {x0 x1 x2 x3 x4 x5 x6 x7 x8 x9 : Value} (h : Blk w g t #[x0, x1, x2, x3, x4, x5, x6, x7, x8, x9]) (y : Value) : Blk (w.setCell ⟨g, 9, none⟩ y) g t #[x0, x1, x2, x3, x4, x5, x6, x7, x8, y] := h.set_ 9 y
theorem set10 {w : World} {g t : Nat} {x0 x1 x2 x3 x4 x5 x6 x7 x8 x9 : Value} (h : Blk w g t #[x0, x1, x2, x3, x4, x5, x6, x7, x8, x9]) (y0 y1 y2 y3 y4 y5 y6 y7 y8 y9 : Value) :
    Blk ((((((((((w.setCell ⟨g, 0, none⟩ y0).setCell ⟨g, 1, none⟩ y1).setCell ⟨g, 2, none⟩ y2).setCell ⟨g, 3, none⟩ y3).setCell ⟨g, 4, none⟩ y4).setCell ⟨g, 5, none⟩ y5).setCell ⟨g, 6, none⟩ y6).setCell ⟨g, 7, none⟩ y7).setCell ⟨g, 8, none⟩ y8).setCell ⟨g, 9, none⟩ y9) g t #[y0, y1, y2, y3, y4, y5, y6, y7, y8, y9] := by
  have h0 := one10_0 h y0
  have h1 := one10_1 h0 y1
  have h2 := one10_2 h1 y2
  have h3 := one10_3 h2 y3
  have h4 := one10_4 h3 y4
  have h5 := one10_5 h4 y5
  have h6 := one10_6 h5 y6
  have h7 := one10_7 h6 y7
  have h8 := one10_8 h7 y8
  have h9 := one10_9 h8 y9
  exact h9
theorem frm10 {S : Nat → Prop} {w W : World} {g : Nat} (h : Frm S w W) (hg : g < w.heap.size → S g) (y0 y1 y2 y3 y4 y5 y6 y7 y8 y9 : Value) :
    Frm S w ((((((((((W.setCell ⟨g, 0, none⟩ y0).setCell ⟨g, 1, none⟩ y1).setCell ⟨g, 2, none⟩ y2).setCell ⟨g, 3, none⟩ y3).setCell ⟨g, 4, none⟩ y4).setCell ⟨g, 5, none⟩ y5).setCell ⟨g, 6, none⟩ y6).setCell ⟨g, 7, none⟩ y7).setCell ⟨g, 8, none⟩ y8).setCell ⟨g, 9, none⟩ y9) :=
  (((((((((h.setCell (p := ⟨g, 0, none⟩) hg y0).setCell (p := ⟨g, 1, none⟩) hg y1).setCell (p := ⟨g, 2, none⟩) hg y2).setCell (p := ⟨g, 3, none⟩) hg y3).setCell (p := ⟨g, 4, none⟩) hg y4).setCell (p := ⟨g, 5, none⟩) hg y5).setCell (p := ⟨g, 6, none⟩) hg y6).setCell (p := ⟨g, 7, none⟩) hg y7).setCell (p := ⟨g, 8, none⟩) hg y8).setCell (p := ⟨g, 9, none⟩) hg y9

theorem Blk.frozens {w : World} {g t : Nat} {cs : Array Value} (h : Blk w g t cs) (i : Nat) : w.frozen? ⟨g, i, none⟩ = false := h.frozen i

set_option maxRecDepth 100000 in
set_option maxHeartbeats 4000000 in
theorem header_of (w : World) (A : Option Addr) (n c : Nat) (bs : List UInt8) (hn : bs.length = n) (h20 : 20 ≤ sizeAt bs) (hs : sizeAt bs ≤ n) (hc : n ≤ c) (h : Rds w A bs) (h4 : n ≤ 140737488355328) :
    Calls Try.prog 40 #[.slice A n c] w (HdrEnds bs w) := by
  obtain ⟨ad, rfl⟩ := h.addr (by omega)
  have H := Lib.hid h
  have HL : Hid (0 < bs.length) := by show 0 < bs.length; omega
  have HW1 := Lib.hid (fun W (hf : Frm No w W) => word_any W (some ad) n c bs 6 6 rfl hn (by omega) (H.out.frm hf (fun _ _ x => x)) h4)
  have HW2 := Lib.hid (fun W (hf : Frm No w W) => word_any W (some ad) n c bs 4 4 rfl hn (by omega) (H.out.frm hf (fun _ _ x => x)) h4)
  have HA1 := Lib.hid (fun W (hf : Frm No w W) => addr_any W (some ad) n c bs 12 12 rfl hn (by omega) (H.out.frm hf (fun _ _ x => x)) h4)
  have HA2 := Lib.hid (fun W (hf : Frm No w W) => addr_any W (some ad) n c bs 16 16 rfl hn (by omega) (H.out.frm hf (fun _ _ x => x)) h4)
  have HZ := Lib.hid (fun W (hf : Frm No w W) => size_of W (some ad) n c bs hn (by omega) (H.out.frm hf (fun _ _ x => x)) h4)
  have hpl := wordAt_lt bs 6
  obtain ⟨r1, e1, f1⟩ := bits_two (wordAt bs 6) 14 16384 16384 rfl rfl hpl (by omega)
  obtain ⟨r2, e2, f2⟩ := bits_two (wordAt bs 6) 13 8192 8192 rfl rfl hpl (by omega)
  have e3 := and8191 (wordAt bs 6) hpl
  have hol := optsAt_len bs (by omega)
  have d1 : dfAt bs = decide (wordAt bs 6 / 16384 % 2 = 1) := rfl
  have d2 : mfAt bs = decide (wordAt bs 6 / 8192 % 2 = 1) := rfl
  have d3 : offAt bs = wordAt bs 6 % 8192 * 8 := rfl
  have hz60 := sizeAt_le bs
  unfold HdrEnds hdrV
  obtain ⟨b, hb⟩ : ∃ b, (if c = 20 then some ad else some (⟨ad.block, ad.off + 20, none⟩ : Addr)) = some b := by split <;> exact ⟨_, rfl⟩
  have HC := Lib.hid (fun W (hf : Frm No w W) (k : Nat) => bclone_row W b (sizeAt bs - 20) k (optsAt bs) hol
    (((H.out.frm hf (fun _ _ x => x)).take (sizeAt bs)).drop 20 c (by simp; omega) (some b) (by rw [← hb]; simp [Addr.add])) (by omega))
  rw [← d1] at f1
  rw [← d2] at f2
  obtain ⟨p, hp⟩ : ∃ p, wordAt bs 6 = p := ⟨_, rfl⟩
  obtain ⟨q, hq⟩ : ∃ q, p % 8192 = q := ⟨_, rfl⟩
  obtain ⟨df, hdf⟩ : ∃ q, dfAt bs = q := ⟨_, rfl⟩
  obtain ⟨mf, hmf⟩ : ∃ q, mfAt bs = q := ⟨_, rfl⟩
  obtain ⟨v1, hv1⟩ : ∃ q, byteAt bs 1 = q := ⟨_, rfl⟩
  obtain ⟨v8, hv8⟩ : ∃ q, byteAt bs 8 = q := ⟨_, rfl⟩
  obtain ⟨v9, hv9⟩ : ∃ q, byteAt bs 9 = q := ⟨_, rfl⟩
  obtain ⟨i4, hi4⟩ : ∃ q, wordAt bs 4 = q := ⟨_, rfl⟩
  obtain ⟨sr, hsr⟩ : ∃ q, addrAt bs 12 = q := ⟨_, rfl⟩
  obtain ⟨ds, hds⟩ : ∃ q, addrAt bs 16 = q := ⟨_, rfl⟩
  obtain ⟨z, hz⟩ : ∃ q, sizeAt bs = q := ⟨_, rfl⟩
  obtain ⟨os, hos⟩ : ∃ q, optsAt bs = q := ⟨_, rfl⟩
  have cells := fun W (hf : Frm No w W) => (⟨(H.out.frm hf (fun _ _ x => x)).byte (k := 1) (by omega), (H.out.frm hf (fun _ _ x => x)).byte (k := 8) (by omega), (H.out.frm hf (fun _ _ x => x)).byte (k := 9) (by omega)⟩ : (∃ ad', some ad = some ad' ∧ W.cell? (ad'.add 1) = some (.int .u8 (byteAt bs 1 : Int))) ∧ (∃ ad', some ad = some ad' ∧ W.cell? (ad'.add 8) = some (.int .u8 (byteAt bs 8 : Int))) ∧ (∃ ad', some ad = some ad' ∧ W.cell? (ad'.add 9) = some (.int .u8 (byteAt bs 9 : Int))))
  have CE : Hid (∀ W, Frm No w W → W.cell? ⟨ad.block, ad.off + 1, none⟩ = some (.int .u8 (v1 : Int)) ∧ W.cell? ⟨ad.block, ad.off + 8, none⟩ = some (.int .u8 (v8 : Int)) ∧ W.cell? ⟨ad.block, ad.off + 9, none⟩ = some (.int .u8 (v9 : Int))) := by
    intro W hf
    obtain ⟨⟨a1, h1, c1⟩, ⟨a2, h2, c2⟩, ⟨a3, h3, c3⟩⟩ := cells W hf
    injection h1 with h1
    injection h2 with h2
    injection h3 with h3
    subst h1 h2
    subst h3
    rw [← hv1, ← hv8, ← hv9]
    exact ⟨c1, c2, c3⟩
  rw [hp] at HW1 e1 e2 e3 d3 hpl
  rw [hq] at e3 d3
  rw [hdf] at f1 ⊢
  rw [hmf] at f2 ⊢
  rw [d3, hv1, hv8, hv9, hsr, hds, hi4, hz, hos]
  rw [hi4] at HW2
  rw [hsr] at HA1
  rw [hds] at HA2
  rw [hz] at HZ HC h20 hs hz60
  rw [hos] at HC
  have hq2 : q < 8192 := by omega
  have cq : IntKind.i64.wrap (q : Int) = q := by rw [IntWalk.i64_in] <;> omega
  have cm : IntKind.i64.wrap ((q : Int) * 8) = q * 8 := by rw [IntWalk.i64_in] <;> omega
  have n1 : (1 : Int) < n := by omega
  have n8 : (8 : Int) < n := by omega
  have n9 : (9 : Int) < n := by omega
  have m1 : (20 : Int) ≤ z := by omega
  have m2 : (z : Int) ≤ c := by omega
  have m3 : (20 : Int) ≤ c := by omega
  have m4 : ¬ c = 20 ∨ c = 20 := by omega
  clear d1 d2 d3 hp hq hdf hmf hv1 hv8 hv9 hi4 hsr hds hz hos hol cells hq2 hpl h hn h20 hs hc
  go_enter Try.func40, Try.ntmps40
  go_wp2_with fail
  refine (HW1.out _ ((Frm.refl No w).alloc _)).mono ?_
  rintro e w1 ⟨rfl, k1, rfl⟩
  obtain ⟨w1, hw1⟩ : ∃ W, W = (w.alloc (.cells #[.int .u8 0, .int .u16 0, .bool false, .bool false, .int .i64 0, .int .u8 0, .int .u8 0, .int .u32 0, .int .u32 0, .slice none 0 0] 28)).drewN k1 := ⟨_, rfl⟩
  have F1 : Hid (Frm No w w1) := by show Frm No w w1; rw [hw1]; exact ((Frm.refl No w).alloc _).drewN k1
  have B1 : Hid (Blk w1 w.heap.size 28 #[.int .u8 0, .int .u16 0, .bool false, .bool false, .int .i64 0, .int .u8 0, .int .u8 0, .int .u32 0, .int .u32 0, .slice none 0 0]) := by show Blk w1 _ _ _; rw [hw1]; exact (Blk.new w 28 _).drewN k1
  have hsz : w.heap.size < w1.heap.size := B1.out.lt
  rw [← hw1]
  clear hw1
  go_wp2_with fail
  obtain ⟨q1, q8, q9⟩ := CE.out w1 F1.out
  have F1d : Hid (Frm No w w1.drew) := F1.out.drew
  have BX := Lib.hid (fun W (hf : Frm No w1 W) => blk10 (B1.out.frm hf (fun x => x)))
  have BF := Lib.hid (fun W (hf : Frm No w1 W) (i : Nat) => (B1.out.frm hf (fun x => x)).frozen i)
  have hne : ¬ ad.block = w.heap.size := by have := H.out.lt HL.out (k := ad.block) rfl; omega
  have hne2 : ¬ w.heap.size = ad.block := fun h => hne h.symm
  have F11d : Hid (Frm No w1 w1.drew) := (Frm.refl No w1).drew
  go_region_held3 (fun W => W.cell? ⟨ad.block, ad.off + 1, none⟩ = some (.int .u8 (v1 : Int)) ∧ W.cell? ⟨ad.block, ad.off + 8, none⟩ = some (.int .u8 (v8 : Int)) ∧ W.cell? ⟨ad.block, ad.off + 9, none⟩ = some (.int .u8 (v9 : Int))) (go_keep)
    (first
      | (go_at_call 69; (with_reducible refine (HW2.out _ ?_).mono ?_); (first | exact Frm.drewN (Hid.out FC) _ | exact Frm.drewN (Hid.out F1) _ | exact Hid.out FC | exact Hid.out F1d | exact Hid.out F1); rintro e w' ⟨rfl, m, rfl⟩)
      | (go_at_call 41; (with_reducible refine (HZ.out _ ?_).mono ?_); (first | exact Frm.drewN (Hid.out FC) _ | exact Frm.drewN (Hid.out F1) _ | exact Hid.out FC | exact Hid.out F1d | exact Hid.out F1); rintro e w' ⟨rfl, rfl⟩)
      | (go_at_call 71; (with_reducible refine (HA1.out _ ?_).mono ?_); (first | exact Frm.drewN (Hid.out FC) _ | exact Frm.drewN (Hid.out F1) _ | exact Hid.out FC | exact Hid.out F1d | exact Hid.out F1); rintro e w' ⟨rfl, m, rfl⟩)
      | (go_at_call 71; (with_reducible refine (HA2.out _ ?_).mono ?_); (first | exact Frm.drewN (Hid.out FC) _ | exact Frm.drewN (Hid.out F1) _ | exact Hid.out FC | exact Hid.out F1d | exact Hid.out F1); rintro e w' ⟨rfl, m, rfl⟩)
      | (go_at_call 72; (with_reducible refine (HC.out _ ?_ _).mono ?_); (first | exact Frm.drewN (Hid.out FC) _ | exact Frm.drewN (Hid.out F1) _ | exact Hid.out FC | exact Hid.out F1d | exact Hid.out F1); rintro e w' ⟨g, c', rfl, ho, hf⟩; have FC := Lib.hid (Frm.new0 (by first | exact Frm.drewN (Hid.out F1) _ | exact Hid.out F1d | exact Hid.out F1) hf); have OC := Lib.hid ho; obtain ⟨_, _, _⟩ := CE.out w' FC.out; obtain ⟨_, _, _, _, _, _, _, _, _, _⟩ := BX.out w' (Frm.new0 (by first | exact Frm.drewN (Frm.refl No w1) _ | exact Hid.out F11d) hf); have W11 := Lib.hid (Frm.new0 (by first | exact Frm.drewN (Frm.refl No w1) _ | exact Hid.out F11d) hf); have _z := (BF.out w' (Frm.new0 (by first | exact Frm.drewN (Frm.refl No w1) _ | exact Hid.out F11d) hf)); have _ := _z 0; have _ := _z 1; have _ := _z 2; have _ := _z 3; have _ := _z 4; have _ := _z 5; have _ := _z 6; have _ := _z 7; have _ := _z 8; have _ := _z 9; clear _z ho hf))
  go_wp2_with fail
  have B2 := B1.out.frm W11.out (fun x => x)
  have B3 := Lib.hid (set10 B2 (.int .u8 (v1 : Int)) (.int .u16 (i4 : Int)) (.bool df) (.bool mf) (.int .i64 ((q : Int) * 8)) (.int .u8 (v8 : Int)) (.int .u8 (v9 : Int)) (.int .u32 (sr : Int)) (.int .u32 (ds : Int)) (.slice (some ⟨g, 0, none⟩) (z - 20) c'))
  obtain ⟨z0, z1, z2, z3, z4, z5, z6, z7, z8, z9⟩ := blk10 B3.out
  have hgg := OC.out.cap.2.1
  have hgg2 : w1.heap.size ≤ g := hgg
  refine bodyPost_ret (v := .agg #[.int .u8 (v1 : Int), .int .u16 (i4 : Int), .bool df, .bool mf, .int .i64 ((q : Int) * 8), .int .u8 (v8 : Int), .int .u8 (v9 : Int), .int .u32 (sr : Int), .int .u32 (ds : Int), .slice (some ⟨g, 0, none⟩) (z - 20) c']) (by simp [results, Try.results40, go_sem, z0, z1, z2, z3, z4, z5, z6, z7, z8, z9]) rfl ⟨g, c', by simp, ?_, ?_⟩
  · have h1 : Row _ w.heap.size g (z - 20) c' os := own_more OC.out (by show w.heap.size ≤ w1.heap.size; omega)
    exact h1.frm (frm10 (S := One w.heap.size) (Frm.refl _ _) (fun _ => rfl) _ _ _ _ _ _ _ _ _ _) (fun h => by have : g = w.heap.size := h; omega)
  · exact frm10 FC.out (fun h => absurd h (by omega)) _ _ _ _ _ _ _ _ _ _
end Go.Proofs.Ytcclneaabnpbkaa
