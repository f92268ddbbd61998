/-
  fixed, of 22 bytes: 22 bytes again.
-/
import Derived.Test.YtcclneaabnpbkaaRR
import Derived.BigQuiet
namespace Go.Proofs.Ytcclneaabnpbkaa
open Go.RowKit
attribute [local go_sem] undef

/-- Twenty-two bytes of its own. -/
def Fresh22 (w : World) (e : Ending) (w' : World) : Prop :=
  ∃ g c xs, e = .returned (.slice (some ⟨g, 0, none⟩) 22 c) ∧ Row w' w.heap.size g 22 c xs ∧ Frm No w w'

theorem rem_one (s : Nat) (hs : s ≤ 1000000) : ∃ (a0 a1 : Int) (r : Nat), r ≤ 65535 ∧ IntKind.i64.wrap ((s : Int) - 1) = a0 ∧ a0.tmod 65535 = a1 ∧ IntKind.i64.wrap (1 + a1) = (r : Int) := by
  have e1 : IntKind.i64.wrap ((s : Int) - 1) = (s : Int) - 1 := by rw [IntWalk.i64_in] <;> omega
  by_cases h0 : s = 0
  · subst h0
    exact ⟨-1, -1, 0, by omega, by decide, by decide, by decide⟩
  · obtain ⟨q, hq⟩ : ∃ q : Nat, (s : Int) - 1 = (q : Int) := ⟨s - 1, by omega⟩
    have e2 : (q : Int).tmod 65535 = ((q % 65535 : Nat) : Int) := by rw [Int.tmod_eq_emod_of_nonneg (by omega)]; omega
    have h3 : q % 65535 < 65535 := Nat.mod_lt _ (by decide)
    exact ⟨q, _, q % 65535 + 1, by omega, e1.trans hq, e2, by rw [IntWalk.i64_in] <;> omega⟩

set_option maxRecDepth 100000 in
set_option maxHeartbeats 4000000 in
theorem fixed_any (w : World) (ad : Addr) (c : Nat) (bs : List UInt8) (hn : bs.length = 22) (h : Rds w (some ad) bs) :
    Calls Try.prog 16 #[.slice (some ad) 22 c] w (Fresh22 w) := by
  have r0 : w.cell? ad = some (.int .u8 (byteAt bs 0 : Int)) := by
    obtain ⟨a', h1, h2⟩ := h.byte (k := 0) (by omega)
    injection h1 with h1
    subst h1
    exact h2
  obtain ⟨b, hb0, hbl⟩ : ∃ b, byteAt bs 0 = b ∧ b < 256 := ⟨_, rfl, byteAt_lt _ _⟩
  rw [hb0] at r0
  have hown : Hid ((w.alloc (.cells #[] 5)).ownsRow w.heap.size 5 1 (.slice (some ⟨w.heap.size, 0, none⟩) 0 0) 0 (byts [])) := World.ownsRow_made w #[] 0 (Nat.le_refl _) (by unfold maxLen; omega) (by simp)
  have FA : Hid (Frm No w (w.alloc (.cells #[] 5))) := (Frm.refl No w).alloc _
  have RDA := Lib.hid (h.frm FA.out (fun _ _ x => x))
  have HN := Lib.hid hn
  have R0 := Lib.hid r0
  have hlt : ad.block < w.heap.size := h.lt (by omega) rfl
  obtain ⟨r, hr1, hr2⟩ : ∃ r : Nat, (b : Int) % 16 = (r : Int) ∧ r = b % 16 := ⟨b % 16, by omega, rfl⟩
  have rw1 : IntKind.i64.wrap (r : Int) = (r : Int) := by rw [IntWalk.i64_in] <;> omega
  obtain ⟨z, hz1, hz2⟩ : ∃ z : Nat, IntKind.i64.wrap (4 * (r : Int)) = (z : Int) ∧ z = r * 4 := ⟨r * 4, by rw [IntWalk.i64_in] <;> omega, rfl⟩
  clear h hn r0 hb0
  go_enter Try.func16, Try.ntmps16
  go_upto_region 2 with (at_builtin; refine wpList_append_bytes rfl (.tmp 7) (.tmp 8) rfl w.heap.size _ 0 [] rfl hown.out (some ad) 22 c bs rfl HN.out RDA.out (fun h => by cases h) (by omega) FA.out.size ?_; intro v' w3 hown' hgr; obtain ⟨g, c', rfl, hrow⟩ := Row.of_own hown' (by omega); have HRW := Lib.hid hrow; have HG := Lib.hid hgr; clear hown' hrow hgr)
  have R3 : Hid (Row w3 w.heap.size g 22 c' bs) := by
    have := HRW.out
    rw [Nat.zero_add, List.nil_append] at this
    exact this
  have F3 : Hid (Frm No w w3) := FA.out.trans (Frm.of_grown HG.out) (fun i hi hs => by have hs' : some w.heap.size = some i := hs; injection hs' with hs'; omega)
  have r3 : w3.cell? ad = some (.int .u8 (b : Int)) := (F3.out.cell hlt (fun x => x)).trans R0.out
  have hcap := R3.out.cap
  clear HRW HG hown FA RDA R0 hlt
  by_cases h20 : z < 20
  · have g1 : (z : Int) < 20 := by omega
    clear h20 hz2 hr2
    go_wp2_with fail
    go_ret
    exact ⟨g, c', bs, rfl, R3.out, F3.out⟩
  · by_cases h22 : 22 < z
    · have g1 : ¬ (z : Int) < 20 := by omega
      have g2 : (z : Int) > 22 := by omega
      have g3 : decide ((z : Int) < 20) = false := decide_eq_false g1
      clear h20 h22 hz2 hr2
      go_wp2_with fail
      go_ret
      exact ⟨g, c', bs, rfl, R3.out, F3.out⟩
    · obtain rfl : z = 20 := by omega
      clear h20 h22 hz2 hr2
      have d0 := R3.out.frozen 10
      have d1 := R3.out.frozen 11
      have l22 : bs.length = 22 := R3.out.len
      have d2 := R3.out.cell 10 (by omega)
      have S1 := Lib.hid (R3.out.set 10 0 (.int .u8 0) rfl)
      have d3 := S1.out.cell 11 (by rw [List.length_set]; omega)
      have d4 := S1.out.frozen 11
      have S2 := Lib.hid (S1.out.set 11 0 (.int .u8 0) rfl)
      go_upto_region 6 with fail
      obtain ⟨W2, hW2⟩ : ∃ W, (w3.setCell ⟨g, 10, none⟩ (.int .u8 0)).setCell ⟨g, 11, none⟩ (.int .u8 0) = W := ⟨_, rfl⟩
      have hno : ∀ k, (⟨g, k, none⟩ : Addr).block < w.heap.size → No (⟨g, k, none⟩ : Addr).block := fun k h => absurd h (by show ¬ g < w.heap.size; omega)
      have F4 : Hid (Frm No w W2) := by show Frm No w W2; rw [← hW2]; exact (F3.out.setCell (hno 10) _).setCell (hno 11) _
      rw [hW2] at S2 ⊢
      obtain ⟨xs, hxs⟩ : ∃ xs, (bs.set 10 0).set 11 0 = xs := ⟨_, rfl⟩
      rw [hxs] at S2
      clear hW2 hxs S1 d0 d1 d2 d3 d4 R3 F3 r3 l22
      have xl : xs.length = 22 := S2.out.len
      go_wp2_with fail
      go_loopw [5, 31] (fun s i wr => ∃ j t : Nat, j ≤ 10 ∧ i = .int .i64 j ∧ s = .int .i64 (t : Int) ∧ t ≤ j * 65535 ∧ Hid (Row wr w.heap.size g 22 c' xs) ∧ Hid (Frm No w wr)) (fun _ i _ => 10 - (intOf i).toNat)
      case atStart => exact ⟨0, 0, by omega, rfl, rfl, by omega, S2, F4⟩
      case round =>
        obtain ⟨j, t, hj, rfl, rfl, ht, SR, FR⟩ := hrel
        clear S2 F4
        by_cases hlt : j < 10
        · obtain ⟨k, hk⟩ : ∃ k, k = 2 * j := ⟨_, rfl⟩
          have e1 : IntKind.i64.wrap (2 * (j : Int)) = (k : Int) := by rw [IntWalk.i64_in] <;> omega
          have e2 : IntKind.i64.wrap ((k : Int) + 1) = ((k + 1 : Nat) : Int) := by rw [IntWalk.i64_in] <;> omega
          obtain ⟨k1, hk1⟩ : ∃ q, q = k + 1 := ⟨_, rfl⟩
          rw [← hk1] at e2
          have c0 := SR.out.cell k (by omega)
          have c1 := SR.out.cell k1 (by omega)
          unfold byt at c0 c1
          obtain ⟨x, hx, hxl⟩ : ∃ x : Nat, (xs[k]'(by omega)).toNat = x ∧ x < 256 := ⟨_, rfl, UInt8.toNat_lt _⟩
          obtain ⟨y, hy, hyl⟩ : ∃ x : Nat, (xs[k1]'(by omega)).toNat = x ∧ x < 256 := ⟨_, rfl, UInt8.toNat_lt _⟩
          rw [hx] at c0
          rw [hy] at c1
          have i1 : (k : Int) < 22 := by omega
          have i2 : (k1 : Int) < 22 := by omega
          have f1 : IntKind.i64.wrap (x : Int) = x := by rw [IntWalk.i64_in] <;> omega
          have f2 : IntKind.i64.wrap (y : Int) = y := by rw [IntWalk.i64_in] <;> omega
          obtain ⟨p, hp⟩ : ∃ p, p = 256 * x := ⟨_, rfl⟩
          have f3 : IntKind.i64.wrap (256 * (x : Int)) = (p : Int) := by rw [IntWalk.i64_in] <;> omega
          obtain ⟨q, hq⟩ : ∃ q, q = p + y := ⟨_, rfl⟩
          have f4 : IntKind.i64.wrap ((p : Int) + y) = (q : Int) := by rw [IntWalk.i64_in] <;> omega
          obtain ⟨t2, ht2⟩ : ∃ q', q' = t + q := ⟨_, rfl⟩
          have f5 : IntKind.i64.wrap ((t : Int) + q) = (t2 : Int) := by rw [IntWalk.i64_in] <;> omega
          have hb : t2 ≤ (j + 1) * 65535 := by omega
          clear hx hy hp hq ht2 ht hk hk1
          go_wp2_with fail
          go_quiet (fail)
          go_wp2
          go_roundw
          case rel => exact ⟨j + 1, t2, by omega, by go_num, rfl, hb, SR, FR.out.drewN _⟩
          case measure => simp [intOf]; omega
        · obtain rfl : j = 10 := by omega
          obtain ⟨a0, a1, v, hv, e1, e2, e3⟩ := rem_one t (by omega)
          obtain ⟨u, hu, f1⟩ : ∃ u : Nat, u ≤ 65535 ∧ IntKind.i64.wrap (65535 - (v : Int)) = (u : Int) := ⟨65535 - v, by omega, by rw [IntWalk.i64_in] <;> omega⟩
          obtain ⟨y1, f2, hy1⟩ : ∃ y : Nat, (u : Int) / 256 = (y : Int) ∧ y < 256 := ⟨u / 256, by omega, by omega⟩
          obtain ⟨y2, f3, hy2⟩ : ∃ y : Nat, (u : Int) % 256 = (y : Int) ∧ y < 256 := ⟨u % 256, by omega, by omega⟩
          have g1 : (u : Int).tdiv 256 = (y1 : Int) := by rw [Int.tdiv_eq_ediv_of_nonneg (by omega), f2]
          have g2 : (u : Int).tmod 256 = (y2 : Int) := by rw [Int.tmod_eq_emod_of_nonneg (by omega), f3]
          have g3 : IntKind.u8.wrap (y1 : Int) = (y1 : Int) := by have e : IntKind.u8.wrap (y1 : Int) = (y1 : Int) % 256 := rfl; rw [e]; omega
          have g4 : IntKind.u8.wrap (y2 : Int) = (y2 : Int) := by have e : IntKind.u8.wrap (y2 : Int) = (y2 : Int) % 256 := rfl; rw [e]; omega
          have k1 : IntKind.i64.wrap (y1 : Int) = (y1 : Int) := by rw [IntWalk.i64_in] <;> omega
          have k2 : IntKind.i64.wrap (y2 : Int) = (y2 : Int) := by rw [IntWalk.i64_in] <;> omega
          have k3 : (y1 : Int) % 256 = (y1 : Int) := by omega
          have k4 : (y2 : Int) % 256 = (y2 : Int) := by omega
          have d0 := SR.out.frozen 10
          have d2 := SR.out.cell 10 (by omega)
          have S3 := Lib.hid (SR.out.set 10 (UInt8.ofNat y1) (.int .u8 (y1 : Int)) (by unfold byt; rw [toN y1 hy1]))
          have d3 := S3.out.cell 11 (by rw [List.length_set]; omega)
          have d4 := S3.out.frozen 11
          have S4 := Lib.hid (S3.out.set 11 (UInt8.ofNat y2) (.int .u8 (y2 : Int)) (by unfold byt; rw [toN y2 hy2]))
          have F5 := Lib.hid (Frm.setCell (p := ⟨g, 11, none⟩) (Frm.setCell (p := ⟨g, 10, none⟩) FR.out (hno 10) (.int .u8 (y1 : Int))) (hno 11) (.int .u8 (y2 : Int)))
          clear ht hv hu hy1 hy2 hno
          go_wp2_with fail
          go_ret
          exact ⟨g, c', _, rfl, S4.out, F5.out⟩
end Go.Proofs.Ytcclneaabnpbkaa
