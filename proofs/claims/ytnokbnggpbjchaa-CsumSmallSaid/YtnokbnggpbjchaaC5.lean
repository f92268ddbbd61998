/-
  csum.put and Fix.
-/
import Derived.Test.YtnokbnggpbjchaaC4
import Derived.Test.YtnokbnggpbjchaaK1
import Derived.Laws.OwnMore
namespace Go.Proofs.Ytnokbnggpbjchaa
open Go.RowKit

/-- A row of bytes of its own, in block g. -/
def Row (w : World) (base g n c : Nat) (bs : List UInt8) : Prop := w.ownsRow base 5 1 (.slice (some ⟨g, 0, none⟩) n c) n (byts bs)

theorem Row.len {w : World} {base g n c : Nat} {bs : List UInt8} (h : Row w base g n c bs) : bs.length = n := by
  have := h.1
  rw [byts_len] at this
  omega
theorem Row.cap {w : World} {base g n c : Nat} {bs : List UInt8} (h : Row w base g n c bs) : n ≤ c ∧ base ≤ g ∧ g < w.heap.size := by
  have h2 := (World.ownsRow.lt h g rfl)
  rcases h.2 with ⟨h', _⟩ | ⟨g', cap', cur, h', _, hg, hc, _⟩
  · simp at h'
  · simp only [Value.slice.injEq, Option.some.injEq, Addr.mk.injEq, and_true, true_and] at h'
    obtain ⟨_, rfl⟩ := h'
    exact ⟨hc, h2.1, h2.2⟩
theorem Row.rds {w : World} {base g n c : Nat} {bs : List UInt8} (h : Row w base g n c bs) : Rds w (some ⟨g, 0, none⟩) bs := Rds.of_own h
theorem Row.set {w : World} {base g n c : Nat} {bs : List UInt8} (h : Row w base g n c bs) (j : Nat) (b : UInt8) (u : Value) (hu : u = byt b) : Row (w.setCell ⟨g, j, none⟩ u) base g n c (bs.set j b) := by
  have := (World.ownsRow.stored h j u).1
  unfold Row
  subst hu
  rwa [show byts (bs.set j b) = (byts bs).set j (byt b) from by simp [byts]]
theorem Row.cell {w : World} {base g n c : Nat} {bs : List UInt8} (h : Row w base g n c bs) (j : Nat) (hj : j < bs.length) : w.cell? ⟨g, j, none⟩ = some (byt bs[j]) := by
  have hl := h.len
  rw [World.ownsRow.cellAt h j (by omega)]
  simp [byts, hj]
theorem Row.frozen {w : World} {base g n c : Nat} {bs : List UInt8} (h : Row w base g n c bs) (j : Nat) : w.frozen? ⟨g, j, none⟩ = false := World.ownsRow.frozenAt h j
theorem Row.frm {S : Nat → Prop} {w w' : World} {base g n c : Nat} {bs : List UInt8} (h : Row w base g n c bs) (hf : Frm S w w') (hS : ¬ S g) : Row w' base g n c bs :=
  hf.own h (fun k hk => by have : some g = some k := hk; injection this with this; subst this; exact hS)

def hiB (x : Nat) : UInt8 := UInt8.ofNat (x / 256)
def loB (x : Nat) : UInt8 := UInt8.ofNat x
theorem word_hi_lo (x : Nat) (hx : x < 65536) : word (hiB x) (loB x) = x := by
  unfold word hiB loB
  rw [UInt8.toNat_ofNat', UInt8.toNat_ofNat']
  omega
theorem hiB_val (x : Nat) (hx : x < 65536) : ((hiB x).toNat : Int) = (x : Int) / 256 := by
  unfold hiB
  rw [UInt8.toNat_ofNat']
  omega
theorem loB_val (x : Nat) : ((loB x).toNat : Int) = (x : Int) % 256 := by
  unfold loB
  rw [UInt8.toNat_ofNat']
  omega

def Put (w : World) (base g n c : Nat) (bs : List UInt8) (k x : Nat) (e : Ending) (w' : World) : Prop :=
  e = .returned (.tuple #[]) ∧ Row w' base g n c (putAt bs k (hiB x) (loB x)) ∧ Frm (One g) w w'

set_option maxRecDepth 100000 in
theorem put_any (w : World) (base g n c : Nat) (bs : List UInt8) (k x : Nat) (hk : k + 1 < n) (hx : x < 65536) (hn : n ≤ 140737488355328) (h : Row w base g n c bs) :
    Calls Try.prog 43 #[.slice (some ⟨g, 0, none⟩) n c, .int .i64 (k : Int), .int .u16 (x : Int)] w (Put w base g n c bs k x) := by
  have hl := h.len
  have c0 := h.cell k (by omega)
  have f0 := h.frozen k
  have H := Lib.hid h
  have h1 := Lib.hid (h.set k (hiB x) (.int .u8 ((x : Int) / 256)) (by rw [byt, hiB_val x hx]))
  have h2 := Lib.hid (h1.out.set (k + 1) (loB x) (.int .u8 ((x : Int) % 256)) (by rw [byt, loB_val x]))
  have c1 := h1.out.cell (k + 1) (by simp; omega)
  have f1 := h1.out.frozen (k + 1)
  have hw1 : IntKind.i64.wrap ((k : Int) + 1) = k + 1 := by rw [IntWalk.i64_in]; omega
  have i0 : (k : Int) < n := by omega
  have i1 : (k : Int) + 1 < n := by omega
  have i2 : (0 : Int) ≤ (k : Int) + 1 := by omega
  go_enter Try.func43, Try.ntmps43
  go_wp2
  go_end0
  exact ⟨rfl, h2.out, ((Frm.refl (One g) w).set1 k _).set1 (k + 1) _⟩

def Fresh2 (w : World) (bs : List UInt8) (n : Nat) (E : Int) (e : Ending) (w' : World) : Prop :=
  ∃ g c, e = .returned (.tuple #[.slice (some ⟨g, 0, none⟩) n c, .int .i64 E]) ∧ Row w' w.heap.size g n c bs ∧ Frm No w w'

theorem clone_row (w : World) (A : Option Addr) (n c : Nat) (bs : List UInt8) (hn : bs.length = n) (h0 : 0 < n) (h : Rds w A bs) (h4 : n ≤ 140737488355328) :
    Calls Try.prog 17 #[.slice A n c] w fun e w' => ∃ g c', e = .returned (.slice (some ⟨g, 0, none⟩) n c') ∧ Row w' w.heap.size g n c' bs ∧ Frm No w w' := by
  subst hn
  refine (clone_any w A c bs h h4).mono ?_
  rintro e w' ⟨v, rfl, ho, hf⟩
  rcases ho.2 with ⟨rfl, hz⟩ | ⟨g, cap, cur, rfl, _⟩
  · omega
  · exact ⟨g, cap, rfl, ho, hf⟩

/-- What Fix makes of some bytes. -/
def fixOf (bs : List UInt8) (k : Nat) : List UInt8 := putAt bs k (hiB (ofOf (putAt bs k (hiB 0) (loB 0)))) (loB (ofOf (putAt bs k (hiB 0) (loB 0))))

theorem put_zero (w : World) (base g n c : Nat) (bs : List UInt8) (k : Nat) (hk : k + 1 < n) (hn : n ≤ 140737488355328) (h : Row w base g n c bs) :
    Calls Try.prog 43 #[.slice (some ⟨g, 0, none⟩) n c, .int .i64 (k : Int), .int .u16 0] w (Put w base g n c bs k 0) := put_any w base g n c bs k 0 hk (by omega) hn h

set_option maxRecDepth 100000 in
set_option maxHeartbeats 1000000 in
theorem fix_yes (w : World) (A : Option Addr) (n c : Nat) (bs : List UInt8) (k : Nat) (hn : bs.length = n) (hk : k % 2 = 0) (hk2 : k + 1 < n) (h : Rds w A bs) (h4 : n ≤ 140737488355328) :
    Calls Try.prog 14 #[.slice A n c, .int .i64 (k : Int)] w (Fresh2 w (fixOf bs k) n 0) := by
  have HC := Lib.hid (clone_row w A n c bs hn (by omega) h h4)
  have e1 : ¬ ((k : Int) < 0) := by omega
  have e2 : (k : Int) % 2 = 0 := by omega
  have e3 : IntKind.i64.wrap ((n : Int) - 2) = n - 2 := by rw [IntWalk.i64_in] <;> omega
  have e4 : ¬ ((n : Int) - 2 < k) := by omega
  clear h
  go_enter Try.func14, Try.ntmps14
  go_wp2_with fail
  refine HC.out.mono ?_
  rintro e w1 ⟨g, c1, rfl, hr1, hf1⟩
  have R1 := Lib.hid hr1
  have F1 := Lib.hid hf1
  have G1 := hr1.cap
  clear hr1 hf1 HC
  go_wp2_with fail
  refine (put_zero w1 _ g n c1 bs k hk2 h4 R1.out).mono ?_
  rintro e w2 ⟨rfl, hr2, hf2⟩
  have R2 := Lib.hid hr2
  have F2 := Lib.hid hf2
  clear hr2 hf2 R1
  obtain ⟨zs, hzs⟩ : ∃ zs, zs = putAt bs k (hiB 0) (loB 0) := ⟨_, rfl⟩
  rw [← hzs] at R2
  have hzl : zs.length = n := by rw [hzs, putAt_length, hn]
  go_wp2_with fail
  obtain ⟨o, hoo⟩ : ∃ o, ofOf zs = o := ⟨_, rfl⟩
  have ho : o < 65536 := by rw [← hoo]; unfold ofOf; omega
  have HO := Lib.hid (of_any w2 _ n c1 zs hzl R2.out.cap.1 R2.out.rds h4)
  rw [hoo] at HO
  have HOO := Lib.hid hoo
  clear hoo
  refine HO.out.mono ?_
  rintro e w3 ⟨rfl, hf3⟩
  have R3 := Lib.hid (R2.out.frm hf3 (fun x => x))
  have F3 := Lib.hid hf3
  clear hf3 R2 HO
  go_wp2_with fail
  refine (put_any w3 _ g n c1 zs k o hk2 ho h4 R3.out).mono ?_
  rintro e w4 ⟨rfl, hr4, hf4⟩
  have R4 := Lib.hid hr4
  have F4 := Lib.hid hf4
  clear hr4 hf4 R3
  go_wp2
  go_ret2
  refine ⟨g, c1, rfl, ?_, ?_⟩
  · have : fixOf bs k = putAt zs k (hiB o) (loB o) := by
      rw [← HOO.out]
      subst hzs
      unfold fixOf
      rw [putAt_twice]
    rw [this]
    exact R4.out
  · have hN : ∀ i, i < w.heap.size → One g i → No i := fun i hi h => by
      have : i = g := h
      omega
    have a := F1.out.trans F2.out hN
    have b := a.trans F3.out (fun _ _ x => x)
    exact b.trans F4.out hN

set_option maxRecDepth 100000 in
theorem fix_no (w : World) (A : Option Addr) (n c : Nat) (k : Int) (h : k < 0 ∨ k % 2 ≠ 0 ∨ (n : Int) - 2 < k) (h4 : n ≤ 140737488355328) :
    Calls Try.prog 14 #[.slice A n c, .int .i64 k] w fun e w' => e = .returned (.tuple #[.slice none 0 0, .int .i64 2]) ∧ w = w' := by
  by_cases h1 : k < 0
  · go_enter Try.func14, Try.ntmps14
    go_wp2
    go_ret2
    exact ⟨rfl, rfl⟩
  · have e3 : IntKind.i64.wrap ((n : Int) - 2) = n - 2 := by rw [IntWalk.i64_in] <;> omega
    obtain ⟨j, rfl⟩ : ∃ j : Nat, k = j := ⟨k.toNat, by omega⟩
    by_cases h2 : (j : Int) % 2 = 0
    · have h3 : (n : Int) - 2 < j := by omega
      go_enter Try.func14, Try.ntmps14
      go_wp2
      go_ret2
      exact ⟨rfl, rfl⟩
    · have h3 : (j : Int) % 2 = 1 := by omega
      clear h2
      go_enter Try.func14, Try.ntmps14
      go_wp2
      go_ret2
      exact ⟨rfl, rfl⟩
end Go.Proofs.Ytnokbnggpbjchaa
