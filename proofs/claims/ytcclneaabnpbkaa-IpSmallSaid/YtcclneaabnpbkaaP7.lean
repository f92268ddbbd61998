/-
  What the bytes of a header are made of: putWord, putAddress, place.
-/
import Derived.Test.YtcclneaabnpbkaaP3
import Derived.Laws.IdiomCopy
import Derived.Laws.CopyRow
import Derived.Deep.RegionLaw
namespace Go.Proofs.Ytcclneaabnpbkaa
open Go.RowKit
attribute [local go_sem] undef

set_option maxRecDepth 100000 in
theorem putW_any (w : World) (base g n c : Nat) (bs : List UInt8) (k x : Nat) (z y : Int) (hz : z = k) (hy : y = x) (hk : k + 1 < n) (hx : x < 65536) (hn : n ≤ 140737488355328) (h : Row w base g n c bs) :
    Calls Try.prog 59 #[.slice (some ⟨g, 0, none⟩) n c, .int .i64 z, .int .u16 y] w (Put w base g n c bs k x) := by
  subst hz hy
  have hl := h.len
  have c0 := h.cell k (by omega)
  have f0 := h.frozen k
  have H := Lib.hid h
  have h1 := Lib.hid (h.set k (hiB x) (.int .u8 ((x : Int) / 256)) (by rw [byt, hiB_val x hx]))
  have h2 := Lib.hid (h1.out.set (k + 1) (loB x) (.int .u8 ((x : Int) % 256)) (by rw [byt, loB_val x]))
  have c1 := h1.out.cell (k + 1) (by simp; omega)
  have f1 := h1.out.frozen (k + 1)
  have hw1 : IntKind.i64.wrap ((k : Int) + 1) = k + 1 := by rw [IntWalk.i64_in] <;> omega
  have i0 : (k : Int) < n := by omega
  have i1 : (k : Int) + 1 < n := by omega
  have i2 : (0 : Int) ≤ (k : Int) + 1 := by omega
  go_enter Try.func59, Try.ntmps59
  go_wp2
  go_end0
  exact ⟨rfl, h2.out, ((Frm.refl (One g) w).set1 k _).set1 (k + 1) _⟩

/-- Four bytes at k. -/
def put4 (bs : List UInt8) (k x : Nat) : List UInt8 := putAt (putAt bs k (hiB (x / 65536)) (loB (x / 65536))) (k + 2) (hiB (x % 65536)) (loB (x % 65536))
def Put4 (w : World) (base g n c : Nat) (bs : List UInt8) (k x : Nat) (e : Ending) (w' : World) : Prop :=
  e = .returned (.tuple #[]) ∧ Row w' base g n c (put4 bs k x) ∧ Frm (One g) w w'

set_option maxRecDepth 100000 in
theorem putA_any (w : World) (base g n c : Nat) (bs : List UInt8) (k x : Nat) (z y : Int) (hz : z = k) (hy : y = x) (hk : k + 3 < n) (hx : x < 4294967296) (hn : n ≤ 140737488355328) (h : Row w base g n c bs) :
    Calls Try.prog 61 #[.slice (some ⟨g, 0, none⟩) n c, .int .i64 z, .int .u32 y] w (Put4 w base g n c bs k x) := by
  subst hz hy
  have H1 := Lib.hid (fun W (hR : Row W base g n c bs) => putW_any W base g n c bs k (x / 65536) _ ((x : Int) / 65536) rfl (by omega) (by omega) (by omega) hn hR)
  have H2 := Lib.hid (fun W bs' (hR : Row W base g n c bs') => putW_any W base g n c bs' (k + 2) (x % 65536) ((k : Int) + 2) ((x : Int) % 65536) (by omega) (by omega) (by omega) (by omega) hn hR)
  have R0 := Lib.hid h
  have hw1 : IntKind.i64.wrap ((k : Int) + 2) = k + 2 := by rw [IntWalk.i64_in] <;> omega
  clear h
  go_enter Try.func61, Try.ntmps61
  go_wp2_with fail
  refine (H1.out _ R0.out).mono ?_
  rintro e w1 ⟨rfl, hr, hf⟩
  have R1 := Lib.hid hr
  have F1 := Lib.hid hf
  clear hr hf H1 R0
  go_wp2_with fail
  refine (H2.out _ _ R1.out).mono ?_
  rintro e w2 ⟨rfl, hr, hf⟩
  have R2 := Lib.hid hr
  have F2 := Lib.hid (F1.out.trans hf (fun _ _ x => x))
  clear hr hf R1 F1 H2
  go_wp2
  go_end0
  exact ⟨rfl, R2.out, F2.out⟩

def plcOf (off : Nat) (df mf : Bool) : Nat := off / 8 + (if df then 16384 else 0) + (if mf then 8192 else 0)
theorem or_df (x : Nat) (h : x < 8192) : bits .or .u16 (x : Int) 16384 = ((x + 16384 : Nat) : Int) := by
  have := u16_or_nat x 16384 (by omega) (by omega)
  rw [show ((16384 : Nat) : Int) = 16384 from rfl] at this
  rw [this, Nat.or_comm]
  have h3 := Nat.two_pow_add_eq_or_of_lt (i := 14) (b := x) (by omega) 1
  rw [show 2 ^ 14 * 1 = 16384 from rfl] at h3
  rw [← h3, Nat.add_comm]
theorem or_mf (x : Nat) (h : x < 8192) : bits .or .u16 (x : Int) 8192 = ((x + 8192 : Nat) : Int) := by
  have := u16_or_nat x 8192 (by omega) (by omega)
  rw [show ((8192 : Nat) : Int) = 8192 from rfl] at this
  rw [this, Nat.or_comm]
  have h3 := Nat.two_pow_add_eq_or_of_lt (i := 13) (b := x) (by omega) 1
  rw [show 2 ^ 13 * 1 = 8192 from rfl] at h3
  rw [← h3, Nat.add_comm]
theorem or_both (x : Nat) (h : x < 8192) : bits .or .u16 ((x + 16384 : Nat) : Int) 8192 = ((x + 16384 + 8192 : Nat) : Int) := by
  have := u16_or_nat (x + 16384) 8192 (by omega) (by omega)
  rw [show ((8192 : Nat) : Int) = 8192 from rfl] at this
  rw [this]
  have h3 := Nat.two_pow_add_eq_or_of_lt (i := 14) (b := x) (by omega) 1
  have h4 := Nat.two_pow_add_eq_or_of_lt (i := 13) (b := x) (by omega) 1
  have h5 := Nat.two_pow_add_eq_or_of_lt (i := 14) (b := 8192 + x) (by omega) 1
  rw [show 2 ^ 14 * 1 = 16384 from rfl] at h3 h5
  rw [show 2 ^ 13 * 1 = 8192 from rfl] at h4
  rw [Nat.add_comm x 16384, h3, Nat.or_assoc, Nat.or_comm x 8192, ← h4, ← h5]
  congr 1
  omega

def U16No (z : Nat) (w : World) (e : Ending) (w' : World) : Prop := e = .returned (.int .u16 (z : Int)) ∧ Frm No w w'
set_option maxRecDepth 100000 in
set_option maxHeartbeats 1000000 in
theorem place_any (w : World) (z0 z1 z5 z6 z7 z8 : Int) (off : Nat) (b2 b3 : Bool) (A : Option Addr) (o c : Nat) (hoff : off ≤ 65528) :
    Calls Try.prog 60 #[.agg #[.int .u8 z0, .int .u16 z1, .bool b2, .bool b3, .int .i64 (off : Int), .int .u8 z5, .int .u8 z6, .int .u32 z7, .int .u32 z8, .slice A o c]] w (U16No (plcOf off b2 b3) w) := by
  unfold plcOf
  obtain ⟨x, hx⟩ : ∃ x, off / 8 = x := ⟨_, rfl⟩
  have e1 : (off : Int) / 8 = x := by omega
  have hx2 : x < 8192 := by omega
  have e2 : IntKind.u16.wrap (x : Int) = x := by
    have e : IntKind.u16.wrap (x : Int) = (x : Int) % 65536 := rfl
    rw [e]; omega
  have e3 := or_df x hx2
  have e4 := or_mf x hx2
  have e5 := or_both x hx2
  obtain ⟨p, hp⟩ : ∃ p : Nat, p = x + 16384 := ⟨_, rfl⟩
  rw [← hp] at e3 e5
  rw [hx]
  obtain ⟨q, hq⟩ : ∃ q : Nat, q = p + 8192 := ⟨_, rfl⟩
  obtain ⟨r, hr⟩ : ∃ r : Nat, r = x + 8192 := ⟨_, rfl⟩
  rw [← hq] at e5
  rw [← hr] at e4
  have g0 : (0 : Int) ≤ (off : Int) := by omega
  have g1 : (x : Int) < 8192 := by omega
  have e0 : IntKind.i64.wrap (x : Int) = x := by rw [IntWalk.i64_in] <;> omega
  cases b2 <;> cases b3 <;>
  (have HP := Lib.hid hp
   have HQ := Lib.hid hq
   have HR := Lib.hid hr
   clear hp hq hr hx hx2 hoff
   go_enter Try.func60, Try.ntmps60
   go_wp2
   go_ret
   refine ⟨?_, (Frm.refl No w).alloc _⟩
   have a1 := HP.out
   have a2 := HQ.out
   have a3 := HR.out
   subst a1 a2 a3
   rfl)
end Go.Proofs.Ytcclneaabnpbkaa
