/-
  AddrBack answers true.
-/
import Derived.Test.YtknmnlbgjpbgiaaDoorBk1
namespace Go.Proofs.YtknmnlbgjpbgiaaDoor
open Go.RowKit

theorem text_beq (a b : Nat) (ha : a < 4294967296) (hb : b < 4294967296) : (textOf a == textOf b) = ((a : Int) == b) := by
  rw [Bool.eq_iff_iff]
  simp only [beq_iff_eq]
  constructor
  · intro h
    have := text_inj ha hb h
    omega
  · intro h
    rw [show a = b by omega]
theorem pfx_beq (p m q n : Nat) (hp : p < 4294967296) (hq : q < 4294967296) (h1 : rightB p m = true) (h2 : rightB q n = true) : (pfxText p m == pfxText q n) = (((p : Int) == q) && ((m : Int) == n)) := by
  rw [Bool.eq_iff_iff]
  simp only [beq_iff_eq, Bool.and_eq_true]
  constructor
  · intro he
    have h3 := pfx_back p m hp h1
    rw [he, pfx_back q n hq h2] at h3
    simp only [Option.some.injEq, Prod.mk.injEq] at h3
    omega
  · rintro ⟨h3, h4⟩
    rw [show p = q by omega, show m = n by omega]
theorem key_beq (j k : Ky) (hj : j.Ok) (hk : k.Ok) : (keyText j == keyText k) = (((j.pr : Int) == k.pr) && (((j.a : Int) == k.a) && (((j.b : Int) == k.b) && (((j.p : Int) == k.p) && ((j.q : Int) == k.q))))) := by
  rw [Bool.eq_iff_iff]
  simp only [beq_iff_eq, Bool.and_eq_true]
  constructor
  · intro he
    have h3 := key_back j hj
    rw [he, key_back k hk] at h3
    have h4 := Option.some.inj h3
    rw [h4]
    exact ⟨rfl, rfl, rfl, rfl, rfl⟩
  · rintro ⟨h0, h1, h2, h3, h4⟩
    have e : j = k := by
      obtain ⟨pr, a, b, p, q⟩ := j
      obtain ⟨pr', a', b', p', q'⟩ := k
      dsimp only at h0 h1 h2 h3 h4
      rw [Ky.mk.injEq]
      omega
    rw [e]

theorem keyText_len (k : Ky) (hk : k.Ok) : (keyText k).length ≤ 9223372036854775807 := by
  have h1 := endText_len k.a k.p hk.p
  have h2 := endText_len k.b k.q hk.q
  have h3 := nDigits_3 k.pr (by have := hk.pr; omega)
  unfold keyText
  rw [List.length_append, List.length_cons, List.length_append, List.length_cons]
  omega
theorem pfxText_len (a n : Nat) (hn : n ≤ 32) : (pfxText a n).length ≤ 9223372036854775807 := by
  have h1 := textOf_len a
  have h3 := nDigits_3 n (by omega)
  unfold pfxText
  rw [List.length_append, List.length_cons]
  omega

theorem addrBack (w : World) (htab : Tab w) (a b m0 n0 rf rt qf qt : Nat) (j k : Ky) (ha : a < 4294967296) (hb : b < 4294967296) (_ : m0 < 256) (_ : n0 < 256) (hrf : rf < 65536) (hrt : rt < 65536) (hqf : qf < 65536) (hqt : qt < 65536) (hj : j.Ok) (hk : k.Ok) :
    Calls Tryd.prog 7 #[.int .u32 (a : Int), .int .u32 (b : Int), .int .u8 (m0 : Int), .int .u8 (n0 : Int), .agg #[.int .u16 (rf : Int), .int .u16 (rt : Int)], .agg #[.int .u16 (qf : Int), .int .u16 (qt : Int)], .agg #[.int .u8 (j.pr : Int), .int .u32 (j.a : Int), .int .u32 (j.b : Int), .int .u16 (j.p : Int), .int .u16 (j.q : Int)], .agg #[.int .u8 (k.pr : Int), .int .u32 (k.a : Int), .int .u32 (k.b : Int), .int .u16 (k.p : Int), .int .u16 (k.q : Int)]] w fun e w' => e = .returned (.bool true) ∧ Frm No w w' := by
  have hm : m0 % 33 ≤ 32 := by omega
  have hn : n0 % 33 ≤ 32 := by omega
  have hp : cutN a (m0 % 33) < 4294967296 := Nat.lt_of_le_of_lt (cut_le _ _) ha
  have hq : cutN b (n0 % 33) < 4294967296 := Nat.lt_of_le_of_lt (cut_le _ _) hb
  have r1 := right_cut a _ hm
  have r2 := right_cut b _ hn
  refine back_walk w htab a b m0 n0 (m0 % 33) (n0 % 33) (cutN a (m0 % 33)) (cutN b (n0 % 33)) rf rt qf qt j k (textOf a) (textOf b) (pfxText (cutN a (m0 % 33)) (m0 % 33)) (pfxText (cutN b (n0 % 33)) (n0 % 33)) (keyText j) (keyText k) (by omega) (by omega) ?_
    _ _ _ _ _ _ _ _ (text_beq a b ha hb) rfl rfl rfl (pfx_beq _ _ _ _ hp hq r1 r2) rfl rfl rfl rfl rfl (key_beq j k hj hk) hrf hrt hqf hqt
  have la := textOf_len a
  exact ⟨fun W hW => (text_any W hW a ha).mono fun _ _ h => ⟨h.1, h.2⟩, fun W hW => (text_any W hW b hb).mono fun _ _ h => ⟨h.1, h.2⟩, fun W => read_yes _ W (by omega) (read_text a ha), fun W => cut_yes W a _ ha hm, fun W => cut_yes W b _ hb hn,
    fun W hW => ptext_yes W hW _ _ hp r1, fun W hW => ptext_yes W hW _ _ hq r2, fun W => rpfx_yes _ W (pfxText_len _ _ hm) (pfx_back _ _ hp r1), fun W hW => ktext_ky W hW j hj, fun W hW => ktext_ky W hW k hk, fun W => rkey_yes _ W (keyText_len j hj) (key_back j hj)⟩
end Go.Proofs.YtknmnlbgjpbgiaaDoor
