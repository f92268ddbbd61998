/-
  The contracts, one for each outcome.
-/
import Derived.Test.YtknmnlbgjpbgiaaDoorV1
namespace Go.Proofs.YtknmnlbgjpbgiaaDoor
open Go.RowKit
open Go.Lib (decDigits)

theorem rpfx_yes (l : List UInt8) (w : World) (hs : l.length ≤ 9223372036854775807) {a n : Nat} (h : pfxOf l = some (a, n)) : Calls Tryd.prog 24 #[.string ⟨l.toArray⟩] w fun e w' => e = .returned (.tuple #[.agg #[.int .u32 (a : Int), .int .u8 (n : Int)], .int .i64 0]) ∧ Frm No w w' := by
  refine (rpfx_any l w hs).mono ?_
  rintro e w' ⟨he, hw⟩
  unfold pfxV at he
  rw [h] at he
  exact ⟨he, hw⟩
theorem rrng_all (l : List UInt8) (w : World) (hs : l.length ≤ 9223372036854775807) : Calls Tryd.prog 28 #[.string ⟨l.toArray⟩] w (RngEnds l w) := by
  by_cases h : l = [42]
  · rw [h]
    exact rrng_star w
  · exact rrng_any l w hs h
theorem rrng_none (l : List UInt8) (w : World) (hs : l.length ≤ 9223372036854775807) (h : rngOf l = none) : Calls Tryd.prog 28 #[.string ⟨l.toArray⟩] w fun e w' => e = .returned (.tuple #[.agg #[.int .u16 0, .int .u16 0], .int .i64 30]) ∧ Frm No w w' := by
  refine (rrng_all l w hs).mono ?_
  rintro e w' ⟨he, hw⟩
  rw [h] at he
  exact ⟨he, hw⟩
theorem rrng_yes (l : List UInt8) (w : World) (hs : l.length ≤ 9223372036854775807) {f t : Nat} (h : rngOf l = some (f, t)) : Calls Tryd.prog 28 #[.string ⟨l.toArray⟩] w fun e w' => e = .returned (.tuple #[.agg #[.int .u16 (f : Int), .int .u16 (t : Int)], .int .i64 0]) ∧ Frm No w w' := by
  refine (rrng_all l w hs).mono ?_
  rintro e w' ⟨he, hw⟩
  rw [h] at he
  exact ⟨he, hw⟩
theorem rkey_none (l : List UInt8) (w : World) (hs : l.length ≤ 9223372036854775807) (h : keyOf l = none) : Calls Tryd.prog 25 #[.string ⟨l.toArray⟩] w fun e w' => e = .returned (.tuple #[.agg #[.int .u8 0, .int .u32 0, .int .u32 0, .int .u16 0, .int .u16 0], .int .i64 30]) ∧ Frm No w w' := by
  refine (rkey_any l w hs).mono ?_
  rintro e w' ⟨he, hw⟩
  rw [h] at he
  exact ⟨he, hw⟩
theorem rkey_yes (l : List UInt8) (w : World) (hs : l.length ≤ 9223372036854775807) {k : Ky} (h : keyOf l = some k) : Calls Tryd.prog 25 #[.string ⟨l.toArray⟩] w fun e w' => e = .returned (.tuple #[.agg #[.int .u8 (k.pr : Int), .int .u32 (k.a : Int), .int .u32 (k.b : Int), .int .u16 (k.p : Int), .int .u16 (k.q : Int)], .int .i64 0]) ∧ Frm No w w' := by
  refine (rkey_any l w hs).mono ?_
  rintro e w' ⟨he, hw⟩
  rw [h] at he
  exact ⟨he, hw⟩
theorem ptext_yes (w : World) (htab : Tab w) (a n : Nat) (ha : a < 4294967296) (h : rightB a n = true) : Calls Tryd.prog 23 #[.agg #[.int .u32 (a : Int), .int .u8 (n : Int)]] w fun e w' => e = .returned (.tuple #[.string ⟨(pfxText a n).toArray⟩, .int .i64 0]) ∧ Frm No w w' := by
  refine (ptext_pfx w htab a n ha (by have := (right_mod h).1; omega)).mono ?_
  rintro e w' ⟨he, hw⟩
  unfold pfxTextV at he
  rw [if_pos h] at he
  exact ⟨he, hw⟩
theorem rtext_yes (w : World) (htab : Tab w) (f t : Nat) (h : f ≤ t) (ht : t < 65536) : Calls Tryd.prog 27 #[.agg #[.int .u16 (f : Int), .int .u16 (t : Int)]] w fun e w' => e = .returned (.tuple #[.string ⟨(rngText f t).toArray⟩, .int .i64 0]) ∧ Frm No w w' := by
  refine (rtext_any w htab f t (by omega) ht).mono ?_
  rintro e w' ⟨he, hw⟩
  unfold rngTextV at he
  rw [if_pos h] at he
  exact ⟨he, hw⟩
theorem ktext_ky (w : World) (htab : Tab w) (k : Ky) (hk : k.Ok) : Calls Tryd.prog 26 #[.agg #[.int .u8 (k.pr : Int), .int .u32 (k.a : Int), .int .u32 (k.b : Int), .int .u16 (k.p : Int), .int .u16 (k.q : Int)]] w fun e w' => e = .returned (.string ⟨(keyText k).toArray⟩) ∧ Frm No w w' :=
  (ktext_any w htab k.pr k.a k.b k.p k.q hk.pr hk.a hk.b hk.p hk.q).mono fun _ _ h => ⟨h.1, h.2⟩
theorem text_as (w : World) (htab : Tab w) (a : Nat) (l : List UInt8) (h : readOf l = some a) : Calls Tryd.prog 22 #[.int .u32 (a : Int)] w fun e w' => e = .returned (.string ⟨l.toArray⟩) ∧ Frm No w w' := by
  obtain ⟨rfl, ha⟩ := read_inv l a h
  exact (text_any w htab a ha).mono fun _ _ h => ⟨h.1, h.2⟩
theorem ptext_as (w : World) (htab : Tab w) (a n : Nat) (l : List UInt8) (h : pfxOf l = some (a, n)) : Calls Tryd.prog 23 #[.agg #[.int .u32 (a : Int), .int .u8 (n : Int)]] w fun e w' => e = .returned (.tuple #[.string ⟨l.toArray⟩, .int .i64 0]) ∧ Frm No w w' := by
  obtain ⟨ha, _, hr, rfl⟩ := pfx_inv l a n h
  exact ptext_yes w htab a n ha hr
theorem ptext_zero (w : World) (htab : Tab w) : ∃ s, Calls Tryd.prog 23 #[.agg #[.int .u32 0, .int .u8 0]] w fun e w' => e = .returned (.tuple #[.string s, .int .i64 0]) ∧ Frm No w w' :=
  ⟨_, ptext_yes w htab 0 0 (by omega) (by decide)⟩
theorem rtext_as (w : World) (htab : Tab w) (f t : Nat) (l : List UInt8) (h : rngOf l = some (f, t)) : Calls Tryd.prog 27 #[.agg #[.int .u16 (f : Int), .int .u16 (t : Int)]] w fun e w' => e = .returned (.tuple #[.string ⟨l.toArray⟩, .int .i64 0]) ∧ Frm No w w' := by
  obtain ⟨hr, ht, rfl⟩ := rng_inv l f t h
  exact rtext_yes w htab f t hr ht
theorem rtext_zero (w : World) (htab : Tab w) : ∃ s, Calls Tryd.prog 27 #[.agg #[.int .u16 0, .int .u16 0]] w fun e w' => e = .returned (.tuple #[.string s, .int .i64 0]) ∧ Frm No w w' :=
  ⟨_, rtext_yes w htab 0 0 (by omega) (by omega)⟩
theorem ktext_as (w : World) (htab : Tab w) (k : Ky) (l : List UInt8) (h : keyOf l = some k) : Calls Tryd.prog 26 #[.agg #[.int .u8 (k.pr : Int), .int .u32 (k.a : Int), .int .u32 (k.b : Int), .int .u16 (k.p : Int), .int .u16 (k.q : Int)]] w fun e w' => e = .returned (.string ⟨l.toArray⟩) ∧ Frm No w w' := by
  obtain ⟨hk, rfl⟩ := key_inv l k h
  exact ktext_ky w htab k hk
end Go.Proofs.YtknmnlbgjpbgiaaDoor
