/-
  Hex and Unhex, and the document's own ones, answer alike: whatever the bytes, whatever the string.
-/
import Derived.Test.YtgpnnnjhcjjnmaaX3
import Derived.Test.YtgpnnnjhcjjnmaaL3
namespace Go.Proofs.Ytgpnnnjhcjjnmaa
open Go.RowKit

set_option maxRecDepth 100000 in
theorem refUnhex_long (s : ByteArray) (w : World) (hs : 262144 < s.size) : Calls Try.prog 52 #[.string s] w fun e w' => e = .returned (.tuple #[.slice none 0 0, .int .i64 3]) ∧ w = w' := by
  go_enter Try.func52, Try.ntmps52
  go_wp2
  go_ret2
  exact ⟨rfl, rfl⟩

def TextOf (w : World) (T : ByteArray) (E : Int) (e : Ending) (w' : World) : Prop := e = .returned (.tuple #[.string T, .int .i64 E]) ∧ Frm No w w'

theorem hexes (bs : List UInt8) (n : Nat) (hn : bs.length = n) : ∃ (T : ByteArray) (E : Int), (E = 0 ∨ E = 3) ∧ (∀ w A c, Rds w A bs → Calls Try.prog 38 #[.slice A n c] w (TextOf w T E)) ∧
    (∀ w A c, Rds w A bs → Calls Try.prog 51 #[.slice A n c] w (TextOf w T E)) := by
  by_cases hs : n ≤ 131072
  · refine ⟨⟨(hexs bs).toArray⟩, 0, .inl rfl, ?_, ?_⟩
    · intro w A c h
      subst hn
      exact hex_any w A c bs h hs
    · intro w A c h
      refine (refHex w A c n bs hn h hs).mono ?_
      rintro e w' ⟨t, rfl, ht, _, hf⟩
      refine ⟨?_, hf⟩
      have : t = ⟨(hexs bs).toArray⟩ := by
        cases t with
        | mk d => rw [← ht]
      rw [this]
  · refine ⟨⟨#[]⟩, 3, .inr rfl, ?_, ?_⟩
    · intro w A c _
      refine (hex_long w A c n (by omega)).mono ?_
      rintro e w' ⟨rfl, rfl⟩
      exact ⟨rfl, Frm.refl _ _⟩
    · intro w A c _
      refine (refHex_long w A c n (by omega)).mono ?_
      rintro e w' ⟨rfl, rfl⟩
      exact ⟨rfl, Frm.refl _ _⟩

def Got (w : World) (ys : List UInt8) (n : Nat) (E : Int) (e : Ending) (w' : World) : Prop :=
  ∃ A c, e = .returned (.tuple #[.slice A n c, .int .i64 E]) ∧ Rds w' A ys ∧ (∀ i, blk A = some i → w.heap.size ≤ i) ∧ Frm No w w'

theorem Got.nil {w w' : World} {E : Int} (hf : Frm No w w') : Got w [] 0 E (.returned (.tuple #[.slice none 0 0, .int .i64 E])) w' :=
  ⟨none, 0, rfl, Rds.nil _ _, (fun _ h => by cases h), hf⟩

theorem Parsed.got {w w' : World} {l : List UInt8} {e : Ending} (h : Parsed w l e w') : Got w ((unhexs l).getD []) ((unhexs l).getD []).length (if unhexs l = none then 10 else 0) e w' := by
  unfold Parsed at h
  cases hu : unhexs l with
  | none =>
    rw [hu] at h
    obtain ⟨rfl, hf⟩ := h
    exact Got.nil hf
  | some bs =>
    rw [hu] at h
    obtain ⟨v, rfl, ho, hf⟩ := h
    obtain ⟨A, c, rfl, hl, hs, hb⟩ := Src.of_own ho
    exact ⟨A, c, rfl, hs.rds, (fun i hi => (own_lt ho (hb.trans hi)).1), hf⟩

theorem unhexes (s : ByteArray) : ∃ (ys : List UInt8) (n : Nat) (E : Int), ys.length = n ∧ n ≤ 131072 ∧ (E = 0 ∨ E = 3 ∨ E = 10) ∧ (∀ w, Calls Try.prog 39 #[.string s] w (Got w ys n E)) ∧ (∀ w, Calls Try.prog 52 #[.string s] w (Got w ys n E)) := by
  by_cases hs : s.size ≤ 262144
  · refine ⟨(unhexs s.data.toList).getD [], _, if unhexs s.data.toList = none then 10 else 0, rfl, ?_, by split <;> simp, fun w => (unhex_any s w hs).mono fun _ _ h => h.got, fun w => (refUnhex s w hs).mono fun _ _ h => h.got⟩
    cases hu : unhexs s.data.toList with
    | none => simp
    | some r =>
      have := unhexs_len2 hu
      rw [Array.length_toList, show s.data.size = s.size from rfl] at this
      show r.length ≤ 131072
      omega
  · refine ⟨[], 0, 3, rfl, by omega, .inr (.inl rfl), fun w => (unhex_long s w (by omega)).mono ?_, fun w => (refUnhex_long s w (by omega)).mono ?_⟩
    · rintro e w' ⟨rfl, rfl⟩
      exact Got.nil (Frm.refl _ _)
    · rintro e w' ⟨rfl, rfl⟩
      exact Got.nil (Frm.refl _ _)
end Go.Proofs.Ytgpnnnjhcjjnmaa
