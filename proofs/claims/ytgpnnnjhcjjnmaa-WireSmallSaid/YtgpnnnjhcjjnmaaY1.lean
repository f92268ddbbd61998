/-
  A reader and a writer side by side; acts.
-/
import Derived.Test.YtgpnnnjhcjjnmaaW5
import Derived.Test.YtgpnnnjhcjjnmaaO1
namespace Go.Proofs.Ytgpnnnjhcjjnmaa
open Go.RowKit

theorem blk_apart {w : World} {g g' : Nat} {t t' : TypeId} {cs cs' : Array Value} (h : Blk w g t cs) (h' : Blk w g' t' cs') (ht : t ≠ t') : g ≠ g' := by
  rintro rfl
  unfold Blk at h h'
  rw [h] at h'
  injection h' with e
  injection e with _ e
  exact ht e

/-- A reader and a writer that were made since W, and share nothing. -/
structure Both (W w : World) (gr : Nat) (vr : Value) (bs : List UInt8) (k : Nat) (f : Bool) (gw : Nat) (vw : Value) (m : Nat) (ys : List UInt8) (fw : Bool) : Prop where
  rd : Rd w gr vr bs k f
  wr : Wr w gw vw m ys fw
  frm : Frm No W w
  br : W.heap.size ≤ gr
  bw : W.heap.size ≤ gw
  bvr : ∀ i, vr.ownBlock = some i → W.heap.size ≤ i
  bvw : ∀ i, vw.ownBlock = some i → W.heap.size ≤ i
  ne : ∀ i, vr.ownBlock = some i → vw.ownBlock ≠ some i

section
variable {W w w' : World} {gr : Nat} {vr : Value} {bs : List UInt8} {k k' : Nat} {f f' : Bool} {gw : Nat} {vw v' : Value} {m : Nat} {ys ys' : List UInt8} {fw fw' : Bool}
theorem Both.no (h : Both W w gr vr bs k f gw vw m ys fw) (hf : Frm No w w') : Both W w' gr vr bs k f gw vw m ys fw :=
  ⟨h.rd.frm hf (fun x => x) (fun _ _ x => x), h.wr.frm hf (fun x => x) (fun _ _ x => x), h.frm.new0 hf, h.br, h.bw, h.bvr, h.bvw, h.ne⟩
theorem Both.reads (h : Both W w gr vr bs k f gw vw m ys fw) (hr : Rd w' gr vr bs k' f') (hf : Frm (One gr) w w') : Both W w' gr vr bs k' f' gw vw m ys fw :=
  ⟨hr, h.wr.frm hf (fun e => blk_apart h.rd.blk h.wr.blk (by decide) e.symm) (fun i hi e => own_blk_ne h.wr.own h.rd.blk (by decide) (by rw [hi]; exact congrArg some e)), h.frm.new1 hf h.br, h.br, h.bw, h.bvr, h.bvw, h.ne⟩
theorem Both.writes (h : Both W w gr vr bs k f gw vw m ys fw) (hw : Wr w' gw v' m ys' fw') (hf : Frm (Two gw vw) w w') (hv : v'.ownBlock = vw.ownBlock ∨ ∀ i, v'.ownBlock = some i → w.heap.size ≤ i) : Both W w' gr vr bs k f gw v' m ys' fw' := by
  refine ⟨h.rd.frm hf ?_ ?_, hw, h.frm.new2 hf h.bw h.bvw, h.br, h.bw, h.bvr, newer h.frm.size h.bvw hv, ?_⟩
  · rintro (e | e)
    · exact blk_apart h.rd.blk h.wr.blk (by decide) e
    · exact own_blk_ne h.wr.own h.rd.blk (by decide) e
  · rintro i hi (e | e)
    · exact own_blk_ne h.rd.own h.wr.blk (by decide) (by rw [hi, e])
    · exact h.ne i hi e
  · intro i hi e
    rcases hv with hv | hv
    · exact h.ne i hi (by rw [← hv]; exact e)
    · have := hv i e
      have := (World.ownsRow.lt h.rd.own i hi).2
      omega
end

/-- And a variable of the round's own. -/
structure AllB (W w : World) (gr : Nat) (vr : Value) (bs : List UInt8) (k : Nat) (f : Bool) (gw : Nat) (vw : Value) (m : Nat) (ys : List UInt8) (fw : Bool) (gl : Nat) (t : TypeId) (cs : Array Value) : Prop where
  both : Both W w gr vr bs k f gw vw m ys fw
  var : Blk w gl t cs

section
variable {W w w' : World} {gr : Nat} {vr : Value} {bs : List UInt8} {k k' : Nat} {f f' : Bool} {gw : Nat} {vw v' : Value} {m : Nat} {ys ys' : List UInt8} {fw fw' : Bool} {gl : Nat} {t : TypeId} {cs : Array Value}
theorem AllB.no (h : AllB W w gr vr bs k f gw vw m ys fw gl t cs) (hf : Frm No w w') : AllB W w' gr vr bs k f gw vw m ys fw gl t cs := ⟨h.both.no hf, h.var.frm hf (fun x => x)⟩
theorem AllB.reads (h : AllB W w gr vr bs k f gw vw m ys fw gl t cs) (ht : t ≠ 41) (hr : Rd w' gr vr bs k' f') (hf : Frm (One gr) w w') : AllB W w' gr vr bs k' f' gw vw m ys fw gl t cs :=
  ⟨h.both.reads hr hf, h.var.frm hf (fun e => blk_apart h.var h.both.rd.blk ht e)⟩
theorem AllB.writes (h : AllB W w gr vr bs k f gw vw m ys fw gl t cs) (ht : t ≠ 44) (ht5 : 5 ≠ t) (hw : Wr w' gw v' m ys' fw') (hf : Frm (Two gw vw) w w') (hv : v'.ownBlock = vw.ownBlock ∨ ∀ i, v'.ownBlock = some i → w.heap.size ≤ i) : AllB W w' gr vr bs k f gw v' m ys' fw' gl t cs := by
  refine ⟨h.both.writes hw hf hv, h.var.frm hf ?_⟩
  rintro (e | e)
  · exact blk_apart h.var h.both.wr.blk ht e
  · exact own_blk_ne h.both.wr.own h.var ht5 e
end

theorem add_next (a : Addr) (n : Nat) : (⟨(a.add n).block, (a.add n).off + 1, none⟩ : Addr) = a.add (n + 1) := by
  unfold Addr.add
  by_cases h : n = 0 <;> simp [h] <;> omega

theorem wLenN {w : World} {g : Nat} {v : Value} {m : Nat} {bs : List UInt8} {f : Bool} {L : Nat} (h : Wr w g v m bs f) (hL : bs.length = L) : Calls Try.prog 34 #[.pointer (some ⟨g, 0, none⟩)] w fun e w' => e = .returned (.int .i64 (L : Int)) ∧ w = w' := by
  subst hL
  exact wLen h

/-- What a round of acts keeps. -/
def Kept (k k' : Nat) (f f' : Bool) (got : Int) (l l' : Nat) (fw fw' : Bool) : Prop :=
  k ≤ k' ∧ (f = true → got = 0 ∧ k' = k ∧ f' = true) ∧ l ≤ l' ∧ (fw = true → l' = l ∧ fw' = true) ∧ (f' = true → k' = k ∨ f = true)

theorem kept_mk {k k' : Nat} {f f' : Bool} {got : Int} {l l' : Nat} {fw fw' : Bool} (hr : k ≤ k' ∧ (f = true → k' = k ∧ f' = true) ∧ (f' = true → k' = k ∨ f = true)) (hg : f = true → got = 0) (hw : l ≤ l' ∧ (fw = true → l' = l ∧ fw' = true)) : Kept k k' f f' got l l' fw fw' :=
  ⟨hr.1, fun h => ⟨hg h, hr.2.1 h⟩, hw.1, hw.2, hr.2.2⟩

theorem read_keeps (cs : List UInt8) (k : Nat) (f : Bool) (n : Int) : k ≤ rAt cs k f n ∧ (f = true → rAt cs k f n = k ∧ (!fits cs k f n) = true) ∧ ((!fits cs k f n) = true → rAt cs k f n = k ∨ f = true) := by
  cases f with
  | true => simp [rAt, fits]
  | false =>
    cases h : fits cs k false n with
    | true => simp [rAt, h]
    | false => simp [rAt, h]
theorem rOut_failed (cs : List UInt8) (k : Nat) (n : Int) : rOut cs k true n = [] := by simp [rOut, fits]

theorem write_keeps (m : Nat) (ys : List UInt8) (fw : Bool) (n : Int) (xs : List UInt8) : ys.length ≤ (if wfits m ys fw n = true then ys ++ xs else ys).length ∧ (fw = true → (if wfits m ys fw n = true then ys ++ xs else ys).length = ys.length ∧ (!wfits m ys fw n) = true) := by
  cases fw with
  | true => simp [wfits]
  | false =>
    cases h : wfits m ys false n with
    | true => simp
    | false => simp

theorem set_keeps (ys : List UInt8) (fw : Bool) (n : Int) (x : Nat) : ys.length ≤ (if sfits ys fw n = true then setTwo ys n.toNat x else ys).length ∧ (fw = true → (if sfits ys fw n = true then setTwo ys n.toNat x else ys).length = ys.length ∧ (!sfits ys fw n) = true) := by
  cases fw with
  | true => simp [sfits]
  | false =>
    cases h : sfits ys false n with
    | true =>
      have h2 : n.toNat + 2 ≤ ys.length := by simp [sfits] at h; omega
      simp [setTwo_len _ _ _ h2]
    | false => simp

/-- Acts that a slice reads. -/
def Acts (w : World) (A : Option Addr) (l : List (Nat × Int)) : Prop :=
  0 < l.length → ∃ ad, A = some ad ∧ ad.block < w.heap.size ∧ ∀ j (h : j < l.length), w.cell? (ad.add (j * 2)) = some (.int .u8 (l[j].1 : Int)) ∧ w.cell? (ad.add (j * 2 + 1)) = some (.int .i64 l[j].2) ∧ l[j].1 < 256 ∧ -9223372036854775808 ≤ l[j].2 ∧ l[j].2 ≤ 9223372036854775807

theorem Acts.frm {w w' : World} {A : Option Addr} {l : List (Nat × Int)} (h : Acts w A l) (hf : Frm No w w') : Acts w' A l := by
  intro h0
  obtain ⟨ad, rfl, hb, hc⟩ := h h0
  refine ⟨ad, rfl, Nat.lt_of_lt_of_le hb hf.size, fun j hj => ?_⟩
  obtain ⟨h1, h2, h3⟩ := hc j hj
  have e1 := hf.cell (p := ad.add (j * 2)) (by rw [block_of_add]; exact hb) (fun x => x)
  have e2 := hf.cell (p := ad.add (j * 2 + 1)) (by rw [block_of_add]; exact hb) (fun x => x)
  exact ⟨e1.trans h1, e2.trans h2, h3⟩

theorem Acts.take {w : World} {A : Option Addr} {l : List (Nat × Int)} (h : Acts w A l) (k : Nat) : Acts w A (l.take k) := by
  intro h0
  rw [List.length_take] at h0
  obtain ⟨ad, rfl, hb, hc⟩ := h (by omega)
  refine ⟨ad, rfl, hb, fun j hj => ?_⟩
  have hj' : j < l.length := by rw [List.length_take] at hj; omega
  simpa using hc j hj'

end Go.Proofs.Ytgpnnnjhcjjnmaa
