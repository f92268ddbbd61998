/-
  WireBack: the reader's steps.
-/
import Derived.Test.YtgpnnnjhcjjnmaaBk2
namespace Go.Proofs.Ytgpnnnjhcjjnmaa
open Go.RowKit

/-- What the reader of the first mm bytes has after the first j parts. -/
def RSt (w0 w : World) (gr : Nat) (vr : Value) (mm : Nat) (l : List Pt) (j : Nat) (f : Bool) : Prop :=
  ∃ k, Rd w gr vr ((encs l).take mm) k f ∧ f = decide (mm < (fore l j).length) ∧ (f = false → k = (fore l j).length) ∧ Frm No w0 w ∧ w0.heap.size ≤ gr

theorem fits_is {l : List Pt} {mm j k s : Nat} {f : Bool} (hm : mm ≤ (encs l).length) (hf : f = decide (mm < (fore l j).length)) (hk : f = false → k = (fore l j).length) :
    (!fits ((encs l).take mm) k f (s : Int)) = decide (mm < (fore l j).length + s) := by
  have hl : ((encs l).take mm).length = mm := by rw [List.length_take]; omega
  cases f with
  | true =>
    have : mm < (fore l j).length := by simpa using hf
    rw [Bool.eq_iff_iff]
    simp [fits]
    omega
  | false =>
    rw [hk rfl, Bool.eq_iff_iff]
    simp [fits, hl]
    omega

theorem r_step {w0 w w' : World} {gr : Nat} {vr : Value} {mm : Nat} {l : List Pt} {j k s : Nat} {f : Bool} {n : Int} (hj : j < l.length) (hs : l[j].enc.length = s) (hm : mm ≤ (encs l).length)
    (hf : f = decide (mm < (fore l j).length)) (hk : f = false → k = (fore l j).length) (hF : Frm No w0 w) (hg : w0.heap.size ≤ gr) (hn : n = (s : Int))
    (hr : Rd w' gr vr ((encs l).take mm) (rAt ((encs l).take mm) k f n) (!fits ((encs l).take mm) k f n)) (hfr : Frm (One gr) w w') :
    RSt w0 w' gr vr mm l (j + 1) (decide (mm < (fore l j).length + s)) := by
  subst hn
  rw [fits_is hm hf hk] at hr
  refine ⟨_, hr, ?_, ?_, hF.new1 hfr hg, hg⟩
  · rw [fore_succ l j hj, List.length_append, hs]
  · intro h
    have h1 : ¬ mm < (fore l j).length + s := by simpa using h
    have hff : f = false := by rw [hf]; exact decide_eq_false (by omega)
    subst hff
    rw [hk rfl]
    exact (part_fits l j mm hj s hs (by omega)).2.2
theorem r_out {mm : Nat} {l : List Pt} {j k s : Nat} {f : Bool} {n : Int} (hj : j < l.length) (hs : l[j].enc.length = s) (hf : f = decide (mm < (fore l j).length)) (hk : f = false → k = (fore l j).length) (hn : n = (s : Int))
    (h : decide (mm < (fore l j).length + s) = false) : rOut ((encs l).take mm) k f n = l[j].enc := by
  subst hn
  have h1 : ¬ mm < (fore l j).length + s := by simpa using h
  have hff : f = false := by rw [hf]; exact decide_eq_false (by omega)
  subst hff
  rw [hk rfl]
  exact (part_fits l j mm hj s hs (by omega)).2.1

theorem own_far_r {w w' : World} {gr b n : Nat} {v vr : Value} {bs xs : List UInt8} {k : Nat} {f : Bool} (ho : w.ownsRow b 5 1 v n (byts xs)) (hr : Rd w gr vr bs k f) (hf : Frm (One gr) w w') : w'.ownsRow b 5 1 v n (byts xs) :=
  hf.own ho (fun i hi e => own_blk_ne ho hr.blk (by decide) (by rw [hi]; exact congrArg some e))
theorem blk_far_r {w w' : World} {g gr t : Nat} {vr : Value} {bs : List UInt8} {k : Nat} {f : Bool} {cs : Array Value} (hb : Blk w g t cs) (ht : t ≠ 41) (hr : Rd w gr vr bs k f) (hf : Frm (One gr) w w') : Blk w' g t cs :=
  hb.frm hf (fun e => blk_apart hb hr.blk ht e)

/-- What a reader's call of one part leaves. -/
structure RGo (w0 w' : World) (gr : Nat) (vr : Value) (mm : Nat) (l : List Pt) (j s L : Nat) (X : Value) (m g gl : Nat) (cs bs : Array Value) : Prop where
  st : RSt w0 w' gr vr mm l (j + 1) (decide (mm < L + s))
  row : w'.ownsRow 0 5 1 X m (byts (encs l))
  two : Blk w' g 3 cs
  box : Blk w' gl 63 bs

theorem r_go {w0 w w' : World} {gr : Nat} {vr X : Value} {mm m g gl : Nat} {l : List Pt} {j k s L : Nat} {f : Bool} {n : Int} {cs bs : Array Value} {p : Pt} {W : World} {A : Option Addr} {c pk pn pm : Nat} (hpi : PInfo W l j p A c pk pn pm s) (hm : mm ≤ (encs l).length) (hL : (fore l j).length = L)
    (hf : f = decide (mm < (fore l j).length)) (hk : f = false → k = (fore l j).length) (hF : Frm No w0 w) (hg : w0.heap.size ≤ gr) (hn : n = (s : Int))
    (h0 : Rd w gr vr ((encs l).take mm) k f) (hx : w.ownsRow 0 5 1 X m (byts (encs l))) (h3 : Blk w g 3 cs) (hb : Blk w gl 63 bs)
    (hr : Rd w' gr vr ((encs l).take mm) (rAt ((encs l).take mm) k f n) (!fits ((encs l).take mm) k f n)) (hfr : Frm (One gr) w w') : RGo w0 w' gr vr mm l j s L X m g gl cs bs :=
  ⟨hL ▸ r_step hpi.lt (by rw [hpi.is]; exact hpi.s) hm hf hk hF hg hn hr hfr, own_far_r hx h0 hfr, blk_far_r h3 (by decide) h0 hfr, blk_far_r hb (by decide) h0 hfr⟩
theorem RGo.frm {w0 w w' : World} {gr : Nat} {vr X : Value} {mm m g gl j s L : Nat} {l : List Pt} {cs bs : Array Value} (h : RGo w0 w gr vr mm l j s L X m g gl cs bs) (hf : Frm No w w') : RGo w0 w' gr vr mm l j s L X m g gl cs bs := by
  obtain ⟨⟨k, h1, h2, h3, h4, h5⟩, hx, hg, hb⟩ := h
  exact ⟨⟨k, h1.frm hf (fun x => x) (fun _ _ x => x), h2, h3, h4.new0 hf, h5⟩, hf.own hx (fun _ _ x => x), hg.frm hf (fun x => x), hb.frm hf (fun x => x)⟩
theorem RGo.base {w0 w : World} {gr : Nat} {vr X : Value} {mm m g gl j s L : Nat} {l : List Pt} {cs bs : Array Value} (h : RGo w0 w gr vr mm l j s L X m g gl cs bs) : Frm No w0 w := by
  obtain ⟨_, _, _, _, h4, _⟩ := h.st
  exact h4
theorem RGo.rd {w0 w : World} {gr : Nat} {vr X : Value} {mm m g gl j s L : Nat} {l : List Pt} {cs bs : Array Value} (h : RGo w0 w gr vr mm l j s L X m g gl cs bs) : ∃ k, Rd w gr vr ((encs l).take mm) k (decide (mm < L + s)) := by
  obtain ⟨k, h1, _⟩ := h.st
  exact ⟨k, h1⟩
end Go.Proofs.Ytgpnnnjhcjjnmaa
