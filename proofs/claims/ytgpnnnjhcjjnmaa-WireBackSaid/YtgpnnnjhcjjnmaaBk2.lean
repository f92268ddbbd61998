/-
  WireBack: parts in memory.
-/
import Derived.Test.YtgpnnnjhcjjnmaaBk1
import Derived.Test.YtgpnnnjhcjjnmaaY1
namespace Go.Proofs.Ytgpnnnjhcjjnmaa
open Go.RowKit

/-- The part p is read at the place j behind ad. -/
def PartAt (w : World) (ad : Addr) (j : Nat) (p : Pt) : Prop :=
  p.k < 256 ∧ p.n < 4294967296 ∧ ∃ A c, w.cell? (ad.add (j * 3)) = some (.int .u8 (p.k : Int)) ∧ w.cell? (ad.add (j * 3 + 1)) = some (.int .u32 (p.n : Int)) ∧ w.cell? (ad.add (j * 3 + 2)) = some (.slice A p.bs.length c) ∧
    Src w A c p.bs ∧ ∀ i, blk A = some i → 0 < p.bs.length → i < w.heap.size
def Parts (w : World) (B : Option Addr) (l : List Pt) : Prop := 0 < l.length → ∃ ad, B = some ad ∧ ad.block < w.heap.size ∧ ∀ j (h : j < l.length), PartAt w ad j l[j]

theorem Parts.frm {w w' : World} {B : Option Addr} {l : List Pt} (h : Parts w B l) (hf : Frm No w w') : Parts w' B l := by
  intro h0
  obtain ⟨ad, rfl, hb, hc⟩ := h h0
  refine ⟨ad, rfl, Nat.lt_of_lt_of_le hb hf.size, fun j hj => ?_⟩
  obtain ⟨h1, h2, A, c, k0, k1, k2, hs, hA⟩ := hc j hj
  have e := fun i => hf.cell (p := ad.add i) (by rw [block_of_add]; exact hb) (fun x => x)
  exact ⟨h1, h2, A, c, (e _).trans k0, (e _).trans k1, (e _).trans k2, hs.frm hf (fun _ _ x => x), fun i hi h0 => Nat.lt_of_lt_of_le (hA i hi h0) hf.size⟩
theorem Parts.take {w : World} {B : Option Addr} {l : List Pt} (h : Parts w B l) (k : Nat) : Parts w B (l.take k) := by
  intro h0
  rw [List.length_take] at h0
  obtain ⟨ad, rfl, hb, hc⟩ := h (by omega)
  refine ⟨ad, rfl, hb, fun j hj => ?_⟩
  have hj' : j < l.length := by rw [List.length_take] at hj; omega
  simpa using hc j hj'
theorem add_next2 (a : Addr) (n : Nat) : (⟨(a.add n).block, (a.add n).off + 2, none⟩ : Addr) = a.add (n + 2) := by
  unfold Addr.add
  by_cases h : n = 0 <;> simp [h] <;> omega
theorem newReader_m (w : World) (A : Option Addr) (c n : Nat) (bs : List UInt8) (hn : bs.length = n) (h : Rds w A bs) (hs : n ≤ 131072) :
    Calls Try.prog 17 #[.slice A n c] w (NewR w bs) := by
  subst hn
  exact newReader w A c bs h hs

/-- What the writer has after the first j parts, with the limit m. -/
def WSt (w0 w : World) (g : Nat) (v : Value) (m : Nat) (l : List Pt) (j : Nat) (f : Bool) : Prop :=
  ∃ ys, Wr w g v m ys f ∧ f = decide (m < (fore l j).length) ∧ (f = false → ys = fore l j) ∧ Frm No w0 w ∧ w0.heap.size ≤ g ∧ ∀ i, v.ownBlock = some i → w0.heap.size ≤ i

theorem WSt.step {w0 w w' : World} {g : Nat} {v : Value} {m : Nat} {l : List Pt} {j : Nat} {f : Bool} {e : Ending} {ys : List UInt8} (hj : j < l.length)
    (hf : f = decide (m < (fore l j).length)) (hy : f = false → ys = fore l j) (hF : Frm No w0 w) (hg : w0.heap.size ≤ g) (hv : ∀ i, v.ownBlock = some i → w0.heap.size ≤ i)
    (hd : WDone w g v m ys f l[j].enc e w') : ∃ v' f', e = .returned (.tuple #[]) ∧ WSt w0 w' g v' m l (j + 1) f' := by
  obtain ⟨v', rfl, hw, hf2, hb⟩ := hd
  refine ⟨v', _, rfl, _, hw, ?_, ?_, hF.new2 hf2 hg hv, hg, newer hF.size hv hb⟩
  · rw [fore_succ l j hj, List.length_append]
    cases f with
    | true =>
      have : m < (fore l j).length := by simpa using hf
      simp [wfits]
      omega
    | false =>
      have : ¬ m < (fore l j).length := by simpa using hf
      rw [hy rfl, Bool.eq_iff_iff]
      simp [wfits]
      omega
  · intro h
    have hw : wfits m ys f l[j].enc.length = true := by simpa using h
    rw [hw, if_pos rfl, fore_succ l j hj]
    cases f with
    | true => simp [wfits] at hw
    | false => rw [hy rfl]

/-- What is known of the part at j. -/
structure PInfo (w : World) (l : List Pt) (j : Nat) (p : Pt) (A : Option Addr) (c pk pn pm s : Nat) : Prop where
  get : l[j]? = some p
  k : p.k = pk
  klt : pk < 256
  n : p.n = pn
  nlt : pn < 4294967296
  m : p.bs.length = pm
  src : Src w A c p.bs
  blk : ∀ i, Go.Proofs.Ytgpnnnjhcjjnmaa.blk A = some i → 0 < p.bs.length → i < w.heap.size
  s : p.enc.length = s

theorem part_of {w wr : World} {B : Option Addr} {l : List Pt} {j k : Nat} (h : Parts w B l) (hF : Frm No w wr) (hk : l.length = k) (hj : j < k) :
    ∃ (ad : Addr) (p : Pt) (A : Option Addr) (c pk pn pm s : Nat), B = some ad ∧ wr.cell? (ad.add (j * 3)) = some (.int .u8 (pk : Int)) ∧ wr.cell? ⟨(ad.add (j * 3)).block, (ad.add (j * 3)).off + 1, none⟩ = some (.int .u32 (pn : Int)) ∧
      wr.cell? ⟨(ad.add (j * 3)).block, (ad.add (j * 3)).off + 2, none⟩ = some (.slice A pm c) ∧ s ≤ 40 ∧ pm ≤ c ∧ PInfo w l j p A c pk pn pm s := by
  obtain ⟨ad, rfl, had, hcell⟩ := h (by omega)
  obtain ⟨h1, h2, A, c, k0, k1, k2, hs, hA⟩ := hcell j (by omega)
  have e := fun i => hF.cell (p := ad.add i) (by rw [block_of_add]; exact had) (fun x => x)
  refine ⟨ad, l[j]'(by omega), A, c, _, _, _, _, rfl, (e _).trans k0, ?_, ?_, Pt.enc_le _, hs.le, ⟨List.getElem?_eq_getElem (by omega), rfl, h1, rfl, h2, rfl, hs, hA, rfl⟩⟩
  · rw [add_next]; exact (e _).trans k1
  · rw [add_next2]; exact (e _).trans k2

theorem PInfo.size {w : World} {l : List Pt} {j : Nat} {p : Pt} {A : Option Addr} {c pk pn pm s : Nat} (h : PInfo w l j p A c pk pn pm s) (W : World) :
    Calls Try.prog 36 #[.agg #[.int .u8 (pk : Int), .int .u32 (pn : Int), .slice A pm c]] W (SizeOf s W) := by
  have := size_any W p A pk pm c s h.k h.klt h.m h.s
  rwa [h.n] at this
theorem PInfo.next {w : World} {l : List Pt} {j : Nat} {p : Pt} {A : Option Addr} {c pk pn pm s : Nat} (h : PInfo w l j p A c pk pn pm s) : (fore l (j + 1)).length = (fore l j).length + s := by
  obtain ⟨hj, hp⟩ := List.getElem?_eq_some_iff.1 h.get
  rw [fore_succ l j hj, List.length_append, hp, h.s]
theorem PInfo.lt {w : World} {l : List Pt} {j : Nat} {p : Pt} {A : Option Addr} {c pk pn pm s : Nat} (h : PInfo w l j p A c pk pn pm s) : j < l.length := (List.getElem?_eq_some_iff.1 h.get).1
theorem PInfo.is {w : World} {l : List Pt} {j : Nat} {p : Pt} {A : Option Addr} {c pk pn pm s : Nat} (h : PInfo w l j p A c pk pn pm s) : l[j]'h.lt = p := (List.getElem?_eq_some_iff.1 h.get).2
theorem PInfo.enc0 {w : World} {l : List Pt} {j : Nat} {p : Pt} {A : Option Addr} {c pk pn pm s : Nat} (h : PInfo w l j p A c pk pn pm s) (hk : pk % 4 = 0) : p.enc = digs 1 (pn % 256) := by
  rw [Pt.enc0 (by rw [h.k]; exact hk), h.n]
theorem PInfo.enc1 {w : World} {l : List Pt} {j : Nat} {p : Pt} {A : Option Addr} {c pk pn pm s : Nat} (h : PInfo w l j p A c pk pn pm s) (hk : pk % 4 = 1) : p.enc = digs 2 (pn % 65536) := by
  rw [Pt.enc1 (by rw [h.k]; exact hk), h.n]
theorem PInfo.enc2 {w : World} {l : List Pt} {j : Nat} {p : Pt} {A : Option Addr} {c pk pn pm s : Nat} (h : PInfo w l j p A c pk pn pm s) (hk : pk % 4 = 2) : p.enc = digs 4 pn := by
  rw [Pt.enc2 (by rw [h.k]; exact hk), h.n]
theorem PInfo.enc3 {w : World} {l : List Pt} {j : Nat} {p : Pt} {A : Option Addr} {c pk pn pm s : Nat} (h : PInfo w l j p A c pk pn pm s) (hk : pk % 4 = 3) : p.enc = p.bs.take s ∧ s ≤ pm := by
  have e := Pt.enc3 (p := p) (by rw [h.k]; exact hk)
  have hs := h.s
  have hm := h.m
  rw [e, List.length_take] at hs
  refine ⟨?_, by omega⟩
  rw [e]
  rcases Nat.le_total p.bs.length 40 with h1 | h1
  · rw [List.take_of_length_le h1, List.take_of_length_le (by omega)]
  · rw [show s = 40 by omega]
theorem PInfo.src_take {w : World} {l : List Pt} {j : Nat} {p : Pt} {A : Option Addr} {c pk pn pm s : Nat} (h : PInfo w l j p A c pk pn pm s) {W : World} (hf : Frm No w W) : Src W A c (p.bs.take s) :=
  ⟨(h.src.rds.frm hf (fun _ _ x => x)).take s, by rw [List.length_take]; have := h.src.le; omega, h.src.nil⟩

theorem w_step {w wr W4 w5 : World} {g gw : Nat} {v : Value} {m : Nat} {l : List Pt} {j : Nat} {f : Bool} {e : Ending} {ys xs : List UInt8} {cs : Array Value} {p : Pt} {A : Option Addr} {c pk pn pm s : Nat}
    (hX : f = decide (m < (fore l j).length) ∧ (f = false → ys = fore l j) ∧ Frm No w wr ∧ w.heap.size ≤ gw ∧ ∀ i, v.ownBlock = some i → w.heap.size ≤ i) (hfx : Frm No wr W4) (hw : Wr W4 gw v m ys f) (hg : Blk W4 g 3 cs)
    (pi : PInfo w l j p A c pk pn pm s) (hxs : p.enc = xs) (hd : WDone W4 gw v m ys f xs e w5) : ∃ v' f', e = .returned (.tuple #[]) ∧ Hid (WSt w w5 gw v' m l (j + 1) f') ∧ Hid (Blk w5 g 3 cs) := by
  have hg5 : Blk w5 g 3 cs := by
    obtain ⟨_, _, _, hfr, _⟩ := hd
    refine hg.frm hfr ?_
    rintro (e | e)
    · exact blk_apart hg hw.blk (by decide) e
    · exact own_blk_ne hw.own hg (by decide) e
  obtain ⟨v', f', he, h⟩ := WSt.step pi.lt hX.1 hX.2.1 (hX.2.2.1.new0 hfx) hX.2.2.2.1 hX.2.2.2.2 (by rw [pi.is, hxs]; exact hd)
  exact ⟨v', f', he, h, hg5⟩
theorem box_far {w w' : World} {gl gw : Nat} {v : Value} {m : Nat} {f : Bool} {e : Ending} {ys xs : List UInt8} {cs : Array Value} (hb : Blk w gl 63 cs) (hw : Wr w gw v m ys f) (hd : WDone w gw v m ys f xs e w') : Blk w' gl 63 cs := by
  obtain ⟨_, _, _, hfr, _⟩ := hd
  refine hb.frm hfr ?_
  rintro (e | e)
  · exact blk_apart hb hw.blk (by decide) e
  · exact own_blk_ne hw.own hb (by decide) e
theorem box_far_r {w w' : World} {gl gr : Nat} {v : Value} {bs : List UInt8} {k : Nat} {f : Bool} {cs : Array Value} (hb : Blk w gl 63 cs) (hr : Rd w gr v bs k f) (hf : Frm (One gr) w w') : Blk w' gl 63 cs :=
  hb.frm hf (fun e => blk_apart hb hr.blk (by decide) e)
end Go.Proofs.Ytgpnnnjhcjjnmaa
