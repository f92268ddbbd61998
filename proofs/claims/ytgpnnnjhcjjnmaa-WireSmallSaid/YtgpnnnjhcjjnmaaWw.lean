/-
  WireWrites: a writer and the document's writer side by side.
-/
import Derived.Test.YtgpnnnjhcjjnmaaRs
import Derived.Test.YtgpnnnjhcjjnmaaOv
import Derived.Test.YtgpnnnjhcjjnmaaY1
import Derived.Test.YtgpnnnjhcjjnmaaL3
namespace Go.Proofs.Ytgpnnnjhcjjnmaa
open Go.RowKit

/-- A writer, and the document's one, since W. -/
structure WS (W w : World) (gw : Nat) (vw : Value) (m : Nat) (ys : List UInt8) (f : Bool) (gx : Nat) (u : Value) : Prop where
  wr : Wr w gw vw m ys f
  x : Blk w gx 82 #[.int .i64 (m : Int), u, .bool f]
  row : w.ownsRow 0 5 1 u ys.length (byts ys)
  frm : Frm No W w
  bw : W.heap.size ≤ gw
  bx : W.heap.size ≤ gx
  bv : ∀ i, vw.ownBlock = some i → W.heap.size ≤ i
  ne : ∀ i, u.ownBlock = some i → vw.ownBlock ≠ some i

section
variable {W w w' : World} {gw gx : Nat} {vw v' u u' : Value} {m : Nat} {ys ys' : List UInt8} {f f' : Bool}
theorem WS.no (h : WS W w gw vw m ys f gx u) (hf : Frm No w w') : WS W w' gw vw m ys f gx u :=
  ⟨h.wr.frm hf (fun x => x) (fun _ _ x => x), h.x.frm hf (fun x => x), hf.own h.row (fun _ _ x => x), h.frm.new0 hf, h.bw, h.bx, h.bv, h.ne⟩
theorem WS.gne (h : WS W w gw vw m ys f gx u) : gw ≠ gx := blk_apart h.wr.blk h.x (by decide)

theorem WS.over (h : WS W w gw vw m ys f gx u) {v : Value} {base n : Nat} {xs : List Value} (ho : w.ownsRow base 5 1 v n xs) (hb : W.heap.size ≤ base) (hn1 : ∀ i, v.ownBlock = some i → u.ownBlock ≠ some i) (hn2 : ∀ i, v.ownBlock = some i → vw.ownBlock ≠ some i) (hf : Frm (Own1 v) w w') : WS W w' gw vw m ys f gx u := by
  refine ⟨h.wr.frm hf (fun e => own_blk_ne ho h.wr.blk (by decide) e) (fun i hi e => hn2 i e hi), h.x.frm hf (fun e => own_blk_ne ho h.x (by decide) e), hf.own h.row (fun i hi e => hn1 i e hi), h.frm.trans hf (fun i hi e => ?_), h.bw, h.bx, h.bv, h.ne⟩
  have := (own_lt ho e).1
  omega

/-- Half a step: the program's writer has gone on, the document's one hasn't. -/
structure WH (W w : World) (gw : Nat) (vw : Value) (m : Nat) (ys ys' : List UInt8) (f f' : Bool) (gx : Nat) (u : Value) : Prop where
  wr : Wr w gw vw m ys' f'
  x : Blk w gx 82 #[.int .i64 (m : Int), u, .bool f]
  row : w.ownsRow 0 5 1 u ys.length (byts ys)
  le : ys.length ≤ m
  frm : Frm No W w
  bw : W.heap.size ≤ gw
  bx : W.heap.size ≤ gx
  bv : ∀ i, vw.ownBlock = some i → W.heap.size ≤ i
  ne : ∀ i, u.ownBlock = some i → vw.ownBlock ≠ some i
theorem WS.half (h : WS W w gw vw m ys f gx u) (hw : Wr w' gw v' m ys' f') (hf : Frm (Two gw vw) w w') (hv : v'.ownBlock = vw.ownBlock ∨ ∀ i, v'.ownBlock = some i → w.heap.size ≤ i) : WH W w' gw v' m ys ys' f f' gx u := by
  refine ⟨hw, h.x.frm hf ?_, hf.own h.row ?_, h.wr.le, h.frm.new2 hf h.bw h.bv, h.bw, h.bx, newer h.frm.size h.bv hv, ?_⟩
  · rintro (e | e)
    · exact h.gne e.symm
    · exact own_blk_ne h.wr.own h.x (by decide) e
  · rintro i hi (e | e)
    · exact own_blk_ne h.row h.wr.blk (by decide) (by rw [hi, e])
    · exact h.ne i hi e
  · intro i hi e
    rcases hv with hv | hv
    · exact h.ne i hi (by rw [← hv]; exact e)
    · have := hv i e
      have := (own_lt h.row hi).2
      omega
theorem WH.no (h : WH W w gw vw m ys ys' f f' gx u) (hf : Frm No w w') : WH W w' gw vw m ys ys' f f' gx u :=
  ⟨h.wr.frm hf (fun x => x) (fun _ _ x => x), h.x.frm hf (fun x => x), hf.own h.row (fun _ _ x => x), h.le, h.frm.new0 hf, h.bw, h.bx, h.bv, h.ne⟩
/-- A row that is new has changed. -/
theorem WH.over (h : WH W w gw vw m ys ys' f f' gx u) {v : Value} {base n : Nat} {xs : List Value} (ho : w.ownsRow base 5 1 v n xs) (hb : W.heap.size ≤ base) (hn1 : ∀ i, v.ownBlock = some i → u.ownBlock ≠ some i) (hn2 : ∀ i, v.ownBlock = some i → vw.ownBlock ≠ some i) (hf : Frm (Own1 v) w w') : WH W w' gw vw m ys ys' f f' gx u := by
  refine ⟨h.wr.frm hf (fun e => own_blk_ne ho h.wr.blk (by decide) e) (fun i hi e => hn2 i e hi), h.x.frm hf (fun e => own_blk_ne ho h.x (by decide) e), hf.own h.row (fun i hi e => hn1 i e hi), h.le, h.frm.trans hf (fun i hi e => ?_), h.bw, h.bx, h.bv, h.ne⟩
  have := (own_lt ho e).1
  omega
/-- The document's writer is stored. -/
theorem WH.stored (h : WH W w gw vw m ys ys' f f' gx u) (hr : w'.ownsRow 0 5 1 u' ys'.length (byts ys')) (hf : Frm No w w') (hu : ∀ i, u'.ownBlock = some i → u.ownBlock = some i ∨ w.heap.size ≤ i) :
    WS W (((w'.setCell ⟨gx, 0, none⟩ (.int .i64 (m : Int))).setCell ⟨gx, 1, none⟩ u').setCell ⟨gx, 2, none⟩ (.bool f')) gw vw m ys' f' gx u' := by
  have hx' := h.x.frm hf (fun x => x)
  have hw' := h.wr.frm hf (fun x => x) (fun _ _ x => x)
  have hgx : gx ≠ gw := (blk_apart hw'.blk hx' (by decide)).symm
  have hn := own_blk_ne hr hx' (by decide)
  have hnv := own_blk_ne hw'.own hx' (by decide)
  have F1 : Frm (One gx) w' (((w'.setCell ⟨gx, 0, none⟩ (.int .i64 (m : Int))).setCell ⟨gx, 1, none⟩ u').setCell ⟨gx, 2, none⟩ (.bool f')) := ((((Frm.refl _ w').set1 0 _).set1 1 _).set1 2 _)
  refine ⟨hw'.frm F1 (fun e => hgx e.symm) (fun i hi e => hnv (by rw [hi]; exact congrArg some e)), ?_, ?_, (h.frm.new0 hf).new1 F1 h.bx, h.bw, h.bx, h.bv, ?_⟩
  · simpa using ((hx'.set_ 0 (.int .i64 (m : Int))).set_ 1 u').set_ 2 (.bool f')
  · exact F1.own hr (fun i hi e => hn (by rw [hi]; exact congrArg some e))
  · intro i hi e
    rcases hu i hi with h1 | h1
    · exact h.ne i h1 e
    · have := (own_lt h.wr.own e).2
      omega
end

theorem lent_src {w : World} {A : Option Addr} {c base : Nat} {bs : List UInt8} (h : w.ownsRow base 5 1 (.slice A (bs.length + 12) c) (bs.length + 12) (byts (bs ++ marks 12))) : Src w A c bs ∧ Rds w A (bs ++ marks 12) ∧ bs.length + 12 ≤ c := by
  have hl : (bs ++ marks 12).length = bs.length + 12 := by rw [List.length_append, marks_len]
  have h' : w.ownsRow base 5 1 (.slice A (bs.length + 12) c) (bs ++ marks 12).length (byts (bs ++ marks 12)) := by rw [hl]; exact h
  obtain ⟨A', c', e, -, hs, -⟩ := Src.of_own h'
  injection e with e1 e2 e3
  subst e1 e3
  have hr : Rds w A bs := by
    have := hs.rds.take bs.length
    rwa [List.take_left] at this
  have hle := hs.le
  rw [hl] at hle
  exact ⟨⟨hr, by omega, hs.nil⟩, hs.rds, hle⟩
theorem over_lent {w : World} {A : Option Addr} {c base : Nat} {bs : List UInt8} (h : w.ownsRow base 5 1 (.slice A (bs.length + 12) c) (bs.length + 12) (byts (bs ++ marks 12))) (hn : bs.length ≤ 140737488351232) :
    Calls Try.prog 42 #[.slice A bs.length c] w (Overs w (.slice A (bs.length + 12) c)) := by
  rcases h.2 with ⟨_, h0⟩ | ⟨g, cap, cur, hv, _, hg, h1, h2, h3, _⟩
  · omega
  · injection hv with e1 e2 e3
    subst e1 e3
    exact over_some w g bs.length c _ (by omega) h2 hn rfl cur hg (by omega)
end Go.Proofs.Ytgpnnnjhcjjnmaa
