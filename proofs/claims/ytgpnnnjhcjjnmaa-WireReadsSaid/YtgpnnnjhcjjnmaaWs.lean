/-
  WireReads: the state of its rounds.
-/
import Derived.Test.YtgpnnnjhcjjnmaaOw
import Derived.Test.YtgpnnnjhcjjnmaaE14
import Derived.Test.YtgpnnnjhcjjnmaaRn
import Derived.Test.YtgpnnnjhcjjnmaaM1
import Derived.Test.YtgpnnnjhcjjnmaaK1
namespace Go.Proofs.Ytgpnnnjhcjjnmaa
open Go.RowKit

/-- Rows of two kinds lie in different blocks. -/
theorem own_own_ne {w : World} {b b' n n' sz sz' : Nat} {t t' : TypeId} {v v' : Value} {xs xs' : List Value} (h : w.ownsRow b t sz v n xs) (h' : w.ownsRow b' t' sz' v' n' xs') (ht : t ≠ t') (i : Nat) (hi : v.ownBlock = some i) : v'.ownBlock ≠ some i := by
  rcases h'.2 with ⟨rfl, _⟩ | ⟨g, cap, cur, rfl, _, hg, _⟩
  · simp [Value.ownBlock]
  · intro e
    obtain rfl : g = i := by simpa [Value.ownBlock] using e
    exact own_blk_ne h (show Blk w g t' cur from hg) ht hi

structure RS (W w : World) (gr : Nat) (vr : Value) (bs : List UInt8) (k : Nat) (f : Bool) (kx : Nat) (fx : Bool) (gx : Nat) (A : Option Addr) (c g5 c5 : Nat) (V : Value) (q : Nat) (vs : Nat → Value) (ns : Nat → Nat) (cs : Nat → List UInt8) : Prop where
  rd : Rd w gr vr bs k f
  x : Blk w gx 75 #[.slice A bs.length c, .int .i64 (kx : Int), .bool fx]
  frm : Frm No W w
  br : W.heap.size ≤ gr
  bx : W.heap.size ≤ gx
  row : w.ownsRow W.heap.size 22 1 V q ((List.range q).map vs)
  duo : Duo w W.heap.size q vs ns cs vs ns cs
  lng : ∀ j, j < q → ns j ≤ 131072
  lent : ∃ zs, w.ownsRow W.heap.size 5 1 (.slice (some ⟨g5, 0, none⟩) bs.length c5) bs.length (byts zs)
  far : ∀ j, j < q → (vs j).ownBlock ≠ some g5

section
variable {W w w' : World} {gr gx : Nat} {vr : Value} {bs : List UInt8} {k k' kx kx' : Nat} {f f' fx fx' : Bool} {A : Option Addr} {c g5 c5 q : Nat} {V V' : Value} {vs : Nat → Value} {ns : Nat → Nat} {cs : Nat → List UInt8}

theorem Duo.fr {S : Nat → Prop} {base m : Nat} (h : Duo w base m vs ns cs vs ns cs) (hf : Frm S w w') (hS : ∀ j, j < m → ∀ i, (vs j).ownBlock = some i → ¬ S i) : Duo w' base m vs ns cs vs ns cs :=
  ⟨fun j hj => hf.own (h.own j hj) (hS j hj), fun j hj => hf.own (h.long j hj) (hS j hj), h.pre, h.apart⟩

theorem RS.no (h : RS W w gr vr bs k f kx fx gx A c g5 c5 V q vs ns cs) (hf : Frm No w w') : RS W w' gr vr bs k f kx fx gx A c g5 c5 V q vs ns cs :=
  ⟨h.rd.frm hf (fun x => x) (fun _ _ x => x), h.x.frm hf (fun x => x), h.frm.new0 hf, h.br, h.bx, hf.own h.row (fun _ _ x => x), h.duo.no hf, h.lng, h.lent.imp fun _ hz => hf.own hz (fun _ _ x => x), h.far⟩

/-- The program's reader has gone on. -/
theorem RS.read (h : RS W w gr vr bs k f kx fx gx A c g5 c5 V q vs ns cs) (hr : Rd w' gr vr bs k' f') (hf : Frm (One gr) w w') : RS W w' gr vr bs k' f' kx fx gx A c g5 c5 V q vs ns cs :=
  ⟨hr, h.x.frm hf (fun e => blk_apart h.x h.rd.blk (by decide) e), h.frm.new1 hf h.br, h.br, h.bx,
    hf.own h.row (fun i hi e => own_blk_ne h.row h.rd.blk (by decide) (by rw [hi]; exact congrArg some e)),
    h.duo.fr hf (fun j hj i hi e => own_blk_ne (h.duo.own j hj) h.rd.blk (by decide) (by rw [hi]; exact congrArg some e)), h.lng,
    h.lent.imp fun _ hz => hf.own hz (fun i hi e => own_blk_ne hz h.rd.blk (by decide) (by rw [hi]; exact congrArg some e)), h.far⟩

/-- The document's reader is stored. -/
theorem RS.stored (h : RS W w gr vr bs k f kx fx gx A c g5 c5 V q vs ns cs) (kx' : Nat) (fx' : Bool) :
    RS W (((w.setCell ⟨gx, 0, none⟩ (.slice A bs.length c)).setCell ⟨gx, 1, none⟩ (.int .i64 (kx' : Int))).setCell ⟨gx, 2, none⟩ (.bool fx')) gr vr bs k f kx' fx' gx A c g5 c5 V q vs ns cs := by
  have F1 : Frm (One gx) w (((w.setCell ⟨gx, 0, none⟩ (.slice A bs.length c)).setCell ⟨gx, 1, none⟩ (.int .i64 (kx' : Int))).setCell ⟨gx, 2, none⟩ (.bool fx')) := ((((Frm.refl _ w).set1 0 _).set1 1 _).set1 2 _)
  refine ⟨h.rd.frm F1 (fun e => blk_apart h.rd.blk h.x (by decide) e) (fun i hi e => own_blk_ne h.rd.own h.x (by decide) (by rw [hi]; exact congrArg some e)), ?_, h.frm.new1 F1 h.bx, h.br, h.bx,
    F1.own h.row (fun i hi e => own_blk_ne h.row h.x (by decide) (by rw [hi]; exact congrArg some e)),
    h.duo.fr F1 (fun j hj i hi e => own_blk_ne (h.duo.own j hj) h.x (by decide) (by rw [hi]; exact congrArg some e)), h.lng,
    h.lent.imp fun _ hz => F1.own hz (fun i hi e => own_blk_ne hz h.x (by decide) (by rw [hi]; exact congrArg some e)), h.far⟩
  simpa using ((h.x.set_ 0 (.slice A bs.length c)).set_ 1 (.int .i64 (kx' : Int))).set_ 2 (.bool fx')

theorem duo_push {base b m : Nat} {got : Value} {xs : List UInt8} {l : List Value} (hd : Duo w base q vs ns cs vs ns cs) (hr : w.ownsRow base 22 1 V q l) (F1 : Frm (fun i => V.ownBlock = some i) w w')
    (hb : base ≤ b) (hg : w.ownsRow b 5 1 got m (byts xs)) (hne : ∀ j, j < q → ∀ i, (vs j).ownBlock = some i → got.ownBlock ≠ some i) :
    Duo w' base (q + 1) (upd vs q got) (upd ns q m) (upd cs q xs) (upd vs q got) (upd ns q m) (upd cs q xs) := by
  have hO : ∀ j, j < q + 1 → w'.ownsRow base 5 1 (upd vs q got j) (upd ns q m j) (byts (upd cs q xs j)) := by
    intro j hj
    by_cases e : j = q
    · subst e
      rw [upd_same, upd_same, upd_same]
      exact own_mono (F1.own hg (fun i hi e => own_own_ne hg hr (by decide) i hi e)) hb
    · rw [upd_other _ _ e, upd_other _ _ e, upd_other _ _ e]
      exact F1.own (hd.own j (by omega)) (fun i hi e => own_own_ne (hd.own j (by omega)) hr (by decide) i hi e)
  have hN : ∀ i j, i < q + 1 → j < q + 1 → i ≠ j → ∀ a, (upd vs q got i).ownBlock = some a → (upd vs q got j).ownBlock ≠ some a := by
    intro i j hi hj hij a h1 h2
    by_cases e1 : i = q
    · subst e1
      have e2 : j ≠ i := fun e => hij e.symm
      rw [upd_same] at h1
      rw [upd_other _ _ e2] at h2
      exact hne j (by omega) a h2 h1
    · rw [upd_other _ _ e1] at h1
      by_cases e2 : j = q
      · subst e2
        rw [upd_same] at h2
        exact hne i (by omega) a h1 h2
      · rw [upd_other _ _ e2] at h2
        exact hd.apart i j (by omega) (by omega) hij a (.inl h1) (.inl h2)
  exact ⟨hO, hO, fun _ _ => List.prefix_refl _, fun i j hi hj hij a h1 h2 => hN i j hi hj hij a (h1.elim id id) (h2.elim id id)⟩
theorem range_push (vs : Nat → Value) (q : Nat) (got : Value) : (List.range (q + 1)).map (upd vs q got) = (List.range q).map vs ++ [got] := by
  rw [List.range_succ, List.map_append, List.map_singleton, upd_same]
  congr 1
  exact List.map_congr_left fun j hj => upd_other _ _ (by have := List.mem_range.1 hj; omega)

/-- Own rows keep their bytes when the document's reader is stored. -/
theorem RS.keeps (h : RS W w gr vr bs k f kx fx gx A c g5 c5 V q vs ns cs) {b m : Nat} {u : Value} {xs : List UInt8} (ho : w.ownsRow b 5 1 u m (byts xs)) (kx' : Nat) (fx' : Bool) :
    (((w.setCell ⟨gx, 0, none⟩ (.slice A bs.length c)).setCell ⟨gx, 1, none⟩ (.int .i64 (kx' : Int))).setCell ⟨gx, 2, none⟩ (.bool fx')).ownsRow b 5 1 u m (byts xs) := by
  have F1 : Frm (One gx) w (((w.setCell ⟨gx, 0, none⟩ (.slice A bs.length c)).setCell ⟨gx, 1, none⟩ (.int .i64 (kx' : Int))).setCell ⟨gx, 2, none⟩ (.bool fx')) := ((((Frm.refl _ w).set1 0 _).set1 1 _).set1 2 _)
  exact F1.own ho (fun i hi e => own_blk_ne ho h.x (by decide) (by rw [hi]; exact congrArg some e))

theorem news22 (w : World) (v : Value) : ∀ (j : Nat) (u : Value), [v][j]? = some u → (w.alloc (.cells #[v] 22)).cell? ((⟨w.heap.size, 0, none⟩ : Addr).add j) = some u := by
  intro j u hu
  have hj : j = 0 := by
    have := (List.getElem?_eq_some_iff.1 hu).1
    simp at this
    omega
  subst hj
  simp at hu
  subst hu
  exact (Blk.new w 22 #[v]).cell 0

/-- What was read joins the list. -/
theorem RS.push (h : RS W w gr vr bs k f kx fx gx A c g5 c5 V q vs ns cs) {b m : Nat} {got : Value} {xs : List UInt8} {o : Obj} (hb : W.heap.size ≤ b) (hg : w.ownsRow b 5 1 got m (byts xs)) (hm : m ≤ 131072)
    (h5 : got.ownBlock ≠ some g5) (hne : ∀ j, j < q → ∀ i, (vs j).ownBlock = some i → got.ownBlock ≠ some i)
    (hrow : w'.ownsRow W.heap.size 22 1 V' (q + 1) ((List.range q).map vs ++ [got])) (hgr : (w.alloc o).grownBy w' V.ownBlock) :
    RS W w' gr vr bs k f kx fx gx A c g5 c5 V' (q + 1) (upd vs q got) (upd ns q m) (upd cs q xs) := by
  have F1 : Frm (fun i => V.ownBlock = some i) w w' := ((Frm.refl (fun i => V.ownBlock = some i) w).alloc o).trans (Frm.of_grown hgr) (fun i _ e => e)
  refine ⟨h.rd.frm F1 (fun e => own_blk_ne h.row h.rd.blk (by decide) e) (fun i hi e => own_own_ne h.rd.own h.row (by decide) i hi e), h.x.frm F1 (own_blk_ne h.row h.x (by decide)), h.frm.trans F1 (fun i hi e => by have := (own_lt h.row e).1; omega), h.br, h.bx, ?_,
    duo_push h.duo h.row F1 hb hg hne, ?_, h.lent.imp fun _ hz => F1.own hz (fun i hi e => own_own_ne hz h.row (by decide) i hi e), ?_⟩
  · rw [range_push]
    exact hrow
  · intro j hj
    by_cases e : j = q
    · subst e
      rw [upd_same]
      exact hm
    · rw [upd_other _ _ e]
      exact h.lng j (by omega)
  · intro j hj
    by_cases e : j = q
    · subst e
      rw [upd_same]
      exact h5
    · rw [upd_other _ _ e]
      exact h.far j (by omega)
/-- The end: the list and what was lent share no memory. -/
theorem RS.fin (h : RS W w gr vr bs k f kx fx gx A c g5 c5 V q vs ns cs) {o : Obj} (hq : q ≤ 100) (hn : bs.length ≤ 131072)
    (hrow : w'.ownsRow W.heap.size 22 1 V' (q + 1) ((List.range q).map vs ++ [.slice (some ⟨g5, 0, none⟩) bs.length c5])) (hgr : (w.alloc o).grownBy w' V.ownBlock) :
    Calls Try.prog 46 #[V'] w' fun e w'' => e = .returned (.bool true) ∧ Frm No W w'' := by
  have F1 : Frm (fun i => V.ownBlock = some i) w w' := ((Frm.refl (fun i => V.ownBlock = some i) w).alloc o).trans (Frm.of_grown hgr) (fun i _ e => e)
  obtain ⟨zs, hz⟩ := h.lent
  have hD := duo_push h.duo h.row F1 (Nat.le_refl _) hz (fun j hj i hi e => h.far j hj (by rw [hi]; exact e.symm ▸ rfl))
  have hW : Frm No W w' := h.frm.trans F1 (fun i hi e => by have := (own_lt h.row e).1; omega)
  rw [← range_push] at hrow
  obtain ⟨g, k', rfl⟩ := own_some hrow (by omega)
  have hL := lst_of_range hrow
  refine (apart_many w' (q + 1) W.heap.size g k' _ _ _ (by omega) (by omega) (fun j hj => ?_) hL.1 hD hW.size).mono fun e w'' ⟨he, hf⟩ => ⟨he, hW.trans hf (fun i hi ⟨j, hj, e⟩ => ?_)⟩
  · by_cases e : j = q
    · subst e
      rw [upd_same]
      omega
    · rw [upd_other _ _ e]
      have := h.lng j (by omega)
      omega
  · have := (own_lt (hD.own j hj) e).1
    omega
end
end Go.Proofs.Ytgpnnnjhcjjnmaa
