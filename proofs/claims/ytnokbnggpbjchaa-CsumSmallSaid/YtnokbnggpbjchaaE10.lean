/-
  The state of flatBytes' rounds, and its appends.
-/
import Derived.Test.YtnokbnggpbjchaaE8
namespace Go.Proofs.Ytnokbnggpbjchaa
open Go.RowKit

theorem Two.drew {w : World} {base m : Nat} {vs : Nat → Value} {ns : Nat → Nat} {cs : Nat → List UInt8} {ls : Nat → Value} {ms : Nat → Nat} {ds : Nat → List UInt8}
    (h : Two w base m vs ns cs ls ms ds) : Two w.drew base m vs ns cs ls ms ds := ⟨h.own, h.long, h.pre, h.apart⟩
theorem Lst.drew {w : World} {p m : Nat} {vs : Nat → Value} (h : Lst w p m vs) : Lst w.drew p m vs := h
theorem Lst.far {w : World} {p m g : Nat} {vs : Nat → Value} (h : Lst w p m vs) (hpg : p ≠ g) (i : Nat) (u : Value) : Lst (w.setCell ⟨g, i, none⟩ u) p m vs := by
  obtain ⟨cur, hb, hc⟩ := h
  exact ⟨cur, hb.far hpg u, hc⟩
theorem Two.alloc {w : World} {base m : Nat} {vs : Nat → Value} {ns : Nat → Nat} {cs : Nat → List UInt8} {ls : Nat → Value} {ms : Nat → Nat} {ds : Nat → List UInt8}
    (h : Two w base m vs ns cs ls ms ds) (o : Obj) : Two (w.alloc o) base m vs ns cs ls ms ds := ⟨fun k hk => (h.own k hk).alloc _, fun k hk => (h.long k hk).alloc _, h.pre, h.apart⟩
theorem Lst.alloc {w : World} {p m : Nat} {vs : Nat → Value} (h : Lst w p m vs) (o : Obj) : Lst (w.alloc o) p m vs := by
  obtain ⟨cur, hb, hc⟩ := h
  exact ⟨cur, hb.alloc _, hc⟩

def Own (m : Nat) (vs : Nat → Value) (i : Nat) : Prop := ∃ k, k < m ∧ (vs k).ownBlock = some i

structure Big (w0 w : World) (base m p G : Nat) (vs : Nat → Value) (ns : Nat → Nat) (ls : Nat → Value) (ms : Nat → Nat) (ds : Nat → List UInt8) (cur : Array Value) : Prop where
  two : Two w base m vs ns (fun k => mk k (ns k)) ls ms ds
  lst : Lst w p m vs
  lng : Blk w G 22 cur
  new : w0.heap.size ≤ G
  frm : Frm (Own m vs) w0 w
  own : ∀ k, k < m → ∀ i, (ls k).ownBlock = some i → w0.heap.size ≤ i ∨ Own m vs i

section
variable {w0 w w' : World} {base m p G : Nat} {vs : Nat → Value} {ns : Nat → Nat} {ls : Nat → Value} {ms : Nat → Nat} {ds : Nat → List UInt8} {cur : Array Value}

theorem Big.alloc (h : Big w0 w base m p G vs ns ls ms ds cur) (o : Obj) : Big w0 (w.alloc o) base m p G vs ns ls ms ds cur :=
  ⟨h.two.alloc o, h.lst.alloc o, h.lng.alloc o, h.new, h.frm.alloc o, h.own⟩
theorem Big.drew (h : Big w0 w base m p G vs ns ls ms ds cur) : Big w0 w.drew base m p G vs ns ls ms ds cur :=
  ⟨h.two.drew, h.lst.drew, h.lng.drew, h.new, h.frm.drew, h.own⟩

theorem Big.app (h : Big w0 w base m p G vs ns ls ms ds cur) (k : Nat) (hk : k < m) (q : Nat) (ys : List UInt8) (g cap : Nat)
    (hown : w'.ownsRow base 5 1 (.slice (some ⟨g, 0, none⟩) (ms k + q) cap) (ms k + q) (byts (ds k ++ ys))) (hkeep : Keeps w (ls k) (ms k) g cap w') :
    Big w0 w' base m p G vs ns (upd ls k (.slice (some ⟨g, 0, none⟩) (ms k + q) cap)) (upd ms k (ms k + q)) (upd ds k (ds k ++ ys)) cur := by
  have htwo := h.two.app k hk q ys g cap hown hkeep
  rcases hkeep with ⟨hl, hgr⟩ | ⟨hg, hgr⟩
  · have hlb : (ls k).ownBlock = some g := by rw [hl]; rfl
    have hf := Frm.of_grown hgr
    have hp : ¬ (some g = some p) := fun e => h.lst.ne (h.two.long k hk) (by rw [hlb, e])
    have hG : ¬ (some g = some G) := fun e => own_blk_ne (h.two.long k hk) h.lng (by decide) (by rw [hlb, e])
    refine ⟨htwo, h.lst.frm hf hp, h.lng.frm hf hG, h.new, h.frm.trans hf fun i hi hs => ?_, fun j hj i hi => ?_⟩
    · have hs' : some g = some i := hs
      rcases h.own k hk i (by rw [hlb, hs']) with h1 | h1
      · omega
      · exact h1
    · by_cases hjk : j = k
      · subst hjk
        rw [upd_same] at hi
        exact h.own j hj i (by rw [hlb]; exact hi)
      · rw [upd_other _ _ hjk] at hi
        exact h.own j hj i hi
  · have hf := Frm.of_grown hgr
    refine ⟨htwo, h.lst.frm hf (fun e => by cases e), h.lng.frm hf (fun e => by cases e), h.new, h.frm.trans hf fun i hi hs => (by cases hs), fun j hj i hi => ?_⟩
    by_cases hjk : j = k
    · subst hjk
      rw [upd_same] at hi
      have hi' : g = i := by simpa [Value.ownBlock] using hi
      have := h.frm.size
      left
      omega
    · rw [upd_other _ _ hjk] at hi
      exact h.own j hj i hi

theorem Big.put (h : Big w0 w base m p G vs ns ls ms ds cur) (i : Nat) (u : Value) (hpG : p ≠ G) : Big w0 (w.setCell ⟨G, i, none⟩ u) base m p G vs ns ls ms ds (cur.setIfInBounds i u) := by
  have hv : ∀ k, k < m → (vs k).ownBlock ≠ some G := fun k hk => own_blk_ne (h.two.own k hk) h.lng (by decide)
  have hl : ∀ k, k < m → (ls k).ownBlock ≠ some G := fun k hk => own_blk_ne (h.two.long k hk) h.lng (by decide)
  have hn := h.new
  exact ⟨⟨fun k hk => ownsRow_setCell_other (h.two.own k hk) (hv k hk) _, fun k hk => ownsRow_setCell_other (h.two.long k hk) (hl k hk) _, h.two.pre, h.two.apart⟩,
    h.lst.far hpG _ _, h.lng.set_ _ _, h.new, h.frm.setCell (p := ⟨G, i, none⟩) (fun hlt => by have h1 : G < w0.heap.size := hlt; omega) _, h.own⟩
end

/-- append to the row that stands in Two. -/
theorem wpList_append_keep {ops : Array Oper} {rest : List Oper} {o : Oper} {a : Act} {w : World} {Q : Exit → Act → World → Prop} (hgd : o.guard = none) (s x : Operand)
    (ho : o.op = .call { callee := .builtin .append, args := #[s, x], argTypes := #[22, 22] })
    (base : Nat) (v : Value) (n : Nat) (xs : List UInt8) (hs : a.eval s = v) (hown : w.ownsRow base 5 1 v n (byts xs))
    (ad : Addr) (m c : Nat) (ys : List UInt8) (hx : a.eval x = .slice (some ad) m c) (hl : ys.length = m) (hnews : ∀ j u, (byts ys)[j]? = some u → w.cell? (ad.add j) = some u) (hm : 0 < m)
    (hbytes : n + m ≤ 140737488355328) (hbase : base ≤ w.heap.size)
    (h : ∀ g cap w', w'.ownsRow base 5 1 (.slice (some ⟨g, 0, none⟩) (n + m) cap) (n + m) (byts (xs ++ ys)) → Keeps w v n g cap w' → wpList Try.prog ops Q rest (a.put o.dst (.slice (some ⟨g, 0, none⟩) (n + m) cap)) w') : wpList Try.prog ops Q (o :: rest) a w := by
  refine wpList_plain hgd fun K hK => ?_
  obtain ⟨g, cap, w', hr, h1, h2⟩ := run_append_keep w base o.type v n xs hown ad m c ys hl hnews hm hbytes hbase
  unfold Oper.wp execOp
  simp only [ho, resolve, invoke, builtin, Sem.run_bind, Sem.run_pure, Result.andThen_ok, List.map_toArray, List.map_cons, List.map_nil, hs, hx, hr]
  exact hK _ _ (h g cap w' h1 h2)
end Go.Proofs.Ytnokbnggpbjchaa
