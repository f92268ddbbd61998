/-
  Writers: Set16.
-/
import Derived.Test.YtgpnnnjhcjjnmaaW3
namespace Go.Proofs.Ytgpnnnjhcjjnmaa
open Go.RowKit

theorem size5 : (Try.prog.info? 5).map (·.size) = some 1 := by kernel_rfl

/-- copy into a row that is known whole, as a step of a region that draws: the world written out. -/
theorem step_copy_row {P : Program} {ops : Array Oper} {o : Oper} {a : Act} {w : World} {K : Act → World → Prop} {Q : Exit → Act → World → Prop} {E : Prop} (hgd : o.guard = none) (d s : Operand) (dT sT : TypeId)
    (ho : o.op = .call { callee := .builtin .copy, args := #[d, s], argTypes := #[dT, sT] }) (elem : TypeId) (hu : P.underlying dT = some (.slice elem)) (hsz : (P.info? elem).map (·.size) = some 1)
    (g off dLen dCap : Nat) (ad : Addr) (sLen sCap : Nat) (hd : a.eval d = .slice (some ⟨g, off, none⟩) dLen dCap) (hs : a.eval s = .slice (some ad) sLen sCap)
    (cur : Array Value) (t : TypeId) (hg : w.heap[g]? = some (.cells cur t (0, 0))) (cs : List Value) (hn : cs.length = Nat.min sLen dLen)
    (hsrc : ∀ j v, cs[j]? = some v → w.cell? (ad.add j) = some v) (hfit : off + cs.length ≤ cur.size) (h1 : ∀ v ∈ cs, v.oneCell' = true)
    (h : K (a.put o.dst (goInt cs.length)) (w.setRow g (cur.toList.take off ++ (cs ++ cur.toList.drop (off + cs.length))).toArray)) :
    if Region.wanted o (yielded ops a.tmps) = true then Oper.wp P o a w K Q else E := by
  have hw : Region.wanted o (yielded ops a.tmps) = true := by simp [Region.wanted, hgd]
  rw [if_pos hw]
  have hrun := run_copy_row (P := P) w dT sT o.type elem g off dLen dCap ad sLen sCap cur t cs hu hsz hg hn hsrc hfit h1
  unfold Oper.wp
  simp [execOp, ho, resolve, invoke, builtin, hd, hs, hrun, Result.andThen]
  exact h

theorem Frm.setRow {S : Nat → Prop} {w w' : World} (h : Frm S w w') {b : Nat} (hb : b < w.heap.size → S b) (cs : Array Value) : Frm S w (w'.setRow b cs) :=
  ⟨h.os, h.tape, h.output, by simpa [World.setRow] using h.size, fun i hi hS => (setRow_other w' b i cs (by
    rintro rfl
    exact hS (hb hi))).trans (h.block i hi hS)⟩

theorem Src.some_ {w : World} {A : Option Addr} {c : Nat} {xs : List UInt8} (h : Src w A c xs) (h0 : 0 < xs.length) : ∃ ad, A = some ad ∧ ∀ j u, (byts xs)[j]? = some u → w.cell? (ad.add j) = some u := by
  obtain ⟨ad, e, hc⟩ := h.rds h0
  exact ⟨ad, e, hc⟩

/-- Can two bytes be set at k? -/
def sfits (bs : List UInt8) (f : Bool) (k : Int) : Bool := !f && decide (0 ≤ k) && decide (k ≤ (bs.length : Int) - 2)
def setTwo (bs : List UInt8) (k x : Nat) : List UInt8 := bs.take k ++ digs 2 x ++ bs.drop (k + 2)
theorem setTwo_len (bs : List UInt8) (k x : Nat) (h : k + 2 ≤ bs.length) : (setTwo bs k x).length = bs.length := by
  simp [setTwo, digs_len]; omega

theorem set_row (bs : List UInt8) (k x : Nat) (h : k + 2 ≤ bs.length) (L : List Value) (hL : L.take bs.length = byts bs) :
    (L.take k ++ (byts (digs 2 x) ++ L.drop (k + (byts (digs 2 x)).length))).take bs.length = byts (setTwo bs k x) := by
  have e0 : L = byts bs ++ L.drop bs.length := by rw [← hL, List.take_append_drop]
  have e1 : L.take k = byts (bs.take k) := by rw [e0, List.take_append_of_le_length (by rw [byts_len]; omega)]; simp [byts]
  have e2 : L.drop (k + 2) = byts (bs.drop (k + 2)) ++ L.drop bs.length := by
    conv => lhs; rw [e0]
    rw [List.drop_append_of_le_length (by rw [byts_len]; omega)]
    simp [byts]
  rw [byts_len, digs_len, e1, e2, ← List.append_assoc, ← List.append_assoc]
  have e3 : byts (bs.take k) ++ byts (digs 2 x) ++ byts (bs.drop (k + 2)) = byts (setTwo bs k x) := by simp [byts, setTwo]
  rw [e3, ← setTwo_len bs k x h, ← byts_len (setTwo bs k x)]
  exact List.take_left

/-- What Set16 leaves. -/
def SDone (w : World) (g : Nat) (v : Value) (m : Nat) (bs : List UInt8) (f : Bool) (k : Int) (x : Nat) (e : Ending) (w' : World) : Prop :=
  e = .returned (.tuple #[]) ∧ Wr w' g v m (if sfits bs f k = true then setTwo bs k.toNat x else bs) (!sfits bs f k) ∧ Frm (Two g v) w w'

section
variable {w w' : World} {g : Nat} {v : Value} {bs : List UInt8} {m : Nat} {f : Bool}

set_option maxRecDepth 100000 in
set_option maxHeartbeats 400000 in
theorem set_failed (h : Wr w g v m bs true) (k : Int) (x : Nat) : Calls Try.prog 24 #[.pointer (some ⟨g, 0, none⟩), .int .i64 k, .int .u16 (x : Int)] w (SDone w g v m bs true k x) := by
  have H := Lib.hid h
  clear h
  go_enter Try.func24, Try.ntmps24
  go_wp2_with (go_at_call 35; refine (wFailed H.out).mono ?_; rintro e w' ⟨rfl, rfl⟩)
  go_end0
  exact ⟨rfl, by simpa [sfits] using H.out, Frm.refl _ _⟩

set_option maxRecDepth 100000 in
set_option maxHeartbeats 400000 in
theorem set_no (h : Wr w g v m bs false) (k : Int) (x : Nat) (hk : k < 0 ∨ (bs.length : Int) - 2 < k) : Calls Try.prog 24 #[.pointer (some ⟨g, 0, none⟩), .int .i64 k, .int .u16 (x : Int)] w (SDone w g v m bs false k x) := by
  obtain ⟨A, c, hv, _, hnc, hc, hr, _⟩ := own_form h.own
  have h2 : w.cell? ⟨g, 2, none⟩ = some (.slice A bs.length c) := by rw [h.blk.cell, ← hv]; rfl
  have h3 : w.cell? ⟨g, 3, none⟩ = some (.bool false) := by rw [h.blk.cell]; rfl
  have f3 := h.blk.frozen 3
  have hs : sfits bs false k = false := by simp [sfits]; omega
  have hle := h.le
  have hsm := h.small
  have hfin : SDone w g v m bs false k x (.returned (.tuple #[])) (w.setCell ⟨g, 3, none⟩ (.bool true)) :=
    ⟨rfl, by rw [hs]; exact h.put_ true, ((Frm.refl _ w).set1 3 _).more (Two.one w)⟩
  have HFIN := Lib.hid hfin
  have H := Lib.hid h
  clear h hv hr hc hs hfin
  by_cases hneg : k < 0
  · go_enter Try.func24, Try.ntmps24
    go_wp2_with (go_at_call 35; refine (wFailed H.out).mono ?_; rintro e w' ⟨rfl, rfl⟩)
    go_end0
    exact HFIN.out
  · have hbig : (bs.length : Int) - 2 < k := by omega
    clear hk
    go_enter Try.func24, Try.ntmps24
    go_wp2_with (go_at_call 35; refine (wFailed H.out).mono ?_; rintro e w' ⟨rfl, rfl⟩)
    go_end0
    exact HFIN.out

theorem set_end {w2 : World} {k x b cap : Nat} {cur : Array Value} (h : Wr w g v m bs false) (hv : v = .slice (some ⟨b, 0, none⟩) bs.length cap) (hg : w.heap[b]? = some (.cells cur 5 (0, 0))) (hn : bs.length ≤ cap) (hm : cap ≤ maxLen) (hcs : cur.size = cap)
    (ht : cur.toList.take bs.length = byts bs) (hk : k + 2 ≤ bs.length) (hf : Frm No w.drew w2) :
    SDone w g v m bs false k x (.returned (.tuple #[])) (w2.setRow b (cur.toList.take k ++ (byts (digs 2 x) ++ cur.toList.drop (k + (byts (digs 2 x)).length))).toArray) := by
  have hf1 : Frm No w w2 := ⟨hf.os, hf.tape, hf.output, hf.size, hf.block⟩
  have hb : v.ownBlock = some b := by rw [hv]; rfl
  have hgb : g ≠ b := fun e => h.ne (by rw [hb, e])
  have hg2 : w2.heap[b]? = some (.cells cur 5 (0, 0)) := (hf1.block b (lt_heap hg) (fun x => x)).trans hg
  have hs : sfits bs false (k : Int) = true := by simp [sfits]; omega
  have hle := h.le
  refine ⟨rfl, ?_, (hf1.of_no _).setRow (fun _ => .inr hb) _⟩
  rw [hs]
  simp only [if_true, Int.toNat_natCast, Bool.not_true]
  refine ⟨(setRow_other w2 b g _ hgb).trans (h.blk.frm hf1 (fun x => x)), ?_, by rw [setTwo_len bs k x hk]; exact hle, h.small⟩
  rw [setTwo_len bs k x hk]
  refine ⟨by rw [byts_len, setTwo_len bs k x hk, Nat.mul_one], .inr ⟨b, cap, _, hv, Nat.zero_le _, setRow_heap w2 b cur _ 5 _ hg2, hn, hm, ?_, ?_⟩⟩
  · simp [byts_len, digs_len]; omega
  · rw [Nat.mul_one]
    exact set_row bs k x hk cur.toList ht

set_option maxRecDepth 100000 in
set_option maxHeartbeats 1000000 in
theorem set_yes (h : Wr w g v m bs false) (k x : Nat) (hx : x < 65536) (hk : k + 2 ≤ bs.length) : Calls Try.prog 24 #[.pointer (some ⟨g, 0, none⟩), .int .i64 (k : Int), .int .u16 (x : Int)] w (SDone w g v m bs false k x) := by
  have hl := h.own.1
  rw [byts_len] at hl
  rcases h.own.2 with ⟨hv, h0⟩ | ⟨b, cap, cur, hv, _, hg, hn, hm, hcs, htake⟩
  · omega
  rw [Nat.mul_one] at hcs htake
  have h2 : w.cell? ⟨g, 2, none⟩ = some (.slice (some ⟨b, 0, none⟩) bs.length cap) := by rw [h.blk.cell, ← hv]; rfl
  have hle := h.le
  have hsm := h.small
  have hlt := h.blk.lt
  have H := Lib.hid h
  have HV := Lib.hid hv
  have HG := Lib.hid hg
  have HT := Lib.hid htake
  have hck : ¬ cap = k := by omega
  have hkl : k ≤ bs.length := by omega
  have hlen : (byts (digs 2 x)).length = Nat.min (digs 2 x).length (bs.length - k) := by
    rw [byts_len, digs_len]
    show 2 = min 2 (bs.length - k)
    omega
  have hfit2 : k + (byts (digs 2 x)).length ≤ cur.size := by rw [byts_len, digs_len]; omega
  have HLEN := Lib.hid hlen
  have HFIT := Lib.hid hfit2
  clear hlen hfit2
  clear h hv hg htake hl
  go_enter Try.func24, Try.ntmps24
  go_wp2_with (go_at_call 35; refine (wFailed H.out).mono ?_; rintro e w' ⟨rfl, rfl⟩)
  go_region_law (first | (refine step_copy_row rfl (.tmp 28) (.tmp 30) 22 22 rfl 5 Try.underlying22 size5 b k (bs.length - k) (cap - k) ad (digs 2 x).length c2 rfl rfl cur 5 HG2.out (byts (digs 2 x)) HLEN.out HS2.out HFIT.out (byts_one _) ?_) | (go_simp; go_at_call 62; refine (split16 _ x hx).mono ?_; rintro e w2 ⟨y, rfl, hy, hf⟩; obtain ⟨A2, c2, rfl, hn2, hs2, hb2⟩ := Src.of_own hy; obtain ⟨ad, rfl, hsrc⟩ := hs2.some_ (by rw [digs_len]; omega); have hc2 : w2.cell? ⟨g, 2, none⟩ = some (.slice (some ⟨b, 0, none⟩) bs.length cap) := (hf.cell (p := ⟨g, 2, none⟩) hlt (fun x => x)).trans h2; have HG2 := Lib.hid ((hf.block b (lt_heap HG.out) (fun x => x)).trans HG.out); have HS2 := Lib.hid hsrc; have HF2 := Lib.hid hf; clear hy hs2 hb2 hsrc hf hn2))
  all_goals
    go_end0
    exact set_end H.out HV.out HG.out hn hm hcs HT.out hk HF2.out

theorem wSet16 (h : Wr w g v m bs f) (k : Int) (x : Nat) (hx : x < 65536) : Calls Try.prog 24 #[.pointer (some ⟨g, 0, none⟩), .int .i64 k, .int .u16 (x : Int)] w (SDone w g v m bs f k x) := by
  cases f with
  | true => exact set_failed h k x
  | false =>
    by_cases hk : k < 0 ∨ (bs.length : Int) - 2 < k
    · exact set_no h k x hk
    · obtain ⟨n, rfl⟩ := Int.eq_ofNat_of_zero_le (by omega : 0 ≤ k)
      exact set_yes h n x hx (by omega)
end
end Go.Proofs.Ytgpnnnjhcjjnmaa
