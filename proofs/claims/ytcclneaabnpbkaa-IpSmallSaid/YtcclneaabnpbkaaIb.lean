/-
  Read of a packet that was written, whatever follows; append onto a slice with no room.
-/
import Derived.Test.YtcclneaabnpbkaaMd
import Derived.Deep.RegionLaw
namespace Go.Proofs.Ytcclneaabnpbkaa
open Go.RowKit

def ReadFound (h : Hd) (o t : Nat) (opts : List UInt8) (w : World) (e : Ending) (w' : World) : Prop :=
  ∃ g c, e = .returned (.tuple #[hdVal h (.slice (some ⟨g, 0, none⟩) o c), .int .i64 ((20 + o : Nat) : Int), .int .i64 (t : Int), .int .i64 0]) ∧ Row w' w.heap.size g o c opts ∧ Frm No w w'

theorem read_found (w : World) (A : Option Addr) (n c : Nat) (L : List UInt8) (hn : L.length = n) (hc : n ≤ c) (h4 : n ≤ 140737488355328) (hr : Rds w A L) (h : Hd) (opts data : List UInt8) (F : Finds L h opts data) (o t : Nat) (ho : opts.length = o) (ht : t = 20 + o + data.length) :
    Calls Try.prog 18 #[.slice A n c] w (ReadFound h o t opts w) := by
  refine (read_ok w A n c L hn hc h4 hr F.nf).mono ?_
  rintro e w' ⟨g, k, rfl, hrow, hf⟩
  have hs := F.size
  have htt := F.tot
  have hh := F.hd
  have hop := F.opts
  have e1 : sizeAt L - 20 = o := by omega
  rw [e1] at hrow ⊢
  rw [hop] at hrow
  refine ⟨g, k, ?_, hrow, hf⟩
  subst hh
  rw [show sizeAt L = 20 + o by omega, show totAt L = t by omega]
  rfl

theorem own_caps {w : World} {base n c : Nat} {A : Option Addr} {bs : List UInt8} (h : w.ownsRow base 5 1 (.slice A n c) n (byts bs)) : n ≤ c ∧ (A = none → c = 0) ∧ Rds w A bs := by
  refine ⟨?_, ?_, Rds.of_own h⟩
  · rcases h.2 with ⟨hv, h0⟩ | ⟨g, cap, cur, hv, _, _, hnc, _⟩
    · omega
    · injection hv with _ _ h3
      omega
  · rintro rfl
    rcases h.2 with ⟨hv, h0⟩ | ⟨g, cap, cur, hv, _, _, hnc, _⟩
    · injection hv
    · injection hv with h1
      cases h1
theorem pkt_split (h : Hd) (opts data : List UInt8) : sumOf ((pkt h opts data).take (20 + opts.length)) = 65535 ∧ (pkt h opts data).drop (20 + opts.length) = data := by
  obtain ⟨c, _, hp, hs⟩ := pkt_form h opts data
  have hl : (head20 h (20 + opts.length) (20 + opts.length + data.length) c ++ opts).length = 20 + opts.length := by rw [List.length_append, head20_len]
  rw [hp]
  refine ⟨?_, ?_⟩
  · rw [List.take_append_of_le_length (by rw [hl]; omega), List.take_of_length_le (by rw [hl]; omega)]
    exact hs
  · rw [List.drop_append_of_le_length (by rw [hl]; omega), List.drop_of_length_le (by rw [hl]; omega)]
    rfl

def ReadFound2 (tos id : Nat) (hdf hmf : Bool) (off ttl pro src dst : Nat) (o z t : Nat) (opts : List UInt8) (w : World) (e : Ending) (w' : World) : Prop :=
  ∃ g c, e = .returned (.tuple #[.agg #[.int .u8 (tos : Int), .int .u16 (id : Int), .bool hdf, .bool hmf, .int .i64 (off : Int), .int .u8 (ttl : Int), .int .u8 (pro : Int), .int .u32 (src : Int), .int .u32 (dst : Int), .slice (some ⟨g, 0, none⟩) o c], .int .i64 (z : Int), .int .i64 (t : Int), .int .i64 0]) ∧ Row w' w.heap.size g o c opts ∧ Frm No w w'
theorem read_found2 (w : World) (A : Option Addr) (n c : Nat) (L : List UInt8) (hn : L.length = n) (hc : n ≤ c) (h4 : n ≤ 140737488355328) (hr : Rds w A L) (tos id : Nat) (hdf hmf : Bool) (off ttl pro src dst : Nat) (opts data : List UInt8) (F : Finds L ⟨tos, id, hdf, hmf, off, ttl, pro, src, dst⟩ opts data) (o z t : Nat) (ho : opts.length = o) (hz : z = 20 + o) (ht : t = 20 + o + data.length) :
    Calls Try.prog 18 #[.slice A n c] w (ReadFound2 tos id hdf hmf off ttl pro src dst o z t opts w) := by
  subst hz
  exact read_found w A n c L hn hc h4 hr _ opts data F o t ho ht

theorem Finds.lens {L : List UInt8} {h : Hd} {opts data : List UInt8} (F : Finds L h opts data) : 20 + opts.length + data.length ≤ L.length := by
  have := F.nf.sizes
  rw [← F.tot]
  omega

theorem step_append_run {P : Program} {ops : Array Oper} {o : Oper} {a : Act} {w : World} {K : Act → World → Prop} {Q : Exit → Act → World → Prop} {E : Prop} (hgd : o.guard = none) (s x : Operand) (t t' : TypeId)
    (ho : o.op = .call { callee := .builtin .append, args := #[s, x], argTypes := #[t, t'] }) (v u v' : Value) (w' : World) (hs : a.eval s = v) (hx : a.eval x = u)
    (hrun : (Builtin.append_ #[t, t'] o.type #[v, u]).run P w = .ok v' w') (h : K (a.put o.dst v') w') :
    if Region.wanted o (yielded ops a.tmps) = true then Oper.wp P o a w K Q else E := by
  have hw : Region.wanted o (yielded ops a.tmps) = true := by simp [Region.wanted, hgd]
  rw [if_pos hw]
  unfold Oper.wp execOp
  simp only [ho, resolve, invoke, builtin, Sem.run_bind, Sem.run_pure, Result.andThen_ok, List.map_toArray, List.map_cons, List.map_nil, hs, hx, hrun]
  exact h

/-- An append onto a slice whose capacity is its length. -/
theorem run_append_full (w : World) (ty : TypeId) (ad : Addr) (N : Nat) (bs : List UInt8) (hN : bs.length = N) (h : Rds w (some ad) bs) (A : Option Addr) (m c : Nat) (ys : List UInt8) (hm : ys.length = m) (hr : Rds w A ys) (hb : N + m ≤ 70000) :
    ∃ ad' c' w', (Builtin.append_ #[22, 22] ty #[.slice (some ad) N N, .slice A m c]).run Try.prog w = .ok (.slice (some ad') (N + m) c') w' ∧ N + m ≤ c' ∧ Rds w' (some ad') (bs ++ ys) ∧ Frm No w w' := by
  obtain ⟨i0, hi, hz0, hz1, hz2⟩ := info_parts info5
  by_cases h0 : m = 0
  · subst h0
    obtain rfl : ys = [] := List.eq_nil_of_length_eq_zero hm
    refine ⟨ad, N, w, ?_, by omega, by simpa using h, Frm.refl _ _⟩
    cases A with
    | none => simp [Builtin.append_, run_underlying Try.underlying22, sizeOf, typeInfo, hi, Builtin.lenOf, Builtin.firstCells, storeCells]
    | some a =>
      have hf := run_firstCells_some (P := Try.prog) w 1 0 a 0 c [] rfl (fun j u hu => by simp at hu)
      simp [Builtin.append_, run_underlying Try.underlying22, sizeOf, typeInfo, hi, hz1, Builtin.lenOf, hf, storeCells]
  · obtain ⟨ad2, rfl, _⟩ := hr (by omega)
    have hr2 := run_append_grow (P := Try.prog) w 22 ty 5 i0 (.int .u8 0) Try.underlying22 hi hz0 ad N N (byts bs) (by rw [hz1, byts_len]; omega) h.news ad2 m c (byts ys) (by rw [hz1, byts_len]; omega) hr.news (by omega) (by omega) (growslice_fits (by omega) (by rw [hz2]; omega))
    refine ⟨_, _, _, hr2, grownCap_ge _ _ _ _, ?_, ⟨rfl, rfl, rfl, by simp, fun k hk _ => heap_alloc_old w.drew _ hk⟩⟩
    intro _
    refine ⟨_, rfl, fun j u hu => ?_⟩
    have hcell := (Blk.new w.drew 5 ((byts bs).toArray ++ (byts ys).toArray ++ Builtin.zeroCells (Value.cells (.int .u8 0)) (grownCap w (N + m) N 5 - (N + m)))).cell j
    have e : ((byts bs).toArray ++ (byts ys).toArray ++ Builtin.zeroCells (Value.cells (.int .u8 0)) (grownCap w (N + m) N 5 - (N + m)))[j]? = some u := by
      have hj : j < (byts (bs ++ ys)).length := (List.getElem?_eq_some_iff.1 hu).1
      have e2 : byts (bs ++ ys) = byts bs ++ byts ys := by simp [byts]
      rw [e2] at hu hj
      rw [Array.getElem?_append_left (by simpa using hj)]
      simpa using hu
    rw [e] at hcell
    rw [← hcell]
    have ea : (⟨w.heap.size, 0, none⟩ : Addr).add j = ⟨w.heap.size, j, none⟩ := by
      unfold Addr.add
      by_cases h0 : j = 0
      · subst h0; rfl
      · simp [h0]
    rw [ea]
    rfl
end Go.Proofs.Ytcclneaabnpbkaa
