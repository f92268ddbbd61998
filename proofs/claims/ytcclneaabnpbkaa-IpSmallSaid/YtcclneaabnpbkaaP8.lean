/-
  The bytes of a header, with no checksum yet: unchecked.
-/
import Derived.Test.YtcclneaabnpbkaaP7
import Derived.Deep.LoopGhost
namespace Go.Proofs.Ytcclneaabnpbkaa
open Go.RowKit
attribute [local go_sem] undef

/-- A header's numbers; its options are told apart. -/
structure Hd where
  tos : Nat
  id : Nat
  df : Bool
  mf : Bool
  off : Nat
  ttl : Nat
  pro : Nat
  src : Nat
  dst : Nat

structure Hd.Ok (h : Hd) : Prop where
  tos : h.tos < 256
  id : h.id < 65536
  off : h.off ≤ 65528
  ttl : h.ttl < 256
  pro : h.pro < 256
  src : h.src < 4294967296
  dst : h.dst < 4294967296

def b4 (x : Nat) : List UInt8 := [hiB (x / 65536), loB (x / 65536), hiB (x % 65536), loB (x % 65536)]
/-- The first twenty bytes, with no checksum. -/
def first20 (h : Hd) (z tot : Nat) : List UInt8 :=
  [UInt8.ofNat (64 + z / 4), UInt8.ofNat h.tos, hiB tot, loB tot, hiB h.id, loB h.id, hiB (plcOf h.off h.df h.mf), loB (plcOf h.off h.df h.mf), UInt8.ofNat h.ttl, UInt8.ofNat h.pro, 0, 0] ++ b4 h.src ++ b4 h.dst
def bare (h : Hd) (opts : List UInt8) (n : Nat) : List UInt8 := first20 h (20 + opts.length) (20 + opts.length + n) ++ opts

theorem step_copy_row {P : Program} {ops : Array Oper} {o : Oper} {a : Act} {w : World} {K : Act → World → Prop} {Q : Exit → Act → World → Prop} {E : Prop} (hgd : o.guard = none) (d s : Operand) (dT sT : TypeId)
    (ho : o.op = .call { callee := .builtin .copy, args := #[d, s], argTypes := #[dT, sT] }) (elem : TypeId) (hu : P.underlying dT = some (.slice elem)) (hsz : (P.info? elem).map (·.size) = some 1)
    (g off dLen dCap : Nat) (ad : Addr) (sLen sCap : Nat) (hd : a.eval d = .slice (some ⟨g, off, none⟩) dLen dCap) (hs : a.eval s = .slice (some ad) sLen sCap)
    (cur : Array Value) (t : TypeId) (hg : w.heap[g]? = some (.cells cur t (0, 0))) (cs : List Value) (hn : cs.length = Nat.min sLen dLen)
    (hsrc : ∀ j v, cs[j]? = some v → w.cell? (ad.add j) = some v) (hfit : off + cs.length ≤ cur.size) (h1 : ∀ v ∈ cs, v.oneCell' = true)
    (h : K (a.put o.dst (goInt cs.length)) (w.setRow g (cur.toList.take off ++ (cs ++ cur.toList.drop (off + cs.length))).toArray)) :
    if Region.wanted o (yielded ops a.tmps) = true then Oper.wp P o a w K Q else E := by
  have hw : Region.wanted o (yielded ops a.tmps) = true := by simp [Region.wanted, hgd]
  rw [if_pos hw]
  have hrun := run_copy_row (P := P) w dT sT o.type elem g off dLen dCap ad sLen sCap cur t cs hu hsz hg hn hsrc hfit h1
  unfold Oper.wp
  simp [execOp, ho, resolve, invoke, builtin, hd, hs, hrun, Result.andThen]
  exact h
theorem step_copy_nothing {P : Program} {ops : Array Oper} {o : Oper} {a : Act} {w : World} {K : Act → World → Prop} {Q : Exit → Act → World → Prop} {E : Prop} (hgd : o.guard = none) (d s : Operand) (dT sT : TypeId)
    (ho : o.op = .call { callee := .builtin .copy, args := #[d, s], argTypes := #[dT, sT] }) (elem : TypeId) (hu : P.underlying dT = some (.slice elem)) (hsz : (P.info? elem).map (·.size) = some 1)
    (D A : Option Addr) (dLen dCap sLen sCap : Nat) (hd : a.eval d = .slice D dLen dCap) (hs : a.eval s = .slice A sLen sCap) (hn : Nat.min sLen dLen = 0)
    (h : K (a.put o.dst (goInt 0)) w) :
    if Region.wanted o (yielded ops a.tmps) = true then Oper.wp P o a w K Q else E := by
  have hw : Region.wanted o (yielded ops a.tmps) = true := by simp [Region.wanted, hgd]
  rw [if_pos hw]
  have hrun := run_copy_none (P := P) w dT sT o.type elem D A dLen dCap sLen sCap hu hsz hn
  unfold Oper.wp
  simp [execOp, ho, resolve, invoke, builtin, hd, hs, hrun, Result.andThen]
  exact h

theorem Frm.setRow {S : Nat → Prop} {w w' : World} (h : Frm S w w') {b : Nat} (hb : b < w.heap.size → S b) (cs : Array Value) : Frm S w (w'.setRow b cs) :=
  ⟨h.os, h.tape, h.output, by simpa [World.setRow] using h.size, fun i hi hS => (setRow_other w' b i cs (by
    rintro rfl
    exact hS (hb hi))).trans (h.block i hi hS)⟩
theorem size5 : (Try.prog.info? 5).map (·.size) = some 1 := by kernel_rfl

theorem u8_lt (x : Nat) (h : x < 256) : ((UInt8.ofNat x).toNat : Int) = x := by rw [UInt8.toNat_ofNat']; omega
theorem or64 (q : Nat) (h : q < 64) : bits .or .u8 64 (q : Int) = ((64 + q : Nat) : Int) := by
  have := u8_or_nat 64 q (by omega) (by omega)
  rw [show ((64 : Nat) : Int) = 64 from rfl] at this
  rw [this]
  have h3 := Nat.two_pow_add_eq_or_of_lt (i := 6) (b := q) (by omega) 1
  rw [show 2 ^ 6 * 1 = 64 from rfl] at h3
  rw [← h3]

/-- A row whose bytes are known from the front of the block on: a copy behind the first twenty. -/
theorem row_copied {w : World} {base g z : Nat} {c : Nat} {xs ys : List UInt8} {cur : Array Value} (h : Row w base g z c (xs ++ List.replicate ys.length 0)) (hx : xs.length = 20) (hg : w.heap[g]? = some (.cells cur 5 (0, 0))) :
    Row (w.setRow g (cur.toList.take 20 ++ (byts ys ++ cur.toList.drop (20 + (byts ys).length))).toArray) base g z c (xs ++ ys) := by
  have hl := h.len
  simp only [List.length_append, List.length_replicate] at hl
  rcases h.2 with ⟨h', _⟩ | ⟨g', cap, cur', h', hb, hgg, hnc, hcm, hcs, htake⟩
  · simp at h'
  · simp only [Value.slice.injEq, Option.some.injEq, Addr.mk.injEq, and_true, true_and] at h'
    obtain ⟨rfl, rfl⟩ := h'
    rw [hg] at hgg
    injection hgg with hgg
    injection hgg with hgg
    subst hgg
    rw [Nat.mul_one] at htake hcs
    have hzc : z ≤ cur.size := by omega
    have h20 : (cur.toList.take z).take 20 = byts xs := by
      rw [htake]
      simp only [byts, List.map_append]
      rw [List.take_append_of_le_length (by simp; omega)]
      rw [List.take_of_length_le (by simp; omega)]
    rw [List.take_take, Nat.min_eq_left (by omega)] at h20
    refine ⟨by rw [byts_len]; simp; omega, .inr ⟨g, c, _, rfl, hb, setRow_heap w g cur _ 5 _ hg, hnc, hcm, ?_, ?_⟩⟩
    · simp [byts_len]
      omega
    · rw [h20, Nat.mul_one]
      have e : byts xs ++ (byts ys ++ cur.toList.drop (20 + (byts ys).length)) = byts (xs ++ ys) ++ cur.toList.drop (20 + (byts ys).length) := by simp [byts]
      rw [e, show z = (byts (xs ++ ys)).length from by rw [byts_len]; simp; omega]
      exact List.take_left

def BareEnds (h : Hd) (opts : List UInt8) (n z : Nat) (w : World) (e : Ending) (w' : World) : Prop :=
  ∃ g c, e = .returned (.slice (some ⟨g, 0, none⟩) z c) ∧ Row w' w.heap.size g z c (bare h opts n) ∧ Frm No w w'

set_option maxRecDepth 100000 in
set_option maxHeartbeats 8000000 in
theorem bare_any (w : World) (tos id : Nat) (df mf : Bool) (off ttl pro src dst : Nat) (ok : Hd.Ok ⟨tos, id, df, mf, off, ttl, pro, src, dst⟩) (A : Option Addr) (o c n : Nat) (opts : List UInt8) (ho : opts.length = o) (hr : Rds w A opts) (ho4 : o ≤ 40) (hn : n ≤ 65535) (ht : 20 + o + n ≤ 65535) (hc : o ≤ c) :
    Calls Try.prog 37 #[.agg #[.int .u8 (tos : Int), .int .u16 (id : Int), .bool df, .bool mf, .int .i64 (off : Int), .int .u8 (ttl : Int), .int .u8 (pro : Int), .int .u32 (src : Int), .int .u32 (dst : Int), .slice A o c], .int .i64 (n : Int)] w (BareEnds ⟨tos, id, df, mf, off, ttl, pro, src, dst⟩ opts n (20 + o) w) := by
  have o1 : tos < 256 := ok.tos
  have o2 : id < 65536 := ok.id
  have o3 : off ≤ 65528 := ok.off
  have o4 : ttl < 256 := ok.ttl
  have o5 : pro < 256 := ok.pro
  have o6 : src < 4294967296 := ok.src
  have o7 : dst < 4294967296 := ok.dst
  obtain ⟨z, hz⟩ : ∃ z, z = 20 + o := ⟨_, rfl⟩
  obtain ⟨q, hq⟩ : ∃ q, q = z / 4 := ⟨_, rfl⟩
  have q1 : (z : Int) / 4 = q := by omega
  have q2 : IntKind.i64.wrap (q : Int) = q := by rw [IntWalk.i64_in] <;> omega
  have q3 : IntKind.u8.wrap (q : Int) = q := by
    have e : IntKind.u8.wrap (q : Int) = (q : Int) % 256 := rfl
    rw [e]; omega
  have q4 := or64 q (by omega)
  have q5 : (q : Int) < 100 := by omega
  have q6 : (0 : Int) ≤ (q : Int) := by omega
  obtain ⟨v, hv⟩ : ∃ v : Nat, v = 64 + q := ⟨_, rfl⟩
  rw [← hv] at q4
  obtain ⟨tt, htt⟩ : ∃ t : Nat, t = z + n := ⟨_, rfl⟩
  have t1 : IntKind.i64.wrap ((z : Int) + n) = (tt : Int) := by rw [IntWalk.i64_in] <;> omega
  have t2 : IntKind.u16.wrap (tt : Int) = tt := by
    have e : IntKind.u16.wrap (tt : Int) = (tt : Int) % 65536 := rfl
    rw [e]; omega
  have HS := Lib.hid (fun W => size_any W (tos : Int) (id : Int) (off : Int) (ttl : Int) (pro : Int) (src : Int) (dst : Int) df mf A o c z hz (by omega))
  have HP := Lib.hid (fun W => place_any W (tos : Int) (id : Int) (ttl : Int) (pro : Int) (src : Int) (dst : Int) off df mf A o c o3)
  have hp16 : plcOf off df mf < 65536 := by unfold plcOf; cases df <;> cases mf <;> simp <;> omega
  have HBE := Lib.hid (fun (w' : World) (g c' : Nat) (hR : Row w' w.heap.size g z c' (bare ⟨tos, id, df, mf, off, ttl, pro, src, dst⟩ opts n)) (hF : Frm No w w') => (⟨g, c', by rw [hz], by rw [hz] at hR; exact hR, hF⟩ : BareEnds ⟨tos, id, df, mf, off, ttl, pro, src, dst⟩ opts n (20 + o) w (.returned (.slice (some ⟨g, 0, none⟩) z c')) w'))
  have HB : Hid (bare ⟨tos, id, df, mf, off, ttl, pro, src, dst⟩ opts n = [UInt8.ofNat v, UInt8.ofNat tos, hiB tt, loB tt, hiB id, loB id, hiB (plcOf off df mf), loB (plcOf off df mf), UInt8.ofNat ttl, UInt8.ofNat pro, 0, 0] ++ b4 src ++ b4 dst ++ opts) := by
    show _ = _
    unfold bare first20
    rw [ho, ← hz, ← hq, ← hv, ← htt]
  obtain ⟨pl, hpl⟩ : ∃ p, plcOf off df mf = p := ⟨_, rfl⟩
  unfold U16No at HP
  rw [hpl] at HP hp16 HB
  have hmk : ∀ w, (Instr.makeSlice 22 (.int .i64 (z : Int)) (.int .i64 (z : Int))).run Try.prog w = .ok (.slice (some ⟨w.heap.size, 0, none⟩) z z) (w.alloc (.cells (byts (List.replicate z 0)).toArray 5)) := make_bytes z z (Nat.le_refl _) (by omega)
  obtain ⟨Z, hZ⟩ : ∃ Z, Z = (byts (List.replicate z 0)).toArray := ⟨_, rfl⟩
  rw [← hZ] at hmk
  have HR0 : Hid (∀ (W : World) (base : Nat), base ≤ W.heap.size → Row (W.alloc (.cells Z 5)) base W.heap.size z z ([0, 0, 0, 0, 0, 0, 0, 0, 0, 0, 0, 0, 0, 0, 0, 0, 0, 0, 0, 0] ++ List.replicate o 0)) := by
    intro W base hb
    rw [hZ]
    have := row_made W base z (List.replicate z 0) (by simp) hb (by omega)
    have e : List.replicate z (0 : UInt8) = [0, 0, 0, 0, 0, 0, 0, 0, 0, 0, 0, 0, 0, 0, 0, 0, 0, 0, 0, 0] ++ List.replicate o 0 := by
      rw [hz, ← List.replicate_append_replicate]
      rfl
    unfold Row
    rw [← e]
    exact this
  have hzo : Hid (z = 20 + o) := hz
  have z0 : (0 : Int) < z := by omega
  have z1 : (1 : Int) < z := by omega
  have z8 : (8 : Int) < z := by omega
  have z9 : (9 : Int) < z := by omega
  have z20 : (20 : Int) ≤ z := by omega
  have zn : 20 ≤ z := by omega
  have HO := Lib.hid ho
  have HRD := Lib.hid hr
  have HV := Lib.hid hv
  have HT : Hid (tt < 65536) := by show tt < 65536; omega
  clear hz hq hv htt hpl ho hr hZ ok ht hn
  go_enter Try.func37, Try.ntmps37
  go_wp2_with fail
  refine (HS.out _).mono ?_
  rintro e w1 ⟨rfl, hf⟩
  have F1 := Lib.hid (((Frm.refl No w).alloc _).new0 hf)
  have T1 := Lib.hid ((Blk.new w 28 #[.int .u8 (tos : Int), .int .u16 (id : Int), .bool df, .bool mf, .int .i64 (off : Int), .int .u8 (ttl : Int), .int .u8 (pro : Int), .int .u32 (src : Int), .int .u32 (dst : Int), .slice A o c]).frm hf (fun x => x))
  clear hf
  have R1 := Lib.hid (HR0.out w1 w.heap.size F1.out.size)
  have F2 := Lib.hid (F1.out.alloc (.cells Z 5))
  have T2 := Lib.hid (T1.out.alloc (.cells Z 5))
  have hgb : w.heap.size < w1.heap.size := T1.out.lt
  obtain ⟨g, hg⟩ : ∃ g, g = w1.heap.size := ⟨_, rfl⟩
  have HG := Lib.hid hg
  obtain ⟨W2, hW2⟩ : ∃ W, W = w1.alloc (.cells Z 5) := ⟨_, rfl⟩
  go_upto_region 2 with fail
  rw [← hg] at R1
  rw [← hW2] at R1 F2 T2
  rw [← hW2, ← hg]
  have hgg : w.heap.size < g := by omega
  have hgn : ¬ g < w.heap.size := by omega
  have hgh : ¬ g = w.heap.size := by omega
  have hgh2 : ¬ w.heap.size = g := by omega
  have hN : ∀ i, i < w.heap.size → One g i → No i := fun i hi h => by have : i = g := h; omega
  have HN := Lib.hid hN
  clear hW2 hg F1 T1 hgb hmk HR0 hN
  obtain ⟨b0, b1, b2, b3, b4, b5, b6, b7, b8, b9⟩ := blk10 T2.out
  go_wp2_with fail
  refine (HS.out _).mono ?_
  rintro e w3 ⟨rfl, hf⟩
  have F3 := Lib.hid ((F2.out).new0 hf)
  have T3 := Lib.hid ((T2.out).frm hf (fun x => x))
  have R3 := Lib.hid ((R1.out).frm hf (fun x => x))
  clear hf
  clear b0 b1 b2 b3 b4 b5 b6 b7 b8 b9
  have c0 := (R3.out).cell 0 (by rw [(R3.out).len]; omega)
  have e0 := (R3.out).frozen 0
  have S0 := Lib.hid ((R3.out).set 0 (UInt8.ofNat v) (.int .u8 (v : Int)) (by rw [byt, u8_lt v (by have := HV.out; omega)]))
  have c1 := (S0.out).cell 1 (by rw [(S0.out).len]; omega)
  have e1 := (S0.out).frozen 1
  have S1 := Lib.hid ((S0.out).set 1 (UInt8.ofNat tos) (.int .u8 (tos : Int)) (by rw [byt, u8_lt tos o1]))
  obtain ⟨b0, b1, b2, b3, b4, b5, b6, b7, b8, b9⟩ := blk10 T3.out
  go_wp2_with fail
  refine (HS.out _).mono ?_
  rintro e w4 ⟨rfl, hf⟩
  have F4 := Lib.hid ((((F3.out).setCell (p := ⟨g, 0, none⟩) (fun hx => absurd hx hgn) (.int .u8 (v : Int))).setCell (p := ⟨g, 1, none⟩) (fun hx => absurd hx hgn) (.int .u8 (tos : Int))).new0 hf)
  have T4 := Lib.hid ((((T3.out).far (p := ⟨g, 0, none⟩) hgh2 (.int .u8 (v : Int))).far (p := ⟨g, 1, none⟩) hgh2 (.int .u8 (tos : Int))).frm hf (fun x => x))
  have R4 := Lib.hid ((S1.out).frm hf (fun x => x))
  clear hf
  clear b0 b1 b2 b3 b4 b5 b6 b7 b8 b9
  clear c0 e0 c1 e1
  obtain ⟨b0, b1, b2, b3, b4, b5, b6, b7, b8, b9⟩ := blk10 T4.out
  go_wp2_with fail
  refine (putW_any _ w.heap.size g z z _ 2 tt _ _ rfl rfl (by omega) HT.out (by omega) (R4.out)).mono ?_
  rintro e w5 ⟨rfl, hr, hf⟩
  have F5 := Lib.hid ((F4.out).trans hf HN.out)
  have T5 := Lib.hid ((T4.out).frm hf hgh2)
  have R5 := Lib.hid hr
  clear hf hr
  clear b0 b1 b2 b3 b4 b5 b6 b7 b8 b9
  obtain ⟨b0, b1, b2, b3, b4, b5, b6, b7, b8, b9⟩ := blk10 T5.out
  go_wp2_with fail
  refine (putW_any _ w.heap.size g z z _ 4 id _ _ rfl rfl (by omega) o2 (by omega) (R5.out)).mono ?_
  rintro e w6 ⟨rfl, hr, hf⟩
  have F6 := Lib.hid ((F5.out).trans hf HN.out)
  have T6 := Lib.hid ((T5.out).frm hf hgh2)
  have R6 := Lib.hid hr
  clear hf hr
  clear b0 b1 b2 b3 b4 b5 b6 b7 b8 b9
  obtain ⟨b0, b1, b2, b3, b4, b5, b6, b7, b8, b9⟩ := blk10 T6.out
  go_wp2_with fail
  refine (HP.out _).mono ?_
  rintro e w7 ⟨rfl, hf⟩
  have F7 := Lib.hid ((F6.out).new0 hf)
  have T7 := Lib.hid ((T6.out).frm hf (fun x => x))
  have R7 := Lib.hid ((R6.out).frm hf (fun x => x))
  clear hf
  clear b0 b1 b2 b3 b4 b5 b6 b7 b8 b9
  obtain ⟨b0, b1, b2, b3, b4, b5, b6, b7, b8, b9⟩ := blk10 T7.out
  go_wp2_with fail
  refine (putW_any _ w.heap.size g z z _ 6 pl _ _ rfl rfl (by omega) hp16 (by omega) (R7.out)).mono ?_
  rintro e w8 ⟨rfl, hr, hf⟩
  have F8 := Lib.hid ((F7.out).trans hf HN.out)
  have T8 := Lib.hid ((T7.out).frm hf hgh2)
  have R8 := Lib.hid hr
  clear hf hr
  clear b0 b1 b2 b3 b4 b5 b6 b7 b8 b9
  have c8 := (R8.out).cell 8 (by rw [(R8.out).len]; omega)
  have e8 := (R8.out).frozen 8
  have S8 := Lib.hid ((R8.out).set 8 (UInt8.ofNat ttl) (.int .u8 (ttl : Int)) (by rw [byt, u8_lt ttl o4]))
  have c9 := (S8.out).cell 9 (by rw [(S8.out).len]; omega)
  have e9 := (S8.out).frozen 9
  have S9 := Lib.hid ((S8.out).set 9 (UInt8.ofNat pro) (.int .u8 (pro : Int)) (by rw [byt, u8_lt pro o5]))
  obtain ⟨b0, b1, b2, b3, b4, b5, b6, b7, b8, b9⟩ := blk10 T8.out
  go_wp2_with fail
  refine (putA_any _ w.heap.size g z z _ 12 src _ _ rfl rfl (by omega) o6 (by omega) (S9.out)).mono ?_
  rintro e w10 ⟨rfl, hr, hf⟩
  have F10 := Lib.hid ((((F8.out).setCell (p := ⟨g, 8, none⟩) (fun hx => absurd hx hgn) (.int .u8 (ttl : Int))).setCell (p := ⟨g, 9, none⟩) (fun hx => absurd hx hgn) (.int .u8 (pro : Int))).trans hf HN.out)
  have T10 := Lib.hid ((((T8.out).far (p := ⟨g, 8, none⟩) hgh2 (.int .u8 (ttl : Int))).far (p := ⟨g, 9, none⟩) hgh2 (.int .u8 (pro : Int))).frm hf hgh2)
  have R10 := Lib.hid hr
  clear hf hr
  clear b0 b1 b2 b3 b4 b5 b6 b7 b8 b9
  clear c8 e8 c9 e9
  obtain ⟨b0, b1, b2, b3, b4, b5, b6, b7, b8, b9⟩ := blk10 T10.out
  go_wp2_with fail
  refine (putA_any _ w.heap.size g z z _ 16 dst _ _ rfl rfl (by omega) o7 (by omega) (R10.out)).mono ?_
  rintro e w11 ⟨rfl, hr, hf⟩
  have F11 := Lib.hid ((F10.out).trans hf HN.out)
  have T11 := Lib.hid ((T10.out).frm hf hgh2)
  have R11 := Lib.hid hr
  clear hf hr
  clear b0 b1 b2 b3 b4 b5 b6 b7 b8 b9
  have HL : Hid (Row w11 w.heap.size g z z ([UInt8.ofNat v, UInt8.ofNat tos, hiB tt, loB tt, hiB id, loB id, hiB pl, loB pl, UInt8.ofNat ttl, UInt8.ofNat pro, 0, 0] ++ b4 src ++ b4 dst ++ List.replicate o 0)) := R11.out
  have hcap := HL.out.cap
  obtain ⟨cur, hcur⟩ : ∃ cur, w11.heap[g]? = some (.cells cur 5 (0, 0)) := by
    rcases HL.out.2 with ⟨h', _⟩ | ⟨g', cap', cur', h', hb, hgg, _⟩
    · simp at h'
    · simp only [Value.slice.injEq, Option.some.injEq, Addr.mk.injEq, and_true, true_and] at h'
      obtain ⟨rfl, rfl⟩ := h'
      exact ⟨cur', hgg⟩
  have HC := Lib.hid hcur
  have hcs : Hid (cur.size = z) := by
    show cur.size = z
    rcases HL.out.2 with ⟨h', _⟩ | ⟨g', cap', cur', h', hb, hgg, _, _, hcs, _⟩
    · simp at h'
    · simp only [Value.slice.injEq, Option.some.injEq, Addr.mk.injEq, and_true, true_and] at h'
      obtain ⟨rfl, rfl⟩ := h'
      rw [hcur] at hgg
      injection hgg with hgg
      injection hgg with hgg
      subst hgg
      omega
  obtain ⟨b0, b1, b2, b3, b4, b5, b6, b7, b8, b9⟩ := blk10 T11.out
  have m4 : (20 : Int) ≤ z := by omega
  clear hcur hcap R11
  by_cases h0 : o = 0
  · have hop : opts = [] := List.eq_nil_of_length_eq_zero (by rw [HO.out]; exact h0)
    have hz20 : z = 20 := by rw [hzo.out, h0]
    subst hop h0
    subst hz20
    go_wp2_with fail
    go_region_law (refine step_copy_nothing rfl (.tmp 52) (.tmp 54) 22 22 rfl 5 Try.underlying22 size5 _ _ _ _ _ _ rfl rfl (by simp) ?_)
    go_wp2
    go_ret
    exact HBE.out _ g 20 (by rw [HB.out]; show Row w11 w.heap.size g 20 20 _; have := HL.out; simpa using this) F11.out.drew
  · have hzz : ¬ z = 20 := by have := hzo.out; omega
    obtain ⟨ad, rfl, hsrc⟩ : ∃ ad, A = some ad ∧ ∀ j u, (byts opts)[j]? = some u → w11.cell? (ad.add j) = some u := by
      obtain ⟨ad, e, hc⟩ := (HRD.out.frm F11.out (fun _ _ x => x)) (by rw [HO.out]; omega)
      exact ⟨ad, e, hc⟩
    have HSRC := Lib.hid hsrc
    have HLN : Hid ((byts opts).length = Nat.min o (z - 20)) := by show _ = _; rw [byts_len, HO.out, hzo.out]; simp
    have HFT : Hid (20 + (byts opts).length ≤ cur.size) := by show _ ≤ _; rw [byts_len, HO.out, hcs.out, hzo.out]; omega
    clear hsrc
    go_wp2_with fail
    go_region_law (refine step_copy_row rfl (.tmp 52) (.tmp 54) 22 22 rfl 5 Try.underlying22 size5 g 20 _ _ ad o c rfl rfl cur 5 HC.out (byts opts) HLN.out HSRC.out HFT.out (byts_one _) ?_)
    go_wp2
    go_ret
    exact HBE.out _ g z (by rw [HB.out]; exact row_copied (w := w11.drew) (by rw [HO.out]; exact HL.out) (by simp [Ytcclneaabnpbkaa.b4]) HC.out) (F11.out.drew.setRow (fun hx => absurd hx hgn) _)
end Go.Proofs.Ytcclneaabnpbkaa
