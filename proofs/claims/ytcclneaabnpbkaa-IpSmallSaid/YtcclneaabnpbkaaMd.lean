/-
  Made: a header and data that it is right for.
-/
import Derived.Test.YtcclneaabnpbkaaM1
import Derived.Test.YtcclneaabnpbkaaA2
import Derived.Deep.LoopGhost
import Derived.Deep.Cut
import Derived.Deep.CutRange
import Derived.Deep.CutBlock
import Derived.LoopN
namespace Go.Proofs.Ytcclneaabnpbkaa
open Go.RowKit
attribute [local go_sem] undef

theorem id_bits (a b : UInt8) : ∃ x : Nat, bits .or .u16 ((a.toNat : Int) * 256) (b.toNat : Int) = (x : Int) ∧ x < 65536 := ⟨word a b, or_word' a b, word_lt a b⟩
theorem conv32u (a : UInt8) : IntKind.u32.wrap (a.toNat : Int) = a.toNat := conv32 _ (by have := a.toNat_lt; omega)
theorem shl24 (a : UInt8) : IntKind.u32.wrap ((a.toNat : Int) * 16777216) = a.toNat * 16777216 := by
  have := a.toNat_lt
  have e : IntKind.u32.wrap ((a.toNat : Int) * 16777216) = ((a.toNat : Int) * 16777216) % 4294967296 := rfl
  rw [e]
  omega
theorem shl8 (a : UInt8) : IntKind.u32.wrap ((a.toNat : Int) * 256) = a.toNat * 256 := by
  have := a.toNat_lt
  have e : IntKind.u32.wrap ((a.toNat : Int) * 256) = ((a.toNat : Int) * 256) % 4294967296 := rfl
  rw [e]
  omega
theorem or_lt32 (x y : Nat) (hx : x < 4294967296) (hy : y < 4294967296) : ∃ z : Nat, bits .or .u32 (x : Int) (y : Int) = (z : Int) ∧ z < 4294967296 :=
  ⟨_, u32_or_nat x y hx hy, Nat.or_lt_two_pow (n := 32) hx hy⟩
theorem src_bits (a b : UInt8) : ∃ z : Nat, bits .or .u32 ((a.toNat : Int) * 16777216) ((b.toNat : Int) * 256) = (z : Int) ∧ z < 4294967296 := by
  have h1 := a.toNat_lt
  have h2 := b.toNat_lt
  have := or_lt32 (a.toNat * 16777216) (b.toNat * 256) (by omega) (by omega)
  simpa using this
theorem last_bits (z : Nat) (hz : z < 4294967296) (c : UInt8) : ∃ y : Nat, bits .or .u32 (z : Int) (c.toNat : Int) = (y : Int) ∧ y < 4294967296 := or_lt32 z c.toNat hz (by have := c.toNat_lt; omega)


theorem alen38 : Try.prog.arrayLen 38 = 12 := by kernel_rfl
theorem idx12 (b r : Nat) (hr : r < 12) (W : World) : (Instr.indexAt 38 (.pointer (some ⟨b, 0, none⟩)) (.int .i64 (r : Int))).run Try.prog W = .ok (.pointer (some ⟨b, r, none⟩)) W := by
  have h : Try.prog.underlying 38 = some (.array (Try.prog.arrayLen 38) (Try.prog.elem 38)) := by kernel_rfl
  rw [run_indexAt_array W 38 ⟨b, 0, none⟩ .i64 (r : Int) h, alen38, if_pos (by omega)]
  have hs : (sizeOf (Try.prog.elem 38)).run Try.prog W = .ok 1 W := by kernel_rfl
  rw [hs]
  simp only [Result.andThen, Int.toNat_natCast, Nat.mul_one]
  unfold Addr.add
  by_cases h0 : r = 0
  · subst h0; rfl
  · simp [h0]

theorem own_form {w : World} {base n : Nat} {v : Value} {bs : List UInt8} (h : w.ownsRow base 5 1 v n (byts bs)) : ∃ A c, v = .slice A n c ∧ n ≤ c ∧ (A = none → c = 0) ∧ Rds w A bs ∧ (∀ k, v.ownBlock = some k → base ≤ k ∧ k < w.heap.size) := by
  have h2 := fun k hk => World.ownsRow.lt h k hk
  rcases h.2 with ⟨rfl, h0⟩ | ⟨g, cap, cur, rfl, _, _, hnc, _⟩
  · subst h0
    exact ⟨none, 0, rfl, Nat.le_refl _, fun _ => rfl, Rds.of_own h, h2⟩
  · exact ⟨_, cap, rfl, hnc, (fun e => by cases e), Rds.of_own h, h2⟩

/-- The memory of Made, under way. -/
structure MS (w : World) (xb rb ab hb : Nat) (SC AC : Array Value) (Y : Value → Array Value) (V : Value) (wr : World) : Prop where
  frm : Frm No w wr
  bx : Blk wr xb 40 SC
  br : Blk wr rb 28 #[.int .u8 0, .int .u16 0, .bool false, .bool false, .int .i64 0, .int .u8 0, .int .u8 0, .int .u32 0, .int .u32 0, .slice none 0 0]
  ba : Blk wr ab 38 AC
  bh : Blk wr hb 28 (Y V)

theorem MS.frame {w : World} {xb rb ab hb : Nat} {SC AC : Array Value} {Y : Value → Array Value} {V : Value} {wr w2 : World} {S : Nat → Prop} (h : MS w xb rb ab hb SC AC Y V wr) (hf : Frm S wr w2) (h0 : ∀ i, i < w.heap.size → ¬ S i) (h1 : ¬ S xb) (h2 : ¬ S rb) (h3 : ¬ S ab) (h4 : ¬ S hb) : MS w xb rb ab hb SC AC Y V w2 :=
  ⟨h.frm.trans hf (fun i hi hs => (h0 i hi hs).elim), h.bx.frm hf h1, h.br.frm hf h2, h.ba.frm hf h3, h.bh.frm hf h4⟩

theorem MS.set9 {w : World} {xb rb ab hb : Nat} {SC AC : Array Value} {x0 x1 x2 x3 x4 x5 x6 x7 x8 V : Value} {wr : World} (h : MS w xb rb ab hb SC AC (fun V => #[x0, x1, x2, x3, x4, x5, x6, x7, x8, V]) V wr) (h0 : hb < w.heap.size → No hb) (h1 : ¬ rb = hb) (h2 : ¬ xb = hb) (h3 : ¬ ab = hb) (v : Value) :
    MS w xb rb ab hb SC AC (fun V => #[x0, x1, x2, x3, x4, x5, x6, x7, x8, V]) v (wr.setCell ⟨hb, 9, none⟩ v) :=
  ⟨h.frm.setCell (p := ⟨hb, 9, none⟩) h0 v, h.bx.far (p := ⟨hb, 9, none⟩) h2 v, h.br.far (p := ⟨hb, 9, none⟩) h1 v, h.ba.far (p := ⟨hb, 9, none⟩) h3 v, one10_9 h.bh v⟩

structure MadeOk (w : World) (H : Hd) (A D : Option Addr) (o c n k : Nat) (opts data : List UInt8) (w' : World) : Prop where
  ok : H.Ok
  ho : opts.length = o
  hn : data.length = n
  right : rightB o (H.off : Int) H.mf (n : Int) = true
  n80 : n ≤ 80
  own : w'.ownsRow w.heap.size 5 1 (.slice A o c) o (byts opts)
  ownD : w'.ownsRow w.heap.size 5 1 (.slice D n k) n (byts data)
  apart : ∀ i, blk A = some i → blk D ≠ some i
  frm : Frm No w w'
def hdVal (H : Hd) (V : Value) : Value := .agg #[.int .u8 (H.tos : Int), .int .u16 (H.id : Int), .bool H.df, .bool H.mf, .int .i64 (H.off : Int), .int .u8 (H.ttl : Int), .int .u8 (H.pro : Int), .int .u32 (H.src : Int), .int .u32 (H.dst : Int), V]
def MadeEnds (w : World) (e : Ending) (w' : World) : Prop :=
  ∃ H A D o c n k opts data, e = .returned (.tuple #[hdVal H (.slice A o c), .slice D n k]) ∧ MadeOk w H A D o c n k opts data w'

theorem blk_own {A : Option Addr} {n c i : Nat} (h : blk A = some i) : (Value.slice A n c).ownBlock = some i := by
  cases A with
  | none => cases h
  | some a => exact h
theorem MS.set4 {w : World} {xb rb ab hb : Nat} {SC AC : Array Value} {x0 x1 x2 x3 x4 x5 x6 x7 x8 V : Value} {wr : World} (h : MS w xb rb ab hb SC AC (fun V => #[x0, x1, x2, x3, x4, x5, x6, x7, x8, V]) V wr) (h0 : hb < w.heap.size → No hb) (h1 : ¬ rb = hb) (h2 : ¬ xb = hb) (h3 : ¬ ab = hb) (v : Value) :
    MS w xb rb ab hb SC AC (fun V => #[x0, x1, x2, x3, v, x5, x6, x7, x8, V]) V (wr.setCell ⟨hb, 4, none⟩ v) :=
  ⟨h.frm.setCell (p := ⟨hb, 4, none⟩) h0 v, h.bx.far (p := ⟨hb, 4, none⟩) h2 v, h.br.far (p := ⟨hb, 4, none⟩) h1 v, h.ba.far (p := ⟨hb, 4, none⟩) h3 v, one10_4 h.bh v⟩

theorem made_right (o off n : Nat) (mf : Bool) (h1 : o ≤ 40) (h2 : o % 4 = 0) (h3 : n ≤ 80) (h4 : off % 8 = 0) (h5 : n + off ≤ 65515) (h6 : mf = true → 0 < n ∧ n % 8 = 0) : rightB o (off : Int) mf (n : Int) = true := by
  unfold rightB holdsB reachesB dividesB
  simp only [Bool.and_eq_true, Bool.or_eq_true, decide_eq_true_eq, Bool.not_eq_true']
  refine ⟨⟨by omega, by omega⟩, ?_⟩
  cases mf with
  | false => exact .inl rfl
  | true => have := h6 rfl; exact .inr (by omega)

theorem u8_sum (a : UInt8) (k : Nat) : ∃ x : UInt8, IntKind.u8.wrap ((a.toNat : Int) + (k : Int)) = (x.toNat : Int) := by
  refine ⟨UInt8.ofNat (a.toNat + k), ?_⟩
  have e : IntKind.u8.wrap ((a.toNat : Int) + (k : Int)) = ((a.toNat : Int) + (k : Int)) % 256 := rfl
  rw [e, UInt8.toNat_ofNat']
  omega
def lenV : Value → Nat
  | .slice _ n _ => n
  | _ => 0

set_option maxRecDepth 100000 in
set_option maxHeartbeats 8000000 in
theorem made_any (w : World) (a0 a1 a2 a3 a4 a5 a6 a7 a8 a9 a10 a11 wd fr mn : UInt8) (df mf : Bool) (D : Option Addr) (dn dc : Nat) (ds : List UInt8) (hd : ds.length = dn) (hr : Rds w D ds) (hD : D = none → dc = 0) (hdc : dn ≤ dc) :
    Calls Try.prog 19 #[.agg #[.int .u8 (a0.toNat : Int), .int .u8 (a1.toNat : Int), .int .u8 (a2.toNat : Int), .int .u8 (a3.toNat : Int), .int .u8 (a4.toNat : Int), .int .u8 (a5.toNat : Int), .int .u8 (a6.toNat : Int), .int .u8 (a7.toNat : Int), .int .u8 (a8.toNat : Int), .int .u8 (a9.toNat : Int), .int .u8 (a10.toNat : Int), .int .u8 (a11.toNat : Int), .int .u8 (wd.toNat : Int), .int .u8 (fr.toNat : Int), .int .u8 (mn.toNat : Int), .bool df, .bool mf, .slice D dn dc]] w (MadeEnds w) := by
  obtain ⟨idn, i1, i2⟩ := id_bits a1 a2
  obtain ⟨s1, s2, s3⟩ := src_bits a5 a6
  obtain ⟨sr, s4, s5⟩ := last_bits s1 s3 a7
  obtain ⟨d1, d2, d3⟩ := src_bits a8 a9
  obtain ⟨dt, d4, d5⟩ := last_bits d1 d3 a10
  have k1 := conv16 a1
  have k2 := conv16 a2
  have k3 := shl16 a1
  have k5 := conv32u a5
  have k6 := conv32u a6
  have k7 := conv32u a7
  have k8 := conv32u a8
  have k9 := conv32u a9
  have k10 := conv32u a10
  have l5 := shl24 a5
  have l6 := shl8 a6
  have l8 := shl24 a8
  have l9 := shl8 a9
  have HRD := Lib.hid hr
  have HIN : Hid (idn < 65536 ∧ sr < 4294967296 ∧ dt < 4294967296) := ⟨i2, s5, d5⟩
  clear hr i2 s3 s5 d3 d5
  go_enter Try.func19, Try.ntmps19
  go_upto_region 3 with fail
  clear k1 k2 k3 k5 k6 k7 k8 k9 k10 l5 l6 l8 l9 i1 s2 s4 d2 d4
  obtain ⟨W1, hW1⟩ : ∃ W, W = (((w.alloc (.cells #[.int .u8 (a0.toNat : Int), .int .u8 (a1.toNat : Int), .int .u8 (a2.toNat : Int), .int .u8 (a3.toNat : Int), .int .u8 (a4.toNat : Int), .int .u8 (a5.toNat : Int), .int .u8 (a6.toNat : Int), .int .u8 (a7.toNat : Int), .int .u8 (a8.toNat : Int), .int .u8 (a9.toNat : Int), .int .u8 (a10.toNat : Int), .int .u8 (a11.toNat : Int), .int .u8 (wd.toNat : Int), .int .u8 (fr.toNat : Int), .int .u8 (mn.toNat : Int), .bool df, .bool mf, .slice D dn dc] 40)).alloc (.cells #[.int .u8 0, .int .u16 0, .bool false, .bool false, .int .i64 0, .int .u8 0, .int .u8 0, .int .u32 0, .int .u32 0, .slice none 0 0] 28)).alloc (.cells #[.int .u8 (a0.toNat : Int), .int .u8 (a1.toNat : Int), .int .u8 (a2.toNat : Int), .int .u8 (a3.toNat : Int), .int .u8 (a4.toNat : Int), .int .u8 (a5.toNat : Int), .int .u8 (a6.toNat : Int), .int .u8 (a7.toNat : Int), .int .u8 (a8.toNat : Int), .int .u8 (a9.toNat : Int), .int .u8 (a10.toNat : Int), .int .u8 (a11.toNat : Int)] 38)).alloc (.cells #[.int .u8 (a0.toNat : Int), .int .u16 (idn : Int), .bool df, .bool mf, .int .i64 0, .int .u8 (a3.toNat : Int), .int .u8 (a4.toNat : Int), .int .u32 (sr : Int), .int .u32 (dt : Int), .slice none 0 0] 28) := ⟨_, rfl⟩
  obtain ⟨xb, hxb⟩ : ∃ b, b = w.heap.size := ⟨_, rfl⟩
  obtain ⟨rb, hrb⟩ : ∃ b, b = w.heap.size + 1 := ⟨_, rfl⟩
  obtain ⟨ab, hab⟩ : ∃ b, b = w.heap.size + 1 + 1 := ⟨_, rfl⟩
  obtain ⟨hb, hhb⟩ : ∃ b, b = w.heap.size + 1 + 1 + 1 := ⟨_, rfl⟩
  have hsz1 : W1.heap.size = w.heap.size + 4 := by rw [hW1]; simp
  have M0 : Hid (MS w xb rb ab hb #[.int .u8 (a0.toNat : Int), .int .u8 (a1.toNat : Int), .int .u8 (a2.toNat : Int), .int .u8 (a3.toNat : Int), .int .u8 (a4.toNat : Int), .int .u8 (a5.toNat : Int), .int .u8 (a6.toNat : Int), .int .u8 (a7.toNat : Int), .int .u8 (a8.toNat : Int), .int .u8 (a9.toNat : Int), .int .u8 (a10.toNat : Int), .int .u8 (a11.toNat : Int), .int .u8 (wd.toNat : Int), .int .u8 (fr.toNat : Int), .int .u8 (mn.toNat : Int), .bool df, .bool mf, .slice D dn dc] #[.int .u8 (a0.toNat : Int), .int .u8 (a1.toNat : Int), .int .u8 (a2.toNat : Int), .int .u8 (a3.toNat : Int), .int .u8 (a4.toNat : Int), .int .u8 (a5.toNat : Int), .int .u8 (a6.toNat : Int), .int .u8 (a7.toNat : Int), .int .u8 (a8.toNat : Int), .int .u8 (a9.toNat : Int), .int .u8 (a10.toNat : Int), .int .u8 (a11.toNat : Int)] (fun V => #[.int .u8 (a0.toNat : Int), .int .u16 (idn : Int), .bool df, .bool mf, .int .i64 0, .int .u8 (a3.toNat : Int), .int .u8 (a4.toNat : Int), .int .u32 (sr : Int), .int .u32 (dt : Int), V]) (.slice none 0 0) W1) := by
    show MS _ _ _ _ _ _ _ _ _ _
    rw [hW1]
    refine ⟨((((Frm.refl No w).alloc _).alloc _).alloc _).alloc _, ?_, ?_, ?_, ?_⟩
    · rw [hxb]; exact (((Blk.new w 40 _).alloc _).alloc _).alloc _
    · rw [hrb]; have := (((Blk.new (w.alloc (.cells #[.int .u8 (a0.toNat : Int), .int .u8 (a1.toNat : Int), .int .u8 (a2.toNat : Int), .int .u8 (a3.toNat : Int), .int .u8 (a4.toNat : Int), .int .u8 (a5.toNat : Int), .int .u8 (a6.toNat : Int), .int .u8 (a7.toNat : Int), .int .u8 (a8.toNat : Int), .int .u8 (a9.toNat : Int), .int .u8 (a10.toNat : Int), .int .u8 (a11.toNat : Int), .int .u8 (wd.toNat : Int), .int .u8 (fr.toNat : Int), .int .u8 (mn.toNat : Int), .bool df, .bool mf, .slice D dn dc] 40)) 28 #[.int .u8 0, .int .u16 0, .bool false, .bool false, .int .i64 0, .int .u8 0, .int .u8 0, .int .u32 0, .int .u32 0, .slice none 0 0]).alloc (.cells #[.int .u8 (a0.toNat : Int), .int .u8 (a1.toNat : Int), .int .u8 (a2.toNat : Int), .int .u8 (a3.toNat : Int), .int .u8 (a4.toNat : Int), .int .u8 (a5.toNat : Int), .int .u8 (a6.toNat : Int), .int .u8 (a7.toNat : Int), .int .u8 (a8.toNat : Int), .int .u8 (a9.toNat : Int), .int .u8 (a10.toNat : Int), .int .u8 (a11.toNat : Int)] 38)).alloc (.cells #[.int .u8 (a0.toNat : Int), .int .u16 (idn : Int), .bool df, .bool mf, .int .i64 0, .int .u8 (a3.toNat : Int), .int .u8 (a4.toNat : Int), .int .u32 (sr : Int), .int .u32 (dt : Int), .slice none 0 0] 28)); simpa using this
    · rw [hab]; have := ((Blk.new ((w.alloc (.cells #[.int .u8 (a0.toNat : Int), .int .u8 (a1.toNat : Int), .int .u8 (a2.toNat : Int), .int .u8 (a3.toNat : Int), .int .u8 (a4.toNat : Int), .int .u8 (a5.toNat : Int), .int .u8 (a6.toNat : Int), .int .u8 (a7.toNat : Int), .int .u8 (a8.toNat : Int), .int .u8 (a9.toNat : Int), .int .u8 (a10.toNat : Int), .int .u8 (a11.toNat : Int), .int .u8 (wd.toNat : Int), .int .u8 (fr.toNat : Int), .int .u8 (mn.toNat : Int), .bool df, .bool mf, .slice D dn dc] 40)).alloc (.cells #[.int .u8 0, .int .u16 0, .bool false, .bool false, .int .i64 0, .int .u8 0, .int .u8 0, .int .u32 0, .int .u32 0, .slice none 0 0] 28)) 38 #[.int .u8 (a0.toNat : Int), .int .u8 (a1.toNat : Int), .int .u8 (a2.toNat : Int), .int .u8 (a3.toNat : Int), .int .u8 (a4.toNat : Int), .int .u8 (a5.toNat : Int), .int .u8 (a6.toNat : Int), .int .u8 (a7.toNat : Int), .int .u8 (a8.toNat : Int), .int .u8 (a9.toNat : Int), .int .u8 (a10.toNat : Int), .int .u8 (a11.toNat : Int)]).alloc (.cells #[.int .u8 (a0.toNat : Int), .int .u16 (idn : Int), .bool df, .bool mf, .int .i64 0, .int .u8 (a3.toNat : Int), .int .u8 (a4.toNat : Int), .int .u32 (sr : Int), .int .u32 (dt : Int), .slice none 0 0] 28)); simpa using this
    · rw [hhb]; have := (Blk.new (((w.alloc (.cells #[.int .u8 (a0.toNat : Int), .int .u8 (a1.toNat : Int), .int .u8 (a2.toNat : Int), .int .u8 (a3.toNat : Int), .int .u8 (a4.toNat : Int), .int .u8 (a5.toNat : Int), .int .u8 (a6.toNat : Int), .int .u8 (a7.toNat : Int), .int .u8 (a8.toNat : Int), .int .u8 (a9.toNat : Int), .int .u8 (a10.toNat : Int), .int .u8 (a11.toNat : Int), .int .u8 (wd.toNat : Int), .int .u8 (fr.toNat : Int), .int .u8 (mn.toNat : Int), .bool df, .bool mf, .slice D dn dc] 40)).alloc (.cells #[.int .u8 0, .int .u16 0, .bool false, .bool false, .int .i64 0, .int .u8 0, .int .u8 0, .int .u32 0, .int .u32 0, .slice none 0 0] 28)).alloc (.cells #[.int .u8 (a0.toNat : Int), .int .u8 (a1.toNat : Int), .int .u8 (a2.toNat : Int), .int .u8 (a3.toNat : Int), .int .u8 (a4.toNat : Int), .int .u8 (a5.toNat : Int), .int .u8 (a6.toNat : Int), .int .u8 (a7.toNat : Int), .int .u8 (a8.toNat : Int), .int .u8 (a9.toNat : Int), .int .u8 (a10.toNat : Int), .int .u8 (a11.toNat : Int)] 38)) 28 #[.int .u8 (a0.toNat : Int), .int .u16 (idn : Int), .bool df, .bool mf, .int .i64 0, .int .u8 (a3.toNat : Int), .int .u8 (a4.toNat : Int), .int .u32 (sr : Int), .int .u32 (dt : Int), .slice none 0 0]); simpa using this
  rw [← hW1, ← hhb, ← hab, ← hrb, ← hxb]
  have hx1 : w.heap.size ≤ xb ∧ xb < W1.heap.size := by omega
  have hr1 : w.heap.size ≤ rb ∧ rb < W1.heap.size := by omega
  have ha1 : w.heap.size ≤ ab ∧ ab < W1.heap.size := by omega
  have hh1 : w.heap.size ≤ hb ∧ hb < W1.heap.size := by omega
  have hne : ¬ rb = hb ∧ ¬ hb = rb ∧ ¬ xb = hb ∧ ¬ ab = hb ∧ ¬ xb = rb ∧ ¬ ab = rb := by omega
  clear hxb hrb hab hhb hW1
  obtain ⟨SC, hSC⟩ : ∃ S : Array Value, S = #[.int .u8 (a0.toNat : Int), .int .u8 (a1.toNat : Int), .int .u8 (a2.toNat : Int), .int .u8 (a3.toNat : Int), .int .u8 (a4.toNat : Int), .int .u8 (a5.toNat : Int), .int .u8 (a6.toNat : Int), .int .u8 (a7.toNat : Int), .int .u8 (a8.toNat : Int), .int .u8 (a9.toNat : Int), .int .u8 (a10.toNat : Int), .int .u8 (a11.toNat : Int), .int .u8 (wd.toNat : Int), .int .u8 (fr.toNat : Int), .int .u8 (mn.toNat : Int), .bool df, .bool mf, .slice D dn dc] := ⟨_, rfl⟩
  obtain ⟨AC, hAC⟩ : ∃ S : Array Value, S = #[.int .u8 (a0.toNat : Int), .int .u8 (a1.toNat : Int), .int .u8 (a2.toNat : Int), .int .u8 (a3.toNat : Int), .int .u8 (a4.toNat : Int), .int .u8 (a5.toNat : Int), .int .u8 (a6.toNat : Int), .int .u8 (a7.toNat : Int), .int .u8 (a8.toNat : Int), .int .u8 (a9.toNat : Int), .int .u8 (a10.toNat : Int), .int .u8 (a11.toNat : Int)] := ⟨_, rfl⟩
  rw [← hSC, ← hAC] at M0
  have SX : Hid (SC[12]? = some (.int .u8 (wd.toNat : Int)) ∧ SC[13]? = some (.int .u8 (fr.toNat : Int)) ∧ SC[14]? = some (.int .u8 (mn.toNat : Int)) ∧ SC[16]? = some (.bool mf) ∧ SC[17]? = some (.slice D dn dc)) := by show _ ∧ _; rw [hSC]; exact ⟨rfl, rfl, rfl, rfl, rfl⟩
  have AX : Hid (∀ r, r < 12 → ∃ a : UInt8, AC[r]? = some (.int .u8 (a.toNat : Int))) := by
    intro r hr
    rw [hAC]
    have : r = 0 ∨ r = 1 ∨ r = 2 ∨ r = 3 ∨ r = 4 ∨ r = 5 ∨ r = 6 ∨ r = 7 ∨ r = 8 ∨ r = 9 ∨ r = 10 ∨ r = 11 := by omega
    rcases this with rfl | rfl | rfl | rfl | rfl | rfl | rfl | rfl | rfl | rfl | rfl | rfl <;> exact ⟨_, rfl⟩
  clear hSC hAC
  have x12 : W1.cell? ⟨xb, 12, none⟩ = some (.int .u8 (wd.toNat : Int)) := (M0.out.bx.cell 12).trans SX.out.1
  have hwd := wd.toNat_lt
  obtain ⟨r11, e11, b11⟩ : ∃ r : Nat, (wd.toNat : Int) % 11 = (r : Int) ∧ r < 11 := ⟨wd.toNat % 11, by omega, by omega⟩
  obtain ⟨N, eN, bN, cN⟩ : ∃ N : Nat, IntKind.i64.wrap (4 * (r11 : Int)) = (N : Int) ∧ N ≤ 40 ∧ N % 4 = 0 := ⟨4 * r11, by rw [IntWalk.i64_in] <;> omega, by omega, by omega⟩
  have ew : IntKind.i64.wrap (wd.toNat : Int) = wd.toNat := by rw [IntWalk.i64_in] <;> omega
  clear hwd b11
  go_wp2_with fail
  clear x12 e11 ew
  unfold undef
  go_loopw [6, 60] (fun _ i wr => ∃ (k : Nat) (V : Value) (xs : List UInt8), k ≤ N ∧ i = .int .i64 (k : Nat) ∧ Hid (wr.ownsRow W1.heap.size 5 1 V k (byts xs)) ∧ Hid (xs.length = k) ∧ Hid (MS w xb rb ab hb SC AC (fun V => #[.int .u8 (a0.toNat : Int), .int .u16 (idn : Int), .bool df, .bool mf, .int .i64 0, .int .u8 (a3.toNat : Int), .int .u8 (a4.toNat : Int), .int .u32 (sr : Int), .int .u32 (dt : Int), V]) V wr) ∧ Hid (W1.heap.size ≤ wr.heap.size)) (fun _ i _ => N - (intOf i).toNat)
  case atStart => exact ⟨0, .slice none 0 0, [], Nat.zero_le _, rfl, World.ownsRow_nil _ _ _ _, rfl, M0, Nat.le_refl _⟩
  case round =>
    obtain ⟨k, V, xs, hk, rfl, HO, HXL, HM, HSZ⟩ := hrel
    by_cases hlt : k < N
    · have hlt2 : (k : Int) < N := by omega
      obtain ⟨r, er, br⟩ : ∃ r : Nat, (k : Int) % 12 = (r : Int) ∧ r < 12 := ⟨k % 12, by omega, by omega⟩
      obtain ⟨a, ha⟩ := AX.out r br
      have ca : wr.cell? ⟨ab, r, none⟩ = some (.int .u8 (a.toNat : Int)) := (HM.out.ba.cell r).trans ha
      obtain ⟨b0, b1, b2, b3, b4, b5, b6, b7, b8, b9⟩ := blk10 HM.out.bh
      obtain ⟨x, hx⟩ := u8_sum a k
      have ck : IntKind.u8.wrap (k : Int) = k := by
        have e : IntKind.u8.wrap (k : Int) = (k : Int) % 256 := rfl
        rw [e]; omega
      have hix := fun W => idx12 ab r br W
      have er2 : (k : Int).tmod 12 = (r : Int) := by rw [Int.tmod_eq_emod_of_nonneg (by omega)]; exact er
      have er3 : IntKind.i64.wrap (r : Int) = r := by rw [IntWalk.i64_in] <;> omega
      have hbo := fun k hk => (World.ownsRow.lt HO.out k hk).1
      have HBO := Lib.hid hbo
      have lh : hb < wr.heap.size := by have := HSZ.out; omega
      have lh2 : ¬ hb = wr.heap.size := by omega
      have lh3 : ¬ wr.heap.size = hb := by omega
      clear hbo ha br
      go_wp2_with fail
      go_region_law (refine step_append_bytes rfl (.tmp 64) (.tmp 72) rfl W1.heap.size V k xs rfl (Frm.own (S := No) (w := wr) (by first | exact ((Frm.refl No wr).drew).alloc _ | exact ((Frm.refl No wr).alloc _).drew) HO.out (fun _ _ x => x)) (some ⟨wr.heap.size, 0, none⟩) 1 1 [x] rfl rfl (rds_new _ [x]) (fun h => by cases h) (by omega) (by have := HSZ.out; simp; omega) ?_; intro v' w2 hown2 hgr; obtain ⟨g2, c2, rfl, hrow2⟩ := Row.of_own hown2 (by omega); have hf2 : Frm (fun i => V.ownBlock = some i) wr w2 := (((Frm.refl _ wr).alloc _).drew).trans (Frm.of_grown hgr) (fun i _ hs => hs); have M2 := Lib.hid (HM.out.frame hf2 (fun i hi h => by have := HBO.out i h; omega) (fun h => by have := HBO.out _ h; omega) (fun h => by have := HBO.out _ h; omega) (fun h => by have := HBO.out _ h; omega) (fun h => by have := HBO.out _ h; omega)); have hz2 := hf2.size; have O2 := Lib.hid hown2; clear hown2 hgr hf2 hrow2 b0 b1 b2 b3 b4 b5 b6 b7 b8 b9 ca; obtain ⟨b0, b1, b2, b3, b4, b5, b6, b7, b8, b9⟩ := blk10 M2.out.bh; have e9 := M2.out.bh.frozen 9)
      all_goals
        go_wp2_with fail
        go_roundw
        case rel =>
          refine ⟨k + 1, .slice (some ⟨g2, 0, none⟩) (k + 1) c2, xs ++ [x], by omega, by go_num, ?_, ?_, ?_, ?_⟩
          · exact Frm.own (S := One hb) ((Frm.refl (One hb) w2).set1 9 _) O2.out (fun i hi h => by
              have h : i = hb := h
              have := (World.ownsRow.lt O2.out i hi).1
              omega)
          · show (xs ++ [x]).length = k + 1
            rw [List.length_append, HXL.out]
            rfl
          · exact M2.out.set9 (fun h => by omega) hne.1 hne.2.2.1 hne.2.2.2.1 _
          · show W1.heap.size ≤ (w2.setCell _ _).heap.size
            have := HSZ.out
            have e : (w2.setCell ⟨hb, 9, none⟩ (.slice (some ⟨g2, 0, none⟩) (k + 1) c2)).heap.size = w2.heap.size := by simp [World.setCell]
            rw [e]
            omega
        case measure => simp [intOf]; omega
    · obtain rfl : k = N := by omega
      obtain ⟨A, oc, rfl, hoc, hon, hoR, hob⟩ := own_form HO.out
      have HAB := Lib.hid hob
      have HAN := Lib.hid hon
      clear hob hoR hon hlt hk
      have x17 : wr.cell? ⟨xb, 17, none⟩ = some (.slice D dn dc) := (HM.out.bx.cell 17).trans SX.out.2.2.2.2
      have HD0 := Lib.hid (HRD.out.frm HM.out.frm (fun _ _ x => x))
      have lx : xb < wr.heap.size := by have := HSZ.out; omega
      have lx2 : ¬ xb = wr.heap.size := by omega
      have lx3 : ¬ wr.heap.size = xb := by omega
      have HDN := Lib.hid hD
      clear hD
      go_upto_region 8 with fail
      go_cut [7] from 76 to 84 (fun s wx => ∃ (D2 : Option Addr) (m c2 : Nat) (ys : List UInt8), s = .slice D2 m c2 ∧ Hid (m ≤ 80 ∧ m ≤ c2) ∧ Hid (wx.ownsRow wr.heap.size 5 1 (.slice D2 m c2) m (byts ys)) ∧ Hid (Frm No wr wx))
      case first =>
        by_cases h80 : 80 < dn
        · have q0 : (80 : Int) < dn := by omega
          have q1 : (80 : Int) ≤ dc := by omega
          have HML : Hid ((ds.take 80).length = 80) := by show _ = _; rw [List.length_take]; omega
          clear h80
          go_wp2_with (at_builtin; refine wpList_append_bytes rfl (.tmp 76) (.tmp 83) rfl wr.heap.size _ 0 [] rfl (row_made wr wr.heap.size 0 [] rfl (Nat.le_refl _) (by omega)) D 80 dc (ds.take 80) rfl HML.out ((HD0.out.alloc _).take 80) HDN.out (by omega) (by simp) ?_; intro V2 w2 hown2 hgr; obtain ⟨D2, q2, rfl, hq2, _, _, hb2⟩ := own_form hown2; have hf2 : Frm No wr w2 := ((Frm.refl No wr).alloc _).trans (Frm.of_grown hgr) (fun i hi hs => by have hs' : some wr.heap.size = some i := hs; injection hs' with hs'; omega); have O2 := Lib.hid hown2; have HF2 := Lib.hid hf2; have HQ2 := Lib.hid hq2; clear hown2 hgr hf2 hq2 hb2)
          go_meet
          exact ⟨D2, 80, q2, _, rfl, ⟨by omega, HQ2.out⟩, O2, HF2⟩
        · have q0 : ¬ (80 : Int) < dn := by omega
          have q1 : (dn : Int) ≤ dc := by omega
          have q2' : dn ≤ 80 := by omega
          have HML : Hid (ds.length = dn) := hd
          clear h80
          go_wp2_with (at_builtin; refine wpList_append_bytes rfl (.tmp 76) (.tmp 83) rfl wr.heap.size _ 0 [] rfl (row_made wr wr.heap.size 0 [] rfl (Nat.le_refl _) (by omega)) D dn dc ds rfl HML.out (HD0.out.alloc _) HDN.out (by omega) (by simp) ?_; intro V2 w2 hown2 hgr; obtain ⟨D2, q2, rfl, hq2, _, _, hb2⟩ := own_form hown2; have hf2 : Frm No wr w2 := ((Frm.refl No wr).alloc _).trans (Frm.of_grown hgr) (fun i hi hs => by have hs' : some wr.heap.size = some i := hs; injection hs' with hs'; omega); have O2 := Lib.hid hown2; have HF2 := Lib.hid hf2; have HQ2 := Lib.hid hq2; clear hown2 hgr hf2 hq2 hb2)
          go_meet
          exact ⟨D2, dn, q2, _, rfl, ⟨q2', by have := HQ2.out; omega⟩, Lib.hid (by have h := O2.out; rw [Nat.zero_add] at h; exact h), HF2⟩
      case rest =>
      obtain ⟨D2, m, c2, ys, rfl, HM8, HO2, HF2⟩ := hcut
      have M2 := Lib.hid (HM.out.frame HF2.out (fun _ _ x => x) (fun x => x) (fun x => x) (fun x => x) (fun x => x))
      have A2 := Lib.hid (HF2.out.own HO.out (fun _ _ x => x))
      have HB := Lib.hid (HAB.out)
      have hz2 := HF2.out.size
      have hsw := HSZ.out
      obtain ⟨B, hB⟩ : ∃ B, B = wr.heap.size := ⟨_, rfl⟩
      rw [← hB] at HO2 HB hz2 hsw lx
      clear hB HM HO HD0 HDN HRD x17 lx2 lx3 HAB HF2
      have hhB : hb < B := by omega
      have x16 : wc.cell? ⟨xb, 16, none⟩ = some (.bool mf) := (M2.out.bx.cell 16).trans SX.out.2.2.2.1
      go_upto_if 86 with fail
      clear x16
      go_cut [7] from 87 to 105 (fun s wx => ∃ (D3 : Option Addr) (q c3 : Nat) (zs : List UInt8), s = .slice D3 q c3 ∧ Hid (q ≤ 80 ∧ q ≤ c3) ∧ Hid (wx.ownsRow B 5 1 (.slice D3 q c3) q (byts zs)) ∧ Hid (Frm (fun k => B ≤ k) wc wx) ∧ Hid (mf = true → 0 < q ∧ q % 8 = 0))
      case first =>
        cases mf with
        | false =>
          go_wp2_with fail
          go_meet
          exact ⟨D2, m, c2, ys, rfl, HM8, HO2, Frm.refl _ _, fun h => by cases h⟩
        | true =>
          go_wp2_with fail
          try unfold undef
          go_loopw [7] (fun v wx => ∃ (D3 : Option Addr) (q c3 : Nat) (zs : List UInt8), v = .slice D3 q c3 ∧ Hid (q ≤ 80 ∧ q ≤ c3) ∧ Hid (wx.ownsRow B 5 1 (.slice D3 q c3) q (byts zs)) ∧ Hid (Frm (fun k => B ≤ k) wc wx)) (fun v _ => 80 - lenV v)
          case atStart => exact ⟨D2, m, c2, ys, rfl, HM8, HO2, Frm.refl _ _⟩
          case round =>
            obtain ⟨D3, q, c3, zs, rfl, HQ, HZ, HF⟩ := hrel
            have hz3 := HF.out.size
            have lx : xb < wr.heap.size := by omega
            have lx2 : ¬ xb = wr.heap.size := by omega
            have lx3 : ¬ wr.heap.size = xb := by omega
            have x14 : wr.cell? ⟨xb, 14, none⟩ = some (.int .u8 (mn.toNat : Int)) := ((M2.out.bx.frm HF.out (fun h => by have : B ≤ xb := h; omega)).cell 14).trans SX.out.2.2.1
            obtain ⟨r, er, er2⟩ : ∃ r : Nat, (q : Int) % 8 = (r : Int) ∧ r = q % 8 := ⟨q % 8, by omega, rfl⟩
            have HQ1 := HQ.out.1
            have HRR := Lib.hid er2
            by_cases hgo : q = 0 ∨ 0 < r
            · have hlt : q < 80 := by omega
              by_cases h0 : q = 0
              · have g0 : ((q : Int) == 0) = true := by simp; omega
                have H0 := Lib.hid h0
                clear hgo er2 h0
                go_wp2_with (at_builtin; refine wpList_append_bytes rfl (.tmp 96) (.tmp 99) rfl B _ q zs rfl (Frm.own ((Frm.refl No wr).alloc _) HZ.out (fun _ _ x => x)) (some ⟨wr.heap.size, 0, none⟩) 1 1 [mn] rfl rfl (rds_new wr [mn]) (fun h => by cases h) (by omega) (by simp; omega) ?_; intro V4 w4 hown4 hgr4; obtain ⟨D4, c4, rfl, hc4, _, _, _⟩ := own_form hown4; have F4 := Lib.hid ((HF.out.alloc (.cells #[.int .u8 (mn.toNat : Int)] 5)).trans (Frm.of_grown hgr4) (fun i hi hs => (World.ownsRow.lt HZ.out i hs).1)); have O4 := Lib.hid hown4; have Q4 := Lib.hid hc4; clear hown4 hgr4 hc4)
                go_roundw
                case rel =>
                  have hq0 := H0.out
                  subst hq0
                  exact ⟨D4, 1, c4, zs ++ [mn], rfl, ⟨by omega, by have := Q4.out; omega⟩, O4, F4⟩
                case measure => simp [lenV]; omega
              · have g0 : ((q : Int) == 0) = false := by simp; omega
                have g1 : (0 : Int) < r := by omega
                clear hgo er2
                go_wp2_with (at_builtin; refine wpList_append_bytes rfl (.tmp 96) (.tmp 99) rfl B _ q zs rfl (Frm.own ((Frm.refl No wr).alloc _) HZ.out (fun _ _ x => x)) (some ⟨wr.heap.size, 0, none⟩) 1 1 [mn] rfl rfl (rds_new wr [mn]) (fun h => by cases h) (by omega) (by simp; omega) ?_; intro V4 w4 hown4 hgr4; obtain ⟨D4, c4, rfl, hc4, _, _, _⟩ := own_form hown4; have F4 := Lib.hid ((HF.out.alloc (.cells #[.int .u8 (mn.toNat : Int)] 5)).trans (Frm.of_grown hgr4) (fun i hi hs => (World.ownsRow.lt HZ.out i hs).1)); have O4 := Lib.hid hown4; have Q4 := Lib.hid hc4; clear hown4 hgr4 hc4)
                go_roundw
                case rel => exact ⟨D4, q + 1, c4, zs ++ [mn], rfl, ⟨by omega, Q4.out⟩, O4, F4⟩
                case measure => simp [lenV]; omega
            · have g0 : ((q : Int) == 0) = false := by simp; omega
              have g1 : ¬ (0 : Int) < r := by omega
              have g2 : ¬ (80 : Int) < q := by omega
              have g3 : (q : Int) ≤ c3 := by have := HQ.out.2; omega
              have HG : Hid (true = true → 0 < q ∧ q % 8 = 0) := fun _ => by omega
              clear hgo er2
              go_wp2_with fail
              go_meet
              exact ⟨D3, q, c3, zs, rfl, HQ, HZ, HF, HG⟩
      case rest =>
      obtain ⟨D3, q, c3, zs, rfl, HQ, HZ, HF, HMF⟩ := hcut
      have hNo : ∀ i, i < w.heap.size → ¬ B ≤ i := fun i hi => by omega
      have M3 := Lib.hid (M2.out.frame HF.out hNo (by omega) (by omega) (by omega) (by omega))
      have A3 := Lib.hid (HF.out.own A2.out (fun i hi h => by have := (HB.out i hi).2; omega))
      have x13 : wc.cell? ⟨xb, 13, none⟩ = some (.int .u8 (fr.toNat : Int)) := (M3.out.bx.cell 13).trans SX.out.2.1
      obtain ⟨b0, b1, b2, b3, b4, b5, b6, b7, b8, b9⟩ := blk10 M3.out.bh
      have e4 := M3.out.bh.frozen 4
      have hfr := fr.toNat_lt
      obtain ⟨f, hf⟩ : ∃ f : Nat, fr.toNat = f := ⟨_, rfl⟩
      rw [hf] at x13 hfr
      have w1 : IntKind.i64.wrap (f : Int) = f := by rw [IntWalk.i64_in] <;> omega
      obtain ⟨f8, w8, w9⟩ : ∃ f8 : Nat, IntKind.i64.wrap (8 * (f : Int)) = (f8 : Int) ∧ f8 = 8 * f := ⟨8 * f, by rw [IntWalk.i64_in] <;> omega, rfl⟩
      have hf0 : (0 : Int) ≤ f := by omega
      have hf1 : (f : Int) < 256 := by omega
      rw [hf] at SX
      have HW9 := Lib.hid w9
      clear hf w9
      go_upto_region 14 with fail
      obtain ⟨W4, hW4⟩ : ∃ W, W = wc.setCell ⟨hb, 4, none⟩ (.int .i64 (f8 : Int)) := ⟨_, rfl⟩
      have M4 := Lib.hid (M3.out.set4 (fun h => by omega) hne.1 hne.2.2.1 hne.2.2.2.1 (.int .i64 (f8 : Int)))
      have A4 := Lib.hid (Frm.own (S := One hb) ((Frm.refl (One hb) wc).set1 4 (.int .i64 (f8 : Int))) A3.out (fun i hi h => by have h : i = hb := h; have := (HB.out i hi).1; omega))
      have D4 := Lib.hid (Frm.own (S := One hb) ((Frm.refl (One hb) wc).set1 4 (.int .i64 (f8 : Int))) HZ.out (fun i hi h => by have h : i = hb := h; have := (World.ownsRow.lt HZ.out i hi).1; omega))
      rw [← hW4] at M4 A4 D4 ⊢
      clear hW4 x13 b0 b1 b2 b3 b4 b5 b6 b7 b8 b9 e4 M3 A3 HZ w8
      have x13 : W4.cell? ⟨xb, 13, none⟩ = some (.int .u8 (f : Int)) := (M4.out.bx.cell 13).trans SX.out.2.1
      by_cases h200 : 200 < f
      · have g200 : (200 : Int) < f := by omega
        obtain ⟨s, y1, y2⟩ : ∃ s : Nat, IntKind.i64.wrap (65515 - (q : Int)) = (s : Int) ∧ s + q = 65515 := ⟨65515 - q, by have := HQ.out.1; rw [IntWalk.i64_in] <;> omega, by have := HQ.out.1; omega⟩
        obtain ⟨t, y3, y4⟩ : ∃ t : Nat, (s : Int) / 8 = (t : Int) ∧ t = s / 8 := ⟨s / 8, by omega, rfl⟩
        obtain ⟨u, y5, y6, y7⟩ : ∃ u : Nat, IntKind.i64.wrap ((t : Int) * 8) = (u : Int) ∧ u ≤ s ∧ u % 8 = 0 := ⟨t * 8, by rw [IntWalk.i64_in] <;> omega, by omega, by omega⟩
        have y8 : IntKind.i64.wrap (t : Int) = t := by rw [IntWalk.i64_in] <;> omega
        obtain ⟨b0, b1, b2, b3, b4, b5, b6, b7, b8, b9⟩ := blk10 M4.out.bh
        have e4 := M4.out.bh.frozen 4
        have HY2 := Lib.hid y2
        have HY7 := Lib.hid y7
        clear h200 y2 y4 y7
        go_upto_region 16 with fail
        obtain ⟨W5, hW5⟩ : ∃ W, W = W4.setCell ⟨hb, 4, none⟩ (.int .i64 (u : Int)) := ⟨_, rfl⟩
        have M5 := Lib.hid (M4.out.set4 (fun h => by omega) hne.1 hne.2.2.1 hne.2.2.2.1 (.int .i64 (u : Int)))
        have A5 := Lib.hid (Frm.own (S := One hb) ((Frm.refl (One hb) W4).set1 4 (.int .i64 (u : Int))) A4.out (fun i hi h => by have h : i = hb := h; have := (HB.out i hi).1; omega))
        have D5 := Lib.hid (Frm.own (S := One hb) ((Frm.refl (One hb) W4).set1 4 (.int .i64 (u : Int))) D4.out (fun i hi h => by have h : i = hb := h; have := (World.ownsRow.lt D4.out i hi).1; omega))
        rw [← hW5] at M5 A5 D5 ⊢
        clear hW5 x13 b0 b1 b2 b3 b4 b5 b6 b7 b8 b9 e4 M4 A4 D4 y1 y3 y5 y8 g200
        obtain ⟨b0, b1, b2, b3, b4, b5, b6, b7, b8, b9⟩ := blk10 M5.out.bh
        obtain ⟨_, _, _, _, _, _, _, _, _, _⟩ := blk10 M5.out.br
        have zf := M5.out.br.frozen
        have _ := zf 0
        have _ := zf 1
        have _ := zf 2
        have _ := zf 3
        have _ := zf 4
        have _ := zf 5
        have _ := zf 6
        have _ := zf 7
        have _ := zf 8
        have _ := zf 9
        clear zf
        go_wp2_with fail
        have BR := Lib.hid (set10 M5.out.br (.int .u8 (a0.toNat : Int)) (.int .u16 (idn : Int)) (.bool df) (.bool mf) (.int .i64 (u : Int)) (.int .u8 (a3.toNat : Int)) (.int .u8 (a4.toNat : Int)) (.int .u32 (sr : Int)) (.int .u32 (dt : Int)) (.slice A k oc))
        obtain ⟨z0, z1, z2, z3, z4, z5, z6, z7, z8, z9⟩ := blk10 BR.out
        refine bodyPost_ret (v := .tuple #[.agg #[.int .u8 (a0.toNat : Int), .int .u16 (idn : Int), .bool df, .bool mf, .int .i64 (u : Int), .int .u8 (a3.toNat : Int), .int .u8 (a4.toNat : Int), .int .u32 (sr : Int), .int .u32 (dt : Int), .slice A k oc], .slice D3 q c3]) (by simp [results, Try.results19, go_sem, z0, z1, z2, z3, z4, z5, z6, z7, z8, z9]) rfl ⟨⟨a0.toNat, idn, df, mf, u, a3.toNat, a4.toNat, sr, dt⟩, A, D3, k, oc, q, c3, xs, zs, rfl, ?_⟩
        have hfr := frm10 (S := One rb) (Frm.refl (One rb) W5) (fun _ => rfl) (.int .u8 (a0.toNat : Int)) (.int .u16 (idn : Int)) (.bool df) (.bool mf) (.int .i64 (u : Int)) (.int .u8 (a3.toNat : Int)) (.int .u8 (a4.toNat : Int)) (.int .u32 (sr : Int)) (.int .u32 (dt : Int)) (.slice A k oc)
        have hq := HQ.out
        have y2 := HY2.out
        have y7 := HY7.out
        have hmf := HMF.out
        have hin := HIN.out
        exact ⟨⟨a0.toNat_lt, hin.1, by show u ≤ 65528; omega, a3.toNat_lt, a4.toNat_lt, hin.2.1, hin.2.2⟩, HXL.out, by have := D5.out.1; simpa [byts_len] using this, made_right k u q mf (by omega) (by omega) (by omega) (by omega) (by omega) hmf, hq.1,
          own_more (hfr.own A5.out (fun i hi h => by have h : i = rb := h; have := (HB.out i hi).1; omega)) (by omega),
          own_more (hfr.own D5.out (fun i hi h => by have h : i = rb := h; have := (World.ownsRow.lt D5.out i hi).1; omega)) (by omega),
          fun i hi h => by
            have h1 := (HB.out i (blk_own hi)).2
            have h2 := (World.ownsRow.lt D5.out i (blk_own h)).1
            omega,
          frm10 M5.out.frm (fun h => absurd h (by omega)) _ _ _ _ _ _ _ _ _ _⟩
      · have g200 : ¬ (200 : Int) < f := by omega
        go_upto_region 16 with fail
        clear x13 g200
        obtain ⟨b0, b1, b2, b3, b4, b5, b6, b7, b8, b9⟩ := blk10 M4.out.bh
        obtain ⟨_, _, _, _, _, _, _, _, _, _⟩ := blk10 M4.out.br
        have zf := M4.out.br.frozen
        have _ := zf 0
        have _ := zf 1
        have _ := zf 2
        have _ := zf 3
        have _ := zf 4
        have _ := zf 5
        have _ := zf 6
        have _ := zf 7
        have _ := zf 8
        have _ := zf 9
        clear zf
        go_wp2_with fail
        have BR := Lib.hid (set10 M4.out.br (.int .u8 (a0.toNat : Int)) (.int .u16 (idn : Int)) (.bool df) (.bool mf) (.int .i64 (f8 : Int)) (.int .u8 (a3.toNat : Int)) (.int .u8 (a4.toNat : Int)) (.int .u32 (sr : Int)) (.int .u32 (dt : Int)) (.slice A k oc))
        obtain ⟨z0, z1, z2, z3, z4, z5, z6, z7, z8, z9⟩ := blk10 BR.out
        refine bodyPost_ret (v := .tuple #[.agg #[.int .u8 (a0.toNat : Int), .int .u16 (idn : Int), .bool df, .bool mf, .int .i64 (f8 : Int), .int .u8 (a3.toNat : Int), .int .u8 (a4.toNat : Int), .int .u32 (sr : Int), .int .u32 (dt : Int), .slice A k oc], .slice D3 q c3]) (by simp [results, Try.results19, go_sem, z0, z1, z2, z3, z4, z5, z6, z7, z8, z9]) rfl ⟨⟨a0.toNat, idn, df, mf, f8, a3.toNat, a4.toNat, sr, dt⟩, A, D3, k, oc, q, c3, xs, zs, rfl, ?_⟩
        have hfr := frm10 (S := One rb) (Frm.refl (One rb) W4) (fun _ => rfl) (.int .u8 (a0.toNat : Int)) (.int .u16 (idn : Int)) (.bool df) (.bool mf) (.int .i64 (f8 : Int)) (.int .u8 (a3.toNat : Int)) (.int .u8 (a4.toNat : Int)) (.int .u32 (sr : Int)) (.int .u32 (dt : Int)) (.slice A k oc)
        have hq := HQ.out
        have w9 := HW9.out
        have hmf := HMF.out
        have hin := HIN.out
        exact ⟨⟨a0.toNat_lt, hin.1, by show f8 ≤ 65528; omega, a3.toNat_lt, a4.toNat_lt, hin.2.1, hin.2.2⟩, HXL.out, by have := D4.out.1; simpa [byts_len] using this, made_right k f8 q mf (by omega) (by omega) (by omega) (by omega) (by omega) hmf, hq.1,
          own_more (hfr.own A4.out (fun i hi h => by have h : i = rb := h; have := (HB.out i hi).1; omega)) (by omega),
          own_more (hfr.own D4.out (fun i hi h => by have h : i = rb := h; have := (World.ownsRow.lt D4.out i hi).1; omega)) (by omega),
          fun i hi h => by
            have h1 := (HB.out i (blk_own hi)).2
            have h2 := (World.ownsRow.lt D4.out i (blk_own h)).1
            omega,
          frm10 M4.out.frm (fun h => absurd h (by omega)) _ _ _ _ _ _ _ _ _ _⟩
end Go.Proofs.Ytcclneaabnpbkaa
