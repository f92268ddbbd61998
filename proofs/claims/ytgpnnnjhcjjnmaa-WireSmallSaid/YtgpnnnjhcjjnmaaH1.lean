/-
  Hex.
-/
import Derived.Test.YtgpnnnjhcjjnmaaW4
namespace Go.Proofs.Ytgpnnnjhcjjnmaa
open Go.RowKit

/-- A digit of 0 to 15; the text of bytes. -/
def dig (n : Nat) : UInt8 := UInt8.ofNat (if n < 10 then 48 + n else 87 + n)
def hexs (bs : List UInt8) : List UInt8 := bs.flatMap fun b => [dig (b.toNat / 16), dig (b.toNat % 16)]
theorem hexs_len (bs : List UInt8) : (hexs bs).length = 2 * bs.length := by
  induction bs with
  | nil => rfl
  | cons b l ih => simp [hexs] at ih ⊢; omega
theorem hexs_snoc (bs : List UInt8) (b : UInt8) : hexs (bs ++ [b]) = hexs bs ++ [dig (b.toNat / 16), dig (b.toNat % 16)] := by simp [hexs]

/-- append onto a row of the call's own, as a step of a region that draws. -/
theorem step_append_own {P : Program} {ops : Array Oper} {o : Oper} {a : Act} {w : World} {K : Act → World → Prop} {Q : Exit → Act → World → Prop} {E : Prop} (hgd : o.guard = none) (s x : Operand) (t : TypeId)
    (ho : o.op = .call { callee := .builtin .append, args := #[s, x], argTypes := #[t, t] })
    (base : Nat) (e : TypeId) (i : TypeInfo) (z : Value) (size bytes : Nat) (ht : P.underlying t = some (.slice e)) (hi : P.info? e = some i) (hz : i.zero = some z)
    (hsize : i.size = size) (hby : i.bytes = bytes) (hzs : z.cells.size = size) (hsz : 0 < size)
    (v : Value) (n : Nat) (xs : List Value) (hs : a.eval s = v) (hown : w.ownsRow base e size v n xs)
    (ad : Addr) (m c : Nat) (news : List Value) (hx : a.eval x = .slice (some ad) m c) (hl : news.length = m * size) (hnews : ∀ j u, news[j]? = some u → w.cell? (ad.add j) = some u) (h1 : ∀ u ∈ news, u.oneCell' = true)
    (h63 : n + m ≤ maxLen) (hbytes : (n + m) * bytes ≤ 140737488355328) (hbase : base ≤ w.heap.size)
    (h : ∀ v' w', w'.ownsRow base e size v' (n + m) (xs ++ news) → w.grownBy w' v.ownBlock → (v'.ownBlock = v.ownBlock ∨ v'.ownBlock = some w.heap.size) → K (a.put o.dst v') w') :
    if Region.wanted o (yielded ops a.tmps) = true then Oper.wp P o a w K Q else E := by
  have hw : Region.wanted o (yielded ops a.tmps) = true := by simp [Region.wanted, hgd]
  rw [if_pos hw]
  obtain ⟨v', w', hr, h2, h3, _, h5⟩ := run_append_own_at (P := P) w base t o.type e i z size bytes ht hi hz hsize hby hzs hsz v n xs hown ad m c news hl hnews h1 h63 hbytes hbase
  unfold Oper.wp execOp
  simp only [ho, resolve, invoke, builtin, Sem.run_bind, Sem.run_pure, Result.andThen_ok, List.map_toArray, List.map_cons, List.map_nil, hs, hx, hr]
  exact h v' w' h2 h3 h5

theorem dig_get (n : Nat) (hn : n < 16) : ∀ h : n < (ByteArray.mk #[48, 49, 50, 51, 52, 53, 54, 55, 56, 57, 97, 98, 99, 100, 101, 102]).size,
    (ByteArray.mk #[48, 49, 50, 51, 52, 53, 54, 55, 56, 57, 97, 98, 99, 100, 101, 102])[n] = dig n := by
  have h : ∀ k : Fin 16, ∀ h : k.val < (ByteArray.mk #[48, 49, 50, 51, 52, 53, 54, 55, 56, 57, 97, 98, 99, 100, 101, 102]).size,
    (ByteArray.mk #[48, 49, 50, 51, 52, 53, 54, 55, 56, 57, 97, 98, 99, 100, 101, 102])[k.val] = dig k.val := by decide
  exact h ⟨n, hn⟩
theorem dig_val (m n : Nat) (hm : m = n) (hn : n < 16) (h : m < (ByteArray.mk #[48, 49, 50, 51, 52, 53, 54, 55, 56, 57, 97, 98, 99, 100, 101, 102]).size) :
    byt (dig n) = .int .u8 ((ByteArray.mk #[48, 49, 50, 51, 52, 53, 54, 55, 56, 57, 97, 98, 99, 100, 101, 102])[m].toNat : Int) := by
  subst hm
  rw [dig_get m hn h, byt]

theorem news2 (w : World) (a b : Value) (xs : List UInt8) (h : byts xs = [a, b]) : ∀ j u, (byts xs)[j]? = some u → (w.alloc (.cells #[a, b] 5)).cell? ((⟨w.heap.size, 0, none⟩ : Addr).add j) = some u := by
  intro j u hu
  have hadd : (⟨w.heap.size, 0, none⟩ : Addr).add j = ⟨w.heap.size, j, none⟩ := by unfold Addr.add; split <;> simp_all
  rw [hadd, (Blk.new w 5 #[a, b]).cell j]
  rw [h] at hu
  simpa using hu

theorem madeCells_bytes (k : Nat) : madeCells (Value.cells (.int .u8 0)) k = (byts (List.replicate k 0)).toArray := by
  apply Array.ext
  · simp [madeCells, byts]
  · intro i h1 h2
    simp [madeCells, Value.cells, byts, byt, Nat.mod_one]

theorem make_bytes (l c : Nat) (hlc : l ≤ c) (hc : c ≤ 140737488355328) (w : World) :
    (Instr.makeSlice 22 (.int .i64 (l : Int)) (.int .i64 (c : Int))).run Try.prog w = .ok (.slice (some ⟨w.heap.size, 0, none⟩) l c) (w.alloc (.cells (byts (List.replicate c 0)).toArray 5)) := by
  obtain ⟨i0, hi, hz0, hz1, hz2⟩ := info_parts info5
  have h := run_make (P := Try.prog) w 22 5 i0 (.int .u8 0) Try.underlying22 hi hz0 .i64 .i64 (l : Int) (c : Int) (by omega) (by omega) (by rw [hz2]; omega) (by omega)
  rw [hz1, Int.toNat_natCast, Int.toNat_natCast, Nat.mul_one, madeCells_bytes] at h
  exact h

theorem string_of {w : World} {base : Nat} {v : Value} {n : Nat} {bs : List UInt8} (h : w.ownsRow base 5 1 v n (byts bs)) : (convert 22 9 v).run Try.prog w = .ok (.string ⟨bs.toArray⟩) w := by
  obtain ⟨A, c, rfl, rfl, hs, _⟩ := Src.of_own h
  rcases A with _ | ad
  · have hc := hs.nil rfl
    have h0 : bs = [] := List.eq_nil_of_length_eq_zero (by have := hs.le; omega)
    subst h0
    exact run_convert_bytes_nil w 22 5 Try.underlying22 Try.underlying5 _ _ 9 Try.underlying9
  · exact run_convert_bytes_back w 22 9 5 ad c bs Try.underlying22 Try.underlying5 Try.underlying9 (fun j hj => by
      obtain ⟨ad', e, hc⟩ := hs.rds.at_ hj
      injection e with e
      subst e
      exact hc)

theorem hex_step {w wr w2 : World} {u v' : Value} {bs : List UInt8} {j x : Nat} {o : Obj} (ho : wr.ownsRow w.heap.size 5 1 u (2 * j) (byts (hexs (bs.take j)))) (hf : Frm No w wr) (hj : j < bs.length) (hx : x = bs[j].toNat)
    (hown : w2.ownsRow w.heap.size 5 1 v' (2 * j + 2) (byts (hexs (bs.take j)) ++ byts [dig (x / 16), dig (x % 16)])) (hg : (wr.alloc o).drew.grownBy w2 u.ownBlock) :
    Hid (w2.ownsRow w.heap.size 5 1 v' (2 * (j + 1)) (byts (hexs (bs.take (j + 1)))) ∧ Frm No w w2) := by
  refine ⟨?_, ?_⟩
  · rw [take_succ bs j hj, hexs_snoc, byts_append, ← hx]
    exact hown
  · exact ((hf.alloc o).drew).trans (Frm.of_grown hg) (fun i hi hs => by
      have hs' : u.ownBlock = some i := hs
      have := (own_lt ho hs').1
      omega)

set_option maxRecDepth 100000 in
set_option maxHeartbeats 400000 in
theorem hex_any (w : World) (A : Option Addr) (c : Nat) (bs : List UInt8) (h : Rds w A bs) (hs : bs.length ≤ 131072) :
    Calls Try.prog 38 #[.slice A bs.length c] w fun e w' => e = .returned (.tuple #[.string ⟨(hexs bs).toArray⟩, .int .i64 0]) ∧ Frm No w w' := by
  obtain ⟨i0, hi, hz0, hz1, hz2⟩ := info_parts info5
  have hmk : ∀ w, (Instr.makeSlice 22 (.int .i64 0) (.int .i64 (2 * (bs.length : Int)))).run Try.prog w = .ok (.slice (some ⟨w.heap.size, 0, none⟩) 0 (2 * bs.length)) (w.alloc (.cells (byts (List.replicate (2 * bs.length) 0)).toArray 5)) := by
    intro w
    have := make_bytes 0 (2 * bs.length) (by omega) (by omega) w
    simpa using this
  obtain ⟨Z, hZ⟩ : ∃ Z, Z = (byts (List.replicate (2 * bs.length) 0)).toArray := ⟨_, rfl⟩
  rw [← hZ] at hmk
  have HZ : Hid (Z.size = 2 * bs.length) := by show Z.size = _; rw [hZ]; simp [byts_len]
  have H := Lib.hid h
  clear h hZ
  go_enter Try.func38, Try.ntmps38
  go_wp2
  go_loopw [4, 16] (fun v i wr => ∃ j : Nat, j ≤ bs.length ∧ i = .int .i64 j ∧ wr.ownsRow w.heap.size 5 1 v (2 * j) (byts (hexs (bs.take j))) ∧ Frm No w wr) (fun _ i _ => bs.length - (intOf i).toNat)
  case atStart =>
    refine ⟨0, Nat.zero_le _, rfl, ?_, (Frm.refl _ _).alloc _⟩
    exact World.ownsRow_made w Z (2 * bs.length) (Nat.le_refl _) (by unfold maxLen; omega) (by rw [HZ.out, Nat.mul_one])
  case round =>
    obtain ⟨j, hj, rfl, hown, hf⟩ := hrel
    have hr : Rds wr A bs := H.out.frm hf (fun _ _ x => x)
    have HO := Lib.hid hown
    have HF := Lib.hid hf
    clear hown hf
    by_cases hlt : j < bs.length
    · obtain ⟨ad, rfl, hc⟩ := hr.at_ hlt
      have HR := Lib.hid hr
      clear hr
      obtain ⟨x, hx⟩ : ∃ x : Nat, x = bs[j].toNat := ⟨_, rfl⟩
      have hx8 : x < 256 := by rw [hx]; exact bs[j].toNat_lt
      rw [← hx] at hc
      have HX := Lib.hid hx
      clear hx
      have hq1 : 0 ≤ (x : Int) / 16 := by omega
      have hq2 : (x : Int) / 16 < 16 := by omega
      have hq3 : 0 ≤ (x : Int) % 16 := by omega
      have hq4 : (x : Int) % 16 < 16 := by omega
      have hand : bits BinOp.and IntKind.u8 (x : Int) 15 = (x : Int) % 16 := by
        rw [show (15 : Int) = ((15 : Nat) : Int) from rfl, u8_and_nat x 15 (by omega) (by omega)]
        have := Nat.and_two_pow_sub_one_eq_mod x 4
        simp only [show 2 ^ 4 - 1 = 15 from rfl, show 2 ^ 4 = 16 from rfl] at this
        rw [this]; omega
      have HD1 := Lib.hid (dig_val ((x : Int) / 16).toNat (x / 16) (by omega) (by omega) (by show _ < 16; omega))
      have HD2 := Lib.hid (dig_val ((x : Int) % 16).toNat (x % 16) (by omega) (by omega) (by show _ < 16; omega))
      go_wp2
      go_region_law (refine step_append_own rfl (.tmp 20) (.tmp 27) 22 rfl w.heap.size 5 i0 (.int .u8 0) 1 1 Try.underlying22 hi hz0 hz1 hz2 rfl (by decide) u4 (2 * j) (byts (hexs (bs.take j))) rfl (by exact HO.out.alloc _) ⟨wr.heap.size, 0, none⟩ 2 2 (byts [dig (x / 16), dig (x % 16)]) rfl rfl (by exact news2 wr _ _ _ (by simp only [byts, List.map_cons, List.map_nil]; rw [HD1.out, HD2.out])) (byts_one _) (by unfold maxLen; omega) (by omega) (by have := HF.out.size; simp; omega) ?_; intro v' w2 hown' hgr _; have HS := hex_step HO.out HF.out hlt HX.out hown' hgr; clear hown' hgr)
      all_goals
        go_wp2
        go_roundw
        case rel => exact ⟨j + 1, by omega, by go_num, HS.out.1, HS.out.2⟩
        case measure => simp [intOf]; omega
    · clear hr
      have hcv : (convert 22 9 u4).run Try.prog wr = .ok (.string ⟨(hexs bs).toArray⟩) wr := by
        have := string_of HO.out
        rwa [List.take_of_length_le (by omega)] at this
      go_wp2
      go_ret2
      exact ⟨rfl, HF.out⟩
end Go.Proofs.Ytgpnnnjhcjjnmaa
