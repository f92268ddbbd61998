/-
  ApartBytes of up to 101 own rows that lie apart.
-/
import Derived.Test.YtgpnnnjhcjjnmaaE9
import Derived.Test.YtgpnnnjhcjjnmaaE5
namespace Go.Proofs.Ytgpnnnjhcjjnmaa
open Go.RowKit

theorem lst_of_range {W : World} {base g m k : Nat} {vs : Nat → Value} (h : W.ownsRow base 22 1 (.slice (some ⟨g, 0, none⟩) m k) m ((List.range m).map vs)) : Lst W g m vs ∧ m ≤ k := by
  rcases h.2 with ⟨h0, _⟩ | ⟨g', cap, cur, he, _, hg, hnc, _, _, ht⟩
  · cases h0
  · cases he
    refine ⟨⟨cur, hg, fun j hj => ?_⟩, hnc⟩
    have e : (cur.toList.take (m * 1))[j]? = cur.toList[j]? := List.getElem?_take_of_lt (by omega)
    rw [ht] at e
    rw [← Array.getElem?_toList, ← e]
    simp [hj]

theorem Duo.no {w w' : World} {base m : Nat} {vs : Nat → Value} {ns : Nat → Nat} {cs : Nat → List UInt8} (h : Duo w base m vs ns cs vs ns cs) (hf : Frm No w w') : Duo w' base m vs ns cs vs ns cs :=
  ⟨fun k hk => hf.own (h.own k hk) (fun _ _ x => x), fun k hk => hf.own (h.long k hk) (fun _ _ x => x), h.pre, h.apart⟩

set_option maxRecDepth 100000 in
set_option maxHeartbeats 2000000 in
theorem apart_many (w : World) (m base p c0 : Nat) (vs : Nat → Value) (ns : Nat → Nat) (cs : Nat → List UInt8) (h0 : 0 < m) (hm : m ≤ 101) (hn : ∀ k, k < m → ns k ≤ 140737488351232)
    (hL : Lst w p m vs) (hT : Duo w base m vs ns cs vs ns cs) (hbase : base ≤ w.heap.size) :
    Calls Try.prog 46 #[.slice (some ⟨p, 0, none⟩) m c0] w fun e w' => e = .returned (.bool true) ∧ Frm (Own m vs) w w' := by
  have hS : Hid (¬ Own m vs w.heap.size) := by
    refine Lib.hid ?_
    rintro ⟨k, hk, hi⟩
    have := (own_lt (hT.own k hk) hi).2
    omega
  have HFL : Hid (∀ V k W, Frm No w W → W.ownsRow w.heap.size 22 1 (.slice (some V) m k) m ((List.range m).map vs) → Calls Try.prog 86 #[.slice (some V) m k] W fun e w' => e = .returned (.bool true) ∧ Frm (Own m vs) W w') := by
    refine Lib.hid fun V k W hW hown => ?_
    obtain ⟨g, c', he⟩ := own_some hown h0
    cases he
    have hl := lst_of_range hown
    have := hW.size
    exact flat_bytes W base m g _ vs ns cs hm hl.2 hn hl.1 (hT.no hW) (by omega)
  have HL := Lib.hid hL
  have HT := Lib.hid hT
  have F0 := Lib.hid (Frm.refl No w)
  clear hL hT hn
  have B1 : Hid (Blk (w.alloc (.cells (bagOf (.slice none 0 0)) 124)) w.heap.size 124 (bagOf (.slice none 0 0))) := Blk.new _ _ _
  have O1 : Hid ((w.alloc (.cells (bagOf (.slice none 0 0)) 124)).ownsRow w.heap.size 22 1 (.slice none 0 0) 0 ((List.range 0).map vs)) := by
    refine ⟨?_, .inl ⟨rfl, rfl⟩⟩
    simp
  have F1 := Lib.hid (F0.out.alloc (.cells (bagOf (.slice none 0 0)) 124))
  go_enter Try.func46, Try.ntmps46
  go_wp2_with fail
  go_loopw [4] (fun i wr => ∃ (j : Nat) (V : Value), j ≤ m ∧ i = .int .i64 j ∧ Hid (Blk wr w.heap.size 124 (bagOf V)) ∧ Hid (wr.ownsRow w.heap.size 22 1 V j ((List.range j).map vs)) ∧ Hid (Frm No w wr)) (fun i _ => m - (intOf i).toNat)
  case atStart => exact ⟨0, _, by omega, rfl, B1, O1, F1⟩
  case round =>
    obtain ⟨j, V, hj, rfl, HB, HO, HR⟩ := hrel
    clear B1 O1 F1 F0
    by_cases hlt : j < m
    · obtain ⟨A, c, hv, -, -⟩ := HT.out.form j hlt
      have p0 : wr.cell? ⟨p, j, none⟩ = some (.slice A (ns j) c) := (((HL.out.frm HR.out (fun x => x)).cell j hlt)).trans (by rw [hv])
      have HV := Lib.hid hv
      clear hv
      go_wp2_with (go_at_call 73; refine (put_bytes w.heap.size _ w.heap.size V j _ A (ns j) c (Nat.le_refl _) HB.out HO.out (by omega)).mono ?_; rintro e w' ⟨rfl, V', hb', ho', hf'⟩)
      have HB' := Lib.hid hb'
      have HO' : Hid (w'.ownsRow w.heap.size 22 1 V' (j + 1) ((List.range (j + 1)).map vs)) := by
        rw [List.range_succ, List.map_append, List.map_singleton, HV.out]
        exact ho'
      have HR' : Hid (Frm No w w') := HR.out.trans hf' (fun i hi hs => by have hs' : w.heap.size ≤ i := hs; omega)
      clear hb' ho' hf' HB HO HR
      go_roundw
      case rel => exact ⟨j + 1, V', by omega, by go_num, HB', HO', HR'⟩
      case measure => simp [intOf]; omega
    · obtain rfl : j = m := by omega
      obtain ⟨g', k', rfl⟩ := own_some HO.out h0
      go_wp2_with (go_at_call 74; refine (apart_bag _ w.heap.size _ j _ (Own j vs) HB.out hS.out (fun W hW => HFL.out _ _ W (HR.out.trans hW (fun _ _ x => x)) (hW.own HO.out (fun _ _ x => x)))).mono ?_; rintro e w' ⟨rfl, hf'⟩)
      go_ret
      exact ⟨rfl, (HR.out.of_no (Own j vs)).trans hf' (fun _ _ x => x)⟩
end Go.Proofs.Ytgpnnnjhcjjnmaa
