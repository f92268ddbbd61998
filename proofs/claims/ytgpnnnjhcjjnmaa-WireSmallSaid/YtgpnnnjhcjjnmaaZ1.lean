/-
  append of zeros onto a row of the call's own.
-/
import Derived.Test.YtgpnnnjhcjjnmaaBase
import Derived.Lib.AppendZerosOnto
namespace Go.Proofs.Ytgpnnnjhcjjnmaa
open Go.RowKit

theorem zeroCells_bytes (k : Nat) : Builtin.zeroCells (Value.cells (.int .u8 0)) k = (byts (List.replicate k 0)).toArray := by
  apply Array.ext
  · simp [Builtin.zeroCells, Value.cells, byts]
  · intro i h1 h2
    simp [Builtin.zeroCells, Value.cells, byts, byt, Nat.mod_one]

theorem byts_append (xs ys : List UInt8) : byts (xs ++ ys) = byts xs ++ byts ys := by simp [byts]

section
variable {P : Program}

theorem run_append_room_zeros (w : World) (t tn ty e : TypeId) (i : TypeInfo) (kq kn : IntKind) (ht : P.underlying t = some (.slice e)) (htn : P.underlying tn = some (.int kn)) (hi : P.info? e = some i) (hz : i.zero = some (.int .u8 0))
    (hsize : i.size = 1) (hby : i.bytes = 1) (g sLen sCap : Nat) (cur : Array Value) (hg : w.heap[g]? = some (.cells cur e (0, 0))) (k : Nat) (hroom : sLen + k ≤ sCap) (hcap : k ≤ 140737488355328) (hfit : sLen + k ≤ cur.size) :
    (Builtin.append_ #[t, tn] ty #[.slice (some ⟨g, 0, none⟩) sLen sCap, .int kq k]).run P w =
      .ok (.slice (some ⟨g, 0, none⟩) (sLen + k) sCap) (w.setRow g (cur.toList.take sLen ++ byts (List.replicate k 0) ++ cur.toList.drop (sLen + k)).toArray) := by
  have hw : IntKind.i64.wrap (k : Int) = k := by rw [IntKind.wrap_i64]; omega
  have hneg : ¬ ((k : Int) < 0) := by omega
  have h48 : ¬ (281474976710656 < (k : Int)) := by omega
  have hst := run_storeCells_at P g sLen e (byts (List.replicate k 0)) 0 cur w hg (by simp [byts_len]; omega) (byts_one _)
  simp only [Nat.add_zero, byts_len, List.length_replicate] at hst
  by_cases hk : k = 0
  · subst hk
    have hw0 : IntKind.i64.wrap 0 = 0 := by rw [IntKind.wrap_i64]; rfl
    have hr0 : sLen ≤ sCap := hroom
    have hb0 : byts (List.replicate 0 0) = [] := rfl
    rw [hb0] at hst ⊢
    simp only [List.append_nil, Nat.add_zero] at hst ⊢
    simp [Builtin.append_, run_underlying ht, run_underlying htn, sizeOf, typeInfo, hi, asInt, asIntOf, hsize, hby, hw0, hr0, Addr.add_lit, hst]
  · have hns : ¬ (k * i.size = 0) := by rw [hsize]; omega
    simp [Builtin.append_, run_underlying ht, run_underlying htn, sizeOf, typeInfo, zeroValue, hi, hz, asInt, asIntOf, hw, hneg, hk, h48, hsize, hby, hroom, zeroCells_bytes, Addr.add_lit, hst]

theorem run_append_own_zeros (w : World) (t tn ty e : TypeId) (i : TypeInfo) (kq kn : IntKind) (ht : P.underlying t = some (.slice e)) (htn : P.underlying tn = some (.int kn)) (hi : P.info? e = some i) (hz : i.zero = some (.int .u8 0))
    (hsize : i.size = 1) (hby : i.bytes = 1) (v : Value) (bs : List UInt8) (hown : w.ownsRow 0 e 1 v bs.length (byts bs)) (k : Nat) (hk : bs.length + k ≤ 131072) :
    ∃ v' w', (Builtin.append_ #[t, tn] ty #[v, .int kq k]).run P w = .ok v' w' ∧ w'.ownsRow 0 e 1 v' (bs.length + k) (byts (bs ++ List.replicate k 0)) ∧ w.grownBy w' v.ownBlock ∧ (v'.ownBlock = v.ownBlock ∨ v'.ownBlock = some w.heap.size) := by
  have hlen : (byts (bs ++ List.replicate k 0)).length = (bs.length + k) * 1 := by simp [byts_len]
  have hzl : (byts (List.replicate k 0)).length = k := by simp [byts_len]
  have grown : ∀ (old : Nat), ∀ (row : Option Nat),
      (w.drew.alloc (.cells ((byts bs).toArray ++ (byts (List.replicate k 0)).toArray ++ (byts (List.replicate (grownCap w (bs.length + k) old e - (bs.length + k)) 0)).toArray) e)).ownsRow 0 e 1
        (.slice (some ⟨w.heap.size, 0, none⟩) (bs.length + k) (grownCap w (bs.length + k) old e)) (bs.length + k) (byts (bs ++ List.replicate k 0)) ∧
      w.grownBy (w.drew.alloc (.cells ((byts bs).toArray ++ (byts (List.replicate k 0)).toArray ++ (byts (List.replicate (grownCap w (bs.length + k) old e - (bs.length + k)) 0)).toArray) e)) row := by
    intro old row
    have hge := grownCap_ge w (bs.length + k) old e
    have hcm : grownCap w (bs.length + k) old e ≤ maxLen := grownCap_le_maxLen w (bs.length + k) old e (by unfold maxLen; omega)
    refine ⟨⟨hlen, .inr ⟨w.heap.size, _, _, rfl, Nat.zero_le _, heap_alloc_new w.drew _, hge, hcm, ?_, ?_⟩⟩, ⟨rfl, rfl, rfl, by simp, fun j hj _ => Below.heap_alloc w.drew _ j hj⟩⟩
    · simp only [Array.size_append, List.size_toArray, byts_len, List.length_replicate]
      omega
    · rw [← hlen, byts_append]
      simp only [Array.toList_append]
      exact List.take_left
  rcases hown.2 with ⟨rfl, h0⟩ | ⟨g, cap, cur, rfl, _, hg, hnc, hcm, hcs, htake⟩
  · obtain rfl : bs = [] := List.eq_nil_of_length_eq_zero h0
    by_cases hk0 : k = 0
    · subst hk0
      refine ⟨.slice none 0 0, w, ?_, World.ownsRow_nil w 0 e 1, ⟨rfl, rfl, rfl, Nat.le_refl _, fun _ _ _ => rfl⟩, .inl rfl⟩
      have hw0 : IntKind.i64.wrap 0 = 0 := by rw [IntKind.wrap_i64]; rfl
      simp [Builtin.append_, run_underlying ht, run_underlying htn, sizeOf, typeInfo, hi, asInt, asIntOf, hw0]
    · have hr := Lib.run_append_nil_zeros (P := P) w t tn ty e i (.int .u8 0) kq kn ht htn hi hz k (by omega) (by omega) (by omega) (by rw [hby]; omega)
      rw [zeroCells_bytes, zeroCells_bytes] at hr
      have hgr := grown 0 (Value.ownBlock (.slice none 0 0))
      simp only [List.length_nil, Nat.zero_add] at hgr
      have he : (byts []).toArray ++ (byts (List.replicate k 0)).toArray = (byts (List.replicate k 0)).toArray := by simp [byts]
      rw [he] at hgr
      refine ⟨_, _, hr, by simpa using hgr.1, hgr.2, .inr rfl⟩
  · rw [Nat.mul_one] at hcs htake
    by_cases hroom : bs.length + k ≤ cap
    · have hr := run_append_room_zeros (P := P) w t tn ty e i kq kn ht htn hi hz hsize hby g bs.length cap cur hg k hroom (by omega) (by omega)
      refine ⟨_, _, hr, ⟨hlen, .inr ⟨g, cap, _, rfl, Nat.zero_le _, setRow_heap w g cur _ e _ hg, hroom, hcm, ?_, ?_⟩⟩, ⟨rfl, rfl, rfl, by simp, fun k _ hk => setRow_other w g k _ (fun e => hk (by simp [Value.ownBlock, e]))⟩, .inl rfl⟩
      · simp only [List.size_toArray, List.length_append, List.length_take, List.length_drop, Array.length_toList, hzl]
        omega
      · rw [htake, ← hlen, byts_append]
        exact List.take_left
    · have holds : ∀ j u, (byts bs)[j]? = some u → w.cell? ((⟨g, 0, none⟩ : Addr).add j) = some u := hown.cells (g := g) rfl
      have hold := run_firstCells_some (P := P) w.drew i.size bs.length ⟨g, 0, none⟩ bs.length cap (byts bs) (by rw [byts_len, hsize]; omega) (fun j u hu => by rw [World.cell?_drew]; exact holds j u hu)
      have hr := Lib.run_append_grow_zeros (P := P) w t tn ty e i (.int .u8 0) kq kn ht htn hi hz (some ⟨g, 0, none⟩) bs.length cap (byts bs) hold k (by omega) (by omega) (by omega) (by omega) (by rw [hby]; omega) (growslice_fits (by omega) (by rw [hby]; omega))
      rw [zeroCells_bytes, zeroCells_bytes] at hr
      have hgr := grown cap (Value.ownBlock (.slice (some ⟨g, 0, none⟩) bs.length cap))
      exact ⟨_, _, hr, hgr.1, hgr.2, .inr rfl⟩
end
end Go.Proofs.Ytgpnnnjhcjjnmaa
