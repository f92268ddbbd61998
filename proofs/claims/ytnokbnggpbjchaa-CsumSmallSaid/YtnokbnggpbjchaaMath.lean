/-
  The sum of some bytes: their words, added up and folded; what is told of it by arithmetic alone.
-/
import Derived.RowKit
namespace Go.Proofs.Ytnokbnggpbjchaa

def fold (s : Nat) : Nat := if s = 0 then 0 else 1 + (s - 1) % 65535

theorem fold_le (s : Nat) : fold s ≤ 65535 := by unfold fold; split <;> omega
theorem fold_lt (s : Nat) : fold s < 65536 := by have := fold_le s; omega
theorem fold_mod (s : Nat) : fold s % 65535 = s % 65535 := by
  unfold fold
  split
  · omega
  · omega
theorem fold_zero (s : Nat) : fold s = 0 ↔ s = 0 := by unfold fold; split <;> omega
theorem fold_eq {x s : Nat} (hx : x ≤ 65535) (hm : x % 65535 = s % 65535) (hz : x = 0 ↔ s = 0) : fold s = x := by
  unfold fold
  split
  · rename_i h
    exact (hz.2 h).symm
  · omega
theorem fold_all (s : Nat) : fold s = 65535 ↔ s ≠ 0 ∧ s % 65535 = 0 := by
  unfold fold
  split <;> omega
theorem fold_congr {s t : Nat} (hm : s % 65535 = t % 65535) (hz : s = 0 ↔ t = 0) : fold s = fold t :=
  fold_eq (fold_le t) (by rw [fold_mod]; exact hm.symm) (by rw [fold_zero]; exact hz.symm)
theorem fold_fold_add (s t : Nat) : fold (fold s + t) = fold (s + t) := by
  have h := fold_mod s
  have z := fold_zero s
  exact fold_congr (by omega) (by omega)
theorem fold_add_fold (s t : Nat) : fold (s + fold t) = fold (s + t) := by rw [Nat.add_comm, fold_fold_add, Nat.add_comm]
theorem fold_fold (s : Nat) : fold (fold s) = fold s := by have := fold_fold_add s 0; simpa using this

def word (a b : UInt8) : Nat := a.toNat * 256 + b.toNat
theorem word_lt (a b : UInt8) : word a b < 65536 := by
  have := a.toNat_lt
  have := b.toNat_lt
  unfold word
  omega

/-- The words of some bytes. -/
def wordsOf : List UInt8 → List Nat
  | a :: b :: r => word a b :: wordsOf r
  | [a] => [word a 0]
  | [] => []

def addUp : List Nat → Nat
  | [] => 0
  | n :: l => n + addUp l

theorem addUp_append (l m : List Nat) : addUp (l ++ m) = addUp l + addUp m := by
  induction l with
  | nil => simp [addUp]
  | cons n l ih => simp [addUp, ih]; omega
theorem addUp_snoc (l : List Nat) (n : Nat) : addUp (l ++ [n]) = addUp l + n := by rw [addUp_append]; rfl
theorem addUp_le (l : List Nat) (h : ∀ x ∈ l, x < 65536) : addUp l ≤ l.length * 65535 := by
  induction l with
  | nil => simp [addUp]
  | cons n l ih =>
    have h1 := ih (fun x hx => h x (List.mem_cons_of_mem _ hx))
    have h2 := h n List.mem_cons_self
    simp only [addUp, List.length_cons]
    omega

def wsum (bs : List UInt8) : Nat := addUp (wordsOf bs)
def sumOf (bs : List UInt8) : Nat := fold (wsum bs)

theorem wordsOf_length : ∀ (bs : List UInt8), (wordsOf bs).length = (bs.length + 1) / 2
  | [] => rfl
  | [_] => by simp [wordsOf]
  | a :: b :: r => by
    have := wordsOf_length r
    simp only [wordsOf, List.length_cons, this]
    omega
theorem wordsOf_lt : ∀ (bs : List UInt8), ∀ x ∈ wordsOf bs, x < 65536
  | [], x, h => by simp [wordsOf] at h
  | [a], x, h => by
    simp [wordsOf] at h
    subst h
    exact word_lt a 0
  | a :: b :: r, x, h => by
    simp only [wordsOf, List.mem_cons] at h
    rcases h with rfl | h
    · exact word_lt a b
    · exact wordsOf_lt r x h
theorem wordsOf_append : ∀ (bs cs : List UInt8), bs.length % 2 = 0 → wordsOf (bs ++ cs) = wordsOf bs ++ wordsOf cs
  | [], cs, _ => rfl
  | [a], cs, h => by simp at h
  | a :: b :: r, cs, h => by
    have := wordsOf_append r cs (by simp at h; omega)
    simp only [List.cons_append, wordsOf, this]
theorem wsum_append (bs cs : List UInt8) (h : bs.length % 2 = 0) : wsum (bs ++ cs) = wsum bs + wsum cs := by
  unfold wsum
  rw [wordsOf_append bs cs h, addUp_append]
theorem wsum_odd : ∀ (bs : List UInt8), bs.length % 2 = 1 → wsum (bs ++ [0]) = wsum bs
  | [], h => by simp at h
  | [a], _ => rfl
  | a :: b :: r, h => by
    have := wsum_odd r (by simp at h; omega)
    unfold wsum at *
    simp only [List.cons_append, wordsOf, addUp, this]
theorem wsum_zero : ∀ (bs : List UInt8), wsum bs = 0 ↔ ∀ x ∈ bs, x = 0
  | [] => by simp [wsum, wordsOf, addUp]
  | [a] => by
    have : a.toNat = 0 ↔ a = 0 := ⟨fun h => UInt8.toNat_inj.1 h, fun h => by rw [h]; rfl⟩
    have e : wsum [a] = a.toNat * 256 := by simp [wsum, wordsOf, addUp, word]
    simp only [e, List.mem_singleton, forall_eq, ← this]
    omega
  | a :: b :: r => by
    have h := wsum_zero r
    have ha : a.toNat = 0 ↔ a = 0 := ⟨fun h => UInt8.toNat_inj.1 h, fun h => by rw [h]; rfl⟩
    have hb : b.toNat = 0 ↔ b = 0 := ⟨fun h => UInt8.toNat_inj.1 h, fun h => by rw [h]; rfl⟩
    unfold wsum at *
    simp only [wordsOf, addUp, word, List.mem_cons, forall_eq_or_imp]
    rw [← h, ← ha, ← hb]
    omega

/-- The sum where one word is told apart. -/
theorem wsum_split (bs : List UInt8) (i : Nat) (hi : i % 2 = 0) (h : i + 1 < bs.length) :
    wsum bs = wsum (bs.take i) + word bs[i] bs[i + 1] + wsum (bs.drop (i + 2)) := by
  have e : bs = bs.take i ++ (bs[i] :: bs[i + 1] :: bs.drop (i + 2)) := by
    rw [List.getElem_cons_drop, List.getElem_cons_drop, List.take_append_drop]
  have hl : (bs.take i).length = i := by rw [List.length_take]; omega
  have := wsum_append (bs.take i) (bs[i] :: bs[i + 1] :: bs.drop (i + 2)) (by rw [hl]; exact hi)
  rw [← e] at this
  rw [this]
  show _ + addUp (word _ _ :: wordsOf _) = _
  simp only [addUp, wsum]
  omega

/-- Two bytes put into others. -/
def putAt (bs : List UInt8) (i : Nat) (x y : UInt8) : List UInt8 := (bs.set i x).set (i + 1) y
theorem putAt_length (bs : List UInt8) (i : Nat) (x y : UInt8) : (putAt bs i x y).length = bs.length := by simp [putAt]
theorem putAt_take (bs : List UInt8) (i : Nat) (x y : UInt8) : (putAt bs i x y).take i = bs.take i := by
  apply List.ext_getElem
  · simp [putAt]
  · intro k h1 h2
    have hk : k < i := by simp at h1; omega
    rw [List.getElem_take, List.getElem_take]
    unfold putAt
    rw [List.getElem_set_ne (by omega), List.getElem_set_ne (by omega)]
theorem putAt_drop (bs : List UInt8) (i : Nat) (x y : UInt8) : (putAt bs i x y).drop (i + 2) = bs.drop (i + 2) := by
  apply List.ext_getElem
  · simp [putAt]
  · intro k h1 h2
    rw [List.getElem_drop, List.getElem_drop]
    unfold putAt
    rw [List.getElem_set_ne (by omega), List.getElem_set_ne (by omega)]
theorem putAt_sum (bs : List UInt8) (i : Nat) (x y : UInt8) (hi : i % 2 = 0) (h : i + 1 < bs.length) :
    wsum (putAt bs i x y) = wsum (bs.take i) + word x y + wsum (bs.drop (i + 2)) := by
  have hl := putAt_length bs i x y
  rw [wsum_split (putAt bs i x y) i hi (by omega), putAt_take, putAt_drop]
  have e0 : (putAt bs i x y)[i]'(by omega) = x := by simp [putAt]
  have e1 : (putAt bs i x y)[i + 1]'(by omega) = y := by simp [putAt]
  rw [e0, e1]
theorem putAt_twice (bs : List UInt8) (i : Nat) (x y u v : UInt8) : putAt (putAt bs i x y) i u v = putAt bs i u v := by
  unfold putAt
  rw [List.set_comm (l := bs.set i x) (a := y) (b := u) (i := i + 1) (j := i) (by omega), List.set_set, List.set_set]
end Go.Proofs.Ytnokbnggpbjchaa
