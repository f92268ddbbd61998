/-
  What Read looks for: each of the seven faults.
-/
import Derived.Test.YtcclneaabnpbkaaP3
import Derived.Laws.EntriesVeiled
namespace Go.Proofs.Ytcclneaabnpbkaa
open Go.RowKit
attribute [local go_sem] undef

theorem region_class {P : Program} {id : Nat} {Q : Exit → Act → World → Prop} {a : Act} {w : World} {l : List Oper} (C : World → Prop) (hm : P.follows .mixedOrders = true) (hB : Region.lexB .any l.toArray = true) (hC : C w.drew)
    (h : wpQuiet P l.toArray C (fun a' => ∀ w', C w' → Q .normal a' w') l a) : (Code.region id l.toArray true).wp P Q a w :=
  wp_region_quiet (C := C) hm hB hC (by simpa using h)

def q1 (bs : List UInt8) : Bool := decide (bs.length < 20)
def q2 (bs : List UInt8) : Bool := decide (byteAt bs 0 / 16 ≠ 4)
def q3 (bs : List UInt8) : Bool := decide (sizeAt bs < 20 ∨ bs.length < sizeAt bs)
def q4 (bs : List UInt8) : Bool := decide (totAt bs < sizeAt bs ∨ bs.length < totAt bs)
def q5 (bs : List UInt8) : Bool := !decide (sumOf (bs.take (sizeAt bs)) = 65535)
def q6 (bs : List UInt8) : Bool := decide (wordAt bs 6 / 32768 % 2 = 1)
def q7 (bs : List UInt8) : Bool := !rightB (sizeAt bs - 20) (offAt bs : Int) (mfAt bs) ((totAt bs : Int) - (sizeAt bs : Int))

/-- A block that holds a slice alone. -/
def Box (w : World) (B : Nat) (A : Option Addr) (n c : Nat) : Prop := Blk w B 22 #[.slice A n c]
theorem Box.cell {w : World} {B : Nat} {A : Option Addr} {n c : Nat} (h : Box w B A n c) : w.cell? ⟨B, 0, none⟩ = some (.slice A n c) := (Blk.cell h 0).trans rfl

set_option maxRecDepth 100000 in
theorem fault1 (w : World) (B : Nat) (A : Option Addr) (n c : Nat) (bs : List UInt8) (hn : bs.length = n) (hB : Box w B A n c) :
    Calls Try.prog 63 #[.pointer (some ⟨B, 0, none⟩)] w (BoolNo (q1 bs) w) := by
  have hc := hB.cell
  unfold q1
  rw [hn]
  have hd : decide ((n : Int) < 20) = decide (n < 20) := by
    rw [decide_eq_decide]; omega
  obtain ⟨b, hb⟩ : ∃ b, decide (n < 20) = b := ⟨_, rfl⟩
  rw [hb] at hd ⊢
  clear hb
  go_enter Try.func63, Try.ntmps63
  go_wp2
  go_ret
  exact ⟨rfl, Frm.refl _ _⟩

set_option maxRecDepth 100000 in
theorem fault2 (w : World) (B : Nat) (A : Option Addr) (n c : Nat) (bs : List UInt8) (hn : bs.length = n) (h0 : 0 < n) (hB : Box w B A n c) (h : Rds w A bs) :
    Calls Try.prog 64 #[.pointer (some ⟨B, 0, none⟩)] w (BoolNo (q2 bs) w) := by
  have hc := hB.cell
  obtain ⟨ad, rfl, d0⟩ := h.byte (k := 0) (by omega)
  unfold q2
  obtain ⟨b, hb⟩ : ∃ b, byteAt bs 0 = b := ⟨_, rfl⟩
  have hlt := byteAt_lt bs 0
  rw [hb] at hlt d0 ⊢
  have d1 : w.cell? ad = some (.int .u8 (b : Int)) := d0
  obtain ⟨q, hq⟩ : ∃ q, b / 16 = q := ⟨_, rfl⟩
  have e1 : (b : Int) / 16 = q := by omega
  have hd : ((q : Int) != 4) = decide (q ≠ 4) := by
    by_cases h : q = 4
    · subst h; rfl
    · rw [decide_eq_true h]; simp; omega
  rw [hq]
  obtain ⟨r, hr⟩ : ∃ b, decide (q ≠ 4) = b := ⟨_, rfl⟩
  rw [hr] at hd ⊢
  have i0 : (0 : Int) < n := by omega
  clear hr hq hb h d0
  go_enter Try.func64, Try.ntmps64
  go_wp2
  go_ret
  exact ⟨rfl, Frm.refl _ _⟩

set_option maxRecDepth 100000 in
set_option maxHeartbeats 1000000 in
theorem fault3 (w : World) (B : Nat) (A : Option Addr) (n c : Nat) (bs : List UInt8) (hn : bs.length = n) (h0 : 0 < n) (h4 : n ≤ 140737488355328) (hB : Box w B A n c) (h : Rds w A bs) :
    Calls Try.prog 65 #[.pointer (some ⟨B, 0, none⟩)] w (BoolNo (q3 bs) w) := by
  have hc := hB.cell
  have HZ := Lib.hid (fun m => size_of (w.drewN m) A n c bs hn h0 (h.drewN m) h4)
  unfold q3
  rw [hn]
  obtain ⟨z, hz⟩ : ∃ z, sizeAt bs = z := ⟨_, rfl⟩
  rw [hz] at HZ ⊢
  clear hz h
  by_cases h1 : z < 20
  · have g1 : decide ((z : Int) < 20) = true := decide_eq_true (by omega)
    have hd : decide (z < 20 ∨ n < z) = true := decide_eq_true (.inl h1)
    rw [hd]
    clear hd h1
    go_enter Try.func65, Try.ntmps65
    go_wp2
    go_quiet ((go_at_call 41; exact (HZ.out _).mono fun e w' ⟨he, hw⟩ => ⟨he, _, hw⟩))
    go_wp2
    go_ret
    exact ⟨rfl, (Frm.refl _ _).drewN _⟩
  · have g1 : decide ((z : Int) < 20) = false := decide_eq_false (by omega)
    by_cases h2 : n < z
    · have g2 : decide ((n : Int) < z) = true := decide_eq_true (by omega)
      have g2' : decide (n < z) = true := decide_eq_true h2
      have hd : decide (z < 20 ∨ n < z) = true := decide_eq_true (.inr h2)
      rw [hd]
      clear hd h1 h2
      go_enter Try.func65, Try.ntmps65
      go_wp2
      go_quiet ((go_at_call 41; exact (HZ.out _).mono fun e w' ⟨he, hw⟩ => ⟨he, _, hw⟩))
      go_wp2
      go_ret
      exact ⟨rfl, (Frm.refl _ _).drewN _⟩
    · have g2 : decide ((n : Int) < z) = false := decide_eq_false (by omega)
      have g2' : decide (n < z) = false := decide_eq_false h2
      have hd : decide (z < 20 ∨ n < z) = false := decide_eq_false (by omega)
      rw [hd]
      clear hd h1 h2
      go_enter Try.func65, Try.ntmps65
      go_wp2
      go_quiet ((go_at_call 41; exact (HZ.out _).mono fun e w' ⟨he, hw⟩ => ⟨he, _, hw⟩))
      go_wp2
      go_ret
      exact ⟨rfl, (Frm.refl _ _).drewN _⟩

theorem tot_drewN (w : World) (A : Option Addr) (n c : Nat) (bs : List UInt8) (hn : bs.length = n) (h0 : 3 < n) (h : Rds w A bs) (h4 : n ≤ 140737488355328) (m : Nat) :
    Calls Try.prog 42 #[.slice A n c] (w.drewN m) fun e w' => e = .returned (.int .i64 (totAt bs : Int)) ∧ ∃ k, w' = w.drewN k :=
  (total_of (w.drewN m) A n c bs hn h0 (h.drewN m) h4).mono fun e w' ⟨he, k, hk⟩ => ⟨he, m + k, by rw [hk]; exact World.drewN_drewN _ _ _⟩
theorem size_drewN (w : World) (A : Option Addr) (n c : Nat) (bs : List UInt8) (hn : bs.length = n) (h0 : 0 < n) (h : Rds w A bs) (h4 : n ≤ 140737488355328) (m : Nat) :
    Calls Try.prog 41 #[.slice A n c] (w.drewN m) fun e w' => e = .returned (.int .i64 (sizeAt bs : Int)) ∧ ∃ k, w' = w.drewN k :=
  (size_of (w.drewN m) A n c bs hn h0 (h.drewN m) h4).mono fun _ _ ⟨he, hk⟩ => ⟨he, m, hk⟩

set_option maxRecDepth 100000 in
set_option maxHeartbeats 1000000 in
theorem fault4 (w : World) (B : Nat) (A : Option Addr) (n c : Nat) (bs : List UInt8) (hn : bs.length = n) (h0 : 3 < n) (h4 : n ≤ 140737488355328) (hB : Box w B A n c) (h : Rds w A bs) :
    Calls Try.prog 66 #[.pointer (some ⟨B, 0, none⟩)] w (BoolNo (q4 bs) w) := by
  have hc := hB.cell
  have HZ := Lib.hid (size_drewN w A n c bs hn (by omega) h h4)
  have HT := Lib.hid (tot_drewN w A n c bs hn h0 h h4)
  unfold q4
  rw [hn]
  obtain ⟨z, hz⟩ : ∃ z, sizeAt bs = z := ⟨_, rfl⟩
  obtain ⟨t, ht⟩ : ∃ z, totAt bs = z := ⟨_, rfl⟩
  rw [hz] at HZ
  rw [ht] at HT
  rw [hz, ht]
  clear hz ht h
  by_cases h1 : t < z
  · have g1 : decide ((t : Int) < z) = true := decide_eq_true (by omega)
    have g1' : decide (t < z) = true := decide_eq_true h1
    have hd : decide (t < z ∨ n < t) = true := decide_eq_true (.inl h1)
    rw [hd]
    clear hd h1
    go_enter Try.func66, Try.ntmps66
    go_wp2
    go_quiet (first | (go_at_call 41; exact (HZ.out _)) | (go_at_call 42; exact (HT.out _)))
    go_wp2
    go_ret
    exact ⟨rfl, (Frm.refl _ _).drewN _⟩
  · have g1 : decide ((t : Int) < z) = false := decide_eq_false (by omega)
    have g1' : decide (t < z) = false := decide_eq_false h1
    by_cases h2 : n < t
    · have g2 : decide ((n : Int) < t) = true := decide_eq_true (by omega)
      have g2' : decide (n < t) = true := decide_eq_true h2
      have hd : decide (t < z ∨ n < t) = true := decide_eq_true (.inr h2)
      rw [hd]
      clear hd h1 h2
      go_enter Try.func66, Try.ntmps66
      go_wp2
      go_quiet (first | (go_at_call 41; exact (HZ.out _)) | (go_at_call 42; exact (HT.out _)))
      go_wp2
      go_ret
      exact ⟨rfl, (Frm.refl _ _).drewN _⟩
    · have g2 : decide ((n : Int) < t) = false := decide_eq_false (by omega)
      have g2' : decide (n < t) = false := decide_eq_false h2
      have hd : decide (t < z ∨ n < t) = false := decide_eq_false (by omega)
      rw [hd]
      clear hd h1 h2
      go_enter Try.func66, Try.ntmps66
      go_wp2
      go_quiet (first | (go_at_call 41; exact (HZ.out _)) | (go_at_call 42; exact (HT.out _)))
      go_wp2
      go_ret
      exact ⟨rfl, (Frm.refl _ _).drewN _⟩

attribute [local irreducible] wpList wpQuiet

set_option maxRecDepth 100000 in
set_option maxHeartbeats 1000000 in
theorem fault5 (w : World) (B : Nat) (A : Option Addr) (n c : Nat) (bs : List UInt8) (hn : bs.length = n) (hc : n ≤ c) (h0 : 0 < n) (h4 : n ≤ 140737488355328) (hs : sizeAt bs ≤ n) (hB : Box w B A n c) (h : Rds w A bs) :
    Calls Try.prog 67 #[.pointer (some ⟨B, 0, none⟩)] w (BoolNo (q5 bs) w) := by
  have HB := Lib.hid hB
  have H := Lib.hid h
  have CB := Lib.hid (fun W (hf : Frm No w W) => Box.cell (w := W) (Blk.frm HB.out hf (fun x => x)))
  have HZ := Lib.hid (fun W (hf : Frm No w W) => size_of W A n c bs hn h0 (H.out.frm hf (fun _ _ x => x)) h4)
  have HR := Lib.hid (fun W (hf : Frm No w W) => right_any W A (sizeAt bs) c (bs.take (sizeAt bs)) (by simp; omega) (by omega) ((H.out.frm hf (fun _ _ x => x)).take _) (by omega))
  unfold q5
  obtain ⟨z, hz⟩ : ∃ z, sizeAt bs = z := ⟨_, rfl⟩
  rw [hz] at HZ HR hs ⊢
  obtain ⟨r, hr⟩ : ∃ r : Bool, decide (sumOf (bs.take z) = 65535) = r := ⟨_, rfl⟩
  rw [hr] at HR ⊢
  have m1 : (z : Int) ≤ c := by omega
  have m2 : (0 : Int) ≤ z := by omega
  clear hz hr hB h hn hc h0 h4 hs
  go_enter Try.func67, Try.ntmps67
  go_wp2_with fail
  refine region_class (fun W => Frm No w W) (by kernel_rfl) (by kernel_rfl) (Frm.refl No w).drew ?_
  repeat (refine wpQuiet_step (fun K hK => ?_); go_simp; first
      | (refine hK _ ?_; clear hK K)
      | (apply Exists.intro; refine ⟨fun W hW => ?_, hK _ ?_⟩; (first | rfl | ((have cc := CB.out W hW); go_simp; rfl)); clear hK K))
  refine wpQuiet_step (fun K hK => ?_)
  go_simp
  apply Exists.intro
  refine ⟨fun W hW => (HZ.out W hW).mono fun e w' ⟨he, hw⟩ => ⟨he, by rw [hw]; exact hW⟩, hK _ ?_⟩
  clear hK K
  repeat (refine wpQuiet_step (fun K hK => ?_); go_simp; first
      | (refine hK _ ?_; clear hK K)
      | (apply Exists.intro; refine ⟨fun W hW => ?_, hK _ ?_⟩; (first | rfl | ((have cc := CB.out W hW); go_simp; rfl)); clear hK K))
  refine wpQuiet_step (fun K hK => ?_)
  go_simp
  apply Exists.intro
  refine ⟨fun W hW => (HR.out W hW).mono fun e w' ⟨he, hf⟩ => ⟨he, hW.new0 hf⟩, hK _ ?_⟩
  clear hK K
  repeat (refine wpQuiet_step (fun K hK => ?_); go_simp; first
      | (refine hK _ ?_; clear hK K)
      | (apply Exists.intro; refine ⟨fun W hW => ?_, hK _ ?_⟩; (first | rfl | ((have cc := CB.out W hW); go_simp; rfl)); clear hK K))
  refine wpQuiet_nil ?_
  intro w1 hf
  have F1 := Lib.hid hf
  clear hf
  cases r <;>
  (go_wp2_with fail
   go_ret
   exact ⟨rfl, F1.out⟩)

set_option maxRecDepth 100000 in
set_option maxHeartbeats 1000000 in
theorem fault6 (w : World) (B : Nat) (A : Option Addr) (n c : Nat) (bs : List UInt8) (hn : bs.length = n) (h0 : 7 < n) (h4 : n ≤ 140737488355328) (hB : Box w B A n c) (h : Rds w A bs) :
    Calls Try.prog 68 #[.pointer (some ⟨B, 0, none⟩)] w (BoolNo (q6 bs) w) := by
  have hc := hB.cell
  have HW := Lib.hid (word_any w A n c bs 6 6 rfl hn (by omega) h h4)
  have hpl := wordAt_lt bs 6
  obtain ⟨r1, e1, f1⟩ := bits_two (wordAt bs 6) 15 32768 32768 rfl rfl hpl (by omega)
  have hq : q6 bs = decide (wordAt bs 6 / 32768 % 2 = 1) := rfl
  rw [← hq] at f1
  obtain ⟨p, hp⟩ : ∃ p, wordAt bs 6 = p := ⟨_, rfl⟩
  obtain ⟨b, hb⟩ : ∃ p, q6 bs = p := ⟨_, rfl⟩
  rw [hp] at HW e1
  rw [hb] at f1 ⊢
  clear hp hb hq h hpl
  go_enter Try.func68, Try.ntmps68
  go_wp2_with fail
  refine HW.out.mono ?_
  rintro e w1 ⟨rfl, m, rfl⟩
  go_wp2
  go_ret
  exact ⟨rfl, (Frm.refl _ _).drewN _⟩

theorem hdr_right (bs : List UInt8) (V : Option Addr) (c : Nat) (t z : Int) (ht : t = totAt bs) (hz : z = sizeAt bs) (W : World) :
    Calls Try.prog 20 #[hdrV bs (.slice V (sizeAt bs - 20) c), .int .i64 (t - z)] W (BoolNo (!q7 bs) W) := by
  subst ht hz
  have := right20 W (byteAt bs 1) (wordAt bs 4) (offAt bs) (byteAt bs 8) (byteAt bs 9) (addrAt bs 12) (addrAt bs 16) (dfAt bs) (mfAt bs) V (sizeAt bs - 20) c ((totAt bs : Int) - sizeAt bs) (by have := sizeAt_le bs; omega) (by unfold offAt; omega)
  unfold q7 hdrV
  simpa using this

set_option maxRecDepth 100000 in
set_option maxHeartbeats 1000000 in
theorem fault7 (w : World) (B : Nat) (A : Option Addr) (n c : Nat) (bs : List UInt8) (hn : bs.length = n) (h20 : 20 ≤ sizeAt bs) (hs : sizeAt bs ≤ n) (hc : n ≤ c) (h4 : n ≤ 140737488355328) (hB : Box w B A n c) (h : Rds w A bs) :
    Calls Try.prog 70 #[.pointer (some ⟨B, 0, none⟩)] w (BoolNo (q7 bs) w) := by
  have HB := Lib.hid hB
  have H := Lib.hid h
  have CB := Lib.hid (fun W (hf : Frm No w W) => Box.cell (w := W) (Blk.frm HB.out hf (fun x => x)))
  have HH := Lib.hid (fun W (hf : Frm No w W) => header_of W A n c bs hn h20 hs hc (H.out.frm hf (fun _ _ x => x)) h4)
  have HZ := Lib.hid (fun W (hf : Frm No w W) => size_of W A n c bs hn (by omega) (H.out.frm hf (fun _ _ x => x)) h4)
  have HT := Lib.hid (fun W (hf : Frm No w W) => total_of W A n c bs hn (by omega) (H.out.frm hf (fun _ _ x => x)) h4)
  have HR := Lib.hid (fun (V : Option Addr) (k : Nat) => hdr_right bs V k (totAt bs) (sizeAt bs) rfl rfl)
  have b1 := wordAt_lt bs 2
  have b2 := sizeAt_le bs
  have hs1 : IntKind.i64.wrap ((totAt bs : Int) - (sizeAt bs : Int)) = (totAt bs : Int) - sizeAt bs := by unfold totAt; rw [IntWalk.i64_in] <;> omega
  obtain ⟨z, hz⟩ : ∃ z, sizeAt bs = z := ⟨_, rfl⟩
  obtain ⟨t, ht⟩ : ∃ z, totAt bs = z := ⟨_, rfl⟩
  obtain ⟨q, hq⟩ : ∃ z, q7 bs = z := ⟨_, rfl⟩
  unfold HdrEnds at HH
  rw [hz] at HZ HH HR hs1
  rw [ht] at HT HR hs1
  rw [hq] at HR ⊢
  have F0 := Lib.hid (Frm.refl No w)
  have FD : Hid (Frm No w w.drew) := (Frm.refl No w).drew
  have c0 := CB.out _ FD.out
  clear hz ht hq hB h hn hc h4 hs h20 b1 b2
  unfold hdrV at HH HR
  go_enter Try.func70, Try.ntmps70
  go_wp2_with fail
  go_region_held3 (fun W => (W.cell? ⟨B, 0, none⟩ = some (.slice A n c)) ∧ Hid (Frm No w W)) ((refine ⟨?_, ?_⟩ <;> first | exact CB.out _ (Frm.drewN (Hid.out FC) _) | exact CB.out _ (Frm.drewN (Hid.out F0) _) | exact Lib.hid (Frm.drewN (Hid.out FC) _) | exact Lib.hid (Frm.drewN (Hid.out F0) _) | assumption | go_keep))
    (first
      | (go_at_call 41; (with_reducible refine (HZ.out _ ?_).mono ?_); (first | exact Frm.drewN (Hid.out FC) _ | exact Frm.drewN (Hid.out F0) _ | exact Hid.out FC | exact Hid.out FD | exact Hid.out F0); rintro e w' ⟨rfl, rfl⟩)
      | (go_at_call 42; (with_reducible refine (HT.out _ ?_).mono ?_); (first | exact Frm.drewN (Hid.out FC) _ | exact Frm.drewN (Hid.out F0) _ | exact Hid.out FC | exact Hid.out FD | exact Hid.out F0); rintro e w' ⟨rfl, m, rfl⟩)
      | (go_at_call 40; (with_reducible refine (HH.out _ ?_).mono ?_); (first | exact Frm.drewN (Hid.out FC) _ | exact Frm.drewN (Hid.out F0) _ | exact Hid.out FC | exact Hid.out FD | exact Hid.out F0); rintro e w' ⟨g, c', rfl, _, hf⟩; have FC := Lib.hid (Frm.new0 (by first | exact Frm.drewN (Hid.out F0) _ | exact Hid.out FD | exact Hid.out F0) hf); have _ := CB.out w' FC.out; clear hf)
      | (go_at_call 20; (with_reducible refine (HR.out _ _ _).mono ?_); rintro e w' ⟨rfl, hf⟩; have FC := Lib.hid (Frm.new0 (by first | exact Frm.drewN (Hid.out FC) _ | exact Hid.out FC) hf); have _ := CB.out w' FC.out; clear hf))
  all_goals
    go_wp2_with fail
    go_ret
    exact ⟨rfl, FC.out⟩
end Go.Proofs.Ytcclneaabnpbkaa
