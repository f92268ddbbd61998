/-
  AddrCovers: a range that does not end before it begins.
-/
import Derived.Test.YtknmnlbgjpbgiaaDoorCv0
import Derived.Deep.Cut
import Derived.Deep.CutRange
namespace Go.Proofs.YtknmnlbgjpbgiaaDoor
open Go.RowKit
attribute [local go_sem] undef
attribute [local irreducible] wpList wpQuiet

/-- The numbers of a round: f the first address, c and d the prefix's bounds, t the last address, x the other one. -/
structure Fx (f c d t x : Nat) : Prop where
  fc : f ≤ c
  ht : t < 4294967296
  hx : x < 4294967296
  cd : c ≤ d
  dt : d ≤ t
/-- Where the other address lies. -/
inductive XCase (f c x : Nat) (D : Int) : Bool → Bool → Bool → Prop
  | before (h : x < f) (h1 : ¬ (c : Int) ≤ x) : XCase f c x D false false false
  | seen (h1 : ¬ (c : Int) ≤ x) : XCase f c x D false true true
  | inside (h1 : (c : Int) ≤ x) (h2 : (x : Int) ≤ D) : XCase f c x D true false true
  | behind (h1 : (c : Int) ≤ x) (h2 : ¬ (x : Int) ≤ D) : XCase f c x D false false false
theorem x_case {f c d t x : Nat} {D : Int} (h : Fx f c d t x) (hD : (d : Int) = D) : XCase f c x D (decide (c ≤ x ∧ x ≤ d)) (decide (f ≤ x ∧ x < c)) (decide (f ≤ x ∧ x < d + 1)) := by
  obtain ⟨h1, _, _, h4, _⟩ := h
  by_cases a : x < f
  · rw [decide_eq_false (by omega), decide_eq_false (by omega), decide_eq_false (by omega)]
    exact .before a (by omega)
  · by_cases b : x < c
    · rw [decide_eq_false (by omega), decide_eq_true (by omega), decide_eq_true (by omega)]
      exact .seen (by omega)
    · by_cases e : x ≤ d
      · rw [decide_eq_true (by omega), decide_eq_false (by omega), decide_eq_true (by omega)]
        exact .inside (by omega) (by omega)
      · rw [decide_eq_false (by omega), decide_eq_false (by omega), decide_eq_false (by omega)]
        exact .behind (by omega) (by omega)

def HasNo (c n : Nat) (y : Int) : Prop := ∀ W, Calls Tryd.prog 18 #[.agg #[.int .u32 (c : Int), .int .u8 (n : Int)], .int .u32 y] W (BoolNo false W)
/-- Is there an address before the prefix? -/
structure LoP (c n : Nat) (C : Int) : Prop where
  pos : 0 < (c : Int)
  eq : (c : Int) - 1 = C
  lt : C < 4294967296
  nn : 0 ≤ C
  no : HasNo c n C
structure LoZ (c : Nat) : Prop where
  no : ¬ 0 < (c : Int)
theorem lo_case {f c d t x n : Nat} {vx : Bool} (h : Fx f c d t x) (r : CvR c n d x vx) : (∃ C, LoP c n C) ∨ LoZ c := by
  obtain ⟨h1, _, _, h4, _⟩ := h
  by_cases a : 0 < c
  · exact .inl ⟨(c : Int) - 1, by omega, rfl, by omega, by omega, r.M a⟩
  · exact .inr ⟨by omega⟩
/-- Is there an address behind it? -/
structure HiL (c d n : Nat) (D E : Int) : Prop where
  lt : D < 4294967295
  eq : D + 1 = E
  lt2 : E < 4294967296
  no : HasNo c n E
structure HiM (D : Int) : Prop where
  no : ¬ D < 4294967295
theorem hi_case {f c d t x n : Nat} {vx : Bool} {D : Int} (h : Fx f c d t x) (r : CvR c n d x vx) (hD : (d : Int) = D) : (∃ E, HiL c d n D E) ∨ HiM D := by
  obtain ⟨_, _, _, _, h5⟩ := h
  by_cases a : d < 4294967295
  · exact .inl ⟨D + 1, by omega, rfl, by omega, by rw [← hD]; exact r.P a⟩
  · exact .inr ⟨by omega⟩
theorem no_az {f c d t x : Nat} (h : Fx f c d t x) (k : LoZ c) (e : ¬ (c : Int) ≤ x) : False := by obtain ⟨_, _, _, _, _⟩ := h; obtain ⟨_⟩ := k; omega
theorem no_dm {f c d t x : Nat} {D : Int} (h : Fx f c d t x) (k : HiM D) (hD : (d : Int) = D) (e : ¬ (x : Int) ≤ D) : False := by obtain ⟨_, _, _, _, _⟩ := h; obtain ⟨_⟩ := k; omega

/-- The prefix before. -/
structure JO (L : List (Nat × Nat)) (j n i a m N : Nat) : Prop where
  pos : 0 < (j : Int)
  pos2 : 0 < j
  dec : decide (0 < j) = true
  dec2 : decide (0 < (j : Int)) = true
  eq : IntKind.i64.wrap ((j : Int) - 1) = (i : Int)
  lt : (i : Int) < N
  prev : L[i]? = some (a, m)
  ne : ((m : Int) == n) = false
  ne2 : ¬ (m : Int) = n
structure JS (L : List (Nat × Nat)) (j c n i a N q nm : Nat) : Prop where
  pos : 0 < (j : Int)
  pos2 : 0 < j
  dec : decide (0 < j) = true
  dec2 : decide (0 < (j : Int)) = true
  eq : IntKind.i64.wrap ((j : Int) - 1) = (i : Int)
  lt : (i : Int) < N
  prev : L[i]? = some (a, n)
  up : IntKind.u8.wrap ((n : Int) - 1) = (nm : Int)
  cut : ∀ W, Calls Tryd.prog 19 #[.int .u32 (c : Int), .int .u8 (nm : Int)] W fun e w' => e = .returned (.tuple #[.agg #[.int .u32 (q : Int), .int .u8 (nm : Int)], .int .i64 0]) ∧ Frm No W w'
  out : ∀ W, Calls Tryd.prog 20 #[.agg #[.int .u32 (a : Int), .int .u8 (n : Int)], .agg #[.int .u32 (q : Int), .int .u8 (nm : Int)]] W (BoolNo false W)
theorem j_case {f t : Nat} {L : List (Nat × Nat)} {j c n N : Nat} (hl : Lined t f L) (ht : t < 4294967296) (hN : L.length = N) (hN2 : N ≤ 62) (hj : L[j]? = some (c, n)) :
    j = 0 ∨ (∃ i a m, JO L j n i a m N) ∨ ∃ i a q nm, JS L j c n i a N q nm := by
  by_cases h0 : j = 0
  · exact .inl h0
  · right
    have hjl := (List.getElem?_eq_some_iff.1 hj).1
    have h2 : j - 1 < L.length := by omega
    obtain ⟨⟨a, m⟩, hy⟩ : ∃ p, L[j - 1]? = some p := ⟨_, List.getElem?_eq_getElem h2⟩
    have hg := hl.good _ a m hy
    have hgc := hl.good _ c n hj
    have hnx := hl.next (j - 1) a m c n hy (by rw [show j - 1 + 1 = j by omega]; exact hj)
    have hw : IntKind.i64.wrap ((j : Int) - 1) = ((j - 1 : Nat) : Int) := by rw [IntWalk.i64_in] <;> omega
    by_cases hmn : m = n
    · subst hmn
      have hno := not_one ht hg.1 hg.2.1 hgc.1 hnx
      have hm := (good_iff c t m).1 hgc.1
      have hp := sz_pos m
      refine .inr ⟨j - 1, a, cutN c (m - 1), m - 1, by omega, by omega, decide_eq_true (by omega), decide_eq_true (by omega), hw, by omega, hy, by rw [IntKind.wrap_u8]; omega, fun W => ?_, fun W => ?_⟩
      · exact cut_yes W c (m - 1) (by omega) (by omega)
      · have h := inside_pfx W a m (cutN c (m - 1)) (m - 1) (by omega) (by omega) (Nat.lt_of_le_of_lt (cut_le _ _) (by omega)) (by omega)
        rw [hno.2] at h
        exact h
    · exact .inl ⟨j - 1, a, m, by omega, by omega, decide_eq_true (by omega), decide_eq_true (by omega), hw, by omega, hy, by simp; omega, by omega⟩

/-- Behind the round. -/
structure Nx (d : Nat) (D E : Int) : Prop where
  eq : D + 1 = E
  lt : E < 4294967297
  lt1 : D < 4294967296
  nn : 0 ≤ D
  is : E = ((d + 1 : Nat) : Int)
theorem nx_of {f c d t x : Nat} {D : Int} (h : Fx f c d t x) (hD : (d : Int) = D) : ∃ E, Nx d D E := by
  obtain ⟨_, _, _, _, _⟩ := h
  exact ⟨D + 1, rfl, by omega, by omega, by omega, by omega⟩
theorem fx_c {f c d t x : Nat} (h : Fx f c d t x) : (c : Int) < 4294967296 := by obtain ⟨_, _, _, _, _⟩ := h; omega

set_option maxRecDepth 100000 in
set_option maxHeartbeats 20000000 in
theorem covers_yes (w : World) (htab : Tab w) (f t x : Nat) (hf0 : f < 4294967296) (ht0 : t < 4294967296) (hx0 : x < 4294967296) (h : f ≤ t) :
    Calls Tryd.prog 6 #[.int .u32 (f : Int), .int .u32 (t : Int), .int .u32 (x : Int)] w fun e w' => e = .returned (.bool true) ∧ Frm No w w' := by
  have T0 := Lib.hid htab
  clear htab
  have hlt : ¬ (t : Int) < f := by omega
  have LEN := cov_len f t h ht0
  have LIN := Lib.hid (cov_lined f t h)
  have CV := Lib.hid (fun W => cover_yes W f t hf0 ht0 h)
  generalize hL : cov f t = L at *
  have CV2 : Hid (∀ W, Calls Tryd.prog 15 #[.int .u32 (f : Int), .int .u32 (t : Int)] W fun e w' => ∃ g c, e = .returned (.tuple #[.slice (some ⟨g, 0, none⟩) L.length c, .int .i64 0]) ∧ Pfs w' (.slice (some ⟨g, 0, none⟩) L.length c) L ∧ Frm No W w') := by
    refine Lib.hid fun W => (CV.out W).mono ?_
    rintro e w' ⟨v, rfl, hr, hb⟩
    rw [hL] at hr
    obtain ⟨y, l, hl⟩ : ∃ y l, L = y :: l := by
      cases L with
      | nil => simp at LEN
      | cons y l => exact ⟨y, l, rfl⟩
    have hr' := hr
    rw [show L.length = l.length + 1 by rw [hl]; rfl] at hr'
    obtain ⟨g, c, rfl⟩ := ownsRow_succ hr'
    refine ⟨g, c, ?_, ?_, frm_of_below hb⟩
    · rw [show L.length = l.length + 1 by rw [hl]; rfl]
    · have := Pfs.of_own rfl hr
      rw [show L.length = l.length + 1 by rw [hl]; rfl]
      exact this
  clear CV hL
  obtain ⟨N, hN⟩ : ∃ N, L.length = N := ⟨_, rfl⟩
  rw [hN] at LEN CV2
  have l1 : ¬ (N : Int) = 0 := by omega
  have l2 : ¬ (62 : Int) < N := by omega
  have l3 : ((N : Int) == 0) = false := by
    rw [Bool.eq_false_iff]
    simp
    omega
  have l4 : (N : Int) ≤ 62 := by omega
  have l5 : ¬ t < f := by omega
  have HN := Lib.hid hN
  have HLEN := Lib.hid LEN
  clear hN LEN
  go_enter Tryd.func6, Tryd.ntmps6
  go_wp2_with fail
  refine (awake _ T0.out).mono ?_
  rintro e w1 ⟨rfl, hf⟩
  have F1 := Lib.hid hf
  clear hf
  go_wp2_with fail
  refine (CV2.out _).mono ?_
  rintro e w2 ⟨g, cap, rfl, hp, hf⟩
  have F2 := Lib.hid (F1.out.new0 hf)
  have PF := Lib.hid hp
  clear hf hp F1 CV2 T0
  go_wp2_with fail
  clear l1 l2 l3 l4 l5 hlt
  go_loopw [9, 10, 52] (fun nx inn i wr => ∃ (j c : Nat) (ib : Bool), j ≤ N ∧ i = .int .i64 (j : Int) ∧ nx = .int .u64 (c : Int) ∧ inn = .bool ib ∧ Hid (ib = decide (f ≤ x ∧ x < c)) ∧ Hid ((j < N → ∃ n, L[j]? = some (c, n)) ∧ (j = N → c = t + 1) ∧ f ≤ c) ∧ Hid (Frm No w2 wr)) (fun _ _ i _ => N - (RowKit.intOf i).toNat)
  case atStart =>
    refine ⟨0, f, false, by omega, rfl, rfl, rfl, ?_, ⟨fun _ => LIN.out.head, fun h0 => by have := HLEN.out; omega, Nat.le_refl _⟩, Frm.refl _ _⟩
    exact (decide_eq_false (by omega)).symm
  case round =>
    obtain ⟨j, c, ib, hj, rfl, rfl, rfl, HIB, HI, HF⟩ := hrel
    by_cases hjN : j < N
    · have LF := Lib.hid (show f ≤ c from HI.out.2.2)
      obtain ⟨n, hn⟩ := HI.out.1 hjN
      obtain ⟨hgood, hleast, _, hct⟩ := LIN.out.good j c n hn
      have hg := (good_iff c t n).1 hgood
      have hr : rightB c n = true := by unfold rightB; exact decide_eq_true ⟨hg.1, hg.2.1⟩
      have hsz := sz_pos n
      have hdt : top c n ≤ t := by unfold top; omega
      have CR := Lib.hid (cvR_of c n t x (by omega) hg.1 ht0 hx0 hr hdt)
      have NX : Hid ((j + 1 < N → ∃ m, L[j + 1]? = some (top c n + 1, m)) ∧ (j + 1 = N → top c n + 1 = t + 1)) := by
        refine Lib.hid ⟨fun h1 => ?_, fun h1 => ?_⟩
        · have h2 : j + 1 < L.length := by rw [HN.out]; exact h1
          obtain ⟨⟨y, m⟩, hy⟩ : ∃ p, L[j + 1]? = some p := ⟨_, List.getElem?_eq_getElem h2⟩
          have := LIN.out.next j c n y m hn hy
          exact ⟨m, by rw [hy, this]⟩
        · have := LIN.out.last j c n hn (by rw [HN.out]; exact h1.symm)
          omega
      have hcd := top_ge c n
      have KEEP := Lib.hid (And.intro hgood (And.intro hleast hn))
      clear hgood hleast hg hr hsz HI
      have TD : Hid (∃ d, top c n = d) := Lib.hid ⟨_, rfl⟩
      obtain ⟨d, hd⟩ := TD.out
      rw [hd] at CR NX hcd hdt
      have HD := Lib.hid hd
      clear hd TD
      obtain ⟨D, hD⟩ : ∃ D : Int, (d : Int) = D := ⟨_, rfl⟩
      have nlt : (j : Int) < N := by omega
      have ncd : ¬ D < c := by omega
      have FACTS : Fx f c d t x := ⟨LF.out, ht0, hx0, hcd, hdt⟩
      have XC := x_case FACTS hD
      rw [← HIB.out] at XC
      obtain ⟨vx, hvx⟩ : ∃ vx, decide (c ≤ x ∧ x ≤ d) = vx := ⟨_, rfl⟩
      obtain ⟨nb, hnb⟩ : ∃ nb, decide (f ≤ x ∧ x < d + 1) = nb := ⟨_, rfl⟩
      rw [hvx] at XC CR
      rw [hnb] at XC
      have HNB := Lib.hid hnb
      have HXC := Lib.hid XC
      have HLO := Lib.hid (lo_case FACTS CR.out)
      have HHI := Lib.hid (hi_case FACTS CR.out hD)
      have HJ := Lib.hid (j_case LIN.out ht0 HN.out HLEN.out.1 KEEP.out.2.2)
      have HNX := Lib.hid (nx_of FACTS hD)
      have HDD := Lib.hid hD
      have HJN := Lib.hid (Nat.succ_le_of_lt hjN)
      have CB : Hid (∀ W, Calls Tryd.prog 16 #[.agg #[.int .u32 (c : Int), .int .u8 (n : Int)]] W fun e w' => e = .returned (.tuple #[.int .u32 (c : Int), .int .u32 D, .int .i64 0]) ∧ Frm No W w') := Lib.hid (fun W => hD ▸ CR.out.B W)
      have CD : Hid (∀ W, Calls Tryd.prog 18 #[.agg #[.int .u32 (c : Int), .int .u8 (n : Int)], .int .u32 D] W (BoolNo true W)) := Lib.hid (fun W => hD ▸ CR.out.D W)
      clear hct ht0 hx0 hcd hdt hD hvx hnb XC HIB hf0 LF
      obtain ⟨z0, z1⟩ := pfs_at (PF.out.frm HF.out) KEEP.out.2.2
      go_upto_region 13 with (first | (refine (CB.out _).mono ?_; rintro e v1 ⟨rfl, hf⟩; have K1 := Lib.hid hf; clear hf))
      have PB := Lib.hid (Blk.new wr 24 #[.int .u32 (c : Int), .int .u8 (n : Int)])
      have H0 := Lib.hid (HF.out.alloc (.cells #[.int .u32 (c : Int), .int .u8 (n : Int)] 24))
      have PC := Lib.hid (fun W (hW : Frm No (wr.alloc (.cells #[.int .u32 (c : Int), .int .u8 (n : Int)] 24)) W) => blk_cells2 (PB.out.frm hW (fun x => x)))
      clear PB z0 z1
      go_cut [126] from 63 to 126 (fun t wx => t = .bool false ∧ Hid (Frm No (wr.alloc (.cells #[.int .u32 (c : Int), .int .u8 (n : Int)] 24)) wx))
      case first =>
        clear HJ HNX KEEP NX HNB HJN
        cases HXC.out with
        | before hx x1 =>
          clear hx
          rcases HLO.out with ⟨C, LO⟩ | LO
          · rcases HHI.out with ⟨E, HI⟩ | HI
            · clear HLO HHI HXC
              obtain ⟨p0, p1, _, _⟩ := PC.out _ K1.out
              go_wp2_with fail
              refine (CR.out.R _).mono ?_
              rintro e v2 ⟨rfl, hf⟩
              have K2 := Lib.hid (K1.out.new0 hf)
              clear hf p0 p1
              obtain ⟨p0, p1, _, _⟩ := PC.out _ K2.out
              have hcb : (c : Int) < 4294967296 := fx_c FACTS
              go_wp2_with fail
              clear hcb
              refine (CR.out.L _).mono ?_
              rintro e v3 ⟨rfl, hf⟩
              have K3 := Lib.hid (K2.out.new0 hf)
              clear hf p0 p1 K2
              obtain ⟨p0, p1, _, _⟩ := PC.out _ K3.out
              go_wp2_with fail
              refine (CD.out _).mono ?_
              rintro e v4 ⟨rfl, hf⟩
              have K4 := Lib.hid (K3.out.new0 hf)
              clear hf p0 p1 K3
              obtain ⟨p0, p1, _, _⟩ := PC.out _ K4.out
              go_wp2_with fail
              refine (CR.out.X _).mono ?_
              rintro e v5 ⟨rfl, hf⟩
              have K5 := Lib.hid (K4.out.new0 hf)
              clear hf p0 p1 K4
              obtain ⟨p0, p1, _, _⟩ := PC.out _ K5.out
              obtain ⟨lo1, lo2, lo3, lo4, lo5⟩ := LO
              have LO5 := Lib.hid lo5
              clear lo5
              go_wp2_with fail
              clear lo1 lo2 lo3 lo4
              refine (LO5.out _).mono ?_
              rintro e v6 ⟨rfl, hf⟩
              have K6 := Lib.hid (K5.out.new0 hf)
              clear hf p0 p1 K5 LO5
              obtain ⟨p0, p1, _, _⟩ := PC.out _ K6.out
              obtain ⟨hi1, hi2, hi3, hi4⟩ := HI
              have HI4 := Lib.hid hi4
              clear hi4
              go_wp2_with fail
              clear hi1 hi2 hi3
              refine (HI4.out _).mono ?_
              rintro e v7 ⟨rfl, hf⟩
              have K7 := Lib.hid (K6.out.new0 hf)
              clear hf p0 p1 K6 HI4
              obtain ⟨p0, p1, _, _⟩ := PC.out _ K7.out
              go_wp2_with fail
              go_meet
              exact ⟨by first | rfl | exact congrArg Value.bool (by simp; omega), K7.out⟩
            · clear HLO HHI HXC
              obtain ⟨p0, p1, _, _⟩ := PC.out _ K1.out
              go_wp2_with fail
              refine (CR.out.R _).mono ?_
              rintro e v2 ⟨rfl, hf⟩
              have K2 := Lib.hid (K1.out.new0 hf)
              clear hf p0 p1
              obtain ⟨p0, p1, _, _⟩ := PC.out _ K2.out
              have hcb : (c : Int) < 4294967296 := fx_c FACTS
              go_wp2_with fail
              clear hcb
              refine (CR.out.L _).mono ?_
              rintro e v3 ⟨rfl, hf⟩
              have K3 := Lib.hid (K2.out.new0 hf)
              clear hf p0 p1 K2
              obtain ⟨p0, p1, _, _⟩ := PC.out _ K3.out
              go_wp2_with fail
              refine (CD.out _).mono ?_
              rintro e v4 ⟨rfl, hf⟩
              have K4 := Lib.hid (K3.out.new0 hf)
              clear hf p0 p1 K3
              obtain ⟨p0, p1, _, _⟩ := PC.out _ K4.out
              go_wp2_with fail
              refine (CR.out.X _).mono ?_
              rintro e v5 ⟨rfl, hf⟩
              have K5 := Lib.hid (K4.out.new0 hf)
              clear hf p0 p1 K4
              obtain ⟨p0, p1, _, _⟩ := PC.out _ K5.out
              obtain ⟨lo1, lo2, lo3, lo4, lo5⟩ := LO
              have LO5 := Lib.hid lo5
              clear lo5
              go_wp2_with fail
              clear lo1 lo2 lo3 lo4
              refine (LO5.out _).mono ?_
              rintro e v6 ⟨rfl, hf⟩
              have K6 := Lib.hid (K5.out.new0 hf)
              clear hf p0 p1 K5 LO5
              obtain ⟨p0, p1, _, _⟩ := PC.out _ K6.out
              obtain ⟨hi1⟩ := HI
              go_wp2_with fail
              go_meet
              exact ⟨by first | rfl | exact congrArg Value.bool (by simp; omega), K6.out⟩
          · exact (no_az FACTS LO x1).elim
        | seen x1 =>
          rcases HLO.out with ⟨C, LO⟩ | LO
          · rcases HHI.out with ⟨E, HI⟩ | HI
            · clear HLO HHI HXC
              obtain ⟨p0, p1, _, _⟩ := PC.out _ K1.out
              go_wp2_with fail
              refine (CR.out.R _).mono ?_
              rintro e v2 ⟨rfl, hf⟩
              have K2 := Lib.hid (K1.out.new0 hf)
              clear hf p0 p1
              obtain ⟨p0, p1, _, _⟩ := PC.out _ K2.out
              have hcb : (c : Int) < 4294967296 := fx_c FACTS
              go_wp2_with fail
              clear hcb
              refine (CR.out.L _).mono ?_
              rintro e v3 ⟨rfl, hf⟩
              have K3 := Lib.hid (K2.out.new0 hf)
              clear hf p0 p1 K2
              obtain ⟨p0, p1, _, _⟩ := PC.out _ K3.out
              go_wp2_with fail
              refine (CD.out _).mono ?_
              rintro e v4 ⟨rfl, hf⟩
              have K4 := Lib.hid (K3.out.new0 hf)
              clear hf p0 p1 K3
              obtain ⟨p0, p1, _, _⟩ := PC.out _ K4.out
              go_wp2_with fail
              refine (CR.out.X _).mono ?_
              rintro e v5 ⟨rfl, hf⟩
              have K5 := Lib.hid (K4.out.new0 hf)
              clear hf p0 p1 K4
              obtain ⟨p0, p1, _, _⟩ := PC.out _ K5.out
              obtain ⟨lo1, lo2, lo3, lo4, lo5⟩ := LO
              have LO5 := Lib.hid lo5
              clear lo5
              go_wp2_with fail
              clear lo1 lo2 lo3 lo4
              refine (LO5.out _).mono ?_
              rintro e v6 ⟨rfl, hf⟩
              have K6 := Lib.hid (K5.out.new0 hf)
              clear hf p0 p1 K5 LO5
              obtain ⟨p0, p1, _, _⟩ := PC.out _ K6.out
              obtain ⟨hi1, hi2, hi3, hi4⟩ := HI
              have HI4 := Lib.hid hi4
              clear hi4
              go_wp2_with fail
              clear hi1 hi2 hi3
              refine (HI4.out _).mono ?_
              rintro e v7 ⟨rfl, hf⟩
              have K7 := Lib.hid (K6.out.new0 hf)
              clear hf p0 p1 K6 HI4
              obtain ⟨p0, p1, _, _⟩ := PC.out _ K7.out
              go_wp2_with fail
              go_meet
              exact ⟨by first | rfl | exact congrArg Value.bool (by simp; omega), K7.out⟩
            · clear HLO HHI HXC
              obtain ⟨p0, p1, _, _⟩ := PC.out _ K1.out
              go_wp2_with fail
              refine (CR.out.R _).mono ?_
              rintro e v2 ⟨rfl, hf⟩
              have K2 := Lib.hid (K1.out.new0 hf)
              clear hf p0 p1
              obtain ⟨p0, p1, _, _⟩ := PC.out _ K2.out
              have hcb : (c : Int) < 4294967296 := fx_c FACTS
              go_wp2_with fail
              clear hcb
              refine (CR.out.L _).mono ?_
              rintro e v3 ⟨rfl, hf⟩
              have K3 := Lib.hid (K2.out.new0 hf)
              clear hf p0 p1 K2
              obtain ⟨p0, p1, _, _⟩ := PC.out _ K3.out
              go_wp2_with fail
              refine (CD.out _).mono ?_
              rintro e v4 ⟨rfl, hf⟩
              have K4 := Lib.hid (K3.out.new0 hf)
              clear hf p0 p1 K3
              obtain ⟨p0, p1, _, _⟩ := PC.out _ K4.out
              go_wp2_with fail
              refine (CR.out.X _).mono ?_
              rintro e v5 ⟨rfl, hf⟩
              have K5 := Lib.hid (K4.out.new0 hf)
              clear hf p0 p1 K4
              obtain ⟨p0, p1, _, _⟩ := PC.out _ K5.out
              obtain ⟨lo1, lo2, lo3, lo4, lo5⟩ := LO
              have LO5 := Lib.hid lo5
              clear lo5
              go_wp2_with fail
              clear lo1 lo2 lo3 lo4
              refine (LO5.out _).mono ?_
              rintro e v6 ⟨rfl, hf⟩
              have K6 := Lib.hid (K5.out.new0 hf)
              clear hf p0 p1 K5 LO5
              obtain ⟨p0, p1, _, _⟩ := PC.out _ K6.out
              obtain ⟨hi1⟩ := HI
              go_wp2_with fail
              go_meet
              exact ⟨by first | rfl | exact congrArg Value.bool (by simp; omega), K6.out⟩
          · exact (no_az FACTS LO x1).elim
        | inside x1 x2 =>
          rcases HLO.out with ⟨C, LO⟩ | LO
          · rcases HHI.out with ⟨E, HI⟩ | HI
            · clear HLO HHI HXC
              obtain ⟨p0, p1, _, _⟩ := PC.out _ K1.out
              go_wp2_with fail
              refine (CR.out.R _).mono ?_
              rintro e v2 ⟨rfl, hf⟩
              have K2 := Lib.hid (K1.out.new0 hf)
              clear hf p0 p1
              obtain ⟨p0, p1, _, _⟩ := PC.out _ K2.out
              have hcb : (c : Int) < 4294967296 := fx_c FACTS
              go_wp2_with fail
              clear hcb
              refine (CR.out.L _).mono ?_
              rintro e v3 ⟨rfl, hf⟩
              have K3 := Lib.hid (K2.out.new0 hf)
              clear hf p0 p1 K2
              obtain ⟨p0, p1, _, _⟩ := PC.out _ K3.out
              go_wp2_with fail
              refine (CD.out _).mono ?_
              rintro e v4 ⟨rfl, hf⟩
              have K4 := Lib.hid (K3.out.new0 hf)
              clear hf p0 p1 K3
              obtain ⟨p0, p1, _, _⟩ := PC.out _ K4.out
              go_wp2_with fail
              refine (CR.out.X _).mono ?_
              rintro e v5 ⟨rfl, hf⟩
              have K5 := Lib.hid (K4.out.new0 hf)
              clear hf p0 p1 K4
              obtain ⟨p0, p1, _, _⟩ := PC.out _ K5.out
              obtain ⟨lo1, lo2, lo3, lo4, lo5⟩ := LO
              have LO5 := Lib.hid lo5
              clear lo5
              go_wp2_with fail
              clear lo1 lo2 lo3 lo4
              refine (LO5.out _).mono ?_
              rintro e v6 ⟨rfl, hf⟩
              have K6 := Lib.hid (K5.out.new0 hf)
              clear hf p0 p1 K5 LO5
              obtain ⟨p0, p1, _, _⟩ := PC.out _ K6.out
              obtain ⟨hi1, hi2, hi3, hi4⟩ := HI
              have HI4 := Lib.hid hi4
              clear hi4
              go_wp2_with fail
              clear hi1 hi2 hi3
              refine (HI4.out _).mono ?_
              rintro e v7 ⟨rfl, hf⟩
              have K7 := Lib.hid (K6.out.new0 hf)
              clear hf p0 p1 K6 HI4
              obtain ⟨p0, p1, _, _⟩ := PC.out _ K7.out
              go_wp2_with fail
              go_meet
              exact ⟨by first | rfl | exact congrArg Value.bool (by simp; omega), K7.out⟩
            · clear HLO HHI HXC
              obtain ⟨p0, p1, _, _⟩ := PC.out _ K1.out
              go_wp2_with fail
              refine (CR.out.R _).mono ?_
              rintro e v2 ⟨rfl, hf⟩
              have K2 := Lib.hid (K1.out.new0 hf)
              clear hf p0 p1
              obtain ⟨p0, p1, _, _⟩ := PC.out _ K2.out
              have hcb : (c : Int) < 4294967296 := fx_c FACTS
              go_wp2_with fail
              clear hcb
              refine (CR.out.L _).mono ?_
              rintro e v3 ⟨rfl, hf⟩
              have K3 := Lib.hid (K2.out.new0 hf)
              clear hf p0 p1 K2
              obtain ⟨p0, p1, _, _⟩ := PC.out _ K3.out
              go_wp2_with fail
              refine (CD.out _).mono ?_
              rintro e v4 ⟨rfl, hf⟩
              have K4 := Lib.hid (K3.out.new0 hf)
              clear hf p0 p1 K3
              obtain ⟨p0, p1, _, _⟩ := PC.out _ K4.out
              go_wp2_with fail
              refine (CR.out.X _).mono ?_
              rintro e v5 ⟨rfl, hf⟩
              have K5 := Lib.hid (K4.out.new0 hf)
              clear hf p0 p1 K4
              obtain ⟨p0, p1, _, _⟩ := PC.out _ K5.out
              obtain ⟨lo1, lo2, lo3, lo4, lo5⟩ := LO
              have LO5 := Lib.hid lo5
              clear lo5
              go_wp2_with fail
              clear lo1 lo2 lo3 lo4
              refine (LO5.out _).mono ?_
              rintro e v6 ⟨rfl, hf⟩
              have K6 := Lib.hid (K5.out.new0 hf)
              clear hf p0 p1 K5 LO5
              obtain ⟨p0, p1, _, _⟩ := PC.out _ K6.out
              obtain ⟨hi1⟩ := HI
              go_wp2_with fail
              go_meet
              exact ⟨by first | rfl | exact congrArg Value.bool (by simp; omega), K6.out⟩
          · rcases HHI.out with ⟨E, HI⟩ | HI
            · clear HLO HHI HXC
              obtain ⟨p0, p1, _, _⟩ := PC.out _ K1.out
              go_wp2_with fail
              refine (CR.out.R _).mono ?_
              rintro e v2 ⟨rfl, hf⟩
              have K2 := Lib.hid (K1.out.new0 hf)
              clear hf p0 p1
              obtain ⟨p0, p1, _, _⟩ := PC.out _ K2.out
              have hcb : (c : Int) < 4294967296 := fx_c FACTS
              go_wp2_with fail
              clear hcb
              refine (CR.out.L _).mono ?_
              rintro e v3 ⟨rfl, hf⟩
              have K3 := Lib.hid (K2.out.new0 hf)
              clear hf p0 p1 K2
              obtain ⟨p0, p1, _, _⟩ := PC.out _ K3.out
              go_wp2_with fail
              refine (CD.out _).mono ?_
              rintro e v4 ⟨rfl, hf⟩
              have K4 := Lib.hid (K3.out.new0 hf)
              clear hf p0 p1 K3
              obtain ⟨p0, p1, _, _⟩ := PC.out _ K4.out
              go_wp2_with fail
              refine (CR.out.X _).mono ?_
              rintro e v5 ⟨rfl, hf⟩
              have K5 := Lib.hid (K4.out.new0 hf)
              clear hf p0 p1 K4
              obtain ⟨p0, p1, _, _⟩ := PC.out _ K5.out
              obtain ⟨lo1⟩ := LO
              obtain ⟨hi1, hi2, hi3, hi4⟩ := HI
              have HI4 := Lib.hid hi4
              clear hi4
              go_wp2_with fail
              clear hi1 hi2 hi3
              refine (HI4.out _).mono ?_
              rintro e v7 ⟨rfl, hf⟩
              have K7 := Lib.hid (K5.out.new0 hf)
              clear hf p0 p1 K5 HI4
              obtain ⟨p0, p1, _, _⟩ := PC.out _ K7.out
              go_wp2_with fail
              go_meet
              exact ⟨by first | rfl | exact congrArg Value.bool (by simp; omega), K7.out⟩
            · clear HLO HHI HXC
              obtain ⟨p0, p1, _, _⟩ := PC.out _ K1.out
              go_wp2_with fail
              refine (CR.out.R _).mono ?_
              rintro e v2 ⟨rfl, hf⟩
              have K2 := Lib.hid (K1.out.new0 hf)
              clear hf p0 p1
              obtain ⟨p0, p1, _, _⟩ := PC.out _ K2.out
              have hcb : (c : Int) < 4294967296 := fx_c FACTS
              go_wp2_with fail
              clear hcb
              refine (CR.out.L _).mono ?_
              rintro e v3 ⟨rfl, hf⟩
              have K3 := Lib.hid (K2.out.new0 hf)
              clear hf p0 p1 K2
              obtain ⟨p0, p1, _, _⟩ := PC.out _ K3.out
              go_wp2_with fail
              refine (CD.out _).mono ?_
              rintro e v4 ⟨rfl, hf⟩
              have K4 := Lib.hid (K3.out.new0 hf)
              clear hf p0 p1 K3
              obtain ⟨p0, p1, _, _⟩ := PC.out _ K4.out
              go_wp2_with fail
              refine (CR.out.X _).mono ?_
              rintro e v5 ⟨rfl, hf⟩
              have K5 := Lib.hid (K4.out.new0 hf)
              clear hf p0 p1 K4
              obtain ⟨p0, p1, _, _⟩ := PC.out _ K5.out
              obtain ⟨lo1⟩ := LO
              obtain ⟨hi1⟩ := HI
              go_wp2_with fail
              go_meet
              exact ⟨by first | rfl | exact congrArg Value.bool (by simp; omega), K5.out⟩
        | behind x1 x2 =>
          rcases HLO.out with ⟨C, LO⟩ | LO
          · rcases HHI.out with ⟨E, HI⟩ | HI
            · clear HLO HHI HXC
              obtain ⟨p0, p1, _, _⟩ := PC.out _ K1.out
              go_wp2_with fail
              refine (CR.out.R _).mono ?_
              rintro e v2 ⟨rfl, hf⟩
              have K2 := Lib.hid (K1.out.new0 hf)
              clear hf p0 p1
              obtain ⟨p0, p1, _, _⟩ := PC.out _ K2.out
              have hcb : (c : Int) < 4294967296 := fx_c FACTS
              go_wp2_with fail
              clear hcb
              refine (CR.out.L _).mono ?_
              rintro e v3 ⟨rfl, hf⟩
              have K3 := Lib.hid (K2.out.new0 hf)
              clear hf p0 p1 K2
              obtain ⟨p0, p1, _, _⟩ := PC.out _ K3.out
              go_wp2_with fail
              refine (CD.out _).mono ?_
              rintro e v4 ⟨rfl, hf⟩
              have K4 := Lib.hid (K3.out.new0 hf)
              clear hf p0 p1 K3
              obtain ⟨p0, p1, _, _⟩ := PC.out _ K4.out
              go_wp2_with fail
              refine (CR.out.X _).mono ?_
              rintro e v5 ⟨rfl, hf⟩
              have K5 := Lib.hid (K4.out.new0 hf)
              clear hf p0 p1 K4
              obtain ⟨p0, p1, _, _⟩ := PC.out _ K5.out
              obtain ⟨lo1, lo2, lo3, lo4, lo5⟩ := LO
              have LO5 := Lib.hid lo5
              clear lo5
              go_wp2_with fail
              clear lo1 lo2 lo3 lo4
              refine (LO5.out _).mono ?_
              rintro e v6 ⟨rfl, hf⟩
              have K6 := Lib.hid (K5.out.new0 hf)
              clear hf p0 p1 K5 LO5
              obtain ⟨p0, p1, _, _⟩ := PC.out _ K6.out
              obtain ⟨hi1, hi2, hi3, hi4⟩ := HI
              have HI4 := Lib.hid hi4
              clear hi4
              go_wp2_with fail
              clear hi1 hi2 hi3
              refine (HI4.out _).mono ?_
              rintro e v7 ⟨rfl, hf⟩
              have K7 := Lib.hid (K6.out.new0 hf)
              clear hf p0 p1 K6 HI4
              obtain ⟨p0, p1, _, _⟩ := PC.out _ K7.out
              go_wp2_with fail
              go_meet
              exact ⟨by first | rfl | exact congrArg Value.bool (by simp; omega), K7.out⟩
            · exact (no_dm FACTS HI HDD.out x2).elim
          · rcases HHI.out with ⟨E, HI⟩ | HI
            · clear HLO HHI HXC
              obtain ⟨p0, p1, _, _⟩ := PC.out _ K1.out
              go_wp2_with fail
              refine (CR.out.R _).mono ?_
              rintro e v2 ⟨rfl, hf⟩
              have K2 := Lib.hid (K1.out.new0 hf)
              clear hf p0 p1
              obtain ⟨p0, p1, _, _⟩ := PC.out _ K2.out
              have hcb : (c : Int) < 4294967296 := fx_c FACTS
              go_wp2_with fail
              clear hcb
              refine (CR.out.L _).mono ?_
              rintro e v3 ⟨rfl, hf⟩
              have K3 := Lib.hid (K2.out.new0 hf)
              clear hf p0 p1 K2
              obtain ⟨p0, p1, _, _⟩ := PC.out _ K3.out
              go_wp2_with fail
              refine (CD.out _).mono ?_
              rintro e v4 ⟨rfl, hf⟩
              have K4 := Lib.hid (K3.out.new0 hf)
              clear hf p0 p1 K3
              obtain ⟨p0, p1, _, _⟩ := PC.out _ K4.out
              go_wp2_with fail
              refine (CR.out.X _).mono ?_
              rintro e v5 ⟨rfl, hf⟩
              have K5 := Lib.hid (K4.out.new0 hf)
              clear hf p0 p1 K4
              obtain ⟨p0, p1, _, _⟩ := PC.out _ K5.out
              obtain ⟨lo1⟩ := LO
              obtain ⟨hi1, hi2, hi3, hi4⟩ := HI
              have HI4 := Lib.hid hi4
              clear hi4
              go_wp2_with fail
              clear hi1 hi2 hi3
              refine (HI4.out _).mono ?_
              rintro e v7 ⟨rfl, hf⟩
              have K7 := Lib.hid (K5.out.new0 hf)
              clear hf p0 p1 K5 HI4
              obtain ⟨p0, p1, _, _⟩ := PC.out _ K7.out
              go_wp2_with fail
              go_meet
              exact ⟨by first | rfl | exact congrArg Value.bool (by simp; omega), K7.out⟩
            · exact (no_dm FACTS HI HDD.out x2).elim
      case rest =>
        obtain ⟨rfl, KC⟩ := hcut
        clear K1 HLO HHI CB CD
        rcases HJ.out with hj0 | ⟨i, a, m, JJ⟩ | ⟨i, a, q, nm, JJ⟩
        · subst hj0
          clear HJ
          cases HXC.out with
          | before hx x1 =>
            clear HXC hx x1
            go_upto_region 15 with fail
            refine region_no (by kernel_rfl) (by kernel_rfl) ?_
            repeat (refine wpQuiet_step (fun K hK => ?_); go_simp; first
                | (refine hK _ ?_; clear hK K)
                | (apply Exists.intro; refine ⟨fun W hW => ?_, hK _ ?_⟩; (first | rfl | ((obtain ⟨p0, p1, _, _⟩ := PC.out W (KC.out.new0 hW)); go_simp; rfl)); clear hK K))
            refine wpQuiet_nil ?_
            intro v8 hf
            have K8 := Lib.hid (KC.out.new0 hf)
            clear hf
            obtain ⟨p0, p1, _, _⟩ := PC.out _ K8.out
            go_wp2_with fail
            refine (CR.out.X _).mono ?_
            rintro e v11 ⟨rfl, hf⟩
            have K11 := Lib.hid (K8.out.new0 hf)
            clear hf p0 p1
            obtain ⟨p0, p1, _, _⟩ := PC.out _ K11.out
            obtain ⟨E, e1, e2, e3, e4, e5⟩ := HNX.out
            have E5 := Lib.hid e5
            clear e5
            go_wp2
            go_roundw
            case rel => exact ⟨0 + 1, d + 1, _, HJN.out, by go_num, congrArg (Value.int .u64) E5.out, rfl, HNB.out.symm, ⟨NX.out.1, NX.out.2, by have := FACTS.fc; have := FACTS.cd; omega⟩, H0.out.new0 K11.out⟩
            case measure => simp [RowKit.intOf]; omega
          | seen x1 =>
            clear HXC x1
            go_upto_region 15 with fail
            refine region_no (by kernel_rfl) (by kernel_rfl) ?_
            repeat (refine wpQuiet_step (fun K hK => ?_); go_simp; first
                | (refine hK _ ?_; clear hK K)
                | (apply Exists.intro; refine ⟨fun W hW => ?_, hK _ ?_⟩; (first | rfl | ((obtain ⟨p0, p1, _, _⟩ := PC.out W (KC.out.new0 hW)); go_simp; rfl)); clear hK K))
            refine wpQuiet_nil ?_
            intro v8 hf
            have K8 := Lib.hid (KC.out.new0 hf)
            clear hf
            obtain ⟨p0, p1, _, _⟩ := PC.out _ K8.out
            obtain ⟨E, e1, e2, e3, e4, e5⟩ := HNX.out
            have E5 := Lib.hid e5
            clear e5
            go_wp2
            go_roundw
            case rel => exact ⟨0 + 1, d + 1, _, HJN.out, by go_num, congrArg (Value.int .u64) E5.out, rfl, HNB.out.symm, ⟨NX.out.1, NX.out.2, by have := FACTS.fc; have := FACTS.cd; omega⟩, H0.out.new0 K8.out⟩
            case measure => simp [RowKit.intOf]; omega
          | inside x1 x2 =>
            clear HXC x1 x2
            go_upto_region 15 with fail
            refine region_no (by kernel_rfl) (by kernel_rfl) ?_
            repeat (refine wpQuiet_step (fun K hK => ?_); go_simp; first
                | (refine hK _ ?_; clear hK K)
                | (apply Exists.intro; refine ⟨fun W hW => ?_, hK _ ?_⟩; (first | rfl | ((obtain ⟨p0, p1, _, _⟩ := PC.out W (KC.out.new0 hW)); go_simp; rfl)); clear hK K))
            refine wpQuiet_nil ?_
            intro v8 hf
            have K8 := Lib.hid (KC.out.new0 hf)
            clear hf
            obtain ⟨p0, p1, _, _⟩ := PC.out _ K8.out
            go_wp2_with fail
            refine (CR.out.X _).mono ?_
            rintro e v11 ⟨rfl, hf⟩
            have K11 := Lib.hid (K8.out.new0 hf)
            clear hf p0 p1
            obtain ⟨p0, p1, _, _⟩ := PC.out _ K11.out
            obtain ⟨E, e1, e2, e3, e4, e5⟩ := HNX.out
            have E5 := Lib.hid e5
            clear e5
            go_wp2
            go_roundw
            case rel => exact ⟨0 + 1, d + 1, _, HJN.out, by go_num, congrArg (Value.int .u64) E5.out, rfl, HNB.out.symm, ⟨NX.out.1, NX.out.2, by have := FACTS.fc; have := FACTS.cd; omega⟩, H0.out.new0 K11.out⟩
            case measure => simp [RowKit.intOf]; omega
          | behind x1 x2 =>
            clear HXC x1 x2
            go_upto_region 15 with fail
            refine region_no (by kernel_rfl) (by kernel_rfl) ?_
            repeat (refine wpQuiet_step (fun K hK => ?_); go_simp; first
                | (refine hK _ ?_; clear hK K)
                | (apply Exists.intro; refine ⟨fun W hW => ?_, hK _ ?_⟩; (first | rfl | ((obtain ⟨p0, p1, _, _⟩ := PC.out W (KC.out.new0 hW)); go_simp; rfl)); clear hK K))
            refine wpQuiet_nil ?_
            intro v8 hf
            have K8 := Lib.hid (KC.out.new0 hf)
            clear hf
            obtain ⟨p0, p1, _, _⟩ := PC.out _ K8.out
            go_wp2_with fail
            refine (CR.out.X _).mono ?_
            rintro e v11 ⟨rfl, hf⟩
            have K11 := Lib.hid (K8.out.new0 hf)
            clear hf p0 p1
            obtain ⟨p0, p1, _, _⟩ := PC.out _ K11.out
            obtain ⟨E, e1, e2, e3, e4, e5⟩ := HNX.out
            have E5 := Lib.hid e5
            clear e5
            go_wp2
            go_roundw
            case rel => exact ⟨0 + 1, d + 1, _, HJN.out, by go_num, congrArg (Value.int .u64) E5.out, rfl, HNB.out.symm, ⟨NX.out.1, NX.out.2, by have := FACTS.fc; have := FACTS.cd; omega⟩, H0.out.new0 K11.out⟩
            case measure => simp [RowKit.intOf]; omega
        · obtain ⟨j1, k1, k2, k3, j2, j3, j4, j5, j6⟩ := JJ
          have CC := Lib.hid (fun W (hW : Frm No (wr.alloc (.cells #[.int .u32 (c : Int), .int .u8 (n : Int)] 24)) W) => pfs_at (PF.out.frm (H0.out.new0 hW)) j4)
          clear HJ j4
          cases HXC.out with
          | before hx x1 =>
            clear HXC hx x1
            go_upto_region 15 with fail
            refine region_no (by kernel_rfl) (by kernel_rfl) ?_
            repeat (refine wpQuiet_step (fun K hK => ?_); go_simp; first
                | (refine hK _ ?_; clear hK K)
                | (apply Exists.intro; refine ⟨fun W hW => ?_, hK _ ?_⟩; (first | rfl | ((obtain ⟨p0, p1, _, _⟩ := PC.out W (KC.out.new0 hW)); (obtain ⟨s0, s1⟩ := CC.out W (KC.out.new0 hW)); go_simp; rfl)); clear hK K))
            refine wpQuiet_nil ?_
            intro v8 hf
            have K8 := Lib.hid (KC.out.new0 hf)
            clear hf
            obtain ⟨p0, p1, _, _⟩ := PC.out _ K8.out
            go_wp2_with fail
            refine (CR.out.X _).mono ?_
            rintro e v11 ⟨rfl, hf⟩
            have K11 := Lib.hid (K8.out.new0 hf)
            clear hf p0 p1
            obtain ⟨p0, p1, _, _⟩ := PC.out _ K11.out
            obtain ⟨E, e1, e2, e3, e4, e5⟩ := HNX.out
            have E5 := Lib.hid e5
            clear e5
            go_wp2
            go_roundw
            case rel => exact ⟨j + 1, d + 1, _, HJN.out, by go_num, congrArg (Value.int .u64) E5.out, rfl, HNB.out.symm, ⟨NX.out.1, NX.out.2, by have := FACTS.fc; have := FACTS.cd; omega⟩, H0.out.new0 K11.out⟩
            case measure => simp [RowKit.intOf]; omega
          | seen x1 =>
            clear HXC x1
            go_upto_region 15 with fail
            refine region_no (by kernel_rfl) (by kernel_rfl) ?_
            repeat (refine wpQuiet_step (fun K hK => ?_); go_simp; first
                | (refine hK _ ?_; clear hK K)
                | (apply Exists.intro; refine ⟨fun W hW => ?_, hK _ ?_⟩; (first | rfl | ((obtain ⟨p0, p1, _, _⟩ := PC.out W (KC.out.new0 hW)); (obtain ⟨s0, s1⟩ := CC.out W (KC.out.new0 hW)); go_simp; rfl)); clear hK K))
            refine wpQuiet_nil ?_
            intro v8 hf
            have K8 := Lib.hid (KC.out.new0 hf)
            clear hf
            obtain ⟨p0, p1, _, _⟩ := PC.out _ K8.out
            obtain ⟨E, e1, e2, e3, e4, e5⟩ := HNX.out
            have E5 := Lib.hid e5
            clear e5
            go_wp2
            go_roundw
            case rel => exact ⟨j + 1, d + 1, _, HJN.out, by go_num, congrArg (Value.int .u64) E5.out, rfl, HNB.out.symm, ⟨NX.out.1, NX.out.2, by have := FACTS.fc; have := FACTS.cd; omega⟩, H0.out.new0 K8.out⟩
            case measure => simp [RowKit.intOf]; omega
          | inside x1 x2 =>
            clear HXC x1 x2
            go_upto_region 15 with fail
            refine region_no (by kernel_rfl) (by kernel_rfl) ?_
            repeat (refine wpQuiet_step (fun K hK => ?_); go_simp; first
                | (refine hK _ ?_; clear hK K)
                | (apply Exists.intro; refine ⟨fun W hW => ?_, hK _ ?_⟩; (first | rfl | ((obtain ⟨p0, p1, _, _⟩ := PC.out W (KC.out.new0 hW)); (obtain ⟨s0, s1⟩ := CC.out W (KC.out.new0 hW)); go_simp; rfl)); clear hK K))
            refine wpQuiet_nil ?_
            intro v8 hf
            have K8 := Lib.hid (KC.out.new0 hf)
            clear hf
            obtain ⟨p0, p1, _, _⟩ := PC.out _ K8.out
            go_wp2_with fail
            refine (CR.out.X _).mono ?_
            rintro e v11 ⟨rfl, hf⟩
            have K11 := Lib.hid (K8.out.new0 hf)
            clear hf p0 p1
            obtain ⟨p0, p1, _, _⟩ := PC.out _ K11.out
            obtain ⟨E, e1, e2, e3, e4, e5⟩ := HNX.out
            have E5 := Lib.hid e5
            clear e5
            go_wp2
            go_roundw
            case rel => exact ⟨j + 1, d + 1, _, HJN.out, by go_num, congrArg (Value.int .u64) E5.out, rfl, HNB.out.symm, ⟨NX.out.1, NX.out.2, by have := FACTS.fc; have := FACTS.cd; omega⟩, H0.out.new0 K11.out⟩
            case measure => simp [RowKit.intOf]; omega
          | behind x1 x2 =>
            clear HXC x1 x2
            go_upto_region 15 with fail
            refine region_no (by kernel_rfl) (by kernel_rfl) ?_
            repeat (refine wpQuiet_step (fun K hK => ?_); go_simp; first
                | (refine hK _ ?_; clear hK K)
                | (apply Exists.intro; refine ⟨fun W hW => ?_, hK _ ?_⟩; (first | rfl | ((obtain ⟨p0, p1, _, _⟩ := PC.out W (KC.out.new0 hW)); (obtain ⟨s0, s1⟩ := CC.out W (KC.out.new0 hW)); go_simp; rfl)); clear hK K))
            refine wpQuiet_nil ?_
            intro v8 hf
            have K8 := Lib.hid (KC.out.new0 hf)
            clear hf
            obtain ⟨p0, p1, _, _⟩ := PC.out _ K8.out
            go_wp2_with fail
            refine (CR.out.X _).mono ?_
            rintro e v11 ⟨rfl, hf⟩
            have K11 := Lib.hid (K8.out.new0 hf)
            clear hf p0 p1
            obtain ⟨p0, p1, _, _⟩ := PC.out _ K11.out
            obtain ⟨E, e1, e2, e3, e4, e5⟩ := HNX.out
            have E5 := Lib.hid e5
            clear e5
            go_wp2
            go_roundw
            case rel => exact ⟨j + 1, d + 1, _, HJN.out, by go_num, congrArg (Value.int .u64) E5.out, rfl, HNB.out.symm, ⟨NX.out.1, NX.out.2, by have := FACTS.fc; have := FACTS.cd; omega⟩, H0.out.new0 K11.out⟩
            case measure => simp [RowKit.intOf]; omega
        · obtain ⟨j1, k1, k2, k3, j2, j3, j4, j5, j6, j7⟩ := JJ
          have CC := Lib.hid (fun W (hW : Frm No (wr.alloc (.cells #[.int .u32 (c : Int), .int .u8 (n : Int)] 24)) W) => pfs_at (PF.out.frm (H0.out.new0 hW)) j4)
          have CU := Lib.hid j6
          have IN := Lib.hid j7
          clear HJ j4 j6 j7
          cases HXC.out with
          | before hx x1 =>
            clear HXC hx x1
            go_upto_region 15 with fail
            refine region_no (by kernel_rfl) (by kernel_rfl) ?_
            repeat (refine wpQuiet_step (fun K hK => ?_); go_simp; first
                | (refine hK _ ?_; clear hK K)
                | (apply Exists.intro; refine ⟨fun W hW => ?_, hK _ ?_⟩; (first | rfl | ((obtain ⟨p0, p1, _, _⟩ := PC.out W (KC.out.new0 hW)); (obtain ⟨s0, s1⟩ := CC.out W (KC.out.new0 hW)); go_simp; rfl)); clear hK K))
            refine wpQuiet_nil ?_
            intro v8 hf
            have K8 := Lib.hid (KC.out.new0 hf)
            clear hf
            obtain ⟨p0, p1, _, _⟩ := PC.out _ K8.out
            go_wp2_with fail
            refine (CU.out _).mono ?_
            rintro e v9 ⟨rfl, hf⟩
            have K9 := Lib.hid (K8.out.new0 hf)
            clear hf K8 p0 p1
            have QB := Lib.hid (Blk.new v9 24 #[.int .u32 (q : Int), .int .u8 (nm : Int)])
            have K9a := Lib.hid (K9.out.alloc (.cells #[.int .u32 (q : Int), .int .u8 (nm : Int)] 24))
            have QC := Lib.hid (fun W (hW : Frm No (v9.alloc (.cells #[.int .u32 (q : Int), .int .u8 (nm : Int)] 24)) W) => And.intro (CC.out W (K9a.out.new0 hW)) (blk_cells2 (QB.out.frm hW (fun x => x))))
            clear K9 QB
            go_upto_region 17 with fail
            refine region_no (by kernel_rfl) (by kernel_rfl) ?_
            repeat (refine wpQuiet_step (fun K hK => ?_); go_simp; first
                | (refine hK _ ?_; clear hK K)
                | (apply Exists.intro; refine ⟨fun W hW => ?_, hK _ ?_⟩; (first | rfl | ((obtain ⟨⟨s0, s1⟩, u0, u1, _, _⟩ := QC.out W hW); go_simp; rfl)); clear hK K))
            refine wpQuiet_step (fun K hK => ?_)
            go_simp
            apply Exists.intro
            refine ⟨fun W hW => (IN.out W).mono fun e w' he => ⟨he.1, hW.new0 he.2⟩, hK _ ?_⟩
            clear hK K
            repeat (refine wpQuiet_step (fun K hK => ?_); go_simp; first
                | (refine hK _ ?_; clear hK K)
                | (apply Exists.intro; refine ⟨fun W hW => ?_, hK _ ?_⟩; (first | rfl | ((obtain ⟨⟨s0, s1⟩, u0, u1, _, _⟩ := QC.out W hW); go_simp; rfl)); clear hK K))
            refine wpQuiet_nil ?_
            intro v10 hf
            have K10 := Lib.hid (K9a.out.new0 hf)
            clear hf K9a QC
            obtain ⟨p0, p1, _, _⟩ := PC.out _ K10.out
            go_wp2_with fail
            refine (CR.out.X _).mono ?_
            rintro e v11 ⟨rfl, hf⟩
            have K11 := Lib.hid (K10.out.new0 hf)
            clear hf p0 p1
            obtain ⟨p0, p1, _, _⟩ := PC.out _ K11.out
            obtain ⟨E, e1, e2, e3, e4, e5⟩ := HNX.out
            have E5 := Lib.hid e5
            clear e5
            go_wp2
            go_roundw
            case rel => exact ⟨j + 1, d + 1, _, HJN.out, by go_num, congrArg (Value.int .u64) E5.out, rfl, HNB.out.symm, ⟨NX.out.1, NX.out.2, by have := FACTS.fc; have := FACTS.cd; omega⟩, H0.out.new0 K11.out⟩
            case measure => simp [RowKit.intOf]; omega
          | seen x1 =>
            clear HXC x1
            go_upto_region 15 with fail
            refine region_no (by kernel_rfl) (by kernel_rfl) ?_
            repeat (refine wpQuiet_step (fun K hK => ?_); go_simp; first
                | (refine hK _ ?_; clear hK K)
                | (apply Exists.intro; refine ⟨fun W hW => ?_, hK _ ?_⟩; (first | rfl | ((obtain ⟨p0, p1, _, _⟩ := PC.out W (KC.out.new0 hW)); (obtain ⟨s0, s1⟩ := CC.out W (KC.out.new0 hW)); go_simp; rfl)); clear hK K))
            refine wpQuiet_nil ?_
            intro v8 hf
            have K8 := Lib.hid (KC.out.new0 hf)
            clear hf
            obtain ⟨p0, p1, _, _⟩ := PC.out _ K8.out
            go_wp2_with fail
            refine (CU.out _).mono ?_
            rintro e v9 ⟨rfl, hf⟩
            have K9 := Lib.hid (K8.out.new0 hf)
            clear hf K8 p0 p1
            have QB := Lib.hid (Blk.new v9 24 #[.int .u32 (q : Int), .int .u8 (nm : Int)])
            have K9a := Lib.hid (K9.out.alloc (.cells #[.int .u32 (q : Int), .int .u8 (nm : Int)] 24))
            have QC := Lib.hid (fun W (hW : Frm No (v9.alloc (.cells #[.int .u32 (q : Int), .int .u8 (nm : Int)] 24)) W) => And.intro (CC.out W (K9a.out.new0 hW)) (blk_cells2 (QB.out.frm hW (fun x => x))))
            clear K9 QB
            go_upto_region 17 with fail
            refine region_no (by kernel_rfl) (by kernel_rfl) ?_
            repeat (refine wpQuiet_step (fun K hK => ?_); go_simp; first
                | (refine hK _ ?_; clear hK K)
                | (apply Exists.intro; refine ⟨fun W hW => ?_, hK _ ?_⟩; (first | rfl | ((obtain ⟨⟨s0, s1⟩, u0, u1, _, _⟩ := QC.out W hW); go_simp; rfl)); clear hK K))
            refine wpQuiet_step (fun K hK => ?_)
            go_simp
            apply Exists.intro
            refine ⟨fun W hW => (IN.out W).mono fun e w' he => ⟨he.1, hW.new0 he.2⟩, hK _ ?_⟩
            clear hK K
            repeat (refine wpQuiet_step (fun K hK => ?_); go_simp; first
                | (refine hK _ ?_; clear hK K)
                | (apply Exists.intro; refine ⟨fun W hW => ?_, hK _ ?_⟩; (first | rfl | ((obtain ⟨⟨s0, s1⟩, u0, u1, _, _⟩ := QC.out W hW); go_simp; rfl)); clear hK K))
            refine wpQuiet_nil ?_
            intro v10 hf
            have K10 := Lib.hid (K9a.out.new0 hf)
            clear hf K9a QC
            obtain ⟨p0, p1, _, _⟩ := PC.out _ K10.out
            obtain ⟨E, e1, e2, e3, e4, e5⟩ := HNX.out
            have E5 := Lib.hid e5
            clear e5
            go_wp2
            go_roundw
            case rel => exact ⟨j + 1, d + 1, _, HJN.out, by go_num, congrArg (Value.int .u64) E5.out, rfl, HNB.out.symm, ⟨NX.out.1, NX.out.2, by have := FACTS.fc; have := FACTS.cd; omega⟩, H0.out.new0 K10.out⟩
            case measure => simp [RowKit.intOf]; omega
          | inside x1 x2 =>
            clear HXC x1 x2
            go_upto_region 15 with fail
            refine region_no (by kernel_rfl) (by kernel_rfl) ?_
            repeat (refine wpQuiet_step (fun K hK => ?_); go_simp; first
                | (refine hK _ ?_; clear hK K)
                | (apply Exists.intro; refine ⟨fun W hW => ?_, hK _ ?_⟩; (first | rfl | ((obtain ⟨p0, p1, _, _⟩ := PC.out W (KC.out.new0 hW)); (obtain ⟨s0, s1⟩ := CC.out W (KC.out.new0 hW)); go_simp; rfl)); clear hK K))
            refine wpQuiet_nil ?_
            intro v8 hf
            have K8 := Lib.hid (KC.out.new0 hf)
            clear hf
            obtain ⟨p0, p1, _, _⟩ := PC.out _ K8.out
            go_wp2_with fail
            refine (CU.out _).mono ?_
            rintro e v9 ⟨rfl, hf⟩
            have K9 := Lib.hid (K8.out.new0 hf)
            clear hf K8 p0 p1
            have QB := Lib.hid (Blk.new v9 24 #[.int .u32 (q : Int), .int .u8 (nm : Int)])
            have K9a := Lib.hid (K9.out.alloc (.cells #[.int .u32 (q : Int), .int .u8 (nm : Int)] 24))
            have QC := Lib.hid (fun W (hW : Frm No (v9.alloc (.cells #[.int .u32 (q : Int), .int .u8 (nm : Int)] 24)) W) => And.intro (CC.out W (K9a.out.new0 hW)) (blk_cells2 (QB.out.frm hW (fun x => x))))
            clear K9 QB
            go_upto_region 17 with fail
            refine region_no (by kernel_rfl) (by kernel_rfl) ?_
            repeat (refine wpQuiet_step (fun K hK => ?_); go_simp; first
                | (refine hK _ ?_; clear hK K)
                | (apply Exists.intro; refine ⟨fun W hW => ?_, hK _ ?_⟩; (first | rfl | ((obtain ⟨⟨s0, s1⟩, u0, u1, _, _⟩ := QC.out W hW); go_simp; rfl)); clear hK K))
            refine wpQuiet_step (fun K hK => ?_)
            go_simp
            apply Exists.intro
            refine ⟨fun W hW => (IN.out W).mono fun e w' he => ⟨he.1, hW.new0 he.2⟩, hK _ ?_⟩
            clear hK K
            repeat (refine wpQuiet_step (fun K hK => ?_); go_simp; first
                | (refine hK _ ?_; clear hK K)
                | (apply Exists.intro; refine ⟨fun W hW => ?_, hK _ ?_⟩; (first | rfl | ((obtain ⟨⟨s0, s1⟩, u0, u1, _, _⟩ := QC.out W hW); go_simp; rfl)); clear hK K))
            refine wpQuiet_nil ?_
            intro v10 hf
            have K10 := Lib.hid (K9a.out.new0 hf)
            clear hf K9a QC
            obtain ⟨p0, p1, _, _⟩ := PC.out _ K10.out
            go_wp2_with fail
            refine (CR.out.X _).mono ?_
            rintro e v11 ⟨rfl, hf⟩
            have K11 := Lib.hid (K10.out.new0 hf)
            clear hf p0 p1
            obtain ⟨p0, p1, _, _⟩ := PC.out _ K11.out
            obtain ⟨E, e1, e2, e3, e4, e5⟩ := HNX.out
            have E5 := Lib.hid e5
            clear e5
            go_wp2
            go_roundw
            case rel => exact ⟨j + 1, d + 1, _, HJN.out, by go_num, congrArg (Value.int .u64) E5.out, rfl, HNB.out.symm, ⟨NX.out.1, NX.out.2, by have := FACTS.fc; have := FACTS.cd; omega⟩, H0.out.new0 K11.out⟩
            case measure => simp [RowKit.intOf]; omega
          | behind x1 x2 =>
            clear HXC x1 x2
            go_upto_region 15 with fail
            refine region_no (by kernel_rfl) (by kernel_rfl) ?_
            repeat (refine wpQuiet_step (fun K hK => ?_); go_simp; first
                | (refine hK _ ?_; clear hK K)
                | (apply Exists.intro; refine ⟨fun W hW => ?_, hK _ ?_⟩; (first | rfl | ((obtain ⟨p0, p1, _, _⟩ := PC.out W (KC.out.new0 hW)); (obtain ⟨s0, s1⟩ := CC.out W (KC.out.new0 hW)); go_simp; rfl)); clear hK K))
            refine wpQuiet_nil ?_
            intro v8 hf
            have K8 := Lib.hid (KC.out.new0 hf)
            clear hf
            obtain ⟨p0, p1, _, _⟩ := PC.out _ K8.out
            go_wp2_with fail
            refine (CU.out _).mono ?_
            rintro e v9 ⟨rfl, hf⟩
            have K9 := Lib.hid (K8.out.new0 hf)
            clear hf K8 p0 p1
            have QB := Lib.hid (Blk.new v9 24 #[.int .u32 (q : Int), .int .u8 (nm : Int)])
            have K9a := Lib.hid (K9.out.alloc (.cells #[.int .u32 (q : Int), .int .u8 (nm : Int)] 24))
            have QC := Lib.hid (fun W (hW : Frm No (v9.alloc (.cells #[.int .u32 (q : Int), .int .u8 (nm : Int)] 24)) W) => And.intro (CC.out W (K9a.out.new0 hW)) (blk_cells2 (QB.out.frm hW (fun x => x))))
            clear K9 QB
            go_upto_region 17 with fail
            refine region_no (by kernel_rfl) (by kernel_rfl) ?_
            repeat (refine wpQuiet_step (fun K hK => ?_); go_simp; first
                | (refine hK _ ?_; clear hK K)
                | (apply Exists.intro; refine ⟨fun W hW => ?_, hK _ ?_⟩; (first | rfl | ((obtain ⟨⟨s0, s1⟩, u0, u1, _, _⟩ := QC.out W hW); go_simp; rfl)); clear hK K))
            refine wpQuiet_step (fun K hK => ?_)
            go_simp
            apply Exists.intro
            refine ⟨fun W hW => (IN.out W).mono fun e w' he => ⟨he.1, hW.new0 he.2⟩, hK _ ?_⟩
            clear hK K
            repeat (refine wpQuiet_step (fun K hK => ?_); go_simp; first
                | (refine hK _ ?_; clear hK K)
                | (apply Exists.intro; refine ⟨fun W hW => ?_, hK _ ?_⟩; (first | rfl | ((obtain ⟨⟨s0, s1⟩, u0, u1, _, _⟩ := QC.out W hW); go_simp; rfl)); clear hK K))
            refine wpQuiet_nil ?_
            intro v10 hf
            have K10 := Lib.hid (K9a.out.new0 hf)
            clear hf K9a QC
            obtain ⟨p0, p1, _, _⟩ := PC.out _ K10.out
            go_wp2_with fail
            refine (CR.out.X _).mono ?_
            rintro e v11 ⟨rfl, hf⟩
            have K11 := Lib.hid (K10.out.new0 hf)
            clear hf p0 p1
            obtain ⟨p0, p1, _, _⟩ := PC.out _ K11.out
            obtain ⟨E, e1, e2, e3, e4, e5⟩ := HNX.out
            have E5 := Lib.hid e5
            clear e5
            go_wp2
            go_roundw
            case rel => exact ⟨j + 1, d + 1, _, HJN.out, by go_num, congrArg (Value.int .u64) E5.out, rfl, HNB.out.symm, ⟨NX.out.1, NX.out.2, by have := FACTS.fc; have := FACTS.cd; omega⟩, H0.out.new0 K11.out⟩
            case measure => simp [RowKit.intOf]; omega
    · have e : j = N := by omega
      have e2 := HI.out.2.1 e
      have nlt : ¬ (j : Int) < N := by omega
      subst e2
      clear HI
      rcases (show x < f ∨ (f ≤ x ∧ x ≤ t) ∨ t < x by omega) with hx | hx | hx
      · obtain rfl : ib = false := by rw [HIB.out]; exact decide_eq_false (by omega)
        have x1 : ¬ (f : Int) ≤ x := by omega
        go_wp2_with fail
        go_ret
        exact ⟨rfl, F2.out.new0 HF.out⟩
      · obtain rfl : ib = true := by rw [HIB.out]; exact decide_eq_true (by omega)
        have x1 : (f : Int) ≤ x := by omega
        have x2 : (x : Int) ≤ t := by omega
        go_wp2_with fail
        go_ret
        exact ⟨rfl, F2.out.new0 HF.out⟩
      · obtain rfl : ib = false := by rw [HIB.out]; exact decide_eq_false (by omega)
        have x1 : (f : Int) ≤ x := by omega
        have x2 : ¬ (x : Int) ≤ t := by omega
        go_wp2_with fail
        go_ret
        exact ⟨rfl, F2.out.new0 HF.out⟩

theorem addrCovers (w : World) (htab : Tab w) (f t x : Nat) (hf : f < 4294967296) (ht : t < 4294967296) (hx : x < 4294967296) :
    Calls Tryd.prog 6 #[.int .u32 (f : Int), .int .u32 (t : Int), .int .u32 (x : Int)] w fun e w' => e = .returned (.bool true) ∧ Frm No w w' := by
  by_cases h : f ≤ t
  · exact covers_yes w htab f t x hf ht hx h
  · exact covers_no w htab f t x (by omega)
end Go.Proofs.YtknmnlbgjpbgiaaDoor
