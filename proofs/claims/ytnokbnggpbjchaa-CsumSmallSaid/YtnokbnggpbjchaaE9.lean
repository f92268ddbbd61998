/-
  The kit's flatBytes.
-/
import Derived.Test.YtnokbnggpbjchaaE12
import Derived.Test.YtnokbnggpbjchaaStill
import Derived.Test.YtnokbnggpbjchaaAp
import Derived.Test.YtnokbnggpbjchaaL2
import Derived.Deep.QuietTactic
import Derived.BigQuiet
import Derived.Deep.CutRange
import Derived.Deep.CutBlock
namespace Go.Proofs.Ytnokbnggpbjchaa
open Go.RowKit

theorem row_slice {w : World} {base n : Nat} {v : Value} {xs : List Value} (h : w.ownsRow base 5 1 v n xs) : ∃ A c, v = .slice A n c := by
  rcases h.2 with ⟨h1, h2⟩ | ⟨g, cap, cur, h1, _⟩
  · exact ⟨none, 0, by rw [h1, h2]⟩
  · exact ⟨_, cap, h1⟩

theorem big_at_long {w0 w : World} {base m p G : Nat} {vs : Nat → Value} {ns : Nat → Nat} {ls : Nat → Value} {ms : Nat → Nat} {ds : Nat → List UInt8} {cur : Array Value}
    (h : Big w0 w base m p G vs ns ls ms ds cur) {j q : Nat} {C : Prop} (hj : j < m) (hk : ms j = ns j + (q + 1) ∧ ds j = mk j (ms j) ∧ C) :
    ∃ g c, ls j = .slice (some ⟨g, 0, none⟩) (ns j + (q + 1)) c ∧ ns j + (q + 1) ≤ c ∧ ∀ i, i < ns j + (q + 1) → w.cell? ⟨g, i, none⟩ = some (.int .u8 ((markK j i).toNat : Int)) := by
  have h1 := h.two.long j hj
  rw [hk.1] at h1
  rw [hk.2.1, hk.1] at h1
  obtain ⟨g, c, hl, hr⟩ := Row.of_own h1 (by omega)
  refine ⟨g, c, hl, hr.cap.1, fun i hi => ?_⟩
  have h2 := hr.cell i (by rw [mk_len]; exact hi)
  have h3 : (mk j (ns j + (q + 1)))[i]'(by rw [mk_len]; exact hi) = markK j i := by
    have := mk_get j (ns j + (q + 1)) i hi
    rwa [List.getElem?_eq_getElem (by rw [mk_len]; exact hi), Option.some_inj] at this
  rw [h3] at h2
  exact h2

theorem big_at_head {w0 w : World} {base m p G : Nat} {vs : Nat → Value} {ns : Nat → Nat} {ls : Nat → Value} {ms : Nat → Nat} {ds : Nat → List UInt8} {cur : Array Value}
    (h : Big w0 w base m p G vs ns ls ms ds cur) {j q : Nat} (hj : j < m) (hk : ms j = ns j + (q + 1)) :
    ∃ g c, ls j = .slice (some ⟨g, 0, none⟩) (ns j + (q + 1)) c ∧ ns j + (q + 1) ≤ c ∧ ∀ i, i < ns j → w.cell? ⟨g, i, none⟩ = some (.int .u8 ((markK j i).toNat : Int)) := by
  have h1 := h.two.long j hj
  rw [hk] at h1
  obtain ⟨g, c, hl, hr⟩ := Row.of_own h1 (by omega)
  refine ⟨g, c, hl, hr.cap.1, fun i hi => ?_⟩
  have hlen := hr.len
  have h2 := hr.cell i (by omega)
  obtain ⟨t, ht⟩ := h.two.pre j hj
  have ht' : ds j = mk j (ns j) ++ t := ht.symm
  have h3 : (ds j)[i]'(by omega) = markK j i := by
    have h4 : (ds j)[i]? = some (markK j i) := by
      rw [ht', List.getElem?_append_left (by rw [mk_len]; exact hi)]
      exact mk_get j (ns j) i hi
    rwa [List.getElem?_eq_getElem (by omega), Option.some_inj] at h4
  rw [h3] at h2
  exact h2

theorem big_at_short {w0 w : World} {base m p G : Nat} {vs : Nat → Value} {ns : Nat → Nat} {ls : Nat → Value} {ms : Nat → Nat} {ds : Nat → List UInt8} {cur : Array Value}
    (h : Big w0 w base m p G vs ns ls ms ds cur) {j : Nat} (hj : j < m) {g c : Nat} (hv : vs j = .slice (some ⟨g, 0, none⟩) (ns j) c) (i : Nat) (hi : i < ns j) :
    w.cell? ⟨g, i, none⟩ = some (.int .u8 ((markK j i).toNat : Int)) := by
  have h1 := h.two.own j hj
  rw [hv] at h1
  have h2 := Row.cell (h := h1) i (by rw [mk_len]; exact hi)
  have h3 : (mk j (ns j))[i]'(by rw [mk_len]; exact hi) = markK j i := by
    have := mk_get j (ns j) i hi
    rwa [List.getElem?_eq_getElem (by rw [mk_len]; exact hi), Option.some_inj] at this
  rw [h3] at h2
  exact h2

theorem Big.drewN {w0 w : World} {base m p G : Nat} {vs : Nat → Value} {ns : Nat → Nat} {ls : Nat → Value} {ms : Nat → Nat} {ds : Nat → List UInt8} {cur : Array Value}
    (h : Big w0 w base m p G vs ns ls ms ds cur) (n : Nat) : Big w0 (w.drewN n) base m p G vs ns ls ms ds cur :=
  ⟨⟨h.two.own, h.two.long, h.two.pre, h.two.apart⟩, h.lst, h.lng.drewN n, h.new, h.frm.drewN n, h.own⟩

set_option maxRecDepth 100000 in
set_option maxHeartbeats 4000000 in
theorem flat_bytes (w : World) (base m p c0 : Nat) (vs : Nat → Value) (ns : Nat → Nat) (cs : Nat → List UInt8) (hm : m ≤ 100) (hmc : m ≤ c0) (hn : ∀ k, k < m → ns k ≤ 140737488351232)
    (hL : Lst w p m vs) (hT : Two w base m vs ns cs vs ns cs) (hbase : base ≤ w.heap.size) :
    Calls Try.prog 63 #[.slice (some ⟨p, 0, none⟩) m c0] w fun e w' => e = .returned (.bool true) ∧ Frm (Own m vs) w w' := by
  have HN := Lib.hid hn
  have HL := Lib.hid hL
  have HT := Lib.hid hT
  have HF := Lib.hid (Frm.refl (Own m vs) w)
  clear hn hL hT
  go_enter Try.func63, Try.ntmps63
  go_upto_block 0 with fail
  go_cut [3, 4] from 16 to 39 (fun s3 s4 wx => ∃ cs', Hid (Two wx base m vs ns cs' vs ns cs') ∧ Hid (∀ k, k < m → cs' k = mk k (ns k)) ∧ Hid (Lst wx p m vs) ∧ Hid (Frm (Own m vs) w wx))
  case first =>
    go_wp2_with fail
    go_loopw [3, 4] (fun a b wr => ∃ j cs', j ≤ m ∧ a = .int .i64 (j : Nat) ∧ Hid (Two wr base m vs ns cs' vs ns cs') ∧ Hid (∀ k, k < j → cs' k = mk k (ns k)) ∧ Hid (Lst wr p m vs) ∧ Hid (Frm (Own m vs) w wr)) (fun a _ _ => m - (intOf a).toNat)
    case atStart => exact ⟨0, cs, by omega, rfl, HT, (fun k hk => by omega), HL, HF⟩
    case round =>
      obtain ⟨j, cs1, hj, rfl, HT1, HC1, HL1, HF1⟩ := hrel
      clear HT HL HF
      by_cases hlt : j < m
      · go_wp2_with fail
        go_loopw [4] (fun b wr2 => ∃ i cs2, i ≤ ns j ∧ b = .int .i64 (i : Nat) ∧ Hid (Two wr2 base m vs ns cs2 vs ns cs2) ∧ Hid (∀ k, k < j → cs2 k = mk k (ns k)) ∧ Hid ((cs2 j).take i = mk j i) ∧ Hid (Lst wr2 p m vs) ∧ Hid (Frm (Own m vs) w wr2)) (fun b _ => ns j - (intOf b).toNat)
        case atStart => exact ⟨0, cs1, Nat.zero_le _, rfl, HT1, HC1, (show (cs1 j).take 0 = mk j 0 from by simp [mk]), HL1, HF1⟩
        case round =>
          obtain ⟨i, cs2, hi, rfl, HT2, HC2, HD2, HL2, HF2⟩ := hrel
          clear HT1 HC1 HL1 HF1
          obtain ⟨A, c, hv, hc, hA⟩ := HT2.out.form j hlt
          have p0 : wr.cell? ⟨p, j, none⟩ = some (.slice A (ns j) c) := by rw [← hv]; exact HL2.out.cell j hlt
          have hnj := HN.out j hlt
          by_cases hi2 : i < ns j
          · obtain ⟨g, rfl⟩ := hA (by omega)
            go_wp2_with fail
            refine wp_region_still_tail 9 (by kernel_rfl) (by kernel_rfl) ?_
            simp only [List.take_succ_cons, List.take_zero, List.drop_succ_cons, List.drop_zero]
            repeat still_step
            refine wpStill_step (fun K hK => ?_)
            go_simp
            refine ⟨_, (markByte_any _ j i (by omega) (by omega)).mono (fun e w' ⟨h1, h2⟩ => ⟨h1, h2.symm⟩), hK _ ?_⟩
            clear hK K
            repeat still_step
            refine wpStill_nil ?_
            have R0 : Row wr base g (ns j) c (cs2 j) := by
              have h1 := HT2.out.own j hlt
              rw [hv] at h1
              exact h1
            have d0 := R0.cell i (by have := R0.len; omega)
            have d1 := R0.frozen i
            change wpList _ _ _ _ _ wr.drew
            go_wp2_with fail
            have hpg : p ≠ g := by
              have h1 := HL2.out.ne (HT2.out.own j hlt)
              rw [hv] at h1
              intro e
              exact h1 (by rw [e]; rfl)
            have HT3 := Lib.hid (HT2.out.set j hlt g c hv i (markK j i) _ rfl).drew
            have HC3 : Hid (∀ k, k < j → upd cs2 j ((cs2 j).set i (markK j i)) k = mk k (ns k)) := fun k hk => by rw [upd_other _ _ (by omega)]; exact HC2.out k hk
            have HD3 : Hid ((upd cs2 j ((cs2 j).set i (markK j i)) j).take (i + 1) = mk j (i + 1)) := by
              show (upd cs2 j ((cs2 j).set i (markK j i)) j).take (i + 1) = mk j (i + 1)
              rw [upd_same, take_set_succ _ _ _ (by have := R0.len; omega), HD2.out, mk_succ]
            have HL3 := Lib.hid ((HL2.out.far hpg i (.int .u8 ((markK j i).toNat : Int))).drew)
            have HF3 := Lib.hid ((HF2.out.setCell (p := ⟨g, i, none⟩) (fun _ => ⟨j, hlt, by rw [hv]; rfl⟩) (.int .u8 ((markK j i).toNat : Int))).drew)
            refine ⟨⟨i + 1, upd cs2 j ((cs2 j).set i (markK j i)), by omega, by go_num, HT3, HC3, HD3, HL3, HF3⟩, ?_⟩
            simp [intOf]
            omega
          · obtain rfl : i = ns j := by omega
            go_wp2_with fail
            go_roundw
            case rel =>
              refine ⟨j + 1, cs2, by omega, by go_num, HT2, fun k hk => ?_, HL2, HF2⟩
              by_cases hkj : k = j
              · subst hkj
                have h1 := HD2.out
                rwa [List.take_of_length_le (by rw [HT2.out.len k hlt]; omega)] at h1
              · exact HC2.out k (by omega)
            case measure => simp [intOf]; omega
      · go_wp2_with fail
        go_meet
        obtain rfl : j = m := by omega
        exact ⟨cs1, HT1, HC1, HL1, HF1⟩
  case rest =>
    obtain ⟨cs1, HT1, HC1, HL1, HF1⟩ := hcut
    obtain ⟨Z, hZ, hmk⟩ := make_rows m hm
    have B0 : Hid (Big w (wc.alloc (.cells Z 22)) base m p wc.heap.size vs ns vs ns (fun k => mk k (ns k)) Z) :=
      ⟨(two_of_fill HT1.out HC1.out).alloc _, HL1.out.alloc _, Blk.new _ _ _, HF1.out.size, HF1.out.alloc _, fun k hk i hi => .inr ⟨k, hk, hi⟩⟩
    have hpG : p ≠ wc.heap.size := by
      obtain ⟨cur, hb, _⟩ := HL1.out
      have := hb.lt
      omega
    have hG : w.heap.size ≤ wc.heap.size := HF1.out.size
    clear HT1 HC1 HL1 HF1 HT HL HF
    go_upto_block 4 with fail
    generalize hGe : wc.heap.size = G at B0 hpG hG ⊢
    go_cut [6, 7, 8] from 43 to 72 (fun s6 s7 s8 wx => ∃ ls ms ds cur, Hid (Big w wx base m p G vs ns ls ms ds cur) ∧ Hid (∀ k, k < m → ms k = ns k + 64 ∧ ds k = mk k (ms k) ∧ cur[k]? = some (ls k)))
    case first =>
      go_wp2_with fail
      go_loopw [6, 7, 8] (fun a s7 s8 wr => ∃ j ls ms ds cur, j ≤ m ∧ a = .int .i64 (j : Nat) ∧ Hid (Big w wr base m p G vs ns ls ms ds cur) ∧ Hid (cur.size = m) ∧ Hid (∀ k, k < j → ms k = ns k + 64 ∧ ds k = mk k (ms k) ∧ cur[k]? = some (ls k)) ∧ Hid (∀ k, j ≤ k → ls k = vs k ∧ ms k = ns k ∧ ds k = mk k (ns k))) (fun a _ _ _ => m - (intOf a).toNat)
      case atStart => exact ⟨0, vs, ns, fun k => mk k (ns k), Z, Nat.zero_le _, rfl, B0, hZ, (fun k hk => by omega), (fun k hk => ⟨rfl, rfl, rfl⟩)⟩
      case round =>
        obtain ⟨j, ls, ms, ds, cur, hj, rfl, HB1, HS1, HC1, HD1⟩ := hrel
        clear B0
        by_cases hlt : j < m
        · obtain ⟨A, c, hv, hc, hA⟩ := HB1.out.two.form j hlt
          have p0 : wr.cell? ⟨p, j, none⟩ = some (.slice A (ns j) c) := by rw [← hv]; exact HB1.out.lst.cell j hlt
          go_wp2_with fail
          go_loopw [7, 8] (fun s7 b wr => ∃ q ls ms ds, q ≤ 64 ∧ s7 = ls j ∧ b = .int .i64 (q : Nat) ∧ Hid (Big w wr base m p G vs ns ls ms ds cur) ∧ Hid (ms j = ns j + q ∧ ds j = mk j (ns j + q)) ∧ Hid (∀ k, k < j → ms k = ns k + 64 ∧ ds k = mk k (ms k) ∧ cur[k]? = some (ls k)) ∧ Hid (∀ k, j < k → ls k = vs k ∧ ms k = ns k ∧ ds k = mk k (ns k))) (fun _ b _ => 64 - (intOf b).toNat)
          case atStart => exact ⟨0, ls, ms, ds, by omega, by rw [(HD1.out j (Nat.le_refl _)).1, hv], rfl, HB1, ⟨(HD1.out j (Nat.le_refl _)).2.1, (HD1.out j (Nat.le_refl _)).2.2⟩, HC1, fun k hk => HD1.out k (by omega)⟩
          case round =>
            obtain ⟨q, ls2, ms2, ds2, hq, rfl, rfl, HB2, HM2, HC2, HD2⟩ := hrel
            clear HB1 HC1 HD1 p0
            have hnj := HN.out j hlt
            by_cases hq2 : q < 64
            · have p0 : wr.cell? ⟨p, j, none⟩ = some (.slice A (ns j) c) := by rw [← hv]; exact HB2.out.lst.cell j hlt
              have hcall := fun W => markByte_any W j (ns j + q) (by omega) (by omega)
              simp only [Int.natCast_add] at hcall
              have hbs : base ≤ wr.heap.size := by have := HB2.out.frm.size; omega
              go_wp2_with (first | (go_at_call 52; refine (hcall _).mono ?_; rintro e w' ⟨rfl, rfl⟩) | (at_builtin; refine wpList_append_keep rfl (.tmp 57) (.tmp 67) rfl base (ls2 j) (ms2 j) (ds2 j) rfl ((HB2.out.alloc _).two.long j hlt) ⟨_, 0, none⟩ 1 1 [markK j (ns j + q)] rfl rfl (news1 _ _) (by omega) (by have := HM2.out.1; omega) (by simp; omega) ?_; intro g' cap' w2 hown' hkeep'))
              obtain ⟨hms, hds⟩ := HM2.out
              have HB3 := Lib.hid ((HB2.out.alloc _).app j hlt 1 _ g' cap' hown' hkeep')
              clear hown' hkeep'
              go_roundw
              case rel =>
                refine ⟨q + 1, upd ls2 j _, upd ms2 j _, upd ds2 j _, by omega, by rw [upd_same], by go_num, HB3, ⟨?_, ?_⟩, fun k hk => ?_, fun k hk => ?_⟩
                · rw [upd_same]; omega
                · rw [upd_same, hds, ← mk_succ]; rfl
                · rw [upd_other _ _ (by omega), upd_other _ _ (by omega), upd_other _ _ (by omega)]; exact HC2.out k hk
                · rw [upd_other _ _ (by omega), upd_other _ _ (by omega), upd_other _ _ (by omega)]; exact HD2.out k hk
              case measure => simp [intOf]; omega
            · obtain rfl : q = 64 := by omega
              have hjs : j < cur.size := by rw [HS1.out]; exact hlt
              have d0 : wr.cell? ⟨G, j, none⟩ = some cur[j] := (HB2.out.lng.cell j).trans (Array.getElem?_eq_getElem hjs)
              have d1 := HB2.out.lng.frozen j
              obtain ⟨A2, c2, hl2⟩ := row_slice (HB2.out.two.long j hlt)
              rw [hl2]
              go_wp2_with fail
              obtain ⟨hms, hds⟩ := HM2.out
              have HB3 := Lib.hid (HB2.out.put j (.slice A2 (ms2 j) c2) hpG)
              go_roundw
              case rel =>
                refine ⟨j + 1, ls2, ms2, ds2, _, by omega, by go_num, HB3, (show (cur.setIfInBounds j _).size = m from by rw [Array.size_setIfInBounds]; exact HS1.out), fun k hk => ?_, fun k hk => HD2.out k (by omega)⟩
                by_cases hkj : k = j
                · subst hkj
                  exact ⟨hms, by rw [hms]; exact hds, by rw [hl2]; simp [hjs]⟩
                · refine ⟨(HC2.out k (by omega)).1, (HC2.out k (by omega)).2.1, ?_⟩
                  rw [Array.getElem?_setIfInBounds_ne (fun e => hkj e.symm)]
                  exact (HC2.out k (by omega)).2.2
              case measure => simp [intOf]; omega
        · go_wp2_with fail
          go_meet
          obtain rfl : j = m := by omega
          exact ⟨ls, ms, ds, cur, HB1, HC1⟩
    case rest =>
      obtain ⟨ls, ms, ds, cur, HB, HC⟩ := hcut
      clear B0
      go_upto_block 8 with fail
      go_cut [9, 10] from 73 to 122 (fun s9 s10 wx => Hid (Big w wx base m p G vs ns ls ms ds cur))
      case first =>
        go_wp2_with fail
        go_loopw [9, 10] (fun a b wr => ∃ j, j ≤ m ∧ a = .int .i64 (j : Nat) ∧ Hid (Big w wr base m p G vs ns ls ms ds cur)) (fun a _ _ => m - (intOf a).toNat)
        case atStart => exact ⟨0, Nat.zero_le _, rfl, HB⟩
        case round =>
          obtain ⟨j, hj, rfl, HB1⟩ := hrel
          clear HB
          by_cases hlt : j < m
          · go_wp2_with fail
            go_loopw [10] (fun b wr => ∃ i, i ≤ ns j + 64 ∧ b = .int .i64 (i : Nat) ∧ Hid (Big w wr base m p G vs ns ls ms ds cur)) (fun b _ => ns j + 64 - (intOf b).toNat)
            case atStart => exact ⟨0, Nat.zero_le _, rfl, HB1⟩
            case round =>
              obtain ⟨i, hi, rfl, HB2⟩ := hrel
              clear HB1
              have hnj := HN.out j hlt
              obtain ⟨A, c, hv, hc, hA⟩ := HB2.out.two.form j hlt
              obtain ⟨g2, c2, hl, hlc, hld⟩ := big_at_long HB2.out hlt (HC.out j hlt)
              have p0 : wr.cell? ⟨p, j, none⟩ = some (.slice A (ns j) c) := by rw [← hv]; exact HB2.out.lst.cell j hlt
              have q0 : wr.cell? ⟨G, j, none⟩ = some (.slice (some ⟨g2, 0, none⟩) (ns j + 64) c2) := by rw [← hl]; exact (HB2.out.lng.cell j).trans (HC.out j hlt).2.2
              by_cases hi2 : i < ns j + 64
              · have r0 := hld i hi2
                have hi3 : (i : Int) < (ns j : Int) + 64 := by omega
                by_cases hi4 : i < ns j
                · obtain ⟨g, rfl⟩ := hA (by omega)
                  have s0 := big_at_short HB2.out hlt hv i hi4
                  have g0 : decide ((i : Int) < (ns j : Int)) = true := decide_eq_true (by omega)
                  have g1 : (i : Int) < (ns j : Int) := by omega
                  clear hv hl
                  go_wp2_with fail
                  go_quiet (first | exact Calls.quiet_of_same (markByte_any _ j i (by omega) (by omega)) | exact Calls.quiet_of_same ((markByte_any _ j i (by omega) (by omega)).mono (fun e w' ⟨h1, h2⟩ => ⟨h1, h2.symm⟩)))
                  go_wp2
                  go_roundw
                  case rel => exact ⟨i + 1, by omega, by go_num, HB2.out.drewN _⟩
                  case measure => simp [intOf]; omega
                · have g0 : decide ((i : Int) < (ns j : Int)) = false := decide_eq_false (by omega)
                  have g1 : decide (i < ns j) = false := decide_eq_false (by omega)
                  have g2 : decide (ns j ≤ i) = true := decide_eq_true (by omega)
                  clear hv hl
                  go_wp2_with fail
                  go_quiet (first | exact Calls.quiet_of_same (markByte_any _ j i (by omega) (by omega)) | exact Calls.quiet_of_same ((markByte_any _ j i (by omega) (by omega)).mono (fun e w' ⟨h1, h2⟩ => ⟨h1, h2.symm⟩)))
                  go_wp2
                  go_roundw
                  case rel => exact ⟨i + 1, by omega, by go_num, HB2.out.drewN _⟩
                  case measure => simp [intOf]; omega
              · obtain rfl : i = ns j + 64 := by omega
                go_wp2_with fail
                go_roundw
                case rel => exact ⟨j + 1, by omega, by go_num, HB2⟩
                case measure => simp [intOf]; omega
          · go_wp2_with fail
            go_meet
            exact HB1
      case rest =>
        have HB4 : Hid (Big w wc base m p G vs ns ls ms ds cur) := hcut
        have HC4 : Hid (∀ k, k < m → ms k = ns k + 64 ∧ cur[k]? = some (ls k)) := fun k hk => ⟨(HC.out k hk).1, (HC.out k hk).2.2⟩
        clear HB HC hcut
        go_upto_block 12 with fail
        go_cut [11, 12, 13] from 123 to 151 (fun s11 s12 s13 wx => ∃ ls ms ds cur, Hid (Big w wx base m p G vs ns ls ms ds cur) ∧ Hid (∀ k, k < m → ms k = ns k + 64 ∧ cur[k]? = some (ls k)))
        case first =>
          go_wp2_with fail
          go_loopw [11, 12, 13] (fun a s12 s13 wr => ∃ j ls ms ds cur, j ≤ m ∧ a = .int .i64 (j : Nat) ∧ Hid (Big w wr base m p G vs ns ls ms ds cur) ∧ Hid (∀ k, k < m → ms k = ns k + 64 ∧ cur[k]? = some (ls k))) (fun a _ _ _ => m - (intOf a).toNat)
          case atStart => exact ⟨0, ls, ms, ds, cur, Nat.zero_le _, rfl, HB4, HC4⟩
          case round =>
            obtain ⟨j, ls, ms, ds, cur, hj, rfl, HB5, HC5⟩ := hrel
            clear HB4 HC4
            by_cases hlt : j < m
            · have hnj := HN.out j hlt
              have hmk2 : ∀ w, (Instr.makeSlice 22 (.int .i64 64) (.int .i64 64)).run Try.prog w = .ok (.slice (some ⟨w.heap.size, 0, none⟩) 64 64) (w.alloc (.cells (byts (List.replicate 64 0)).toArray 5)) := by
                intro w
                have := make_bytes 64 64 (by omega) (by omega) w
                simpa using this
              obtain ⟨Z2, hZ2⟩ : ∃ Z, Z = (byts (List.replicate 64 0)).toArray := ⟨_, rfl⟩
              rw [← hZ2] at hmk2
              have T0 : Hid (Row (wr.alloc (.cells Z2 5)) 0 wr.heap.size 64 64 (List.replicate 64 0)) := by
                show Row _ _ _ _ _ _
                rw [hZ2]
                exact row_made wr 0 64 (List.replicate 64 0) (by simp) (Nat.zero_le _) (by omega)
              have HB6 := Lib.hid (HB5.out.alloc (.cells Z2 5))
              have HG := Lib.hid (big_new HB5.out (Nat.le_refl _))
              clear hZ2
              go_wp2_with fail
              generalize wr.heap.size = tb at T0 HG ⊢
              go_loopw [13] (fun b wr => ∃ i ts, i ≤ 64 ∧ b = .int .i64 (i : Nat) ∧ Hid (Row wr 0 tb 64 64 ts) ∧ Hid (Big w wr base m p G vs ns ls ms ds cur)) (fun b _ => 64 - (intOf b).toNat)
              case atStart => exact ⟨0, _, by omega, rfl, T0, HB6⟩
              case round =>
                obtain ⟨i, ts, hi, rfl, T1, HB7⟩ := hrel
                clear T0 HB6
                by_cases hi2 : i < 64
                · have hcall := fun W => markByte_any W (j + m) i (by omega) (by omega)
                  simp only [Int.natCast_add] at hcall
                  have d0 := T1.out.cell i (by rw [T1.out.len]; omega)
                  have d1 := T1.out.frozen i
                  go_wp2_with (go_at_call 52; refine (hcall _).mono ?_; rintro e w' ⟨rfl, rfl⟩)
                  have T2 := Lib.hid (T1.out.set i (markK (j + m) i) _ rfl)
                  have HB8 := Lib.hid (big_far HB7.out HG.out.1 HG.out.2.1 HG.out.2.2.1 HG.out.2.2.2.1 HG.out.2.2.2.2 i (.int .u8 ((markK (j + m) i).toNat : Int)))
                  go_roundw
                  case rel => exact ⟨i + 1, _, by omega, by go_num, T2, HB8⟩
                  case measure => simp [intOf]; omega
                · obtain rfl : i = 64 := by omega
                  obtain ⟨A, c, hv, hc, hA⟩ := HB7.out.two.form j hlt
                  have p0 : wr.cell? ⟨p, j, none⟩ = some (.slice A (ns j) c) := by rw [← hv]; exact HB7.out.lst.cell j hlt
                  have hjs : j < cur.size := (Array.getElem?_eq_some_iff.1 (HC5.out j hlt).2).1
                  have hown : wr.ownsRow base 5 1 (.slice A (ns j) c) (ns j) (byts (mk j (ns j))) := by rw [← hv]; exact HB7.out.two.own j hlt
                  have hbs : base ≤ wr.heap.size := by have := HB7.out.frm.size; omega
                  have HO := Lib.hid hown
                  have HV := Lib.hid hv
                  clear hown hv
                  go_wp2_with (at_builtin; refine wpList_append_keep rfl (.tmp 148) (.tmp 149) rfl base (.slice A (ns j) c) (ns j) (mk j (ns j)) rfl HO.out ⟨tb, 0, none⟩ 64 64 ts rfl T1.out.len T1.out.rds.news (by omega) (by omega) hbs ?_; intro g' cap' w2 hown' hkeep'; have h9 := (big_back HB7.out j).app j hlt 64 ts g' cap' (by rw [upd_same, upd_same]; exact hown') (by rw [upd_same, upd_same, HV.out]; exact hkeep'); have HB9 := Lib.hid h9; have d0 := (h9.lng.cell j).trans (Array.getElem?_eq_getElem hjs); have d1 := h9.lng.frozen j; clear hown' hkeep' h9)
                  have h9 := HB9.out
                  simp only [upd_same] at h9
                  have HB10 := Lib.hid (h9.put j (.slice (some ⟨g', 0, none⟩) (ns j + 64) cap') hpG)
                  clear h9 HB9
                  go_roundw
                  case rel =>
                    refine ⟨j + 1, _, _, _, _, by omega, by go_num, HB10, fun k hk => ?_⟩
                    by_cases hkj : k = j
                    · subst hkj
                      exact ⟨by rw [upd_same], by rw [upd_same]; simp [hjs]⟩
                    · rw [upd_other _ _ hkj, upd_other _ _ hkj, upd_other _ _ hkj, upd_other _ _ hkj, Array.getElem?_setIfInBounds_ne (fun e => hkj e.symm)]
                      exact HC5.out k hk
                  case measure => simp [intOf]; omega
            · go_wp2_with fail
              go_meet
              exact ⟨ls, ms, ds, cur, HB5, fun k hk => HC5.out k hk⟩
        case rest =>
          obtain ⟨ls, ms, ds, cur, HB, HC⟩ := hcut
          clear HB4 HC4
          go_wp2_with fail
          go_loopw [14, 15] (fun a b wr => ∃ j, j ≤ m ∧ a = .int .i64 (j : Nat) ∧ Hid (Big w wr base m p G vs ns ls ms ds cur)) (fun a _ _ => m - (intOf a).toNat)
          case atStart => exact ⟨0, Nat.zero_le _, rfl, HB⟩
          case round =>
            obtain ⟨j, hj, rfl, HB1⟩ := hrel
            clear HB
            by_cases hlt : j < m
            · go_wp2_with fail
              go_loopw [15] (fun b wr => ∃ i, i ≤ ns j ∧ b = .int .i64 (i : Nat) ∧ Hid (Big w wr base m p G vs ns ls ms ds cur)) (fun b _ => ns j - (intOf b).toNat)
              case atStart => exact ⟨0, Nat.zero_le _, rfl, HB1⟩
              case round =>
                obtain ⟨i, hi, rfl, HB2⟩ := hrel
                clear HB1
                have hnj := HN.out j hlt
                obtain ⟨A, c, hv, hc, hA⟩ := HB2.out.two.form j hlt
                have p0 : wr.cell? ⟨p, j, none⟩ = some (.slice A (ns j) c) := by rw [← hv]; exact HB2.out.lst.cell j hlt
                by_cases hi2 : i < ns j
                · obtain ⟨g2, c2, hl, hlc, hld⟩ := big_at_head HB2.out hlt (HC.out j hlt).1
                  have q0 : wr.cell? ⟨G, j, none⟩ = some (.slice (some ⟨g2, 0, none⟩) (ns j + 64) c2) := by rw [← hl]; exact (HB2.out.lng.cell j).trans (HC.out j hlt).2
                  have r0 := hld i hi2
                  obtain ⟨g, rfl⟩ := hA (by omega)
                  have s0 := big_at_short HB2.out hlt hv i hi2
                  have g1 : (i : Int) < (ns j : Int) := by omega
                  have hi3 : (i : Int) < (ns j : Int) + 64 := by omega
                  clear hv hl hld
                  go_wp2_with fail
                  go_quiet (first | exact Calls.quiet_of_same (markByte_any _ j i (by omega) (by omega)) | exact Calls.quiet_of_same ((markByte_any _ j i (by omega) (by omega)).mono (fun e w' ⟨h1, h2⟩ => ⟨h1, h2.symm⟩)))
                  go_wp2
                  go_roundw
                  case rel => exact ⟨i + 1, by omega, by go_num, HB2.out.drewN _⟩
                  case measure => simp [intOf]; omega
                · obtain rfl : i = ns j := by omega
                  go_wp2_with fail
                  go_roundw
                  case rel => exact ⟨j + 1, by omega, by go_num, HB2⟩
                  case measure => simp [intOf]; omega
            · go_wp2_with fail
              go_ret
              exact ⟨rfl, HB1.out.frm⟩
end Go.Proofs.Ytnokbnggpbjchaa
