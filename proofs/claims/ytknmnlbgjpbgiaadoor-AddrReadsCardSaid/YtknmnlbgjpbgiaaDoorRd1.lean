/-
  AddrReads answers true.
-/
import Derived.Test.YtknmnlbgjpbgiaaDoorV2
namespace Go.Proofs.YtknmnlbgjpbgiaaDoor
open Go.RowKit
attribute [local go_sem] undef

set_option maxRecDepth 100000 in
set_option maxHeartbeats 8000000 in
theorem addrReads (w : World) (htab : Tab w) (l : List UInt8) (hs : l.length ≤ 9223372036854775807) : Calls Tryd.prog 10 #[.string ⟨l.toArray⟩] w fun e w' => e = .returned (.bool true) ∧ Frm No w w' := by
  have T0 := Lib.hid htab
  clear htab
  go_enter Tryd.func10, Tryd.ntmps10
  go_wp2_with fail
  refine (awake _ T0.out).mono ?_
  rintro e w0 ⟨rfl, hf⟩
  have F0 := Lib.hid hf
  clear hf
  cases h1 : readOf l with
  | none =>
    have H1 := Lib.hid h1
    clear h1
    go_wp2_with fail
    refine (read_no l _ hs H1.out).mono ?_
    rintro e w1 ⟨rfl, hf⟩
    have E1 := Lib.hid (F0.out.new0 hf)
    clear hf F0
    go_wp2_with fail
    cases h2 : pfxOf l with
    | none =>
      have H2 := Lib.hid h2
      clear h2
      refine (rpfx_no l _ hs H2.out).mono ?_
      rintro e u2 ⟨rfl, hf⟩
      have F2 := Lib.hid (E1.out.new0 hf)
      clear hf E1
      go_wp2_with fail
      obtain ⟨s2, C2⟩ := ptext_zero _ (T0.out.frm (F2.out.alloc (.cells #[.int .u32 0, .int .u8 0] 24)))
      have B2 := Lib.hid (Blk.new u2 24 #[.int .u32 0, .int .u8 0])
      have G2 := Lib.hid (F2.out.alloc (.cells #[.int .u32 0, .int .u8 0] 24))
      refine C2.mono ?_
      clear C2 F2
      rintro e v2 ⟨rfl, hf⟩
      have E2 := Lib.hid (G2.out.new0 hf)
      obtain ⟨b0, b1, _, _⟩ := blk_cells2 (B2.out.frm hf (fun x => x))
      clear hf G2 B2
      go_wp2_with fail
      cases h3 : rngOf l with
      | none =>
        have H3 := Lib.hid h3
        clear h3
        refine (rrng_none l _ hs H3.out).mono ?_
        rintro e u3 ⟨rfl, hf⟩
        have F3 := Lib.hid (E2.out.new0 hf)
        clear hf E2
        go_wp2_with fail
        obtain ⟨s3, C3⟩ := rtext_zero _ (T0.out.frm (F3.out.alloc (.cells #[.int .u16 0, .int .u16 0] 29)))
        have B3 := Lib.hid (Blk.new u3 29 #[.int .u16 0, .int .u16 0])
        have G3 := Lib.hid (F3.out.alloc (.cells #[.int .u16 0, .int .u16 0] 29))
        refine C3.mono ?_
        clear C3 F3
        rintro e v3 ⟨rfl, hf⟩
        have E3 := Lib.hid (G3.out.new0 hf)
        obtain ⟨b0, b1, _, _⟩ := blk_cells2 (B3.out.frm hf (fun x => x))
        clear hf G3 B3
        go_wp2_with fail
        cases h4 : keyOf l with
        | none =>
          have H4 := Lib.hid h4
          clear h4
          refine (rkey_none l _ hs H4.out).mono ?_
          rintro e u4 ⟨rfl, hf⟩
          have F4 := Lib.hid (E3.out.new0 hf)
          clear hf E3
          go_wp2_with fail
          go_ret
          exact ⟨rfl, by repeat (first | exact F4.out | apply Frm.drewN | apply Frm.alloc)⟩
        | some k =>
          have H4 := Lib.hid h4
          clear h4
          refine (rkey_yes l _ hs H4.out).mono ?_
          rintro e u4 ⟨rfl, hf⟩
          have F4 := Lib.hid (E3.out.new0 hf)
          clear hf E3
          go_wp2_with fail
          have G4 := Lib.hid (F4.out.alloc (.cells #[.int .u8 (k.pr : Int), .int .u32 (k.a : Int), .int .u32 (k.b : Int), .int .u16 (k.p : Int), .int .u16 (k.q : Int)] 31))
          refine (ktext_as _ (T0.out.frm G4.out) k l H4.out).mono ?_
          clear F4
          rintro e v4 ⟨rfl, hf⟩
          have E4 := Lib.hid (G4.out.new0 hf)
          clear hf G4
          go_wp2_with fail
          go_ret
          exact ⟨rfl, by repeat (first | exact E4.out | apply Frm.drewN | apply Frm.alloc)⟩
      | some an =>
        obtain ⟨f, t⟩ := an
        have H3 := Lib.hid h3
        clear h3
        refine (rrng_yes l _ hs H3.out).mono ?_
        rintro e u3 ⟨rfl, hf⟩
        have F3 := Lib.hid (E2.out.new0 hf)
        clear hf E2
        go_wp2_with fail
        have B3 := Lib.hid (Blk.new u3 29 #[.int .u16 (f : Int), .int .u16 (t : Int)])
        have G3 := Lib.hid (F3.out.alloc (.cells #[.int .u16 (f : Int), .int .u16 (t : Int)] 29))
        refine (rtext_as _ (T0.out.frm G3.out) _ _ l H3.out).mono ?_
        clear F3
        rintro e v3 ⟨rfl, hf⟩
        have E3 := Lib.hid (G3.out.new0 hf)
        obtain ⟨b0, b1, _, _⟩ := blk_cells2 (B3.out.frm hf (fun x => x))
        clear hf G3 B3
        go_wp2_with fail
        cases h4 : keyOf l with
        | none =>
          have H4 := Lib.hid h4
          clear h4
          refine (rkey_none l _ hs H4.out).mono ?_
          rintro e u4 ⟨rfl, hf⟩
          have F4 := Lib.hid (E3.out.new0 hf)
          clear hf E3
          go_wp2_with fail
          go_ret
          exact ⟨rfl, by repeat (first | exact F4.out | apply Frm.drewN | apply Frm.alloc)⟩
        | some k =>
          have H4 := Lib.hid h4
          clear h4
          refine (rkey_yes l _ hs H4.out).mono ?_
          rintro e u4 ⟨rfl, hf⟩
          have F4 := Lib.hid (E3.out.new0 hf)
          clear hf E3
          go_wp2_with fail
          have G4 := Lib.hid (F4.out.alloc (.cells #[.int .u8 (k.pr : Int), .int .u32 (k.a : Int), .int .u32 (k.b : Int), .int .u16 (k.p : Int), .int .u16 (k.q : Int)] 31))
          refine (ktext_as _ (T0.out.frm G4.out) k l H4.out).mono ?_
          clear F4
          rintro e v4 ⟨rfl, hf⟩
          have E4 := Lib.hid (G4.out.new0 hf)
          clear hf G4
          go_wp2_with fail
          go_ret
          exact ⟨rfl, by repeat (first | exact E4.out | apply Frm.drewN | apply Frm.alloc)⟩
    | some an =>
      obtain ⟨b, n⟩ := an
      have H2 := Lib.hid h2
      clear h2
      refine (rpfx_yes l _ hs H2.out).mono ?_
      rintro e u2 ⟨rfl, hf⟩
      have F2 := Lib.hid (E1.out.new0 hf)
      clear hf E1
      go_wp2_with fail
      have B2 := Lib.hid (Blk.new u2 24 #[.int .u32 (b : Int), .int .u8 (n : Int)])
      have G2 := Lib.hid (F2.out.alloc (.cells #[.int .u32 (b : Int), .int .u8 (n : Int)] 24))
      refine (ptext_as _ (T0.out.frm G2.out) _ _ l H2.out).mono ?_
      clear F2
      rintro e v2 ⟨rfl, hf⟩
      have E2 := Lib.hid (G2.out.new0 hf)
      obtain ⟨b0, b1, _, _⟩ := blk_cells2 (B2.out.frm hf (fun x => x))
      clear hf G2 B2
      go_wp2_with fail
      cases h3 : rngOf l with
      | none =>
        have H3 := Lib.hid h3
        clear h3
        refine (rrng_none l _ hs H3.out).mono ?_
        rintro e u3 ⟨rfl, hf⟩
        have F3 := Lib.hid (E2.out.new0 hf)
        clear hf E2
        go_wp2_with fail
        obtain ⟨s3, C3⟩ := rtext_zero _ (T0.out.frm (F3.out.alloc (.cells #[.int .u16 0, .int .u16 0] 29)))
        have B3 := Lib.hid (Blk.new u3 29 #[.int .u16 0, .int .u16 0])
        have G3 := Lib.hid (F3.out.alloc (.cells #[.int .u16 0, .int .u16 0] 29))
        refine C3.mono ?_
        clear C3 F3
        rintro e v3 ⟨rfl, hf⟩
        have E3 := Lib.hid (G3.out.new0 hf)
        obtain ⟨b0, b1, _, _⟩ := blk_cells2 (B3.out.frm hf (fun x => x))
        clear hf G3 B3
        go_wp2_with fail
        cases h4 : keyOf l with
        | none =>
          have H4 := Lib.hid h4
          clear h4
          refine (rkey_none l _ hs H4.out).mono ?_
          rintro e u4 ⟨rfl, hf⟩
          have F4 := Lib.hid (E3.out.new0 hf)
          clear hf E3
          go_wp2_with fail
          go_ret
          exact ⟨rfl, by repeat (first | exact F4.out | apply Frm.drewN | apply Frm.alloc)⟩
        | some k =>
          have H4 := Lib.hid h4
          clear h4
          refine (rkey_yes l _ hs H4.out).mono ?_
          rintro e u4 ⟨rfl, hf⟩
          have F4 := Lib.hid (E3.out.new0 hf)
          clear hf E3
          go_wp2_with fail
          have G4 := Lib.hid (F4.out.alloc (.cells #[.int .u8 (k.pr : Int), .int .u32 (k.a : Int), .int .u32 (k.b : Int), .int .u16 (k.p : Int), .int .u16 (k.q : Int)] 31))
          refine (ktext_as _ (T0.out.frm G4.out) k l H4.out).mono ?_
          clear F4
          rintro e v4 ⟨rfl, hf⟩
          have E4 := Lib.hid (G4.out.new0 hf)
          clear hf G4
          go_wp2_with fail
          go_ret
          exact ⟨rfl, by repeat (first | exact E4.out | apply Frm.drewN | apply Frm.alloc)⟩
      | some an =>
        obtain ⟨f, t⟩ := an
        have H3 := Lib.hid h3
        clear h3
        refine (rrng_yes l _ hs H3.out).mono ?_
        rintro e u3 ⟨rfl, hf⟩
        have F3 := Lib.hid (E2.out.new0 hf)
        clear hf E2
        go_wp2_with fail
        have B3 := Lib.hid (Blk.new u3 29 #[.int .u16 (f : Int), .int .u16 (t : Int)])
        have G3 := Lib.hid (F3.out.alloc (.cells #[.int .u16 (f : Int), .int .u16 (t : Int)] 29))
        refine (rtext_as _ (T0.out.frm G3.out) _ _ l H3.out).mono ?_
        clear F3
        rintro e v3 ⟨rfl, hf⟩
        have E3 := Lib.hid (G3.out.new0 hf)
        obtain ⟨b0, b1, _, _⟩ := blk_cells2 (B3.out.frm hf (fun x => x))
        clear hf G3 B3
        go_wp2_with fail
        cases h4 : keyOf l with
        | none =>
          have H4 := Lib.hid h4
          clear h4
          refine (rkey_none l _ hs H4.out).mono ?_
          rintro e u4 ⟨rfl, hf⟩
          have F4 := Lib.hid (E3.out.new0 hf)
          clear hf E3
          go_wp2_with fail
          go_ret
          exact ⟨rfl, by repeat (first | exact F4.out | apply Frm.drewN | apply Frm.alloc)⟩
        | some k =>
          have H4 := Lib.hid h4
          clear h4
          refine (rkey_yes l _ hs H4.out).mono ?_
          rintro e u4 ⟨rfl, hf⟩
          have F4 := Lib.hid (E3.out.new0 hf)
          clear hf E3
          go_wp2_with fail
          have G4 := Lib.hid (F4.out.alloc (.cells #[.int .u8 (k.pr : Int), .int .u32 (k.a : Int), .int .u32 (k.b : Int), .int .u16 (k.p : Int), .int .u16 (k.q : Int)] 31))
          refine (ktext_as _ (T0.out.frm G4.out) k l H4.out).mono ?_
          clear F4
          rintro e v4 ⟨rfl, hf⟩
          have E4 := Lib.hid (G4.out.new0 hf)
          clear hf G4
          go_wp2_with fail
          go_ret
          exact ⟨rfl, by repeat (first | exact E4.out | apply Frm.drewN | apply Frm.alloc)⟩
  | some a =>
    have H1 := Lib.hid h1
    clear h1
    go_wp2_with fail
    refine (read_yes l _ hs H1.out).mono ?_
    rintro e w1 ⟨rfl, hf⟩
    have F1 := Lib.hid (F0.out.new0 hf)
    clear hf F0
    go_wp2_with fail
    refine (text_as _ (T0.out.frm F1.out) a l H1.out).mono ?_
    rintro e w2 ⟨rfl, hf⟩
    have E1 := Lib.hid (F1.out.new0 hf)
    clear hf F1
    go_wp2_with fail
    cases h2 : pfxOf l with
    | none =>
      have H2 := Lib.hid h2
      clear h2
      refine (rpfx_no l _ hs H2.out).mono ?_
      rintro e u2 ⟨rfl, hf⟩
      have F2 := Lib.hid (E1.out.new0 hf)
      clear hf E1
      go_wp2_with fail
      obtain ⟨s2, C2⟩ := ptext_zero _ (T0.out.frm (F2.out.alloc (.cells #[.int .u32 0, .int .u8 0] 24)))
      have B2 := Lib.hid (Blk.new u2 24 #[.int .u32 0, .int .u8 0])
      have G2 := Lib.hid (F2.out.alloc (.cells #[.int .u32 0, .int .u8 0] 24))
      refine C2.mono ?_
      clear C2 F2
      rintro e v2 ⟨rfl, hf⟩
      have E2 := Lib.hid (G2.out.new0 hf)
      obtain ⟨b0, b1, _, _⟩ := blk_cells2 (B2.out.frm hf (fun x => x))
      clear hf G2 B2
      go_wp2_with fail
      cases h3 : rngOf l with
      | none =>
        have H3 := Lib.hid h3
        clear h3
        refine (rrng_none l _ hs H3.out).mono ?_
        rintro e u3 ⟨rfl, hf⟩
        have F3 := Lib.hid (E2.out.new0 hf)
        clear hf E2
        go_wp2_with fail
        obtain ⟨s3, C3⟩ := rtext_zero _ (T0.out.frm (F3.out.alloc (.cells #[.int .u16 0, .int .u16 0] 29)))
        have B3 := Lib.hid (Blk.new u3 29 #[.int .u16 0, .int .u16 0])
        have G3 := Lib.hid (F3.out.alloc (.cells #[.int .u16 0, .int .u16 0] 29))
        refine C3.mono ?_
        clear C3 F3
        rintro e v3 ⟨rfl, hf⟩
        have E3 := Lib.hid (G3.out.new0 hf)
        obtain ⟨b0, b1, _, _⟩ := blk_cells2 (B3.out.frm hf (fun x => x))
        clear hf G3 B3
        go_wp2_with fail
        cases h4 : keyOf l with
        | none =>
          have H4 := Lib.hid h4
          clear h4
          refine (rkey_none l _ hs H4.out).mono ?_
          rintro e u4 ⟨rfl, hf⟩
          have F4 := Lib.hid (E3.out.new0 hf)
          clear hf E3
          go_wp2_with fail
          go_ret
          exact ⟨rfl, by repeat (first | exact F4.out | apply Frm.drewN | apply Frm.alloc)⟩
        | some k =>
          have H4 := Lib.hid h4
          clear h4
          refine (rkey_yes l _ hs H4.out).mono ?_
          rintro e u4 ⟨rfl, hf⟩
          have F4 := Lib.hid (E3.out.new0 hf)
          clear hf E3
          go_wp2_with fail
          have G4 := Lib.hid (F4.out.alloc (.cells #[.int .u8 (k.pr : Int), .int .u32 (k.a : Int), .int .u32 (k.b : Int), .int .u16 (k.p : Int), .int .u16 (k.q : Int)] 31))
          refine (ktext_as _ (T0.out.frm G4.out) k l H4.out).mono ?_
          clear F4
          rintro e v4 ⟨rfl, hf⟩
          have E4 := Lib.hid (G4.out.new0 hf)
          clear hf G4
          go_wp2_with fail
          go_ret
          exact ⟨rfl, by repeat (first | exact E4.out | apply Frm.drewN | apply Frm.alloc)⟩
      | some an =>
        obtain ⟨f, t⟩ := an
        have H3 := Lib.hid h3
        clear h3
        refine (rrng_yes l _ hs H3.out).mono ?_
        rintro e u3 ⟨rfl, hf⟩
        have F3 := Lib.hid (E2.out.new0 hf)
        clear hf E2
        go_wp2_with fail
        have B3 := Lib.hid (Blk.new u3 29 #[.int .u16 (f : Int), .int .u16 (t : Int)])
        have G3 := Lib.hid (F3.out.alloc (.cells #[.int .u16 (f : Int), .int .u16 (t : Int)] 29))
        refine (rtext_as _ (T0.out.frm G3.out) _ _ l H3.out).mono ?_
        clear F3
        rintro e v3 ⟨rfl, hf⟩
        have E3 := Lib.hid (G3.out.new0 hf)
        obtain ⟨b0, b1, _, _⟩ := blk_cells2 (B3.out.frm hf (fun x => x))
        clear hf G3 B3
        go_wp2_with fail
        cases h4 : keyOf l with
        | none =>
          have H4 := Lib.hid h4
          clear h4
          refine (rkey_none l _ hs H4.out).mono ?_
          rintro e u4 ⟨rfl, hf⟩
          have F4 := Lib.hid (E3.out.new0 hf)
          clear hf E3
          go_wp2_with fail
          go_ret
          exact ⟨rfl, by repeat (first | exact F4.out | apply Frm.drewN | apply Frm.alloc)⟩
        | some k =>
          have H4 := Lib.hid h4
          clear h4
          refine (rkey_yes l _ hs H4.out).mono ?_
          rintro e u4 ⟨rfl, hf⟩
          have F4 := Lib.hid (E3.out.new0 hf)
          clear hf E3
          go_wp2_with fail
          have G4 := Lib.hid (F4.out.alloc (.cells #[.int .u8 (k.pr : Int), .int .u32 (k.a : Int), .int .u32 (k.b : Int), .int .u16 (k.p : Int), .int .u16 (k.q : Int)] 31))
          refine (ktext_as _ (T0.out.frm G4.out) k l H4.out).mono ?_
          clear F4
          rintro e v4 ⟨rfl, hf⟩
          have E4 := Lib.hid (G4.out.new0 hf)
          clear hf G4
          go_wp2_with fail
          go_ret
          exact ⟨rfl, by repeat (first | exact E4.out | apply Frm.drewN | apply Frm.alloc)⟩
    | some an =>
      obtain ⟨b, n⟩ := an
      have H2 := Lib.hid h2
      clear h2
      refine (rpfx_yes l _ hs H2.out).mono ?_
      rintro e u2 ⟨rfl, hf⟩
      have F2 := Lib.hid (E1.out.new0 hf)
      clear hf E1
      go_wp2_with fail
      have B2 := Lib.hid (Blk.new u2 24 #[.int .u32 (b : Int), .int .u8 (n : Int)])
      have G2 := Lib.hid (F2.out.alloc (.cells #[.int .u32 (b : Int), .int .u8 (n : Int)] 24))
      refine (ptext_as _ (T0.out.frm G2.out) _ _ l H2.out).mono ?_
      clear F2
      rintro e v2 ⟨rfl, hf⟩
      have E2 := Lib.hid (G2.out.new0 hf)
      obtain ⟨b0, b1, _, _⟩ := blk_cells2 (B2.out.frm hf (fun x => x))
      clear hf G2 B2
      go_wp2_with fail
      cases h3 : rngOf l with
      | none =>
        have H3 := Lib.hid h3
        clear h3
        refine (rrng_none l _ hs H3.out).mono ?_
        rintro e u3 ⟨rfl, hf⟩
        have F3 := Lib.hid (E2.out.new0 hf)
        clear hf E2
        go_wp2_with fail
        obtain ⟨s3, C3⟩ := rtext_zero _ (T0.out.frm (F3.out.alloc (.cells #[.int .u16 0, .int .u16 0] 29)))
        have B3 := Lib.hid (Blk.new u3 29 #[.int .u16 0, .int .u16 0])
        have G3 := Lib.hid (F3.out.alloc (.cells #[.int .u16 0, .int .u16 0] 29))
        refine C3.mono ?_
        clear C3 F3
        rintro e v3 ⟨rfl, hf⟩
        have E3 := Lib.hid (G3.out.new0 hf)
        obtain ⟨b0, b1, _, _⟩ := blk_cells2 (B3.out.frm hf (fun x => x))
        clear hf G3 B3
        go_wp2_with fail
        cases h4 : keyOf l with
        | none =>
          have H4 := Lib.hid h4
          clear h4
          refine (rkey_none l _ hs H4.out).mono ?_
          rintro e u4 ⟨rfl, hf⟩
          have F4 := Lib.hid (E3.out.new0 hf)
          clear hf E3
          go_wp2_with fail
          go_ret
          exact ⟨rfl, by repeat (first | exact F4.out | apply Frm.drewN | apply Frm.alloc)⟩
        | some k =>
          have H4 := Lib.hid h4
          clear h4
          refine (rkey_yes l _ hs H4.out).mono ?_
          rintro e u4 ⟨rfl, hf⟩
          have F4 := Lib.hid (E3.out.new0 hf)
          clear hf E3
          go_wp2_with fail
          have G4 := Lib.hid (F4.out.alloc (.cells #[.int .u8 (k.pr : Int), .int .u32 (k.a : Int), .int .u32 (k.b : Int), .int .u16 (k.p : Int), .int .u16 (k.q : Int)] 31))
          refine (ktext_as _ (T0.out.frm G4.out) k l H4.out).mono ?_
          clear F4
          rintro e v4 ⟨rfl, hf⟩
          have E4 := Lib.hid (G4.out.new0 hf)
          clear hf G4
          go_wp2_with fail
          go_ret
          exact ⟨rfl, by repeat (first | exact E4.out | apply Frm.drewN | apply Frm.alloc)⟩
      | some an =>
        obtain ⟨f, t⟩ := an
        have H3 := Lib.hid h3
        clear h3
        refine (rrng_yes l _ hs H3.out).mono ?_
        rintro e u3 ⟨rfl, hf⟩
        have F3 := Lib.hid (E2.out.new0 hf)
        clear hf E2
        go_wp2_with fail
        have B3 := Lib.hid (Blk.new u3 29 #[.int .u16 (f : Int), .int .u16 (t : Int)])
        have G3 := Lib.hid (F3.out.alloc (.cells #[.int .u16 (f : Int), .int .u16 (t : Int)] 29))
        refine (rtext_as _ (T0.out.frm G3.out) _ _ l H3.out).mono ?_
        clear F3
        rintro e v3 ⟨rfl, hf⟩
        have E3 := Lib.hid (G3.out.new0 hf)
        obtain ⟨b0, b1, _, _⟩ := blk_cells2 (B3.out.frm hf (fun x => x))
        clear hf G3 B3
        go_wp2_with fail
        cases h4 : keyOf l with
        | none =>
          have H4 := Lib.hid h4
          clear h4
          refine (rkey_none l _ hs H4.out).mono ?_
          rintro e u4 ⟨rfl, hf⟩
          have F4 := Lib.hid (E3.out.new0 hf)
          clear hf E3
          go_wp2_with fail
          go_ret
          exact ⟨rfl, by repeat (first | exact F4.out | apply Frm.drewN | apply Frm.alloc)⟩
        | some k =>
          have H4 := Lib.hid h4
          clear h4
          refine (rkey_yes l _ hs H4.out).mono ?_
          rintro e u4 ⟨rfl, hf⟩
          have F4 := Lib.hid (E3.out.new0 hf)
          clear hf E3
          go_wp2_with fail
          have G4 := Lib.hid (F4.out.alloc (.cells #[.int .u8 (k.pr : Int), .int .u32 (k.a : Int), .int .u32 (k.b : Int), .int .u16 (k.p : Int), .int .u16 (k.q : Int)] 31))
          refine (ktext_as _ (T0.out.frm G4.out) k l H4.out).mono ?_
          clear F4
          rintro e v4 ⟨rfl, hf⟩
          have E4 := Lib.hid (G4.out.new0 hf)
          clear hf G4
          go_wp2_with fail
          go_ret
          exact ⟨rfl, by repeat (first | exact E4.out | apply Frm.drewN | apply Frm.alloc)⟩
end Go.Proofs.YtknmnlbgjpbgiaaDoor
