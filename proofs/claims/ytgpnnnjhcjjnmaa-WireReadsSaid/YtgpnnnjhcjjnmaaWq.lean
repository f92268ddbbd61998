/-
  WireReads: too many acts, too many bytes.
-/
import Derived.Test.YtgpnnnjhcjjnmaaWs
import Derived.Test.YtgpnnnjhcjjnmaaL3
import Derived.BigRegion
import Derived.BigQuiet
namespace Go.Proofs.Ytgpnnnjhcjjnmaa
open Go.RowKit
attribute [local go_sem] undef
attribute [local irreducible] wpList

set_option maxRecDepth 100000 in
set_option maxHeartbeats 1000000 in
theorem reads_much (w : World) (A B : Option Addr) (n c l d : Nat) (h : 100 < l) : Calls Try.prog 12 #[.slice A n c, .slice B l d] w fun e w' => e = .returned (.bool true) ∧ Frm No w w' := by
  have q1 : (100 : Int) < l := by omega
  go_enter Try.func12, Try.ntmps12
  go_wp2
  go_ret
  exact ⟨rfl, Frm.refl _ _⟩

set_option maxRecDepth 100000 in
set_option maxHeartbeats 2000000 in
theorem reads_long (w : World) (A B : Option Addr) (n c l d : Nat) (bs : List UInt8) (hn : bs.length = n) (hs : Src w A c bs) (h1 : l ≤ 100) (h2 : 131072 < n) (h4 : n ≤ 140737488351232) :
    Calls Try.prog 12 #[.slice A n c, .slice B l d] w fun e w' => e = .returned (.bool true) ∧ Frm No w w' := by
  have q1 : ¬ (100 : Int) < l := by omega
  have HS := Lib.hid hs
  have HN := Lib.hid hn
  clear hs hn
  go_enter Try.func12, Try.ntmps12
  go_wp2_with fail
  refine (lent _ A c n bs HN.out HS.out (by omega)).mono ?_
  rintro e w1 ⟨A5, c5, he, ho5, hf5⟩
  rw [HN.out] at he
  subst he
  have O5 := Lib.hid ho5
  have F5 := Lib.hid hf5
  clear ho5 hf5
  have NR := Lib.hid (newReader_long w1 A5 c5 n h2)
  have KB := Lib.hid (kept_bytes w1 A5 A c5 c n bs HN.out (by have := (lent_src O5.out).2.2; have := HN.out; omega) (lent_src O5.out).2.1 (HS.out.rds.frm F5.out (fun _ _ x => x)) (by omega))
  have q2 : (131072 : Int) < n := by omega
  go_wp2_with fail
  refine NR.out.mono ?_
  rintro e w2 ⟨rfl, rfl⟩
  go_wp2_with fail
  refine KB.out.mono ?_
  rintro e w3 ⟨rfl, n3, rfl⟩
  have F6 := Lib.hid (F5.out.drewN n3)
  go_wp2_with fail
  go_ret
  exact ⟨rfl, F6.out⟩
end Go.Proofs.Ytgpnnnjhcjjnmaa
