/-
  No cell of these rows narrows 'for every input' (looked for: loops, veiled, ifaces, maps, wideKeys, modest, calm, conditions, laid).
  DERIVED. THE GIVEN ROWS OF THIS SEAT. 8 by the template 'for every input the law returns true; each argument reads behind the call as it read before'; 0 by the template 'total and deterministic' (their statements: YtnokbnggpbjchaaTotals.lean).
  GIVEN WITH THE SEED: the statements are not yours to turn. If you find one false, say at which input.
  Laid BY PROGRAM, IN A SANDBOX (cutbox-rows.mjs): the forced cells as the released guide's own fill.sh prints them over the translation 8e47d40664b7bede… (all of the seat's roots in one cut). By AI agents, Wed Nov 11 2026. No macro, syntax, notation, axiom, sorry.
-/
import Derived.Test.YtnokbnggpbjchaaChecked
import GoSem.Claim
import GoSem.ClaimJoined
import GoSem.ClaimMapViews
import Derived.JoinedTies
import Derived.KernelRfl
namespace Go.Proofs.Ytnokbnggpbjchaa
/- THE CELL 'sum', in the pinned program and in every row, IS THE sha256 OF THE DUMP (.gsa) THAT YtnokbnggpbjchaaProg.lean LOADS. Nothing in Lean hashes anything: it is a label: what it is worth is what the hold of that sum in a sandbox is worth. -/
noncomputable def Try.pinned : Pinned := { name := "ytnokbnggpbjchaa", sum := "8e47d40664b7bede0df984c4a47cfc47f9865b486cc33c39102ab2d90947361d", checked := Try.checked }
namespace Rows
def none {H : Type} : Left H := { results := [], args := [] }

/-- 'bafflelaw02.CsumTells': WHATEVER THE INPUT: true; the input reads as it did. -/
def csumTellsSpec : ChangeSpec := { name := "csumTells", fn := fun _ => fun
  | [d1, d2, d3] => { results := [.lit (.bool true)], args := [d1, d2, d3] }
  | _ => none }
def csumTellsRow : OpenClaim := { program := "ytnokbnggpbjchaa", sum := "8e47d40664b7bede0df984c4a47cfc47f9865b486cc33c39102ab2d90947361d", func := "baffle/bafflelaw02.CsumTells", spec := "csumTells", unfollowed := true, recurses := true, apart := false }
def CsumTellsSaid : Prop := csumTellsRow.holds Try.pinned (OpenSpec.ofChange csumTellsSpec)

/-- ITS FALSE NEIGHBOUR: 'it returns false'. Refute it at one input. -/
def csumTellsWrong : ChangeSpec := { name := "csumTells", fn := fun _ => fun
  | [d1, d2, d3] => { results := [.lit (.bool false)], args := [d1, d2, d3] }
  | _ => none }
def CsumTellsWrongFalsely : Prop := csumTellsRow.holds Try.pinned (OpenSpec.ofChange csumTellsWrong)

/-- 'bafflelaw02.CsumNumbers': WHATEVER THE INPUT: true; the input reads as it did. -/
def csumNumbersSpec : ChangeSpec := { name := "csumNumbers", fn := fun _ => fun
  | [d1, d2, d3, d4, d5, d6, d7, d8] => { results := [.lit (.bool true)], args := [d1, d2, d3, d4, d5, d6, d7, d8] }
  | _ => none }
def csumNumbersRow : OpenClaim := { program := "ytnokbnggpbjchaa", sum := "8e47d40664b7bede0df984c4a47cfc47f9865b486cc33c39102ab2d90947361d", func := "baffle/bafflelaw02.CsumNumbers", spec := "csumNumbers", unfollowed := true, recurses := true, apart := false }
def CsumNumbersSaid : Prop := csumNumbersRow.holds Try.pinned (OpenSpec.ofChange csumNumbersSpec)

/-- ITS FALSE NEIGHBOUR: 'it returns false'. Refute it at one input. -/
def csumNumbersWrong : ChangeSpec := { name := "csumNumbers", fn := fun _ => fun
  | [d1, d2, d3, d4, d5, d6, d7, d8] => { results := [.lit (.bool false)], args := [d1, d2, d3, d4, d5, d6, d7, d8] }
  | _ => none }
def CsumNumbersWrongFalsely : Prop := csumNumbersRow.holds Try.pinned (OpenSpec.ofChange csumNumbersWrong)

/-- 'bafflelaw02.CsumSmall': WHATEVER THE INPUT: true; the input reads as it did. -/
def csumSmallSpec : ChangeSpec := { name := "csumSmall", fn := fun _ => fun
  | [] => { results := [.lit (.bool true)], args := [] }
  | _ => none }
def csumSmallRow : OpenClaim := { program := "ytnokbnggpbjchaa", sum := "8e47d40664b7bede0df984c4a47cfc47f9865b486cc33c39102ab2d90947361d", func := "baffle/bafflelaw02.CsumSmall", spec := "csumSmall", unfollowed := true, recurses := true, apart := false }
def CsumSmallSaid : Prop := csumSmallRow.holds Try.pinned (OpenSpec.ofChange csumSmallSpec)

/-- ITS FALSE NEIGHBOUR: 'it returns false'. Refute it at one input. -/
def csumSmallWrong : ChangeSpec := { name := "csumSmall", fn := fun _ => fun
  | [] => { results := [.lit (.bool false)], args := [] }
  | _ => none }
def CsumSmallWrongFalsely : Prop := csumSmallRow.holds Try.pinned (OpenSpec.ofChange csumSmallWrong)

/-- 'bafflelaw02.CsumFixed': WHATEVER THE INPUT: true; the input reads as it did. -/
def csumFixedSpec : ChangeSpec := { name := "csumFixed", fn := fun _ => fun
  | [d1, d2, d3, d4] => { results := [.lit (.bool true)], args := [d1, d2, d3, d4] }
  | _ => none }
def csumFixedRow : OpenClaim := { program := "ytnokbnggpbjchaa", sum := "8e47d40664b7bede0df984c4a47cfc47f9865b486cc33c39102ab2d90947361d", func := "baffle/bafflelaw02.CsumFixed", spec := "csumFixed", unfollowed := true, recurses := true, apart := false }
def CsumFixedSaid : Prop := csumFixedRow.holds Try.pinned (OpenSpec.ofChange csumFixedSpec)

/-- ITS FALSE NEIGHBOUR: 'it returns false'. Refute it at one input. -/
def csumFixedWrong : ChangeSpec := { name := "csumFixed", fn := fun _ => fun
  | [d1, d2, d3, d4] => { results := [.lit (.bool false)], args := [d1, d2, d3, d4] }
  | _ => none }
def CsumFixedWrongFalsely : Prop := csumFixedRow.holds Try.pinned (OpenSpec.ofChange csumFixedWrong)

/-- 'bafflelaw02.CsumOrder': WHATEVER THE INPUT: true; the input reads as it did. -/
def csumOrderSpec : ChangeSpec := { name := "csumOrder", fn := fun _ => fun
  | [d1, d2, d3] => { results := [.lit (.bool true)], args := [d1, d2, d3] }
  | _ => none }
def csumOrderRow : OpenClaim := { program := "ytnokbnggpbjchaa", sum := "8e47d40664b7bede0df984c4a47cfc47f9865b486cc33c39102ab2d90947361d", func := "baffle/bafflelaw02.CsumOrder", spec := "csumOrder", unfollowed := true, recurses := true, apart := false }
def CsumOrderSaid : Prop := csumOrderRow.holds Try.pinned (OpenSpec.ofChange csumOrderSpec)

/-- ITS FALSE NEIGHBOUR: 'it returns false'. Refute it at one input. -/
def csumOrderWrong : ChangeSpec := { name := "csumOrder", fn := fun _ => fun
  | [d1, d2, d3] => { results := [.lit (.bool false)], args := [d1, d2, d3] }
  | _ => none }
def CsumOrderWrongFalsely : Prop := csumOrderRow.holds Try.pinned (OpenSpec.ofChange csumOrderWrong)

/-- 'bafflelaw02.CsumUpdates': WHATEVER THE INPUT: true; the input reads as it did. -/
def csumUpdatesSpec : ChangeSpec := { name := "csumUpdates", fn := fun _ => fun
  | [d1, d2, d3] => { results := [.lit (.bool true)], args := [d1, d2, d3] }
  | _ => none }
def csumUpdatesRow : OpenClaim := { program := "ytnokbnggpbjchaa", sum := "8e47d40664b7bede0df984c4a47cfc47f9865b486cc33c39102ab2d90947361d", func := "baffle/bafflelaw02.CsumUpdates", spec := "csumUpdates", unfollowed := true, recurses := true, apart := false }
def CsumUpdatesSaid : Prop := csumUpdatesRow.holds Try.pinned (OpenSpec.ofChange csumUpdatesSpec)

/-- ITS FALSE NEIGHBOUR: 'it returns false'. Refute it at one input. -/
def csumUpdatesWrong : ChangeSpec := { name := "csumUpdates", fn := fun _ => fun
  | [d1, d2, d3] => { results := [.lit (.bool false)], args := [d1, d2, d3] }
  | _ => none }
def CsumUpdatesWrongFalsely : Prop := csumUpdatesRow.holds Try.pinned (OpenSpec.ofChange csumUpdatesWrong)

/-- 'bafflelaw02.CsumPackets': WHATEVER THE INPUT: true; the input reads as it did. -/
def csumPacketsSpec : ChangeSpec := { name := "csumPackets", fn := fun _ => fun
  | [d1, d2, d3, d4, d5] => { results := [.lit (.bool true)], args := [d1, d2, d3, d4, d5] }
  | _ => none }
def csumPacketsRow : OpenClaim := { program := "ytnokbnggpbjchaa", sum := "8e47d40664b7bede0df984c4a47cfc47f9865b486cc33c39102ab2d90947361d", func := "baffle/bafflelaw02.CsumPackets", spec := "csumPackets", unfollowed := true, recurses := true, apart := false }
def CsumPacketsSaid : Prop := csumPacketsRow.holds Try.pinned (OpenSpec.ofChange csumPacketsSpec)

/-- ITS FALSE NEIGHBOUR: 'it returns false'. Refute it at one input. -/
def csumPacketsWrong : ChangeSpec := { name := "csumPackets", fn := fun _ => fun
  | [d1, d2, d3, d4, d5] => { results := [.lit (.bool false)], args := [d1, d2, d3, d4, d5] }
  | _ => none }
def CsumPacketsWrongFalsely : Prop := csumPacketsRow.holds Try.pinned (OpenSpec.ofChange csumPacketsWrong)

/-- 'bafflelaw02.CsumWrong': WHATEVER THE INPUT: true; the input reads as it did. -/
def csumWrongSpec : ChangeSpec := { name := "csumWrong", fn := fun _ => fun
  | [d1, d2, d3] => { results := [.lit (.bool true)], args := [d1, d2, d3] }
  | _ => none }
def csumWrongRow : OpenClaim := { program := "ytnokbnggpbjchaa", sum := "8e47d40664b7bede0df984c4a47cfc47f9865b486cc33c39102ab2d90947361d", func := "baffle/bafflelaw02.CsumWrong", spec := "csumWrong", unfollowed := true, recurses := true, apart := false }
def CsumWrongSaid : Prop := csumWrongRow.holds Try.pinned (OpenSpec.ofChange csumWrongSpec)

/-- ITS FALSE NEIGHBOUR: 'it returns false'. Refute it at one input. -/
def csumWrongWrong : ChangeSpec := { name := "csumWrong", fn := fun _ => fun
  | [d1, d2, d3] => { results := [.lit (.bool false)], args := [d1, d2, d3] }
  | _ => none }
def CsumWrongWrongFalsely : Prop := csumWrongRow.holds Try.pinned (OpenSpec.ofChange csumWrongWrong)

/- THE SECOND FORM. 'bulk': how many values and letters a reading holds, each counted each time it is reached (what is shared counts as often as it is met; a slice's spare places count too). A statement '..UptoSaid' is the law's where the arguments, and the package variables that the reading takes, are together of bulk at most 1048576: NARROWER than '..Said'. Prove '..Said' where nothing that the law and all that it calls make is longer than what came in: it says more and counts as full. Else prove '..UptoSaid'. A law counts once. -/
mutual
def uptoBulk {H : Type} : DataW H → Nat
  | .lit (.string bytes) => bytes.length + 1
  | .lit _ => 1
  | .nil => 1
  | .ptr d => uptoBulk d + 1
  | .slice elems spare => uptoBulkAll elems + uptoBulkAll spare + 1
  | .agg parts => uptoBulkAll parts + 1
  | .iface _ d => uptoBulk d + 1
  | .map entries => uptoBulkEntries entries + 1
  | .held _ => 1
def uptoBulkAll {H : Type} : List (DataW H) → Nat
  | [] => 0
  | d :: r => uptoBulk d + uptoBulkAll r
def uptoBulkEntries {H : Type} : List (Lit × DataW H) → Nat
  | [] => 0
  | x :: r => uptoBulkEntry x + uptoBulkEntries r
def uptoBulkEntry {H : Type} : Lit × DataW H → Nat
  | (.string bytes, d) => bytes.length + uptoBulk d + 1
  | (_, d) => uptoBulk d + 1
 end
def uptoSmall : (H : Type) → List (DataW H) → Bool := fun _ ds => decide (uptoBulkAll ds ≤ 1048576)
def OpenSpec.upto (s : _root_.Go.ChangeSpec) : _root_.Go.OpenSpec := { _root_.Go.OpenSpec.ofChange s with cond := some uptoSmall }

/-- 'bafflelaw02.CsumTells', WHERE WHAT IT READS IS OF BULK AT MOST 1048576: true; the input reads as it did. -/
def csumTellsUptoRow : OpenClaim := { program := "ytnokbnggpbjchaa", sum := "8e47d40664b7bede0df984c4a47cfc47f9865b486cc33c39102ab2d90947361d", func := "baffle/bafflelaw02.CsumTells", spec := "csumTells", unfollowed := true, recurses := true, apart := false, narrowed := true }
def CsumTellsUptoSaid : Prop := csumTellsUptoRow.holds Try.pinned (OpenSpec.upto csumTellsSpec)

/-- 'bafflelaw02.CsumNumbers', WHERE WHAT IT READS IS OF BULK AT MOST 1048576: true; the input reads as it did. -/
def csumNumbersUptoRow : OpenClaim := { program := "ytnokbnggpbjchaa", sum := "8e47d40664b7bede0df984c4a47cfc47f9865b486cc33c39102ab2d90947361d", func := "baffle/bafflelaw02.CsumNumbers", spec := "csumNumbers", unfollowed := true, recurses := true, apart := false, narrowed := true }
def CsumNumbersUptoSaid : Prop := csumNumbersUptoRow.holds Try.pinned (OpenSpec.upto csumNumbersSpec)

/-- 'bafflelaw02.CsumSmall', WHERE WHAT IT READS IS OF BULK AT MOST 1048576: true; the input reads as it did. -/
def csumSmallUptoRow : OpenClaim := { program := "ytnokbnggpbjchaa", sum := "8e47d40664b7bede0df984c4a47cfc47f9865b486cc33c39102ab2d90947361d", func := "baffle/bafflelaw02.CsumSmall", spec := "csumSmall", unfollowed := true, recurses := true, apart := false, narrowed := true }
def CsumSmallUptoSaid : Prop := csumSmallUptoRow.holds Try.pinned (OpenSpec.upto csumSmallSpec)

/-- 'bafflelaw02.CsumFixed', WHERE WHAT IT READS IS OF BULK AT MOST 1048576: true; the input reads as it did. -/
def csumFixedUptoRow : OpenClaim := { program := "ytnokbnggpbjchaa", sum := "8e47d40664b7bede0df984c4a47cfc47f9865b486cc33c39102ab2d90947361d", func := "baffle/bafflelaw02.CsumFixed", spec := "csumFixed", unfollowed := true, recurses := true, apart := false, narrowed := true }
def CsumFixedUptoSaid : Prop := csumFixedUptoRow.holds Try.pinned (OpenSpec.upto csumFixedSpec)

/-- 'bafflelaw02.CsumOrder', WHERE WHAT IT READS IS OF BULK AT MOST 1048576: true; the input reads as it did. -/
def csumOrderUptoRow : OpenClaim := { program := "ytnokbnggpbjchaa", sum := "8e47d40664b7bede0df984c4a47cfc47f9865b486cc33c39102ab2d90947361d", func := "baffle/bafflelaw02.CsumOrder", spec := "csumOrder", unfollowed := true, recurses := true, apart := false, narrowed := true }
def CsumOrderUptoSaid : Prop := csumOrderUptoRow.holds Try.pinned (OpenSpec.upto csumOrderSpec)

/-- 'bafflelaw02.CsumUpdates', WHERE WHAT IT READS IS OF BULK AT MOST 1048576: true; the input reads as it did. -/
def csumUpdatesUptoRow : OpenClaim := { program := "ytnokbnggpbjchaa", sum := "8e47d40664b7bede0df984c4a47cfc47f9865b486cc33c39102ab2d90947361d", func := "baffle/bafflelaw02.CsumUpdates", spec := "csumUpdates", unfollowed := true, recurses := true, apart := false, narrowed := true }
def CsumUpdatesUptoSaid : Prop := csumUpdatesUptoRow.holds Try.pinned (OpenSpec.upto csumUpdatesSpec)

/-- 'bafflelaw02.CsumPackets', WHERE WHAT IT READS IS OF BULK AT MOST 1048576: true; the input reads as it did. -/
def csumPacketsUptoRow : OpenClaim := { program := "ytnokbnggpbjchaa", sum := "8e47d40664b7bede0df984c4a47cfc47f9865b486cc33c39102ab2d90947361d", func := "baffle/bafflelaw02.CsumPackets", spec := "csumPackets", unfollowed := true, recurses := true, apart := false, narrowed := true }
def CsumPacketsUptoSaid : Prop := csumPacketsUptoRow.holds Try.pinned (OpenSpec.upto csumPacketsSpec)

/-- 'bafflelaw02.CsumWrong', WHERE WHAT IT READS IS OF BULK AT MOST 1048576: true; the input reads as it did. -/
def csumWrongUptoRow : OpenClaim := { program := "ytnokbnggpbjchaa", sum := "8e47d40664b7bede0df984c4a47cfc47f9865b486cc33c39102ab2d90947361d", func := "baffle/bafflelaw02.CsumWrong", spec := "csumWrong", unfollowed := true, recurses := true, apart := false, narrowed := true }
def CsumWrongUptoSaid : Prop := csumWrongUptoRow.holds Try.pinned (OpenSpec.upto csumWrongSpec)

end Rows
end Go.Proofs.Ytnokbnggpbjchaa
