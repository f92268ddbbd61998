/-
  DERIVED. GIVEN WITH THE SEED: THE CARDS: each row of YtknmnlbgjpbgiaaDoorRows.lean that lists a variable, with what it lists TIED to the program's text (the seventh form; the later family's looks); each row that meets fmt, with fmt's text TOLD by the authors' own Lean function (tested against real Go, not proved from fmt's source: count such statements apart). THE CARD IS WHAT COUNTS. Prove the row's statement (the work); the ties are given (YtknmnlbgjpbgiaaDoorTie.lean); close each card by the builder's one call (the guide's Derived/Test/ToyasCard.lean, 'card_holds'). Laid BY PROGRAM, IN A SANDBOX (cutbox-door.mjs). By AI agents, Wed Nov 11 2026. No macro, syntax, notation, axiom, sorry.
-/
import Derived.Test.YtknmnlbgjpbgiaaDoorRows
import GoSem.ClaimSeven
namespace Go.Proofs.YtknmnlbgjpbgiaaDoor
namespace Rows

/-- THE TIED CARD OF 'bafflelaw03.AddrNumbers'. -/
def addrNumbersCard : Claim7 := { stood := { row := addrNumbersRow, standIns := [], harness := (true, "44f5251255f273eb93fffa4e705397d49e1f3977f8a5a82e2e9334004525a6aa"), looks := false }, kinds := [], alts := [], laidByText := true, laidKinds := [.data, .data, .data], laidTests := true, laidLooks := .later }
def AddrNumbersCardSaid : Prop := Claim7.holds Tryd.pinned (.plain (OpenSpec.ofChange addrNumbersSpec)) addrNumbersCard

/-- THE TIED CARD OF 'bafflelaw03.AddrTexts'. -/
def addrTextsCard : Claim7 := { stood := { row := addrTextsRow, standIns := [], harness := (true, "44f5251255f273eb93fffa4e705397d49e1f3977f8a5a82e2e9334004525a6aa"), looks := false }, kinds := [], alts := [], laidByText := true, laidKinds := [.data, .data, .data], laidTests := true, laidLooks := .later }
def AddrTextsCardSaid : Prop := Claim7.holds Tryd.pinned (.plain (OpenSpec.ofChange addrTextsSpec)) addrTextsCard

/-- THE TIED CARD OF 'bafflelaw03.AddrSmall'. -/
def addrSmallCard : Claim7 := { stood := { row := addrSmallRow, standIns := [], harness := (true, "44f5251255f273eb93fffa4e705397d49e1f3977f8a5a82e2e9334004525a6aa"), looks := false }, kinds := [], alts := [], laidByText := true, laidKinds := [.data, .data, .data], laidTests := true, laidLooks := .later }
def AddrSmallCardSaid : Prop := Claim7.holds Tryd.pinned (.plain (OpenSpec.ofChange addrSmallSpec)) addrSmallCard

/-- THE TIED CARD OF 'bafflelaw03.AddrCovers'. -/
def addrCoversCard : Claim7 := { stood := { row := addrCoversRow, standIns := [], harness := (true, "44f5251255f273eb93fffa4e705397d49e1f3977f8a5a82e2e9334004525a6aa"), looks := false }, kinds := [], alts := [], laidByText := true, laidKinds := [.data, .data, .data], laidTests := true, laidLooks := .later }
def AddrCoversCardSaid : Prop := Claim7.holds Tryd.pinned (.plain (OpenSpec.ofChange addrCoversSpec)) addrCoversCard

/-- THE TIED CARD OF 'bafflelaw03.AddrBack'. -/
def addrBackCard : Claim7 := { stood := { row := addrBackRow, standIns := [], harness := (true, "44f5251255f273eb93fffa4e705397d49e1f3977f8a5a82e2e9334004525a6aa"), looks := false }, kinds := [], alts := [], laidByText := true, laidKinds := [.data, .data, .data], laidTests := true, laidLooks := .later }
def AddrBackCardSaid : Prop := Claim7.holds Tryd.pinned (.plain (OpenSpec.ofChange addrBackSpec)) addrBackCard

/-- THE TIED CARD OF 'bafflelaw03.AddrNests'. -/
def addrNestsCard : Claim7 := { stood := { row := addrNestsRow, standIns := [], harness := (true, "44f5251255f273eb93fffa4e705397d49e1f3977f8a5a82e2e9334004525a6aa"), looks := false }, kinds := [], alts := [], laidByText := true, laidKinds := [.data, .data, .data], laidTests := true, laidLooks := .later }
def AddrNestsCardSaid : Prop := Claim7.holds Tryd.pinned (.plain (OpenSpec.ofChange addrNestsSpec)) addrNestsCard

/-- THE TIED CARD OF 'bafflelaw03.AddrKeys'. -/
def addrKeysCard : Claim7 := { stood := { row := addrKeysRow, standIns := [], harness := (true, "44f5251255f273eb93fffa4e705397d49e1f3977f8a5a82e2e9334004525a6aa"), looks := false }, kinds := [], alts := [], laidByText := true, laidKinds := [.data, .data, .data], laidTests := true, laidLooks := .later }
def AddrKeysCardSaid : Prop := Claim7.holds Tryd.pinned (.plain (OpenSpec.ofChange addrKeysSpec)) addrKeysCard

/-- THE TIED CARD OF 'bafflelaw03.AddrReads'. -/
def addrReadsCard : Claim7 := { stood := { row := addrReadsRow, standIns := [], harness := (true, "44f5251255f273eb93fffa4e705397d49e1f3977f8a5a82e2e9334004525a6aa"), looks := false }, kinds := [], alts := [], laidByText := true, laidKinds := [.data, .data, .data], laidTests := true, laidLooks := .later }
def AddrReadsCardSaid : Prop := Claim7.holds Tryd.pinned (.plain (OpenSpec.ofChange addrReadsSpec)) addrReadsCard

/-- THE TIED CARD OF 'bafflelaw03.AddrWrong'. -/
def addrWrongCard : Claim7 := { stood := { row := addrWrongRow, standIns := [], harness := (true, "44f5251255f273eb93fffa4e705397d49e1f3977f8a5a82e2e9334004525a6aa"), looks := false }, kinds := [], alts := [], laidByText := true, laidKinds := [.data, .data, .data], laidTests := true, laidLooks := .later }
def AddrWrongCardSaid : Prop := Claim7.holds Tryd.pinned (.plain (OpenSpec.ofChange addrWrongSpec)) addrWrongCard

/-- THE SECOND FORM's CARD OF 'bafflelaw03.AddrNumbers'. -/
def addrNumbersUptoCard : Claim7 := { stood := { row := addrNumbersUptoRow, standIns := [], harness := (true, "44f5251255f273eb93fffa4e705397d49e1f3977f8a5a82e2e9334004525a6aa"), looks := false }, kinds := [], alts := [], laidByText := true, laidKinds := [.data, .data, .data], laidTests := true, laidLooks := .later }
def AddrNumbersUptoCardSaid : Prop := Claim7.holds Tryd.pinned (.plain (OpenSpec.upto addrNumbersSpec)) addrNumbersUptoCard

/-- THE SECOND FORM's CARD OF 'bafflelaw03.AddrTexts'. -/
def addrTextsUptoCard : Claim7 := { stood := { row := addrTextsUptoRow, standIns := [], harness := (true, "44f5251255f273eb93fffa4e705397d49e1f3977f8a5a82e2e9334004525a6aa"), looks := false }, kinds := [], alts := [], laidByText := true, laidKinds := [.data, .data, .data], laidTests := true, laidLooks := .later }
def AddrTextsUptoCardSaid : Prop := Claim7.holds Tryd.pinned (.plain (OpenSpec.upto addrTextsSpec)) addrTextsUptoCard

/-- THE SECOND FORM's CARD OF 'bafflelaw03.AddrSmall'. -/
def addrSmallUptoCard : Claim7 := { stood := { row := addrSmallUptoRow, standIns := [], harness := (true, "44f5251255f273eb93fffa4e705397d49e1f3977f8a5a82e2e9334004525a6aa"), looks := false }, kinds := [], alts := [], laidByText := true, laidKinds := [.data, .data, .data], laidTests := true, laidLooks := .later }
def AddrSmallUptoCardSaid : Prop := Claim7.holds Tryd.pinned (.plain (OpenSpec.upto addrSmallSpec)) addrSmallUptoCard

/-- THE SECOND FORM's CARD OF 'bafflelaw03.AddrCovers'. -/
def addrCoversUptoCard : Claim7 := { stood := { row := addrCoversUptoRow, standIns := [], harness := (true, "44f5251255f273eb93fffa4e705397d49e1f3977f8a5a82e2e9334004525a6aa"), looks := false }, kinds := [], alts := [], laidByText := true, laidKinds := [.data, .data, .data], laidTests := true, laidLooks := .later }
def AddrCoversUptoCardSaid : Prop := Claim7.holds Tryd.pinned (.plain (OpenSpec.upto addrCoversSpec)) addrCoversUptoCard

/-- THE SECOND FORM's CARD OF 'bafflelaw03.AddrBack'. -/
def addrBackUptoCard : Claim7 := { stood := { row := addrBackUptoRow, standIns := [], harness := (true, "44f5251255f273eb93fffa4e705397d49e1f3977f8a5a82e2e9334004525a6aa"), looks := false }, kinds := [], alts := [], laidByText := true, laidKinds := [.data, .data, .data], laidTests := true, laidLooks := .later }
def AddrBackUptoCardSaid : Prop := Claim7.holds Tryd.pinned (.plain (OpenSpec.upto addrBackSpec)) addrBackUptoCard

/-- THE SECOND FORM's CARD OF 'bafflelaw03.AddrNests'. -/
def addrNestsUptoCard : Claim7 := { stood := { row := addrNestsUptoRow, standIns := [], harness := (true, "44f5251255f273eb93fffa4e705397d49e1f3977f8a5a82e2e9334004525a6aa"), looks := false }, kinds := [], alts := [], laidByText := true, laidKinds := [.data, .data, .data], laidTests := true, laidLooks := .later }
def AddrNestsUptoCardSaid : Prop := Claim7.holds Tryd.pinned (.plain (OpenSpec.upto addrNestsSpec)) addrNestsUptoCard

/-- THE SECOND FORM's CARD OF 'bafflelaw03.AddrKeys'. -/
def addrKeysUptoCard : Claim7 := { stood := { row := addrKeysUptoRow, standIns := [], harness := (true, "44f5251255f273eb93fffa4e705397d49e1f3977f8a5a82e2e9334004525a6aa"), looks := false }, kinds := [], alts := [], laidByText := true, laidKinds := [.data, .data, .data], laidTests := true, laidLooks := .later }
def AddrKeysUptoCardSaid : Prop := Claim7.holds Tryd.pinned (.plain (OpenSpec.upto addrKeysSpec)) addrKeysUptoCard

/-- THE SECOND FORM's CARD OF 'bafflelaw03.AddrReads'. -/
def addrReadsUptoCard : Claim7 := { stood := { row := addrReadsUptoRow, standIns := [], harness := (true, "44f5251255f273eb93fffa4e705397d49e1f3977f8a5a82e2e9334004525a6aa"), looks := false }, kinds := [], alts := [], laidByText := true, laidKinds := [.data, .data, .data], laidTests := true, laidLooks := .later }
def AddrReadsUptoCardSaid : Prop := Claim7.holds Tryd.pinned (.plain (OpenSpec.upto addrReadsSpec)) addrReadsUptoCard

/-- THE SECOND FORM's CARD OF 'bafflelaw03.AddrWrong'. -/
def addrWrongUptoCard : Claim7 := { stood := { row := addrWrongUptoRow, standIns := [], harness := (true, "44f5251255f273eb93fffa4e705397d49e1f3977f8a5a82e2e9334004525a6aa"), looks := false }, kinds := [], alts := [], laidByText := true, laidKinds := [.data, .data, .data], laidTests := true, laidLooks := .later }
def AddrWrongUptoCardSaid : Prop := Claim7.holds Tryd.pinned (.plain (OpenSpec.upto addrWrongSpec)) addrWrongUptoCard
end Rows
end Go.Proofs.YtknmnlbgjpbgiaaDoor
