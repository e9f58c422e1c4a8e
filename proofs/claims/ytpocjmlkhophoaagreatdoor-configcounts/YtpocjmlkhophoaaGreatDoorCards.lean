/-
  DERIVED. GIVEN WITH THE SEED: THE CARDS: each row of YtpocjmlkhophoaaGreatDoorRows.lean that lists a variable, with what it lists TIED to the program's text (the seventh form; the later family's looks); each row that meets fmt, with fmt's text TOLD by the authors' own Lean function (tested against real Go, not proved from fmt's source: count such statements apart). THE CARD IS WHAT COUNTS. Prove the row's statement (the work); the ties are given (YtpocjmlkhophoaaGreatDoorTie.lean); close each card by the builder's one call (the guide's Derived/Test/ToyasCard.lean, 'card_holds'). Laid BY PROGRAM, IN A SANDBOX (cutbox-door.mjs). By AI agents, Wed Nov 11 2026. No macro, syntax, notation, axiom, sorry.
-/
import Derived.Test.YtpocjmlkhophoaaGreatDoorRows
import GoSem.ClaimSeven
namespace Go.Proofs.YtpocjmlkhophoaaGreatDoor
namespace Rows

/-- THE TIED CARD OF 'yardlaw6.ConfigChecks'. -/
def configChecksCard : Claim7 := { stood := { row := configChecksRow, standIns := [], harness := (true, "79e1b1b15b9129d3b99285aa67eff8c253fd3e2123930c2b893a07715574397b"), looks := true }, kinds := [], alts := [], laidByText := true, laidKinds := [.data, .data, .data, .handle], laidTests := true, laidLooks := .later }
def ConfigChecksCardSaid : Prop := Claim7.holds Tryz.pinned (.plain (OpenSpec.ofChange configChecksSpec)) configChecksCard

/-- THE TIED CARD OF 'yardlaw6.ConfigParses'. -/
def configParsesCard : Claim7 := { stood := { row := configParsesRow, standIns := [], harness := (true, "79e1b1b15b9129d3b99285aa67eff8c253fd3e2123930c2b893a07715574397b"), looks := true }, kinds := [], alts := [], laidByText := true, laidKinds := [.data, .data, .data, .handle], laidTests := true, laidLooks := .later }
def ConfigParsesCardSaid : Prop := Claim7.holds Tryz.pinned (.plain (OpenSpec.ofChange configParsesSpec)) configParsesCard

/-- THE TIED CARD OF 'yardlaw6.ConfigCounts'. -/
def configCountsCard : Claim7 := { stood := { row := configCountsRow, standIns := [], harness := (true, "79e1b1b15b9129d3b99285aa67eff8c253fd3e2123930c2b893a07715574397b"), looks := true }, kinds := [], alts := [], laidByText := true, laidKinds := [.data, .data, .data, .handle], laidTests := true, laidLooks := .later }
def ConfigCountsCardSaid : Prop := Claim7.holds Tryz.pinned (.plain (OpenSpec.ofChange configCountsSpec)) configCountsCard

/-- THE TIED CARD OF 'yardlaw6.ConfigBack'. -/
def configBackCard : Claim7 := { stood := { row := configBackRow, standIns := [], harness := (true, "79e1b1b15b9129d3b99285aa67eff8c253fd3e2123930c2b893a07715574397b"), looks := true }, kinds := [], alts := [], laidByText := true, laidKinds := [.data, .data, .data, .handle], laidTests := true, laidLooks := .later }
def ConfigBackCardSaid : Prop := Claim7.holds Tryz.pinned (.plain (OpenSpec.ofChange configBackSpec)) configBackCard

/-- THE TIED CARD OF 'yardlaw6.ConfigTurned'. -/
def configTurnedCard : Claim7 := { stood := { row := configTurnedRow, standIns := [], harness := (true, "79e1b1b15b9129d3b99285aa67eff8c253fd3e2123930c2b893a07715574397b"), looks := true }, kinds := [], alts := [], laidByText := true, laidKinds := [.data, .data, .data, .handle], laidTests := true, laidLooks := .later }
def ConfigTurnedCardSaid : Prop := Claim7.holds Tryz.pinned (.plain (OpenSpec.ofChange configTurnedSpec)) configTurnedCard

/-- THE TIED CARD OF 'yardlaw6.ConfigFinds'. -/
def configFindsCard : Claim7 := { stood := { row := configFindsRow, standIns := [], harness := (true, "79e1b1b15b9129d3b99285aa67eff8c253fd3e2123930c2b893a07715574397b"), looks := true }, kinds := [], alts := [], laidByText := true, laidKinds := [.data, .data, .data, .handle], laidTests := true, laidLooks := .later }
def ConfigFindsCardSaid : Prop := Claim7.holds Tryz.pinned (.plain (OpenSpec.ofChange configFindsSpec)) configFindsCard

/-- THE TIED CARD OF 'yardlaw6.ConfigWrong'. -/
def configWrongCard : Claim7 := { stood := { row := configWrongRow, standIns := [], harness := (true, "79e1b1b15b9129d3b99285aa67eff8c253fd3e2123930c2b893a07715574397b"), looks := true }, kinds := [], alts := [], laidByText := true, laidKinds := [.data, .data, .data, .handle], laidTests := true, laidLooks := .later }
def ConfigWrongCardSaid : Prop := Claim7.holds Tryz.pinned (.plain (OpenSpec.ofChange configWrongSpec)) configWrongCard

/-- THE TIED CARD OF 'yardlaw6.ConfigItems'. -/
def configItemsCard : Claim7 := { stood := { row := configItemsRow, standIns := [], harness := (true, "79e1b1b15b9129d3b99285aa67eff8c253fd3e2123930c2b893a07715574397b"), looks := true }, kinds := [], alts := [], laidByText := true, laidKinds := [.data, .data, .data, .handle], laidTests := true, laidLooks := .later }
def ConfigItemsCardSaid : Prop := Claim7.holds Tryz.pinned (.plain (OpenSpec.ofChange configItemsSpec)) configItemsCard

/-- THE TIED CARD OF 'yardlaw6.ConfigSizes'. -/
def configSizesCard : Claim7 := { stood := { row := configSizesRow, standIns := [], harness := (true, "79e1b1b15b9129d3b99285aa67eff8c253fd3e2123930c2b893a07715574397b"), looks := true }, kinds := [], alts := [], laidByText := true, laidKinds := [.data, .data, .data, .handle], laidTests := true, laidLooks := .later }
def ConfigSizesCardSaid : Prop := Claim7.holds Tryz.pinned (.plain (OpenSpec.ofChange configSizesSpec)) configSizesCard

/-- THE TIED CARD OF 'yardlaw6.ConfigUnlike'. -/
def configUnlikeCard : Claim7 := { stood := { row := configUnlikeRow, standIns := [], harness := (true, "79e1b1b15b9129d3b99285aa67eff8c253fd3e2123930c2b893a07715574397b"), looks := true }, kinds := [], alts := [], laidByText := true, laidKinds := [.data, .data, .data, .handle], laidTests := true, laidLooks := .later }
def ConfigUnlikeCardSaid : Prop := Claim7.holds Tryz.pinned (.plain (OpenSpec.ofChange configUnlikeSpec)) configUnlikeCard

/-- THE SECOND FORM's CARD OF 'yardlaw6.ConfigChecks'. -/
def configChecksUptoCard : Claim7 := { stood := { row := configChecksUptoRow, standIns := [], harness := (true, "79e1b1b15b9129d3b99285aa67eff8c253fd3e2123930c2b893a07715574397b"), looks := true }, kinds := [], alts := [], laidByText := true, laidKinds := [.data, .data, .data, .handle], laidTests := true, laidLooks := .later }
def ConfigChecksUptoCardSaid : Prop := Claim7.holds Tryz.pinned (.plain (OpenSpec.upto configChecksSpec)) configChecksUptoCard

/-- THE SECOND FORM's CARD OF 'yardlaw6.ConfigParses'. -/
def configParsesUptoCard : Claim7 := { stood := { row := configParsesUptoRow, standIns := [], harness := (true, "79e1b1b15b9129d3b99285aa67eff8c253fd3e2123930c2b893a07715574397b"), looks := true }, kinds := [], alts := [], laidByText := true, laidKinds := [.data, .data, .data, .handle], laidTests := true, laidLooks := .later }
def ConfigParsesUptoCardSaid : Prop := Claim7.holds Tryz.pinned (.plain (OpenSpec.upto configParsesSpec)) configParsesUptoCard

/-- THE SECOND FORM's CARD OF 'yardlaw6.ConfigCounts'. -/
def configCountsUptoCard : Claim7 := { stood := { row := configCountsUptoRow, standIns := [], harness := (true, "79e1b1b15b9129d3b99285aa67eff8c253fd3e2123930c2b893a07715574397b"), looks := true }, kinds := [], alts := [], laidByText := true, laidKinds := [.data, .data, .data, .handle], laidTests := true, laidLooks := .later }
def ConfigCountsUptoCardSaid : Prop := Claim7.holds Tryz.pinned (.plain (OpenSpec.upto configCountsSpec)) configCountsUptoCard

/-- THE SECOND FORM's CARD OF 'yardlaw6.ConfigBack'. -/
def configBackUptoCard : Claim7 := { stood := { row := configBackUptoRow, standIns := [], harness := (true, "79e1b1b15b9129d3b99285aa67eff8c253fd3e2123930c2b893a07715574397b"), looks := true }, kinds := [], alts := [], laidByText := true, laidKinds := [.data, .data, .data, .handle], laidTests := true, laidLooks := .later }
def ConfigBackUptoCardSaid : Prop := Claim7.holds Tryz.pinned (.plain (OpenSpec.upto configBackSpec)) configBackUptoCard

/-- THE SECOND FORM's CARD OF 'yardlaw6.ConfigTurned'. -/
def configTurnedUptoCard : Claim7 := { stood := { row := configTurnedUptoRow, standIns := [], harness := (true, "79e1b1b15b9129d3b99285aa67eff8c253fd3e2123930c2b893a07715574397b"), looks := true }, kinds := [], alts := [], laidByText := true, laidKinds := [.data, .data, .data, .handle], laidTests := true, laidLooks := .later }
def ConfigTurnedUptoCardSaid : Prop := Claim7.holds Tryz.pinned (.plain (OpenSpec.upto configTurnedSpec)) configTurnedUptoCard

/-- THE SECOND FORM's CARD OF 'yardlaw6.ConfigFinds'. -/
def configFindsUptoCard : Claim7 := { stood := { row := configFindsUptoRow, standIns := [], harness := (true, "79e1b1b15b9129d3b99285aa67eff8c253fd3e2123930c2b893a07715574397b"), looks := true }, kinds := [], alts := [], laidByText := true, laidKinds := [.data, .data, .data, .handle], laidTests := true, laidLooks := .later }
def ConfigFindsUptoCardSaid : Prop := Claim7.holds Tryz.pinned (.plain (OpenSpec.upto configFindsSpec)) configFindsUptoCard

/-- THE SECOND FORM's CARD OF 'yardlaw6.ConfigWrong'. -/
def configWrongUptoCard : Claim7 := { stood := { row := configWrongUptoRow, standIns := [], harness := (true, "79e1b1b15b9129d3b99285aa67eff8c253fd3e2123930c2b893a07715574397b"), looks := true }, kinds := [], alts := [], laidByText := true, laidKinds := [.data, .data, .data, .handle], laidTests := true, laidLooks := .later }
def ConfigWrongUptoCardSaid : Prop := Claim7.holds Tryz.pinned (.plain (OpenSpec.upto configWrongSpec)) configWrongUptoCard

/-- THE SECOND FORM's CARD OF 'yardlaw6.ConfigItems'. -/
def configItemsUptoCard : Claim7 := { stood := { row := configItemsUptoRow, standIns := [], harness := (true, "79e1b1b15b9129d3b99285aa67eff8c253fd3e2123930c2b893a07715574397b"), looks := true }, kinds := [], alts := [], laidByText := true, laidKinds := [.data, .data, .data, .handle], laidTests := true, laidLooks := .later }
def ConfigItemsUptoCardSaid : Prop := Claim7.holds Tryz.pinned (.plain (OpenSpec.upto configItemsSpec)) configItemsUptoCard

/-- THE SECOND FORM's CARD OF 'yardlaw6.ConfigSizes'. -/
def configSizesUptoCard : Claim7 := { stood := { row := configSizesUptoRow, standIns := [], harness := (true, "79e1b1b15b9129d3b99285aa67eff8c253fd3e2123930c2b893a07715574397b"), looks := true }, kinds := [], alts := [], laidByText := true, laidKinds := [.data, .data, .data, .handle], laidTests := true, laidLooks := .later }
def ConfigSizesUptoCardSaid : Prop := Claim7.holds Tryz.pinned (.plain (OpenSpec.upto configSizesSpec)) configSizesUptoCard

/-- THE SECOND FORM's CARD OF 'yardlaw6.ConfigUnlike'. -/
def configUnlikeUptoCard : Claim7 := { stood := { row := configUnlikeUptoRow, standIns := [], harness := (true, "79e1b1b15b9129d3b99285aa67eff8c253fd3e2123930c2b893a07715574397b"), looks := true }, kinds := [], alts := [], laidByText := true, laidKinds := [.data, .data, .data, .handle], laidTests := true, laidLooks := .later }
def ConfigUnlikeUptoCardSaid : Prop := Claim7.holds Tryz.pinned (.plain (OpenSpec.upto configUnlikeSpec)) configUnlikeUptoCard
end Rows
end Go.Proofs.YtpocjmlkhophoaaGreatDoor
