/-
  DERIVED. GIVEN WITH THE SEED: THE CARDS: each row of YtfefkkojdcipcaaDoorRows.lean that lists a variable, with what it lists TIED to the program's text (the seventh form; the later family's looks); each row that meets fmt, with fmt's text TOLD by the authors' own Lean function (tested against real Go, not proved from fmt's source: count such statements apart). THE CARD IS WHAT COUNTS. Prove the row's statement (the work); the ties are given (YtfefkkojdcipcaaDoorTie.lean); close each card by the builder's one call (the guide's Derived/Test/ToyasCard.lean, 'card_holds'). Laid BY PROGRAM, IN A SANDBOX (cutbox-door.mjs). By AI agents, Wed Nov 11 2026. No macro, syntax, notation, axiom, sorry.
-/
import Derived.Test.YtfefkkojdcipcaaDoorRows
import GoSem.ClaimSeven
namespace Go.Proofs.YtfefkkojdcipcaaDoor
namespace Rows

/-- THE TIED CARD OF 'yardlaw4.WheelPlays'. -/
def wheelPlaysCard : Claim7 := { stood := { row := wheelPlaysRow, standIns := [], harness := (true, "3c8d1cf8dbe6cda229a418d36587f886d1a7accbbcd45589e4d99f7b86485534"), looks := true }, kinds := [], alts := [], laidByText := true, laidKinds := [.handle], laidTests := true, laidLooks := .later }
def WheelPlaysCardSaid : Prop := Claim7.holds Tryd.pinned (.plain (OpenSpec.ofChange wheelPlaysSpec)) wheelPlaysCard

/-- THE TIED CARD OF 'yardlaw4.WheelParts'. -/
def wheelPartsCard : Claim7 := { stood := { row := wheelPartsRow, standIns := [], harness := (true, "3c8d1cf8dbe6cda229a418d36587f886d1a7accbbcd45589e4d99f7b86485534"), looks := true }, kinds := [], alts := [], laidByText := true, laidKinds := [.handle], laidTests := true, laidLooks := .later }
def WheelPartsCardSaid : Prop := Claim7.holds Tryd.pinned (.plain (OpenSpec.ofChange wheelPartsSpec)) wheelPartsCard

/-- THE TIED CARD OF 'yardlaw4.WheelOnce'. -/
def wheelOnceCard : Claim7 := { stood := { row := wheelOnceRow, standIns := [], harness := (true, "3c8d1cf8dbe6cda229a418d36587f886d1a7accbbcd45589e4d99f7b86485534"), looks := true }, kinds := [], alts := [], laidByText := true, laidKinds := [.handle], laidTests := true, laidLooks := .later }
def WheelOnceCardSaid : Prop := Claim7.holds Tryd.pinned (.plain (OpenSpec.ofChange wheelOnceSpec)) wheelOnceCard

/-- THE TIED CARD OF 'yardlaw4.WheelSets'. -/
def wheelSetsCard : Claim7 := { stood := { row := wheelSetsRow, standIns := [], harness := (true, "3c8d1cf8dbe6cda229a418d36587f886d1a7accbbcd45589e4d99f7b86485534"), looks := true }, kinds := [], alts := [], laidByText := true, laidKinds := [.handle], laidTests := true, laidLooks := .later }
def WheelSetsCardSaid : Prop := Claim7.holds Tryd.pinned (.plain (OpenSpec.ofChange wheelSetsSpec)) wheelSetsCard

/-- THE TIED CARD OF 'yardlaw4.WheelRises'. -/
def wheelRisesCard : Claim7 := { stood := { row := wheelRisesRow, standIns := [], harness := (true, "3c8d1cf8dbe6cda229a418d36587f886d1a7accbbcd45589e4d99f7b86485534"), looks := true }, kinds := [], alts := [], laidByText := true, laidKinds := [.handle], laidTests := true, laidLooks := .later }
def WheelRisesCardSaid : Prop := Claim7.holds Tryd.pinned (.plain (OpenSpec.ofChange wheelRisesSpec)) wheelRisesCard

/-- THE TIED CARD OF 'yardlaw4.WheelCancels'. -/
def wheelCancelsCard : Claim7 := { stood := { row := wheelCancelsRow, standIns := [], harness := (true, "3c8d1cf8dbe6cda229a418d36587f886d1a7accbbcd45589e4d99f7b86485534"), looks := true }, kinds := [], alts := [], laidByText := true, laidKinds := [.handle], laidTests := true, laidLooks := .later }
def WheelCancelsCardSaid : Prop := Claim7.holds Tryd.pinned (.plain (OpenSpec.ofChange wheelCancelsSpec)) wheelCancelsCard

/-- THE SECOND FORM's CARD OF 'yardlaw4.WheelPlays'. -/
def wheelPlaysUptoCard : Claim7 := { stood := { row := wheelPlaysUptoRow, standIns := [], harness := (true, "3c8d1cf8dbe6cda229a418d36587f886d1a7accbbcd45589e4d99f7b86485534"), looks := true }, kinds := [], alts := [], laidByText := true, laidKinds := [.handle], laidTests := true, laidLooks := .later }
def WheelPlaysUptoCardSaid : Prop := Claim7.holds Tryd.pinned (.plain (OpenSpec.upto wheelPlaysSpec)) wheelPlaysUptoCard

/-- THE SECOND FORM's CARD OF 'yardlaw4.WheelParts'. -/
def wheelPartsUptoCard : Claim7 := { stood := { row := wheelPartsUptoRow, standIns := [], harness := (true, "3c8d1cf8dbe6cda229a418d36587f886d1a7accbbcd45589e4d99f7b86485534"), looks := true }, kinds := [], alts := [], laidByText := true, laidKinds := [.handle], laidTests := true, laidLooks := .later }
def WheelPartsUptoCardSaid : Prop := Claim7.holds Tryd.pinned (.plain (OpenSpec.upto wheelPartsSpec)) wheelPartsUptoCard

/-- THE SECOND FORM's CARD OF 'yardlaw4.WheelOnce'. -/
def wheelOnceUptoCard : Claim7 := { stood := { row := wheelOnceUptoRow, standIns := [], harness := (true, "3c8d1cf8dbe6cda229a418d36587f886d1a7accbbcd45589e4d99f7b86485534"), looks := true }, kinds := [], alts := [], laidByText := true, laidKinds := [.handle], laidTests := true, laidLooks := .later }
def WheelOnceUptoCardSaid : Prop := Claim7.holds Tryd.pinned (.plain (OpenSpec.upto wheelOnceSpec)) wheelOnceUptoCard

/-- THE SECOND FORM's CARD OF 'yardlaw4.WheelSets'. -/
def wheelSetsUptoCard : Claim7 := { stood := { row := wheelSetsUptoRow, standIns := [], harness := (true, "3c8d1cf8dbe6cda229a418d36587f886d1a7accbbcd45589e4d99f7b86485534"), looks := true }, kinds := [], alts := [], laidByText := true, laidKinds := [.handle], laidTests := true, laidLooks := .later }
def WheelSetsUptoCardSaid : Prop := Claim7.holds Tryd.pinned (.plain (OpenSpec.upto wheelSetsSpec)) wheelSetsUptoCard

/-- THE SECOND FORM's CARD OF 'yardlaw4.WheelRises'. -/
def wheelRisesUptoCard : Claim7 := { stood := { row := wheelRisesUptoRow, standIns := [], harness := (true, "3c8d1cf8dbe6cda229a418d36587f886d1a7accbbcd45589e4d99f7b86485534"), looks := true }, kinds := [], alts := [], laidByText := true, laidKinds := [.handle], laidTests := true, laidLooks := .later }
def WheelRisesUptoCardSaid : Prop := Claim7.holds Tryd.pinned (.plain (OpenSpec.upto wheelRisesSpec)) wheelRisesUptoCard

/-- THE SECOND FORM's CARD OF 'yardlaw4.WheelCancels'. -/
def wheelCancelsUptoCard : Claim7 := { stood := { row := wheelCancelsUptoRow, standIns := [], harness := (true, "3c8d1cf8dbe6cda229a418d36587f886d1a7accbbcd45589e4d99f7b86485534"), looks := true }, kinds := [], alts := [], laidByText := true, laidKinds := [.handle], laidTests := true, laidLooks := .later }
def WheelCancelsUptoCardSaid : Prop := Claim7.holds Tryd.pinned (.plain (OpenSpec.upto wheelCancelsSpec)) wheelCancelsUptoCard
end Rows
end Go.Proofs.YtfefkkojdcipcaaDoor
