/-
  DERIVED. GIVEN WITH THE SEED: THE CARDS: each row of YthcehcfeedikkaaDoorRows.lean that lists a variable, with what it lists TIED to the program's text (the seventh form; the later family's looks); each row that meets fmt, with fmt's text TOLD by the authors' own Lean function (tested against real Go, not proved from fmt's source: count such statements apart). THE CARD IS WHAT COUNTS. Prove the row's statement (the work); the ties are given (YthcehcfeedikkaaDoorTie.lean); close each card by the builder's one call (the guide's Derived/Test/ToyasCard.lean, 'card_holds'). Laid BY PROGRAM, IN A SANDBOX (cutbox-door.mjs). By AI agents, Wed Nov 11 2026. No macro, syntax, notation, axiom, sorry.
-/
import Derived.Test.YthcehcfeedikkaaDoorRows
import GoSem.ClaimSeven
namespace Go.Proofs.YthcehcfeedikkaaDoor
namespace Rows

/-- THE TIED CARD OF 'yardlaw8.RtuFrames'. -/
def rtuFramesCard : Claim7 := { stood := { row := rtuFramesRow, standIns := [], harness := (true, "657577dfc6fdba93a1626026ee1adfc4096e7139e72f42310bc3194876112928"), looks := true }, kinds := [], alts := [], laidByText := true, laidKinds := [.handle], laidTests := true, laidLooks := .later }
def RtuFramesCardSaid : Prop := Claim7.holds Tryd.pinned (.plain (OpenSpec.ofChange rtuFramesSpec)) rtuFramesCard

/-- THE TIED CARD OF 'yardlaw8.RtuListens'. -/
def rtuListensCard : Claim7 := { stood := { row := rtuListensRow, standIns := [], harness := (true, "657577dfc6fdba93a1626026ee1adfc4096e7139e72f42310bc3194876112928"), looks := true }, kinds := [], alts := [], laidByText := true, laidKinds := [.handle], laidTests := true, laidLooks := .later }
def RtuListensCardSaid : Prop := Claim7.holds Tryd.pinned (.plain (OpenSpec.ofChange rtuListensSpec)) rtuListensCard

/-- THE TIED CARD OF 'yardlaw8.RtuLong'. -/
def rtuLongCard : Claim7 := { stood := { row := rtuLongRow, standIns := [], harness := (true, "657577dfc6fdba93a1626026ee1adfc4096e7139e72f42310bc3194876112928"), looks := true }, kinds := [], alts := [], laidByText := true, laidKinds := [.handle], laidTests := true, laidLooks := .later }
def RtuLongCardSaid : Prop := Claim7.holds Tryd.pinned (.plain (OpenSpec.ofChange rtuLongSpec)) rtuLongCard

/-- THE SECOND FORM's CARD OF 'yardlaw8.RtuFrames'. -/
def rtuFramesUptoCard : Claim7 := { stood := { row := rtuFramesUptoRow, standIns := [], harness := (true, "657577dfc6fdba93a1626026ee1adfc4096e7139e72f42310bc3194876112928"), looks := true }, kinds := [], alts := [], laidByText := true, laidKinds := [.handle], laidTests := true, laidLooks := .later }
def RtuFramesUptoCardSaid : Prop := Claim7.holds Tryd.pinned (.plain (OpenSpec.upto rtuFramesSpec)) rtuFramesUptoCard

/-- THE SECOND FORM's CARD OF 'yardlaw8.RtuListens'. -/
def rtuListensUptoCard : Claim7 := { stood := { row := rtuListensUptoRow, standIns := [], harness := (true, "657577dfc6fdba93a1626026ee1adfc4096e7139e72f42310bc3194876112928"), looks := true }, kinds := [], alts := [], laidByText := true, laidKinds := [.handle], laidTests := true, laidLooks := .later }
def RtuListensUptoCardSaid : Prop := Claim7.holds Tryd.pinned (.plain (OpenSpec.upto rtuListensSpec)) rtuListensUptoCard

/-- THE SECOND FORM's CARD OF 'yardlaw8.RtuLong'. -/
def rtuLongUptoCard : Claim7 := { stood := { row := rtuLongUptoRow, standIns := [], harness := (true, "657577dfc6fdba93a1626026ee1adfc4096e7139e72f42310bc3194876112928"), looks := true }, kinds := [], alts := [], laidByText := true, laidKinds := [.handle], laidTests := true, laidLooks := .later }
def RtuLongUptoCardSaid : Prop := Claim7.holds Tryd.pinned (.plain (OpenSpec.upto rtuLongSpec)) rtuLongUptoCard
end Rows
end Go.Proofs.YthcehcfeedikkaaDoor
