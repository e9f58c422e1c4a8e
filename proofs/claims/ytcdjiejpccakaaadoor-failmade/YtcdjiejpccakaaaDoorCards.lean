/-
  DERIVED. GIVEN WITH THE SEED: THE CARDS: each row of YtcdjiejpccakaaaDoorRows.lean that lists a variable, with what it lists TIED to the program's text (the seventh form; the later family's looks); each row that meets fmt, with fmt's text TOLD by the authors' own Lean function (tested against real Go, not proved from fmt's source: count such statements apart). THE CARD IS WHAT COUNTS. Prove the row's statement (the work); the ties are given (YtcdjiejpccakaaaDoorTie.lean); close each card by the builder's one call (the guide's Derived/Test/ToyasCard.lean, 'card_holds'). Laid BY PROGRAM, IN A SANDBOX (cutbox-door.mjs). By AI agents, Wed Nov 11 2026. No macro, syntax, notation, axiom, sorry.
-/
import Derived.Test.YtcdjiejpccakaaaDoorRows
import GoSem.ClaimSeven
namespace Go.Proofs.YtcdjiejpccakaaaDoor
namespace Rows

/-- THE TIED CARD OF 'yardlaw1.FailMade'. -/
def failMadeCard : Claim7 := { stood := { row := failMadeRow, standIns := [], harness := (true, "4966e5f308aedcd8e8bbeb526efcdfbd03aceaa1acaf640afaecdf175d9acd94"), looks := true }, kinds := [], alts := [], laidByText := true, laidKinds := [.data, .data, .data, .handle], laidTests := true, laidLooks := .later }
def FailMadeCardSaid : Prop := Claim7.holds Tryd.pinned (.plain (OpenSpec.ofChange failMadeSpec)) failMadeCard

/-- THE TIED CARD OF 'yardlaw1.FailText'. -/
def failTextCard : Claim7 := { stood := { row := failTextRow, standIns := [], harness := (true, "4966e5f308aedcd8e8bbeb526efcdfbd03aceaa1acaf640afaecdf175d9acd94"), looks := true }, kinds := [], alts := [], laidByText := true, laidKinds := [.data, .data, .data, .handle], laidTests := true, laidLooks := .later }
def FailTextCardSaid : Prop := Claim7.holds Tryd.pinned (.plain (OpenSpec.ofChange failTextSpec)) failTextCard

/-- THE TIED CARD OF 'yardlaw1.FailThrough'. -/
def failThroughCard : Claim7 := { stood := { row := failThroughRow, standIns := [], harness := (true, "4966e5f308aedcd8e8bbeb526efcdfbd03aceaa1acaf640afaecdf175d9acd94"), looks := true }, kinds := [], alts := [], laidByText := true, laidKinds := [.data, .data, .data, .handle], laidTests := true, laidLooks := .later }
def FailThroughCardSaid : Prop := Claim7.holds Tryd.pinned (.plain (OpenSpec.ofChange failThroughSpec)) failThroughCard

/-- THE TIED CARD OF 'yardlaw1.FailNil'. -/
def failNilCard : Claim7 := { stood := { row := failNilRow, standIns := [], harness := (true, "4966e5f308aedcd8e8bbeb526efcdfbd03aceaa1acaf640afaecdf175d9acd94"), looks := true }, kinds := [], alts := [], laidByText := true, laidKinds := [.data, .data, .data, .handle], laidTests := true, laidLooks := .later }
def FailNilCardSaid : Prop := Claim7.holds Tryd.pinned (.plain (OpenSpec.ofChange failNilSpec)) failNilCard

/-- THE TIED CARD OF 'yardlaw1.FailEmpty'. -/
def failEmptyCard : Claim7 := { stood := { row := failEmptyRow, standIns := [], harness := (true, "4966e5f308aedcd8e8bbeb526efcdfbd03aceaa1acaf640afaecdf175d9acd94"), looks := true }, kinds := [], alts := [], laidByText := true, laidKinds := [.data, .data, .data, .handle], laidTests := true, laidLooks := .later }
def FailEmptyCardSaid : Prop := Claim7.holds Tryd.pinned (.plain (OpenSpec.ofChange failEmptySpec)) failEmptyCard

/-- THE TIED CARD OF 'yardlaw1.FailParts'. -/
def failPartsCard : Claim7 := { stood := { row := failPartsRow, standIns := [], harness := (true, "4966e5f308aedcd8e8bbeb526efcdfbd03aceaa1acaf640afaecdf175d9acd94"), looks := true }, kinds := [], alts := [], laidByText := true, laidKinds := [.data, .data, .data, .handle], laidTests := true, laidLooks := .later }
def FailPartsCardSaid : Prop := Claim7.holds Tryd.pinned (.plain (OpenSpec.ofChange failPartsSpec)) failPartsCard

/-- THE SECOND FORM's CARD OF 'yardlaw1.FailMade'. -/
def failMadeUptoCard : Claim7 := { stood := { row := failMadeUptoRow, standIns := [], harness := (true, "4966e5f308aedcd8e8bbeb526efcdfbd03aceaa1acaf640afaecdf175d9acd94"), looks := true }, kinds := [], alts := [], laidByText := true, laidKinds := [.data, .data, .data, .handle], laidTests := true, laidLooks := .later }
def FailMadeUptoCardSaid : Prop := Claim7.holds Tryd.pinned (.plain (OpenSpec.upto failMadeSpec)) failMadeUptoCard

/-- THE SECOND FORM's CARD OF 'yardlaw1.FailText'. -/
def failTextUptoCard : Claim7 := { stood := { row := failTextUptoRow, standIns := [], harness := (true, "4966e5f308aedcd8e8bbeb526efcdfbd03aceaa1acaf640afaecdf175d9acd94"), looks := true }, kinds := [], alts := [], laidByText := true, laidKinds := [.data, .data, .data, .handle], laidTests := true, laidLooks := .later }
def FailTextUptoCardSaid : Prop := Claim7.holds Tryd.pinned (.plain (OpenSpec.upto failTextSpec)) failTextUptoCard

/-- THE SECOND FORM's CARD OF 'yardlaw1.FailThrough'. -/
def failThroughUptoCard : Claim7 := { stood := { row := failThroughUptoRow, standIns := [], harness := (true, "4966e5f308aedcd8e8bbeb526efcdfbd03aceaa1acaf640afaecdf175d9acd94"), looks := true }, kinds := [], alts := [], laidByText := true, laidKinds := [.data, .data, .data, .handle], laidTests := true, laidLooks := .later }
def FailThroughUptoCardSaid : Prop := Claim7.holds Tryd.pinned (.plain (OpenSpec.upto failThroughSpec)) failThroughUptoCard

/-- THE SECOND FORM's CARD OF 'yardlaw1.FailNil'. -/
def failNilUptoCard : Claim7 := { stood := { row := failNilUptoRow, standIns := [], harness := (true, "4966e5f308aedcd8e8bbeb526efcdfbd03aceaa1acaf640afaecdf175d9acd94"), looks := true }, kinds := [], alts := [], laidByText := true, laidKinds := [.data, .data, .data, .handle], laidTests := true, laidLooks := .later }
def FailNilUptoCardSaid : Prop := Claim7.holds Tryd.pinned (.plain (OpenSpec.upto failNilSpec)) failNilUptoCard

/-- THE SECOND FORM's CARD OF 'yardlaw1.FailEmpty'. -/
def failEmptyUptoCard : Claim7 := { stood := { row := failEmptyUptoRow, standIns := [], harness := (true, "4966e5f308aedcd8e8bbeb526efcdfbd03aceaa1acaf640afaecdf175d9acd94"), looks := true }, kinds := [], alts := [], laidByText := true, laidKinds := [.data, .data, .data, .handle], laidTests := true, laidLooks := .later }
def FailEmptyUptoCardSaid : Prop := Claim7.holds Tryd.pinned (.plain (OpenSpec.upto failEmptySpec)) failEmptyUptoCard

/-- THE SECOND FORM's CARD OF 'yardlaw1.FailParts'. -/
def failPartsUptoCard : Claim7 := { stood := { row := failPartsUptoRow, standIns := [], harness := (true, "4966e5f308aedcd8e8bbeb526efcdfbd03aceaa1acaf640afaecdf175d9acd94"), looks := true }, kinds := [], alts := [], laidByText := true, laidKinds := [.data, .data, .data, .handle], laidTests := true, laidLooks := .later }
def FailPartsUptoCardSaid : Prop := Claim7.holds Tryd.pinned (.plain (OpenSpec.upto failPartsSpec)) failPartsUptoCard
end Rows
end Go.Proofs.YtcdjiejpccakaaaDoor
