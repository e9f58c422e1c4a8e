/-
  DERIVED. GIVEN WITH THE SEED: THE CARDS: each row of YtngfaailbkadfaaDoorRows.lean that lists a variable, with what it lists TIED to the program's text (the seventh form; the later family's looks); each row that meets fmt, with fmt's text TOLD by the authors' own Lean function (tested against real Go, not proved from fmt's source: count such statements apart). THE CARD IS WHAT COUNTS. Prove the row's statement (the work); the ties are given (YtngfaailbkadfaaDoorTie.lean); close each card by the builder's one call (the guide's Derived/Test/ToyasCard.lean, 'card_holds'). Laid BY PROGRAM, IN A SANDBOX (cutbox-door.mjs). By AI agents, Wed Nov 11 2026. No macro, syntax, notation, axiom, sorry.
-/
import Derived.Test.YtngfaailbkadfaaDoorRows
import GoSem.ClaimSeven
namespace Go.Proofs.YtngfaailbkadfaaDoor
namespace Rows

/-- THE TIED CARD OF 'yardlaw7.PduRequests'. -/
def pduRequestsCard : Claim7 := { stood := { row := pduRequestsRow, standIns := [], harness := (true, "6aa3da7182bc47c2e4e876a2bb29ccc606f3e990359c89d62fe95a1904bd8fd9"), looks := true }, kinds := [], alts := [], laidByText := true, laidKinds := [.handle], laidTests := true, laidLooks := .later }
def PduRequestsCardSaid : Prop := Claim7.holds Tryd.pinned (.plain (OpenSpec.ofChange pduRequestsSpec)) pduRequestsCard

/-- THE TIED CARD OF 'yardlaw7.PduReplies'. -/
def pduRepliesCard : Claim7 := { stood := { row := pduRepliesRow, standIns := [], harness := (true, "6aa3da7182bc47c2e4e876a2bb29ccc606f3e990359c89d62fe95a1904bd8fd9"), looks := true }, kinds := [], alts := [], laidByText := true, laidKinds := [.handle], laidTests := true, laidLooks := .later }
def PduRepliesCardSaid : Prop := Claim7.holds Tryd.pinned (.plain (OpenSpec.ofChange pduRepliesSpec)) pduRepliesCard

/-- THE SECOND FORM's CARD OF 'yardlaw7.PduRequests'. -/
def pduRequestsUptoCard : Claim7 := { stood := { row := pduRequestsUptoRow, standIns := [], harness := (true, "6aa3da7182bc47c2e4e876a2bb29ccc606f3e990359c89d62fe95a1904bd8fd9"), looks := true }, kinds := [], alts := [], laidByText := true, laidKinds := [.handle], laidTests := true, laidLooks := .later }
def PduRequestsUptoCardSaid : Prop := Claim7.holds Tryd.pinned (.plain (OpenSpec.upto pduRequestsSpec)) pduRequestsUptoCard

/-- THE SECOND FORM's CARD OF 'yardlaw7.PduReplies'. -/
def pduRepliesUptoCard : Claim7 := { stood := { row := pduRepliesUptoRow, standIns := [], harness := (true, "6aa3da7182bc47c2e4e876a2bb29ccc606f3e990359c89d62fe95a1904bd8fd9"), looks := true }, kinds := [], alts := [], laidByText := true, laidKinds := [.handle], laidTests := true, laidLooks := .later }
def PduRepliesUptoCardSaid : Prop := Claim7.holds Tryd.pinned (.plain (OpenSpec.upto pduRepliesSpec)) pduRepliesUptoCard
end Rows
end Go.Proofs.YtngfaailbkadfaaDoor
