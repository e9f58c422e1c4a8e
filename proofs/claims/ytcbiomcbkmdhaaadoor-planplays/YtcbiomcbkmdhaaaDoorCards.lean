/-
  DERIVED. GIVEN WITH THE SEED: THE CARDS: each row of YtcbiomcbkmdhaaaDoorRows.lean that lists a variable, with what it lists TIED to the program's text (the seventh form; the later family's looks); each row that meets fmt, with fmt's text TOLD by the authors' own Lean function (tested against real Go, not proved from fmt's source: count such statements apart). THE CARD IS WHAT COUNTS. Prove the row's statement (the work); the ties are given (YtcbiomcbkmdhaaaDoorTie.lean); close each card by the builder's one call (the guide's Derived/Test/ToyasCard.lean, 'card_holds'). Laid BY PROGRAM, IN A SANDBOX (cutbox-door.mjs). By AI agents, Wed Nov 11 2026. No macro, syntax, notation, axiom, sorry.
-/
import Derived.Test.YtcbiomcbkmdhaaaDoorRows
import GoSem.ClaimSeven
namespace Go.Proofs.YtcbiomcbkmdhaaaDoor
namespace Rows

/-- THE TIED CARD OF 'yardlaw9.PlanPlays'. -/
def planPlaysCard : Claim7 := { stood := { row := planPlaysRow, standIns := [], harness := (true, "56de751b91c995f3556e68a4d5d4dd83ab7cb181a2a03a49417258e498c1dd4f"), looks := true }, kinds := [], alts := [], laidByText := true, laidKinds := [.handle], laidTests := true, laidLooks := .later }
def PlanPlaysCardSaid : Prop := Claim7.holds Tryd.pinned (.plain (OpenSpec.ofChange planPlaysSpec)) planPlaysCard

/-- THE SECOND FORM's CARD OF 'yardlaw9.PlanPlays'. -/
def planPlaysUptoCard : Claim7 := { stood := { row := planPlaysUptoRow, standIns := [], harness := (true, "56de751b91c995f3556e68a4d5d4dd83ab7cb181a2a03a49417258e498c1dd4f"), looks := true }, kinds := [], alts := [], laidByText := true, laidKinds := [.handle], laidTests := true, laidLooks := .later }
def PlanPlaysUptoCardSaid : Prop := Claim7.holds Tryd.pinned (.plain (OpenSpec.upto planPlaysSpec)) planPlaysUptoCard
end Rows
end Go.Proofs.YtcbiomcbkmdhaaaDoor
