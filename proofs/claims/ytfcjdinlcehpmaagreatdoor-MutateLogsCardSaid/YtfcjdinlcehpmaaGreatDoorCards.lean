/-
  DERIVED. GIVEN WITH THE SEED: THE CARDS: each row of YtfcjdinlcehpmaaGreatDoorRows.lean that lists a variable, with what it lists TIED to the program's text (the seventh form; the later family's looks); each row that meets fmt, with fmt's text TOLD by the authors' own Lean function (tested against real Go, not proved from fmt's source: count such statements apart). THE CARD IS WHAT COUNTS. Prove the row's statement (the work); the ties are given (YtfcjdinlcehpmaaGreatDoorTie.lean); close each card by the builder's one call (the guide's Derived/Test/ToyasCard.lean, 'card_holds'). Laid BY PROGRAM, IN A SANDBOX (cutbox-door.mjs). By AI agents, Wed Nov 11 2026. No macro, syntax, notation, axiom, sorry.
-/
import Derived.Test.YtfcjdinlcehpmaaGreatDoorRows
import GoSem.ClaimSeven
namespace Go.Proofs.YtfcjdinlcehpmaaGreatDoor
namespace Rows

/-- THE TIED CARD OF 'gleanerlaw15.MutateLogs'. -/
def mutateLogsCard : Claim7 := { stood := { row := mutateLogsRow, standIns := [], harness := (true, "13098544f797aa64232d022464bee2fdb628462728fc67cdf127de2cc024023f"), looks := false }, kinds := [], alts := [], laidByText := true, laidKinds := [.data], laidTests := true, laidLooks := .later }
def MutateLogsCardSaid : Prop := Claim7.holds Tryz.pinned (.plain (OpenSpec.ofChange mutateLogsSpec)) mutateLogsCard

/-- THE SECOND FORM's CARD OF 'gleanerlaw15.MutateLogs'. -/
def mutateLogsUptoCard : Claim7 := { stood := { row := mutateLogsUptoRow, standIns := [], harness := (true, "13098544f797aa64232d022464bee2fdb628462728fc67cdf127de2cc024023f"), looks := false }, kinds := [], alts := [], laidByText := true, laidKinds := [.data], laidTests := true, laidLooks := .later }
def MutateLogsUptoCardSaid : Prop := Claim7.holds Tryz.pinned (.plain (OpenSpec.upto mutateLogsSpec)) mutateLogsUptoCard
end Rows
end Go.Proofs.YtfcjdinlcehpmaaGreatDoor
