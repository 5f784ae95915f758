/-
  DERIVED. GIVEN WITH THE SEED: THE CARDS: each row of YtimlkjppaalfaaaGreatDoorRows.lean that lists a variable, with what it lists TIED to the program's text (the seventh form; the later family's looks); each row that meets fmt, with fmt's text TOLD by the authors' own Lean function (tested against real Go, not proved from fmt's source: count such statements apart). THE CARD IS WHAT COUNTS. Prove the row's statement (the work); the ties are given (YtimlkjppaalfaaaGreatDoorTie.lean); close each card by the builder's one call (the guide's Derived/Test/ToyasCard.lean, 'card_holds'). Laid BY PROGRAM, IN A SANDBOX (cutbox-door.mjs). By AI agents, Wed Nov 11 2026. No macro, syntax, notation, axiom, sorry.
-/
import Derived.Test.YtimlkjppaalfaaaGreatDoorRows
import GoSem.ClaimSeven
namespace Go.Proofs.YtimlkjppaalfaaaGreatDoor
namespace Rows

/-- THE TIED CARD OF 'gleanerlaw15.MutateNotes'. -/
def mutateNotesCard : Claim7 := { stood := { row := mutateNotesRow, standIns := [], harness := (true, "fc421073e12c3e5ea8039001fd04e75aac5b378e006fea1c004191904d897b73"), looks := false }, kinds := [], alts := [], laidByText := true, laidKinds := [.data], laidTests := true, laidLooks := .later }
def MutateNotesCardSaid : Prop := Claim7.holds Tryz.pinned (.plain (OpenSpec.ofChange mutateNotesSpec)) mutateNotesCard

/-- THE SECOND FORM's CARD OF 'gleanerlaw15.MutateNotes'. -/
def mutateNotesUptoCard : Claim7 := { stood := { row := mutateNotesUptoRow, standIns := [], harness := (true, "fc421073e12c3e5ea8039001fd04e75aac5b378e006fea1c004191904d897b73"), looks := false }, kinds := [], alts := [], laidByText := true, laidKinds := [.data], laidTests := true, laidLooks := .later }
def MutateNotesUptoCardSaid : Prop := Claim7.holds Tryz.pinned (.plain (OpenSpec.upto mutateNotesSpec)) mutateNotesUptoCard
end Rows
end Go.Proofs.YtimlkjppaalfaaaGreatDoor
