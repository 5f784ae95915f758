/-
  DERIVED. GIVEN WITH THE SEED: THE CARDS: each row of YtimkofiempcfdaaGreatDoorRows.lean that lists a variable, with what it lists TIED to the program's text (the seventh form; the later family's looks); each row that meets fmt, with fmt's text TOLD by the authors' own Lean function (tested against real Go, not proved from fmt's source: count such statements apart). THE CARD IS WHAT COUNTS. Prove the row's statement (the work); the ties are given (YtimkofiempcfdaaGreatDoorTie.lean); close each card by the builder's one call (the guide's Derived/Test/ToyasCard.lean, 'card_holds'). Laid BY PROGRAM, IN A SANDBOX (cutbox-door.mjs). By AI agents, Wed Nov 11 2026. No macro, syntax, notation, axiom, sorry.
-/
import Derived.Test.YtimkofiempcfdaaGreatDoorRows
import GoSem.ClaimSeven
namespace Go.Proofs.YtimkofiempcfdaaGreatDoor
namespace Rows

/-- THE TIED CARD OF 'gleanerlaw15.MutateAnswers'. -/
def mutateAnswersCard : Claim7 := { stood := { row := mutateAnswersRow, standIns := [], harness := (true, "ed338d98bf08f8857be4fd73b08b680e02902b7b03336382fce89099af0cce4e"), looks := false }, kinds := [], alts := [], laidByText := true, laidKinds := [.data], laidTests := true, laidLooks := .later }
def MutateAnswersCardSaid : Prop := Claim7.holds Tryz.pinned (.plain (OpenSpec.ofChange mutateAnswersSpec)) mutateAnswersCard

/-- THE TIED CARD OF 'gleanerlaw15.MutateNotes'. -/
def mutateNotesCard : Claim7 := { stood := { row := mutateNotesRow, standIns := [], harness := (true, "ed338d98bf08f8857be4fd73b08b680e02902b7b03336382fce89099af0cce4e"), looks := false }, kinds := [], alts := [], laidByText := true, laidKinds := [.data], laidTests := true, laidLooks := .later }
def MutateNotesCardSaid : Prop := Claim7.holds Tryz.pinned (.plain (OpenSpec.ofChange mutateNotesSpec)) mutateNotesCard

/-- THE TIED CARD OF 'gleanerlaw15.MutateSteps'. -/
def mutateStepsCard : Claim7 := { stood := { row := mutateStepsRow, standIns := [], harness := (true, "ed338d98bf08f8857be4fd73b08b680e02902b7b03336382fce89099af0cce4e"), looks := false }, kinds := [], alts := [], laidByText := true, laidKinds := [.data], laidTests := true, laidLooks := .later }
def MutateStepsCardSaid : Prop := Claim7.holds Tryz.pinned (.plain (OpenSpec.ofChange mutateStepsSpec)) mutateStepsCard

/-- THE TIED CARD OF 'gleanerlaw15.MutateLogs'. -/
def mutateLogsCard : Claim7 := { stood := { row := mutateLogsRow, standIns := [], harness := (true, "ed338d98bf08f8857be4fd73b08b680e02902b7b03336382fce89099af0cce4e"), looks := false }, kinds := [], alts := [], laidByText := true, laidKinds := [.data], laidTests := true, laidLooks := .later }
def MutateLogsCardSaid : Prop := Claim7.holds Tryz.pinned (.plain (OpenSpec.ofChange mutateLogsSpec)) mutateLogsCard

/-- THE SECOND FORM's CARD OF 'gleanerlaw15.MutateAnswers'. -/
def mutateAnswersUptoCard : Claim7 := { stood := { row := mutateAnswersUptoRow, standIns := [], harness := (true, "ed338d98bf08f8857be4fd73b08b680e02902b7b03336382fce89099af0cce4e"), looks := false }, kinds := [], alts := [], laidByText := true, laidKinds := [.data], laidTests := true, laidLooks := .later }
def MutateAnswersUptoCardSaid : Prop := Claim7.holds Tryz.pinned (.plain (OpenSpec.upto mutateAnswersSpec)) mutateAnswersUptoCard

/-- THE SECOND FORM's CARD OF 'gleanerlaw15.MutateNotes'. -/
def mutateNotesUptoCard : Claim7 := { stood := { row := mutateNotesUptoRow, standIns := [], harness := (true, "ed338d98bf08f8857be4fd73b08b680e02902b7b03336382fce89099af0cce4e"), looks := false }, kinds := [], alts := [], laidByText := true, laidKinds := [.data], laidTests := true, laidLooks := .later }
def MutateNotesUptoCardSaid : Prop := Claim7.holds Tryz.pinned (.plain (OpenSpec.upto mutateNotesSpec)) mutateNotesUptoCard

/-- THE SECOND FORM's CARD OF 'gleanerlaw15.MutateSteps'. -/
def mutateStepsUptoCard : Claim7 := { stood := { row := mutateStepsUptoRow, standIns := [], harness := (true, "ed338d98bf08f8857be4fd73b08b680e02902b7b03336382fce89099af0cce4e"), looks := false }, kinds := [], alts := [], laidByText := true, laidKinds := [.data], laidTests := true, laidLooks := .later }
def MutateStepsUptoCardSaid : Prop := Claim7.holds Tryz.pinned (.plain (OpenSpec.upto mutateStepsSpec)) mutateStepsUptoCard

/-- THE SECOND FORM's CARD OF 'gleanerlaw15.MutateLogs'. -/
def mutateLogsUptoCard : Claim7 := { stood := { row := mutateLogsUptoRow, standIns := [], harness := (true, "ed338d98bf08f8857be4fd73b08b680e02902b7b03336382fce89099af0cce4e"), looks := false }, kinds := [], alts := [], laidByText := true, laidKinds := [.data], laidTests := true, laidLooks := .later }
def MutateLogsUptoCardSaid : Prop := Claim7.holds Tryz.pinned (.plain (OpenSpec.upto mutateLogsSpec)) mutateLogsUptoCard
end Rows
end Go.Proofs.YtimkofiempcfdaaGreatDoor
