/-
  DERIVED. GIVEN WITH THE SEED: THE CARDS: each row of YthacgiajnafpgaaGreatDoorRows.lean that lists a variable, with what it lists TIED to the program's text (the seventh form; the later family's looks); each row that meets fmt, with fmt's text TOLD by the authors' own Lean function (tested against real Go, not proved from fmt's source: count such statements apart). THE CARD IS WHAT COUNTS. Prove the row's statement (the work); the ties are given (YthacgiajnafpgaaGreatDoorTie.lean); close each card by the builder's one call (the guide's Derived/Test/ToyasCard.lean, 'card_holds'). Laid BY PROGRAM, IN A SANDBOX (cutbox-door.mjs). By AI agents, Wed Nov 11 2026. No macro, syntax, notation, axiom, sorry.
-/
import Derived.Test.YthacgiajnafpgaaGreatDoorRows
import GoSem.ClaimSeven
namespace Go.Proofs.YthacgiajnafpgaaGreatDoor
namespace Rows

/-- THE TIED CARD OF 'gleanerlaw15.MutateAnswers'. -/
def mutateAnswersCard : Claim7 := { stood := { row := mutateAnswersRow, standIns := [], harness := (true, "fe9a7db5937a7c4e4647ff95f5737c7719ef045e56d85e924bd7f593e1ff8ef7"), looks := false }, kinds := [], alts := [], laidByText := true, laidKinds := [.data], laidTests := true, laidLooks := .later }
def MutateAnswersCardSaid : Prop := Claim7.holds Tryz.pinned (.plain (OpenSpec.ofChange mutateAnswersSpec)) mutateAnswersCard

/-- THE TIED CARD OF 'gleanerlaw15.MutateNotes'. -/
def mutateNotesCard : Claim7 := { stood := { row := mutateNotesRow, standIns := [], harness := (true, "fe9a7db5937a7c4e4647ff95f5737c7719ef045e56d85e924bd7f593e1ff8ef7"), looks := false }, kinds := [], alts := [], laidByText := true, laidKinds := [.data], laidTests := true, laidLooks := .later }
def MutateNotesCardSaid : Prop := Claim7.holds Tryz.pinned (.plain (OpenSpec.ofChange mutateNotesSpec)) mutateNotesCard

/-- THE TIED CARD OF 'gleanerlaw15.MutateSteps'. -/
def mutateStepsCard : Claim7 := { stood := { row := mutateStepsRow, standIns := [], harness := (true, "fe9a7db5937a7c4e4647ff95f5737c7719ef045e56d85e924bd7f593e1ff8ef7"), looks := false }, kinds := [], alts := [], laidByText := true, laidKinds := [.data], laidTests := true, laidLooks := .later }
def MutateStepsCardSaid : Prop := Claim7.holds Tryz.pinned (.plain (OpenSpec.ofChange mutateStepsSpec)) mutateStepsCard

/-- THE TIED CARD OF 'gleanerlaw15.MutateLogs'. -/
def mutateLogsCard : Claim7 := { stood := { row := mutateLogsRow, standIns := [], harness := (true, "fe9a7db5937a7c4e4647ff95f5737c7719ef045e56d85e924bd7f593e1ff8ef7"), looks := false }, kinds := [], alts := [], laidByText := true, laidKinds := [.data], laidTests := true, laidLooks := .later }
def MutateLogsCardSaid : Prop := Claim7.holds Tryz.pinned (.plain (OpenSpec.ofChange mutateLogsSpec)) mutateLogsCard

/-- THE TIED CARD OF 'gleanerlaw15.MutateNil'. -/
def mutateNilCard : Claim7 := { stood := { row := mutateNilRow, standIns := [], harness := (true, "fe9a7db5937a7c4e4647ff95f5737c7719ef045e56d85e924bd7f593e1ff8ef7"), looks := false }, kinds := [], alts := [], laidByText := true, laidKinds := [.data], laidTests := true, laidLooks := .later }
def MutateNilCardSaid : Prop := Claim7.holds Tryz.pinned (.plain (OpenSpec.ofChange mutateNilSpec)) mutateNilCard

/-- THE TIED CARD OF 'gleanerlaw16.RefineCards'. -/
def refineCardsCard : Claim7 := { stood := { row := refineCardsRow, standIns := [], harness := (true, "fe9a7db5937a7c4e4647ff95f5737c7719ef045e56d85e924bd7f593e1ff8ef7"), looks := false }, kinds := [], alts := [], laidByText := true, laidKinds := [.data], laidTests := true, laidLooks := .later }
def RefineCardsCardSaid : Prop := Claim7.holds Tryz.pinned (.plain (OpenSpec.ofChange refineCardsSpec)) refineCardsCard

/-- THE TIED CARD OF 'gleanerlaw16.RefineSteps'. -/
def refineStepsCard : Claim7 := { stood := { row := refineStepsRow, standIns := [], harness := (true, "fe9a7db5937a7c4e4647ff95f5737c7719ef045e56d85e924bd7f593e1ff8ef7"), looks := false }, kinds := [], alts := [], laidByText := true, laidKinds := [.data], laidTests := true, laidLooks := .later }
def RefineStepsCardSaid : Prop := Claim7.holds Tryz.pinned (.plain (OpenSpec.ofChange refineStepsSpec)) refineStepsCard

/-- THE TIED CARD OF 'gleanerlaw16.RefineNil'. -/
def refineNilCard : Claim7 := { stood := { row := refineNilRow, standIns := [], harness := (true, "fe9a7db5937a7c4e4647ff95f5737c7719ef045e56d85e924bd7f593e1ff8ef7"), looks := false }, kinds := [], alts := [], laidByText := true, laidKinds := [.data], laidTests := true, laidLooks := .later }
def RefineNilCardSaid : Prop := Claim7.holds Tryz.pinned (.plain (OpenSpec.ofChange refineNilSpec)) refineNilCard

/-- THE SECOND FORM's CARD OF 'gleanerlaw15.MutateAnswers'. -/
def mutateAnswersUptoCard : Claim7 := { stood := { row := mutateAnswersUptoRow, standIns := [], harness := (true, "fe9a7db5937a7c4e4647ff95f5737c7719ef045e56d85e924bd7f593e1ff8ef7"), looks := false }, kinds := [], alts := [], laidByText := true, laidKinds := [.data], laidTests := true, laidLooks := .later }
def MutateAnswersUptoCardSaid : Prop := Claim7.holds Tryz.pinned (.plain (OpenSpec.upto mutateAnswersSpec)) mutateAnswersUptoCard

/-- THE SECOND FORM's CARD OF 'gleanerlaw15.MutateNotes'. -/
def mutateNotesUptoCard : Claim7 := { stood := { row := mutateNotesUptoRow, standIns := [], harness := (true, "fe9a7db5937a7c4e4647ff95f5737c7719ef045e56d85e924bd7f593e1ff8ef7"), looks := false }, kinds := [], alts := [], laidByText := true, laidKinds := [.data], laidTests := true, laidLooks := .later }
def MutateNotesUptoCardSaid : Prop := Claim7.holds Tryz.pinned (.plain (OpenSpec.upto mutateNotesSpec)) mutateNotesUptoCard

/-- THE SECOND FORM's CARD OF 'gleanerlaw15.MutateSteps'. -/
def mutateStepsUptoCard : Claim7 := { stood := { row := mutateStepsUptoRow, standIns := [], harness := (true, "fe9a7db5937a7c4e4647ff95f5737c7719ef045e56d85e924bd7f593e1ff8ef7"), looks := false }, kinds := [], alts := [], laidByText := true, laidKinds := [.data], laidTests := true, laidLooks := .later }
def MutateStepsUptoCardSaid : Prop := Claim7.holds Tryz.pinned (.plain (OpenSpec.upto mutateStepsSpec)) mutateStepsUptoCard

/-- THE SECOND FORM's CARD OF 'gleanerlaw15.MutateLogs'. -/
def mutateLogsUptoCard : Claim7 := { stood := { row := mutateLogsUptoRow, standIns := [], harness := (true, "fe9a7db5937a7c4e4647ff95f5737c7719ef045e56d85e924bd7f593e1ff8ef7"), looks := false }, kinds := [], alts := [], laidByText := true, laidKinds := [.data], laidTests := true, laidLooks := .later }
def MutateLogsUptoCardSaid : Prop := Claim7.holds Tryz.pinned (.plain (OpenSpec.upto mutateLogsSpec)) mutateLogsUptoCard

/-- THE SECOND FORM's CARD OF 'gleanerlaw15.MutateNil'. -/
def mutateNilUptoCard : Claim7 := { stood := { row := mutateNilUptoRow, standIns := [], harness := (true, "fe9a7db5937a7c4e4647ff95f5737c7719ef045e56d85e924bd7f593e1ff8ef7"), looks := false }, kinds := [], alts := [], laidByText := true, laidKinds := [.data], laidTests := true, laidLooks := .later }
def MutateNilUptoCardSaid : Prop := Claim7.holds Tryz.pinned (.plain (OpenSpec.upto mutateNilSpec)) mutateNilUptoCard

/-- THE SECOND FORM's CARD OF 'gleanerlaw16.RefineCards'. -/
def refineCardsUptoCard : Claim7 := { stood := { row := refineCardsUptoRow, standIns := [], harness := (true, "fe9a7db5937a7c4e4647ff95f5737c7719ef045e56d85e924bd7f593e1ff8ef7"), looks := false }, kinds := [], alts := [], laidByText := true, laidKinds := [.data], laidTests := true, laidLooks := .later }
def RefineCardsUptoCardSaid : Prop := Claim7.holds Tryz.pinned (.plain (OpenSpec.upto refineCardsSpec)) refineCardsUptoCard

/-- THE SECOND FORM's CARD OF 'gleanerlaw16.RefineSteps'. -/
def refineStepsUptoCard : Claim7 := { stood := { row := refineStepsUptoRow, standIns := [], harness := (true, "fe9a7db5937a7c4e4647ff95f5737c7719ef045e56d85e924bd7f593e1ff8ef7"), looks := false }, kinds := [], alts := [], laidByText := true, laidKinds := [.data], laidTests := true, laidLooks := .later }
def RefineStepsUptoCardSaid : Prop := Claim7.holds Tryz.pinned (.plain (OpenSpec.upto refineStepsSpec)) refineStepsUptoCard

/-- THE SECOND FORM's CARD OF 'gleanerlaw16.RefineNil'. -/
def refineNilUptoCard : Claim7 := { stood := { row := refineNilUptoRow, standIns := [], harness := (true, "fe9a7db5937a7c4e4647ff95f5737c7719ef045e56d85e924bd7f593e1ff8ef7"), looks := false }, kinds := [], alts := [], laidByText := true, laidKinds := [.data], laidTests := true, laidLooks := .later }
def RefineNilUptoCardSaid : Prop := Claim7.holds Tryz.pinned (.plain (OpenSpec.upto refineNilSpec)) refineNilUptoCard
end Rows
end Go.Proofs.YthacgiajnafpgaaGreatDoor
