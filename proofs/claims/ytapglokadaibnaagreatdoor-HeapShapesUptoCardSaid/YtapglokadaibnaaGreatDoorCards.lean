/-
  DERIVED. GIVEN WITH THE SEED: THE CARDS: each row of YtapglokadaibnaaGreatDoorRows.lean that lists a variable, with what it lists TIED to the program's text (the seventh form; the later family's looks); each row that meets fmt, with fmt's text TOLD by the authors' own Lean function (tested against real Go, not proved from fmt's source: count such statements apart). THE CARD IS WHAT COUNTS. Prove the row's statement (the work); the ties are given (YtapglokadaibnaaGreatDoorTie.lean); close each card by the builder's one call (the guide's Derived/Test/ToyasCard.lean, 'card_holds'). Laid BY PROGRAM, IN A SANDBOX (cutbox-door.mjs). By AI agents, Wed Nov 11 2026. No macro, syntax, notation, axiom, sorry.
-/
import Derived.Test.YtapglokadaibnaaGreatDoorRows
import GoSem.ClaimSeven
namespace Go.Proofs.YtapglokadaibnaaGreatDoor
namespace Rows

/-- THE TIED CARD OF 'gleanerlaw14.HeapShapes'. -/
def heapShapesCard : Claim7 := { stood := { row := heapShapesRow, standIns := [], harness := (true, "49dd37511f44256c62b91ad71e57eb3f95d4cae8375bf5fa26530d9f3c6daf1d"), looks := false }, kinds := [], alts := [], laidByText := true, laidKinds := [.data], laidTests := true, laidLooks := .later }
def HeapShapesCardSaid : Prop := Claim7.holds Tryz.pinned (.plain (OpenSpec.ofChange heapShapesSpec)) heapShapesCard

/-- THE TIED CARD OF 'gleanerlaw14.HeapFrees'. -/
def heapFreesCard : Claim7 := { stood := { row := heapFreesRow, standIns := [], harness := (true, "49dd37511f44256c62b91ad71e57eb3f95d4cae8375bf5fa26530d9f3c6daf1d"), looks := false }, kinds := [], alts := [], laidByText := true, laidKinds := [.data], laidTests := true, laidLooks := .later }
def HeapFreesCardSaid : Prop := Claim7.holds Tryz.pinned (.plain (OpenSpec.ofChange heapFreesSpec)) heapFreesCard

/-- THE TIED CARD OF 'gleanerlaw15.MutateAnswers'. -/
def mutateAnswersCard : Claim7 := { stood := { row := mutateAnswersRow, standIns := [], harness := (true, "49dd37511f44256c62b91ad71e57eb3f95d4cae8375bf5fa26530d9f3c6daf1d"), looks := false }, kinds := [], alts := [], laidByText := true, laidKinds := [.data], laidTests := true, laidLooks := .later }
def MutateAnswersCardSaid : Prop := Claim7.holds Tryz.pinned (.plain (OpenSpec.ofChange mutateAnswersSpec)) mutateAnswersCard

/-- THE TIED CARD OF 'gleanerlaw15.MutateNotes'. -/
def mutateNotesCard : Claim7 := { stood := { row := mutateNotesRow, standIns := [], harness := (true, "49dd37511f44256c62b91ad71e57eb3f95d4cae8375bf5fa26530d9f3c6daf1d"), looks := false }, kinds := [], alts := [], laidByText := true, laidKinds := [.data], laidTests := true, laidLooks := .later }
def MutateNotesCardSaid : Prop := Claim7.holds Tryz.pinned (.plain (OpenSpec.ofChange mutateNotesSpec)) mutateNotesCard

/-- THE TIED CARD OF 'gleanerlaw15.MutateSteps'. -/
def mutateStepsCard : Claim7 := { stood := { row := mutateStepsRow, standIns := [], harness := (true, "49dd37511f44256c62b91ad71e57eb3f95d4cae8375bf5fa26530d9f3c6daf1d"), looks := false }, kinds := [], alts := [], laidByText := true, laidKinds := [.data], laidTests := true, laidLooks := .later }
def MutateStepsCardSaid : Prop := Claim7.holds Tryz.pinned (.plain (OpenSpec.ofChange mutateStepsSpec)) mutateStepsCard

/-- THE TIED CARD OF 'gleanerlaw15.MutateLogs'. -/
def mutateLogsCard : Claim7 := { stood := { row := mutateLogsRow, standIns := [], harness := (true, "49dd37511f44256c62b91ad71e57eb3f95d4cae8375bf5fa26530d9f3c6daf1d"), looks := false }, kinds := [], alts := [], laidByText := true, laidKinds := [.data], laidTests := true, laidLooks := .later }
def MutateLogsCardSaid : Prop := Claim7.holds Tryz.pinned (.plain (OpenSpec.ofChange mutateLogsSpec)) mutateLogsCard

/-- THE TIED CARD OF 'gleanerlaw15.MutateNil'. -/
def mutateNilCard : Claim7 := { stood := { row := mutateNilRow, standIns := [], harness := (true, "49dd37511f44256c62b91ad71e57eb3f95d4cae8375bf5fa26530d9f3c6daf1d"), looks := false }, kinds := [], alts := [], laidByText := true, laidKinds := [.data], laidTests := true, laidLooks := .later }
def MutateNilCardSaid : Prop := Claim7.holds Tryz.pinned (.plain (OpenSpec.ofChange mutateNilSpec)) mutateNilCard

/-- THE SECOND FORM's CARD OF 'gleanerlaw14.HeapShapes'. -/
def heapShapesUptoCard : Claim7 := { stood := { row := heapShapesUptoRow, standIns := [], harness := (true, "49dd37511f44256c62b91ad71e57eb3f95d4cae8375bf5fa26530d9f3c6daf1d"), looks := false }, kinds := [], alts := [], laidByText := true, laidKinds := [.data], laidTests := true, laidLooks := .later }
def HeapShapesUptoCardSaid : Prop := Claim7.holds Tryz.pinned (.plain (OpenSpec.upto heapShapesSpec)) heapShapesUptoCard

/-- THE SECOND FORM's CARD OF 'gleanerlaw14.HeapFrees'. -/
def heapFreesUptoCard : Claim7 := { stood := { row := heapFreesUptoRow, standIns := [], harness := (true, "49dd37511f44256c62b91ad71e57eb3f95d4cae8375bf5fa26530d9f3c6daf1d"), looks := false }, kinds := [], alts := [], laidByText := true, laidKinds := [.data], laidTests := true, laidLooks := .later }
def HeapFreesUptoCardSaid : Prop := Claim7.holds Tryz.pinned (.plain (OpenSpec.upto heapFreesSpec)) heapFreesUptoCard

/-- THE SECOND FORM's CARD OF 'gleanerlaw15.MutateAnswers'. -/
def mutateAnswersUptoCard : Claim7 := { stood := { row := mutateAnswersUptoRow, standIns := [], harness := (true, "49dd37511f44256c62b91ad71e57eb3f95d4cae8375bf5fa26530d9f3c6daf1d"), looks := false }, kinds := [], alts := [], laidByText := true, laidKinds := [.data], laidTests := true, laidLooks := .later }
def MutateAnswersUptoCardSaid : Prop := Claim7.holds Tryz.pinned (.plain (OpenSpec.upto mutateAnswersSpec)) mutateAnswersUptoCard

/-- THE SECOND FORM's CARD OF 'gleanerlaw15.MutateNotes'. -/
def mutateNotesUptoCard : Claim7 := { stood := { row := mutateNotesUptoRow, standIns := [], harness := (true, "49dd37511f44256c62b91ad71e57eb3f95d4cae8375bf5fa26530d9f3c6daf1d"), looks := false }, kinds := [], alts := [], laidByText := true, laidKinds := [.data], laidTests := true, laidLooks := .later }
def MutateNotesUptoCardSaid : Prop := Claim7.holds Tryz.pinned (.plain (OpenSpec.upto mutateNotesSpec)) mutateNotesUptoCard

/-- THE SECOND FORM's CARD OF 'gleanerlaw15.MutateSteps'. -/
def mutateStepsUptoCard : Claim7 := { stood := { row := mutateStepsUptoRow, standIns := [], harness := (true, "49dd37511f44256c62b91ad71e57eb3f95d4cae8375bf5fa26530d9f3c6daf1d"), looks := false }, kinds := [], alts := [], laidByText := true, laidKinds := [.data], laidTests := true, laidLooks := .later }
def MutateStepsUptoCardSaid : Prop := Claim7.holds Tryz.pinned (.plain (OpenSpec.upto mutateStepsSpec)) mutateStepsUptoCard

/-- THE SECOND FORM's CARD OF 'gleanerlaw15.MutateLogs'. -/
def mutateLogsUptoCard : Claim7 := { stood := { row := mutateLogsUptoRow, standIns := [], harness := (true, "49dd37511f44256c62b91ad71e57eb3f95d4cae8375bf5fa26530d9f3c6daf1d"), looks := false }, kinds := [], alts := [], laidByText := true, laidKinds := [.data], laidTests := true, laidLooks := .later }
def MutateLogsUptoCardSaid : Prop := Claim7.holds Tryz.pinned (.plain (OpenSpec.upto mutateLogsSpec)) mutateLogsUptoCard

/-- THE SECOND FORM's CARD OF 'gleanerlaw15.MutateNil'. -/
def mutateNilUptoCard : Claim7 := { stood := { row := mutateNilUptoRow, standIns := [], harness := (true, "49dd37511f44256c62b91ad71e57eb3f95d4cae8375bf5fa26530d9f3c6daf1d"), looks := false }, kinds := [], alts := [], laidByText := true, laidKinds := [.data], laidTests := true, laidLooks := .later }
def MutateNilUptoCardSaid : Prop := Claim7.holds Tryz.pinned (.plain (OpenSpec.upto mutateNilSpec)) mutateNilUptoCard
end Rows
end Go.Proofs.YtapglokadaibnaaGreatDoor
