/-
  DERIVED. GIVEN WITH THE SEED: THE CARDS: each row of YteacgfeiedcdiaaGreatDoorRows.lean that lists a variable, with what it lists TIED to the program's text (the seventh form; the later family's looks); each row that meets fmt, with fmt's text TOLD by the authors' own Lean function (tested against real Go, not proved from fmt's source: count such statements apart). THE CARD IS WHAT COUNTS. Prove the row's statement (the work); the ties are given (YteacgfeiedcdiaaGreatDoorTie.lean); close each card by the builder's one call (the guide's Derived/Test/ToyasCard.lean, 'card_holds'). Laid BY PROGRAM, IN A SANDBOX (cutbox-door.mjs). By AI agents, Wed Nov 11 2026. No macro, syntax, notation, axiom, sorry.
-/
import Derived.Test.YteacgfeiedcdiaaGreatDoorRows
import GoSem.ClaimSeven
namespace Go.Proofs.YteacgfeiedcdiaaGreatDoor
namespace Rows

/-- THE TIED CARD OF 'gleanerlaw16.RefineCards'. -/
def refineCardsCard : Claim7 := { stood := { row := refineCardsRow, standIns := [], harness := (true, "4d1d079442c872655d5104fc4064e36f5520bed56a1185e25f3bbbab6c3d2b21"), looks := false }, kinds := [], alts := [], laidByText := true, laidKinds := [.data], laidTests := true, laidLooks := .later }
def RefineCardsCardSaid : Prop := Claim7.holds Tryz.pinned (.plain (OpenSpec.ofChange refineCardsSpec)) refineCardsCard

/-- THE TIED CARD OF 'gleanerlaw16.RefineSteps'. -/
def refineStepsCard : Claim7 := { stood := { row := refineStepsRow, standIns := [], harness := (true, "4d1d079442c872655d5104fc4064e36f5520bed56a1185e25f3bbbab6c3d2b21"), looks := false }, kinds := [], alts := [], laidByText := true, laidKinds := [.data], laidTests := true, laidLooks := .later }
def RefineStepsCardSaid : Prop := Claim7.holds Tryz.pinned (.plain (OpenSpec.ofChange refineStepsSpec)) refineStepsCard

/-- THE TIED CARD OF 'gleanerlaw16.RefineNil'. -/
def refineNilCard : Claim7 := { stood := { row := refineNilRow, standIns := [], harness := (true, "4d1d079442c872655d5104fc4064e36f5520bed56a1185e25f3bbbab6c3d2b21"), looks := false }, kinds := [], alts := [], laidByText := true, laidKinds := [.data], laidTests := true, laidLooks := .later }
def RefineNilCardSaid : Prop := Claim7.holds Tryz.pinned (.plain (OpenSpec.ofChange refineNilSpec)) refineNilCard

/-- THE SECOND FORM's CARD OF 'gleanerlaw16.RefineCards'. -/
def refineCardsUptoCard : Claim7 := { stood := { row := refineCardsUptoRow, standIns := [], harness := (true, "4d1d079442c872655d5104fc4064e36f5520bed56a1185e25f3bbbab6c3d2b21"), looks := false }, kinds := [], alts := [], laidByText := true, laidKinds := [.data], laidTests := true, laidLooks := .later }
def RefineCardsUptoCardSaid : Prop := Claim7.holds Tryz.pinned (.plain (OpenSpec.upto refineCardsSpec)) refineCardsUptoCard

/-- THE SECOND FORM's CARD OF 'gleanerlaw16.RefineSteps'. -/
def refineStepsUptoCard : Claim7 := { stood := { row := refineStepsUptoRow, standIns := [], harness := (true, "4d1d079442c872655d5104fc4064e36f5520bed56a1185e25f3bbbab6c3d2b21"), looks := false }, kinds := [], alts := [], laidByText := true, laidKinds := [.data], laidTests := true, laidLooks := .later }
def RefineStepsUptoCardSaid : Prop := Claim7.holds Tryz.pinned (.plain (OpenSpec.upto refineStepsSpec)) refineStepsUptoCard

/-- THE SECOND FORM's CARD OF 'gleanerlaw16.RefineNil'. -/
def refineNilUptoCard : Claim7 := { stood := { row := refineNilUptoRow, standIns := [], harness := (true, "4d1d079442c872655d5104fc4064e36f5520bed56a1185e25f3bbbab6c3d2b21"), looks := false }, kinds := [], alts := [], laidByText := true, laidKinds := [.data], laidTests := true, laidLooks := .later }
def RefineNilUptoCardSaid : Prop := Claim7.holds Tryz.pinned (.plain (OpenSpec.upto refineNilSpec)) refineNilUptoCard
end Rows
end Go.Proofs.YteacgfeiedcdiaaGreatDoor
