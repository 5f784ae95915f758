/-
  DERIVED. GIVEN WITH THE SEED: THE CARDS: each row of YtbaccleaakmenaaDoorRows.lean that lists a variable, with what it lists TIED to the program's text (the seventh form; the later family's looks); each row that meets fmt, with fmt's text TOLD by the authors' own Lean function (tested against real Go, not proved from fmt's source: count such statements apart). THE CARD IS WHAT COUNTS. Prove the row's statement (the work); the ties are given (YtbaccleaakmenaaDoorTie.lean); close each card by the builder's one call (the guide's Derived/Test/ToyasCard.lean, 'card_holds'). Laid BY PROGRAM, IN A SANDBOX (cutbox-door.mjs). By AI agents, Wed Nov 11 2026. No macro, syntax, notation, axiom, sorry.
-/
import Derived.Test.YtbaccleaakmenaaDoorRows
import GoSem.ClaimSeven
namespace Go.Proofs.YtbaccleaakmenaaDoor
namespace Rows

/-- THE TIED CARD OF 'gleanerlaw09.CardsPlays'. -/
def cardsPlaysCard : Claim7 := { stood := { row := cardsPlaysRow, standIns := [], harness := (true, "70f7f9842726ee4a91d25ecbff51e10b11524e3da3a80135c2f3c3dc0d35a509"), looks := false }, kinds := [], alts := [], laidByText := true, laidKinds := [.data], laidTests := true, laidLooks := .later }
def CardsPlaysCardSaid : Prop := Claim7.holds Tryd.pinned (.plain (OpenSpec.ofChange cardsPlaysSpec)) cardsPlaysCard

/-- THE TIED CARD OF 'gleanerlaw09.CardsNotes'. -/
def cardsNotesCard : Claim7 := { stood := { row := cardsNotesRow, standIns := [], harness := (true, "70f7f9842726ee4a91d25ecbff51e10b11524e3da3a80135c2f3c3dc0d35a509"), looks := false }, kinds := [], alts := [], laidByText := true, laidKinds := [.data], laidTests := true, laidLooks := .later }
def CardsNotesCardSaid : Prop := Claim7.holds Tryd.pinned (.plain (OpenSpec.ofChange cardsNotesSpec)) cardsNotesCard

/-- THE TIED CARD OF 'gleanerlaw09.CardsNil'. -/
def cardsNilCard : Claim7 := { stood := { row := cardsNilRow, standIns := [], harness := (true, "70f7f9842726ee4a91d25ecbff51e10b11524e3da3a80135c2f3c3dc0d35a509"), looks := false }, kinds := [], alts := [], laidByText := true, laidKinds := [.data], laidTests := true, laidLooks := .later }
def CardsNilCardSaid : Prop := Claim7.holds Tryd.pinned (.plain (OpenSpec.ofChange cardsNilSpec)) cardsNilCard

/-- THE SECOND FORM's CARD OF 'gleanerlaw09.CardsPlays'. -/
def cardsPlaysUptoCard : Claim7 := { stood := { row := cardsPlaysUptoRow, standIns := [], harness := (true, "70f7f9842726ee4a91d25ecbff51e10b11524e3da3a80135c2f3c3dc0d35a509"), looks := false }, kinds := [], alts := [], laidByText := true, laidKinds := [.data], laidTests := true, laidLooks := .later }
def CardsPlaysUptoCardSaid : Prop := Claim7.holds Tryd.pinned (.plain (OpenSpec.upto cardsPlaysSpec)) cardsPlaysUptoCard

/-- THE SECOND FORM's CARD OF 'gleanerlaw09.CardsNotes'. -/
def cardsNotesUptoCard : Claim7 := { stood := { row := cardsNotesUptoRow, standIns := [], harness := (true, "70f7f9842726ee4a91d25ecbff51e10b11524e3da3a80135c2f3c3dc0d35a509"), looks := false }, kinds := [], alts := [], laidByText := true, laidKinds := [.data], laidTests := true, laidLooks := .later }
def CardsNotesUptoCardSaid : Prop := Claim7.holds Tryd.pinned (.plain (OpenSpec.upto cardsNotesSpec)) cardsNotesUptoCard

/-- THE SECOND FORM's CARD OF 'gleanerlaw09.CardsNil'. -/
def cardsNilUptoCard : Claim7 := { stood := { row := cardsNilUptoRow, standIns := [], harness := (true, "70f7f9842726ee4a91d25ecbff51e10b11524e3da3a80135c2f3c3dc0d35a509"), looks := false }, kinds := [], alts := [], laidByText := true, laidKinds := [.data], laidTests := true, laidLooks := .later }
def CardsNilUptoCardSaid : Prop := Claim7.holds Tryd.pinned (.plain (OpenSpec.upto cardsNilSpec)) cardsNilUptoCard
end Rows
end Go.Proofs.YtbaccleaakmenaaDoor
