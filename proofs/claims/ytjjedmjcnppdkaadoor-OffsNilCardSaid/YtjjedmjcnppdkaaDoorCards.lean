/-
  DERIVED. GIVEN WITH THE SEED: THE CARDS: each row of YtjjedmjcnppdkaaDoorRows.lean that lists a variable, with what it lists TIED to the program's text (the seventh form; the later family's looks); each row that meets fmt, with fmt's text TOLD by the authors' own Lean function (tested against real Go, not proved from fmt's source: count such statements apart). THE CARD IS WHAT COUNTS. Prove the row's statement (the work); the ties are given (YtjjedmjcnppdkaaDoorTie.lean); close each card by the builder's one call (the guide's Derived/Test/ToyasCard.lean, 'card_holds'). Laid BY PROGRAM, IN A SANDBOX (cutbox-door.mjs). By AI agents, Wed Nov 11 2026. No macro, syntax, notation, axiom, sorry.
-/
import Derived.Test.YtjjedmjcnppdkaaDoorRows
import GoSem.ClaimSeven
namespace Go.Proofs.YtjjedmjcnppdkaaDoor
namespace Rows

/-- THE TIED CARD OF 'gleanerlaw06.OffsCovers'. -/
def offsCoversCard : Claim7 := { stood := { row := offsCoversRow, standIns := [], harness := (true, "53ec6c30f9fe2214c965bb5213bc55fcdec230fe174c30f036c090c873fab9ad"), looks := false }, kinds := [], alts := [], laidByText := true, laidKinds := [.data], laidTests := true, laidLooks := .later }
def OffsCoversCardSaid : Prop := Claim7.holds Tryd.pinned (.plain (OpenSpec.ofChange offsCoversSpec)) offsCoversCard

/-- THE TIED CARD OF 'gleanerlaw06.OffsNil'. -/
def offsNilCard : Claim7 := { stood := { row := offsNilRow, standIns := [], harness := (true, "53ec6c30f9fe2214c965bb5213bc55fcdec230fe174c30f036c090c873fab9ad"), looks := false }, kinds := [], alts := [], laidByText := true, laidKinds := [.data], laidTests := true, laidLooks := .later }
def OffsNilCardSaid : Prop := Claim7.holds Tryd.pinned (.plain (OpenSpec.ofChange offsNilSpec)) offsNilCard

/-- THE SECOND FORM's CARD OF 'gleanerlaw06.OffsCovers'. -/
def offsCoversUptoCard : Claim7 := { stood := { row := offsCoversUptoRow, standIns := [], harness := (true, "53ec6c30f9fe2214c965bb5213bc55fcdec230fe174c30f036c090c873fab9ad"), looks := false }, kinds := [], alts := [], laidByText := true, laidKinds := [.data], laidTests := true, laidLooks := .later }
def OffsCoversUptoCardSaid : Prop := Claim7.holds Tryd.pinned (.plain (OpenSpec.upto offsCoversSpec)) offsCoversUptoCard

/-- THE SECOND FORM's CARD OF 'gleanerlaw06.OffsNil'. -/
def offsNilUptoCard : Claim7 := { stood := { row := offsNilUptoRow, standIns := [], harness := (true, "53ec6c30f9fe2214c965bb5213bc55fcdec230fe174c30f036c090c873fab9ad"), looks := false }, kinds := [], alts := [], laidByText := true, laidKinds := [.data], laidTests := true, laidLooks := .later }
def OffsNilUptoCardSaid : Prop := Claim7.holds Tryd.pinned (.plain (OpenSpec.upto offsNilSpec)) offsNilUptoCard
end Rows
end Go.Proofs.YtjjedmjcnppdkaaDoor
