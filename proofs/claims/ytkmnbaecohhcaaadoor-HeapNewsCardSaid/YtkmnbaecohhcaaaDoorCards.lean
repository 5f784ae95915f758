/-
  DERIVED. GIVEN WITH THE SEED: THE CARDS: each row of YtkmnbaecohhcaaaDoorRows.lean that lists a variable, with what it lists TIED to the program's text (the seventh form; the later family's looks); each row that meets fmt, with fmt's text TOLD by the authors' own Lean function (tested against real Go, not proved from fmt's source: count such statements apart). THE CARD IS WHAT COUNTS. Prove the row's statement (the work); the ties are given (YtkmnbaecohhcaaaDoorTie.lean); close each card by the builder's one call (the guide's Derived/Test/ToyasCard.lean, 'card_holds'). Laid BY PROGRAM, IN A SANDBOX (cutbox-door.mjs). By AI agents, Wed Nov 11 2026. No macro, syntax, notation, axiom, sorry.
-/
import Derived.Test.YtkmnbaecohhcaaaDoorRows
import GoSem.ClaimSeven
namespace Go.Proofs.YtkmnbaecohhcaaaDoor
namespace Rows

/-- THE TIED CARD OF 'gleanerlaw14.HeapNews'. -/
def heapNewsCard : Claim7 := { stood := { row := heapNewsRow, standIns := [], harness := (true, "8131447ee5febc220a8a7aaa3c5ee4b8642ccd718c559a93812669c2f52c9d94"), looks := false }, kinds := [], alts := [], laidByText := true, laidKinds := [.data], laidTests := true, laidLooks := .later }
def HeapNewsCardSaid : Prop := Claim7.holds Tryd.pinned (.plain (OpenSpec.ofChange heapNewsSpec)) heapNewsCard

/-- THE SECOND FORM's CARD OF 'gleanerlaw14.HeapNews'. -/
def heapNewsUptoCard : Claim7 := { stood := { row := heapNewsUptoRow, standIns := [], harness := (true, "8131447ee5febc220a8a7aaa3c5ee4b8642ccd718c559a93812669c2f52c9d94"), looks := false }, kinds := [], alts := [], laidByText := true, laidKinds := [.data], laidTests := true, laidLooks := .later }
def HeapNewsUptoCardSaid : Prop := Claim7.holds Tryd.pinned (.plain (OpenSpec.upto heapNewsSpec)) heapNewsUptoCard
end Rows
end Go.Proofs.YtkmnbaecohhcaaaDoor
