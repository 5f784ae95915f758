/-
  DERIVED. GIVEN WITH THE SEED: THE CARDS: each row of YtkmnbaecohhcaaaGreatDoorRows.lean that lists a variable, with what it lists TIED to the program's text (the seventh form; the later family's looks); each row that meets fmt, with fmt's text TOLD by the authors' own Lean function (tested against real Go, not proved from fmt's source: count such statements apart). THE CARD IS WHAT COUNTS. Prove the row's statement (the work); the ties are given (YtkmnbaecohhcaaaGreatDoorTie.lean); close each card by the builder's one call (the guide's Derived/Test/ToyasCard.lean, 'card_holds'). Laid BY PROGRAM, IN A SANDBOX (cutbox-door.mjs). By AI agents, Wed Nov 11 2026. No macro, syntax, notation, axiom, sorry.
-/
import Derived.Test.YtkmnbaecohhcaaaGreatDoorRows
import GoSem.ClaimSeven
namespace Go.Proofs.YtkmnbaecohhcaaaGreatDoor
namespace Rows

/-- THE TIED CARD OF 'gleanerlaw14.HeapShapes'. -/
def heapShapesCard : Claim7 := { stood := { row := heapShapesRow, standIns := [], harness := (true, "a05da04f87c2851a945ba8f8f968a2dd0aa6711fefe63353752f8e6ec3c445a5"), looks := false }, kinds := [], alts := [], laidByText := true, laidKinds := [.data], laidTests := true, laidLooks := .later }
def HeapShapesCardSaid : Prop := Claim7.holds Tryz.pinned (.plain (OpenSpec.ofChange heapShapesSpec)) heapShapesCard

/-- THE TIED CARD OF 'gleanerlaw14.HeapBroken'. -/
def heapBrokenCard : Claim7 := { stood := { row := heapBrokenRow, standIns := [], harness := (true, "a05da04f87c2851a945ba8f8f968a2dd0aa6711fefe63353752f8e6ec3c445a5"), looks := false }, kinds := [], alts := [], laidByText := true, laidKinds := [.data], laidTests := true, laidLooks := .later }
def HeapBrokenCardSaid : Prop := Claim7.holds Tryz.pinned (.plain (OpenSpec.ofChange heapBrokenSpec)) heapBrokenCard

/-- THE TIED CARD OF 'gleanerlaw14.HeapFrees'. -/
def heapFreesCard : Claim7 := { stood := { row := heapFreesRow, standIns := [], harness := (true, "a05da04f87c2851a945ba8f8f968a2dd0aa6711fefe63353752f8e6ec3c445a5"), looks := false }, kinds := [], alts := [], laidByText := true, laidKinds := [.data], laidTests := true, laidLooks := .later }
def HeapFreesCardSaid : Prop := Claim7.holds Tryz.pinned (.plain (OpenSpec.ofChange heapFreesSpec)) heapFreesCard

/-- THE TIED CARD OF 'gleanerlaw14.HeapNil'. -/
def heapNilCard : Claim7 := { stood := { row := heapNilRow, standIns := [], harness := (true, "a05da04f87c2851a945ba8f8f968a2dd0aa6711fefe63353752f8e6ec3c445a5"), looks := false }, kinds := [], alts := [], laidByText := true, laidKinds := [.data], laidTests := true, laidLooks := .later }
def HeapNilCardSaid : Prop := Claim7.holds Tryz.pinned (.plain (OpenSpec.ofChange heapNilSpec)) heapNilCard

/-- THE SECOND FORM's CARD OF 'gleanerlaw14.HeapShapes'. -/
def heapShapesUptoCard : Claim7 := { stood := { row := heapShapesUptoRow, standIns := [], harness := (true, "a05da04f87c2851a945ba8f8f968a2dd0aa6711fefe63353752f8e6ec3c445a5"), looks := false }, kinds := [], alts := [], laidByText := true, laidKinds := [.data], laidTests := true, laidLooks := .later }
def HeapShapesUptoCardSaid : Prop := Claim7.holds Tryz.pinned (.plain (OpenSpec.upto heapShapesSpec)) heapShapesUptoCard

/-- THE SECOND FORM's CARD OF 'gleanerlaw14.HeapBroken'. -/
def heapBrokenUptoCard : Claim7 := { stood := { row := heapBrokenUptoRow, standIns := [], harness := (true, "a05da04f87c2851a945ba8f8f968a2dd0aa6711fefe63353752f8e6ec3c445a5"), looks := false }, kinds := [], alts := [], laidByText := true, laidKinds := [.data], laidTests := true, laidLooks := .later }
def HeapBrokenUptoCardSaid : Prop := Claim7.holds Tryz.pinned (.plain (OpenSpec.upto heapBrokenSpec)) heapBrokenUptoCard

/-- THE SECOND FORM's CARD OF 'gleanerlaw14.HeapFrees'. -/
def heapFreesUptoCard : Claim7 := { stood := { row := heapFreesUptoRow, standIns := [], harness := (true, "a05da04f87c2851a945ba8f8f968a2dd0aa6711fefe63353752f8e6ec3c445a5"), looks := false }, kinds := [], alts := [], laidByText := true, laidKinds := [.data], laidTests := true, laidLooks := .later }
def HeapFreesUptoCardSaid : Prop := Claim7.holds Tryz.pinned (.plain (OpenSpec.upto heapFreesSpec)) heapFreesUptoCard

/-- THE SECOND FORM's CARD OF 'gleanerlaw14.HeapNil'. -/
def heapNilUptoCard : Claim7 := { stood := { row := heapNilUptoRow, standIns := [], harness := (true, "a05da04f87c2851a945ba8f8f968a2dd0aa6711fefe63353752f8e6ec3c445a5"), looks := false }, kinds := [], alts := [], laidByText := true, laidKinds := [.data], laidTests := true, laidLooks := .later }
def HeapNilUptoCardSaid : Prop := Claim7.holds Tryz.pinned (.plain (OpenSpec.upto heapNilSpec)) heapNilUptoCard
end Rows
end Go.Proofs.YtkmnbaecohhcaaaGreatDoor
