/-
  DERIVED. GIVEN WITH THE SEED: THE CARDS: each row of YtnpgkingfppnhaaDoorRows.lean that lists a variable, with what it lists TIED to the program's text (the seventh form; the later family's looks); each row that meets fmt, with fmt's text TOLD by the authors' own Lean function (tested against real Go, not proved from fmt's source: count such statements apart). THE CARD IS WHAT COUNTS. Prove the row's statement (the work); the ties are given (YtnpgkingfppnhaaDoorTie.lean); close each card by the builder's one call (the guide's Derived/Test/ToyasCard.lean, 'card_holds'). Laid BY PROGRAM, IN A SANDBOX (cutbox-door.mjs). By AI agents, Wed Nov 11 2026. No macro, syntax, notation, axiom, sorry.
-/
import Derived.Test.YtnpgkingfppnhaaDoorRows
import GoSem.ClaimSeven
namespace Go.Proofs.YtnpgkingfppnhaaDoor
namespace Rows

/-- THE TIED CARD OF 'gleanerlaw02.GeomAll'. -/
def geomAllCard : Claim7 := { stood := { row := geomAllRow, standIns := [], harness := (true, "45def7dcda7640545554d7ad7ad8539413a82fe7f16a0e580f1e12a44b511cdc"), looks := false }, kinds := [], alts := [], laidByText := true, laidKinds := [.data], laidTests := true, laidLooks := .later }
def GeomAllCardSaid : Prop := Claim7.holds Tryd.pinned (.plain (OpenSpec.ofChange geomAllSpec)) geomAllCard

/-- THE TIED CARD OF 'gleanerlaw02.GeomPlaces'. -/
def geomPlacesCard : Claim7 := { stood := { row := geomPlacesRow, standIns := [], harness := (true, "45def7dcda7640545554d7ad7ad8539413a82fe7f16a0e580f1e12a44b511cdc"), looks := false }, kinds := [], alts := [], laidByText := true, laidKinds := [.data], laidTests := true, laidLooks := .later }
def GeomPlacesCardSaid : Prop := Claim7.holds Tryd.pinned (.plain (OpenSpec.ofChange geomPlacesSpec)) geomPlacesCard

/-- THE TIED CARD OF 'gleanerlaw02.GeomSpans'. -/
def geomSpansCard : Claim7 := { stood := { row := geomSpansRow, standIns := [], harness := (true, "45def7dcda7640545554d7ad7ad8539413a82fe7f16a0e580f1e12a44b511cdc"), looks := false }, kinds := [], alts := [], laidByText := true, laidKinds := [.data], laidTests := true, laidLooks := .later }
def GeomSpansCardSaid : Prop := Claim7.holds Tryd.pinned (.plain (OpenSpec.ofChange geomSpansSpec)) geomSpansCard

/-- THE SECOND FORM's CARD OF 'gleanerlaw02.GeomAll'. -/
def geomAllUptoCard : Claim7 := { stood := { row := geomAllUptoRow, standIns := [], harness := (true, "45def7dcda7640545554d7ad7ad8539413a82fe7f16a0e580f1e12a44b511cdc"), looks := false }, kinds := [], alts := [], laidByText := true, laidKinds := [.data], laidTests := true, laidLooks := .later }
def GeomAllUptoCardSaid : Prop := Claim7.holds Tryd.pinned (.plain (OpenSpec.upto geomAllSpec)) geomAllUptoCard

/-- THE SECOND FORM's CARD OF 'gleanerlaw02.GeomPlaces'. -/
def geomPlacesUptoCard : Claim7 := { stood := { row := geomPlacesUptoRow, standIns := [], harness := (true, "45def7dcda7640545554d7ad7ad8539413a82fe7f16a0e580f1e12a44b511cdc"), looks := false }, kinds := [], alts := [], laidByText := true, laidKinds := [.data], laidTests := true, laidLooks := .later }
def GeomPlacesUptoCardSaid : Prop := Claim7.holds Tryd.pinned (.plain (OpenSpec.upto geomPlacesSpec)) geomPlacesUptoCard

/-- THE SECOND FORM's CARD OF 'gleanerlaw02.GeomSpans'. -/
def geomSpansUptoCard : Claim7 := { stood := { row := geomSpansUptoRow, standIns := [], harness := (true, "45def7dcda7640545554d7ad7ad8539413a82fe7f16a0e580f1e12a44b511cdc"), looks := false }, kinds := [], alts := [], laidByText := true, laidKinds := [.data], laidTests := true, laidLooks := .later }
def GeomSpansUptoCardSaid : Prop := Claim7.holds Tryd.pinned (.plain (OpenSpec.upto geomSpansSpec)) geomSpansUptoCard
end Rows
end Go.Proofs.YtnpgkingfppnhaaDoor
