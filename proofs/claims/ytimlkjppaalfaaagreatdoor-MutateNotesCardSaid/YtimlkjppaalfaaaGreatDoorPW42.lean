/- gleanerlaw15.Over, where no operations are given. -/
import Derived.Test.YtimlkjppaalfaaaGreatDoorPW34
import Derived.Deep.CutRange
import Derived.Deep.RegionHeld3
import Derived.WalkKit
import Derived.BigQuiet
set_option linter.unusedVariables false
set_option linter.unusedSimpArgs false
set_option maxRecDepth 100000
namespace Go.Proofs.YtimlkjppaalfaaaGreatDoor
open Go.RowKit Go.Gl HS
section
variable {W w w':World}{L:HL}{X:HX}{h:HS}{x:HT}{s k:Nat}{E:aG}{D D':Nat->Prop}{Q Q':World->Prop}{F:List Nat}
end
end Go.Proofs.YtimlkjppaalfaaaGreatDoor
