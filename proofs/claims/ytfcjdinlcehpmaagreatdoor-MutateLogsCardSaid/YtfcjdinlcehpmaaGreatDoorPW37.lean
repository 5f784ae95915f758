/- Several texts joined (pack.py): Ut. -/
import Derived.Test.YtfcjdinlcehpmaaGreatDoorPW29
import Derived.Deep.CutRange
import Derived.Deep.RegionHeld3
import Derived.WalkKit
import Derived.BigQuiet
namespace Go.Proofs.YtfcjdinlcehpmaaGreatDoor
set_option linter.unusedVariables false
set_option linter.unusedSimpArgs false
set_option maxRecDepth 100000
open Go.RowKit Go.Gl HS
section
variable {W w w':World}{L:HL}{X:HX}{h:HS}{x:HT}{s k:Nat}{E:Blks}{D D':Nat→Prop}{Q Q':World→Prop}{F:List Nat}
end
end Go.Proofs.YtfcjdinlcehpmaaGreatDoor
