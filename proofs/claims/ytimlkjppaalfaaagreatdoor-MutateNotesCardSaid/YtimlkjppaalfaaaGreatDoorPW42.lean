/- gleanerlaw15.Over, where no operations are given. -/
import Derived.Test.YtimlkjppaalfaaaGreatDoorPW34
import Derived.Deep.CutRange
import Derived.Deep.RegionHeld3
import Derived.WalkKit
import Derived.BigQuiet
set_option linter.unusedVariables false
set_option linter.unusedSimpArgs false
set_option maxRecDepth 100000
namespace Go.Proofs.YtimlkjppaalfaaaGreatDoor
open Go.RowKit Go.Gl HS
end Go.Proofs.YtimlkjppaalfaaaGreatDoor
