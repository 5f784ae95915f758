/- The document's answer for layer 2: New. -/
import Derived.Test.YthacgiajnafpgaaGreatDoorQR2b
import Derived.Deep.RegionHeld3
namespace Go.Proofs.YthacgiajnafpgaaGreatDoor
set_option linter.unusedVariables false
open Go.RowKit Go.Gl

end Go.Proofs.YthacgiajnafpgaaGreatDoor
