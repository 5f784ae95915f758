/- The document's answer for layer 2: what each of its calls comes to. -/
import Derived.Test.YthacgiajnafpgaaGreatDoorQG
import Derived.Deep.RegionHeld3
namespace Go.Proofs.YthacgiajnafpgaaGreatDoor
set_option linter.unusedVariables false
open Go.RowKit Go.Gl

end Go.Proofs.YthacgiajnafpgaaGreatDoor
