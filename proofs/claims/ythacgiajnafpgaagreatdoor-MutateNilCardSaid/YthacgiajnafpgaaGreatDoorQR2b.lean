/- The document's answer for layer 2: May. -/
import Derived.Test.YthacgiajnafpgaaGreatDoorQR2
namespace Go.Proofs.YthacgiajnafpgaaGreatDoor
set_option linter.unusedVariables false
open Go.RowKit Go.Gl

end Go.Proofs.YthacgiajnafpgaaGreatDoor
