/- MutateNotes: the walk. -/
import Derived.Test.YtimlkjppaalfaaaGreatDoorPW48
import Derived.StillTailTactics
set_option linter.unusedVariables false
set_option linter.unusedSimpArgs false
set_option maxRecDepth 100000
namespace Go.Proofs.YtimlkjppaalfaaaGreatDoor.MutateNotes
open Go.RowKit Go.Gl HS
end Go.Proofs.YtimlkjppaalfaaaGreatDoor.MutateNotes
