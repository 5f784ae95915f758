/- RefineNil: the walk. -/
import Derived.Test.YteacgfeiedcdiaaGreatDoorPW40
namespace Go.Proofs.YteacgfeiedcdiaaGreatDoor.RefineNil
set_option linter.unusedVariables false
set_option linter.unusedSimpArgs false
set_option maxRecDepth 100000
open Go.RowKit Go.Gl HS
set_option maxHeartbeats 3200000 in
theorem walk(card:Int)(w:World)(hT:Tab w):Calls Tryz.prog 5 #[.int .i64 card] w fun e w'=>e=.returned (.bool true)∧Fr [] w w':=by
 have HAw:=hide (awake16_any w hT)
 clear hT
 go_enter Tryz.func5,Tryz.ntmps5
 go_wp2_with fail
 refine HAw.out.mono ?_
 rintro e w1 ⟨rfl,hf⟩
 have HF:=hide hf
 clear hf
 go_wp2_with (first | (go_at_call 18;refine(rfnew_nil _).mono ?_;rintro e w' ⟨rfl,rfl⟩) | (go_at_call 19;refine(rfbusy_nil _).mono ?_;rintro e w' ⟨rfl,rfl⟩) | (go_at_call 20;refine(rfsteps_nil _).mono ?_;rintro e w' ⟨rfl,rfl⟩) | (go_at_call 21;refine(rfstop_nil _).mono ?_;rintro e w' ⟨rfl,rfl⟩) | (go_at_call 25;refine(rfdrain_nil _ _ _ _).mono ?_;rintro e w' ⟨rfl,rfl⟩) | (go_at_call 9;refine(rfcard_nil _ _).mono ?_;rintro e w' ⟨rfl,rfl⟩))
 go_ret
 exact⟨rfl,HF.out.alloc _⟩
end Go.Proofs.YteacgfeiedcdiaaGreatDoor.RefineNil
