/- The statements of layer 8: the questions that each of them asks first. -/
import Derived.Test.YtndfeniiiioigaaBu
namespace Go.Proofs.Ytndfeniiiioigaa
set_option linter.unusedVariables false
open Go.RowKit Go.Gl

theorem awake8_any (w : World) : Calls Try.prog 6 #[] w fun e w' => e = .returned (.bool true) ∧ Fr [] w w' := by
  go_enter Try.func6, Try.ntmps6
  go_wp2_with fail
  refine (bnew_any 64 74 _).mono ?_
  rintro e w1 ⟨rfl, hf⟩
  have HF1 := hide hf
  have HB : Hid (Bu (w1.alloc (.cells #[.int .i64 64, .int .i64 74] 25)) w1.heap.size 25 64 74) := Bu.made _ _ (by decide) (by decide) (by decide)
  have HL : Hid (w.heap.size ≤ w1.heap.size) := hf.size
  clear hf
  unfold nuV
  rw [show nuX 64 74 = 64 from by decide, show nuY 64 74 = 74 from by decide, show nuE 64 74 = 0 from by decide]
  have T1 := hide (btake_any HB.out 4)
  go_wp2_with fail
  refine T1.out.mono ?_
  rintro e w2 ⟨rfl, hb, hf⟩
  unfold tkV
  rw [show tkX 64 74 4 = 68 from by decide] at hb
  rw [show tkA 64 74 4 = 64 from by decide, show tkE 64 74 4 = 0 from by decide]
  have HB2 := hide hb
  have HF2 : Hid (Fr [] w w2) := ((HF1.out.alloc _).trans hf (fun x hx => by have := HL.out; simp at hx; omega))
  clear hb hf
  have T2 := hide (btake_any HB2.out 6)
  go_wp2_with fail
  refine T2.out.mono ?_
  rintro e w3 ⟨rfl, hb, hf⟩
  unfold tkV
  rw [show tkX 68 74 6 = 74 from by decide] at hb
  rw [show tkA 68 74 6 = 68 from by decide, show tkE 68 74 6 = 0 from by decide]
  have HB3 := hide hb
  have HF3 : Hid (Fr [] w w3) := (HF2.out.trans hf (fun x hx => by have := HL.out; simp at hx; omega))
  clear hb hf
  have T3 := hide (btake_any HB3.out 1)
  go_wp2_with fail
  refine T3.out.mono ?_
  rintro e w4 ⟨rfl, hb, hf⟩
  unfold tkV
  rw [show tkA 74 74 1 = 0 from by decide, show tkE 74 74 1 = 6 from by decide]
  have HF4 : Hid (Fr [] w w4) := (HF3.out.trans hf (fun x hx => by have := HL.out; simp at hx; omega))
  clear hb hf
  go_wp2_with fail
  go_ret
  exact ⟨rfl, HF4.out⟩
end Go.Proofs.Ytndfeniiiioigaa
