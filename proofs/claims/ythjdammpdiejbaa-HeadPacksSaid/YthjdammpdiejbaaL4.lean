/- The statements of layer 4: the questions that each of them asks first. -/
import Derived.Test.YthjdammpdiejbaaR4
import Derived.Test.YthjdammpdiejbaaCard0
namespace Go.Proofs.Ythjdammpdiejbaa
set_option linter.unusedVariables false
open Go.RowKit Go.Gl Go.ChangeShapes Go.WideShapes Go.ChangeAt Go.Deep

theorem awake_any (w : World) : Calls Try.prog 5 #[] w fun e w' => e = .returned (.bool true) ∧ Fr [] w w' := by
  have r1 : (⟨1, 3, 2, 1, 0⟩ : Hd).Right := ⟨by simp⟩
  have r2 : (⟨2, 1, 0, 0, 0⟩ : Hd).Right := ⟨by simp⟩
  have HP : Hid (∀ w, Calls Try.prog 6 #[.agg #[.int .i64 1, .int .i64 3, .int .i64 2, .int .i64 1, .int .i64 0]] w fun e w' => e = .returned (.tuple #[.int .u64 17592202821645, .int .i64 0]) ∧ Fr [] w w') := fun w => by
    have := hpack_any ⟨1, 3, 2, 1, 0⟩ w
    unfold Hd.ans Hd.err at this
    rw [if_pos (Hd.rightB_iff.2 r1), if_pos (Hd.rightB_iff.2 r1)] at this
    exact this
  have HU : Hid (∀ w, Calls Try.prog 8 #[.int .u64 6] w fun e w' => e = .returned (.tuple #[.agg #[.int .i64 2, .int .i64 1, .int .i64 0, .int .i64 0, .int .i64 0], .int .i64 0]) ∧ Fr [] w w') := fun w => by
    have := hunpack_any 6 (by decide) w
    have h6 : (⟨2, 1, 0, 0, 0⟩ : Hd).word = ((6 : Nat) : Int) := by decide
    have h7 := r2.of
    rw [h6] at h7
    rw [h7.1, h7.2] at this
    exact this
  clear r1 r2
  go_enter Try.func5, Try.ntmps5
  go_wp2_with fail
  refine (HP.out _).mono ?_
  rintro e w1 ⟨rfl, hf1⟩
  have HF1 := hide hf1
  clear hf1
  go_wp2_with fail
  refine (HU.out _).mono ?_
  rintro e w2 ⟨rfl, hf2⟩
  have HF2 := hide hf2
  clear hf2
  go_wp2_with fail
  go_ret
  exact ⟨rfl, ((HF1.out.trans_same HF2.out).alloc _)⟩
theorem head_fields : ∃ fs : Array Field, Try.prog.underlying 24 = some (.struct fs) ∧ oneCellFields Try.prog fs = true ∧ Try.prog.cellsOf 24 = fs.size ∧ fs.size = 5 ∧ ∀ f ∈ fs.toList, Try.prog.underlying f.type = some (.int .i64) :=
  ⟨_, Try.underlying24, by kernel_rfl, by kernel_rfl, by kernel_rfl, by
    intro f hf
    simp at hf
    rcases hf with rfl | rfl | rfl | rfl | rfl
    · exact Try.underlying22
    all_goals exact Try.underlying3⟩
end Go.Proofs.Ythjdammpdiejbaa
