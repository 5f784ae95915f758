/- The package parse: bounds, inRow, At. -/
import Derived.Test.YtjnnegbcijmclaaA2
import Derived.Test.YtjnnegbcijmclaaH2
import Derived.Test.YtjnnegbcijmclaaPn
import Derived.Test.YtjnnegbcijmclaaNm
namespace Go.Proofs.Ytjnnegbcijmclaa
set_option linter.unusedVariables false
open Go.RowKit Go.Gl

theorem pbounds_nil (a b : Int) (w : World) : Calls Try.prog 24 #[.pointer none, .int .i64 a, .int .i64 b] w fun e w' => e = .returned (.int .i64 1) ∧ w = w' := by
  go_enter Try.func24, Try.ntmps24
  go_wp2
  go_ret
  exact ⟨rfl, rfl⟩
theorem pbounds_any {w : World} {ab aw n : Nat} {f : Nat → Nat} {c : Int} (h : Ar w ab aw n f c) (a b : Int) :
    Calls Try.prog 24 #[.pointer (some ⟨ab, 0, none⟩), .int .i64 a, .int .i64 b] w fun e w' => e = .returned (.int .i64 (bndE n a b)) ∧ w = w' := by
  have HL := hide (alen_any h)
  have HW := hide (bnd_ways n a b)
  clear h
  rcases HW.out with ⟨A, B, rfl, rfl, h1, h2, he⟩ | ⟨h1, he⟩ | ⟨h1, h2, he⟩ | ⟨h1, h2, h3, he⟩
  · rw [he]
    clear he
    have c1 : ¬ ((B : Int) < (A : Int)) := by omega
    have c2 : ¬ ((n : Int) < (B : Int)) := by omega
    go_enter Try.func24, Try.ntmps24
    go_wp2_with (go_at_call 32; refine HL.out.mono ?_; rintro e w' ⟨rfl, rfl⟩)
    go_ret
    exact ⟨rfl, rfl⟩
  all_goals
    rw [he]
    clear he
    go_enter Try.func24, Try.ntmps24
    go_wp2_with (go_at_call 32; refine HL.out.mono ?_; rintro e w' ⟨rfl, rfl⟩)
    go_ret
    exact ⟨rfl, rfl⟩
def inRowB (k : Int) : Bool := decide (k = 1) || decide (k = 2)
theorem pinRow_any (h : Hd) (w : World) : Calls Try.prog 31 #[h.val] w fun e w' => e = .returned (.bool (inRowB h.kind)) ∧ Fr [] w w' := by
  obtain ⟨k, s, p, a, t⟩ := h
  unfold Hd.val
  by_cases h1 : k = 1
  · subst h1
    go_enter Try.func31, Try.ntmps31
    go_wp2
    go_ret
    exact ⟨rfl, (Fr.refl _ _).alloc _⟩
  · by_cases h2 : k = 2
    · subst h2
      go_enter Try.func31, Try.ntmps31
      go_wp2
      go_ret
      exact ⟨rfl, (Fr.refl _ _).alloc _⟩
    · have HE : Hid (false = inRowB k) := by show _ = _; unfold inRowB; simp [h1, h2]
      go_enter Try.func31, Try.ntmps31
      go_wp2
      go_ret
      exact ⟨ret_bool (by rw [← HE.out]; simp; omega), (Fr.refl _ _).alloc _⟩

end Go.Proofs.Ytjnnegbcijmclaa
