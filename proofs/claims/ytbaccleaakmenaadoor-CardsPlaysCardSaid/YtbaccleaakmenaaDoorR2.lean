/- The document's answer for layer 2: what each of its calls comes to. -/
import Derived.Test.YtbaccleaakmenaaDoorGn
import Derived.Deep.RegionHeld3
namespace Go.Proofs.YtbaccleaakmenaaDoor
set_option linter.unusedVariables false
open Go.RowKit Go.Gl

theorem r2in_any (n lo hi : Int) (w : World) : Calls Tryd.prog 45 #[.int .i64 n, .int .i64 lo, .int .i64 hi] w fun e w' => e = .returned (.bool (wiB n lo hi)) ∧ w = w' := by
  go_enter Tryd.func45, Tryd.ntmps45
  go_wp2
  all_goals
    go_ret
    exact ⟨ret_bool (by unfold wiB; first | (simp [*]; done) | (simp; omega)), rfl⟩
theorem r2region_any (g : Geo) {s k : Nat} (ok : g.Ok s k) (a : Int) (w : World) :
    Calls Tryd.prog 41 #[g.val, .int .i64 a] w fun e w' => e = .returned (.int .i64 (g.regionOf a)) ∧ Fr [] w w' := by
  have hw0 := ok.words0
  have hw1 := ok.wmax
  have hp0 : 0 < g.rw := by rw [ok.rw]; exact pw_pos _
  have hp1 : g.rw ≤ 4194304 := ok.rw_max
  by_cases h : 0 ≤ a ∧ a < g.words
  · have HV : Hid (a / g.rw = g.regionOf a) := by unfold Geo.regionOf; rw [if_pos h]; exact rfl
    have hb : wiB a 0 (g.words - 1) = true := wiB_iff.2 (by omega)
    obtain ⟨h0, h1⟩ := h
    clear ok
    unfold Geo.val
    go_enter Tryd.func41, Tryd.ntmps41
    go_wp2_with (go_at_call 45; refine (r2in_any _ _ _ _).mono ?_; rintro e w' ⟨rfl, rfl⟩)
    go_ret
    exact ⟨ret_int HV.out, (Fr.refl _ _).alloc _⟩
  · have HV : Hid (-1 = g.regionOf a) := by unfold Geo.regionOf; rw [if_neg h]; exact rfl
    have hb : wiB a 0 (g.words - 1) = false := wiB_no.2 (by omega)
    clear ok h
    unfold Geo.val
    go_enter Tryd.func41, Tryd.ntmps41
    go_wp2_with (go_at_call 45; refine (r2in_any _ _ _ _).mono ?_; rintro e w' ⟨rfl, rfl⟩)
    go_ret
    exact ⟨ret_int HV.out, (Fr.refl _ _).alloc _⟩
end Go.Proofs.YtbaccleaakmenaaDoor
