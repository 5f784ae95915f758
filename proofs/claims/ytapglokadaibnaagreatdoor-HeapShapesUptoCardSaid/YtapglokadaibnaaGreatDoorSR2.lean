/- The document's answer for layer 2: what each of its calls comes to. -/
import Derived.Test.YtapglokadaibnaaGreatDoorSG
import Derived.Deep.RegionHeld3
namespace Go.Proofs.YtapglokadaibnaaGreatDoor
set_option linter.unusedVariables false
open Go.RowKit Go.Gl

theorem r2in_any (n lo hi : Int) (w : World) : Calls Tryz.prog 186 #[.int .i64 n, .int .i64 lo, .int .i64 hi] w fun e w' => e = .returned (.bool (wiB n lo hi)) ∧ w = w' := by
  go_enter Tryz.func186, Tryz.ntmps186
  go_wp2
  all_goals
    go_ret
    exact ⟨ret_bool (by unfold wiB; first | (simp [*]; done) | (simp; omega)), rfl⟩
theorem r2power_any (n : Int) (hn : n ≤ 62) (w : World) : Calls Tryz.prog 135 #[.int .i64 n] w fun e w' => e = .returned (.int .i64 (pw n)) ∧ w = w' := by
  go_enter Tryz.func135, Tryz.ntmps135
  go_wp2
  go_loop [3, 4] (fun p i => ∃ k : Nat, (k : Int) ≤ max n 0 ∧ i = .int .i64 k ∧ p = .int .i64 (pw k)) (fun _ i => (n - intOf i).toNat)
  case atStart => exact ⟨0, by omega, rfl, rfl⟩
  case round =>
    obtain ⟨k, hk, rfl, rfl⟩ := hrel
    by_cases hlt : (k : Int) < n
    · have HB := hide (pw_bound (n := k + 1) (m := 62) (by omega) (by omega))
      have HS := hide (pw_succ (a := (k : Int)) (by omega))
      have HP := hide (pw_pos k)
      go_wp2
      go_round
      case rel => exact ⟨k + 1, by omega, by go_num, by
        rw [show ((k + 1 : Nat) : Int) = (k : Int) + 1 from rfl, HS.out]
        have := HB.out; rw [HS.out] at this
        have := HP.out
        congr 1
        exact IntWalk.wrap64_in _ ⟨by omega, by omega⟩⟩
      case measure => simp [intOf]; omega
    · go_wp2
      go_ret
      refine ⟨ret_int ?_, rfl⟩
      unfold pw
      congr 2
      omega
theorem r2big_any (g : Geo) (n : Int) (w : World) (h0 : 0 ≤ g.rw) (h1 : g.rw ≤ 4194304) : Calls Tryz.prog 63 #[g.val, .int .i64 n] w fun e w' => e = .returned (.bool (g.bigB n)) ∧ Fr [] w w' := by
  unfold Geo.val Geo.bigB
  go_enter Tryz.func63, Tryz.ntmps63
  go_wp2
  go_ret
  exact ⟨rfl, (Fr.refl _ _).alloc _⟩
end Go.Proofs.YtapglokadaibnaaGreatDoor
