/- The document's answer for layer 2: what each of its calls comes to. -/
import Derived.Test.YtnpgkingfppnhaaDoorGn
import Derived.Deep.RegionHeld3
namespace Go.Proofs.YtnpgkingfppnhaaDoor
set_option linter.unusedVariables false
open Go.RowKit Go.Gl

theorem r2in_any (n lo hi : Int) (w : World) : Calls Tryd.prog 28 #[.int .i64 n, .int .i64 lo, .int .i64 hi] w fun e w' => e = .returned (.bool (wiB n lo hi)) ∧ w = w' := by
  go_enter Tryd.func28, Tryd.ntmps28
  go_wp2
  all_goals
    go_ret
    exact ⟨ret_bool (by unfold wiB; first | (simp [*]; done) | (simp; omega)), rfl⟩
theorem r2power_any (n : Int) (hn : n ≤ 62) (w : World) : Calls Tryd.prog 26 #[.int .i64 n] w fun e w' => e = .returned (.int .i64 (pw n)) ∧ w = w' := by
  go_enter Tryd.func26, Tryd.ntmps26
  go_wp2
  go_loop [3, 4] (fun p i => ∃ k : Nat, (k : Int) ≤ max n 0 ∧ i = .int .i64 k ∧ p = .int .i64 (pw k)) (fun _ i => (n - intOf i).toNat)
  case atStart => exact ⟨0, by omega, rfl, rfl⟩
  case round =>
    obtain ⟨k, hk, rfl, rfl⟩ := hrel
    by_cases hlt : (k : Int) < n
    · have HB := hide (pw_bound (n := k + 1) (m := 62) (by omega) (by omega))
      have HS := hide (pw_succ (a := (k : Int)) (by omega))
      have HP := hide (pw_pos k)
      go_wp2
      go_round
      case rel => exact ⟨k + 1, by omega, by go_num, by
        rw [show ((k + 1 : Nat) : Int) = (k : Int) + 1 from rfl, HS.out]
        have := HB.out; rw [HS.out] at this
        have := HP.out
        congr 1
        exact IntWalk.wrap64_in _ ⟨by omega, by omega⟩⟩
      case measure => simp [intOf]; omega
    · go_wp2
      go_ret
      refine ⟨ret_int ?_, rfl⟩
      unfold pw
      congr 2
      omega
theorem r2region_any (g : Geo) {s k : Nat} (ok : g.Ok s k) (a : Int) (w : World) :
    Calls Tryd.prog 14 #[g.val, .int .i64 a] w fun e w' => e = .returned (.int .i64 (g.regionOf a)) ∧ Fr [] w w' := by
  have hw0 := ok.words0
  have hw1 := ok.wmax
  have hp0 : 0 < g.rw := by rw [ok.rw]; exact pw_pos _
  have hp1 : g.rw ≤ 4194304 := ok.rw_max
  by_cases h : 0 ≤ a ∧ a < g.words
  · have HV : Hid (a / g.rw = g.regionOf a) := by unfold Geo.regionOf; rw [if_pos h]; exact rfl
    have hb : wiB a 0 (g.words - 1) = true := wiB_iff.2 (by omega)
    obtain ⟨h0, h1⟩ := h
    clear ok
    unfold Geo.val
    go_enter Tryd.func14, Tryd.ntmps14
    go_wp2_with (go_at_call 28; refine (r2in_any _ _ _ _).mono ?_; rintro e w' ⟨rfl, rfl⟩)
    go_ret
    exact ⟨ret_int HV.out, (Fr.refl _ _).alloc _⟩
  · have HV : Hid (-1 = g.regionOf a) := by unfold Geo.regionOf; rw [if_neg h]; exact rfl
    have hb : wiB a 0 (g.words - 1) = false := wiB_no.2 (by omega)
    clear ok h
    unfold Geo.val
    go_enter Tryd.func14, Tryd.ntmps14
    go_wp2_with (go_at_call 28; refine (r2in_any _ _ _ _).mono ?_; rintro e w' ⟨rfl, rfl⟩)
    go_ret
    exact ⟨ret_int HV.out, (Fr.refl _ _).alloc _⟩
theorem r2card_any (g : Geo) {s k : Nat} (ok : g.Ok s k) (a : Int) (w : World) :
    Calls Tryd.prog 16 #[g.val, .int .i64 a] w fun e w' => e = .returned (.int .i64 (g.cardOf a)) ∧ Fr [] w w' := by
  have hw0 := ok.words0
  have hw1 := ok.wmax
  have hp0 : 0 < g.cw := by rw [ok.cw]; exact pw_pos _
  have hp1 : g.cw ≤ 4194304 := ok.cw_max
  by_cases h : 0 ≤ a ∧ a < g.words
  · have HV : Hid (a / g.cw = g.cardOf a) := by unfold Geo.cardOf; rw [if_pos h]; exact rfl
    have hb : wiB a 0 (g.words - 1) = true := wiB_iff.2 (by omega)
    obtain ⟨h0, h1⟩ := h
    clear ok
    unfold Geo.val
    go_enter Tryd.func16, Tryd.ntmps16
    go_wp2_with (go_at_call 28; refine (r2in_any _ _ _ _).mono ?_; rintro e w' ⟨rfl, rfl⟩)
    go_ret
    exact ⟨ret_int HV.out, (Fr.refl _ _).alloc _⟩
  · have HV : Hid (-1 = g.cardOf a) := by unfold Geo.cardOf; rw [if_neg h]; exact rfl
    have hb : wiB a 0 (g.words - 1) = false := wiB_no.2 (by omega)
    clear ok h
    unfold Geo.val
    go_enter Tryd.func16, Tryd.ntmps16
    go_wp2_with (go_at_call 28; refine (r2in_any _ _ _ _).mono ?_; rintro e w' ⟨rfl, rfl⟩)
    go_ret
    exact ⟨ret_int HV.out, (Fr.refl _ _).alloc _⟩
theorem r2base_any (g : Geo) {s k : Nat} (ok : g.Ok s k) (a : Int) (w : World) :
    Calls Tryd.prog 10 #[g.val, .int .i64 a] w fun e w' => e = .returned (.tuple #[.int .i64 (if 0 ≤ a ∧ a < g.regions then a * g.rw else 0), .int .i64 (if 0 ≤ a ∧ a < g.regions then 0 else 2)]) ∧ Fr [] w w' := by
  have hw0 : 0 ≤ g.regions := ok.regions0
  have hw1 : g.regions ≤ 4194304 := ok.regions_max
  by_cases h : 0 ≤ a ∧ a < g.regions
  · have hm := ok.base_max h.1 h.2
    rw [if_pos h, if_pos h]
    have hb : wiB a 0 (g.regions - 1) = true := wiB_iff.2 (by omega)
    obtain ⟨h0, h1⟩ := h
    have HM := hide hm
    clear hm ok
    unfold Geo.val
    go_enter Tryd.func10, Tryd.ntmps10
    go_wp2_with (go_at_call 28; refine (r2in_any _ _ _ _).mono ?_; rintro e w' ⟨rfl, rfl⟩)
    go_ret2
    exact ⟨ret_ii (by first | rfl | exact IntWalk.wrap64_in _ ⟨by have := HM.out; omega, by have := HM.out; omega⟩) rfl, (Fr.refl _ _).alloc _⟩
  · rw [if_neg h, if_neg h]
    have hb : wiB a 0 (g.regions - 1) = false := wiB_no.2 (by omega)
    clear ok h
    unfold Geo.val
    go_enter Tryd.func10, Tryd.ntmps10
    go_wp2_with (go_at_call 28; refine (r2in_any _ _ _ _).mono ?_; rintro e w' ⟨rfl, rfl⟩)
    go_ret2
    exact ⟨ret_ii rfl rfl, (Fr.refl _ _).alloc _⟩
theorem r2first_any (g : Geo) {s k : Nat} (ok : g.Ok s k) (a : Int) (w : World) :
    Calls Tryd.prog 12 #[g.val, .int .i64 a] w fun e w' => e = .returned (.tuple #[.int .i64 (if 0 ≤ a ∧ a < g.cards then a * g.cw else 0), .int .i64 (if 0 ≤ a ∧ a < g.cards then 0 else 2)]) ∧ Fr [] w w' := by
  have hw0 : 0 ≤ g.cards := ok.cards0
  have hw1 : g.cards ≤ 4194304 := ok.cards_max
  by_cases h : 0 ≤ a ∧ a < g.cards
  · have hm := ok.first_max h.1 h.2
    rw [if_pos h, if_pos h]
    have hb : wiB a 0 (g.cards - 1) = true := wiB_iff.2 (by omega)
    obtain ⟨h0, h1⟩ := h
    have HM := hide hm
    clear hm ok
    unfold Geo.val
    go_enter Tryd.func12, Tryd.ntmps12
    go_wp2_with (go_at_call 28; refine (r2in_any _ _ _ _).mono ?_; rintro e w' ⟨rfl, rfl⟩)
    go_ret2
    exact ⟨ret_ii (by first | rfl | exact IntWalk.wrap64_in _ ⟨by have := HM.out; omega, by have := HM.out; omega⟩) rfl, (Fr.refl _ _).alloc _⟩
  · rw [if_neg h, if_neg h]
    have hb : wiB a 0 (g.cards - 1) = false := wiB_no.2 (by omega)
    clear ok h
    unfold Geo.val
    go_enter Tryd.func12, Tryd.ntmps12
    go_wp2_with (go_at_call 28; refine (r2in_any _ _ _ _).mono ?_; rintro e w' ⟨rfl, rfl⟩)
    go_ret2
    exact ⟨ret_ii rfl rfl, (Fr.refl _ _).alloc _⟩
theorem r2big_any (g : Geo) (n : Int) (w : World) (h0 : 0 ≤ g.rw) (h1 : g.rw ≤ 4194304) : Calls Tryd.prog 20 #[g.val, .int .i64 n] w fun e w' => e = .returned (.bool (g.bigB n)) ∧ Fr [] w w' := by
  unfold Geo.val Geo.bigB
  go_enter Tryd.func20, Tryd.ntmps20
  go_wp2
  go_ret
  exact ⟨rfl, (Fr.refl _ _).alloc _⟩
theorem r2span_any (g : Geo) {s k : Nat} (ok : g.Ok s k) (n : Int) (hn : n ≤ 9223372036854775807) (w : World) :
    Calls Tryd.prog 22 #[g.val, .int .i64 n] w fun e w' => e = .returned (.int .i64 (g.spanOf n)) ∧ Fr [] w w' := by
  have hp0 : 0 < g.rw := by rw [ok.rw]; exact pw_pos _
  by_cases h : n < 1
  · have HV : Hid (0 = g.spanOf n) := by unfold Geo.spanOf; rw [if_pos h]; exact rfl
    clear ok
    unfold Geo.val
    go_enter Tryd.func22, Tryd.ntmps22
    go_wp2_with fail
    go_ret
    exact ⟨ret_int HV.out, (Fr.refl _ _).alloc _⟩
  · have HV : Hid ((n - 1) / g.rw + 1 = g.spanOf n) := by unfold Geo.spanOf; rw [if_neg h]; exact rfl
    have hq : 0 ≤ (n - 1) / g.rw ∧ (n - 1) / g.rw ≤ n - 1 := ⟨Int.ediv_nonneg (by omega) (by omega), Int.ediv_le_self _ (by omega)⟩
    clear ok
    unfold Geo.val
    go_enter Tryd.func22, Tryd.ntmps22
    go_wp2_with fail
    go_ret
    exact ⟨ret_int HV.out, (Fr.refl _ _).alloc _⟩
end Go.Proofs.YtnpgkingfppnhaaDoor
