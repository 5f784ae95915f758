/- Package remset: which geometries may be. -/
import Derived.Test.YtkbffmmomoeaiaaDoorSx
import Derived.Test.YtkbffmmomoeaiaaDoorGeo
namespace Go.Proofs.YtkbffmmomoeaiaaDoor
set_option linter.unusedVariables false
set_option linter.unusedSimpArgs false
open Go.RowKit Go.Gl

/-- What a geometry must be. -/
def GeoMay (g : Geo) : Prop := 1 ≤ g.regions ∧ g.regions ≤ 65536 ∧ 1 ≤ g.cw ∧ 1 ≤ g.rw ∧ g.rw ≤ 4194304 / g.regions ∧ g.rw % g.cw = 0 ∧ g.words = g.regions * g.rw ∧ g.cards = g.words / g.cw
def MayPost (g : Geo) (w : World) (e : Ending) (w' : World) : Prop := ∃ b, e = .returned (.bool b) ∧ (b = true ↔ GeoMay g) ∧ Fr [] w w'
set_option maxRecDepth 100000 in
set_option maxHeartbeats 1600000 in
theorem rmayBe_any (g : Geo) (w : World) : Calls Tryd.prog 21 #[g.val] w (MayPost g w) := by
  obtain ⟨words, rw0, cw, regions, cards, max⟩ := g
  unfold MayPost Geo.val
  by_cases h1 : regions ≥ 1
  case neg =>
    have HM : Hid ((false = true) ↔ GeoMay ⟨words, rw0, cw, regions, cards, max⟩) := ⟨fun h => (by cases h), fun h => (by obtain ⟨a1, a2, a3, a4, a5, a6, a7, a8⟩ := h; exact absurd a1 h1)⟩
    have hbd : decide (regions ≥ 1) = false := decide_eq_false h1
    go_enter Tryd.func21, Tryd.ntmps21
    go_wp2_with fail
    go_quiet (fail)
    go_wp2
    go_ret
    exact ⟨_, rfl, HM.out, ((Fr.refl _ _).alloc _).drewN _⟩
  case pos =>
  by_cases h2 : regions ≤ 65536
  case neg =>
    have HM : Hid ((false = true) ↔ GeoMay ⟨words, rw0, cw, regions, cards, max⟩) := ⟨fun h => (by cases h), fun h => (by obtain ⟨a1, a2, a3, a4, a5, a6, a7, a8⟩ := h; exact absurd a2 h2)⟩
    have hbd : decide (regions ≤ 65536) = false := decide_eq_false h2
    go_enter Tryd.func21, Tryd.ntmps21
    go_wp2_with fail
    go_quiet (fail)
    go_wp2
    go_ret
    exact ⟨_, rfl, HM.out, ((Fr.refl _ _).alloc _).drewN _⟩
  case pos =>
  by_cases h3 : cw ≥ 1
  case neg =>
    have HM : Hid ((false = true) ↔ GeoMay ⟨words, rw0, cw, regions, cards, max⟩) := ⟨fun h => (by cases h), fun h => (by obtain ⟨a1, a2, a3, a4, a5, a6, a7, a8⟩ := h; exact absurd a3 h3)⟩
    have hbd : decide (cw ≥ 1) = false := decide_eq_false h3
    go_enter Tryd.func21, Tryd.ntmps21
    go_wp2_with fail
    go_quiet (fail)
    go_wp2
    go_ret
    exact ⟨_, rfl, HM.out, ((Fr.refl _ _).alloc _).drewN _⟩
  case pos =>
  by_cases h4 : rw0 ≥ 1
  case neg =>
    have HM : Hid ((false = true) ↔ GeoMay ⟨words, rw0, cw, regions, cards, max⟩) := ⟨fun h => (by cases h), fun h => (by obtain ⟨a1, a2, a3, a4, a5, a6, a7, a8⟩ := h; exact absurd a4 h4)⟩
    have hbd : decide (rw0 ≥ 1) = false := decide_eq_false h4
    go_enter Tryd.func21, Tryd.ntmps21
    go_wp2_with fail
    go_quiet (fail)
    go_wp2
    go_ret
    exact ⟨_, rfl, HM.out, ((Fr.refl _ _).alloc _).drewN _⟩
  case pos =>
  have hr0 : ¬ (regions = 0) := by omega
  have htd : (4194304 : Int).tdiv regions = 4194304 / regions := Int.tdiv_eq_ediv_of_nonneg (by decide)
  have hD0 : 0 ≤ (4194304 : Int) / regions := Int.ediv_nonneg (by decide) (by omega)
  have hD1 : (4194304 : Int) / regions ≤ 4194304 := Int.ediv_le_self _ (by decide)
  have hwD : IntKind.i64.wrap ((4194304 : Int) / regions) = 4194304 / regions := by rw [IntKind.wrap_i64]; omega
  by_cases h5 : rw0 ≤ 4194304 / regions
  case neg =>
    have HM : Hid ((false = true) ↔ GeoMay ⟨words, rw0, cw, regions, cards, max⟩) := ⟨fun h => (by cases h), fun h => (by obtain ⟨a1, a2, a3, a4, a5, a6, a7, a8⟩ := h; exact absurd a5 h5)⟩
    have hbd : decide (rw0 ≤ 4194304 / regions) = false := decide_eq_false h5
    generalize (4194304 : Int) / regions = D at *
    go_enter Tryd.func21, Tryd.ntmps21
    go_wp2_with fail
    go_quiet (fail)
    go_wp2
    go_ret
    exact ⟨_, rfl, HM.out, ((Fr.refl _ _).alloc _).drewN _⟩
  case pos =>
  have hc0 : ¬ (cw = 0) := by omega
  have htm : rw0.tmod cw = rw0 % cw := Int.tmod_eq_emod_of_nonneg (by omega)
  have hE0 : 0 ≤ rw0 % cw := Int.emod_nonneg _ (by omega)
  have hE1 : rw0 % cw < cw := Int.emod_lt_of_pos _ (by omega)
  have hrw : rw0 ≤ 4194304 := by omega
  have hM : regions * rw0 ≤ 4194304 := Int.le_trans (Int.mul_le_mul_of_nonneg_left h5 (by omega)) (Int.mul_ediv_self_le hr0)
  have hM0 : 0 ≤ regions * rw0 := Int.mul_nonneg (by omega) (by omega)
  obtain ⟨M, hMM⟩ : ∃ M, regions * rw0 = M := ⟨_, rfl⟩
  rw [hMM] at hM hM0
  have hwM : IntKind.i64.wrap M = M := by rw [IntKind.wrap_i64]; omega
  have hE2 : rw0 % cw ≤ rw0 := by
    have h0 := Int.mul_ediv_add_emod rw0 cw
    have h1 : 0 ≤ cw * (rw0 / cw) := Int.mul_nonneg (by omega) (Int.ediv_nonneg (by omega) (by omega))
    omega
  have hwE : IntKind.i64.wrap (rw0 % cw) = rw0 % cw := by rw [IntKind.wrap_i64]; omega
  by_cases h6 : rw0 % cw = 0
  case neg =>
    have HM : Hid ((false = true) ↔ GeoMay ⟨words, rw0, cw, regions, cards, max⟩) := ⟨fun h => (by cases h), fun h => (by obtain ⟨a1, a2, a3, a4, a5, a6, a7, a8⟩ := h; exact absurd a6 h6)⟩
    have hb : (rw0 % cw == 0) = false := by simpa using h6
    generalize (4194304 : Int) / regions = D at *
    generalize rw0 % cw = E at *
    go_enter Tryd.func21, Tryd.ntmps21
    go_wp2_with fail
    go_quiet (fail)
    go_wp2
    go_ret
    exact ⟨_, rfl, HM.out, ((Fr.refl _ _).alloc _).drewN _⟩
  case pos =>
  by_cases h7 : words = M
  case neg =>
    have HM : Hid ((false = true) ↔ GeoMay ⟨words, rw0, cw, regions, cards, max⟩) := ⟨fun h => (by cases h), fun h => (by obtain ⟨a1, a2, a3, a4, a5, a6, a7, a8⟩ := h; exact absurd (a7.trans hMM) h7)⟩
    have hb : (words == M) = false := by simpa using h7
    generalize (4194304 : Int) / regions = D at *
    generalize rw0 % cw = E at *
    go_enter Tryd.func21, Tryd.ntmps21
    go_wp2_with fail
    go_quiet (fail)
    go_wp2
    go_ret
    exact ⟨_, rfl, HM.out, ((Fr.refl _ _).alloc _).drewN _⟩
  case pos =>
  subst h7
  have htw : words.tdiv cw = words / cw := Int.tdiv_eq_ediv_of_nonneg hM0
  have hq0 : 0 ≤ words / cw := Int.ediv_nonneg hM0 (by omega)
  have hq1 : words / cw ≤ 4194304 := Int.le_trans (Int.ediv_le_self _ hM0) hM
  have hwQ : IntKind.i64.wrap (words / cw) = words / cw := by rw [IntKind.wrap_i64]; omega
  by_cases h8 : cards = words / cw
  case neg =>
    have HM : Hid ((false = true) ↔ GeoMay ⟨words, rw0, cw, regions, cards, max⟩) := ⟨fun h => (by cases h), fun h => (by obtain ⟨a1, a2, a3, a4, a5, a6, a7, a8⟩ := h; exact absurd a8 h8)⟩
    have hb : (cards == words / cw) = false := by simpa using h8
    generalize (4194304 : Int) / regions = D at *
    generalize rw0 % cw = E at *
    generalize words / cw = Q at *
    go_enter Tryd.func21, Tryd.ntmps21
    go_wp2_with fail
    go_quiet (fail)
    go_wp2
    go_ret
    exact ⟨_, rfl, HM.out, ((Fr.refl _ _).alloc _).drewN _⟩
  case pos =>
  have HM : Hid (GeoMay ⟨words, rw0, cw, regions, cards, max⟩) := ⟨h1, h2, h3, h4, h5, h6, hMM.symm, h8⟩
  generalize (4194304 : Int) / regions = D at *
  generalize rw0 % cw = E at *
  generalize words / cw = Q at *
  go_enter Tryd.func21, Tryd.ntmps21
  go_wp2_with fail
  go_quiet (fail)
  go_wp2
  go_ret
  exact ⟨_, rfl, ⟨fun _ => HM.out, fun _ => rfl⟩, ((Fr.refl _ _).alloc _).drewN _⟩
end Go.Proofs.YtkbffmmomoeaiaaDoor
