/- The document's answer for layer 2: Cross. -/
import Derived.Test.YtbaccleaakmenaaDoorR2
namespace Go.Proofs.YtbaccleaakmenaaDoor
set_option linter.unusedVariables false
open Go.RowKit Go.Gl

set_option maxHeartbeats 1600000 in
theorem r2cross_any (g : Geo) {s k : Nat} (ok : g.Ok s k) (a b : Int) (w : World) :
    Calls Tryd.prog 30 #[g.val, .int .i64 a, .int .i64 b] w fun e w' => e = .returned (.bool (g.crossB a b)) ∧ Fr [] w w' := by
  have hp0 : 0 < g.rw := by rw [ok.rw]; exact pw_pos _
  have ha := fun w => r2region_any g ok a w
  have hb := fun w => r2region_any g ok b w
  have hxx := g.regionOf_way (a := a) (by omega)
  have hyy := g.regionOf_way (a := b) (by omega)
  have HV : Hid ((decide (0 ≤ g.regionOf a) && (decide (0 ≤ g.regionOf b) && decide (g.regionOf a ≠ g.regionOf b))) = g.crossB a b) := g.cross_regions (by omega)
  clear ok
  generalize g.regionOf a = x at *
  generalize g.regionOf b = y at *
  unfold Geo.val at ha hb
  have HA := hide ha
  have HB := hide hb
  clear ha hb
  have hways : (decide (0 ≤ x) = false ∧ Hid (g.crossB a b = false)) ∨ (decide (0 ≤ x) = true ∧ decide (0 ≤ y) = false ∧ Hid (g.crossB a b = false)) ∨ (decide (0 ≤ x) = true ∧ decide (0 ≤ y) = true ∧ (x != y) = false ∧ Hid (g.crossB a b = false)) ∨ (decide (0 ≤ x) = true ∧ decide (0 ≤ y) = true ∧ (x != y) = true ∧ Hid (g.crossB a b = true)) := by
    unfold Hid
    rw [← HV.out, show decide (x ≠ y) = (x != y) by rw [Bool.eq_iff_iff]; simp]
    cases decide (0 ≤ x) <;> cases decide (0 ≤ y) <;> cases (x != y) <;> simp
  clear hxx hyy HV
  rcases hways with ⟨h1, HV⟩ | ⟨h1, h2, HV⟩ | ⟨h1, h2, h3, HV⟩ | ⟨h1, h2, h3, HV⟩
  all_goals
    unfold Geo.val
    go_enter Tryd.func30, Tryd.ntmps30
    go_wp2_with fail
    generalize hw1 : w.alloc _ = w1
    have hb : GeoAt w1 w.heap.size g := hw1 ▸ GeoAt.of (Blk.new w 33 g.cells)
    have F0 : Hid (Fr [] w w1) := hw1 ▸ (Fr.refl _ _).alloc _
    have c0 : ∀ u : Cls (Fr [] w1), u.w.cell? ⟨w.heap.size, 0, none⟩ = some (.int .i64 g.words) := fun u => u.cell hb.c0 (by simp)
    have c1 : ∀ u : Cls (Fr [] w1), u.w.cell? ⟨w.heap.size, 1, none⟩ = some (.int .i64 g.rw) := fun u => u.cell hb.c1 (by simp)
    have c2 : ∀ u : Cls (Fr [] w1), u.w.cell? ⟨w.heap.size, 2, none⟩ = some (.int .i64 g.cw) := fun u => u.cell hb.c2 (by simp)
    have c3 : ∀ u : Cls (Fr [] w1), u.w.cell? ⟨w.heap.size, 3, none⟩ = some (.int .i64 g.regions) := fun u => u.cell hb.c3 (by simp)
    have c4 : ∀ u : Cls (Fr [] w1), u.w.cell? ⟨w.heap.size, 4, none⟩ = some (.int .i64 g.cards) := fun u => u.cell hb.c4 (by simp)
    have c5 : ∀ u : Cls (Fr [] w1), u.w.cell? ⟨w.heap.size, 5, none⟩ = some (.int .i64 g.max) := fun u => u.cell hb.c5 (by simp)
    clear hw1 hb
    refine wp_region_cls (Fr [] w1) (by kernel_rfl) (by kernel_rfl) (Fr.refl _ _).drew ?_
    repeat (go_big_quiet_step ((go_at_call 41; first | (with_reducible exact Cls.grow (HA.out _)) | (with_reducible exact Cls.grow (HB.out _)))))
    refine wpQuiet_nil ?_
    rintro _ ⟨u, rfl⟩
    go_wp2_with fail
    go_ret
    exact ⟨ret_bool HV.out.symm, F0.out.trans_same u.ok⟩
end Go.Proofs.YtbaccleaakmenaaDoor
