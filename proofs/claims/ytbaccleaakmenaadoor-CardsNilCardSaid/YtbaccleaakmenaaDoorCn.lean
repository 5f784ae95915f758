/- Which stores are to be noted: the package's answer and the document's. -/
import Derived.Test.YtbaccleaakmenaaDoorCd
import Derived.Test.YtbaccleaakmenaaDoorR2c
namespace Go.Proofs.YtbaccleaakmenaaDoor
set_option linter.unusedVariables false
open Go.RowKit Go.Gl

/-- Where a reference leads to, as the package reckons it. -/
def adr (to : Int) : Int := IntKind.i64.wrap (IntKind.u64.wrap (to - 1))
theorem adr_in {to : Int} (h1 : 1 ≤ to) (h2 : to ≤ 9223372036854775808) : adr to = to - 1 := by
  unfold adr
  rw [IntKind.wrap_u64, Int.emod_eq_of_lt (by omega) (by omega)]
  exact IntWalk.i64_in _ ⟨by omega, by omega⟩
theorem adr_out {to : Int} (h0 : 0 ≤ to) (h1 : to ≤ 18446744073709551615) (h : to = 0 ∨ 9223372036854775808 < to) : adr to < 0 := by
  unfold adr
  have : IntKind.u64.wrap (to - 1) = if to = 0 then 18446744073709551615 else to - 1 := by
    rw [IntKind.wrap_u64]
    split
    · subst_vars; rfl
    · exact Int.emod_eq_of_lt (by omega) (by omega)
  rw [this]
  have hw : ∀ x : Int, 9223372036854775808 ≤ x → x ≤ 18446744073709551615 → IntKind.i64.wrap x = x - 18446744073709551616 := by
    intro x hx hy
    rw [IntKind.wrap_i64]
    omega
  split
  · rw [hw _ (by decide) (by decide)]; decide
  · rw [hw _ (by omega) (by omega)]; omega
theorem address_any (to : Int) (w : World) : Calls Tryd.prog 29 #[.int .u64 to] w fun e w' => e = .returned (.int .i64 (adr to)) ∧ w = w' := by
  go_enter Tryd.func29, Tryd.ntmps29
  go_wp2
  go_ret
  exact ⟨ret_int (by unfold adr; rw [IntWalk.i64_left]), rfl⟩
def youngB (s : Int) : Bool := s == 1 || s == 2
/-- Whether a store is noted. -/
def noteB (g : Geo) (s field to : Int) : Bool := !youngB s && g.crossB field (adr to)
theorem cross_no {g : Geo} {a b : Int} (h : b < 0 ∨ g.words ≤ b) : g.crossB a b = false := by
  unfold Geo.crossB
  rcases h with h | h
  · rw [show decide (0 ≤ b) = false by simp; omega]; simp
  · rw [show decide (b < g.words) = false by simp; omega]; simp
theorem note_young {g : Geo} {s field to : Int} (h : s = 1 ∨ s = 2) : noteB g s field to = false := by
  unfold noteB youngB
  rcases h with rfl | rfl <;> simp
theorem note_no {g : Geo} {s field to : Int} (hw : g.words ≤ 4194304) (h0 : 0 ≤ to) (h1 : to ≤ 18446744073709551615) (h : to = 0 ∨ 4194304 < to) : noteB g s field to = false := by
  unfold noteB
  rw [cross_no, Bool.and_false]
  rcases h with rfl | h
  · exact .inl (adr_out (by omega) (by omega) (.inl rfl))
  · by_cases h2 : to ≤ 9223372036854775808
    · rw [adr_in (by omega) h2]; exact .inr (by omega)
    · exact .inl (adr_out (by omega) (by omega) (.inr (by omega)))
theorem note_in {g : Geo} {s field to : Int} (h1 : s ≠ 1) (h2 : s ≠ 2) (h3 : 1 ≤ to) (h4 : to ≤ 9223372036854775808) : noteB g s field to = g.crossB field (to - 1) := by
  unfold noteB youngB
  rw [adr_in h3 h4, show (s == 1) = false by simpa using h1, show (s == 2) = false by simpa using h2]
  simp
theorem note_old {g : Geo} {s field to : Int} (h1 : s ≠ 1) (h2 : s ≠ 2) : noteB g s field to = g.crossB field (adr to) := by
  unfold noteB youngB
  rw [show (s == 1) = false by simpa using h1, show (s == 2) = false by simpa using h2]
  simp
set_option maxHeartbeats 1600000 in
theorem note_any (g : Geo) {s k : Nat} (ok : g.Ok s k) (st field to : Int) (w : World) (hT : Tab w) :
    Calls Tryd.prog 17 #[g.val, .int .i64 st, .int .i64 field, .int .u64 to] w fun e w' => e = .returned (.bool (noteB g st field to)) ∧ Fr [] w w' := by
  have HX := hide (fun w' (h : Tab w') => cross_any g ok field (adr to) w' h)
  have HA := hide (address_any to)
  have HT := hide hT
  clear hT ok
  have hways : ((st == 1) = true ∧ Hid (noteB g st field to = false)) ∨ ((st == 1) = false ∧ (st == 2) = true ∧ Hid (noteB g st field to = false)) ∨ ((st == 1) = false ∧ (st == 2) = false ∧ Hid (noteB g st field to = g.crossB field (adr to))) := by
    by_cases h1 : st = 1
    · exact .inl ⟨by simpa using h1, note_young (.inl h1)⟩
    · by_cases h2 : st = 2
      · exact .inr (.inl ⟨by simpa using h1, by simpa using h2, note_young (.inr h2)⟩)
      · exact .inr (.inr ⟨by simpa using h1, by simpa using h2, note_old h1 h2⟩)
  generalize adr to = ad at *
  rcases hways with ⟨h1, HV⟩ | ⟨h1, h2, HV⟩ | ⟨h1, h2, HV⟩
  all_goals
    rw [HV.out]
    clear HV
    generalize g.crossB field ad = cr at *
    have HX' : Hid (∀ w', Tab w' → Calls Tryd.prog 28 #[.agg #[.int .i64 g.words, .int .i64 g.rw, .int .i64 g.cw, .int .i64 g.regions, .int .i64 g.cards, .int .i64 g.max], .int .i64 field, .int .i64 ad] w' fun e w'' => e = .returned (.bool cr) ∧ Fr [] w' w'') := HX
    unfold Geo.val
    go_enter Tryd.func17, Tryd.ntmps17
    go_wp2_with fail
    generalize hw1 : w.alloc _ = w1
    have hb : GeoAt w1 w.heap.size g := hw1 ▸ GeoAt.of (Blk.new w 25 g.cells)
    have F0 : Hid (Fr [] w w1) := hw1 ▸ (Fr.refl _ _).alloc _
    have T0 : Hid (∀ u : Cls (Fr [] w1), Tab u.w) := fun u => (HT.out.fr F0.out (by simp)).fr u.ok (by simp)
    have c0 : ∀ u : Cls (Fr [] w1), u.w.cell? ⟨w.heap.size, 0, none⟩ = some (.int .i64 g.words) := fun u => u.cell hb.c0 (by simp)
    have c1 : ∀ u : Cls (Fr [] w1), u.w.cell? ⟨w.heap.size, 1, none⟩ = some (.int .i64 g.rw) := fun u => u.cell hb.c1 (by simp)
    have c2 : ∀ u : Cls (Fr [] w1), u.w.cell? ⟨w.heap.size, 2, none⟩ = some (.int .i64 g.cw) := fun u => u.cell hb.c2 (by simp)
    have c3 : ∀ u : Cls (Fr [] w1), u.w.cell? ⟨w.heap.size, 3, none⟩ = some (.int .i64 g.regions) := fun u => u.cell hb.c3 (by simp)
    have c4 : ∀ u : Cls (Fr [] w1), u.w.cell? ⟨w.heap.size, 4, none⟩ = some (.int .i64 g.cards) := fun u => u.cell hb.c4 (by simp)
    have c5 : ∀ u : Cls (Fr [] w1), u.w.cell? ⟨w.heap.size, 5, none⟩ = some (.int .i64 g.max) := fun u => u.cell hb.c5 (by simp)
    clear hw1 hb HX
    refine wp_region_cls (Fr [] w1) (by kernel_rfl) (by kernel_rfl) (Fr.refl _ _).drew ?_
    repeat (go_big_quiet_step ((first | (go_at_call 29; exact (HA.out _).mono fun e w'' ⟨he, hw⟩ => ⟨he, _, hw.symm⟩) | (go_at_call 28; exact Cls.grow (HX'.out _ (T0.out _))))))
    refine wpQuiet_nil ?_
    rintro _ ⟨u, rfl⟩
    go_wp2_with fail
    go_ret
    exact ⟨rfl, F0.out.trans_same u.ok⟩
set_option maxHeartbeats 1600000 in
theorem r9note_any (g : Geo) {s k : Nat} (ok : g.Ok s k) (st field to : Int) (t0 : 0 ≤ to) (t1 : to ≤ 18446744073709551615) (w : World) :
    Calls Tryd.prog 18 #[g.val, .int .i64 st, .int .i64 field, .int .u64 to] w fun e w' => e = .returned (.bool (noteB g st field to)) ∧ Fr [] w w' := by
  have hp0 : 0 < g.rw := by rw [ok.rw]; exact pw_pos _
  have hways : ((to == 0) = true ∧ Hid (noteB g st field to = false)) ∨ ((to == 0) = false ∧ 4194304 < to ∧ Hid (noteB g st field to = false)) ∨ ((to == 0) = false ∧ ¬ 4194304 < to ∧ (st == 1) = true ∧ Hid (noteB g st field to = false)) ∨
      ((to == 0) = false ∧ ¬ 4194304 < to ∧ (st == 1) = false ∧ (st == 2) = true ∧ Hid (noteB g st field to = false)) ∨ ((to == 0) = false ∧ ¬ 4194304 < to ∧ (st == 1) = false ∧ (st == 2) = false ∧ Hid (noteB g st field to = g.crossB field (to - 1))) := by
    by_cases z : to = 0
    · exact .inl ⟨by simpa using z, note_no ok.wmax t0 t1 (.inl z)⟩
    · refine .inr ?_
      have z' : (to == 0) = false := by simpa using z
      by_cases f : 4194304 < to
      · exact .inl ⟨z', f, note_no ok.wmax t0 t1 (.inr f)⟩
      · refine .inr ?_
        by_cases h1 : st = 1
        · exact .inl ⟨z', f, by simpa using h1, note_young (.inl h1)⟩
        · refine .inr ?_
          by_cases h2 : st = 2
          · exact .inl ⟨z', f, by simpa using h1, by simpa using h2, note_young (.inr h2)⟩
          · exact .inr ⟨z', f, by simpa using h1, by simpa using h2, note_in h1 h2 (by omega) (by omega)⟩
  have HX := hide (fun w' => r2cross_any g ok field (to - 1) w')
  clear ok
  rcases hways with ⟨h0, HV⟩ | ⟨h0, hf, HV⟩ | ⟨h0, hf, h1, HV⟩ | ⟨h0, hf, h1, h2, HV⟩ | ⟨h0, hf, h1, h2, HV⟩
  all_goals
    rw [HV.out]
    clear HV
    have HX' : Hid (∀ w', Calls Tryd.prog 30 #[.agg #[.int .i64 g.words, .int .i64 g.rw, .int .i64 g.cw, .int .i64 g.regions, .int .i64 g.cards, .int .i64 g.max], .int .i64 field, .int .i64 (to - 1)] w' fun e w'' => e = .returned (.bool (g.crossB field (to - 1))) ∧ Fr [] w' w'') := HX
    unfold Geo.val
    go_enter Tryd.func18, Tryd.ntmps18
    go_wp2_with (go_at_call 30; refine (HX'.out _).mono ?_; rintro e w1 ⟨rfl, hq⟩)
    go_ret
  all_goals first
    | exact ⟨rfl, (Fr.refl _ _).alloc _⟩
    | exact ⟨rfl, ((Fr.refl _ _).alloc _).trans_same hq⟩
end Go.Proofs.YtbaccleaakmenaaDoor
