/- CardsNotes: the walk. -/
import Derived.Test.YtbaccleaakmenaaDoorL9
import Derived.Test.YtbaccleaakmenaaDoorGn
namespace Go.Proofs.YtbaccleaakmenaaDoor.CardsNotes
set_option linter.unusedVariables false
open Go.RowKit Go.Gl

/-- Worlds in which block b holds the geometry g, grown from w. -/
def OneC (w : World) (b : Nat) (g : Geo) : World → Prop := fun w' => GeoAt w' b g ∧ Tab w' ∧ Fr [] w w'
theorem OneC.stable (w : World) (b : Nat) (g : Geo) : Stable (OneC w b g) := fun _ _ ⟨h1, h2, h3⟩ hf => ⟨h1.fr hf (by simp), h2.fr hf (by simp), h3.trans_same hf⟩
/-- What a noted store is. -/
theorem noted {g : Geo} {st field to : Int} (hw : g.words ≤ 4194304) (hr : 0 ≤ g.rw) (t0 : 0 ≤ to) (t1 : to ≤ 18446744073709551615) (h : noteB g st field to = true) :
    0 < to ∧ to ≤ 4194304 ∧ 0 ≤ g.regionOf field ∧ 0 ≤ g.regionOf (to - 1) ∧ (g.regionOf field != g.regionOf (to - 1)) = true := by
  have ht : 1 ≤ to ∧ to ≤ 4194304 := by
    by_cases z : to = 0 ∨ 4194304 < to
    · rw [note_no hw t0 t1 z] at h; cases h
    · omega
  have hc : g.crossB field (to - 1) = true := by
    unfold noteB at h
    rw [adr_in ht.1 (by omega), Bool.and_eq_true] at h
    exact h.2
  rw [← g.cross_regions hr] at hc
  simp only [Bool.and_eq_true, decide_eq_true_eq] at hc
  exact ⟨by omega, ht.2, hc.1, hc.2.1, by simpa using hc.2.2⟩
set_option maxRecDepth 100000 in
set_option maxHeartbeats 4800000 in
theorem walk (c : Cfg) (st field to : Int) (t0 : 0 ≤ to) (t1 : to ≤ 18446744073709551615) (w : World) (hT : Tab w) :
    Calls Tryd.prog 4 #[c.val, .int .i64 st, .int .i64 field, .int .u64 to] w fun e w' => e = .returned (.bool true) ∧ Fr [] w w' := by
  have HT := hide hT
  have hn := gnew_any c
  obtain ⟨g, E, e1, e2, hway⟩ := cfg_ways c
  rw [e1, e2] at hn
  have HN := hide hn
  clear hn e1 e2 hT
  have HWAY := hide hway
  clear hway
  unfold Cfg.val
  go_enter Tryd.func4, Tryd.ntmps4
  go_wp2_with fail
  refine (awake9_any _ (HT.out.alloc _)).mono ?_
  rintro e w1 ⟨rfl, hf1⟩
  have hb := CfgAt.of ((Blk.new w 49 c.cells).fr hf1 (by simp))
  obtain ⟨d0, d1, d2, d3, d4, d5, d6, d7, d8, d9, d10, d11, d12, d13⟩ := hb
  have HT1 := hide ((HT.out.alloc (.cells c.cells 49)).fr hf1 (by simp))
  have HF1 : Hid (Fr [] w w1) := ((Fr.refl _ _).alloc _).trans_same hf1
  clear hf1
  go_wp2_with fail
  refine (HN.out _).mono ?_
  rintro e w2 ⟨rfl, hf2⟩
  have HT2 := hide (HT1.out.fr hf2 (by simp))
  have HF2 : Hid (Fr [] w w2) := HF1.out.trans_same hf2
  clear hf2 d0 d1 d2 d3 d4 d5 d6 d7 d8 d9 d10 d11 d12 d13
  unfold Geo.val
  rcases HWAY.out with ⟨rfl, s, k, ok⟩ | ⟨rfl, rfl⟩
  · have HFACT : Hid (noteB g st field to = true → _) := noted (st := st) (field := field) ok.wmax (by rw [ok.rw]; exact Int.le_of_lt (pw_pos _)) t0 t1
    have OK := hide ok
    clear ok
    obtain ⟨A, hA⟩ : ∃ A, noteB g st field to = A := ⟨_, rfl⟩
    have HA := hide hA
    have hAA : (A != A) = false := by simp
    clear hA
    obtain ⟨u, hu⟩ : ∃ u : Cls (OneC w w2.heap.size g), u.w = w2.alloc (.cells g.cells 25) :=
      ⟨⟨_, GeoAt.of (Blk.new w2 25 g.cells), HT2.out.alloc _, HF2.out.alloc _⟩, rfl⟩
    unfold Geo.cells at hu
    go_wp2_with fail
    rw [← hu]
    clear hu
    generalize w2.heap.size = b1 at *
    have c0 : ∀ u : Cls (OneC w b1 g), u.w.cell? ⟨b1, 0, none⟩ = some (.int .i64 g.words) := fun u => u.ok.1.c0
    have c1 : ∀ u : Cls (OneC w b1 g), u.w.cell? ⟨b1, 1, none⟩ = some (.int .i64 g.rw) := fun u => u.ok.1.c1
    have c2 : ∀ u : Cls (OneC w b1 g), u.w.cell? ⟨b1, 2, none⟩ = some (.int .i64 g.cw) := fun u => u.ok.1.c2
    have c3 : ∀ u : Cls (OneC w b1 g), u.w.cell? ⟨b1, 3, none⟩ = some (.int .i64 g.regions) := fun u => u.ok.1.c3
    have c4 : ∀ u : Cls (OneC w b1 g), u.w.cell? ⟨b1, 4, none⟩ = some (.int .i64 g.cards) := fun u => u.ok.1.c4
    have c5 : ∀ u : Cls (OneC w b1 g), u.w.cell? ⟨b1, 5, none⟩ = some (.int .i64 g.max) := fun u => u.ok.1.c5
    have S2 := hide (OneC.stable w b1 g)
    have Z0 : Hid (∀ u : Cls (OneC w b1 g), Calls Tryd.prog 17 #[.agg #[.int .i64 g.words, .int .i64 g.rw, .int .i64 g.cw, .int .i64 g.regions, .int .i64 g.cards, .int .i64 g.max], .int .i64 st, .int .i64 field, .int .u64 to] u.w fun e w'' => e = .returned (.bool A) ∧ ∃ u' : Cls (OneC w b1 g), w'' = u'.w) := fun u => by
      have := note_any g OK.out st field to u.w u.ok.2.1; rw [HA.out] at this; exact Cls.grows S2.out this
    have Z1 : Hid (∀ u : Cls (OneC w b1 g), Calls Tryd.prog 18 #[.agg #[.int .i64 g.words, .int .i64 g.rw, .int .i64 g.cw, .int .i64 g.regions, .int .i64 g.cards, .int .i64 g.max], .int .i64 st, .int .i64 field, .int .u64 to] u.w fun e w'' => e = .returned (.bool A) ∧ ∃ u' : Cls (OneC w b1 g), w'' = u'.w) := fun u => by
      have := r9note_any g OK.out st field to t0 t1 u.w; rw [HA.out] at this; exact Cls.grows S2.out this
    have Z2 : Hid (∀ u : Cls (OneC w b1 g), Calls Tryd.prog 17 #[.agg #[.int .i64 g.words, .int .i64 g.rw, .int .i64 g.cw, .int .i64 g.regions, .int .i64 g.cards, .int .i64 g.max], .int .i64 1, .int .i64 field, .int .u64 to] u.w fun e w'' => e = .returned (.bool false) ∧ ∃ u' : Cls (OneC w b1 g), w'' = u'.w) := fun u => by
      have := note_any g OK.out 1 field to u.w u.ok.2.1; rw [note_young (.inl rfl)] at this; exact Cls.grows S2.out this
    have Z3 : Hid (∀ u : Cls (OneC w b1 g), Calls Tryd.prog 17 #[.agg #[.int .i64 g.words, .int .i64 g.rw, .int .i64 g.cw, .int .i64 g.regions, .int .i64 g.cards, .int .i64 g.max], .int .i64 2, .int .i64 field, .int .u64 to] u.w fun e w'' => e = .returned (.bool false) ∧ ∃ u' : Cls (OneC w b1 g), w'' = u'.w) := fun u => by
      have := note_any g OK.out 2 field to u.w u.ok.2.1; rw [note_young (.inr rfl)] at this; exact Cls.grows S2.out this
    have R1 : Hid (∀ (X : Int) (u : Cls (OneC w b1 g)), Calls Tryd.prog 19 #[.agg #[.int .i64 g.words, .int .i64 g.rw, .int .i64 g.cw, .int .i64 g.regions, .int .i64 g.cards, .int .i64 g.max], .int .i64 X] u.w fun e w'' => e = .returned (.int .i64 (g.regionOf X)) ∧ ∃ u' : Cls (OneC w b1 g), w'' = u'.w) := fun X u =>
      Cls.grows S2.out (region_any g OK.out X u.w u.ok.2.1)
    refine (Z0.out _).mono ?_
    rintro e w' ⟨rfl, u, rfl⟩
    go_wp2_with (go_at_call 18; refine (Z1.out _).mono ?_; rintro e w' ⟨rfl, u, rfl⟩)
    have HX : Nonempty (Cls (OneC w b1 g)) := ⟨u⟩
    cases A
    · refine wp_region_cls (OneC w b1 g) (by kernel_rfl) (by kernel_rfl) (Cls.drew S2.out u) ?_
      repeat (go_big_quiet_step (fail))
      refine wpQuiet_nil ?_
      rintro _ ⟨u, rfl⟩
      go_wp2_with fail
      go_ret
      exact ⟨rfl, u.ok.2.2⟩
    · obtain ⟨f1, f2, f3, f4, f5⟩ := HFACT.out HA.out
      have R2 := hide (R1.out (to - 1))
      have R3 := hide (R1.out field)
      generalize g.regionOf (to - 1) = y at *
      generalize g.regionOf field = x at *
      clear R1
      refine wp_region_cls (OneC w b1 g) (by kernel_rfl) (by kernel_rfl) (Cls.drew S2.out u) ?_
      repeat (go_big_quiet_step ((first | (go_at_call 19; first | (with_reducible exact R3.out _) | (with_reducible exact R2.out _)) | (go_at_call 17; first | (with_reducible exact Z2.out _) | (with_reducible exact Z3.out _)))))
      refine wpQuiet_nil ?_
      rintro _ ⟨u, rfl⟩
      go_wp2_with fail
      go_ret
      exact ⟨rfl, u.ok.2.2⟩
  · go_wp2_with fail
    go_ret
    exact ⟨rfl, HF2.out.alloc _⟩
end Go.Proofs.YtbaccleaakmenaaDoor.CardsNotes
