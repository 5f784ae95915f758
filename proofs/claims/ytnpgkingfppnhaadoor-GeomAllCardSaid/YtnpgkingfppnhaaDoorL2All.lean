/- GeomAll: the walk. -/
import Derived.Test.YtnpgkingfppnhaaDoorL2
import Derived.Test.YtnpgkingfppnhaaDoorR2n
import Derived.Test.YtnpgkingfppnhaaDoorR2c
namespace Go.Proofs.YtnpgkingfppnhaaDoor.GeomAll
set_option linter.unusedVariables false
open Go.RowKit Go.Gl

/-- Worlds in which block b holds the program's geometry g and block m the document's, grown from w. -/
def TwoC (w : World) (b m : Nat) (g : Geo) : World → Prop := fun w' => GeoAt w' b g ∧ GeoAt w' m g ∧ Tab w' ∧ Fr [] w w'
theorem TwoC.stable (w : World) (b m : Nat) (g : Geo) : Stable (TwoC w b m g) := fun _ _ ⟨h0, h1, h2, h3⟩ hf => ⟨h0.fr hf (by simp), h1.fr hf (by simp), h2.fr hf (by simp), h3.trans_same hf⟩
set_option maxRecDepth 100000 in
set_option maxHeartbeats 4800000 in
theorem walk (c : Cfg) (a b size : Int) (hsize : size ≤ 9223372036854775807) (w : World) (hT : Tab w) :
    Calls Tryd.prog 3 #[c.val, .int .i64 a, .int .i64 b, .int .i64 size] w fun e w' => e = .returned (.bool true) ∧ Fr [] w w' := by
  have HT := hide hT
  have hn := new_any c
  have hm := r2new_any c
  obtain ⟨g, E, e1, e2, hway⟩ := cfg_ways c
  rw [e1, e2] at hn hm
  have HN := hide hn
  have HM := hide hm
  clear hn hm e1 e2 hT
  have HWAY := hide hway
  have hEE : (E != E) = false := by simp
  clear hway
  unfold Cfg.val
  go_enter Tryd.func3, Tryd.ntmps3
  go_wp2_with fail
  refine (awake_any _ (HT.out.alloc _)).mono ?_
  rintro e w1 ⟨rfl, hf1⟩
  have hb := CfgAt.of ((Blk.new w 23 c.cells).fr hf1 (by simp))
  obtain ⟨u1, rfl⟩ : ∃ u : Cls (CfgC w w.heap.size c), u.w = w1 := ⟨⟨w1, hb, (HT.out.alloc _).fr hf1 (by simp), ((Fr.refl _ _).alloc _).trans_same hf1⟩, rfl⟩
  clear hf1 hb
  have d0 : ∀ u : Cls (CfgC w w.heap.size c), u.w.cell? ⟨w.heap.size, 0, none⟩ = some (.int .i64 c.shift) := fun u => u.ok.1.c0
  have d1 : ∀ u : Cls (CfgC w w.heap.size c), u.w.cell? ⟨w.heap.size, 1, none⟩ = some (.int .i64 c.regions) := fun u => u.ok.1.c1
  have d2 : ∀ u : Cls (CfgC w w.heap.size c), u.w.cell? ⟨w.heap.size, 2, none⟩ = some (.int .i64 c.cardShift) := fun u => u.ok.1.c2
  have d3 : ∀ u : Cls (CfgC w w.heap.size c), u.w.cell? ⟨w.heap.size, 3, none⟩ = some (.int .i64 c.threads) := fun u => u.ok.1.c3
  have d4 : ∀ u : Cls (CfgC w w.heap.size c), u.w.cell? ⟨w.heap.size, 4, none⟩ = some (.int .i64 c.roots) := fun u => u.ok.1.c4
  have d5 : ∀ u : Cls (CfgC w w.heap.size c), u.w.cell? ⟨w.heap.size, 5, none⟩ = some (.int .i64 c.refiners) := fun u => u.ok.1.c5
  have d6 : ∀ u : Cls (CfgC w w.heap.size c), u.w.cell? ⟨w.heap.size, 6, none⟩ = some (.int .i64 c.markers) := fun u => u.ok.1.c6
  have d7 : ∀ u : Cls (CfgC w w.heap.size c), u.w.cell? ⟨w.heap.size, 7, none⟩ = some (.int .i64 c.young) := fun u => u.ok.1.c7
  have d8 : ∀ u : Cls (CfgC w w.heap.size c), u.w.cell? ⟨w.heap.size, 8, none⟩ = some (.int .i64 c.tenure) := fun u => u.ok.1.c8
  have d9 : ∀ u : Cls (CfgC w w.heap.size c), u.w.cell? ⟨w.heap.size, 9, none⟩ = some (.int .i64 c.queue) := fun u => u.ok.1.c9
  have d10 : ∀ u : Cls (CfgC w w.heap.size c), u.w.cell? ⟨w.heap.size, 10, none⟩ = some (.int .i64 c.stack) := fun u => u.ok.1.c10
  have d11 : ∀ u : Cls (CfgC w w.heap.size c), u.w.cell? ⟨w.heap.size, 11, none⟩ = some (.int .i64 c.budget) := fun u => u.ok.1.c11
  have d12 : ∀ u : Cls (CfgC w w.heap.size c), u.w.cell? ⟨w.heap.size, 12, none⟩ = some (.int .i64 c.percent) := fun u => u.ok.1.c12
  have d13 : ∀ u : Cls (CfgC w w.heap.size c), u.w.cell? ⟨w.heap.size, 13, none⟩ = some (.int .i64 c.fail) := fun u => u.ok.1.c13
  have SC := hide (CfgC.stable w w.heap.size c)
  go_wp2_with fail
  refine (Cls.grows SC.out (HN.out _)).mono ?_
  rintro e w2 ⟨rfl, u2, rfl⟩
  unfold Geo.val at HM ⊢
  have L2 : w.heap.size < u2.w.heap.size := lt_of_cell (d0 u2)
  go_wp2_with fail
  obtain ⟨u3, hu3⟩ : ∃ u : Cls (CfgC w w.heap.size c), u.w = u2.w.alloc (.cells g.cells 26) := ⟨⟨_, SC.out _ _ u2.ok ((Fr.refl _ _).alloc _)⟩, rfl⟩
  have hg3 : GeoAt u3.w u2.w.heap.size g := hu3 ▸ GeoAt.of (Blk.new u2.w 26 g.cells)
  unfold Geo.cells at hu3
  rw [← hu3]
  refine (HM.out _).mono ?_
  rintro e w4 ⟨rfl, hf4⟩
  have hg4 := hg3.fr hf4 (by simp)
  have HG4 := hide hg4
  have H4 : Hid (CfgC w w.heap.size c w4) := SC.out _ _ u3.ok hf4
  have L4 : u2.w.heap.size < w4.heap.size := lt_of_cell hg4.c0
  obtain ⟨x0, x1, x2, x3, x4, x5⟩ := hg4
  clear hu3 hg3 hf4
  generalize u2.w.heap.size = b1 at *
  rcases HWAY.out with ⟨rfl, s, k, ok⟩ | ⟨rfl, _⟩
  · have OK := hide ok
    clear ok
    go_wp2_with fail
    obtain ⟨u5, hu5⟩ : ∃ u : Cls (TwoC w b1 w4.heap.size g), u.w = w4.alloc (.cells g.cells 30) :=
      ⟨⟨_, HG4.out.fr ((Fr.refl [] _).alloc _) (by simp), GeoAt.of (Blk.new w4 30 g.cells), H4.out.2.1.alloc _, H4.out.2.2.alloc _⟩, rfl⟩
    unfold Geo.cells at hu5
    rw [← hu5]
    clear hu5 x0 x1 x2 x3 x4 x5 HG4 L4 d0 d1 d2 d3 d4 d5 d6 d7 d8 d9 d10 d11 d12 d13
    generalize w4.heap.size = m1 at *
    have c0 : ∀ u : Cls (TwoC w b1 m1 g), u.w.cell? ⟨b1, 0, none⟩ = some (.int .i64 g.words) := fun u => u.ok.1.c0
    have c1 : ∀ u : Cls (TwoC w b1 m1 g), u.w.cell? ⟨b1, 1, none⟩ = some (.int .i64 g.rw) := fun u => u.ok.1.c1
    have c2 : ∀ u : Cls (TwoC w b1 m1 g), u.w.cell? ⟨b1, 2, none⟩ = some (.int .i64 g.cw) := fun u => u.ok.1.c2
    have c3 : ∀ u : Cls (TwoC w b1 m1 g), u.w.cell? ⟨b1, 3, none⟩ = some (.int .i64 g.regions) := fun u => u.ok.1.c3
    have c4 : ∀ u : Cls (TwoC w b1 m1 g), u.w.cell? ⟨b1, 4, none⟩ = some (.int .i64 g.cards) := fun u => u.ok.1.c4
    have c5 : ∀ u : Cls (TwoC w b1 m1 g), u.w.cell? ⟨b1, 5, none⟩ = some (.int .i64 g.max) := fun u => u.ok.1.c5
    have n0 : ∀ u : Cls (TwoC w b1 m1 g), u.w.cell? ⟨m1, 0, none⟩ = some (.int .i64 g.words) := fun u => u.ok.2.1.c0
    have n1 : ∀ u : Cls (TwoC w b1 m1 g), u.w.cell? ⟨m1, 1, none⟩ = some (.int .i64 g.rw) := fun u => u.ok.2.1.c1
    have n2 : ∀ u : Cls (TwoC w b1 m1 g), u.w.cell? ⟨m1, 2, none⟩ = some (.int .i64 g.cw) := fun u => u.ok.2.1.c2
    have n3 : ∀ u : Cls (TwoC w b1 m1 g), u.w.cell? ⟨m1, 3, none⟩ = some (.int .i64 g.regions) := fun u => u.ok.2.1.c3
    have n4 : ∀ u : Cls (TwoC w b1 m1 g), u.w.cell? ⟨m1, 4, none⟩ = some (.int .i64 g.cards) := fun u => u.ok.2.1.c4
    have n5 : ∀ u : Cls (TwoC w b1 m1 g), u.w.cell? ⟨m1, 5, none⟩ = some (.int .i64 g.max) := fun u => u.ok.2.1.c5
    have S2 := hide (TwoC.stable w b1 m1 g)
    have hrw0 : 0 ≤ g.rw := by rw [OK.out.rw]; exact Int.le_of_lt (pw_pos _)
    have hrw1 : g.rw ≤ 4194304 := OK.out.rw_max
    obtain ⟨X, hX⟩ : ∃ X, (if 0 ≤ a ∧ a < g.regions then a * g.rw else 0) = X := ⟨_, rfl⟩
    obtain ⟨XE, hXE⟩ : ∃ X, (if 0 ≤ a ∧ a < g.regions then (0 : Int) else 2) = X := ⟨_, rfl⟩
    obtain ⟨Y, hY⟩ : ∃ X, (if 0 ≤ a ∧ a < g.cards then a * g.cw else 0) = X := ⟨_, rfl⟩
    obtain ⟨YE, hYE⟩ : ∃ X, (if 0 ≤ a ∧ a < g.cards then (0 : Int) else 2) = X := ⟨_, rfl⟩
    obtain ⟨R, hR⟩ : ∃ X, g.regionOf a = X := ⟨_, rfl⟩
    obtain ⟨K, hK⟩ : ∃ X, g.cardOf a = X := ⟨_, rfl⟩
    obtain ⟨V, hV⟩ : ∃ X, g.crossB a b = X := ⟨_, rfl⟩
    obtain ⟨G, hG⟩ : ∃ X, g.bigB size = X := ⟨_, rfl⟩
    obtain ⟨Z, hZ⟩ : ∃ X, g.spanOf size = X := ⟨_, rfl⟩
    have B1 : Hid (∀ u : Cls (TwoC w b1 m1 g), Calls Tryd.prog 9 #[.agg #[.int .i64 g.words, .int .i64 g.rw, .int .i64 g.cw, .int .i64 g.regions, .int .i64 g.cards, .int .i64 g.max], .int .i64 a] u.w fun e w'' => e = .returned (.tuple #[.int .i64 X, .int .i64 XE]) ∧ ∃ u' : Cls (TwoC w b1 m1 g), w'' = u'.w) := fun u => by
      have := base_any g OK.out a u.w u.ok.2.2.1; rw [hX, hXE] at this; exact Cls.grows S2.out this
    have B2 : Hid (∀ u : Cls (TwoC w b1 m1 g), Calls Tryd.prog 10 #[.agg #[.int .i64 g.words, .int .i64 g.rw, .int .i64 g.cw, .int .i64 g.regions, .int .i64 g.cards, .int .i64 g.max], .int .i64 a] u.w fun e w'' => e = .returned (.tuple #[.int .i64 X, .int .i64 XE]) ∧ ∃ u' : Cls (TwoC w b1 m1 g), w'' = u'.w) := fun u => by
      have := r2base_any g OK.out a u.w; rw [hX, hXE] at this; exact Cls.grows S2.out this
    have F1 : Hid (∀ u : Cls (TwoC w b1 m1 g), Calls Tryd.prog 11 #[.agg #[.int .i64 g.words, .int .i64 g.rw, .int .i64 g.cw, .int .i64 g.regions, .int .i64 g.cards, .int .i64 g.max], .int .i64 a] u.w fun e w'' => e = .returned (.tuple #[.int .i64 Y, .int .i64 YE]) ∧ ∃ u' : Cls (TwoC w b1 m1 g), w'' = u'.w) := fun u => by
      have := first_any g OK.out a u.w u.ok.2.2.1; rw [hY, hYE] at this; exact Cls.grows S2.out this
    have F2 : Hid (∀ u : Cls (TwoC w b1 m1 g), Calls Tryd.prog 12 #[.agg #[.int .i64 g.words, .int .i64 g.rw, .int .i64 g.cw, .int .i64 g.regions, .int .i64 g.cards, .int .i64 g.max], .int .i64 a] u.w fun e w'' => e = .returned (.tuple #[.int .i64 Y, .int .i64 YE]) ∧ ∃ u' : Cls (TwoC w b1 m1 g), w'' = u'.w) := fun u => by
      have := r2first_any g OK.out a u.w; rw [hY, hYE] at this; exact Cls.grows S2.out this
    have R1 : Hid (∀ u : Cls (TwoC w b1 m1 g), Calls Tryd.prog 13 #[.agg #[.int .i64 g.words, .int .i64 g.rw, .int .i64 g.cw, .int .i64 g.regions, .int .i64 g.cards, .int .i64 g.max], .int .i64 a] u.w fun e w'' => e = .returned (.int .i64 R) ∧ ∃ u' : Cls (TwoC w b1 m1 g), w'' = u'.w) := fun u => by
      have := region_any g OK.out a u.w u.ok.2.2.1; rw [hR] at this; exact Cls.grows S2.out this
    have R2 : Hid (∀ u : Cls (TwoC w b1 m1 g), Calls Tryd.prog 14 #[.agg #[.int .i64 g.words, .int .i64 g.rw, .int .i64 g.cw, .int .i64 g.regions, .int .i64 g.cards, .int .i64 g.max], .int .i64 a] u.w fun e w'' => e = .returned (.int .i64 R) ∧ ∃ u' : Cls (TwoC w b1 m1 g), w'' = u'.w) := fun u => by
      have := r2region_any g OK.out a u.w; rw [hR] at this; exact Cls.grows S2.out this
    have K1 : Hid (∀ u : Cls (TwoC w b1 m1 g), Calls Tryd.prog 15 #[.agg #[.int .i64 g.words, .int .i64 g.rw, .int .i64 g.cw, .int .i64 g.regions, .int .i64 g.cards, .int .i64 g.max], .int .i64 a] u.w fun e w'' => e = .returned (.int .i64 K) ∧ ∃ u' : Cls (TwoC w b1 m1 g), w'' = u'.w) := fun u => by
      have := card_any g OK.out a u.w u.ok.2.2.1; rw [hK] at this; exact Cls.grows S2.out this
    have K2 : Hid (∀ u : Cls (TwoC w b1 m1 g), Calls Tryd.prog 16 #[.agg #[.int .i64 g.words, .int .i64 g.rw, .int .i64 g.cw, .int .i64 g.regions, .int .i64 g.cards, .int .i64 g.max], .int .i64 a] u.w fun e w'' => e = .returned (.int .i64 K) ∧ ∃ u' : Cls (TwoC w b1 m1 g), w'' = u'.w) := fun u => by
      have := r2card_any g OK.out a u.w; rw [hK] at this; exact Cls.grows S2.out this
    have V1 : Hid (∀ u : Cls (TwoC w b1 m1 g), Calls Tryd.prog 17 #[.agg #[.int .i64 g.words, .int .i64 g.rw, .int .i64 g.cw, .int .i64 g.regions, .int .i64 g.cards, .int .i64 g.max], .int .i64 a, .int .i64 b] u.w fun e w'' => e = .returned (.bool V) ∧ ∃ u' : Cls (TwoC w b1 m1 g), w'' = u'.w) := fun u => by
      have := cross_any g OK.out a b u.w u.ok.2.2.1; rw [hV] at this; exact Cls.grows S2.out this
    have V2 : Hid (∀ u : Cls (TwoC w b1 m1 g), Calls Tryd.prog 18 #[.agg #[.int .i64 g.words, .int .i64 g.rw, .int .i64 g.cw, .int .i64 g.regions, .int .i64 g.cards, .int .i64 g.max], .int .i64 a, .int .i64 b] u.w fun e w'' => e = .returned (.bool V) ∧ ∃ u' : Cls (TwoC w b1 m1 g), w'' = u'.w) := fun u => by
      have := r2cross_any g OK.out a b u.w; rw [hV] at this; exact Cls.grows S2.out this
    have G1 : Hid (∀ u : Cls (TwoC w b1 m1 g), Calls Tryd.prog 19 #[.agg #[.int .i64 g.words, .int .i64 g.rw, .int .i64 g.cw, .int .i64 g.regions, .int .i64 g.cards, .int .i64 g.max], .int .i64 size] u.w fun e w'' => e = .returned (.bool G) ∧ ∃ u' : Cls (TwoC w b1 m1 g), w'' = u'.w) := fun u => by
      have := big_any g size u.w hrw0; rw [hG] at this; exact Cls.grows S2.out this
    have G2 : Hid (∀ u : Cls (TwoC w b1 m1 g), Calls Tryd.prog 20 #[.agg #[.int .i64 g.words, .int .i64 g.rw, .int .i64 g.cw, .int .i64 g.regions, .int .i64 g.cards, .int .i64 g.max], .int .i64 size] u.w fun e w'' => e = .returned (.bool G) ∧ ∃ u' : Cls (TwoC w b1 m1 g), w'' = u'.w) := fun u => by
      have := r2big_any g size u.w hrw0 hrw1; rw [hG] at this; exact Cls.grows S2.out this
    have Z1 : Hid (∀ u : Cls (TwoC w b1 m1 g), Calls Tryd.prog 21 #[.agg #[.int .i64 g.words, .int .i64 g.rw, .int .i64 g.cw, .int .i64 g.regions, .int .i64 g.cards, .int .i64 g.max], .int .i64 size] u.w fun e w'' => e = .returned (.int .i64 Z) ∧ ∃ u' : Cls (TwoC w b1 m1 g), w'' = u'.w) := fun u => by
      have := span_any g OK.out size hsize u.w u.ok.2.2.1; rw [hZ] at this; exact Cls.grows S2.out this
    have Z2 : Hid (∀ u : Cls (TwoC w b1 m1 g), Calls Tryd.prog 22 #[.agg #[.int .i64 g.words, .int .i64 g.rw, .int .i64 g.cw, .int .i64 g.regions, .int .i64 g.cards, .int .i64 g.max], .int .i64 size] u.w fun e w'' => e = .returned (.int .i64 Z) ∧ ∃ u' : Cls (TwoC w b1 m1 g), w'' = u'.w) := fun u => by
      have := r2span_any g OK.out size hsize u.w; rw [hZ] at this; exact Cls.grows S2.out this
    clear hX hXE hY hYE hR hK hV hG hZ hrw0 hrw1
    go_wp2_with (first
      | (go_at_call 9; refine (B1.out _).mono ?_; rintro e w' ⟨rfl, u, rfl⟩)
      | (go_at_call 10; refine (B2.out _).mono ?_; rintro e w' ⟨rfl, u, rfl⟩)
      | (go_at_call 11; refine (F1.out _).mono ?_; rintro e w' ⟨rfl, u, rfl⟩)
      | (go_at_call 12; refine (F2.out _).mono ?_; rintro e w' ⟨rfl, u, rfl⟩))
    simp only [List.append]
    have HX : Nonempty (Cls (TwoC w b1 m1 g)) := ⟨u⟩
    refine wp_region_cls (TwoC w b1 m1 g) (by kernel_rfl) (by kernel_rfl) (Cls.drew S2.out u) ?_
    repeat (go_big_quiet_step (((first
      | (go_at_call 13; exact R1.out _)
      | (go_at_call 14; exact R2.out _)
      | (go_at_call 15; exact K1.out _)
      | (go_at_call 16; exact K2.out _)
      | (go_at_call 17; exact V1.out _)
      | (go_at_call 18; exact V2.out _)
      | (go_at_call 19; exact G1.out _)
      | (go_at_call 20; exact G2.out _)
      | (go_at_call 21; exact Z1.out _)
      | (go_at_call 22; exact Z2.out _)))))
    refine wpQuiet_nil ?_
    rintro _ ⟨u, rfl⟩
    go_wp2_with fail
    go_ret
    exact ⟨rfl, u.ok.2.2.2⟩
  · go_wp2_with fail
    go_ret
    exact ⟨rfl, H4.out.2.2.alloc _⟩
end Go.Proofs.YtnpgkingfppnhaaDoor.GeomAll
