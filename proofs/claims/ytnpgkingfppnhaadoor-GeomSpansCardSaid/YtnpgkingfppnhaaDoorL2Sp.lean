/- GeomSpans: the walk. -/
import Derived.Test.YtnpgkingfppnhaaDoorL2
namespace Go.Proofs.YtnpgkingfppnhaaDoor.GeomSpans
set_option linter.unusedVariables false
open Go.RowKit Go.Gl

theorem tmod_bd (n : Int) : -4194304 < n.tmod 4194304 ∧ n.tmod 4194304 < 4194304 := by
  rcases Int.le_total 0 n with h | h
  · rw [Int.tmod_eq_emod_of_nonneg h]; omega
  · obtain ⟨m, rfl⟩ : ∃ m : Int, n = -m := ⟨-n, by omega⟩
    rw [Int.neg_tmod, Int.tmod_eq_emod_of_nonneg (by omega)]; omega
theorem span_facts {g : Geo} {s k : Nat} (ok : g.Ok s k) {n : Int} (h0 : 0 ≤ n) (h1 : n < 4194304) :
    n ≤ g.spanOf n * g.rw ∧ g.spanOf n * g.rw ≤ 8388608 ∧ (0 < n → (g.spanOf n - 1) * g.rw < n ∧ 0 ≤ (g.spanOf n - 1) * g.rw) ∧ (n = 0 → g.spanOf n = 0) ∧ 0 ≤ g.spanOf n ∧ g.spanOf n ≤ 4194304 := by
  have p0 : 0 < g.rw := by rw [ok.rw]; exact pw_pos _
  have p1 := ok.rw_max
  unfold Geo.spanOf
  by_cases h : n < 1
  · rw [if_pos h]
    refine ⟨by omega, by omega, fun h => by omega, fun _ => rfl, by omega, by omega⟩
  · rw [if_neg h]
    have q1 := Int.ediv_mul_le (n - 1) (b := g.rw) (by omega)
    have q2 := Int.lt_ediv_add_one_mul_self (n - 1) p0
    have q3 : 0 ≤ (n - 1) / g.rw := Int.ediv_nonneg (by omega) (by omega)
    have q4 : (n - 1) / g.rw ≤ n - 1 := Int.ediv_le_self _ (by omega)
    have q5 : ((n - 1) / g.rw + 1) * g.rw = (n - 1) / g.rw * g.rw + g.rw := by rw [Int.add_mul, Int.one_mul]
    have q6 : 0 ≤ (n - 1) / g.rw * g.rw := Int.mul_nonneg q3 (by omega)
    refine ⟨by omega, by omega, fun _ => ?_, fun h => by omega, by omega, by omega⟩
    rw [Int.add_sub_cancel]
    omega
theorem big_facts {g : Geo} {s k : Nat} (ok : g.Ok s k) (n : Int) : g.bigB n = decide (g.rw < 2 * n) := by
  unfold Geo.bigB
  obtain ⟨j, hj⟩ : ∃ j : Int, g.rw = 2 * j := ⟨pw ((s : Int) - 1), by
    have := ok.s6
    rw [ok.rw, ← pw_succ (by omega)]; congr 1; omega⟩
  rw [decide_eq_decide, hj]
  omega
theorem max_facts {g : Geo} {s k : Nat} (ok : g.Ok s k) : g.spanOf g.max < g.regions ∧ g.max ≤ 1048576 := by
  have p0 := pw_pos s
  have h1 := ok.max
  have hr := ok.r2
  refine ⟨?_, by omega⟩
  unfold Geo.spanOf
  by_cases h : g.max < 1
  · rw [if_pos h]; omega
  · rw [if_neg h, ok.rw]
    have : (g.max - 1) / pw s < g.regions - 1 := by
      rw [Int.ediv_lt_iff_lt_mul p0]
      omega
    omega
set_option maxRecDepth 100000 in
set_option maxHeartbeats 4800000 in
theorem walk (c : Cfg) (size : Int) (s0 : -9223372036854775808 ≤ size) (s1 : size ≤ 9223372036854775807) (w : World) (hT : Tab w) :
    Calls Tryd.prog 5 #[c.val, .int .i64 size] w fun e w' => e = .returned (.bool true) ∧ Fr [] w w' := by
  have HT := hide hT
  have hn := new_any c
  obtain ⟨g, E, e1, e2, hway⟩ := cfg_ways c
  rw [e1, e2] at hn
  have HN := hide hn
  clear hn e1 e2 hT
  have HWAY := hide hway
  clear hway
  unfold Cfg.val
  go_enter Tryd.func5, Tryd.ntmps5
  go_wp2_with fail
  refine (awake_any _ (HT.out.alloc _)).mono ?_
  rintro e w1 ⟨rfl, hf1⟩
  have hb := CfgAt.of ((Blk.new w 23 c.cells).fr hf1 (by simp))
  obtain ⟨d0, d1, d2, d3, d4, d5, d6, d7, d8, d9, d10, d11, d12, d13⟩ := hb
  have HT1 := hide ((HT.out.alloc (.cells c.cells 23)).fr hf1 (by simp))
  have HF1 : Hid (Fr [] w w1) := ((Fr.refl _ _).alloc _).trans_same hf1
  clear hf1
  go_wp2_with fail
  refine (HN.out _).mono ?_
  rintro e w2 ⟨rfl, hf2⟩
  have HT2 := hide (HT1.out.fr hf2 (by simp))
  have HF2 : Hid (Fr [] w w2) := HF1.out.trans_same hf2
  clear hf2 d0 d1 d2 d3 d4 d5 d6 d7 d8 d9 d10 d11 d12 d13
  unfold Geo.val
  rcases HWAY.out with ⟨rfl, s, k, ok⟩ | ⟨rfl, rfl⟩
  · obtain ⟨z, hz⟩ : ∃ z, size.tmod 4194304 = z := ⟨_, rfl⟩
    have hzb := tmod_bd size
    rw [hz] at hzb
    obtain ⟨z0, z1⟩ := hzb
    obtain ⟨n, hn⟩ : ∃ n, (z + 4194304) % 4194304 = n := ⟨_, rfl⟩
    have n0 : 0 ≤ n := by omega
    have n1 : n < 4194304 := by omega
    obtain ⟨a1, a2, a3, a4, a5, a6⟩ := span_facts ok n0 n1
    have bg := big_facts ok n
    obtain ⟨mx1, mx2⟩ := max_facts ok
    have OK := hide ok
    have hrw0 : 0 ≤ g.rw := by rw [ok.rw]; exact Int.le_of_lt (pw_pos _)
    have hrw1 : g.rw ≤ 4194304 := ok.rw_max
    clear ok
    obtain ⟨N, hN⟩ : ∃ X, g.spanOf n = X := ⟨_, rfl⟩
    obtain ⟨M, hM⟩ : ∃ X, g.spanOf g.max = X := ⟨_, rfl⟩
    rw [hN] at a1 a2 a3 a4 a5 a6
    rw [hM] at mx1
    obtain ⟨u, hu⟩ : ∃ u : Cls (OneC w w2.heap.size g), u.w = w2.alloc (.cells g.cells 26) :=
      ⟨⟨_, GeoAt.of (Blk.new w2 26 g.cells), HT2.out.alloc _, HF2.out.alloc _⟩, rfl⟩
    have HN := hide hN
    have HM := hide hM
    have HBG := hide bg
    clear hN hM bg
    unfold Geo.cells at hu
    go_wp2_with fail
    rw [← hu]
    clear hu
    generalize w2.heap.size = b1 at *
    have c0 : ∀ u : Cls (OneC w b1 g), u.w.cell? ⟨b1, 0, none⟩ = some (.int .i64 g.words) := fun u => u.ok.1.c0
    have c1 : ∀ u : Cls (OneC w b1 g), u.w.cell? ⟨b1, 1, none⟩ = some (.int .i64 g.rw) := fun u => u.ok.1.c1
    have c2 : ∀ u : Cls (OneC w b1 g), u.w.cell? ⟨b1, 2, none⟩ = some (.int .i64 g.cw) := fun u => u.ok.1.c2
    have c3 : ∀ u : Cls (OneC w b1 g), u.w.cell? ⟨b1, 3, none⟩ = some (.int .i64 g.regions) := fun u => u.ok.1.c3
    have c4 : ∀ u : Cls (OneC w b1 g), u.w.cell? ⟨b1, 4, none⟩ = some (.int .i64 g.cards) := fun u => u.ok.1.c4
    have c5 : ∀ u : Cls (OneC w b1 g), u.w.cell? ⟨b1, 5, none⟩ = some (.int .i64 g.max) := fun u => u.ok.1.c5
    have S2 := hide (OneC.stable w b1 g)
    have Z1 : Hid (∀ u : Cls (OneC w b1 g), Calls Tryd.prog 21 #[.agg #[.int .i64 g.words, .int .i64 g.rw, .int .i64 g.cw, .int .i64 g.regions, .int .i64 g.cards, .int .i64 g.max], .int .i64 n] u.w fun e w'' => e = .returned (.int .i64 N) ∧ ∃ u' : Cls (OneC w b1 g), w'' = u'.w) := fun u => by
      have := span_any g OK.out n (by omega) u.w u.ok.2.1; rw [HN.out] at this; exact Cls.grows S2.out this
    have Z2 : Hid (∀ u : Cls (OneC w b1 g), Calls Tryd.prog 21 #[.agg #[.int .i64 g.words, .int .i64 g.rw, .int .i64 g.cw, .int .i64 g.regions, .int .i64 g.cards, .int .i64 g.max], .int .i64 g.max] u.w fun e w'' => e = .returned (.int .i64 M) ∧ ∃ u' : Cls (OneC w b1 g), w'' = u'.w) := fun u => by
      have := span_any g OK.out g.max (by omega) u.w u.ok.2.1; rw [HM.out] at this; exact Cls.grows S2.out this
    have G1 : Hid (∀ u : Cls (OneC w b1 g), Calls Tryd.prog 19 #[.agg #[.int .i64 g.words, .int .i64 g.rw, .int .i64 g.cw, .int .i64 g.regions, .int .i64 g.cards, .int .i64 g.max], .int .i64 n] u.w fun e w'' => e = .returned (.bool (decide (g.rw < 2 * n))) ∧ ∃ u' : Cls (OneC w b1 g), w'' = u'.w) := fun u => by
      have := big_any g n u.w hrw0; rw [HBG.out] at this; exact Cls.grows S2.out this
    refine (Z1.out _).mono ?_
    rintro e w' ⟨rfl, u, rfl⟩
    by_cases hn0 : n = 0
    · have hb1 : (n == 0) = true := by simpa using hn0
      have hb2 : (N != 0) = false := by simpa using a4 hn0
      have hle : n ≤ 0 := by omega
      clear a3 a4 hn0
      go_wp2_with fail
      have HX : Nonempty (Cls (OneC w b1 g)) := ⟨u⟩
      have e2 : IntKind.i64.wrap (2 * n) = 2 * n := IntWalk.i64_in _ (by omega)
      refine wp_region_cls (OneC w b1 g) (by kernel_rfl) (by kernel_rfl) (Cls.drew S2.out u) ?_
      repeat (go_big_quiet_step ((first | (go_at_call 19; exact G1.out _) | (go_at_call 21; exact Z2.out _))))
      refine wpQuiet_nil ?_
      rintro _ ⟨u, rfl⟩
      go_wp2_with fail
      go_ret
      exact ⟨rfl, u.ok.2.2⟩
    · obtain ⟨a7, a8⟩ := a3 (by omega)
      have hb1 : (n == 0) = false := by simpa using hn0
      have hnp : 0 < n := by omega
      clear a3 a4 hn0
      go_wp2_with fail
      have HX : Nonempty (Cls (OneC w b1 g)) := ⟨u⟩
      have e2 : IntKind.i64.wrap (2 * n) = 2 * n := IntWalk.i64_in _ (by omega)
      refine wp_region_cls (OneC w b1 g) (by kernel_rfl) (by kernel_rfl) (Cls.drew S2.out u) ?_
      repeat (go_big_quiet_step ((first | (go_at_call 19; exact G1.out _) | (go_at_call 21; exact Z2.out _))))
      refine wpQuiet_nil ?_
      rintro _ ⟨u, rfl⟩
      go_wp2_with fail
      go_ret
      exact ⟨rfl, u.ok.2.2⟩
  · go_wp2_with fail
    go_ret
    exact ⟨rfl, HF2.out.alloc _⟩
end Go.Proofs.YtnpgkingfppnhaaDoor.GeomSpans
