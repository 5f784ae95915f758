/- GeomPlaces: the walk. -/
import Derived.Test.YtnpgkingfppnhaaDoorL2
namespace Go.Proofs.YtnpgkingfppnhaaDoor.GeomPlaces
set_option linter.unusedVariables false
open Go.RowKit Go.Gl

theorem tmod_bd (n : Int) {m : Int} (hm : 0 < m) : -m < n.tmod m ∧ n.tmod m < m := by
  rcases Int.le_total 0 n with h | h
  · rw [Int.tmod_eq_emod_of_nonneg h]
    have := Int.emod_lt_of_pos n hm
    have := Int.emod_nonneg n (b := m) (by omega)
    omega
  · obtain ⟨k, rfl⟩ : ∃ k : Int, n = -k := ⟨-n, by omega⟩
    rw [Int.neg_tmod, Int.tmod_eq_emod_of_nonneg (by omega)]
    have := Int.emod_lt_of_pos k hm
    have := Int.emod_nonneg k (b := m) (by omega)
    omega
/-- What the places of a word n are. -/
structure Places (g : Geo) (n R K P Q : Int) : Prop where
  r : g.regionOf n = R
  k : g.cardOf n = K
  p : (if 0 ≤ R ∧ R < g.regions then R * g.rw else 0) = P
  pe : (if 0 ≤ R ∧ R < g.regions then (0 : Int) else 2) = 0
  q : (if 0 ≤ K ∧ K < g.cards then K * g.cw else 0) = Q
  qe : (if 0 ≤ K ∧ K < g.cards then (0 : Int) else 2) = 0
  p1 : P ≤ n
  p2 : n < P + g.rw
  p0 : 0 ≤ P
  q1 : Q ≤ n
  q2 : n < Q + g.cw
  q0 : 0 ≤ Q
  q3 : Q + g.cw ≤ g.words
  rq : g.regionOf Q = R
  rl : g.regionOf (Q + g.cw - 1) = R
theorem places {g : Geo} {s k : Nat} (ok : g.Ok s k) {n : Int} (h0 : 0 ≤ n) (h1 : n < g.words) : ∃ R K P Q, Places g n R K P Q := by
  have p0 : 0 < g.rw := by rw [ok.rw]; exact pw_pos _
  have c0 : 0 < g.cw := by rw [ok.cw]; exact pw_pos _
  have hw : g.regions * g.rw = g.words := by rw [ok.rw]; exact ok.words.symm
  have hc : g.cards * g.cw = g.words := by rw [ok.cw]; exact ok.cards
  have hd : ∃ d, 0 < d ∧ g.rw = g.cw * d := ⟨pw ((s : Int) - k), pw_pos _, by
    have := ok.ks
    rw [ok.rw, ok.cw, ← pw_add (by omega) (by omega)]; congr 1; omega⟩
  obtain ⟨d, d0, hd⟩ := hd
  have r0 : 0 ≤ n / g.rw := Int.ediv_nonneg h0 (by omega)
  have r1 : n / g.rw < g.regions := by rw [Int.ediv_lt_iff_lt_mul p0, hw]; exact h1
  have k0 : 0 ≤ n / g.cw := Int.ediv_nonneg h0 (by omega)
  have k1 : n / g.cw < g.cards := by rw [Int.ediv_lt_iff_lt_mul c0, hc]; exact h1
  have a1 := Int.ediv_mul_le n (b := g.rw) (by omega)
  have a2 := Int.lt_ediv_add_one_mul_self n p0
  have a3 := Int.ediv_mul_le n (b := g.cw) (by omega)
  have a4 := Int.lt_ediv_add_one_mul_self n c0
  have a5 : (n / g.rw + 1) * g.rw = n / g.rw * g.rw + g.rw := by rw [Int.add_mul, Int.one_mul]
  have a6 : (n / g.cw + 1) * g.cw = n / g.cw * g.cw + g.cw := by rw [Int.add_mul, Int.one_mul]
  have a7 : 0 ≤ n / g.rw * g.rw := Int.mul_nonneg r0 (by omega)
  have a8 : 0 ≤ n / g.cw * g.cw := Int.mul_nonneg k0 (by omega)
  have a9 : n / g.cw * g.cw + g.cw ≤ g.words := by
    rw [← a6, ← hc]
    exact Int.mul_le_mul_of_nonneg_right (by omega) (by omega)
  have b1 : n / g.cw * g.cw / g.rw = n / g.rw := by
    rw [hd, ← Int.ediv_ediv_of_nonneg (by omega), ← Int.ediv_ediv_of_nonneg (by omega), Int.mul_ediv_cancel _ (by omega)]
  have b2 : (n / g.cw * g.cw + g.cw - 1) / g.rw = n / g.rw := by
    have e : (n / g.cw * g.cw + g.cw - 1) / g.cw = n / g.cw := by
      rw [show n / g.cw * g.cw + g.cw - 1 = (g.cw - 1) + n / g.cw * g.cw by omega, Int.add_mul_ediv_right _ _ (by omega), Int.ediv_eq_zero_of_lt (by omega) (by omega)]
      omega
    rw [hd, ← Int.ediv_ediv_of_nonneg (by omega), ← Int.ediv_ediv_of_nonneg (by omega), e]
  refine ⟨n / g.rw, n / g.cw, n / g.rw * g.rw, n / g.cw * g.cw, ?_⟩
  constructor
  · unfold Geo.regionOf; rw [if_pos ⟨h0, h1⟩]
  · unfold Geo.cardOf; rw [if_pos ⟨h0, h1⟩]
  · rw [if_pos ⟨r0, r1⟩]
  · rw [if_pos ⟨r0, r1⟩]
  · rw [if_pos ⟨k0, k1⟩]
  · rw [if_pos ⟨k0, k1⟩]
  · exact a1
  · omega
  · exact a7
  · exact a3
  · omega
  · exact a8
  · exact a9
  · unfold Geo.regionOf; rw [if_pos ⟨a8, by omega⟩, b1]
  · unfold Geo.regionOf; rw [if_pos ⟨by omega, by omega⟩, b2]
theorem cross_facts {g : Geo} {n m : Int} (h2 : 0 ≤ n) (h3 : n < g.words) (h0 : 0 ≤ m) (h1 : m < g.words) : g.crossB n m = (g.regionOf m != g.regionOf n) ∧ g.crossB m n = (g.regionOf m != g.regionOf n) := by
  unfold Geo.crossB Geo.regionOf
  rw [if_pos ⟨h0, h1⟩, if_pos ⟨h2, h3⟩]
  simp only [h0, h1, h2, h3, decide_true, Bool.true_and]
  constructor
  · rw [Bool.eq_iff_iff, decide_eq_true_eq, bne_iff_ne]; exact ⟨fun h e => h e.symm, fun h e => h e.symm⟩
  · rw [Bool.eq_iff_iff, decide_eq_true_eq, bne_iff_ne]
set_option maxRecDepth 100000 in
set_option maxHeartbeats 4800000 in
theorem walk (c : Cfg) (a b : Int) (a0 : -9223372036854775808 ≤ a) (a1 : a ≤ 9223372036854775807) (b0 : -9223372036854775808 ≤ b) (bb : b ≤ 9223372036854775807) (w : World) (hT : Tab w) :
    Calls Tryd.prog 4 #[c.val, .int .i64 a, .int .i64 b] w fun e w' => e = .returned (.bool true) ∧ Fr [] w w' := by
  have HT := hide hT
  have hn := new_any c
  obtain ⟨g, E, e1, e2, hway⟩ := cfg_ways c
  rw [e1, e2] at hn
  have HN := hide hn
  clear hn e1 e2 hT
  have HWAY := hide hway
  clear hway
  unfold Cfg.val
  go_enter Tryd.func4, Tryd.ntmps4
  go_wp2_with fail
  refine (awake_any _ (HT.out.alloc _)).mono ?_
  rintro e w1 ⟨rfl, hf1⟩
  have hb := CfgAt.of ((Blk.new w 23 c.cells).fr hf1 (by simp))
  obtain ⟨d0, d1, d2, d3, d4, d5, d6, d7, d8, d9, d10, d11, d12, d13⟩ := hb
  have HT1 := hide ((HT.out.alloc (.cells c.cells 23)).fr hf1 (by simp))
  have HF1 : Hid (Fr [] w w1) := ((Fr.refl _ _).alloc _).trans_same hf1
  clear hf1
  go_wp2_with fail
  refine (HN.out _).mono ?_
  rintro e w2 ⟨rfl, hf2⟩
  have HT2 := hide (HT1.out.fr hf2 (by simp))
  have HF2 : Hid (Fr [] w w2) := HF1.out.trans_same hf2
  clear hf2 d0 d1 d2 d3 d4 d5 d6 d7 d8 d9 d10 d11 d12 d13
  unfold Geo.val
  rcases HWAY.out with ⟨rfl, s, k, ok⟩ | ⟨rfl, rfl⟩
  · have hW1 : g.words ≤ 4194304 := ok.wmax
    have hR2 : 0 < g.regions := by have := ok.r2; omega
    have hrw0 : 0 < g.rw := by rw [ok.rw]; exact pw_pos _
    have hrw1 : g.rw ≤ 4194304 := ok.rw_max
    have hcw0 : 0 < g.cw := by rw [ok.cw]; exact pw_pos _
    have hcw1 : g.cw ≤ 4194304 := ok.cw_max
    have hw : g.regions * g.rw = g.words := by rw [ok.rw]; exact ok.words.symm
    have hc : g.cards * g.cw = g.words := by rw [ok.cw]; exact ok.cards
    have hW0 : 0 < g.words := by rw [← hw]; exact Int.mul_pos hR2 hrw0
    have OK := hide ok
    have HWW := hide hw
    have HCC := hide hc
    clear ok hw hc hR2
    obtain ⟨z, hz⟩ : ∃ z, a.tmod g.words = z := ⟨_, rfl⟩
    obtain ⟨y, hy⟩ : ∃ y, b.tmod g.words = y := ⟨_, rfl⟩
    have hzb := tmod_bd a hW0
    have hyb := tmod_bd b hW0
    rw [hz] at hzb
    rw [hy] at hyb
    obtain ⟨z0, z1⟩ := hzb
    obtain ⟨y0, y1⟩ := hyb
    obtain ⟨n, hn⟩ : ∃ n, (z + g.words) % g.words = n := ⟨_, rfl⟩
    obtain ⟨m, hm⟩ : ∃ m, (y + g.words) % g.words = m := ⟨_, rfl⟩
    have n0 : 0 ≤ n := by rw [← hn]; exact Int.emod_nonneg _ (by omega)
    have n1 : n < g.words := by rw [← hn]; exact Int.emod_lt_of_pos _ hW0
    have m0 : 0 ≤ m := by rw [← hm]; exact Int.emod_nonneg _ (by omega)
    have m1 : m < g.words := by rw [← hm]; exact Int.emod_lt_of_pos _ hW0
    have ez : IntKind.i64.wrap (z + g.words) = z + g.words := IntWalk.i64_in _ (by omega)
    have ey : IntKind.i64.wrap (y + g.words) = y + g.words := IntWalk.i64_in _ (by omega)
    have tz : (z + g.words).tmod g.words = n := by rw [Int.tmod_eq_emod_of_nonneg (by omega)]; exact hn
    have ty : (y + g.words).tmod g.words = m := by rw [Int.tmod_eq_emod_of_nonneg (by omega)]; exact hm
    obtain ⟨u, hu⟩ : ∃ u : Cls (OneC w w2.heap.size g), u.w = w2.alloc (.cells g.cells 26) :=
      ⟨⟨_, GeoAt.of (Blk.new w2 26 g.cells), HT2.out.alloc _, HF2.out.alloc _⟩, rfl⟩
    unfold Geo.cells at hu
    go_wp2_with fail
    rw [← hu]
    clear hu
    generalize w2.heap.size = b1 at *
    have c0 : ∀ u : Cls (OneC w b1 g), u.w.cell? ⟨b1, 0, none⟩ = some (.int .i64 g.words) := fun u => u.ok.1.c0
    have c1 : ∀ u : Cls (OneC w b1 g), u.w.cell? ⟨b1, 1, none⟩ = some (.int .i64 g.rw) := fun u => u.ok.1.c1
    have c2 : ∀ u : Cls (OneC w b1 g), u.w.cell? ⟨b1, 2, none⟩ = some (.int .i64 g.cw) := fun u => u.ok.1.c2
    have c3 : ∀ u : Cls (OneC w b1 g), u.w.cell? ⟨b1, 3, none⟩ = some (.int .i64 g.regions) := fun u => u.ok.1.c3
    have c4 : ∀ u : Cls (OneC w b1 g), u.w.cell? ⟨b1, 4, none⟩ = some (.int .i64 g.cards) := fun u => u.ok.1.c4
    have c5 : ∀ u : Cls (OneC w b1 g), u.w.cell? ⟨b1, 5, none⟩ = some (.int .i64 g.max) := fun u => u.ok.1.c5
    have S2 := hide (OneC.stable w b1 g)
    have HX : Nonempty (Cls (OneC w b1 g)) := ⟨u⟩
    refine wp_region_cls (OneC w b1 g) (by kernel_rfl) (by kernel_rfl) (Cls.drew S2.out u) ?_
    repeat (go_big_quiet_step (fail))
    refine wpQuiet_nil ?_
    rintro _ ⟨u, rfl⟩
    go_wp2_with fail
    refine wp_region_cls (OneC w b1 g) (by kernel_rfl) (by kernel_rfl) (Cls.drew S2.out u) ?_
    repeat (go_big_quiet_step (fail))
    refine wpQuiet_nil ?_
    rintro _ ⟨u, rfl⟩
    clear hn hm hz hy ez ey tz ty z0 z1 y0 y1 a0 a1 b0 bb HN HWAY
    obtain ⟨R, K, P, Q, pl⟩ := places OK.out n0 n1
    obtain ⟨M, hM⟩ : ∃ M, g.regionOf m = M := ⟨_, rfl⟩
    obtain ⟨v1, v2⟩ := cross_facts n0 n1 m0 m1
    rw [pl.r, hM] at v1 v2
    have PL := hide pl
    have HM := hide hM
    have V1 := hide v1
    have V2 := hide v2
    obtain ⟨-, -, -, -, -, -, p1, p2, p0, q1, q2, q0, q3, -, -⟩ := pl
    clear hM v1 v2
    have R1 : Hid (∀ u : Cls (OneC w b1 g), Calls Tryd.prog 13 #[.agg #[.int .i64 g.words, .int .i64 g.rw, .int .i64 g.cw, .int .i64 g.regions, .int .i64 g.cards, .int .i64 g.max], .int .i64 n] u.w fun e w'' => e = .returned (.int .i64 R) ∧ ∃ u' : Cls (OneC w b1 g), w'' = u'.w) := fun u => by
      have := region_any g OK.out n u.w u.ok.2.1; rw [PL.out.r] at this; exact Cls.grows S2.out this
    have R2 : Hid (∀ u : Cls (OneC w b1 g), Calls Tryd.prog 13 #[.agg #[.int .i64 g.words, .int .i64 g.rw, .int .i64 g.cw, .int .i64 g.regions, .int .i64 g.cards, .int .i64 g.max], .int .i64 Q] u.w fun e w'' => e = .returned (.int .i64 R) ∧ ∃ u' : Cls (OneC w b1 g), w'' = u'.w) := fun u => by
      have := region_any g OK.out Q u.w u.ok.2.1; rw [PL.out.rq] at this; exact Cls.grows S2.out this
    have R3 : Hid (∀ u : Cls (OneC w b1 g), Calls Tryd.prog 13 #[.agg #[.int .i64 g.words, .int .i64 g.rw, .int .i64 g.cw, .int .i64 g.regions, .int .i64 g.cards, .int .i64 g.max], .int .i64 (Q + g.cw - 1)] u.w fun e w'' => e = .returned (.int .i64 R) ∧ ∃ u' : Cls (OneC w b1 g), w'' = u'.w) := fun u => by
      have := region_any g OK.out (Q + g.cw - 1) u.w u.ok.2.1; rw [PL.out.rl] at this; exact Cls.grows S2.out this
    have R4 : Hid (∀ u : Cls (OneC w b1 g), Calls Tryd.prog 13 #[.agg #[.int .i64 g.words, .int .i64 g.rw, .int .i64 g.cw, .int .i64 g.regions, .int .i64 g.cards, .int .i64 g.max], .int .i64 m] u.w fun e w'' => e = .returned (.int .i64 M) ∧ ∃ u' : Cls (OneC w b1 g), w'' = u'.w) := fun u => by
      have := region_any g OK.out m u.w u.ok.2.1; rw [HM.out] at this; exact Cls.grows S2.out this
    have K1 : Hid (∀ u : Cls (OneC w b1 g), Calls Tryd.prog 15 #[.agg #[.int .i64 g.words, .int .i64 g.rw, .int .i64 g.cw, .int .i64 g.regions, .int .i64 g.cards, .int .i64 g.max], .int .i64 n] u.w fun e w'' => e = .returned (.int .i64 K) ∧ ∃ u' : Cls (OneC w b1 g), w'' = u'.w) := fun u => by
      have := card_any g OK.out n u.w u.ok.2.1; rw [PL.out.k] at this; exact Cls.grows S2.out this
    have B1 : Hid (∀ u : Cls (OneC w b1 g), Calls Tryd.prog 9 #[.agg #[.int .i64 g.words, .int .i64 g.rw, .int .i64 g.cw, .int .i64 g.regions, .int .i64 g.cards, .int .i64 g.max], .int .i64 R] u.w fun e w'' => e = .returned (.tuple #[.int .i64 P, .int .i64 0]) ∧ ∃ u' : Cls (OneC w b1 g), w'' = u'.w) := fun u => by
      have := base_any g OK.out R u.w u.ok.2.1; rw [PL.out.p, PL.out.pe] at this; exact Cls.grows S2.out this
    have F1 : Hid (∀ u : Cls (OneC w b1 g), Calls Tryd.prog 11 #[.agg #[.int .i64 g.words, .int .i64 g.rw, .int .i64 g.cw, .int .i64 g.regions, .int .i64 g.cards, .int .i64 g.max], .int .i64 K] u.w fun e w'' => e = .returned (.tuple #[.int .i64 Q, .int .i64 0]) ∧ ∃ u' : Cls (OneC w b1 g), w'' = u'.w) := fun u => by
      have := first_any g OK.out K u.w u.ok.2.1; rw [PL.out.q, PL.out.qe] at this; exact Cls.grows S2.out this
    have X1 : Hid (∀ u : Cls (OneC w b1 g), Calls Tryd.prog 17 #[.agg #[.int .i64 g.words, .int .i64 g.rw, .int .i64 g.cw, .int .i64 g.regions, .int .i64 g.cards, .int .i64 g.max], .int .i64 n, .int .i64 m] u.w fun e w'' => e = .returned (.bool (M != R)) ∧ ∃ u' : Cls (OneC w b1 g), w'' = u'.w) := fun u => by
      have := cross_any g OK.out n m u.w u.ok.2.1; rw [V1.out] at this; exact Cls.grows S2.out this
    have X2 : Hid (∀ u : Cls (OneC w b1 g), Calls Tryd.prog 17 #[.agg #[.int .i64 g.words, .int .i64 g.rw, .int .i64 g.cw, .int .i64 g.regions, .int .i64 g.cards, .int .i64 g.max], .int .i64 m, .int .i64 n] u.w fun e w'' => e = .returned (.bool (M != R)) ∧ ∃ u' : Cls (OneC w b1 g), w'' = u'.w) := fun u => by
      have := cross_any g OK.out m n u.w u.ok.2.1; rw [V2.out] at this; exact Cls.grows S2.out this
    go_wp2_with (first
      | (go_at_call 13; (first | (with_reducible refine (R1.out _).mono ?_) | (with_reducible refine (R2.out _).mono ?_) | (with_reducible refine (R3.out _).mono ?_)); rintro e w' ⟨rfl, u, rfl⟩)
      | (go_at_call 15; refine (K1.out _).mono ?_; rintro e w' ⟨rfl, u, rfl⟩)
      | (go_at_call 9; refine (B1.out _).mono ?_; rintro e w' ⟨rfl, u, rfl⟩)
      | (go_at_call 11; refine (F1.out _).mono ?_; rintro e w' ⟨rfl, u, rfl⟩))
    have hww := HWW.out
    have hcc := HCC.out
    refine wp_region_cls (OneC w b1 g) (by kernel_rfl) (by kernel_rfl) (Cls.drew S2.out u) ?_
    repeat (go_big_quiet_step ((first | (go_at_call 13; exact R4.out _) | (go_at_call 17; first | (with_reducible exact X1.out _) | (with_reducible exact X2.out _)))))
    refine wpQuiet_nil ?_
    rintro _ ⟨u, rfl⟩
    go_wp2_with fail
    go_ret
    exact ⟨rfl, u.ok.2.2⟩
  · go_wp2_with fail
    go_ret
    exact ⟨rfl, HF2.out.alloc _⟩
end Go.Proofs.YtnpgkingfppnhaaDoor.GeomPlaces
