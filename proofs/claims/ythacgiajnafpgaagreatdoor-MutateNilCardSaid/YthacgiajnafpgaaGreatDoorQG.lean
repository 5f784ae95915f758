/- The package geom: what each of its calls answers. -/
import Derived.Test.YthacgiajnafpgaaGreatDoorQTz
import Derived.Test.YthacgiajnafpgaaGreatDoorQGeo
namespace Go.Proofs.YthacgiajnafpgaaGreatDoor
set_option linter.unusedVariables false
open Go.RowKit Go.Gl

theorem within_any (n lo hi : Int) (w : World) : Calls Tryz.prog 183 #[.int .i64 n, .int .i64 lo, .int .i64 hi] w fun e w' => e = .returned (.bool (wiB n lo hi)) ∧ w = w' := by
  go_enter Tryz.func183, Tryz.ntmps183
  go_wp2
  all_goals
    go_ret
    exact ⟨ret_bool (by unfold wiB; first | (simp [*]; done) | (simp; omega)), rfl⟩
theorem shiftOf_any (k : Nat) (hk : k < 63) (w : World) (hT : Tab w) : Calls Tryz.prog 65 #[.int .i64 (pw k)] w fun e w' => e = .returned (.int .u64 (k : Int)) ∧ w = w' := by
  rw [pw_nat]
  have hc := ctz_pow k (by omega)
  have h1 : 2 ^ k < 9223372036854775808 := Nat.pow_lt_pow_of_lt (a := 2) (n := k) (m := 63) (by decide) hk
  have h0 : 0 < 2 ^ k := Nat.two_pow_pos k
  have ht := tz_any (2 ^ k) (by omega) h0 w hT
  rw [hc] at ht
  generalize 2 ^ k = x at *
  have HT := hide ht
  clear ht hc hT
  go_enter Tryz.func65, Tryz.ntmps65
  go_wp2_with fail
  refine HT.out.mono ?_
  rintro e w' ⟨rfl, rfl⟩
  go_wp2_with fail
  go_ret
  exact ⟨rfl, rfl⟩
theorem isWord_any (g : Geo) (a : Int) (w : World) : Calls Tryz.prog 64 #[g.val, .int .i64 a] w fun e w' => e = .returned (.bool (decide (0 ≤ a) && decide (a < g.words))) ∧ Fr [] w w' := by
  unfold Geo.val
  go_enter Tryz.func64, Tryz.ntmps64
  go_wp2
  all_goals
    go_ret
    exact ⟨ret_bool (by first | (simp [*]; done) | (simp; omega)), (Fr.refl _ _).alloc _⟩
theorem region_any (g : Geo) {s k : Nat} (ok : g.Ok s k) (a : Int) (w : World) (hT : Tab w) :
    Calls Tryz.prog 37 #[g.val, .int .i64 a] w fun e w' => e = .returned (.int .i64 (g.regionOf a)) ∧ Fr [] w w' := by
  have HT := hide hT
  have hsz := ok.s20
  have HR := hide ok.rw
  clear hT
  by_cases h : 0 ≤ a ∧ a < g.words
  · have HV : Hid (a / g.rw = g.regionOf a) := by unfold Geo.regionOf; rw [if_pos h]; exact rfl
    obtain ⟨h0, h1⟩ := h
    have hw := isWord_any g a
    rw [decide_eq_true h0, decide_eq_true h1] at hw
    have HW := hide hw
    clear hw ok
    unfold Geo.val
    go_enter Tryz.func37, Tryz.ntmps37
    go_wp2_with fail
    refine (HW.out _).mono ?_
    rintro e w1 ⟨rfl, hf⟩
    have hg := GeoAt.of ((Blk.new w 40 g.cells).fr hf (by simp))
    have HT1 := hide ((HT.out.alloc _).fr hf (by simp))
    have c1 := hg.c1
    rw [HR.out] at c1
    have HF := hide hf
    clear hf hg
    go_wp2_with fail
    refine (shiftOf_any s (by omega) _ HT1.out).mono ?_
    rintro e w' ⟨rfl, rfl⟩
    go_wp2_with fail
    go_ret
    exact ⟨ret_int (by rw [← HV.out, HR.out, pw_pow]), ((Fr.refl _ _).alloc _).trans_same HF.out⟩
  · have HV : Hid (-1 = g.regionOf a) := by unfold Geo.regionOf; rw [if_neg h]; exact rfl
    have hw := isWord_any g a
    have hb : (decide (0 ≤ a) && decide (a < g.words)) = false := by
      rw [Bool.and_eq_false_iff, decide_eq_false_iff_not, decide_eq_false_iff_not]; omega
    rw [hb] at hw
    have HW := hide hw
    clear hw ok hb h
    unfold Geo.val
    go_enter Tryz.func37, Tryz.ntmps37
    go_wp2_with fail
    refine (HW.out _).mono ?_
    rintro e w1 ⟨rfl, hf⟩
    have HF := hide hf
    clear hf
    go_wp2_with fail
    go_ret
    exact ⟨ret_int HV.out, ((Fr.refl _ _).alloc _).trans_same HF.out⟩
theorem card_any (g : Geo) {s k : Nat} (ok : g.Ok s k) (a : Int) (w : World) (hT : Tab w) :
    Calls Tryz.prog 20 #[g.val, .int .i64 a] w fun e w' => e = .returned (.int .i64 (g.cardOf a)) ∧ Fr [] w w' := by
  have HT := hide hT
  have hsz := ok.k20
  have HR := hide ok.cw
  clear hT
  by_cases h : 0 ≤ a ∧ a < g.words
  · have HV : Hid (a / g.cw = g.cardOf a) := by unfold Geo.cardOf; rw [if_pos h]; exact rfl
    obtain ⟨h0, h1⟩ := h
    have hw := isWord_any g a
    rw [decide_eq_true h0, decide_eq_true h1] at hw
    have HW := hide hw
    clear hw ok
    unfold Geo.val
    go_enter Tryz.func20, Tryz.ntmps20
    go_wp2_with fail
    refine (HW.out _).mono ?_
    rintro e w1 ⟨rfl, hf⟩
    have hg := GeoAt.of ((Blk.new w 40 g.cells).fr hf (by simp))
    have HT1 := hide ((HT.out.alloc _).fr hf (by simp))
    have c1 := hg.c2
    rw [HR.out] at c1
    have HF := hide hf
    clear hf hg
    go_wp2_with fail
    refine (shiftOf_any k (by omega) _ HT1.out).mono ?_
    rintro e w' ⟨rfl, rfl⟩
    go_wp2_with fail
    go_ret
    exact ⟨ret_int (by rw [← HV.out, HR.out, pw_pow]), ((Fr.refl _ _).alloc _).trans_same HF.out⟩
  · have HV : Hid (-1 = g.cardOf a) := by unfold Geo.cardOf; rw [if_neg h]; exact rfl
    have hw := isWord_any g a
    have hb : (decide (0 ≤ a) && decide (a < g.words)) = false := by
      rw [Bool.and_eq_false_iff, decide_eq_false_iff_not, decide_eq_false_iff_not]; omega
    rw [hb] at hw
    have HW := hide hw
    clear hw ok hb h
    unfold Geo.val
    go_enter Tryz.func20, Tryz.ntmps20
    go_wp2_with fail
    refine (HW.out _).mono ?_
    rintro e w1 ⟨rfl, hf⟩
    have HF := hide hf
    clear hf
    go_wp2_with fail
    go_ret
    exact ⟨ret_int HV.out, ((Fr.refl _ _).alloc _).trans_same HF.out⟩
theorem base_any (g : Geo) {s k : Nat} (ok : g.Ok s k) (a : Int) (w : World) (hT : Tab w) :
    Calls Tryz.prog 121 #[g.val, .int .i64 a] w fun e w' => e = .returned (.tuple #[.int .i64 (if 0 ≤ a ∧ a < g.regions then a * g.rw else 0), .int .i64 (if 0 ≤ a ∧ a < g.regions then 0 else 2)]) ∧ Fr [] w w' := by
  have HT := hide hT
  have hsz := ok.s20
  have HR := hide ok.rw
  clear hT
  by_cases h : 0 ≤ a ∧ a < g.regions
  · have hm := ok.base_max h.1 h.2
    rw [if_pos h, if_pos h]
    obtain ⟨h0, h1⟩ := h
    have HM := hide hm
    clear hm ok
    unfold Geo.val
    go_enter Tryz.func121, Tryz.ntmps121
    go_wp2_with fail
    rw [HR.out]
    refine (shiftOf_any s (by omega) _ (HT.out.alloc _)).mono ?_
    rintro e w' ⟨rfl, rfl⟩
    go_wp2_with fail
    go_ret2
    exact ⟨ret_ii (by rw [pw_pow, ← HR.out]; exact IntWalk.wrap64_in _ ⟨by have := HM.out; omega, by have := HM.out; omega⟩) rfl, (Fr.refl _ _).alloc _⟩
  · rw [if_neg h, if_neg h]
    clear ok
    by_cases h0 : a < 0
    · unfold Geo.val
      go_enter Tryz.func121, Tryz.ntmps121
      go_wp2_with fail
      go_ret2
      exact ⟨ret_ii rfl rfl, (Fr.refl _ _).alloc _⟩
    · have h1 : g.regions ≤ a := by omega
      unfold Geo.val
      go_enter Tryz.func121, Tryz.ntmps121
      go_wp2_with fail
      go_ret2
      exact ⟨ret_ii rfl rfl, (Fr.refl _ _).alloc _⟩
theorem big_any (g : Geo) (n : Int) (w : World) (h0 : 0 ≤ g.rw) : Calls Tryz.prog 147 #[g.val, .int .i64 n] w fun e w' => e = .returned (.bool (g.bigB n)) ∧ Fr [] w w' := by
  unfold Geo.val Geo.bigB
  go_enter Tryz.func147, Tryz.ntmps147
  go_wp2
  go_ret
  exact ⟨rfl, (Fr.refl _ _).alloc _⟩
end Go.Proofs.YthacgiajnafpgaaGreatDoor
/- The package geom: which configurations may be. -/
namespace Go.Proofs.YthacgiajnafpgaaGreatDoor
set_option linter.unusedVariables false
open Go.RowKit Go.Gl

theorem mayLie_any (c : Cfg) (w : World) : Calls Tryz.prog 182 #[c.val] w fun e w' => e = .returned (.bool (lieB c)) ∧ Fr [] w w' := by
  by_cases h1 : wiB c.shift 6 20 = true
  · have hs := wiB_iff.1 h1
    obtain ⟨s1, s2⟩ := hs
    obtain ⟨s, hs⟩ := Int.eq_ofNat_of_zero_le (show 0 ≤ c.shift by omega)
    have HV : Hid (lieB c = (wiB c.regions 2 65536 && (decide (c.regions ≤ 4194304 / pw s) && wiB c.cardShift 3 c.shift))) := by unfold lieB; rw [h1, hs]; rfl
    rw [hs] at HV h1 s1 s2
    unfold Cfg.val
    rw [hs]
    clear hs
    go_enter Tryz.func182, Tryz.ntmps182
    go_wp2_with (go_at_call 183; refine (within_any _ _ _ _).mono ?_; rintro e w' ⟨rfl, rfl⟩)
    all_goals
      go_ret
      refine ⟨ret_bool ?_, (Fr.refl _ _).alloc _⟩
      rw [HV.out, ← pw_pow]
    all_goals first
      | (simp [*]; done)
      | (have hlt := Int.not_le.2 ‹4194304 / 2 ^ s < c.regions›; simp [*])
  · have h1' : wiB c.shift 6 20 = false := by simpa using h1
    have HV : Hid (lieB c = false) := by unfold lieB; rw [h1']; rfl
    clear h1
    unfold Cfg.val
    go_enter Tryz.func182, Tryz.ntmps182
    go_wp2_with (go_at_call 183; refine (within_any _ _ _ _).mono ?_; rintro e w' ⟨rfl, rfl⟩)
    go_ret
    exact ⟨ret_bool HV.out.symm, (Fr.refl _ _).alloc _⟩
set_option maxHeartbeats 1600000 in
theorem mayBe_any (c : Cfg) (w : World) : Calls Tryz.prog 111 #[c.val] w fun e w' => e = .returned (.bool (mayB c)) ∧ Fr [] w w' := by
  have hl := mayLie_any c
  by_cases h1 : lieB c = true
  · rw [h1] at hl
    have HL := hide hl
    have HV : Hid (mayB c = (wiB c.threads 1 64 && (wiB c.roots 1 64 && (wiB c.refiners 0 8 && (wiB c.markers 0 8 && (wiB c.young 1 c.regions && (wiB c.tenure 0 7 && (wiB c.queue 0 65536 && (wiB c.stack 0 65536 && (wiB c.budget 0 4194304 && (wiB c.percent 0 100 && wiB c.fail 0 65536))))))))))) := by unfold mayB; rw [h1]; rfl
    clear hl h1
    unfold Cfg.val
    go_enter Tryz.func111, Tryz.ntmps111
    go_wp2_with fail
    refine (HL.out _).mono ?_
    rintro e w1 ⟨rfl, hf⟩
    have hg := CfgAt.of ((Blk.new w 23 c.cells).fr hf (by simp))
    have HF : Hid (Fr [] w w1) := ((Fr.refl _ _).alloc _).trans_same hf
    clear hf
    obtain ⟨-, d1, -, d3, d4, d5, d6, d7, d8, d9, d10, d11, d12, d13⟩ := hg
    go_wp2_with (go_at_call 183; refine (within_any _ _ _ _).mono ?_; rintro e w' ⟨rfl, rfl⟩)
    all_goals
      go_ret
      refine ⟨ret_bool ?_, HF.out⟩
      rw [HV.out]
      clear d1 d3 d4 d5 d6 d7 d8 d9 d10 d11 d12 d13
      simp [*]
  · have h1' : lieB c = false := by simpa using h1
    have HV : Hid (mayB c = false) := by unfold mayB; rw [h1']; rfl
    rw [h1'] at hl
    have HL := hide hl
    clear hl h1 h1'
    unfold Cfg.val
    go_enter Tryz.func111, Tryz.ntmps111
    go_wp2_with fail
    refine (HL.out _).mono ?_
    rintro e w1 ⟨rfl, hf⟩
    have HF : Hid (Fr [] w w1) := ((Fr.refl _ _).alloc _).trans_same hf
    clear hf
    go_wp2_with fail
    go_ret
    exact ⟨ret_bool HV.out.symm, HF.out⟩
end Go.Proofs.YthacgiajnafpgaaGreatDoor
/- The package geom: New. -/
namespace Go.Proofs.YthacgiajnafpgaaGreatDoor
set_option linter.unusedVariables false
open Go.RowKit Go.Gl

theorem gnew_any (c : Cfg) (w : World) : Calls Tryz.prog 50 #[c.val] w fun e w' => e = .returned (.tuple #[c.ans.val, .int .i64 c.err]) ∧ Fr [] w w' := by
  have hl := mayBe_any c
  by_cases h1 : mayB c = true
  · rw [h1] at hl
    have HL := hide hl
    have ok := Cfg.geo_ok (mayB_lie h1)
    have hlie := lieB_iff.1 (mayB_lie h1)
    obtain ⟨⟨s1, s2⟩, ⟨r1, r2⟩, r3, k1, k2⟩ := hlie
    obtain ⟨s, hs⟩ := Int.eq_ofNat_of_zero_le (show 0 ≤ c.shift by omega)
    obtain ⟨k, hk⟩ := Int.eq_ofNat_of_zero_le (show 0 ≤ c.cardShift by omega)
    have HG := hide (Cfg.geo_val (mayB_lie h1) hs hk)
    clear ok r3
    rw [hs] at s1 s2 k2
    rw [hk] at k1 k2
    have HE : Hid (c.ans = c.geo ∧ c.err = 0) := by unfold Cfg.ans Cfg.err; rw [if_pos h1, if_pos h1]; exact ⟨rfl, rfl⟩
    clear hl h1
    unfold Cfg.val
    go_enter Tryz.func50, Tryz.ntmps50
    go_wp2_with fail
    rw [← hs, ← hk]
    refine (HL.out _).mono ?_
    rintro e w1 ⟨rfl, hf⟩
    have hc1 := ((Blk.new w 23 c.cells).alloc (.cells Geo.zero.cells 40)).fr hf (by simp)
    have hb : Blk w1 (w.heap.size + 1) 40 Geo.zero.cells := (Blk.new_at (w := w.alloc (.cells c.cells 23)) 40 Geo.zero.cells (by simp)).fr hf (by simp)
    obtain ⟨g0, g1, g2, -, -, -, -, -, -, -, -, -, -, -⟩ := CfgAt.of hc1
    have HF := hide hf
    obtain ⟨c0, c1, c2, c3, c4, c5⟩ := GeoAt.of hb
    have f0 := hb.frozen 0
    have f1 := hb.frozen 1
    have f2 := hb.frozen 2
    have f3 := hb.frozen 3
    have f4 := hb.frozen 4
    have f5 := hb.frozen 5
    rw [hs] at g0
    rw [hk] at g2
    clear hf hb hc1
    go_wp2_with fail
    go_quiet (fail)
    go_wp2_with fail
    · refine bodyPost_ret (v := .tuple #[.agg #[.int .i64 (wrap64 (c.regions * 2 ^ s)), .int .i64 (wrap64 (2 ^ s)), .int .i64 (wrap64 (2 ^ k)), .int .i64 c.regions, .int .i64 (wrap64 (c.regions * 2 ^ s) / 2 ^ k), .int .i64 (wrap64 ((c.regions - 1) * 2 ^ s))], .int .i64 0]) (by simp [results, Tryz.results50, go_sem, *]) rfl ⟨?_, ?_⟩
      · rw [HE.out.1, HE.out.2, HG.out _ (by rw [if_pos ‹_›])]
      · repeat (refine Fr.setCell ?_ (.inr (Nat.le_succ _)) _)
        exact ((((Fr.refl _ _).alloc _).alloc _).trans_same HF.out).drewN _
    · refine bodyPost_ret (v := .tuple #[.agg #[.int .i64 (wrap64 (c.regions * 2 ^ s)), .int .i64 (wrap64 (2 ^ s)), .int .i64 (wrap64 (2 ^ k)), .int .i64 c.regions, .int .i64 (wrap64 (c.regions * 2 ^ s) / 2 ^ k), .int .i64 1048576], .int .i64 0]) (by simp [results, Tryz.results50, go_sem, *]) rfl ⟨?_, ?_⟩
      · rw [HE.out.1, HE.out.2, HG.out 1048576 (by rw [if_neg (by omega)])]
      · repeat (refine Fr.setCell ?_ (.inr (Nat.le_succ _)) _)
        exact ((((Fr.refl _ _).alloc _).alloc _).trans_same HF.out).drewN _
  · have h1' : mayB c = false := by simpa using h1
    rw [h1'] at hl
    have HL := hide hl
    have HE : Hid (c.ans = Geo.zero ∧ c.err = 20) := by unfold Cfg.ans Cfg.err; rw [if_neg h1, if_neg h1]; exact ⟨rfl, rfl⟩
    clear hl h1 h1'
    unfold Cfg.val
    go_enter Tryz.func50, Tryz.ntmps50
    go_wp2_with fail
    refine (HL.out _).mono ?_
    rintro e w1 ⟨rfl, hf⟩
    have hb : Blk w1 (w.heap.size + 1) 40 Geo.zero.cells := (Blk.new_at (w := w.alloc (.cells c.cells 23)) 40 Geo.zero.cells (by simp)).fr hf (by simp)
    have HF := hide hf
    have HB := hide hb
    obtain ⟨c0, c1, c2, c3, c4, c5⟩ := GeoAt.of hb
    have f0 := hb.frozen 0
    have f1 := hb.frozen 1
    have f2 := hb.frozen 2
    have f3 := hb.frozen 3
    have f4 := hb.frozen 4
    have f5 := hb.frozen 5
    clear hf hb
    go_wp2_with fail
    refine bodyPost_ret (v := .tuple #[.agg #[.int .i64 0, .int .i64 0, .int .i64 0, .int .i64 0, .int .i64 0, .int .i64 0], .int .i64 20]) (by simp [results, Tryz.results50, go_sem, *]) rfl ⟨?_, ?_⟩
    · rw [HE.out.1, HE.out.2]; rfl
    · repeat (refine Fr.setCell ?_ (.inr (Nat.le_succ _)) _)
      exact (((Fr.refl _ _).alloc _).alloc _).trans_same HF.out
end Go.Proofs.YthacgiajnafpgaaGreatDoor
