/- The package geom: what each of its calls answers. -/
import Derived.Test.YtbaccleaakmenaaDoorTz
import Derived.Test.YtbaccleaakmenaaDoorGeo
namespace Go.Proofs.YtbaccleaakmenaaDoor
set_option linter.unusedVariables false
open Go.RowKit Go.Gl

theorem within_any (n lo hi : Int) (w : World) : Calls Tryd.prog 40 #[.int .i64 n, .int .i64 lo, .int .i64 hi] w fun e w' => e = .returned (.bool (wiB n lo hi)) ∧ w = w' := by
  go_enter Tryd.func40, Tryd.ntmps40
  go_wp2
  all_goals
    go_ret
    exact ⟨ret_bool (by unfold wiB; first | (simp [*]; done) | (simp; omega)), rfl⟩
theorem shiftOf_any (k : Nat) (hk : k < 63) (w : World) (hT : Tab w) : Calls Tryd.prog 32 #[.int .i64 (pw k)] w fun e w' => e = .returned (.int .u64 (k : Int)) ∧ w = w' := by
  rw [pw_nat]
  have hc := ctz_pow k (by omega)
  have h1 : 2 ^ k < 9223372036854775808 := Nat.pow_lt_pow_of_lt (a := 2) (n := k) (m := 63) (by decide) hk
  have h0 : 0 < 2 ^ k := Nat.two_pow_pos k
  have ht := tz_any (2 ^ k) (by omega) h0 w hT
  rw [hc] at ht
  generalize 2 ^ k = x at *
  have HT := hide ht
  clear ht hc hT
  go_enter Tryd.func32, Tryd.ntmps32
  go_wp2_with fail
  refine HT.out.mono ?_
  rintro e w' ⟨rfl, rfl⟩
  go_wp2_with fail
  go_ret
  exact ⟨rfl, rfl⟩
theorem isWord_any (g : Geo) (a : Int) (w : World) : Calls Tryd.prog 31 #[g.val, .int .i64 a] w fun e w' => e = .returned (.bool (decide (0 ≤ a) && decide (a < g.words))) ∧ Fr [] w w' := by
  unfold Geo.val
  go_enter Tryd.func31, Tryd.ntmps31
  go_wp2
  all_goals
    go_ret
    exact ⟨ret_bool (by first | (simp [*]; done) | (simp; omega)), (Fr.refl _ _).alloc _⟩
theorem region_any (g : Geo) {s k : Nat} (ok : g.Ok s k) (a : Int) (w : World) (hT : Tab w) :
    Calls Tryd.prog 19 #[g.val, .int .i64 a] w fun e w' => e = .returned (.int .i64 (g.regionOf a)) ∧ Fr [] w w' := by
  have HT := hide hT
  have hsz := ok.s20
  have HR := hide ok.rw
  clear hT
  by_cases h : 0 ≤ a ∧ a < g.words
  · have HV : Hid (a / g.rw = g.regionOf a) := by unfold Geo.regionOf; rw [if_pos h]; exact rfl
    obtain ⟨h0, h1⟩ := h
    have hw := isWord_any g a
    rw [decide_eq_true h0, decide_eq_true h1] at hw
    have HW := hide hw
    clear hw ok
    unfold Geo.val
    go_enter Tryd.func19, Tryd.ntmps19
    go_wp2_with fail
    refine (HW.out _).mono ?_
    rintro e w1 ⟨rfl, hf⟩
    have hg := GeoAt.of ((Blk.new w 25 g.cells).fr hf (by simp))
    have HT1 := hide ((HT.out.alloc _).fr hf (by simp))
    have c1 := hg.c1
    rw [HR.out] at c1
    have HF := hide hf
    clear hf hg
    go_wp2_with fail
    refine (shiftOf_any s (by omega) _ HT1.out).mono ?_
    rintro e w' ⟨rfl, rfl⟩
    go_wp2_with fail
    go_ret
    exact ⟨ret_int (by rw [← HV.out, HR.out, pw_pow]), ((Fr.refl _ _).alloc _).trans_same HF.out⟩
  · have HV : Hid (-1 = g.regionOf a) := by unfold Geo.regionOf; rw [if_neg h]; exact rfl
    have hw := isWord_any g a
    have hb : (decide (0 ≤ a) && decide (a < g.words)) = false := by
      rw [Bool.and_eq_false_iff, decide_eq_false_iff_not, decide_eq_false_iff_not]; omega
    rw [hb] at hw
    have HW := hide hw
    clear hw ok hb h
    unfold Geo.val
    go_enter Tryd.func19, Tryd.ntmps19
    go_wp2_with fail
    refine (HW.out _).mono ?_
    rintro e w1 ⟨rfl, hf⟩
    have HF := hide hf
    clear hf
    go_wp2_with fail
    go_ret
    exact ⟨ret_int HV.out, ((Fr.refl _ _).alloc _).trans_same HF.out⟩
theorem cross_any (g : Geo) {s k : Nat} (ok : g.Ok s k) (a b : Int) (w : World) (hT : Tab w) :
    Calls Tryd.prog 28 #[g.val, .int .i64 a, .int .i64 b] w fun e w' => e = .returned (.bool (g.crossB a b)) ∧ Fr [] w w' := by
  have HT := hide hT
  have hsz := ok.s20
  have HR := hide ok.rw
  have HM := hide ok.wmax
  clear hT
  have hwa := isWord_any g a
  have hwb := isWord_any g b
  by_cases ha : (decide (0 ≤ a) && decide (a < g.words)) = true
  · by_cases hb : (decide (0 ≤ b) && decide (b < g.words)) = true
    · rw [ha] at hwa
      rw [hb] at hwb
      have HA := hide hwa
      have HB := hide hwb
      have HV : Hid (g.crossB a b = decide (a / g.rw ≠ b / g.rw)) := by unfold Geo.crossB; rw [ha, hb]; rfl
      simp only [Bool.and_eq_true, decide_eq_true_eq] at ha hb
      obtain ⟨a0, a1⟩ := ha
      obtain ⟨b0, b1⟩ := hb
      clear hwa hwb ok
      unfold Geo.val
      go_enter Tryd.func28, Tryd.ntmps28
      go_wp2_with fail
      refine (HA.out _).mono ?_
      rintro e w1 ⟨rfl, hf⟩
      have hg := GeoAt.of ((Blk.new w 25 g.cells).fr hf (by simp))
      have HT1 := hide ((HT.out.alloc _).fr hf (by simp))
      have HF : Hid (Fr [] w w1) := ((Fr.refl _ _).alloc _).trans_same hf
      obtain ⟨c0, c1, c2, c3, c4, c5⟩ := hg
      go_wp2_with fail
      refine (HB.out _).mono ?_
      rintro e w2 ⟨rfl, hf2⟩
      have c1' := (hf2.cell (p := ⟨w.heap.size, 1, none⟩) (lt_of_cell c1) (by simp)).trans c1
      have HT2 := hide (HT1.out.fr hf2 (by simp))
      have HF2 : Hid (Fr [] w w2) := HF.out.trans_same hf2
      clear hf2 hf c0 c1 c2 c3 c4 c5
      rw [HR.out] at c1'
      go_wp2_with fail
      refine (shiftOf_any s (by omega) _ HT2.out).mono ?_
      rintro e w' ⟨rfl, rfl⟩
      go_wp2_with fail
      go_ret
      refine ⟨ret_bool ?_, HF2.out⟩
      have := HM.out
      rw [HV.out, HR.out, ← xor_cross a b s a0 (by omega) b0 (by omega)]
    · have hb' : (decide (0 ≤ b) && decide (b < g.words)) = false := by simpa using hb
      rw [ha] at hwa
      rw [hb'] at hwb
      have HA := hide hwa
      have HB := hide hwb
      have HV : Hid (g.crossB a b = false) := by unfold Geo.crossB; rw [ha, hb']; rfl
      clear hwa hwb ok ha hb hb'
      unfold Geo.val
      go_enter Tryd.func28, Tryd.ntmps28
      go_wp2_with fail
      refine (HA.out _).mono ?_
      rintro e w1 ⟨rfl, hf⟩
      have hg := GeoAt.of ((Blk.new w 25 g.cells).fr hf (by simp))
      have HF : Hid (Fr [] w w1) := ((Fr.refl _ _).alloc _).trans_same hf
      obtain ⟨c0, c1, c2, c3, c4, c5⟩ := hg
      clear hf
      go_wp2_with fail
      refine (HB.out _).mono ?_
      rintro e w2 ⟨rfl, hf2⟩
      have HF2 : Hid (Fr [] w w2) := HF.out.trans_same hf2
      clear hf2 c0 c1 c2 c3 c4 c5
      go_wp2_with fail
      go_ret
      exact ⟨ret_bool HV.out.symm, HF2.out⟩
  · have ha' : (decide (0 ≤ a) && decide (a < g.words)) = false := by simpa using ha
    rw [ha'] at hwa
    have HA := hide hwa
    have HV : Hid (g.crossB a b = false) := by unfold Geo.crossB; rw [ha']; rfl
    clear hwa hwb ok ha ha'
    unfold Geo.val
    go_enter Tryd.func28, Tryd.ntmps28
    go_wp2_with fail
    refine (HA.out _).mono ?_
    rintro e w1 ⟨rfl, hf⟩
    have HF : Hid (Fr [] w w1) := ((Fr.refl _ _).alloc _).trans_same hf
    clear hf
    go_wp2_with fail
    go_ret
    exact ⟨ret_bool HV.out.symm, HF.out⟩
end Go.Proofs.YtbaccleaakmenaaDoor
