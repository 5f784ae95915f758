/- The package geom: which configurations may be. -/
import Derived.Test.YtbaccleaakmenaaDoorG
namespace Go.Proofs.YtbaccleaakmenaaDoor
set_option linter.unusedVariables false
open Go.RowKit Go.Gl

theorem mayLie_any (c : Cfg) (w : World) : Calls Tryd.prog 39 #[c.val] w fun e w' => e = .returned (.bool (lieB c)) ∧ Fr [] w w' := by
  by_cases h1 : wiB c.shift 6 20 = true
  · have hs := wiB_iff.1 h1
    obtain ⟨s1, s2⟩ := hs
    obtain ⟨s, hs⟩ := Int.eq_ofNat_of_zero_le (show 0 ≤ c.shift by omega)
    have HV : Hid (lieB c = (wiB c.regions 2 65536 && (decide (c.regions ≤ 4194304 / pw s) && wiB c.cardShift 3 c.shift))) := by unfold lieB; rw [h1, hs]; rfl
    rw [hs] at HV h1 s1 s2
    unfold Cfg.val
    rw [hs]
    clear hs
    go_enter Tryd.func39, Tryd.ntmps39
    go_wp2_with (go_at_call 40; refine (within_any _ _ _ _).mono ?_; rintro e w' ⟨rfl, rfl⟩)
    all_goals
      go_ret
      refine ⟨ret_bool ?_, (Fr.refl _ _).alloc _⟩
      rw [HV.out, ← pw_pow]
    all_goals first
      | (simp [*]; done)
      | (have hlt := Int.not_le.2 ‹4194304 / 2 ^ s < c.regions›; simp [*])
  · have h1' : wiB c.shift 6 20 = false := by simpa using h1
    have HV : Hid (lieB c = false) := by unfold lieB; rw [h1']; rfl
    clear h1
    unfold Cfg.val
    go_enter Tryd.func39, Tryd.ntmps39
    go_wp2_with (go_at_call 40; refine (within_any _ _ _ _).mono ?_; rintro e w' ⟨rfl, rfl⟩)
    go_ret
    exact ⟨ret_bool HV.out.symm, (Fr.refl _ _).alloc _⟩
set_option maxHeartbeats 1600000 in
theorem mayBe_any (c : Cfg) (w : World) : Calls Tryd.prog 27 #[c.val] w fun e w' => e = .returned (.bool (mayB c)) ∧ Fr [] w w' := by
  have hl := mayLie_any c
  by_cases h1 : lieB c = true
  · rw [h1] at hl
    have HL := hide hl
    have HV : Hid (mayB c = (wiB c.threads 1 64 && (wiB c.roots 1 64 && (wiB c.refiners 0 8 && (wiB c.markers 0 8 && (wiB c.young 1 c.regions && (wiB c.tenure 0 7 && (wiB c.queue 0 65536 && (wiB c.stack 0 65536 && (wiB c.budget 0 4194304 && (wiB c.percent 0 100 && wiB c.fail 0 65536))))))))))) := by unfold mayB; rw [h1]; rfl
    clear hl h1
    unfold Cfg.val
    go_enter Tryd.func27, Tryd.ntmps27
    go_wp2_with fail
    refine (HL.out _).mono ?_
    rintro e w1 ⟨rfl, hf⟩
    have hg := CfgAt.of ((Blk.new w 49 c.cells).fr hf (by simp))
    have HF : Hid (Fr [] w w1) := ((Fr.refl _ _).alloc _).trans_same hf
    clear hf
    obtain ⟨-, d1, -, d3, d4, d5, d6, d7, d8, d9, d10, d11, d12, d13⟩ := hg
    go_wp2_with (go_at_call 40; refine (within_any _ _ _ _).mono ?_; rintro e w' ⟨rfl, rfl⟩)
    all_goals
      go_ret
      refine ⟨ret_bool ?_, HF.out⟩
      rw [HV.out]
      clear d1 d3 d4 d5 d6 d7 d8 d9 d10 d11 d12 d13
      simp [*]
  · have h1' : lieB c = false := by simpa using h1
    have HV : Hid (mayB c = false) := by unfold mayB; rw [h1']; rfl
    rw [h1'] at hl
    have HL := hide hl
    clear hl h1 h1'
    unfold Cfg.val
    go_enter Tryd.func27, Tryd.ntmps27
    go_wp2_with fail
    refine (HL.out _).mono ?_
    rintro e w1 ⟨rfl, hf⟩
    have HF : Hid (Fr [] w w1) := ((Fr.refl _ _).alloc _).trans_same hf
    clear hf
    go_wp2_with fail
    go_ret
    exact ⟨ret_bool HV.out.symm, HF.out⟩
end Go.Proofs.YtbaccleaakmenaaDoor
