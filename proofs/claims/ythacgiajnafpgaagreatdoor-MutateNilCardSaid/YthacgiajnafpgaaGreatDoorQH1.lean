/- The package head: what each of its calls answers. -/
import Derived.Test.YthacgiajnafpgaaGreatDoorProg
import Derived.Test.YthacgiajnafpgaaGreatDoorQHd
import Derived.WalkKit
import Derived.BigQuiet
namespace Go.Proofs.YthacgiajnafpgaaGreatDoor
set_option linter.unusedVariables false
open Go.RowKit Go.Gl

theorem hwithin_any (n lo hi : Int) (w : World) : Calls Tryz.prog 242 #[.int .i64 n, .int .i64 lo, .int .i64 hi] w fun e w' => e = .returned (.bool (inB n lo hi)) ∧ w = w' := by
  go_enter Tryz.func242, Tryz.ntmps242
  go_wp2
  all_goals
    go_ret
    exact ⟨ret_bool (by unfold inB; first | (simp [*]; done) | (simp; omega)), rfl⟩
theorem hisSize_any (n : Int) (w : World) : Calls Tryz.prog 241 #[.int .i64 n] w fun e w' => e = .returned (.bool (inB n 1 1048576)) ∧ w = w' := by
  go_enter Tryz.func241, Tryz.ntmps241
  go_wp2_with (go_at_call 242; refine (hwithin_any _ _ _ _).mono ?_; rintro e w' ⟨rfl, rfl⟩)
  go_ret
  exact ⟨rfl, rfl⟩
theorem hjoin_any (h : Hd) (r : h.Right) (w : World) : Calls Tryz.prog 224 #[h.val] w fun e w' => e = .returned (.int .u64 h.word) ∧ Fr [] w w' := by
  obtain ⟨k, s, p, a, t⟩ := h
  have hw := r.ways
  have hb : (0 ≤ k ∧ k ≤ 3) ∧ (0 ≤ s ∧ s ≤ 1048576) ∧ (0 ≤ p ∧ p < 1048576) ∧ (0 ≤ a ∧ a ≤ 7) ∧ (0 ≤ t ∧ t < 4194304) := by simp only at hw; omega
  obtain ⟨⟨k0, k1⟩, ⟨s0, s1⟩, ⟨p0, p1⟩, ⟨a0, a1⟩, t0, t1⟩ := hb
  have R := hide r
  clear hw r
  unfold Hd.val
  go_enter Tryz.func224, Tryz.ntmps224
  go_wp2
  go_ret
  exact ⟨ret_int R.out.join, (Fr.refl _ _).alloc _⟩
set_option maxHeartbeats 3200000 in
theorem hisRight_any (h : Hd) (w : World) : Calls Tryz.prog 223 #[h.val] w fun e w' => e = .returned (.bool h.rightB) ∧ Fr [] w w' := by
  have hs := hisSize_any h.size
  have hp := hwithin_any h.ptrs 0 (h.size - 1)
  have ha := hwithin_any h.age 0 7
  have ht := hwithin_any h.to 0 4194303
  have hw := h.ways
  obtain ⟨k, s, p, a, t⟩ := h
  simp only at hs hp ha ht hw
  unfold Hd.val
  simp only
  rcases hw with ⟨rfl, rfl, rfl, rfl, rfl, HR⟩ | ⟨rfl, h1, HR⟩ | ⟨rfl, rfl, h1, HR⟩ | ⟨rfl, rfl, rfl, h1, HR⟩ | ⟨rfl, rfl, rfl, rfl, h1, HR⟩ | hw
  iterate 5
    · clear hs hp ha ht
      go_enter Tryz.func223, Tryz.ntmps223
      go_wp2
      go_ret
      exact ⟨ret_bool (by first | (rw [HR.out]; done) | (rw [HR.out]; simpa using h1)), (Fr.refl _ _).alloc _⟩
  rcases hw with ⟨rfl, e1, e2, e3, rfl, HR⟩ | ⟨rfl, e1, HR⟩ | ⟨rfl, e1, e2, HR⟩ | ⟨rfl, e1, e2, e3, HR⟩ | ⟨rfl, e1, e2, e3, h1, HR⟩ | hw
  iterate 5
    · have b1 := inB_iff (n := s) (lo := 1) (hi := 1048576)
      simp only [e1, true_iff, false_iff, Bool.false_eq_true] at b1
      rw [e1] at hs
      try rw [e2] at hp
      try rw [e3] at ha
      have HS := hide hs
      have HP := hide hp
      have HA := hide ha
      clear hs hp ha ht e1
      try clear e2
      try clear e3
      go_enter Tryz.func223, Tryz.ntmps223
      go_wp2_with (first | (go_at_call 241; refine (HS.out _).mono ?_; rintro e w' ⟨rfl, rfl⟩) | (go_at_call 242; (first | (with_reducible refine (HP.out _).mono ?_) | (with_reducible refine (HA.out _).mono ?_)); rintro e w' ⟨rfl, rfl⟩))
      go_ret
      exact ⟨ret_bool (by first | (rw [HR.out]; done) | (rw [HR.out]; simpa using h1)), (Fr.refl _ _).alloc _⟩
  rcases hw with ⟨rfl, e1, rfl, rfl, rfl, HR⟩ | ⟨rfl, e1, HR⟩ | ⟨rfl, e1, e2, HR⟩ | ⟨rfl, e1, rfl, e3, HR⟩ | ⟨rfl, e1, rfl, rfl, h1, HR⟩ | hw
  iterate 5
    · have b1 := inB_iff (n := s) (lo := 1) (hi := 1048576)
      simp only [e1, true_iff, false_iff, Bool.false_eq_true] at b1
      rw [e1] at hs
      have HS := hide hs
      clear hs hp ha ht e1
      go_enter Tryz.func223, Tryz.ntmps223
      go_wp2_with (first | (go_at_call 241; refine (HS.out _).mono ?_; rintro e w' ⟨rfl, rfl⟩))
      go_ret
      exact ⟨ret_bool (by first | (rw [HR.out]; done) | (rw [HR.out]; simpa using h1)), (Fr.refl _ _).alloc _⟩
  rcases hw with ⟨rfl, e1, e2, rfl, rfl, HR⟩ | ⟨rfl, e1, HR⟩ | ⟨rfl, e1, e2, HR⟩ | ⟨rfl, e1, e2, h1, HR⟩ | ⟨rfl, e1, e2, rfl, h1, HR⟩ | ⟨h0, h1, h2, h3, HR⟩
  iterate 5
    · have b1 := inB_iff (n := s) (lo := 1) (hi := 1048576)
      simp only [e1, true_iff, false_iff, Bool.false_eq_true] at b1
      rw [e1] at hs
      try rw [e2] at ht
      have HS := hide hs
      have HT := hide ht
      clear hs hp ha ht e1
      try clear e2
      go_enter Tryz.func223, Tryz.ntmps223
      go_wp2_with (first | (go_at_call 241; refine (HS.out _).mono ?_; rintro e w' ⟨rfl, rfl⟩) | (go_at_call 242; (with_reducible refine (HT.out _).mono ?_); rintro e w' ⟨rfl, rfl⟩))
      go_ret
      exact ⟨ret_bool (by first | (rw [HR.out]; done) | (rw [HR.out]; simpa using h1)), (Fr.refl _ _).alloc _⟩
  clear hs hp ha ht
  go_enter Tryz.func223, Tryz.ntmps223
  go_wp2_with fail
  go_ret
  exact ⟨ret_bool (by first | (rw [HR.out]; done) | (rw [HR.out]; simpa using h1)), (Fr.refl _ _).alloc _⟩
end Go.Proofs.YthacgiajnafpgaaGreatDoor
/- The package head: split, Pack, Unpack. -/
namespace Go.Proofs.YthacgiajnafpgaaGreatDoor
set_option linter.unusedVariables false
open Go.RowKit Go.Gl

theorem hpack_any (h : Hd) (w : World) : Calls Tryz.prog 158 #[h.val] w fun e w' => e = .returned (.tuple #[.int .u64 h.ans, .int .i64 h.err]) ∧ Fr [] w w' := by
  have hi := hisRight_any h
  by_cases hr : h.rightB = true
  · rw [hr] at hi
    have HI := hide hi
    have HJ := hide (hjoin_any h (Hd.rightB_iff.1 hr))
    have HE : Hid (h.ans = h.word ∧ h.err = 0) := by unfold Hd.ans Hd.err; rw [if_pos hr, if_pos hr]; exact ⟨rfl, rfl⟩
    clear hi hr
    generalize h.word = x at *
    have hb : ∀ w : World, Blk (w.alloc (.cells h.cells 155)) w.heap.size 155 h.cells := fun w => Blk.new _ _ _
    have HB := hide hb
    clear hb
    unfold Hd.val
    go_enter Tryz.func158, Tryz.ntmps158
    go_wp2_with fail
    refine (HI.out _).mono ?_
    rintro e w1 ⟨rfl, hf⟩
    obtain ⟨c0, c1, c2, c3, c4⟩ := HdAt.of ((HB.out w).fr hf (by simp))
    have HF := hide hf
    clear hf
    go_wp2_with fail
    refine (HJ.out _).mono ?_
    rintro e w2 ⟨rfl, hf2⟩
    have HF2 := hide hf2
    clear hf2
    go_wp2_with fail
    go_ret2
    exact ⟨ret_ii HE.out.1.symm HE.out.2.symm, (((Fr.refl _ _).alloc _).trans_same HF.out).trans_same HF2.out⟩
  · rw [b_true hr] at hi
    have HI := hide hi
    have HE : Hid (h.ans = 0 ∧ h.err = 3) := by unfold Hd.ans Hd.err; rw [if_neg hr, if_neg hr]; exact ⟨rfl, rfl⟩
    clear hi hr
    unfold Hd.val
    go_enter Tryz.func158, Tryz.ntmps158
    go_wp2_with fail
    refine (HI.out _).mono ?_
    rintro e w1 ⟨rfl, hf⟩
    have HF := hide hf
    clear hf
    go_wp2_with fail
    go_ret2
    exact ⟨ret_ii HE.out.1.symm HE.out.2.symm, ((Fr.refl _ _).alloc _).trans_same HF.out⟩
end Go.Proofs.YthacgiajnafpgaaGreatDoor
