/- The package head: what each of its calls answers. -/
import Derived.Test.YtjnnegbcijmclaaProg
import Derived.Test.YtjnnegbcijmclaaHd
import Derived.WalkKit
import Derived.BigQuiet
namespace Go.Proofs.Ytjnnegbcijmclaa
set_option linter.unusedVariables false
open Go.RowKit Go.Gl

theorem hwithin_any (n lo hi : Int) (w : World) : Calls Try.prog 40 #[.int .i64 n, .int .i64 lo, .int .i64 hi] w fun e w' => e = .returned (.bool (inB n lo hi)) ∧ w = w' := by
  go_enter Try.func40, Try.ntmps40
  go_wp2
  all_goals
    go_ret
    exact ⟨ret_bool (by unfold inB; first | (simp [*]; done) | (simp; omega)), rfl⟩
theorem hisSize_any (n : Int) (w : World) : Calls Try.prog 39 #[.int .i64 n] w fun e w' => e = .returned (.bool (inB n 1 1048576)) ∧ w = w' := by
  go_enter Try.func39, Try.ntmps39
  go_wp2_with (go_at_call 40; refine (hwithin_any _ _ _ _).mono ?_; rintro e w' ⟨rfl, rfl⟩)
  go_ret
  exact ⟨rfl, rfl⟩
theorem hpart_any (x : Nat) (hx : x < 18446744073709551616) (s k : Nat) (hs : s < 64) (hk : k < 63) (w : World) :
    Calls Try.prog 41 #[.int .u64 (x : Int), .int .u64 (s : Int), .int .u64 (k : Int)] w fun e w' => e = .returned (.int .i64 ((x / 2 ^ s % 2 ^ k : Nat) : Int)) ∧ w = w' := by
  go_enter Try.func41, Try.ntmps41
  go_wp2
  go_ret
  exact ⟨ret_int (part_bits x s k hx hk), rfl⟩
theorem hjoin_any (h : Hd) (r : h.Right) (w : World) : Calls Try.prog 34 #[h.val] w fun e w' => e = .returned (.int .u64 h.word) ∧ Fr [] w w' := by
  obtain ⟨k, s, p, a, t⟩ := h
  have hw := r.ways
  have hb : (0 ≤ k ∧ k ≤ 3) ∧ (0 ≤ s ∧ s ≤ 1048576) ∧ (0 ≤ p ∧ p < 1048576) ∧ (0 ≤ a ∧ a ≤ 7) ∧ (0 ≤ t ∧ t < 4194304) := by simp only at hw; omega
  obtain ⟨⟨k0, k1⟩, ⟨s0, s1⟩, ⟨p0, p1⟩, ⟨a0, a1⟩, t0, t1⟩ := hb
  have R := hide r
  clear hw r
  unfold Hd.val
  go_enter Try.func34, Try.ntmps34
  go_wp2
  go_ret
  exact ⟨ret_int R.out.join, (Fr.refl _ _).alloc _⟩
set_option maxHeartbeats 3200000 in
theorem hisRight_any (h : Hd) (w : World) : Calls Try.prog 33 #[h.val] w fun e w' => e = .returned (.bool h.rightB) ∧ Fr [] w w' := by
  have hs := hisSize_any h.size
  have hp := hwithin_any h.ptrs 0 (h.size - 1)
  have ha := hwithin_any h.age 0 7
  have ht := hwithin_any h.to 0 4194303
  have hw := h.ways
  obtain ⟨k, s, p, a, t⟩ := h
  simp only at hs hp ha ht hw
  unfold Hd.val
  simp only
  rcases hw with ⟨rfl, rfl, rfl, rfl, rfl, HR⟩ | ⟨rfl, h1, HR⟩ | ⟨rfl, rfl, h1, HR⟩ | ⟨rfl, rfl, rfl, h1, HR⟩ | ⟨rfl, rfl, rfl, rfl, h1, HR⟩ | hw
  iterate 5
    · clear hs hp ha ht
      go_enter Try.func33, Try.ntmps33
      go_wp2
      go_ret
      exact ⟨ret_bool (by first | (rw [HR.out]; done) | (rw [HR.out]; simpa using h1)), (Fr.refl _ _).alloc _⟩
  rcases hw with ⟨rfl, e1, e2, e3, rfl, HR⟩ | ⟨rfl, e1, HR⟩ | ⟨rfl, e1, e2, HR⟩ | ⟨rfl, e1, e2, e3, HR⟩ | ⟨rfl, e1, e2, e3, h1, HR⟩ | hw
  iterate 5
    · have b1 := inB_iff (n := s) (lo := 1) (hi := 1048576)
      simp only [e1, true_iff, false_iff, Bool.false_eq_true] at b1
      rw [e1] at hs
      try rw [e2] at hp
      try rw [e3] at ha
      have HS := hide hs
      have HP := hide hp
      have HA := hide ha
      clear hs hp ha ht e1
      try clear e2
      try clear e3
      go_enter Try.func33, Try.ntmps33
      go_wp2_with (first | (go_at_call 39; refine (HS.out _).mono ?_; rintro e w' ⟨rfl, rfl⟩) | (go_at_call 40; (first | (with_reducible refine (HP.out _).mono ?_) | (with_reducible refine (HA.out _).mono ?_)); rintro e w' ⟨rfl, rfl⟩))
      go_ret
      exact ⟨ret_bool (by first | (rw [HR.out]; done) | (rw [HR.out]; simpa using h1)), (Fr.refl _ _).alloc _⟩
  rcases hw with ⟨rfl, e1, rfl, rfl, rfl, HR⟩ | ⟨rfl, e1, HR⟩ | ⟨rfl, e1, e2, HR⟩ | ⟨rfl, e1, rfl, e3, HR⟩ | ⟨rfl, e1, rfl, rfl, h1, HR⟩ | hw
  iterate 5
    · have b1 := inB_iff (n := s) (lo := 1) (hi := 1048576)
      simp only [e1, true_iff, false_iff, Bool.false_eq_true] at b1
      rw [e1] at hs
      have HS := hide hs
      clear hs hp ha ht e1
      go_enter Try.func33, Try.ntmps33
      go_wp2_with (first | (go_at_call 39; refine (HS.out _).mono ?_; rintro e w' ⟨rfl, rfl⟩))
      go_ret
      exact ⟨ret_bool (by first | (rw [HR.out]; done) | (rw [HR.out]; simpa using h1)), (Fr.refl _ _).alloc _⟩
  rcases hw with ⟨rfl, e1, e2, rfl, rfl, HR⟩ | ⟨rfl, e1, HR⟩ | ⟨rfl, e1, e2, HR⟩ | ⟨rfl, e1, e2, h1, HR⟩ | ⟨rfl, e1, e2, rfl, h1, HR⟩ | ⟨h0, h1, h2, h3, HR⟩
  iterate 5
    · have b1 := inB_iff (n := s) (lo := 1) (hi := 1048576)
      simp only [e1, true_iff, false_iff, Bool.false_eq_true] at b1
      rw [e1] at hs
      try rw [e2] at ht
      have HS := hide hs
      have HT := hide ht
      clear hs hp ha ht e1
      try clear e2
      go_enter Try.func33, Try.ntmps33
      go_wp2_with (first | (go_at_call 39; refine (HS.out _).mono ?_; rintro e w' ⟨rfl, rfl⟩) | (go_at_call 40; (with_reducible refine (HT.out _).mono ?_); rintro e w' ⟨rfl, rfl⟩))
      go_ret
      exact ⟨ret_bool (by first | (rw [HR.out]; done) | (rw [HR.out]; simpa using h1)), (Fr.refl _ _).alloc _⟩
  clear hs hp ha ht
  go_enter Try.func33, Try.ntmps33
  go_wp2_with fail
  go_ret
  exact ⟨ret_bool (by first | (rw [HR.out]; done) | (rw [HR.out]; simpa using h1)), (Fr.refl _ _).alloc _⟩
end Go.Proofs.Ytjnnegbcijmclaa
