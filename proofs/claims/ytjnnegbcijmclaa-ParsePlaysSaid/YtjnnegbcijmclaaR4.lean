/- The document's answer for layer 4: what each of its calls answers. -/
import Derived.Test.YtjnnegbcijmclaaH2
namespace Go.Proofs.Ytjnnegbcijmclaa
set_option linter.unusedVariables false
open Go.RowKit Go.Gl

set_option maxHeartbeats 3200000 in
theorem r4right_any (h : Hd) (w : World) : Calls Try.prog 36 #[h.val] w fun e w' => e = .returned (.bool h.rightB) ∧ Fr [] w w' := by
  have hw := h.ways
  obtain ⟨k, s, p, a, t⟩ := h
  simp only at hw
  unfold Hd.val
  simp only
  have H : (Hd.mk k s p a t).Right ↔ _ := ⟨fun r => r.ways, fun r => ⟨r⟩⟩
  simp only at H
  rcases hw with ⟨rfl, rfl, rfl, rfl, rfl, HR⟩ | ⟨rfl, h1, HR⟩ | ⟨rfl, rfl, h1, HR⟩ | ⟨rfl, rfl, rfl, h1, HR⟩ | ⟨rfl, rfl, rfl, rfl, h1, HR⟩ | hw
  iterate 5
    · clear H
      go_enter Try.func36, Try.ntmps36
      go_wp2
      all_goals
        go_ret
        exact ⟨ret_bool (by rw [HR.out]), (Fr.refl _ _).alloc _⟩
  have hk : k = 1 ∨ k = 2 ∨ k = 3 ∨ (¬ k = 0 ∧ ¬ k = 1 ∧ ¬ k = 2 ∧ ¬ k = 3) := by omega
  clear hw
  rcases hk with rfl | rfl | rfl | ⟨n0, n1, n2, n3⟩
  · have H1 : (Hd.mk 1 s p a t).rightB = true ↔ (1 ≤ s ∧ s ≤ 1048576) ∧ (0 ≤ p ∧ p < s) ∧ (0 ≤ a ∧ a ≤ 7) ∧ t = 0 := by
      rw [Hd.rightB_iff, H]
      simp
    generalize Hd.rightB _ = B at *
    have HH := hide H1
    clear H H1
    go_enter Try.func36, Try.ntmps36
    go_wp2
    all_goals
      go_ret
      refine ⟨ret_bool ?_, (Fr.refl _ _).alloc _⟩
      rw [Bool.eq_iff_iff, HH.out]
      simp
      try omega
  · have H1 : (Hd.mk 2 s p a t).rightB = true ↔ (1 ≤ s ∧ s ≤ 1048576) ∧ p = 0 ∧ a = 0 ∧ t = 0 := by
      rw [Hd.rightB_iff, H]
      simp
    generalize Hd.rightB _ = B at *
    have HH := hide H1
    clear H H1
    go_enter Try.func36, Try.ntmps36
    go_wp2
    all_goals
      go_ret
      refine ⟨ret_bool ?_, (Fr.refl _ _).alloc _⟩
      rw [Bool.eq_iff_iff, HH.out]
      simp
      try omega
  · have H1 : (Hd.mk 3 s p a t).rightB = true ↔ (1 ≤ s ∧ s ≤ 1048576) ∧ p = 0 ∧ a = 0 ∧ (0 ≤ t ∧ t < 4194304) := by
      rw [Hd.rightB_iff, H]
      simp
    generalize Hd.rightB _ = B at *
    have HH := hide H1
    clear H H1
    go_enter Try.func36, Try.ntmps36
    go_wp2
    all_goals
      go_ret
      refine ⟨ret_bool ?_, (Fr.refl _ _).alloc _⟩
      rw [Bool.eq_iff_iff, HH.out]
      simp
      try omega
  · have H1 : (Hd.mk k s p a t).rightB = false := by
      rw [Hd.rightB_no, H]
      omega
    generalize Hd.rightB _ = B at *
    have HH := hide H1
    clear H H1
    go_enter Try.func36, Try.ntmps36
    go_wp2
    all_goals
      go_ret
      exact ⟨ret_bool HH.out.symm, (Fr.refl _ _).alloc _⟩
theorem r4pack_any (h : Hd) (w : World) : Calls Try.prog 22 #[h.val] w fun e w' => e = .returned (.tuple #[.int .u64 h.ans, .int .i64 h.err]) ∧ Fr [] w w' := by
  have hi := r4right_any h
  by_cases hr : h.rightB = true
  · rw [hr] at hi
    have HI := hide hi
    have r := Hd.rightB_iff.1 hr
    have HE : Hid (h.ans = h.word ∧ h.err = 0) := by unfold Hd.ans Hd.err; rw [if_pos hr, if_pos hr]; exact ⟨rfl, rfl⟩
    have hb : ∀ w : World, Blk (w.alloc (.cells h.cells 46)) w.heap.size 46 h.cells := fun w => Blk.new _ _ _
    have HB := hide hb
    clear hb hi hr
    have hw := r.ways
    have hb : (0 ≤ h.kind ∧ h.kind ≤ 3) ∧ (0 ≤ h.size ∧ h.size ≤ 1048576) ∧ (0 ≤ h.ptrs ∧ h.ptrs < 1048576) ∧ (0 ≤ h.age ∧ h.age ≤ 7) ∧ (0 ≤ h.to ∧ h.to < 4194304) := by omega
    obtain ⟨⟨k0, k1⟩, ⟨s0, s1⟩, ⟨p0, p1⟩, ⟨a0, a1⟩, t0, t1⟩ := hb
    clear hw r
    unfold Hd.val
    go_enter Try.func22, Try.ntmps22
    go_wp2_with fail
    refine (HI.out _).mono ?_
    rintro e w1 ⟨rfl, hf⟩
    obtain ⟨c0, c1, c2, c3, c4⟩ := HdAt.of ((HB.out w).fr hf (by simp))
    have HF := hide hf
    clear hf
    go_wp2_with fail
    go_ret2
    refine ⟨ret_ii ?_ HE.out.2.symm, (((Fr.refl _ _).alloc _).trans_same HF.out)⟩
    rw [HE.out.1]
    rfl
  · rw [b_true hr] at hi
    have HI := hide hi
    have HE : Hid (h.ans = 0 ∧ h.err = 3) := by unfold Hd.ans Hd.err; rw [if_neg hr, if_neg hr]; exact ⟨rfl, rfl⟩
    clear hi hr
    unfold Hd.val
    go_enter Try.func22, Try.ntmps22
    go_wp2_with fail
    refine (HI.out _).mono ?_
    rintro e w1 ⟨rfl, hf⟩
    have HF := hide hf
    clear hf
    go_wp2_with fail
    go_ret2
    exact ⟨ret_ii HE.out.1.symm HE.out.2.symm, ((Fr.refl _ _).alloc _).trans_same HF.out⟩
set_option maxHeartbeats 3200000 in
theorem r4unpack_any (x : Nat) (hx : x < 18446744073709551616) (w : World) :
    Calls Try.prog 37 #[.int .u64 (x : Int)] w fun e w' => e = .returned (.tuple #[(Hd.of x).val, .int .i64 (Hd.ofErr x)]) ∧ Fr [] w w' := by
  have hways := of_way x
  have hsp : ((x : Int) % 4 = 1 ∧ Hid (Hd.split x = ⟨1, (x : Int) / 4 % 2097152, (x : Int) / 8388608 % 2097152, (x : Int) / 17592186044416 % 8, 0⟩)) ∨ ((x : Int) % 4 = 3 ∧ Hid (Hd.split x = ⟨3, (x : Int) / 4 % 2097152, 0, 0, (x : Int) / 8388608 % 4194304⟩)) ∨
      (∃ k, (x : Int) % 4 = k ∧ ¬ k = 1 ∧ ¬ k = 3 ∧ Hid (Hd.split x = ⟨k, (x : Int) / 4 % 2097152, 0, 0, 0⟩)) := by
    unfold Hid Hd.split
    by_cases h1 : (x : Int) % 4 = 1
    · exact .inl ⟨h1, by rw [if_pos h1, if_pos h1, if_neg (by omega), h1]⟩
    · by_cases h3 : (x : Int) % 4 = 3
      · exact .inr (.inl ⟨h3, by rw [if_neg h1, if_neg h1, if_pos h3, h3]⟩)
      · exact .inr (.inr ⟨_, rfl, h1, h3, by rw [if_neg h1, if_neg h1, if_neg h3]⟩)
  have hp := r4pack_any (Hd.split x)
  have ha : (Hd.ofErr x = 0 ∧ Hd.of x = Hd.split x ∧ (Hd.split x).err = 0 ∧ (Hd.split x).ans = x) ∨ (Hd.ofErr x = 30 ∧ Hd.of x = Hd.zero ∧ (Hd.split x).err = 0 ∧ ¬ (Hd.split x).ans = x) ∨ (Hd.ofErr x = 30 ∧ Hd.of x = Hd.zero ∧ (Hd.split x).err = 3) := by
    unfold Hd.err Hd.ans
    rcases hways with ⟨y, r, h1, h2, h3, HE⟩ | ⟨y, r, h1, h2, h3, HE⟩ | ⟨h1, HE⟩
    · rw [if_pos h1, if_pos h1]; exact .inl ⟨HE.out.2, HE.out.1, rfl, by rw [h2]; exact h3.out⟩
    · rw [if_pos h1, if_pos h1]; exact .inr (.inl ⟨HE.out.2, HE.out.1, rfl, by rw [h2]; exact h3.out⟩)
    · rw [h1]; exact .inr (.inr ⟨HE.out.2, HE.out.1, rfl⟩)
  clear hways
  rcases hsp with ⟨h1, HR⟩ | ⟨h1, HR⟩ | ⟨k, h1, n1, n3, HR⟩
  · rw [HR.out] at ha hp
    obtain ⟨y, hy⟩ : ∃ y, (⟨1, (x : Int) / 4 % 2097152, (x : Int) / 8388608 % 2097152, (x : Int) / 17592186044416 % 8, 0⟩ : Hd).ans = y := ⟨_, rfl⟩
    rw [hy] at ha hp
    clear hy
    have HP := hide hp
    clear hp
    rcases ha with ⟨a1, a2, a3, rfl⟩ | ⟨a1, a2, a3, a4⟩ | ⟨a1, a2, a3⟩
    · rw [a1, a2]
      rw [a3] at HP
      clear a1 a2 a3
      go_enter Try.func37, Try.ntmps37
      go_wp2_with fail
      refine (HP.out _).mono ?_
      rintro e w1 ⟨rfl, hf⟩
      obtain ⟨⟨z0, z1, z2, z3, z4⟩, f0, f1, f2, f3, f4⟩ := Hd.zero_cells (((Blk.new w 46 Hd.zero.cells).alloc _).fr hf (by simp))
      have hg : HdAt w1 (w.heap.size + 1) ⟨1, (x : Int) / 4 % 2097152, (x : Int) / 8388608 % 2097152, (x : Int) / 17592186044416 % 8, 0⟩ := HdAt.of ((Blk.new_at (w := w.alloc (.cells Hd.zero.cells 46)) (n := w.heap.size + 1) 46 (Hd.cells ⟨1, (x : Int) / 4 % 2097152, (x : Int) / 8388608 % 2097152, (x : Int) / 17592186044416 % 8, 0⟩) (by simp)).fr hf (by simp))
      obtain ⟨c0, c1, c2, c3, c4⟩ := hg
      simp only at c0 c1 c2 c3 c4
      have HF := hide hf
      clear hf
      go_wp2_with fail
      refine bodyPost_ret (v := .tuple #[.agg #[.int .i64 (1), .int .i64 ((x : Int) / 4 % 2097152), .int .i64 ((x : Int) / 8388608 % 2097152), .int .i64 ((x : Int) / 17592186044416 % 8), .int .i64 (0)], .int .i64 0]) (by simp [results, Try.results37, go_sem, *]) rfl ⟨rfl, ?_⟩
      iterate 5 (refine Fr.setCell ?_ (.inr (Nat.le_refl _)) _)
      exact (((Fr.refl _ _).alloc _).alloc _).trans_same HF.out
    · rw [a1, a2]
      rw [a3] at HP
      clear a1 a2 a3
      go_enter Try.func37, Try.ntmps37
      go_wp2_with fail
      refine (HP.out _).mono ?_
      rintro e w1 ⟨rfl, hf⟩
      obtain ⟨⟨z0, z1, z2, z3, z4⟩, f0, f1, f2, f3, f4⟩ := Hd.zero_cells (((Blk.new w 46 Hd.zero.cells).alloc _).fr hf (by simp))
      have HF := hide hf
      clear hf
      go_wp2_with fail
      refine bodyPost_ret (v := .tuple #[.agg #[.int .i64 0, .int .i64 0, .int .i64 0, .int .i64 0, .int .i64 0], .int .i64 30]) (by simp [results, Try.results37, go_sem, *]) rfl ⟨rfl, ?_⟩
      iterate 5 (refine Fr.setCell ?_ (.inr (Nat.le_refl _)) _)
      exact (((Fr.refl _ _).alloc _).alloc _).trans_same HF.out
    · rw [a1, a2]
      rw [a3] at HP
      clear a1 a2 a3
      go_enter Try.func37, Try.ntmps37
      go_wp2_with fail
      refine (HP.out _).mono ?_
      rintro e w1 ⟨rfl, hf⟩
      obtain ⟨⟨z0, z1, z2, z3, z4⟩, f0, f1, f2, f3, f4⟩ := Hd.zero_cells (((Blk.new w 46 Hd.zero.cells).alloc _).fr hf (by simp))
      have HF := hide hf
      clear hf
      go_wp2_with fail
      refine bodyPost_ret (v := .tuple #[.agg #[.int .i64 0, .int .i64 0, .int .i64 0, .int .i64 0, .int .i64 0], .int .i64 30]) (by simp [results, Try.results37, go_sem, *]) rfl ⟨rfl, ?_⟩
      iterate 5 (refine Fr.setCell ?_ (.inr (Nat.le_refl _)) _)
      exact (((Fr.refl _ _).alloc _).alloc _).trans_same HF.out
  · rw [HR.out] at ha hp
    obtain ⟨y, hy⟩ : ∃ y, (⟨3, (x : Int) / 4 % 2097152, 0, 0, (x : Int) / 8388608 % 4194304⟩ : Hd).ans = y := ⟨_, rfl⟩
    rw [hy] at ha hp
    clear hy
    have HP := hide hp
    clear hp
    rcases ha with ⟨a1, a2, a3, rfl⟩ | ⟨a1, a2, a3, a4⟩ | ⟨a1, a2, a3⟩
    · rw [a1, a2]
      rw [a3] at HP
      clear a1 a2 a3
      go_enter Try.func37, Try.ntmps37
      go_wp2_with fail
      refine (HP.out _).mono ?_
      rintro e w1 ⟨rfl, hf⟩
      obtain ⟨⟨z0, z1, z2, z3, z4⟩, f0, f1, f2, f3, f4⟩ := Hd.zero_cells (((Blk.new w 46 Hd.zero.cells).alloc _).fr hf (by simp))
      have hg : HdAt w1 (w.heap.size + 1) ⟨3, (x : Int) / 4 % 2097152, 0, 0, (x : Int) / 8388608 % 4194304⟩ := HdAt.of ((Blk.new_at (w := w.alloc (.cells Hd.zero.cells 46)) (n := w.heap.size + 1) 46 (Hd.cells ⟨3, (x : Int) / 4 % 2097152, 0, 0, (x : Int) / 8388608 % 4194304⟩) (by simp)).fr hf (by simp))
      obtain ⟨c0, c1, c2, c3, c4⟩ := hg
      simp only at c0 c1 c2 c3 c4
      have HF := hide hf
      clear hf
      go_wp2_with fail
      refine bodyPost_ret (v := .tuple #[.agg #[.int .i64 (3), .int .i64 ((x : Int) / 4 % 2097152), .int .i64 (0), .int .i64 (0), .int .i64 ((x : Int) / 8388608 % 4194304)], .int .i64 0]) (by simp [results, Try.results37, go_sem, *]) rfl ⟨rfl, ?_⟩
      iterate 5 (refine Fr.setCell ?_ (.inr (Nat.le_refl _)) _)
      exact (((Fr.refl _ _).alloc _).alloc _).trans_same HF.out
    · rw [a1, a2]
      rw [a3] at HP
      clear a1 a2 a3
      go_enter Try.func37, Try.ntmps37
      go_wp2_with fail
      refine (HP.out _).mono ?_
      rintro e w1 ⟨rfl, hf⟩
      obtain ⟨⟨z0, z1, z2, z3, z4⟩, f0, f1, f2, f3, f4⟩ := Hd.zero_cells (((Blk.new w 46 Hd.zero.cells).alloc _).fr hf (by simp))
      have HF := hide hf
      clear hf
      go_wp2_with fail
      refine bodyPost_ret (v := .tuple #[.agg #[.int .i64 0, .int .i64 0, .int .i64 0, .int .i64 0, .int .i64 0], .int .i64 30]) (by simp [results, Try.results37, go_sem, *]) rfl ⟨rfl, ?_⟩
      iterate 5 (refine Fr.setCell ?_ (.inr (Nat.le_refl _)) _)
      exact (((Fr.refl _ _).alloc _).alloc _).trans_same HF.out
    · rw [a1, a2]
      rw [a3] at HP
      clear a1 a2 a3
      go_enter Try.func37, Try.ntmps37
      go_wp2_with fail
      refine (HP.out _).mono ?_
      rintro e w1 ⟨rfl, hf⟩
      obtain ⟨⟨z0, z1, z2, z3, z4⟩, f0, f1, f2, f3, f4⟩ := Hd.zero_cells (((Blk.new w 46 Hd.zero.cells).alloc _).fr hf (by simp))
      have HF := hide hf
      clear hf
      go_wp2_with fail
      refine bodyPost_ret (v := .tuple #[.agg #[.int .i64 0, .int .i64 0, .int .i64 0, .int .i64 0, .int .i64 0], .int .i64 30]) (by simp [results, Try.results37, go_sem, *]) rfl ⟨rfl, ?_⟩
      iterate 5 (refine Fr.setCell ?_ (.inr (Nat.le_refl _)) _)
      exact (((Fr.refl _ _).alloc _).alloc _).trans_same HF.out
  · rw [HR.out] at ha hp
    obtain ⟨y, hy⟩ : ∃ y, (⟨k, (x : Int) / 4 % 2097152, 0, 0, 0⟩ : Hd).ans = y := ⟨_, rfl⟩
    rw [hy] at ha hp
    clear hy
    have HP := hide hp
    clear hp
    rcases ha with ⟨a1, a2, a3, rfl⟩ | ⟨a1, a2, a3, a4⟩ | ⟨a1, a2, a3⟩
    · rw [a1, a2]
      rw [a3] at HP
      clear a1 a2 a3
      go_enter Try.func37, Try.ntmps37
      go_wp2_with fail
      refine (HP.out _).mono ?_
      rintro e w1 ⟨rfl, hf⟩
      obtain ⟨⟨z0, z1, z2, z3, z4⟩, f0, f1, f2, f3, f4⟩ := Hd.zero_cells (((Blk.new w 46 Hd.zero.cells).alloc _).fr hf (by simp))
      have hg : HdAt w1 (w.heap.size + 1) ⟨k, (x : Int) / 4 % 2097152, 0, 0, 0⟩ := HdAt.of ((Blk.new_at (w := w.alloc (.cells Hd.zero.cells 46)) (n := w.heap.size + 1) 46 (Hd.cells ⟨k, (x : Int) / 4 % 2097152, 0, 0, 0⟩) (by simp)).fr hf (by simp))
      obtain ⟨c0, c1, c2, c3, c4⟩ := hg
      simp only at c0 c1 c2 c3 c4
      have HF := hide hf
      clear hf
      go_wp2_with fail
      refine bodyPost_ret (v := .tuple #[.agg #[.int .i64 (k), .int .i64 ((x : Int) / 4 % 2097152), .int .i64 (0), .int .i64 (0), .int .i64 (0)], .int .i64 0]) (by simp [results, Try.results37, go_sem, *]) rfl ⟨rfl, ?_⟩
      iterate 5 (refine Fr.setCell ?_ (.inr (Nat.le_refl _)) _)
      exact (((Fr.refl _ _).alloc _).alloc _).trans_same HF.out
    · rw [a1, a2]
      rw [a3] at HP
      clear a1 a2 a3
      go_enter Try.func37, Try.ntmps37
      go_wp2_with fail
      refine (HP.out _).mono ?_
      rintro e w1 ⟨rfl, hf⟩
      obtain ⟨⟨z0, z1, z2, z3, z4⟩, f0, f1, f2, f3, f4⟩ := Hd.zero_cells (((Blk.new w 46 Hd.zero.cells).alloc _).fr hf (by simp))
      have HF := hide hf
      clear hf
      go_wp2_with fail
      refine bodyPost_ret (v := .tuple #[.agg #[.int .i64 0, .int .i64 0, .int .i64 0, .int .i64 0, .int .i64 0], .int .i64 30]) (by simp [results, Try.results37, go_sem, *]) rfl ⟨rfl, ?_⟩
      iterate 5 (refine Fr.setCell ?_ (.inr (Nat.le_refl _)) _)
      exact (((Fr.refl _ _).alloc _).alloc _).trans_same HF.out
    · rw [a1, a2]
      rw [a3] at HP
      clear a1 a2 a3
      go_enter Try.func37, Try.ntmps37
      go_wp2_with fail
      refine (HP.out _).mono ?_
      rintro e w1 ⟨rfl, hf⟩
      obtain ⟨⟨z0, z1, z2, z3, z4⟩, f0, f1, f2, f3, f4⟩ := Hd.zero_cells (((Blk.new w 46 Hd.zero.cells).alloc _).fr hf (by simp))
      have HF := hide hf
      clear hf
      go_wp2_with fail
      refine bodyPost_ret (v := .tuple #[.agg #[.int .i64 0, .int .i64 0, .int .i64 0, .int .i64 0, .int .i64 0], .int .i64 30]) (by simp [results, Try.results37, go_sem, *]) rfl ⟨rfl, ?_⟩
      iterate 5 (refine Fr.setCell ?_ (.inr (Nat.le_refl _)) _)
      exact (((Fr.refl _ _).alloc _).alloc _).trans_same HF.out
end Go.Proofs.Ytjnnegbcijmclaa
