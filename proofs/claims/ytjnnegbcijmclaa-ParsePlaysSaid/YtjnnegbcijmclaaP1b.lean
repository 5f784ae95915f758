/- The package parse: At. -/
import Derived.Test.YtjnnegbcijmclaaP1
namespace Go.Proofs.Ytjnnegbcijmclaa
set_option linter.unusedVariables false
open Go.RowKit Go.Gl

def AtPost (w : World) (ab aw n : Nat) (f : Nat → Nat) (i : Int) (e : Ending) (w' : World) : Prop :=
  ∃ c', e = .returned (.tuple #[(atH n f i).val, .int .i64 (atE n f i)]) ∧ Ar w' ab aw n f c' ∧ Fr [ab] w w'
theorem pat_nil (i : Int) (w : World) : Calls Try.prog 16 #[.pointer none, .int .i64 i] w fun e w' => e = .returned (.tuple #[.agg #[.int .i64 0, .int .i64 0, .int .i64 0, .int .i64 0, .int .i64 0], .int .i64 1]) ∧ Fr [] w w' := by
  go_enter Try.func16, Try.ntmps16
  go_wp2_with (go_at_call 15; refine (load_nil _ _).mono ?_; rintro e w' ⟨rfl, rfl⟩)
  refine bodyPost_ret (v := .tuple #[.agg #[.int .i64 0, .int .i64 0, .int .i64 0, .int .i64 0, .int .i64 0], .int .i64 1]) (by simp [results, Try.results16, go_sem, *]) rfl ⟨rfl, ?_⟩
  exact (Fr.refl _ _).alloc _
set_option maxHeartbeats 3200000 in
theorem pat_any {w : World} {ab aw n : Nat} {f : Nat → Nat} {c : Int} (h : Ar w ab aw n f c) (i : Int) :
    Calls Try.prog 16 #[.pointer (some ⟨ab, 0, none⟩), .int .i64 i] w (AtPost w ab aw n f i) := by
  have HA : Hid (Ar (w.alloc (.cells Hd.zero.cells 46)) ab aw n f c) := h.fr ((Fr.refl [] _).alloc _) (by simp) (by simp)
  have q1 := h.set.lt
  have HQ : Hid (ab < w.heap.size ∧ aw < w.heap.size) := ⟨q1, h.row.lt⟩
  clear q1
  unfold AtPost
  rcases at_ways n f i with ⟨k, rfl, hk, h1, h2, h3, h4⟩ | ⟨k, rfl, hk, h1, h2, h3, h4⟩ | ⟨k, rfl, hk, h1, h2, h3, h4, h5⟩ | ⟨hi, h1, h2⟩
  iterate 2
    · obtain ⟨x, hx⟩ : ∃ x, f k = x := ⟨_, rfl⟩
      have HU := hide (hunpack_any x (by rw [← hx]; exact h.ok k))
      have HL := hide (load_at HA.out rfl hk hx)
      rw [hx] at h1 h2
      rw [h1, h2] at HU
      rw [h3, h4]
      clear h h1 h2 h3 h4 hx
      go_enter Try.func16, Try.ntmps16
      go_wp2_with fail
      refine HL.out.mono ?_
      rintro e w1 ⟨rfl, ha1, hf1⟩
      have HA1 := hide ha1
      have HF1 := hide hf1
      clear ha1 hf1
      go_wp2_with fail
      refine (HU.out _).mono ?_
      rintro e w2 ⟨rfl, hf2⟩
      have HF2 := hide hf2
      obtain ⟨⟨z0, z1, z2, z3, z4⟩, f0, f1, f2, f3, f4⟩ := Hd.zero_cells (((Blk.new w 46 Hd.zero.cells).fr HF1.out (by simp; exact Nat.ne_of_gt HQ.out.1)).fr hf2 (by simp))
      have N0 : w.heap.size < w2.heap.size := lt_of_cell z0
      clear hf2
      unfold Hd.val Hd.zero
      go_wp2_with fail
      refine bodyPost_ret (v := .tuple #[.agg #[.int .i64 0, .int .i64 0, .int .i64 0, .int .i64 0, .int .i64 0], .int .i64 30]) (by simp [results, Try.results16, go_sem, *]) rfl ⟨wrap64 (c + 1), rfl, ?_, ?_⟩
      · have := HQ.out
        exact HA1.out.fr (F := [w.heap.size]) (((HF2.out.mono (fun x hx => by cases hx)).five (.inl (by simp)) _ _ _ _ _).alloc _) (by simp; omega) (by simp; omega)
      · exact ((((((Fr.refl [ab] w).alloc _).trans_same HF1.out).trans_nil HF2.out).five (.inr (Nat.le_refl _)) _ _ _ _ _).alloc _)
  · obtain ⟨x, hx⟩ : ∃ x, f k = x := ⟨_, rfl⟩
    have HU := hide (hunpack_any x (by rw [← hx]; exact h.ok k))
    have HL := hide (load_at HA.out rfl hk hx)
    rw [hx] at h1 h2 h3 h4
    rw [h1] at HU
    rw [h4, h5]
    generalize Hd.of (x : Int) = g at *
    clear h h1 h3 h4 h5 hx
    go_enter Try.func16, Try.ntmps16
    go_wp2_with fail
    refine HL.out.mono ?_
    rintro e w1 ⟨rfl, ha1, hf1⟩
    have HA1 := hide ha1
    have HF1 := hide hf1
    clear ha1 hf1
    go_wp2_with fail
    refine (HU.out _).mono ?_
    rintro e w2 ⟨rfl, hf2⟩
    have HF2 := hide hf2
    obtain ⟨⟨z0, z1, z2, z3, z4⟩, f0, f1, f2, f3, f4⟩ := Hd.zero_cells (((Blk.new w 46 Hd.zero.cells).fr HF1.out (by simp; exact Nat.ne_of_gt HQ.out.1)).fr hf2 (by simp))
    have N0 : w.heap.size < w2.heap.size := lt_of_cell z0
    clear hf2
    obtain ⟨K, s, p, a, t⟩ := g
    simp only at h2
    unfold Hd.val
    go_wp2_with fail
    refine bodyPost_ret (v := .tuple #[.agg #[.int .i64 K, .int .i64 s, .int .i64 p, .int .i64 a, .int .i64 t], .int .i64 0]) (by simp [results, Try.results16, go_sem, *]) rfl ⟨wrap64 (c + 1), rfl, ?_, ?_⟩
    · have := HQ.out
      exact HA1.out.fr (F := [w.heap.size]) (((HF2.out.mono (fun x hx => by cases hx)).five (.inl (by simp)) _ _ _ _ _).alloc _) (by simp; omega) (by simp; omega)
    · exact ((((((Fr.refl [ab] w).alloc _).trans_same HF1.out).trans_nil HF2.out).five (.inr (Nat.le_refl _)) _ _ _ _ _).alloc _)
  · have HL := hide (load_any HA.out i)
    rw [h1, h2]
    have HI := hide hi
    clear h h1 h2 hi
    go_enter Try.func16, Try.ntmps16
    go_wp2_with fail
    refine HL.out.mono ?_
    rintro e w1 ⟨v, er, c', rfl, ha1, hf1, ht⟩
    have HA1 := hide ha1
    have HF1 := hide hf1
    obtain ⟨rfl, rfl, rfl⟩ : v = 0 ∧ er = 2 ∧ c' = c := by
      rcases ht with ⟨a1, a2, _⟩ | ⟨_, a1, a2, a3⟩
      · exact absurd ⟨a1, a2⟩ HI.out
      · exact ⟨a1, a2, a3⟩
    obtain ⟨⟨z0, z1, z2, z3, z4⟩, f0, f1, f2, f3, f4⟩ := Hd.zero_cells ((Blk.new w 46 Hd.zero.cells).fr hf1 (by simp; exact Nat.ne_of_gt HQ.out.1))
    clear ha1 hf1 ht
    go_wp2_with fail
    refine bodyPost_ret (v := .tuple #[.agg #[.int .i64 0, .int .i64 0, .int .i64 0, .int .i64 0, .int .i64 0], .int .i64 2]) (by simp [results, Try.results16, go_sem, *]) rfl ⟨c', rfl, ?_, ?_⟩
    · have := HQ.out
      exact HA1.out.fr (F := [w.heap.size]) ((Fr.refl _ _).five (.inl (by simp)) _ _ _ _ _) (by simp; omega) (by simp; omega)
    · exact (((Fr.refl [ab] w).alloc _).trans_same HF1.out).five (.inr (Nat.le_refl _)) _ _ _ _ _
end Go.Proofs.Ytjnnegbcijmclaa
