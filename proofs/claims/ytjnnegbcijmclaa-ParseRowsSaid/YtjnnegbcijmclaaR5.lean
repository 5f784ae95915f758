/- The document's answer for layer 5: rows of words in a list: row, Make, Fill, At. -/
import Derived.Test.YtjnnegbcijmclaaR4
import Derived.Test.YtjnnegbcijmclaaPn
import Derived.Test.YtjnnegbcijmclaaNm
namespace Go.Proofs.Ytjnnegbcijmclaa
set_option linter.unusedVariables false
open Go.RowKit Go.Gl

/-- A list of words lies at the block g. -/
structure Ws (w : World) (g n : Nat) (f : Nat → Nat) : Prop where
  row : Blk w g 29 (memV n f)
  max : n ≤ 4194304
  ok : ∀ k, f k < 18446744073709551616
section
variable {w w' : World} {g n : Nat} {f : Nat → Nat} {F : List Nat}
theorem Ws.fr (h : Ws w g n f) (hf : Fr F w w') (h1 : g ∉ F) : Ws w' g n f := ⟨h.row.fr hf h1, h.max, h.ok⟩
theorem Ws.drewN (h : Ws w g n f) (k : Nat) : Ws (w.drewN k) g n f := ⟨h.row, h.max, h.ok⟩
theorem Ws.drew (h : Ws w g n f) : Ws w.drew g n f := ⟨h.row, h.max, h.ok⟩
theorem Ws.cw (h : Ws w g n f) {k : Nat} (hk : k < n) : w.cell? ⟨g, k, none⟩ = some (.int .u64 (f k : Int)) := by rw [h.row.cell, memV_at hk]
theorem Ws.put (h : Ws w g n f) (k : Nat) {x : Nat} (hx : x < 18446744073709551616) : Ws (w.setCell ⟨g, k, none⟩ (.int .u64 (x : Int))) g n (upd f k x) := by
  refine ⟨?_, h.max, fun j => ?_⟩
  · have := h.row.put k (.int .u64 (x : Int))
    rw [memV_set] at this
    exact this
  · unfold upd
    split
    · exact hx
    · exact h.ok j
end
theorem r5row_any (g n : Nat) (i m : Int) (hn : n ≤ 4194304) (w : World) :
    Calls Try.prog 23 #[.slice (some ⟨g, 0, none⟩) n n, .int .i64 i, .int .i64 m] w fun e w' => e = .returned (.bool (decide (0 ≤ i ∧ 0 ≤ m ∧ i + m ≤ (n : Int)))) ∧ w = w' := by
  by_cases c1 : 0 ≤ i
  · by_cases c2 : 0 ≤ m
    · by_cases c3 : i ≤ (n : Int)
      · by_cases c4 : m ≤ (n : Int) - i
        · have HE : Hid (true = decide (0 ≤ i ∧ 0 ≤ m ∧ i + m ≤ (n : Int))) := by
            refine Eq.symm ?_
            rw [decide_eq_true_eq]; omega
          go_enter Try.func23, Try.ntmps23
          go_wp2
          go_ret
          exact ⟨ret_bool (by first | (rw [← HE.out]; done) | (simp; omega)), rfl⟩
        · have HE : Hid (false = decide (0 ≤ i ∧ 0 ≤ m ∧ i + m ≤ (n : Int))) := by
            refine Eq.symm ?_
            rw [decide_eq_false_iff_not]; omega
          go_enter Try.func23, Try.ntmps23
          go_wp2
          go_ret
          exact ⟨ret_bool (by first | (rw [← HE.out]; done) | (simp; omega)), rfl⟩
      · have HE : Hid (false = decide (0 ≤ i ∧ 0 ≤ m ∧ i + m ≤ (n : Int))) := by
          refine Eq.symm ?_
          rw [decide_eq_false_iff_not]; omega
        go_enter Try.func23, Try.ntmps23
        go_wp2
        go_ret
        exact ⟨ret_bool (by first | (rw [← HE.out]; done) | (simp; omega)), rfl⟩
    · have HE : Hid (false = decide (0 ≤ i ∧ 0 ≤ m ∧ i + m ≤ (n : Int))) := by
        refine Eq.symm ?_
        rw [decide_eq_false_iff_not]; omega
      go_enter Try.func23, Try.ntmps23
      go_wp2
      go_ret
      exact ⟨ret_bool (by first | (rw [← HE.out]; done) | (simp; omega)), rfl⟩
  · have HE : Hid (false = decide (0 ≤ i ∧ 0 ≤ m ∧ i + m ≤ (n : Int))) := by
      refine Eq.symm ?_
      rw [decide_eq_false_iff_not]; omega
    go_enter Try.func23, Try.ntmps23
    go_wp2
    go_ret
    exact ⟨ret_bool (by first | (rw [← HE.out]; done) | (simp; omega)), rfl⟩
theorem r5row_yes (g n : Nat) {i m : Int} (hn : n ≤ 4194304) (h : 0 ≤ i ∧ 0 ≤ m ∧ i + m ≤ (n : Int)) (w : World) :
    Calls Try.prog 23 #[.slice (some ⟨g, 0, none⟩) n n, .int .i64 i, .int .i64 m] w fun e w' => e = .returned (.bool true) ∧ w = w' := by
  have := r5row_any g n i m hn w
  rw [decide_eq_true h] at this
  exact this
theorem r5row_no (g n : Nat) {i m : Int} (hn : n ≤ 4194304) (h : ¬ (0 ≤ i ∧ 0 ≤ m ∧ i + m ≤ (n : Int))) (w : World) :
    Calls Try.prog 23 #[.slice (some ⟨g, 0, none⟩) n n, .int .i64 i, .int .i64 m] w fun e w' => e = .returned (.bool false) ∧ w = w' := by
  have := r5row_any g n i m hn w
  rw [decide_eq_false h] at this
  exact this
set_option maxHeartbeats 3200000 in
theorem r5at_any {w : World} {g n : Nat} {f : Nat → Nat} (h : Ws w g n f) (i : Int) :
    Calls Try.prog 27 #[.slice (some ⟨g, 0, none⟩) n n, .int .i64 i] w fun e w' => e = .returned (.tuple #[(atH n f i).val, .int .i64 (atE n f i)]) ∧ Fr [] w w' := by
  have H := hide h
  have HM := hide h.max
  have N1 := h.row.lt
  rcases at_ways n f i with ⟨k, rfl, hk, h1, h2, h3, h4⟩ | ⟨k, rfl, hk, h1, h2, h3, h4⟩ | ⟨k, rfl, hk, h1, h2, h3, h4, h5⟩ | ⟨hi, h1, h2⟩
  iterate 2
    · obtain ⟨x, hx⟩ : ∃ x, f k = x := ⟨_, rfl⟩
      have HU := hide (r4unpack_any x (by rw [← hx]; exact h.ok k))
      have HR := hide (r5row_yes g n (i := (k : Int)) (m := 1) HM.out (by omega))
      have hc := h.cw hk
      have hkn : (k : Int) < (n : Int) := by omega
      rw [hx] at h1 h2 hc
      rw [h1, h2] at HU
      rw [h3, h4]
      clear h h1 h2 h3 h4 hx
      have HZ : Hid (Blk (w.alloc (.cells Hd.zero.cells 46)) w.heap.size 46 Hd.zero.cells) := Blk.new _ _ _
      go_enter Try.func27, Try.ntmps27
      go_wp2_with (go_at_call 23; refine (HR.out _).mono ?_; rintro e w' ⟨rfl, rfl⟩)
      refine (HU.out _).mono ?_
      rintro e w2 ⟨rfl, hf2⟩
      have HF2 := hide hf2
      obtain ⟨⟨z0, z1, z2, z3, z4⟩, f0, f1, f2, f3, f4⟩ := Hd.zero_cells (HZ.out.fr hf2 (by simp))
      have N0 : w.heap.size < w2.heap.size := lt_of_cell z0
      clear hf2 hc
      unfold Hd.val Hd.zero
      go_wp2_with fail
      refine bodyPost_ret (v := .tuple #[.agg #[.int .i64 0, .int .i64 0, .int .i64 0, .int .i64 0, .int .i64 0], .int .i64 30]) (by simp [results, Try.results27, go_sem, *]) rfl ⟨rfl, ?_⟩
      exact (((((Fr.refl [] w).alloc _).trans_nil HF2.out).five (.inr (Nat.le_refl _)) _ _ _ _ _).alloc _)
  · obtain ⟨x, hx⟩ : ∃ x, f k = x := ⟨_, rfl⟩
    have HU := hide (r4unpack_any x (by rw [← hx]; exact h.ok k))
    have HR := hide (r5row_yes g n (i := (k : Int)) (m := 1) HM.out (by omega))
    have hc := h.cw hk
    have hkn : (k : Int) < (n : Int) := by omega
    rw [hx] at h1 h2 h3 h4 hc
    rw [h1] at HU
    rw [h4, h5]
    generalize Hd.of (x : Int) = G at *
    clear h h1 h3 h4 h5 hx
    have HZ : Hid (Blk (w.alloc (.cells Hd.zero.cells 46)) w.heap.size 46 Hd.zero.cells) := Blk.new _ _ _
    go_enter Try.func27, Try.ntmps27
    go_wp2_with (go_at_call 23; refine (HR.out _).mono ?_; rintro e w' ⟨rfl, rfl⟩)
    refine (HU.out _).mono ?_
    rintro e w2 ⟨rfl, hf2⟩
    have HF2 := hide hf2
    obtain ⟨⟨z0, z1, z2, z3, z4⟩, f0, f1, f2, f3, f4⟩ := Hd.zero_cells (HZ.out.fr hf2 (by simp))
    have N0 : w.heap.size < w2.heap.size := lt_of_cell z0
    clear hf2 hc
    obtain ⟨K, s, p, a, t⟩ := G
    simp only at h2
    unfold Hd.val
    go_wp2_with fail
    refine bodyPost_ret (v := .tuple #[.agg #[.int .i64 K, .int .i64 s, .int .i64 p, .int .i64 a, .int .i64 t], .int .i64 0]) (by simp [results, Try.results27, go_sem, *]) rfl ⟨rfl, ?_⟩
    exact (((((Fr.refl [] w).alloc _).trans_nil HF2.out).five (.inr (Nat.le_refl _)) _ _ _ _ _).alloc _)
  · have HR := hide (r5row_no g n (i := i) (m := 1) HM.out (by omega))
    rw [h1, h2]
    clear h h1 h2 hi
    go_enter Try.func27, Try.ntmps27
    go_wp2_with (go_at_call 23; refine (HR.out _).mono ?_; rintro e w' ⟨rfl, rfl⟩)
    refine bodyPost_ret (v := .tuple #[.agg #[.int .i64 0, .int .i64 0, .int .i64 0, .int .i64 0, .int .i64 0], .int .i64 2]) (by simp [results, Try.results27, go_sem, *]) rfl ⟨rfl, ?_⟩
    exact (Fr.refl [] w).alloc _
theorem r4pack_right {h : Hd} (r : h.Right) (w : World) : Calls Try.prog 22 #[h.val] w fun e w' => e = .returned (.tuple #[.int .u64 h.word, .int .i64 0]) ∧ Fr [] w w' := by
  have := r4pack_any h w
  unfold Hd.ans Hd.err at this
  rw [if_pos (Hd.rightB_iff.2 r), if_pos (Hd.rightB_iff.2 r)] at this
  exact this
theorem r4pack_wrong {h : Hd} (r : ¬ h.Right) (w : World) : Calls Try.prog 22 #[h.val] w fun e w' => e = .returned (.tuple #[.int .u64 0, .int .i64 3]) ∧ Fr [] w w' := by
  have := r4pack_any h w
  unfold Hd.ans Hd.err at this
  rw [if_neg (fun x => r (Hd.rightB_iff.1 x)), if_neg (fun x => r (Hd.rightB_iff.1 x))] at this
  exact this
def RWritePost (w : World) (g n : Nat) (er : Int) (f' : Nat → Nat) (e : Ending) (w' : World) : Prop := e = .returned (.int .i64 er) ∧ Ws w' g n f' ∧ Fr [g] w w'
theorem r5make_any {w : World} {g n : Nat} {f : Nat → Nat} (h : Ws w g n f) (i s p : Int) :
    Calls Try.prog 10 #[.slice (some ⟨g, 0, none⟩) n n, .int .i64 i, .int .i64 s, .int .i64 p] w (RWritePost w g n (makeE n i s p) (makeF n f i s p)) := by
  have H := hide h
  have HM := hide h.max
  have hw := make_ways n f i s p
  clear h
  unfold RWritePost
  rcases hw with ⟨r, h1, h2⟩ | ⟨r, hr, h1, h2⟩ | ⟨I, S, P, rfl, rfl, rfl, hS, hP, hIS, r, hword, h1, h2⟩
  · rw [h1, h2]
    have HP := hide (r4pack_wrong r)
    unfold objH Hd.val at HP
    clear h1 h2 r
    go_enter Try.func10, Try.ntmps10
    go_wp2_with fail
    refine (HP.out _).mono ?_
    rintro e w1 ⟨rfl, hf1⟩
    have HF1 := hide hf1
    clear hf1
    go_wp2_with fail
    go_ret
    exact ⟨rfl, H.out.fr HF1.out (by simp), HF1.out.mono (fun x hx => by cases hx)⟩
  · rw [h1, h2]
    have HP := hide (r4pack_right r)
    unfold objH Hd.val at HP
    generalize Hd.word _ = x at HP
    have HR := hide (r5row_no g n HM.out hr)
    clear h1 h2 r hr
    go_enter Try.func10, Try.ntmps10
    go_wp2_with fail
    refine (HP.out _).mono ?_
    rintro e w1 ⟨rfl, hf1⟩
    have HF1 := hide hf1
    clear hf1
    go_wp2_with (go_at_call 23; refine (HR.out _).mono ?_; rintro e w' ⟨rfl, rfl⟩)
    go_ret
    exact ⟨rfl, H.out.fr HF1.out (by simp), HF1.out.mono (fun x hx => by cases hx)⟩
  · rw [h1, h2]
    have HP := hide (r4pack_right r)
    rw [hword] at HP
    unfold objH Hd.val at HP
    have HX : Hid (objW S P < 18446744073709551616) := objW_lt hS.2 hP
    have HR := hide (r5row_yes g n (i := (I : Int)) (m := (S : Int)) HM.out (by omega))
    generalize objW S P = x at *
    have hmax := HM.out
    clear h1 h2 r hword hP
    go_enter Try.func10, Try.ntmps10
    go_wp2_with fail
    refine (HP.out _).mono ?_
    rintro e w1 ⟨rfl, hf1⟩
    have HF1 := hide hf1
    have HW1 := hide (H.out.fr hf1 (by simp))
    clear hf1
    go_wp2_with (go_at_call 23; refine (HR.out _).mono ?_; rintro e w' ⟨rfl, rfl⟩)
    go_loopw [11] (fun i wr => ∃ (k : Nat), i = .int .i64 k ∧ k ≤ S ∧ Ws wr g n (updRow f I k (fun _ => 0)) ∧ Fr [g] w1 wr) (fun i _ => S - (intOf i).toNat)
    case atStart => exact ⟨0, rfl, Nat.zero_le _, by
      have e : updRow f I 0 (fun _ => 0) = f := by funext j; unfold updRow; rw [if_neg (by omega)]
      rw [e]; exact HW1.out, Fr.refl _ _⟩
    case round =>
      obtain ⟨k, rfl, hk, hws, hf⟩ := hrel
      have HS := hide hws
      have HF := hide hf
      clear hws hf
      by_cases hlt : k < S
      · have hlt' : (k : Int) < (S : Int) := by omega
        have hin : (I : Int) + (k : Int) < (n : Int) := by omega
        have hc := HS.out.cw (k := I + k) (by omega)
        have hz := HS.out.row.frozen (I + k)
        have HN := hide (HS.out.put (I + k) (x := 0) (by decide))
        have HE : Hid (upd (updRow f I k fun _ => 0) (I + k) 0 = updRow f I (k + 1) (fun _ => 0)) := by
          show _ = _
          funext j
          unfold upd updRow
          by_cases h1 : j = I + k
          · rw [if_pos h1, if_pos (by omega)]
          · rw [if_neg h1]
            by_cases h2 : I ≤ j ∧ j < I + k
            · rw [if_pos h2, if_pos (by omega)]
            · rw [if_neg h2, if_neg (by omega)]
        rw [HE.out] at HN
        go_wp2_with fail
        exact ⟨⟨k + 1, by go_num, by omega, HN.out, HF.out.setCell (p := ⟨g, I + k, none⟩) (.inl (by simp)) _⟩, by simp [intOf]; omega⟩
      · obtain rfl : k = S := by omega
        have hin : (I : Int) < (n : Int) := by omega
        have hc := HS.out.cw (k := I) (by omega)
        have hz := HS.out.row.frozen I
        have HN := hide (HS.out.put I HX.out)
        go_wp2_with fail
        go_ret
        exact ⟨rfl, HN.out, (HF1.out.mono (G := [g]) (fun x hx => by cases hx)).trans_same (HF.out.setCell (p := ⟨g, I, none⟩) (.inl (by simp)) _)⟩
theorem r5fill_any {w : World} {g n : Nat} {f : Nat → Nat} (h : Ws w g n f) (a b : Int) :
    Calls Try.prog 12 #[.slice (some ⟨g, 0, none⟩) n n, .int .i64 a, .int .i64 b] w (RWritePost w g n (bndE n a b) (fillN n f a b)) := by
  have H := hide h
  have hmax := h.max
  have hw := bnd_ways n a b
  clear h
  unfold RWritePost
  rcases hw with ⟨A, B, rfl, rfl, hAB, hBn, he⟩ | ⟨h1, he⟩ | ⟨h1, h2, he⟩ | ⟨h1, h2, h3, he⟩
  · rw [fillN_in he, he]
    have HG := hide (Filling.start f hAB)
    generalize fillF (B - A) f A B = F at *
    have c1 : ¬ ((B : Int) < (A : Int)) := by omega
    have c2 : ¬ ((n : Int) < (B : Int)) := by omega
    clear he
    go_enter Try.func12, Try.ntmps12
    go_wp2_with fail
    go_loopw [1] (fun i wr => ∃ (k : Nat) (f1 : Nat → Nat), i = .int .i64 k ∧ Filling F f1 B k ∧ Ws wr g n f1 ∧ Fr [g] w wr) (fun i _ => B - (intOf i).toNat)
    case atStart => exact ⟨A, f, rfl, HG.out, H.out, Fr.refl _ _⟩
    case round =>
      obtain ⟨k, f1, rfl, hg, ha, hf⟩ := hrel
      have HG1 := hide hg
      have HA1 := hide ha
      have HF1 := hide hf
      clear hg ha hf
      have hkB := HG1.out.le
      by_cases hlt : k < B
      · have hlt' : (k : Int) < (B : Int) := by omega
        have hlt2 : (k : Int) < (n : Int) := by omega
        obtain ⟨S, hS⟩ : ∃ S : Nat, S = min (B - k) 1048576 := ⟨_, rfl⟩
        have HN := hide (HG1.out.next (s := S) hlt hS)
        have HP := hide (r4pack_right (fillH_right (size := (S : Int)) (by omega)))
        rw [fillH_word] at HP
        unfold fillH Hd.val at HP
        have HX : Hid (fillW S < 18446744073709551616) := fillW_lt (by omega)
        have hway : (B : Int) - (k : Int) = (S : Int) ∧ (S : Int) ≤ 1048576 ∨ 1048576 < (B : Int) - (k : Int) ∧ S = 1048576 := by omega
        have HS : Hid (1 ≤ S ∧ k + S ≤ B) := ⟨by omega, by omega⟩
        clear hS
        generalize fillW S = x at *
        rcases hway with ⟨e1, e2⟩ | ⟨e1, rfl⟩
        all_goals
          go_wp2_with fail
          refine (HP.out _).mono ?_
          rintro e w2 ⟨rfl, hf2⟩
          have HA2 := hide (HA1.out.fr hf2 (by simp))
          have HF2 := hide hf2
          have HS1 := HS.out.2
          have hc := HA2.out.cw (k := k) (by omega)
          have hz := HA2.out.row.frozen k
          have HA3 := hide (HA2.out.put k HX.out)
          clear hf2
          go_wp2_with fail
          go_roundw
          case rel => exact ⟨k + _, _, by go_num, HN.out, HA3.out, (HF1.out.trans_nil HF2.out).setCell (p := ⟨g, k, none⟩) (.inl (by simp)) _⟩
          case measure => have := HS.out.1; simp [intOf]; omega
      · rw [← HG1.out.done hlt] at HA1
        go_wp2_with fail
        go_ret
        exact ⟨rfl, HA1.out, HF1.out⟩
  all_goals
    rw [fillN_out he, he]
    clear he
    go_enter Try.func12, Try.ntmps12
    go_wp2_with fail
    go_ret
    exact ⟨rfl, H.out, Fr.refl _ _⟩
end Go.Proofs.Ytjnnegbcijmclaa
