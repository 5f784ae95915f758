/- The package region: SetTop, Mark, Turn, Release. -/
import Derived.Test.YtjgjcpafdhocfaaRt2
namespace Go.Proofs.Ytjgjcpafdhocfaa
set_option linter.unusedVariables false
open Go.RowKit Go.Gl

theorem settop_at {w : World} {tb sb pb mb W n : Nat} {s t m : Nat → Int} (h : Rg w tb sb pb mb W n s t m) {k : Nat} (hk : k < n) (hx : Filled (s k)) {c : Int} (hc1 : ((k * W : Nat) : Int) ≤ c) (hc2 : c ≤ ((k * W + W : Nat) : Int)) :
    Calls Try.prog 17 #[.pointer (some ⟨tb, 0, none⟩), .int .i64 (k : Int), .int .i64 c] w (RPost w tb sb pb mb W n s (put1 t k c) m (.int .i64 0)) := by
  have HF := hide (filled_yes hx)
  have HH := hide (has_in h hk)
  have HB := hide (base_at h hk)
  have HE := hide (end_at h hk)
  have hk' : (k : Int) < (n : Int) := by omega
  have hn := h.nmax
  have c1 := h.c1
  have c2 := h.c2
  have cr := h.cs hk
  have ct := h.ct hk
  have cz := h.tops.frozen k
  have HP := hide (h.putT k c (fun _ => ⟨hc1, hc2⟩))
  unfold RPost
  clear h hx
  generalize k * W + W = E at *
  generalize k * W = B at *
  generalize s k = y at *
  generalize t k = T at *
  go_enter Try.func17, Try.ntmps17
  go_wp2_with (first | (go_at_call 26; refine HH.out.mono ?_; rintro e w' ⟨rfl, rfl⟩) | (go_at_call 24; refine (HF.out _).mono ?_; rintro e w' ⟨rfl, rfl⟩) | (go_at_call 37; refine HB.out.mono ?_; rintro e w' ⟨rfl, rfl⟩) | (go_at_call 27; refine HE.out.mono ?_; rintro e w' ⟨rfl, q, rfl⟩))
  go_ret
  exact ⟨rfl, HP.out.drewN _, ((Fr.refl _ _).setCell (p := ⟨pb, k, none⟩) (.inl (by simp)) _).drewN _⟩
theorem settop_shape {w : World} {tb sb pb mb W n : Nat} {s t m : Nat → Int} (h : Rg w tb sb pb mb W n s t m) {k : Nat} (hk : k < n) (hx : ¬ Filled (s k)) {c : Int} (hc1 : ((k * W : Nat) : Int) ≤ c) (hc2 : c ≤ ((k * W + W : Nat) : Int)) :
    Calls Try.prog 17 #[.pointer (some ⟨tb, 0, none⟩), .int .i64 (k : Int), .int .i64 c] w fun e w' => e = .returned (.int .i64 3) ∧ ∃ q, w' = w.drewN q := by
  have HF := hide (filled_no hx)
  have HH := hide (has_in h hk)
  have HB := hide (base_at h hk)
  have HE := hide (end_at h hk)
  have hk' : (k : Int) < (n : Int) := by omega
  have hn := h.nmax
  have c1 := h.c1
  have cr := h.cs hk
  clear h hx
  generalize k * W + W = E at *
  generalize k * W = B at *
  generalize s k = y at *
  go_enter Try.func17, Try.ntmps17
  go_wp2_with (first | (go_at_call 26; refine HH.out.mono ?_; rintro e w' ⟨rfl, rfl⟩) | (go_at_call 24; refine (HF.out _).mono ?_; rintro e w' ⟨rfl, rfl⟩) | (go_at_call 37; refine HB.out.mono ?_; rintro e w' ⟨rfl, rfl⟩) | (go_at_call 27; refine HE.out.mono ?_; rintro e w' ⟨rfl, q, rfl⟩))
  go_ret
  exact ⟨rfl, _, rfl⟩
theorem settop_off {w : World} {tb sb pb mb W n : Nat} {s t m : Nat → Int} (h : Rg w tb sb pb mb W n s t m) {k : Nat} (hk : k < n) {c : Int} (hc : ¬ (((k * W : Nat) : Int) ≤ c ∧ c ≤ ((k * W + W : Nat) : Int))) :
    Calls Try.prog 17 #[.pointer (some ⟨tb, 0, none⟩), .int .i64 (k : Int), .int .i64 c] w fun e w' => e = .returned (.int .i64 2) ∧ ∃ q, w' = w.drewN q := by
  have HH := hide (has_in h hk)
  have HB := hide (base_at h hk)
  have HE := hide (end_at h hk)
  clear h
  generalize k * W + W = E at *
  generalize k * W = B at *
  by_cases h1 : c < (B : Int)
  · clear hc
    go_enter Try.func17, Try.ntmps17
    go_wp2_with (first | (go_at_call 26; refine HH.out.mono ?_; rintro e w' ⟨rfl, rfl⟩) | (go_at_call 37; refine HB.out.mono ?_; rintro e w' ⟨rfl, rfl⟩) | (go_at_call 27; refine HE.out.mono ?_; rintro e w' ⟨rfl, q, rfl⟩))
    go_ret
    exact ⟨rfl, 0, rfl⟩
  · have h2 : (E : Int) < c := by omega
    clear hc
    go_enter Try.func17, Try.ntmps17
    go_wp2_with (first | (go_at_call 26; refine HH.out.mono ?_; rintro e w' ⟨rfl, rfl⟩) | (go_at_call 37; refine HB.out.mono ?_; rintro e w' ⟨rfl, rfl⟩) | (go_at_call 27; refine HE.out.mono ?_; rintro e w' ⟨rfl, q, rfl⟩))
    go_ret
    exact ⟨rfl, _, rfl⟩
theorem settop_out {w : World} {tb sb pb mb W n : Nat} {s t m : Nat → Int} (h : Rg w tb sb pb mb W n s t m) {r : Int} (hr : ¬ (0 ≤ r ∧ r < (n : Int))) (c : Int) :
    Calls Try.prog 17 #[.pointer (some ⟨tb, 0, none⟩), .int .i64 r, .int .i64 c] w fun e w' => e = .returned (.int .i64 2) ∧ w = w' := by
  have HH := hide (has_out h hr)
  clear h hr
  go_enter Try.func17, Try.ntmps17
  go_wp2_with (first | (go_at_call 26; refine HH.out.mono ?_; rintro e w' ⟨rfl, rfl⟩))
  go_ret
  exact ⟨rfl, rfl⟩

theorem mark_at {w : World} {tb sb pb mb W n : Nat} {s t m : Nat → Int} (h : Rg w tb sb pb mb W n s t m) {k : Nat} (hk : k < n) :
    Calls Try.prog 18 #[.pointer (some ⟨tb, 0, none⟩), .int .i64 (k : Int)] w (RPost w tb sb pb mb W n s t (put1 m k (t k)) (.int .i64 0)) := by
  have HH := hide (has_in h hk)
  have hk' : (k : Int) < (n : Int) := by omega
  have hn := h.nmax
  have c2 := h.c2
  have c3 := h.c3
  have ct := h.ct hk
  have cm := h.cm hk
  have cz := h.tams.frozen k
  have HP := hide (h.putM k (t k) (fun _ => h.tok k hk))
  unfold RPost
  clear h
  generalize put1 m k (t k) = m' at *
  generalize t k = T at *
  generalize m k = M at *
  go_enter Try.func18, Try.ntmps18
  go_wp2_with (first | (go_at_call 26; refine HH.out.mono ?_; rintro e w' ⟨rfl, rfl⟩))
  refine region_tail 13 (by kernel_rfl) (by kernel_rfl) ?_
  simp only [List.take_succ_cons, List.take_zero, List.drop_succ_cons, List.drop_zero]
  repeat still_step
  refine wpStill_nil ?_
  go_wp2
  go_ret
  exact ⟨rfl, HP.out.drew, ((Fr.refl _ _).setCell (p := ⟨mb, k, none⟩) (.inl (by simp)) _).drew⟩
theorem mark_out {w : World} {tb sb pb mb W n : Nat} {s t m : Nat → Int} (h : Rg w tb sb pb mb W n s t m) {r : Int} (hr : ¬ (0 ≤ r ∧ r < (n : Int))) :
    Calls Try.prog 18 #[.pointer (some ⟨tb, 0, none⟩), .int .i64 r] w fun e w' => e = .returned (.int .i64 2) ∧ w = w' := by
  have HH := hide (has_out h hr)
  clear h hr
  go_enter Try.func18, Try.ntmps18
  go_wp2_with (first | (go_at_call 26; refine HH.out.mono ?_; rintro e w' ⟨rfl, rfl⟩))
  go_ret
  exact ⟨rfl, rfl⟩

theorem turn_at {w : World} {tb sb pb mb W n : Nat} {s t m : Nat → Int} (h : Rg w tb sb pb mb W n s t m) {k : Nat} (hk : k < n) (hx : Filled (s k)) {x : Int} (hy : Filled x) :
    Calls Try.prog 19 #[.pointer (some ⟨tb, 0, none⟩), .int .i64 (k : Int), .int .i64 x] w (RPost w tb sb pb mb W n (put1 s k x) t m (.int .i64 0)) := by
  have HF := hide (filled_yes hx)
  have HG := hide (filled_yes hy)
  have HH := hide (has_in h hk)
  have hk' : (k : Int) < (n : Int) := by omega
  have hn := h.nmax
  have c1 := h.c1
  have cr := h.cs hk
  have cz := h.st.frozen k
  have HP := hide (h.putS k x (by rcases hy with rfl | rfl | rfl <;> decide))
  unfold RPost
  clear h hx hy
  generalize put1 s k x = s' at *
  generalize s k = y at *
  go_enter Try.func19, Try.ntmps19
  go_wp2_with (first | (go_at_call 26; refine HH.out.mono ?_; rintro e w' ⟨rfl, rfl⟩) | (go_at_call 24; first | (with_reducible refine Calls.mono (HF.out _) ?_; rintro e w' ⟨rfl, rfl⟩) | (with_reducible refine Calls.mono (HG.out _) ?_; rintro e w' ⟨rfl, rfl⟩)))
  go_ret
  exact ⟨rfl, HP.out, (Fr.refl _ _).setCell (p := ⟨sb, k, none⟩) (.inl (by simp)) _⟩
theorem turn_shape {w : World} {tb sb pb mb W n : Nat} {s t m : Nat → Int} (h : Rg w tb sb pb mb W n s t m) {k : Nat} (hk : k < n) {x : Int} (hx : ¬ (Filled (s k) ∧ Filled x)) :
    Calls Try.prog 19 #[.pointer (some ⟨tb, 0, none⟩), .int .i64 (k : Int), .int .i64 x] w fun e w' => e = .returned (.int .i64 3) ∧ w = w' := by
  have HH := hide (has_in h hk)
  have hk' : (k : Int) < (n : Int) := by omega
  have hn := h.nmax
  have c1 := h.c1
  have cr := h.cs hk
  clear h
  generalize s k = y at *
  by_cases hy : Filled y
  · have HF := hide (filled_yes hy)
    have HG := hide (filled_no (x := x) (fun h => hx ⟨hy, h⟩))
    clear hx hy
    go_enter Try.func19, Try.ntmps19
    go_wp2_with (first | (go_at_call 26; refine HH.out.mono ?_; rintro e w' ⟨rfl, rfl⟩) | (go_at_call 24; first | (with_reducible refine Calls.mono (HF.out _) ?_; rintro e w' ⟨rfl, rfl⟩) | (with_reducible refine Calls.mono (HG.out _) ?_; rintro e w' ⟨rfl, rfl⟩)))
    go_ret
    exact ⟨rfl, rfl⟩
  · have HF := hide (filled_no hy)
    clear hx hy
    go_enter Try.func19, Try.ntmps19
    go_wp2_with (first | (go_at_call 26; refine HH.out.mono ?_; rintro e w' ⟨rfl, rfl⟩) | (go_at_call 24; refine (HF.out _).mono ?_; rintro e w' ⟨rfl, rfl⟩))
    go_ret
    exact ⟨rfl, rfl⟩
theorem turn_out {w : World} {tb sb pb mb W n : Nat} {s t m : Nat → Int} (h : Rg w tb sb pb mb W n s t m) {r : Int} (hr : ¬ (0 ≤ r ∧ r < (n : Int))) (x : Int) :
    Calls Try.prog 19 #[.pointer (some ⟨tb, 0, none⟩), .int .i64 r, .int .i64 x] w fun e w' => e = .returned (.int .i64 2) ∧ w = w' := by
  have HH := hide (has_out h hr)
  clear h hr
  go_enter Try.func19, Try.ntmps19
  go_wp2_with (first | (go_at_call 26; refine HH.out.mono ?_; rintro e w' ⟨rfl, rfl⟩))
  go_ret
  exact ⟨rfl, rfl⟩

/-- A table whose numbers may be whatever they are. -/
structure Rg0 (w : World) (tb sb pb mb W n : Nat) (s t m : Nat → Int) : Prop where
  set : Blk w tb 57 #[.int .i64 (W : Int), .slice (some ⟨sb, 0, none⟩) n n, .slice (some ⟨pb, 0, none⟩) n n, .slice (some ⟨mb, 0, none⟩) n n]
  st : Blk w sb 33 (rowV .i64 n s)
  tops : Blk w pb 3 (rowV .i64 n t)
  tams : Blk w mb 3 (rowV .i64 n m)
  pm : pb ≠ mb
  pos : 1 ≤ W
  max : n * W ≤ 4194304
section
variable {w w' : World} {tb sb pb mb W n : Nat} {s t m : Nat → Int} {F : List Nat}
theorem Rg.rg0 (h : Rg w tb sb pb mb W n s t m) : Rg0 w tb sb pb mb W n s t m := ⟨h.set, h.st, h.tops, h.tams, h.pm, h.pos, h.max⟩
theorem Rg0.rg (h : Rg0 w tb sb pb mb W n s t m) (sok : ∀ k, k < n → 0 ≤ s k ∧ s k ≤ 5) (tok : ∀ k, k < n → ((k * W : Nat) : Int) ≤ t k ∧ t k ≤ ((k * W + W : Nat) : Int)) (mok : ∀ k, k < n → ((k * W : Nat) : Int) ≤ m k ∧ m k ≤ ((k * W + W : Nat) : Int)) : Rg w tb sb pb mb W n s t m :=
  ⟨h.set, h.st, h.tops, h.tams, h.pm, h.pos, h.max, sok, tok, mok⟩
theorem Rg0.drew (h : Rg0 w tb sb pb mb W n s t m) : Rg0 w.drew tb sb pb mb W n s t m := ⟨h.set, h.st, h.tops, h.tams, h.pm, h.pos, h.max⟩
theorem Rg0.c0 (h : Rg0 w tb sb pb mb W n s t m) : w.cell? ⟨tb, 0, none⟩ = some (.int .i64 (W : Int)) := by rw [h.set.cell]; rfl
theorem Rg0.c1 (h : Rg0 w tb sb pb mb W n s t m) : w.cell? ⟨tb, 1, none⟩ = some (.slice (some ⟨sb, 0, none⟩) n n) := by rw [h.set.cell]; rfl
theorem Rg0.c2 (h : Rg0 w tb sb pb mb W n s t m) : w.cell? ⟨tb, 2, none⟩ = some (.slice (some ⟨pb, 0, none⟩) n n) := by rw [h.set.cell]; rfl
theorem Rg0.c3 (h : Rg0 w tb sb pb mb W n s t m) : w.cell? ⟨tb, 3, none⟩ = some (.slice (some ⟨mb, 0, none⟩) n n) := by rw [h.set.cell]; rfl
theorem Rg0.cs (h : Rg0 w tb sb pb mb W n s t m) {k : Nat} (hk : k < n) : w.cell? ⟨sb, k, none⟩ = some (.int .i64 (s k)) := by rw [h.st.cell, rowV_at hk]
theorem Rg0.ct (h : Rg0 w tb sb pb mb W n s t m) {k : Nat} (hk : k < n) : w.cell? ⟨pb, k, none⟩ = some (.int .i64 (t k)) := by rw [h.tops.cell, rowV_at hk]
theorem Rg0.cm (h : Rg0 w tb sb pb mb W n s t m) {k : Nat} (hk : k < n) : w.cell? ⟨mb, k, none⟩ = some (.int .i64 (m k)) := by rw [h.tams.cell, rowV_at hk]
theorem Rg0.nmax (h : Rg0 w tb sb pb mb W n s t m) : n ≤ 4194304 := Nat.le_trans (Nat.le_mul_of_pos_right n h.pos) h.max
theorem Rg0.base_le (h : Rg0 w tb sb pb mb W n s t m) {k : Nat} (hk : k < n) : k * W ≤ 4194304 := Nat.le_trans (Nat.mul_le_mul_right W (by omega)) h.max
theorem Rg0.putS (h : Rg0 w tb sb pb mb W n s t m) (k : Nat) (x : Int) : Rg0 (w.setCell ⟨sb, k, none⟩ (.int .i64 x)) tb sb pb mb W n (put1 s k x) t m :=
  ⟨h.set.far (p := ⟨sb, k, none⟩) (h.set.apart h.st (by decide)) _, h.st.putRow k x, h.tops.far (p := ⟨sb, k, none⟩) (h.tops.apart h.st (by decide)) _, h.tams.far (p := ⟨sb, k, none⟩) (h.tams.apart h.st (by decide)) _, h.pm, h.pos, h.max⟩
theorem Rg0.putT (h : Rg0 w tb sb pb mb W n s t m) (k : Nat) (x : Int) : Rg0 (w.setCell ⟨pb, k, none⟩ (.int .i64 x)) tb sb pb mb W n s (put1 t k x) m :=
  ⟨h.set.far (p := ⟨pb, k, none⟩) (h.set.apart h.tops (by decide)) _, h.st.far (p := ⟨pb, k, none⟩) (h.st.apart h.tops (by decide)) _, h.tops.putRow k x, h.tams.far (p := ⟨pb, k, none⟩) h.pm.symm _, h.pm, h.pos, h.max⟩
theorem Rg0.putM (h : Rg0 w tb sb pb mb W n s t m) (k : Nat) (x : Int) : Rg0 (w.setCell ⟨mb, k, none⟩ (.int .i64 x)) tb sb pb mb W n s t (put1 m k x) :=
  ⟨h.set.far (p := ⟨mb, k, none⟩) (h.set.apart h.tams (by decide)) _, h.st.far (p := ⟨mb, k, none⟩) (h.st.apart h.tams (by decide)) _, h.tops.far (p := ⟨mb, k, none⟩) h.pm _, h.tams.putRow k x, h.pm, h.pos, h.max⟩
end
def RPost0 (w : World) (tb sb pb mb W n : Nat) (s' t' m' : Nat → Int) (v : Value) (e : Ending) (w' : World) : Prop :=
  e = .returned v ∧ Rg0 w' tb sb pb mb W n s' t' m' ∧ Fr [sb, pb, mb] w w'
theorem empty0 {w : World} {tb sb pb mb W n : Nat} {s t m : Nat → Int} (h : Rg0 w tb sb pb mb W n s t m) {k : Nat} (hk : k < n) :
    Calls Try.prog 23 #[.pointer (some ⟨tb, 0, none⟩), .int .i64 (k : Int)] w (RPost0 w tb sb pb mb W n (put1 s k 0) (put1 t k ((k * W : Nat) : Int)) (put1 m k ((k * W : Nat) : Int)) (.tuple #[])) := by
  have hk' : (k : Int) < (n : Int) := by omega
  have hn := h.nmax
  have c1 := h.c1
  have cs := h.cs hk
  have cz := h.st.frozen k
  have HP := hide (h.putS k 0)
  obtain ⟨B, hB⟩ : ∃ B, B = k * W := ⟨_, rfl⟩
  have EB := hide hB
  rw [← hB]
  clear hB
  unfold RPost0
  clear h
  generalize put1 s k 0 = s' at *
  generalize s k = y at *
  go_enter Try.func23, Try.ntmps23
  go_wp2_with fail
  have HF1 : Hid (Fr [sb, pb, mb] w (w.setCell ⟨sb, k, none⟩ (.int .i64 0))) := (Fr.refl _ _).setCell (p := ⟨sb, k, none⟩) (.inl (by simp)) _
  generalize w.setCell ⟨sb, k, none⟩ (.int .i64 0) = w1 at *
  clear c1 cs cz
  have H1 := HP.out.drew
  have HB1 := hide (base_cell H1.c0 (H1.base_le hk))
  rw [← EB.out] at HB1
  have c2 := HP.out.c2
  have ct := HP.out.ct hk
  have cz := HP.out.tops.frozen k
  have HP2 := hide (HP.out.putT k (B : Int))
  clear H1
  generalize t k = T at *
  refine region_tail 9 (by kernel_rfl) (by kernel_rfl) ?_
  simp only [List.take_succ_cons, List.take_zero, List.drop_succ_cons, List.drop_zero]
  repeat still_step
  still_call (call_right HB1.out)
  repeat still_step
  refine wpStill_nil ?_
  go_wp2_with fail
  have HF2 : Hid (Fr [sb, pb, mb] w ((w1.setCell ⟨pb, k, none⟩ (.int .i64 (B : Int))).drew)) := (HF1.out.setCell (p := ⟨pb, k, none⟩) (.inl (by simp)) _).drew
  have HP2' := hide HP2.out.drew
  generalize (w1.setCell ⟨pb, k, none⟩ (.int .i64 (B : Int))).drew = w2 at *
  clear c2 ct cz
  have H2 := HP2'.out.drew
  have HB2 := hide (base_cell H2.c0 (H2.base_le hk))
  rw [← EB.out] at HB2
  have c3 := HP2'.out.c3
  have cm := HP2'.out.cm hk
  have cz := HP2'.out.tams.frozen k
  have HP3 := hide (HP2'.out.putM k (B : Int))
  clear H2
  generalize m k = M at *
  refine region_tail 9 (by kernel_rfl) (by kernel_rfl) ?_
  simp only [List.take_succ_cons, List.take_zero, List.drop_succ_cons, List.drop_zero]
  repeat still_step
  still_call (call_right HB2.out)
  repeat still_step
  refine wpStill_nil ?_
  go_wp2
  go_end0
  exact ⟨rfl, HP3.out.drew, (HF2.out.setCell (p := ⟨mb, k, none⟩) (.inl (by simp)) _).drew⟩

theorem empty_at {w : World} {tb sb pb mb W n : Nat} {s t m : Nat → Int} (h : Rg w tb sb pb mb W n s t m) {k : Nat} (hk : k < n) :
    Calls Try.prog 23 #[.pointer (some ⟨tb, 0, none⟩), .int .i64 (k : Int)] w (RPost w tb sb pb mb W n (put1 s k 0) (put1 t k ((k * W : Nat) : Int)) (put1 m k ((k * W : Nat) : Int)) (.tuple #[])) :=
  (empty0 h.rg0 hk).mono fun e w' ⟨he, hr, hf⟩ => ⟨he, hr.rg (put1_all (p := fun _ x => 0 ≤ x ∧ x ≤ 5) h.sok (fun _ => by decide))
    (put1_all (p := fun j x => ((j * W : Nat) : Int) ≤ x ∧ x ≤ ((j * W + W : Nat) : Int)) h.tok (fun _ => by omega)) (put1_all (p := fun j x => ((j * W : Nat) : Int) ≤ x ∧ x ≤ ((j * W + W : Nat) : Int)) h.mok (fun _ => by omega)), hf⟩

theorem release_at {w : World} {tb sb pb mb W n : Nat} {s t m : Nat → Int} (h : Rg w tb sb pb mb W n s t m) {k : Nat} (hk : k < n) (hx : s k ≠ 0) :
    Calls Try.prog 20 #[.pointer (some ⟨tb, 0, none⟩), .int .i64 (k : Int)] w (RPost w tb sb pb mb W n (put1 s k 0) (put1 t k ((k * W : Nat) : Int)) (put1 m k ((k * W : Nat) : Int)) (.int .i64 0)) := by
  have HH := hide (has_in h hk)
  have HE := hide (empty_at h hk)
  have hk' : (k : Int) < (n : Int) := by omega
  have hn := h.nmax
  have c1 := h.c1
  have cr := h.cs hk
  unfold RPost
  unfold RPost at HE
  clear h
  generalize put1 s k 0 = s' at *
  generalize put1 t k ((k * W : Nat) : Int) = t' at *
  generalize put1 m k ((k * W : Nat) : Int) = m' at *
  generalize s k = y at *
  have hx' : ¬ y = 0 := hx
  go_enter Try.func20, Try.ntmps20
  go_wp2_with (first | (go_at_call 26; refine HH.out.mono ?_; rintro e w' ⟨rfl, rfl⟩) | fail)
  refine HE.out.mono ?_
  rintro e w1 ⟨rfl, hr, hf⟩
  have HR := hide hr
  have HF := hide hf
  clear hr hf
  go_wp2
  go_ret
  exact ⟨rfl, HR.out, HF.out⟩
theorem release_none {w : World} {tb sb pb mb W n : Nat} {s t m : Nat → Int} (h : Rg w tb sb pb mb W n s t m) {k : Nat} (hk : k < n) (hx : s k = 0) :
    Calls Try.prog 20 #[.pointer (some ⟨tb, 0, none⟩), .int .i64 (k : Int)] w fun e w' => e = .returned (.int .i64 5) ∧ w = w' := by
  have HH := hide (has_in h hk)
  have hk' : (k : Int) < (n : Int) := by omega
  have hn := h.nmax
  have c1 := h.c1
  have cr := h.cs hk
  rw [hx] at cr
  clear h hx
  go_enter Try.func20, Try.ntmps20
  go_wp2_with (first | (go_at_call 26; refine HH.out.mono ?_; rintro e w' ⟨rfl, rfl⟩))
  go_ret
  exact ⟨rfl, rfl⟩
theorem release_out {w : World} {tb sb pb mb W n : Nat} {s t m : Nat → Int} (h : Rg w tb sb pb mb W n s t m) {r : Int} (hr : ¬ (0 ≤ r ∧ r < (n : Int))) :
    Calls Try.prog 20 #[.pointer (some ⟨tb, 0, none⟩), .int .i64 r] w fun e w' => e = .returned (.int .i64 2) ∧ w = w' := by
  have HH := hide (has_out h hr)
  clear h hr
  go_enter Try.func20, Try.ntmps20
  go_wp2_with (first | (go_at_call 26; refine HH.out.mono ?_; rintro e w' ⟨rfl, rfl⟩))
  go_ret
  exact ⟨rfl, rfl⟩
end Go.Proofs.Ytjgjcpafdhocfaa
