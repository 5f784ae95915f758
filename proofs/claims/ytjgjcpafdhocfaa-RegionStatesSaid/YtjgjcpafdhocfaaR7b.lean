/- gleanerref07: SetTop, Mark, Turn, Release. -/
import Derived.Test.YtjgjcpafdhocfaaR7
namespace Go.Proofs.Ytjgjcpafdhocfaa
set_option linter.unusedVariables false
open Go.RowKit Go.Gl

theorem msettop_any {w : World} {mb rb c : Nat} {f : Nat → Int} (h : Rm w mb rb c f) (r x : Int) :
    Calls Try.prog 31 #[.pointer (some ⟨mb, 0, none⟩), .int .i64 r, .int .i64 x] w (MPost1 w mb rb c) := by
  have H := hide h
  have c0 := h.c0
  have c1 := h.c1
  by_cases hr : 0 ≤ r ∧ r < 4
  · obtain ⟨hr0, hr1⟩ := hr
    obtain ⟨k, rfl⟩ := Int.eq_ofNat_of_zero_le hr0
    have hk : k < 4 := by omega
    have HT := hide (there_in w h hk)
    have d0 := h.cr (k := k * 3) (by omega)
    have d1 := h.cr (k := k * 3 + 1) (by omega)
    have hz := h.fz (k * 3 + 1)
    by_cases hx1 : x < (k : Int) * 64
    · clear h
      go_enter Try.func31, Try.ntmps31
      go_wp2_with (first | (go_at_call 39; refine HT.out.mono ?_; rintro e w' ⟨rfl, rfl⟩))
      go_ret
      exact ⟨_, _, rfl, H.out, Fr.refl _ _⟩
    · by_cases hx2 : ((k : Int) + 1) * 64 < x
      · clear h
        go_enter Try.func31, Try.ntmps31
        go_wp2_with (first | (go_at_call 39; refine HT.out.mono ?_; rintro e w' ⟨rfl, rfl⟩))
        go_ret
        exact ⟨_, _, rfl, H.out, Fr.refl _ _⟩
      · by_cases hx : Filled (f (k * 3))
        · have HF := hide (plain_yes hx)
          have HP := hide (h.put (k * 3 + 1) x (fun j hj he => by
            obtain rfl : j = k := by omega
            omega))
          clear h hx
          generalize f (k * 3) = y at *
          generalize f (k * 3 + 1) = T at d1
          go_enter Try.func31, Try.ntmps31
          go_wp2_with (first | (go_at_call 39; refine HT.out.mono ?_; rintro e w' ⟨rfl, rfl⟩) | (go_at_call 38; refine (HF.out _).mono ?_; rintro e w' ⟨rfl, rfl⟩))
          go_ret
          exact ⟨_, _, rfl, HP.out, (Fr.refl _ _).setCell (p := ⟨rb, k * 3 + 1, none⟩) (.inl (by simp)) _⟩
        · have HF := hide (plain_no hx)
          clear h hx
          generalize f (k * 3) = y at *
          go_enter Try.func31, Try.ntmps31
          go_wp2_with (first | (go_at_call 39; refine HT.out.mono ?_; rintro e w' ⟨rfl, rfl⟩) | (go_at_call 38; refine (HF.out _).mono ?_; rintro e w' ⟨rfl, rfl⟩))
          go_ret
          exact ⟨_, _, rfl, H.out, Fr.refl _ _⟩
  · have HT := hide (there_out w h hr)
    clear h hr
    go_enter Try.func31, Try.ntmps31
    go_wp2_with (first | (go_at_call 39; refine HT.out.mono ?_; rintro e w' ⟨rfl, rfl⟩))
    go_ret
    exact ⟨_, _, rfl, H.out, Fr.refl _ _⟩

theorem mmark_any {w : World} {mb rb c : Nat} {f : Nat → Int} (h : Rm w mb rb c f) (r : Int) :
    Calls Try.prog 32 #[.pointer (some ⟨mb, 0, none⟩), .int .i64 r] w (MPost1 w mb rb c) := by
  have H := hide h
  have c1 := h.c1
  by_cases hr : 0 ≤ r ∧ r < 4
  · obtain ⟨hr0, hr1⟩ := hr
    obtain ⟨k, rfl⟩ := Int.eq_ofNat_of_zero_le hr0
    have hk : k < 4 := by omega
    have HT := hide (there_in w h hk)
    have d1 := h.cr (k := k * 3 + 1) (by omega)
    have d2 := h.cr (k := k * 3 + 2) (by omega)
    have hz := h.fz (k * 3 + 2)
    have HP := hide (h.put (k * 3 + 2) (f (k * 3 + 1)) (fun j hj he => by omega))
    clear h
    generalize f (k * 3 + 1) = T at *
    generalize f (k * 3 + 2) = M at d2
    go_enter Try.func32, Try.ntmps32
    go_wp2_with (first | (go_at_call 39; refine HT.out.mono ?_; rintro e w' ⟨rfl, rfl⟩))
    refine region_tail 15 (by kernel_rfl) (by kernel_rfl) ?_
    simp only [List.take_succ_cons, List.take_zero, List.drop_succ_cons, List.drop_zero]
    repeat still_step
    refine wpStill_nil ?_
    go_wp2
    go_ret
    exact ⟨_, _, rfl, HP.out.drew, ((Fr.refl _ _).setCell (p := ⟨rb, k * 3 + 2, none⟩) (.inl (by simp)) _).drew⟩
  · have HT := hide (there_out w h hr)
    clear h hr
    go_enter Try.func32, Try.ntmps32
    go_wp2_with (first | (go_at_call 39; refine HT.out.mono ?_; rintro e w' ⟨rfl, rfl⟩))
    go_ret
    exact ⟨_, _, rfl, H.out, Fr.refl _ _⟩

theorem mturn_any {w : World} {mb rb c : Nat} {f : Nat → Int} (h : Rm w mb rb c f) (r x : Int) :
    Calls Try.prog 33 #[.pointer (some ⟨mb, 0, none⟩), .int .i64 r, .int .i64 x] w (MPost1 w mb rb c) := by
  have H := hide h
  have c1 := h.c1
  by_cases hr : 0 ≤ r ∧ r < 4
  · obtain ⟨hr0, hr1⟩ := hr
    obtain ⟨k, rfl⟩ := Int.eq_ofNat_of_zero_le hr0
    have hk : k < 4 := by omega
    have HT := hide (there_in w h hk)
    have d0 := h.cr (k := k * 3) (by omega)
    have hz := h.fz (k * 3)
    have HP := hide (h.put (k * 3) x (fun j hj he => by omega))
    clear h
    generalize f (k * 3) = y at d0
    by_cases hy : Filled y
    · have HF := hide (plain_yes hy)
      by_cases hx : Filled x
      · have HG := hide (plain_yes hx)
        clear hx hy
        go_enter Try.func33, Try.ntmps33
        go_wp2_with (first | (go_at_call 39; refine HT.out.mono ?_; rintro e w' ⟨rfl, rfl⟩) | (go_at_call 38; first | (with_reducible refine Calls.mono (HF.out _) ?_; rintro e w' ⟨rfl, rfl⟩) | (with_reducible refine Calls.mono (HG.out _) ?_; rintro e w' ⟨rfl, rfl⟩)))
        go_ret
        exact ⟨_, _, rfl, HP.out, (Fr.refl _ _).setCell (p := ⟨rb, k * 3, none⟩) (.inl (by simp)) _⟩
      · have HG := hide (plain_no hx)
        clear hx hy
        go_enter Try.func33, Try.ntmps33
        go_wp2_with (first | (go_at_call 39; refine HT.out.mono ?_; rintro e w' ⟨rfl, rfl⟩) | (go_at_call 38; first | (with_reducible refine Calls.mono (HF.out _) ?_; rintro e w' ⟨rfl, rfl⟩) | (with_reducible refine Calls.mono (HG.out _) ?_; rintro e w' ⟨rfl, rfl⟩)))
        go_ret
        exact ⟨_, _, rfl, H.out, Fr.refl _ _⟩
    · have HF := hide (plain_no hy)
      clear hy
      go_enter Try.func33, Try.ntmps33
      go_wp2_with (first | (go_at_call 39; refine HT.out.mono ?_; rintro e w' ⟨rfl, rfl⟩) | (go_at_call 38; refine (HF.out _).mono ?_; rintro e w' ⟨rfl, rfl⟩))
      go_ret
      exact ⟨_, _, rfl, H.out, Fr.refl _ _⟩
  · have HT := hide (there_out w h hr)
    clear h hr
    go_enter Try.func33, Try.ntmps33
    go_wp2_with (first | (go_at_call 39; refine HT.out.mono ?_; rintro e w' ⟨rfl, rfl⟩))
    go_ret
    exact ⟨_, _, rfl, H.out, Fr.refl _ _⟩

theorem mrelease_any {w : World} {mb rb c : Nat} {f : Nat → Int} (h : Rm w mb rb c f) (r : Int) :
    Calls Try.prog 34 #[.pointer (some ⟨mb, 0, none⟩), .int .i64 r] w (MPost1 w mb rb c) := by
  have H := hide h
  have c0 := h.c0
  have c1 := h.c1
  by_cases hr : 0 ≤ r ∧ r < 4
  · obtain ⟨hr0, hr1⟩ := hr
    obtain ⟨k, rfl⟩ := Int.eq_ofNat_of_zero_le hr0
    have hk : k < 4 := by omega
    have HT := hide (there_in w h hk)
    have d0 := h.cr (k := k * 3) (by omega)
    have d1 := h.cr (k := k * 3 + 1) (by omega)
    have d2 := h.cr (k := k * 3 + 2) (by omega)
    have z0 := h.fz (k * 3)
    have z1 := h.fz (k * 3 + 1)
    have z2 := h.fz (k * 3 + 2)
    by_cases h0 : f (k * 3) = 0
    · rw [h0] at d0
      clear h h0
      go_enter Try.func34, Try.ntmps34
      go_wp2_with (first | (go_at_call 39; refine HT.out.mono ?_; rintro e w' ⟨rfl, rfl⟩))
      go_ret
      exact ⟨_, _, rfl, H.out, Fr.refl _ _⟩
    · have HP := hide (((h.put (k * 3) 0 (fun j hj he => by omega)).put (k * 3 + 1) ((k : Int) * 64) (fun j hj he => by
          obtain rfl : j = k := by omega
          omega)).put (k * 3 + 2) ((k : Int) * 64) (fun j hj he => by omega))
      generalize f (k * 3) = y at *
      generalize f (k * 3 + 1) = T at *
      generalize f (k * 3 + 2) = M at *
      clear h
      go_enter Try.func34, Try.ntmps34
      go_wp2_with (first | (go_at_call 39; refine HT.out.mono ?_; rintro e w' ⟨rfl, rfl⟩))
      refine region_tail 19 (by kernel_rfl) (by kernel_rfl) ?_
      simp only [List.take_succ_cons, List.take_zero, List.drop_succ_cons, List.drop_zero]
      repeat still_step
      refine wpStill_nil ?_
      go_wp2
      go_ret
      exact ⟨_, _, rfl, HP.out.drew, ((((Fr.refl _ _).setCell (p := ⟨rb, k * 3, none⟩) (.inl (by simp)) _).setCell (p := ⟨rb, k * 3 + 1, none⟩) (.inl (by simp)) _).setCell (p := ⟨rb, k * 3 + 2, none⟩) (.inl (by simp)) _).drew⟩
  · have HT := hide (there_out w h hr)
    clear h hr
    go_enter Try.func34, Try.ntmps34
    go_wp2_with (first | (go_at_call 39; refine HT.out.mono ?_; rintro e w' ⟨rfl, rfl⟩))
    go_ret
    exact ⟨_, _, rfl, H.out, Fr.refl _ _⟩
end Go.Proofs.Ytjgjcpafdhocfaa
