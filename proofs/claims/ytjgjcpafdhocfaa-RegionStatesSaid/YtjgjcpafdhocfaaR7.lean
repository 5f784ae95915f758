/- gleanerref07: what its calls leave of a table of four regions of 64 words. Of their answers no more is said than that they are numbers. -/
import Derived.Test.YtjgjcpafdhocfaaRt2
import Derived.Deep.RegionHeld3
namespace Go.Proofs.Ytjgjcpafdhocfaa
set_option linter.unusedVariables false
open Go.RowKit Go.Gl

/-- The document's table: at mb, its row of regions (three numbers each) at rb. -/
structure Rm (w : World) (mb rb c : Nat) (f : Nat → Int) : Prop where
  set : Blk w mb 64 #[.int .i64 64, .slice (some ⟨rb, 0, none⟩) 4 c]
  row : ∃ cs, Blk w rb 66 cs ∧ ∀ k, k < 12 → cs[k]? = some (.int .i64 (f k))
  cap : 4 ≤ c
  ok : ∀ k, k < 4 → ((64 * k : Nat) : Int) ≤ f (k * 3 + 1) ∧ f (k * 3 + 1) ≤ ((64 * k + 64 : Nat) : Int)
section
variable {w w' : World} {mb rb c : Nat} {f : Nat → Int} {F : List Nat}
theorem Rm.fr (h : Rm w mb rb c f) (hf : Fr F w w') (h1 : mb ∉ F) (h2 : rb ∉ F) : Rm w' mb rb c f := by
  obtain ⟨cs, hb, hc⟩ := h.row
  exact ⟨h.set.fr hf h1, ⟨cs, hb.fr hf h2, hc⟩, h.cap, h.ok⟩
theorem Rm.drew (h : Rm w mb rb c f) : Rm w.drew mb rb c f := ⟨h.set, h.row, h.cap, h.ok⟩
theorem Rm.drewN (h : Rm w mb rb c f) (k : Nat) : Rm (w.drewN k) mb rb c f := ⟨h.set, h.row, h.cap, h.ok⟩
theorem Rm.c0 (h : Rm w mb rb c f) : w.cell? ⟨mb, 0, none⟩ = some (.int .i64 64) := by rw [h.set.cell]; rfl
theorem Rm.c1 (h : Rm w mb rb c f) : w.cell? ⟨mb, 1, none⟩ = some (.slice (some ⟨rb, 0, none⟩) 4 c) := by rw [h.set.cell]; rfl
theorem Rm.cr (h : Rm w mb rb c f) {k : Nat} (hk : k < 12) : w.cell? ⟨rb, k, none⟩ = some (.int .i64 (f k)) := by
  obtain ⟨cs, hb, hc⟩ := h.row
  rw [hb.cell, hc k hk]
theorem Rm.fz (h : Rm w mb rb c f) (k : Nat) : w.frozen? ⟨rb, k, none⟩ = false := by
  obtain ⟨cs, hb, hc⟩ := h.row
  exact hb.frozen k
theorem Rm.ne (h : Rm w mb rb c f) : mb ≠ rb := by
  obtain ⟨cs, hb, hc⟩ := h.row
  exact h.set.apart hb (by decide)
theorem Rm.rlt (h : Rm w mb rb c f) : rb < w.heap.size := by
  obtain ⟨cs, hb, hc⟩ := h.row
  exact hb.lt
theorem Rm.put (h : Rm w mb rb c f) (k : Nat) (x : Int) (hx : ∀ j, j < 4 → k = j * 3 + 1 → ((64 * j : Nat) : Int) ≤ x ∧ x ≤ ((64 * j + 64 : Nat) : Int)) : Rm (w.setCell ⟨rb, k, none⟩ (.int .i64 x)) mb rb c (put1 f k x) := by
  obtain ⟨cs, hb, hc⟩ := h.row
  refine ⟨h.set.far (p := ⟨rb, k, none⟩) h.ne _, ⟨_, hb.put k _, fun j hj => ?_⟩, h.cap, fun j hj => ?_⟩
  · rw [Array.getElem?_setIfInBounds]
    by_cases hkj : k = j
    · subst hkj
      have hs : k < cs.size := by
        rcases Nat.lt_or_ge k cs.size with hl | hl
        · exact hl
        · have := hc k hj; rw [Array.getElem?_eq_none hl] at this; cases this
      rw [if_pos rfl, if_pos hs, put1_at]
    · rw [if_neg hkj, hc j hj, put1_far _ (Ne.symm hkj)]
  · unfold put1
    split
    · next e => exact hx j hj e.symm
    · exact h.ok j hj
end
/-- What a call answers and leaves: two numbers; one. -/
def MPost2 (w : World) (mb rb c : Nat) (e : Ending) (w' : World) : Prop := ∃ (a b : Int) (f' : Nat → Int), e = .returned (.tuple #[.int .i64 a, .int .i64 b]) ∧ Rm w' mb rb c f' ∧ Fr [rb] w w'
def MPost1 (w : World) (mb rb c : Nat) (e : Ending) (w' : World) : Prop := ∃ (a : Int) (f' : Nat → Int), e = .returned (.int .i64 a) ∧ Rm w' mb rb c f' ∧ Fr [rb] w w'

theorem there_in (w : World) {mb rb c : Nat} {f : Nat → Int} (h : Rm w mb rb c f) {k : Nat} (hk : k < 4) :
    Calls Try.prog 39 #[.pointer (some ⟨mb, 0, none⟩), .int .i64 (k : Int)] w fun e w' => e = .returned (.bool true) ∧ w = w' := by
  have c1 := h.c1
  have hk' : (k : Int) < 4 := by omega
  clear h
  go_enter Try.func39, Try.ntmps39
  go_wp2
  go_ret
  exact ⟨rfl, rfl⟩
theorem there_out (w : World) {mb rb c : Nat} {f : Nat → Int} (h : Rm w mb rb c f) {r : Int} (hr : ¬ (0 ≤ r ∧ r < 4)) :
    Calls Try.prog 39 #[.pointer (some ⟨mb, 0, none⟩), .int .i64 r] w fun e w' => e = .returned (.bool false) ∧ w = w' := by
  have c1 := h.c1
  clear h
  by_cases c0 : r < 0
  · clear hr
    go_enter Try.func39, Try.ntmps39
    go_wp2
    go_ret
    exact ⟨rfl, rfl⟩
  · have c2 : 4 ≤ r := by omega
    clear hr
    go_enter Try.func39, Try.ntmps39
    go_wp2
    go_ret
    exact ⟨ret_bool (by simp; omega), rfl⟩
theorem plain_yes {x : Int} (hx : Filled x) (w : World) : Calls Try.prog 38 #[.int .i64 x] w fun e w' => e = .returned (.bool true) ∧ w = w' := by
  rcases hx with rfl | rfl | rfl
  all_goals
    go_enter Try.func38, Try.ntmps38
    go_wp2
    go_ret
    exact ⟨rfl, rfl⟩
theorem plain_no {x : Int} (hx : ¬ Filled x) (w : World) : Calls Try.prog 38 #[.int .i64 x] w fun e w' => e = .returned (.bool false) ∧ w = w' := by
  have h1 : ¬ x = 1 := fun h => hx (.inl h)
  have h2 : ¬ x = 2 := fun h => hx (.inr (.inl h))
  have h3 : ¬ x = 3 := fun h => hx (.inr (.inr h))
  clear hx
  go_enter Try.func38, Try.ntmps38
  go_wp2
  go_ret
  exact ⟨ret_bool (by simp [h1, h2, h3]), rfl⟩

theorem mclaim_any {w : World} {mb rb c : Nat} {f : Nat → Int} (h : Rm w mb rb c f) (x : Int) :
    Calls Try.prog 28 #[.pointer (some ⟨mb, 0, none⟩), .int .i64 x] w (MPost2 w mb rb c) := by
  have H := hide h
  have c1 := h.c1
  by_cases hx : Filled x
  · have HF := hide (plain_yes hx)
    clear h hx
    go_enter Try.func28, Try.ntmps28
    go_wp2_with (first | (go_at_call 38; refine (HF.out _).mono ?_; rintro e w' ⟨rfl, rfl⟩))
    go_loopw [6] (fun i wr => ∃ k : Nat, i = .int .i64 k ∧ k ≤ 4 ∧ w = wr) (fun i _ => 4 - (intOf i).toNat)
    case atStart => exact ⟨0, rfl, by decide, rfl⟩
    case round =>
      obtain ⟨k, rfl, hk, rfl⟩ := hrel
      by_cases hlt : k < 4
      · have hlt' : (k : Int) < 4 := by omega
        have hc := H.out.cr (k := k * 3) (by omega)
        have hz := H.out.fz (k * 3)
        by_cases h0 : f (k * 3) = 0
        · rw [h0] at hc
          clear h0
          have HP := hide (H.out.put (k * 3) x (fun j hj he => by omega))
          go_wp2_with fail
          go_ret2
          exact ⟨_, _, _, rfl, HP.out, (Fr.refl _ _).setCell (p := ⟨rb, k * 3, none⟩) (.inl (by simp)) _⟩
        · generalize f (k * 3) = y at *
          go_wp2_with fail
          go_roundw
          case rel => exact ⟨k + 1, by go_num, by omega, trivial⟩
          case measure => simp [intOf]; omega
      · obtain rfl : k = 4 := by omega
        go_wp2_with fail
        go_ret2
        exact ⟨_, _, _, rfl, H.out, Fr.refl _ _⟩
  · have HF := hide (plain_no hx)
    clear h hx
    go_enter Try.func28, Try.ntmps28
    go_wp2_with (first | (go_at_call 38; refine (HF.out _).mono ?_; rintro e w' ⟨rfl, rfl⟩))
    go_ret2
    exact ⟨_, _, _, rfl, H.out, Fr.refl _ _⟩

theorem mbump_any {w : World} {mb rb c : Nat} {f : Nat → Int} (h : Rm w mb rb c f) (r : Int) {n : Int} (hn : n ≤ 9223372036854775807) :
    Calls Try.prog 30 #[.pointer (some ⟨mb, 0, none⟩), .int .i64 r, .int .i64 n] w (MPost2 w mb rb c) := by
  have H := hide h
  have c0 := h.c0
  have c1 := h.c1
  by_cases hr : 0 ≤ r ∧ r < 4
  · obtain ⟨hr0, hr1⟩ := hr
    obtain ⟨k, rfl⟩ := Int.eq_ofNat_of_zero_le hr0
    have hk : k < 4 := by omega
    have HT := hide (there_in w h hk)
    have d0 := h.cr (k := k * 3) (by omega)
    have d1 := h.cr (k := k * 3 + 1) (by omega)
    have hz := h.fz (k * 3 + 1)
    obtain ⟨t1, t2⟩ := h.ok k hk
    by_cases hn1 : n < 1
    · clear h
      go_enter Try.func30, Try.ntmps30
      go_wp2_with (first | (go_at_call 39; refine HT.out.mono ?_; rintro e w' ⟨rfl, rfl⟩))
      go_ret2
      exact ⟨_, _, _, rfl, H.out, Fr.refl _ _⟩
    · by_cases hx : Filled (f (k * 3))
      · have HF := hide (plain_yes hx)
        have HP := fun hx => hide (h.put (k * 3 + 1) (f (k * 3 + 1) + n) hx)
        clear h hx
        generalize f (k * 3) = y at *
        generalize hf1 : f (k * 3 + 1) = T at *
        have hT0 : 0 ≤ T := by omega
        have hT1 : T ≤ 256 := by omega
        by_cases hfit : ((k : Int) + 1) * 64 - T < n
        · clear HP hf1
          go_enter Try.func30, Try.ntmps30
          go_wp2_with (first | (go_at_call 39; refine HT.out.mono ?_; rintro e w' ⟨rfl, rfl⟩) | (go_at_call 38; refine (HF.out _).mono ?_; rintro e w' ⟨rfl, rfl⟩))
          go_quiet (fail)
          go_wp2
          go_ret2
          exact ⟨_, _, _, rfl, H.out.drewN _, (Fr.refl _ _).drewN _⟩
        · have HP := HP (fun j hj he => by
            obtain rfl : j = k := by omega
            omega)
          have hfit' : n ≤ ((k : Int) + 1) * 64 - T := by omega
          clear hf1
          have hn2 : n ≤ 256 := by omega
          go_enter Try.func30, Try.ntmps30
          go_wp2_with (first | (go_at_call 39; refine HT.out.mono ?_; rintro e w' ⟨rfl, rfl⟩) | (go_at_call 38; refine (HF.out _).mono ?_; rintro e w' ⟨rfl, rfl⟩))
          go_quiet (fail)
          go_wp2
          go_ret2
          exact ⟨_, _, _, rfl, HP.out.drewN _, ((Fr.refl _ _).setCell (p := ⟨rb, k * 3 + 1, none⟩) (.inl (by simp)) _).drewN _⟩
      · have HF := hide (plain_no hx)
        clear h hx
        generalize f (k * 3) = y at *
        go_enter Try.func30, Try.ntmps30
        go_wp2_with (first | (go_at_call 39; refine HT.out.mono ?_; rintro e w' ⟨rfl, rfl⟩) | (go_at_call 38; refine (HF.out _).mono ?_; rintro e w' ⟨rfl, rfl⟩))
        go_ret2
        exact ⟨_, _, _, rfl, H.out, Fr.refl _ _⟩
  · have HT := hide (there_out w h hr)
    clear h hr
    go_enter Try.func30, Try.ntmps30
    go_wp2_with (first | (go_at_call 39; refine HT.out.mono ?_; rintro e w' ⟨rfl, rfl⟩))
    go_ret2
    exact ⟨_, _, _, rfl, H.out, Fr.refl _ _⟩
end Go.Proofs.Ytjgjcpafdhocfaa
