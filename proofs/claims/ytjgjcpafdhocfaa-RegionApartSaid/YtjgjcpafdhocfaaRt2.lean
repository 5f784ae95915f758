/- The package region: the calls that write one region's numbers. -/
import Derived.Test.YtjgjcpafdhocfaaRt
import Derived.Deep.RegionHeld3
namespace Go.Proofs.Ytjgjcpafdhocfaa
set_option linter.unusedVariables false
open Go.RowKit Go.Gl

section
variable {w w' : World} {tb sb pb mb W n : Nat} {s t m : Nat → Int} {F : List Nat}
theorem put1_at (f : Nat → Int) (k : Nat) (x : Int) : put1 f k x k = x := by unfold put1; rw [if_pos rfl]
theorem put1_far {f : Nat → Int} {k j : Nat} (x : Int) (h : j ≠ k) : put1 f k x j = f j := by unfold put1; rw [if_neg h]
theorem put1_all {f : Nat → Int} {k n : Nat} {x : Int} {p : Nat → Int → Prop} (h : ∀ j, j < n → p j (f j)) (hx : k < n → p k x) : ∀ j, j < n → p j (put1 f k x j) := fun j hj => by
  unfold put1
  split
  · next e => subst e; exact hx hj
  · exact h j hj
theorem put2_all {f g : Nat → Int} {a b n : Nat} {p : Nat → Int → Prop} (h : ∀ j, j < n → p j (f j)) (hg : ∀ j, j < n → a ≤ j → j < b → p j (g j)) : ∀ j, j < n → p j (put2 f a b g j) := fun j hj => by
  unfold put2
  split
  · next e => exact hg j hj e.1 e.2
  · exact h j hj
theorem Rg.putS (h : Rg w tb sb pb mb W n s t m) (k : Nat) (x : Int) (hx : 0 ≤ x ∧ x ≤ 5) : Rg (w.setCell ⟨sb, k, none⟩ (.int .i64 x)) tb sb pb mb W n (put1 s k x) t m :=
  ⟨h.set.far (p := ⟨sb, k, none⟩) h.ts _, h.st.putRow k x, h.tops.far (p := ⟨sb, k, none⟩) h.sp.symm _, h.tams.far (p := ⟨sb, k, none⟩) h.sm.symm _, h.pm, h.pos, h.max, put1_all (p := fun _ x => 0 ≤ x ∧ x ≤ 5) h.sok (fun _ => hx), h.tok, h.mok⟩
theorem Rg.putT (h : Rg w tb sb pb mb W n s t m) (k : Nat) (x : Int) (hx : k < n → ((k * W : Nat) : Int) ≤ x ∧ x ≤ ((k * W + W : Nat) : Int)) : Rg (w.setCell ⟨pb, k, none⟩ (.int .i64 x)) tb sb pb mb W n s (put1 t k x) m :=
  ⟨h.set.far (p := ⟨pb, k, none⟩) h.tp _, h.st.far (p := ⟨pb, k, none⟩) h.sp _, h.tops.putRow k x, h.tams.far (p := ⟨pb, k, none⟩) h.pm.symm _, h.pm, h.pos, h.max, h.sok, put1_all (p := fun j x => ((j * W : Nat) : Int) ≤ x ∧ x ≤ ((j * W + W : Nat) : Int)) h.tok hx, h.mok⟩
theorem Rg.putM (h : Rg w tb sb pb mb W n s t m) (k : Nat) (x : Int) (hx : k < n → ((k * W : Nat) : Int) ≤ x ∧ x ≤ ((k * W + W : Nat) : Int)) : Rg (w.setCell ⟨mb, k, none⟩ (.int .i64 x)) tb sb pb mb W n s t (put1 m k x) :=
  ⟨h.set.far (p := ⟨mb, k, none⟩) h.tm _, h.st.far (p := ⟨mb, k, none⟩) h.sm _, h.tops.far (p := ⟨mb, k, none⟩) h.pm _, h.tams.putRow k x, h.pm, h.pos, h.max, h.sok, h.tok, put1_all (p := fun j x => ((j * W : Nat) : Int) ≤ x ∧ x ≤ ((j * W + W : Nat) : Int)) h.mok hx⟩
end
theorem put2_end (f : Nat → Int) {a k : Nat} (x : Int) (h : a ≤ k) (g : Nat → Int) (hx : x = g k) : put1 (put2 f a k g) k x = put2 f a (k + 1) g := by
  funext j
  unfold put1 put2
  by_cases h1 : j = k
  · subst h1
    rw [if_pos rfl, if_pos (by omega), hx]
  · rw [if_neg h1]
    by_cases h2 : a ≤ j ∧ j < k
    · rw [if_pos h2, if_pos (by omega)]
    · rw [if_neg h2, if_neg (by omega)]
theorem put2_past (f g : Nat → Int) {a b k : Nat} (h : b ≤ k) : put2 f a b g k = f k := by unfold put2; rw [if_neg (by omega)]
/-- The lowest free region; none is free. -/
def LowFree (s : Nat → Int) (n k : Nat) : Prop := k < n ∧ s k = 0 ∧ ∀ j, j < k → s j ≠ 0
def NoneFree (s : Nat → Int) (n : Nat) : Prop := ∀ j, j < n → s j ≠ 0
theorem LowFree.unique {s : Nat → Int} {n k k' : Nat} (h : LowFree s n k) (h' : LowFree s n k') : k = k' := by
  rcases Nat.lt_trichotomy k k' with hl | hl | hl
  · exact absurd h.2.1 (h'.2.2 k hl)
  · exact hl
  · exact absurd h'.2.1 (h.2.2 k' hl)
theorem free_ways (s : Nat → Int) (n : Nat) : (∃ k, LowFree s n k) ∨ NoneFree s n := by
  induction n with
  | zero => exact .inr fun j hj => by omega
  | succ n ih =>
    rcases ih with ⟨k, h1, h2, h3⟩ | ih
    · exact .inl ⟨k, by omega, h2, h3⟩
    · by_cases h : s n = 0
      · exact .inl ⟨n, by omega, h, ih⟩
      · refine .inr fun j hj => ?_
        rcases Nat.lt_or_ge j n with hl | hl
        · exact ih j hl
        · obtain rfl : j = n := by omega
          exact h
/-- What a call that writes comes to. -/
def RPost (w : World) (tb sb pb mb W n : Nat) (s' t' m' : Nat → Int) (v : Value) (e : Ending) (w' : World) : Prop :=
  e = .returned v ∧ Rg w' tb sb pb mb W n s' t' m' ∧ Fr [sb, pb, mb] w w'

def IPost (w : World) (s : Nat → Int) (n : Nat) (e : Ending) (w' : World) : Prop :=
  ∃ z : Int, e = .returned (.int .i64 z) ∧ w = w' ∧ ((∃ k : Nat, z = k ∧ LowFree s n k) ∨ (z = -1 ∧ NoneFree s n))
theorem index_any {w : World} {tb sb pb mb W n : Nat} {s t m : Nat → Int} (h : Rg w tb sb pb mb W n s t m) :
    Calls Try.prog 25 #[.slice (some ⟨sb, 0, none⟩) n n, .int .i64 0] w (IPost w s n) := by
  have H := hide h
  have hn := h.nmax
  clear h
  go_enter Try.func25, Try.ntmps25
  go_wp2_with fail
  go_loopw [8] (fun i wr => ∃ k : Nat, i = .int .i64 k ∧ k ≤ n ∧ w = wr ∧ ∀ j, j < k → s j ≠ 0) (fun i _ => n - (intOf i).toNat)
  case atStart => exact ⟨0, rfl, Nat.zero_le _, rfl, fun j hj => by omega⟩
  case round =>
    obtain ⟨k, rfl, hk, rfl, hno⟩ := hrel
    have HN := hide hno
    clear hno
    by_cases hlt : k < n
    · have hlt' : (k : Int) < (n : Int) := by omega
      have hc := H.out.cs hlt
      by_cases h0 : s k = 0
      · rw [h0] at hc
        have H0 := hide h0
        clear h0
        go_wp2_with fail
        go_ret
        exact ⟨_, rfl, rfl, .inl ⟨k, rfl, hlt, H0.out, HN.out⟩⟩
      · have H0 := hide h0
        generalize s k = x at hc h0
        have h0' : ¬ 0 = x := fun h => h0 h.symm
        go_wp2_with fail
        go_roundw
        case rel =>
          refine ⟨k + 1, by go_num, by omega, trivial, fun j hj => ?_⟩
          rcases Nat.lt_or_ge j k with hl | hl
          · exact HN.out j hl
          · obtain rfl : j = k := by omega
            exact H0.out
        case measure => simp [intOf]; omega
    · have hlt' : ¬ (k : Int) < (n : Int) := by omega
      obtain rfl : k = n := by omega
      go_wp2_with fail
      go_ret
      exact ⟨_, rfl, rfl, .inr ⟨rfl, HN.out⟩⟩

theorem claim_at {w : World} {tb sb pb mb W n : Nat} {s t m : Nat → Int} (h : Rg w tb sb pb mb W n s t m) {x : Int} (hx : Filled x) {k : Nat} (hl : LowFree s n k) :
    Calls Try.prog 9 #[.pointer (some ⟨tb, 0, none⟩), .int .i64 x] w (RPost w tb sb pb mb W n (put1 s k x) t m (.tuple #[.int .i64 (k : Int), .int .i64 0])) := by
  have HI : Hid (Calls Try.prog 25 #[.slice (some ⟨sb, 0, none⟩) n n, .int .i64 0] w fun e w' => e = .returned (.int .i64 (k : Int)) ∧ w = w') := (index_any h).mono fun e w' ⟨z, he, hw, hz⟩ => by
    rcases hz with ⟨k', rfl, hk'⟩ | ⟨_, hno⟩
    · rw [he, hl.unique hk']; exact ⟨rfl, hw⟩
    · exact absurd hl.2.1 (hno k hl.1)
  have HF := hide (filled_yes hx)
  have hk := hl.1
  have hk' : (k : Int) < (n : Int) := by omega
  have hn := h.nmax
  have c1 := h.c1
  have cr := h.cs hk
  have cz := h.st.frozen k
  have HP : Hid (Rg (w.setCell ⟨sb, k, none⟩ (.int .i64 x)) tb sb pb mb W n (put1 s k x) t m) := h.putS k x (by rcases hx with rfl | rfl | rfl <;> decide)
  rw [hl.2.1] at cr
  unfold RPost
  clear h hl hx
  go_enter Try.func9, Try.ntmps9
  go_wp2_with (first | (go_at_call 24; refine (HF.out _).mono ?_; rintro e w' ⟨rfl, rfl⟩) | (go_at_call 25; refine HI.out.mono ?_; rintro e w' ⟨rfl, rfl⟩))
  go_ret2
  exact ⟨rfl, HP.out, (Fr.refl _ _).setCell (p := ⟨sb, k, none⟩) (.inl (by simp)) _⟩
theorem claim_full {w : World} {tb sb pb mb W n : Nat} {s t m : Nat → Int} (h : Rg w tb sb pb mb W n s t m) {x : Int} (hx : Filled x) (hl : NoneFree s n) :
    Calls Try.prog 9 #[.pointer (some ⟨tb, 0, none⟩), .int .i64 x] w fun e w' => e = .returned (.tuple #[.int .i64 0, .int .i64 6]) ∧ w = w' := by
  have HI : Hid (Calls Try.prog 25 #[.slice (some ⟨sb, 0, none⟩) n n, .int .i64 0] w fun e w' => e = .returned (.int .i64 (-1)) ∧ w = w') := (index_any h).mono fun e w' ⟨z, he, hw, hz⟩ => by
    rcases hz with ⟨k', rfl, hk'⟩ | ⟨hz, hno⟩
    · exact absurd hk'.2.1 (hl k' hk'.1)
    · rw [he, hz]; exact ⟨rfl, hw⟩
  have HF := hide (filled_yes hx)
  have hn := h.nmax
  have c1 := h.c1
  clear h hl hx
  go_enter Try.func9, Try.ntmps9
  go_wp2_with (first | (go_at_call 24; refine (HF.out _).mono ?_; rintro e w' ⟨rfl, rfl⟩) | (go_at_call 25; refine HI.out.mono ?_; rintro e w' ⟨rfl, rfl⟩))
  go_ret2
  exact ⟨rfl, rfl⟩
theorem claim_shape (tb : Nat) (w : World) {x : Int} (hx : ¬ Filled x) :
    Calls Try.prog 9 #[.pointer (some ⟨tb, 0, none⟩), .int .i64 x] w fun e w' => e = .returned (.tuple #[.int .i64 0, .int .i64 3]) ∧ w = w' := by
  have HF := hide (filled_no hx)
  clear hx
  go_enter Try.func9, Try.ntmps9
  go_wp2_with (first | (go_at_call 24; refine (HF.out _).mono ?_; rintro e w' ⟨rfl, rfl⟩))
  go_ret2
  exact ⟨rfl, rfl⟩

theorem bump_at {w : World} {tb sb pb mb W n : Nat} {s t m : Nat → Int} (h : Rg w tb sb pb mb W n s t m) {k : Nat} (hk : k < n) (hx : Filled (s k)) {c : Int} (hc : 1 ≤ c) (hfit : t k + c ≤ ((k * W + W : Nat) : Int)) :
    Calls Try.prog 10 #[.pointer (some ⟨tb, 0, none⟩), .int .i64 (k : Int), .int .i64 c] w (RPost w tb sb pb mb W n s (put1 t k (t k + c)) m (.tuple #[.int .i64 (t k), .int .i64 0])) := by
  have HF := hide (filled_yes hx)
  have HH := hide (has_in h hk)
  have HE := hide (end_at h hk)
  have hk' : (k : Int) < (n : Int) := by omega
  have hn := h.nmax
  have c1 := h.c1
  have c2 := h.c2
  have cr := h.cs hk
  have ct := h.ct hk
  have cz := h.tops.frozen k
  have hb := h.base_le hk
  obtain ⟨t1, t2⟩ := h.tok k hk
  have HP := hide (h.putT k (t k + c) (fun _ => ⟨by omega, hfit⟩))
  unfold RPost
  have t0 : 0 ≤ t k := by omega
  have t3 : t k ≤ 4194304 := by omega
  clear h hx
  generalize k * W + W = E at *
  generalize s k = y at *
  generalize put1 t k (t k + c) = t' at *
  generalize t k = T at *
  have hfit' : ¬ (E : Int) - T < c := by omega
  have hc1 : c ≤ 4194304 := by omega
  clear t1
  go_enter Try.func10, Try.ntmps10
  go_wp2_with (first | (go_at_call 26; refine HH.out.mono ?_; rintro e w' ⟨rfl, rfl⟩) | (go_at_call 24; refine (HF.out _).mono ?_; rintro e w' ⟨rfl, rfl⟩) | (go_at_call 27; refine HE.out.mono ?_; rintro e w' ⟨rfl, q, rfl⟩))
  go_ret2
  exact ⟨rfl, HP.out.drewN _, ((Fr.refl _ _).setCell (p := ⟨pb, k, none⟩) (.inl (by simp)) _).drewN _⟩
theorem bump_full {w : World} {tb sb pb mb W n : Nat} {s t m : Nat → Int} (h : Rg w tb sb pb mb W n s t m) {k : Nat} (hk : k < n) (hx : Filled (s k)) {c : Int} (hc : 1 ≤ c) (hfit : ¬ t k + c ≤ ((k * W + W : Nat) : Int)) :
    Calls Try.prog 10 #[.pointer (some ⟨tb, 0, none⟩), .int .i64 (k : Int), .int .i64 c] w fun e w' => e = .returned (.tuple #[.int .i64 0, .int .i64 6]) ∧ ∃ q, w' = w.drewN q := by
  have HF := hide (filled_yes hx)
  have HH := hide (has_in h hk)
  have HE := hide (end_at h hk)
  have hk' : (k : Int) < (n : Int) := by omega
  have hn := h.nmax
  have c1 := h.c1
  have c2 := h.c2
  have cr := h.cs hk
  have ct := h.ct hk
  have hb := h.base_le hk
  obtain ⟨t1, t2⟩ := h.tok k hk
  have t0 : 0 ≤ t k := by omega
  have t3 : t k ≤ 4194304 := by omega
  clear h hx
  generalize k * W + W = E at *
  generalize s k = y at *
  generalize t k = T at *
  have hfit' : (E : Int) - T < c := by omega
  clear t1 hfit
  go_enter Try.func10, Try.ntmps10
  go_wp2_with (first | (go_at_call 26; refine HH.out.mono ?_; rintro e w' ⟨rfl, rfl⟩) | (go_at_call 24; refine (HF.out _).mono ?_; rintro e w' ⟨rfl, rfl⟩) | (go_at_call 27; refine HE.out.mono ?_; rintro e w' ⟨rfl, q, rfl⟩))
  go_ret2
  exact ⟨rfl, _, rfl⟩
theorem bump_shape {w : World} {tb sb pb mb W n : Nat} {s t m : Nat → Int} (h : Rg w tb sb pb mb W n s t m) {k : Nat} (hk : k < n) (hx : ¬ Filled (s k)) {c : Int} (hc : 1 ≤ c) :
    Calls Try.prog 10 #[.pointer (some ⟨tb, 0, none⟩), .int .i64 (k : Int), .int .i64 c] w fun e w' => e = .returned (.tuple #[.int .i64 0, .int .i64 3]) ∧ w = w' := by
  have HF := hide (filled_no hx)
  have HH := hide (has_in h hk)
  have hk' : (k : Int) < (n : Int) := by omega
  have hn := h.nmax
  have c1 := h.c1
  have cr := h.cs hk
  clear h hx
  generalize s k = y at *
  go_enter Try.func10, Try.ntmps10
  go_wp2_with (first | (go_at_call 26; refine HH.out.mono ?_; rintro e w' ⟨rfl, rfl⟩) | (go_at_call 24; refine (HF.out _).mono ?_; rintro e w' ⟨rfl, rfl⟩))
  go_ret2
  exact ⟨rfl, rfl⟩
theorem bump_range {w : World} {tb sb pb mb W n : Nat} {s t m : Nat → Int} (h : Rg w tb sb pb mb W n s t m) {r c : Int} (hr : ¬ (0 ≤ r ∧ r < (n : Int)) ∨ c < 1) :
    Calls Try.prog 10 #[.pointer (some ⟨tb, 0, none⟩), .int .i64 r, .int .i64 c] w fun e w' => e = .returned (.tuple #[.int .i64 0, .int .i64 2]) ∧ w = w' := by
  by_cases hi : 0 ≤ r ∧ r < (n : Int)
  · have hc : c < 1 := by rcases hr with hr | hr; exact absurd hi hr; exact hr
    obtain ⟨hi0, hi1⟩ := hi
    obtain ⟨k, rfl⟩ := Int.eq_ofNat_of_zero_le hi0
    have HH := hide (has_in h (k := k) (by omega))
    clear h hr hi0 hi1
    go_enter Try.func10, Try.ntmps10
    go_wp2_with (first | (go_at_call 26; refine HH.out.mono ?_; rintro e w' ⟨rfl, rfl⟩))
    go_ret2
    exact ⟨rfl, rfl⟩
  · have HH := hide (has_out h hi)
    clear h hr hi
    go_enter Try.func10, Try.ntmps10
    go_wp2_with (first | (go_at_call 26; refine HH.out.mono ?_; rintro e w' ⟨rfl, rfl⟩))
    go_ret2
    exact ⟨rfl, rfl⟩
end Go.Proofs.Ytjgjcpafdhocfaa
