/- The package region: List, Run. -/
import Derived.Test.YtkmnbaecohhcaaaDoorRt
import Derived.Deep.RegionHeld3
namespace Go.Proofs.YtkmnbaecohhcaaaDoor
set_option linter.unusedVariables false
set_option maxRecDepth 100000
open Go.RowKit Go.Gl

/-- The regions of a state, rising. -/
def those (s : Nat → Int) (x : Int) (n : Nat) : List Nat := (List.range n).filter fun j => decide (s j = x)
theorem those_succ (s : Nat → Int) (x : Int) (n : Nat) : those s x (n + 1) = those s x n ++ if s n = x then [n] else [] := by
  unfold those
  rw [List.range_succ, List.filter_append]
  by_cases h : s n = x <;> simp [h]
theorem those_len (s : Nat → Int) (x : Int) (n : Nat) : (those s x n).length ≤ n := by
  unfold those
  exact Nat.le_trans (List.length_filter_le _ _) (by simp)
theorem those_mem {s : Nat → Int} {x : Int} {n j : Nat} : j ∈ those s x n ↔ j < n ∧ s j = x := by simp [those]
theorem those_up (s : Nat → Int) (x : Int) (n : Nat) : (those s x n).Pairwise (· < ·) := List.Pairwise.filter _ List.pairwise_lt_range
def ListPost7 (w : World) (l : List Nat) (e : Ending) (w' : World) : Prop := ∃ v, e = .returned v ∧ w'.ownsRow w.heap.size 3 1 v l.length (nums l) ∧ Fr [] w w'
theorem rlist_any {w : World} {tb sb pb mb W n : Nat} {s t m : Nat → Int} (h : Rg w tb sb pb mb W n s t m) (x : Int) :
    Calls Tryd.prog 10 #[.pointer (some ⟨tb, 0, none⟩), .int .i64 x] w (ListPost7 w (those s x n)) := by
  obtain ⟨i0, hi, hz0, hz1, hz2⟩ := info_parts Tryd.info_int
  have H := hide h
  have c1 := h.c1
  have hn := h.nmax
  clear h
  go_enter Tryd.func10, Tryd.ntmps10
  go_wp2_with fail
  go_loopw [5, 15] (fun v i wr => ∃ k : Nat, i = .int .i64 k ∧ k ≤ n ∧ wr.ownsRow w.heap.size 3 1 v (those s x k).length (nums (those s x k)) ∧ Fr [] w wr) (fun _ i _ => n - (intOf i).toNat)
  case atStart => exact ⟨0, rfl, Nat.zero_le _, World.ownsRow_nil _ _ _ _, Fr.refl _ _⟩
  case round =>
    obtain ⟨k, rfl, hk, hown, hfr⟩ := hrel
    have HO := hide hown
    have HF := hide hfr
    have HR := hide (H.out.fr0 hfr)
    clear hown hfr
    by_cases hlt : k < n
    · have hlt' : (k : Int) < (n : Int) := by omega
      have hc := HR.out.cs hlt
      have ht := those_succ s x k
      have hl := those_len s x k
      by_cases hx : s k = x
      · rw [if_pos hx] at ht
        rw [hx] at hc
        have HT := hide ht
        clear ht hx
        go_wp2_with (at_builtin; refine wpList_append_own _ rfl _ _ 48 rfl w.heap.size 3 i0 (.int .i64 0) 1 8 Tryd.underlying48 hi hz0 hz1 hz2 rfl (by decide) _ _ _ rfl (HO.out.alloc _) ⟨_, 0, none⟩ 1 1 [.int .i64 (k : Int)] rfl rfl (one_at _ _ _) ?c2 ?c3 ?c4 ?c5 ?_)
        case c2 => intro u hu; simp at hu; subst hu; rfl
        case c3 => unfold maxLen; omega
        case c4 => omega
        case c5 => have := HF.out.size; simp; omega
        intro v' w6 hown6 hgr6 _
        have HV6 : Hid (w6.ownsRow w.heap.size 3 1 v' (those s x (k + 1)).length (nums (those s x (k + 1)))) := by
          rw [HT.out, nums_app, List.length_append]; exact hown6
        have HF6 : Hid (Fr [] w w6) := own_grown (HF.out.alloc _) HO.out hgr6
        clear hown6 hgr6
        go_wp2
        go_roundw
        case rel => exact ⟨k + 1, by go_num, by omega, HV6.out, HF6.out⟩
        case measure => simp [intOf]; omega
      · rw [if_neg hx, List.append_nil] at ht
        generalize hy : s k = y at hc hx
        go_wp2_with fail
        go_roundw
        case rel => exact ⟨k + 1, by go_num, by omega, by rw [ht]; exact HO.out, HF.out⟩
        case measure => simp [intOf]; omega
    · have hlt' : ¬ (k : Int) < (n : Int) := by omega
      obtain rfl : k = n := by omega
      go_wp2_with fail
      go_ret
      exact ⟨_, rfl, HO.out, HF.out⟩

/-- How many regions so many words take. -/
def spanE (W : Nat) (z : Int) : Int := if z < 1 then 0 else (z - 1) / (W : Int) + 1
theorem spanE_iff {W c : Nat} (hW : 1 ≤ W) (hc : 1 ≤ c) (z : Int) : (c : Int) = spanE W z ↔ ((c : Int) - 1) * (W : Int) < z ∧ z ≤ (c : Int) * (W : Int) := by
  unfold spanE
  have hWp : (0 : Int) < (W : Int) := by omega
  have h1 := Int.le_ediv_iff_mul_le (a := (c : Int) - 1) (b := z - 1) hWp
  have h2 := Int.ediv_lt_iff_lt_mul (a := z - 1) (b := (c : Int)) hWp
  have h3 : 0 ≤ ((c : Int) - 1) * (W : Int) := Int.mul_nonneg (by omega) (by omega)
  split
  · constructor
    · intro h; omega
    · intro h; omega
  · constructor
    · intro h
      have a1 := h1.1 (by omega)
      have a2 := h2.1 (by omega)
      omega
    · intro h
      have a1 := h1.2 (by omega)
      have a2 := h2.2 (by omega)
      omega

/-- c free regions side by side from f on; the lowest such. -/
def FreeRun (s : Nat → Int) (c f : Nat) : Prop := ∀ j, f ≤ j → j < f + c → s j = 0
def LowRun (s : Nat → Int) (n c f : Nat) : Prop := f + c ≤ n ∧ FreeRun s c f ∧ ∀ g, g < f → ¬ FreeRun s c g
def NoRun (s : Nat → Int) (n c : Nat) : Prop := ∀ f, f + c ≤ n → ¬ FreeRun s c f
theorem LowRun.unique {s : Nat → Int} {n c f g : Nat} (h : LowRun s n c f) (h' : LowRun s n c g) : f = g := by
  rcases Nat.lt_trichotomy f g with hl | hl | hl
  · exact absurd h.2.1 (h'.2.2 f hl)
  · exact hl
  · exact absurd h'.2.1 (h.2.2 g hl)
theorem run_ways (s : Nat → Int) (n c : Nat) (hc : 1 ≤ c) : (∃ f, LowRun s n c f) ∨ NoRun s n c := by
  have key : ∀ k, (∃ f, LowRun s n c f) ∨ ∀ f, f < k → f + c ≤ n → ¬ FreeRun s c f := by
    intro k
    induction k with
    | zero => exact .inr fun f hf => by omega
    | succ k ih =>
      rcases ih with ih | ih
      · exact .inl ih
      · by_cases h : k + c ≤ n ∧ FreeRun s c k
        · exact .inl ⟨k, h.1, h.2, fun g hg => ih g hg (by omega)⟩
        · refine .inr fun f hf hn hr => ?_
          rcases Nat.lt_or_ge f k with hl | hl
          · exact ih f hl hn hr
          · obtain rfl : f = k := by omega
            exact h ⟨hn, hr⟩
  rcases key (n + 1) with h | h
  · exact .inl h
  · exact .inr fun f hf => h f (by omega) hf
def LPost (w : World) (s : Nat → Int) (n c : Nat) (e : Ending) (w' : World) : Prop :=
  ∃ z : Int, e = .returned (.int .i64 z) ∧ w = w' ∧ ((∃ f : Nat, z = f ∧ LowRun s n c f) ∨ (z = -1 ∧ NoRun s n c))
/-- What is known as far as i: the last a regions are free, the one ahead of them isn't, and no run was met. -/
structure Met (s : Nat → Int) (c i a : Nat) : Prop where
  le : a ≤ i
  lt : a < c
  free : ∀ j, i - a ≤ j → j < i → s j = 0
  stop : a < i → s (i - a - 1) ≠ 0
  none : ∀ f, f + c ≤ i → ¬ FreeRun s c f
theorem Met.zero (s : Nat → Int) {c : Nat} (hc : 1 ≤ c) : Met s c 0 0 := ⟨by omega, by omega, fun j _ hj => by omega, fun h => by omega, fun f hf => by omega⟩
theorem Met.taken {s : Nat → Int} {c i a : Nat} (h : Met s c i a) (hs : s i ≠ 0) : Met s c (i + 1) 0 :=
  ⟨by omega, by have := h.lt; omega, fun j hj hj2 => by omega, fun _ => by simpa using hs, fun f hf hr => by
    rcases Nat.lt_or_ge i (f + c) with hl | hl
    · exact hs (hr i (by have := h.lt; omega) hl)
    · exact h.none f hl hr⟩
theorem Met.more {s : Nat → Int} {c i a : Nat} (h : Met s c i a) (hs : s i = 0) (hc : a + 1 < c) : Met s c (i + 1) (a + 1) :=
  ⟨by have := h.le; omega, hc, fun j hj hj2 => by
    rcases Nat.lt_or_ge j i with hl | hl
    · exact h.free j (by omega) hl
    · obtain rfl : j = i := by omega
      exact hs, fun hlt => by
    have := h.stop (by omega)
    rwa [show i + 1 - (a + 1) - 1 = i - a - 1 by omega], fun f hf hr => by
    rcases Nat.lt_or_ge i (f + c) with hl | hl
    · have h1 := h.le
      exact h.stop (by omega) (hr _ (by omega) (by omega))
    · exact h.none f hl hr⟩
theorem Met.found {s : Nat → Int} {c i a n : Nat} (h : Met s c i a) (hs : s i = 0) (hc : a + 1 = c) (hn : i < n) : LowRun s n c (i - a) :=
  ⟨by have := h.le; omega, fun j hj hj2 => by
    have := h.le
    rcases Nat.lt_or_ge j i with hl | hl
    · exact h.free j (by omega) hl
    · obtain rfl : j = i := by omega
      exact hs, fun g hg hr => h.none g (by have := h.le; omega) hr⟩
end Go.Proofs.YtkmnbaecohhcaaaDoor
/- The package region: Run. -/
namespace Go.Proofs.YtkmnbaecohhcaaaDoor
set_option linter.unusedVariables false
set_option maxRecDepth 100000
open Go.RowKit Go.Gl

/-- The Tops of a run from region f on, of z words. -/
def runTop (W f z : Nat) : Nat → Int := fun j => if ((j * W + W : Nat) : Int) < ((f * W + z : Nat) : Int) then ((j * W + W : Nat) : Int) else ((f * W + z : Nat) : Int)
theorem runTop_ok {W f z c j : Nat} (h1 : (c - 1) * W < z) (hj : f ≤ j) (hj2 : j < f + c) : ((j * W : Nat) : Int) ≤ runTop W f z j ∧ runTop W f z j ≤ ((j * W + W : Nat) : Int) := by
  have a1 : (j - f) * W ≤ (c - 1) * W := Nat.mul_le_mul_right W (by omega)
  have a2 : j * W = f * W + (j - f) * W := by rw [← Nat.add_mul]; congr 1; omega
  unfold runTop
  split <;> omega
end Go.Proofs.YtkmnbaecohhcaaaDoor
