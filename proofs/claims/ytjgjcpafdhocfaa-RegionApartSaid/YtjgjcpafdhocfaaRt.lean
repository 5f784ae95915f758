/- The regions: their numbers, and what the calls of the package region that only look answer of a table that lies in memory. -/
import Derived.Test.YtjgjcpafdhocfaaProg
import Derived.Test.YtjgjcpafdhocfaaRn
import Derived.Test.YtjgjcpafdhocfaaNm
import Derived.Test.YtjgjcpafdhocfaaGeo
import Derived.WalkKit
import Derived.BigQuiet
namespace Go.Proofs.Ytjgjcpafdhocfaa
set_option linter.unusedVariables false
open Go.RowKit Go.Gl

/-- A state of regions that are filled word by word. -/
def Filled (x : Int) : Prop := x = 1 ∨ x = 2 ∨ x = 3
instance (x : Int) : Decidable (Filled x) := by unfold Filled; infer_instance
/-- A table lies at the block tb: n regions of W words, their states, Tops and Tams at sb, pb, mb. -/
structure Rg (w : World) (tb sb pb mb W n : Nat) (s t m : Nat → Int) : Prop where
  set : Blk w tb 57 #[.int .i64 (W : Int), .slice (some ⟨sb, 0, none⟩) n n, .slice (some ⟨pb, 0, none⟩) n n, .slice (some ⟨mb, 0, none⟩) n n]
  st : Blk w sb 33 (rowV .i64 n s)
  tops : Blk w pb 3 (rowV .i64 n t)
  tams : Blk w mb 3 (rowV .i64 n m)
  pm : pb ≠ mb
  pos : 1 ≤ W
  max : n * W ≤ 4194304
  sok : ∀ k, k < n → 0 ≤ s k ∧ s k ≤ 5
  tok : ∀ k, k < n → ((k * W : Nat) : Int) ≤ t k ∧ t k ≤ ((k * W + W : Nat) : Int)
  mok : ∀ k, k < n → ((k * W : Nat) : Int) ≤ m k ∧ m k ≤ ((k * W + W : Nat) : Int)

section
variable {w w' : World} {tb sb pb mb W n : Nat} {s t m : Nat → Int} {F : List Nat}
theorem Rg.fr (h : Rg w tb sb pb mb W n s t m) (hf : Fr F w w') (h1 : tb ∉ F) (h2 : sb ∉ F) (h3 : pb ∉ F) (h4 : mb ∉ F) : Rg w' tb sb pb mb W n s t m := ⟨h.set.fr hf h1, h.st.fr hf h2, h.tops.fr hf h3, h.tams.fr hf h4, h.pm, h.pos, h.max, h.sok, h.tok, h.mok⟩
theorem Rg.fr0 (h : Rg w tb sb pb mb W n s t m) (hf : Fr [] w w') : Rg w' tb sb pb mb W n s t m := h.fr hf (by simp) (by simp) (by simp) (by simp)
theorem Rg.drewN (h : Rg w tb sb pb mb W n s t m) (k : Nat) : Rg (w.drewN k) tb sb pb mb W n s t m := ⟨h.set, h.st, h.tops, h.tams, h.pm, h.pos, h.max, h.sok, h.tok, h.mok⟩
theorem Rg.drew (h : Rg w tb sb pb mb W n s t m) : Rg w.drew tb sb pb mb W n s t m := ⟨h.set, h.st, h.tops, h.tams, h.pm, h.pos, h.max, h.sok, h.tok, h.mok⟩
theorem Rg.c0 (h : Rg w tb sb pb mb W n s t m) : w.cell? ⟨tb, 0, none⟩ = some (.int .i64 (W : Int)) := by rw [h.set.cell]; rfl
theorem Rg.c1 (h : Rg w tb sb pb mb W n s t m) : w.cell? ⟨tb, 1, none⟩ = some (.slice (some ⟨sb, 0, none⟩) n n) := by rw [h.set.cell]; rfl
theorem Rg.c2 (h : Rg w tb sb pb mb W n s t m) : w.cell? ⟨tb, 2, none⟩ = some (.slice (some ⟨pb, 0, none⟩) n n) := by rw [h.set.cell]; rfl
theorem Rg.c3 (h : Rg w tb sb pb mb W n s t m) : w.cell? ⟨tb, 3, none⟩ = some (.slice (some ⟨mb, 0, none⟩) n n) := by rw [h.set.cell]; rfl
theorem Rg.cs (h : Rg w tb sb pb mb W n s t m) {k : Nat} (hk : k < n) : w.cell? ⟨sb, k, none⟩ = some (.int .i64 (s k)) := by rw [h.st.cell, rowV_at hk]
theorem Rg.ct (h : Rg w tb sb pb mb W n s t m) {k : Nat} (hk : k < n) : w.cell? ⟨pb, k, none⟩ = some (.int .i64 (t k)) := by rw [h.tops.cell, rowV_at hk]
theorem Rg.cm (h : Rg w tb sb pb mb W n s t m) {k : Nat} (hk : k < n) : w.cell? ⟨mb, k, none⟩ = some (.int .i64 (m k)) := by rw [h.tams.cell, rowV_at hk]
theorem Rg.ts (h : Rg w tb sb pb mb W n s t m) : tb ≠ sb := h.set.apart h.st (by decide)
theorem Rg.tp (h : Rg w tb sb pb mb W n s t m) : tb ≠ pb := h.set.apart h.tops (by decide)
theorem Rg.tm (h : Rg w tb sb pb mb W n s t m) : tb ≠ mb := h.set.apart h.tams (by decide)
theorem Rg.sp (h : Rg w tb sb pb mb W n s t m) : sb ≠ pb := h.st.apart h.tops (by decide)
theorem Rg.sm (h : Rg w tb sb pb mb W n s t m) : sb ≠ mb := h.st.apart h.tams (by decide)
theorem Rg.nmax (h : Rg w tb sb pb mb W n s t m) : n ≤ 4194304 := Nat.le_trans (Nat.le_mul_of_pos_right n h.pos) h.max
theorem Rg.base_le (h : Rg w tb sb pb mb W n s t m) {k : Nat} (hk : k < n) : k * W + W ≤ 4194304 := by
  have h1 : (k + 1) * W ≤ n * W := Nat.mul_le_mul_right W hk
  have h2 := h.max
  rw [Nat.add_mul, Nat.one_mul] at h1
  omega
theorem Rg.wmax (h : Rg w tb sb pb mb W n s t m) {k : Nat} (hk : k < n) : W ≤ 4194304 := by have := h.base_le hk; omega
/-- Behind stores into the rows. -/
theorem Rg.puts {s' t' m' : Nat → Int} (h : Rg w tb sb pb mb W n s t m) (hf : Fr F w w') (h1 : tb ∉ F) (hs : Blk w' sb 33 (rowV .i64 n s')) (ht : Blk w' pb 3 (rowV .i64 n t')) (hm : Blk w' mb 3 (rowV .i64 n m'))
    (sok : ∀ k, k < n → 0 ≤ s' k ∧ s' k ≤ 5) (tok : ∀ k, k < n → ((k * W : Nat) : Int) ≤ t' k ∧ t' k ≤ ((k * W + W : Nat) : Int)) (mok : ∀ k, k < n → ((k * W : Nat) : Int) ≤ m' k ∧ m' k ≤ ((k * W + W : Nat) : Int)) : Rg w' tb sb pb mb W n s' t' m' :=
  ⟨h.set.fr hf h1, hs, ht, hm, h.pm, h.pos, h.max, sok, tok, mok⟩
end

theorem has_in {w : World} {tb sb pb mb W n : Nat} {s t m : Nat → Int} (h : Rg w tb sb pb mb W n s t m) {k : Nat} (hk : k < n) :
    Calls Try.prog 26 #[.pointer (some ⟨tb, 0, none⟩), .int .i64 (k : Int)] w fun e w' => e = .returned (.bool true) ∧ w = w' := by
  have c1 := h.c1
  have hn := h.nmax
  have hk' : (k : Int) < (n : Int) := by omega
  clear h
  go_enter Try.func26, Try.ntmps26
  go_wp2
  go_ret
  exact ⟨rfl, rfl⟩
theorem has_out {w : World} {tb sb pb mb W n : Nat} {s t m : Nat → Int} (h : Rg w tb sb pb mb W n s t m) {r : Int} (hr : ¬ (0 ≤ r ∧ r < (n : Int))) :
    Calls Try.prog 26 #[.pointer (some ⟨tb, 0, none⟩), .int .i64 r] w fun e w' => e = .returned (.bool false) ∧ w = w' := by
  have c1 := h.c1
  have hn := h.nmax
  clear h
  by_cases c0 : r < 0
  · clear hr
    go_enter Try.func26, Try.ntmps26
    go_wp2
    go_ret
    exact ⟨rfl, rfl⟩
  · have c2 : (n : Int) ≤ r := by omega
    clear hr
    go_enter Try.func26, Try.ntmps26
    go_wp2
    go_ret
    exact ⟨ret_bool (by simp; omega), rfl⟩
theorem base_cell {w : World} {tb W k : Nat} (c0 : w.cell? ⟨tb, 0, none⟩ = some (.int .i64 (W : Int))) (hb : k * W ≤ 4194304) :
    Calls Try.prog 37 #[.pointer (some ⟨tb, 0, none⟩), .int .i64 (k : Int)] w fun e w' => e = .returned (.int .i64 ((k * W : Nat) : Int)) ∧ w = w' := by
  have HB := hide hb
  clear hb
  go_enter Try.func37, Try.ntmps37
  go_wp2
  go_ret
  refine ⟨ret_int ?_, rfl⟩
  have := HB.out
  rw [← Int.natCast_mul, IntWalk.wrap64_in _ ⟨by omega, by omega⟩]
theorem base_at {w : World} {tb sb pb mb W n : Nat} {s t m : Nat → Int} (h : Rg w tb sb pb mb W n s t m) {k : Nat} (hk : k < n) :
    Calls Try.prog 37 #[.pointer (some ⟨tb, 0, none⟩), .int .i64 (k : Int)] w fun e w' => e = .returned (.int .i64 ((k * W : Nat) : Int)) ∧ w = w' :=
  base_cell h.c0 (by have := h.base_le hk; omega)
theorem end_at {w : World} {tb sb pb mb W n : Nat} {s t m : Nat → Int} (h : Rg w tb sb pb mb W n s t m) {k : Nat} (hk : k < n) :
    Calls Try.prog 27 #[.pointer (some ⟨tb, 0, none⟩), .int .i64 (k : Int)] w fun e w' => e = .returned (.int .i64 ((k * W + W : Nat) : Int)) ∧ ∃ q, w' = w.drewN q := by
  have c0 := h.c0
  have hb := hide (h.base_le hk)
  have HB : Hid (∀ q, Calls Try.prog 37 #[.pointer (some ⟨tb, 0, none⟩), .int .i64 (k : Int)] (w.drewN q) fun e w' => e = .returned (.int .i64 ((k * W : Nat) : Int)) ∧ ∃ m, w' = (w.drewN q).drewN m) := fun q => (base_at (h.drewN q) hk).mono fun e w' ⟨he, hw⟩ => ⟨he, 0, hw.symm⟩
  have hw := hide (Int.natCast_add (k * W) W)
  clear h
  generalize k * W = x at *
  go_enter Try.func27, Try.ntmps27
  go_wp2_with fail
  go_quiet ((go_at_call 37; exact Calls.quiet_of (HB.out _)))
  go_wp2
  go_ret
  refine ⟨ret_int ?_, _, rfl⟩
  have := hb.out
  rw [hw.out, IntWalk.wrap64_in _ ⟨by omega, by omega⟩]
theorem filled_yes {x : Int} (hx : Filled x) (w : World) : Calls Try.prog 24 #[.int .i64 x] w fun e w' => e = .returned (.bool true) ∧ w = w' := by
  rcases hx with rfl | rfl | rfl
  all_goals
    go_enter Try.func24, Try.ntmps24
    go_wp2
    go_ret
    exact ⟨rfl, rfl⟩
theorem filled_no {x : Int} (hx : ¬ Filled x) (w : World) : Calls Try.prog 24 #[.int .i64 x] w fun e w' => e = .returned (.bool false) ∧ w = w' := by
  have h1 : ¬ x = 1 := fun h => hx (.inl h)
  have h2 : ¬ x = 2 := fun h => hx (.inr (.inl h))
  have h3 : ¬ x = 3 := fun h => hx (.inr (.inr h))
  clear hx
  go_enter Try.func24, Try.ntmps24
  go_wp2
  go_ret
  exact ⟨ret_bool (by simp [h1, h2, h3]), rfl⟩

theorem state_at {w : World} {tb sb pb mb W n : Nat} {s t m : Nat → Int} (h : Rg w tb sb pb mb W n s t m) {k : Nat} (hk : k < n) :
    Calls Try.prog 12 #[.pointer (some ⟨tb, 0, none⟩), .int .i64 (k : Int)] w fun e w' => e = .returned (.int .i64 (s k)) ∧ w = w' := by
  have H := hide (has_in h hk)
  have c1 := h.c1
  have cr := h.cs hk
  have hn := h.nmax
  have hk' : (k : Int) < (n : Int) := by omega
  generalize s k = x at *
  clear h
  go_enter Try.func12, Try.ntmps12
  go_wp2_with (go_at_call 26; refine H.out.mono ?_; rintro e w' ⟨rfl, rfl⟩)
  go_ret
  exact ⟨rfl, rfl⟩
theorem state_out {w : World} {tb sb pb mb W n : Nat} {s t m : Nat → Int} (h : Rg w tb sb pb mb W n s t m) {r : Int} (hr : ¬ (0 ≤ r ∧ r < (n : Int))) :
    Calls Try.prog 12 #[.pointer (some ⟨tb, 0, none⟩), .int .i64 r] w fun e w' => e = .returned (.int .i64 0) ∧ w = w' := by
  have H := hide (has_out h hr)
  clear h hr
  go_enter Try.func12, Try.ntmps12
  go_wp2_with (go_at_call 26; refine H.out.mono ?_; rintro e w' ⟨rfl, rfl⟩)
  go_ret
  exact ⟨rfl, rfl⟩
theorem top_at {w : World} {tb sb pb mb W n : Nat} {s t m : Nat → Int} (h : Rg w tb sb pb mb W n s t m) {k : Nat} (hk : k < n) :
    Calls Try.prog 11 #[.pointer (some ⟨tb, 0, none⟩), .int .i64 (k : Int)] w fun e w' => e = .returned (.int .i64 (t k)) ∧ w = w' := by
  have H := hide (has_in h hk)
  have c1 := h.c2
  have cr := h.ct hk
  have hn := h.nmax
  have hk' : (k : Int) < (n : Int) := by omega
  generalize t k = x at *
  clear h
  go_enter Try.func11, Try.ntmps11
  go_wp2_with (go_at_call 26; refine H.out.mono ?_; rintro e w' ⟨rfl, rfl⟩)
  go_ret
  exact ⟨rfl, rfl⟩
theorem top_out {w : World} {tb sb pb mb W n : Nat} {s t m : Nat → Int} (h : Rg w tb sb pb mb W n s t m) {r : Int} (hr : ¬ (0 ≤ r ∧ r < (n : Int))) :
    Calls Try.prog 11 #[.pointer (some ⟨tb, 0, none⟩), .int .i64 r] w fun e w' => e = .returned (.int .i64 0) ∧ w = w' := by
  have H := hide (has_out h hr)
  clear h hr
  go_enter Try.func11, Try.ntmps11
  go_wp2_with (go_at_call 26; refine H.out.mono ?_; rintro e w' ⟨rfl, rfl⟩)
  go_ret
  exact ⟨rfl, rfl⟩
theorem tams_at {w : World} {tb sb pb mb W n : Nat} {s t m : Nat → Int} (h : Rg w tb sb pb mb W n s t m) {k : Nat} (hk : k < n) :
    Calls Try.prog 21 #[.pointer (some ⟨tb, 0, none⟩), .int .i64 (k : Int)] w fun e w' => e = .returned (.int .i64 (m k)) ∧ w = w' := by
  have H := hide (has_in h hk)
  have c1 := h.c3
  have cr := h.cm hk
  have hn := h.nmax
  have hk' : (k : Int) < (n : Int) := by omega
  generalize m k = x at *
  clear h
  go_enter Try.func21, Try.ntmps21
  go_wp2_with (go_at_call 26; refine H.out.mono ?_; rintro e w' ⟨rfl, rfl⟩)
  go_ret
  exact ⟨rfl, rfl⟩
theorem tams_out {w : World} {tb sb pb mb W n : Nat} {s t m : Nat → Int} (h : Rg w tb sb pb mb W n s t m) {r : Int} (hr : ¬ (0 ≤ r ∧ r < (n : Int))) :
    Calls Try.prog 21 #[.pointer (some ⟨tb, 0, none⟩), .int .i64 r] w fun e w' => e = .returned (.int .i64 0) ∧ w = w' := by
  have H := hide (has_out h hr)
  clear h hr
  go_enter Try.func21, Try.ntmps21
  go_wp2_with (go_at_call 26; refine H.out.mono ?_; rintro e w' ⟨rfl, rfl⟩)
  go_ret
  exact ⟨rfl, rfl⟩
end Go.Proofs.Ytjgjcpafdhocfaa
