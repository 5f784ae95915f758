/- Sets of numbers, the rest: Fill, New, List. -/
import Derived.Test.YtkbffmmomoeaiaaDoorB3
import Derived.Deep.RegionHeld3
namespace Go.Proofs.YtkbffmmomoeaiaaDoor
set_option linter.unusedVariables false
open Go.RowKit Go.Gl

def Filled (ws : List Nat) (n : Nat) (f t : Int) (on : Bool) (er : Int) (ws' : List Nat) : Prop :=
  (0 ≤ f ∧ f ≤ t ∧ t ≤ (n : Int) ∧ er = 0 ∧ ∀ j : Nat, wbit ws' j = if f ≤ (j : Int) ∧ (j : Int) < t then on else wbit ws j) ∨
  (¬ (0 ≤ f ∧ f ≤ t ∧ t ≤ (n : Int)) ∧ er = 2 ∧ ws' = ws)
def FillPost (w : World) (bs bw n : Nat) (ws : List Nat) (f t : Int) (on : Bool) (e : Ending) (w' : World) : Prop :=
  ∃ er ws', e = .returned (.int .i64 er) ∧ BSet w' bs bw n ws' ∧ Fr [bw] w w' ∧ Filled ws n f t on er ws'

/-- The words while Fill goes through them: those below A are filled. -/
def FillTo (ws : List Nat) (f t : Int) (on : Bool) (A : Nat) (ws' : List Nat) : Prop :=
  ∀ j : Nat, wbit ws' j = if f ≤ (j : Int) ∧ (j : Int) < t ∧ j < A * 64 then on else wbit ws j
def fillw (on : Bool) (x m : Nat) : Nat := if on then x ||| m else x &&& (18446744073709551615 - m)
theorem fillw_lt (on : Bool) {x m : Nat} (hx : x < 18446744073709551616) (hm : m < 18446744073709551616) : fillw on x m < 18446744073709551616 := by
  unfold fillw
  split
  · exact Nat.or_lt_two_pow (n := 64) hx hm
  · exact Nat.lt_of_le_of_lt Nat.and_le_left hx
theorem fillw_bit (on : Bool) {x m : Nat} (hx : x < 18446744073709551616) (hm : m < 18446744073709551616) {j : Nat} (hj : j < 64) : (fillw on x m).testBit j = if m.testBit j then on else x.testBit j := by
  unfold fillw
  cases on
  · simp only [Bool.false_eq_true, if_false, Nat.testBit_and, not_bit hm hj]
    cases m.testBit j <;> simp
  · simp only [if_true, Nat.testBit_or]
    cases m.testBit j <;> simp
theorem fill_start (ws : List Nat) (f t : Int) (on : Bool) (A : Nat) (h : (A : Int) * 64 ≤ f) : FillTo ws f t on A ws := fun j => by rw [if_neg (by omega)]
theorem fill_step {ws ws' : List Nat} {f t : Int} {on : Bool} {A : Nat} (h : FillTo ws f t on A ws') (hok : Words ws') (hA : A < ws'.length) :
    FillTo ws f t on (A + 1) (ws'.set A (fillw on (ws'.getD A 0) (msk A f t))) := by
  intro j
  have hm := msk_is A f t
  rw [wbit_set hA]
  by_cases hj : j / 64 = A
  · subst hj
    rw [if_pos rfl, fillw_bit on (hok _) hm.1 (by omega), hm.2 _ (by omega)]
    have e : ((j / 64 : Nat) : Int) * 64 + ((j % 64 : Nat) : Int) = (j : Int) := by omega
    rw [e]
    have h2 := h j
    rw [if_neg (by omega)] at h2
    by_cases hc : f ≤ (j : Int) ∧ (j : Int) < t
    · rw [if_pos (by simpa using hc), if_pos (by omega)]
    · rw [if_neg (by simpa using hc), if_neg (by omega), ← h2]; rfl
  · rw [if_neg hj, h j]
    by_cases hc : f ≤ (j : Int) ∧ (j : Int) < t ∧ j < A * 64
    · rw [if_pos hc, if_pos (by omega)]
    · rw [if_neg hc, if_neg (by omega)]
theorem fill_end {ws ws' : List Nat} {n : Nat} {f t : Int} {on : Bool} {A : Nat} (h : FillTo ws f t on A ws') (h0 : 0 ≤ f) (h1 : f ≤ t) (h2 : t ≤ (n : Int)) (hA : t ≤ (A : Int) * 64) : Filled ws n f t on 0 ws' :=
  .inl ⟨h0, h1, h2, rfl, fun j => by
    rw [h j]
    by_cases hc : f ≤ (j : Int) ∧ (j : Int) < t
    · rw [if_pos hc, if_pos (by omega)]
    · rw [if_neg hc, if_neg (by omega)]⟩
theorem bset_word {w : World} {bs bw n : Nat} {ws : List Nat} (h : BSet w bs bw n ws) {k x : Nat} (hx : x < 18446744073709551616) (htop : ∀ i, n ≤ i → wbit (ws.set k x) i = false) :
    BSet (w.setCell ⟨bw, k, none⟩ (.int .u64 (x : Int))) bs bw n (ws.set k x) := by
  refine ⟨?_, ?_, ?_, h.max, words_set h.ok hx, htop⟩
  · rw [List.length_set]; exact h.set.far (p := ⟨bw, k, none⟩) h.ne _
  · have := h.row.put k (.int .u64 (x : Int))
    rw [wv_set] at this; exact this
  · rw [List.length_set]; exact h.len
theorem fill_top {ws ws' : List Nat} {n : Nat} {f t : Int} {on : Bool} {A : Nat} (h : FillTo ws f t on A ws') (htop : ∀ i, n ≤ i → wbit ws i = false) (ht : t ≤ (n : Int)) : ∀ i, n ≤ i → wbit ws' i = false := by
  intro i hi
  rw [h i, if_neg (by omega), htop i hi]

theorem wbit_zero (L i : Nat) : wbit (List.replicate L 0) i = false := by
  unfold wbit
  rw [List.getD_eq_getElem?_getD, List.getElem?_replicate]
  split <;> exact Nat.zero_testBit _
theorem Tryd.info_u64 : (Tryd.prog.info? 95).map (fun i => (i.zero, i.size, i.bytes)) = some (some (.int .u64 0), 1, 8) := by kernel_rfl
def NewPost (w : World) (n : Nat) (e : Ending) (w' : World) : Prop :=
  ∃ bs bw, e = .returned (.tuple #[.pointer (some ⟨bs, 0, none⟩), .int .i64 0]) ∧ BSet w' bs bw n (List.replicate ((n + 63) / 64) 0) ∧ Fr [] w w' ∧ w.heap.size ≤ bs ∧ w.heap.size ≤ bw
theorem sNew_bad (n : Int) (h : n < 0 ∨ 4194304 < n) (w : World) : Calls Tryd.prog 65 #[.int .i64 n] w fun e w' => e = .returned (.tuple #[.pointer none, .int .i64 2]) ∧ w = w' := by
  rcases h with h | h
  all_goals
    go_enter Tryd.func65, Tryd.ntmps65
    go_wp2
    go_ret2
    exact ⟨rfl, rfl⟩
set_option maxRecDepth 100000 in
theorem sNew_any (n : Nat) (h : n ≤ 4194304) (w : World) : Calls Tryd.prog 65 #[.int .i64 (n : Int)] w (NewPost w n) := by
  obtain ⟨i0, hi, hz0, hz1, hz2⟩ := info_parts Tryd.info_u64
  have hL : ((n : Int) + 63) / 64 = ((n + 63) / 64 : Nat) := by omega
  have hL2 : (n + 63) / 64 ≤ 65536 := by omega
  have hL3 := hide hL
  clear hL
  go_enter Tryd.func65, Tryd.ntmps65
  go_wp2_with (first | (go_at_call 81; refine (wordsBelow_any _ (by omega) (by omega) _).mono ?_; rintro e w' ⟨rfl, rfl⟩) | (at_make; refine wpList_make_full _ rfl _ _ 96 rfl w.heap.size 95 i0 (.int .u64 0) 1 Tryd.underlying96 hi hz0 hz1 _ _ _ _ ((n + 63) / 64) rfl rfl hL3.out hL3.out (by rw [hz2]; omega) (by unfold maxLen; omega) (Nat.le_refl _) ?_; intro w1 hown hgr; have HO := hide hown; have HG := hide hgr; clear hown hgr))
  go_ret2
  have hown := HO.out
  rw [Nat.mul_one, made_one _ rfl] at hown
  have hb := own_full hown
  have hlt := hb.lt
  refine ⟨w1.heap.size, w.heap.size, rfl, ⟨?_, ?_, by simp, h, ?_, ?_⟩, ((Fr.refl _ _).grown HG.out (fun _ hk => by cases hk)).alloc _, HG.out.size, Nat.le_refl _⟩
  · rw [List.length_replicate]; exact Blk.new _ _ _
  · have : wv (List.replicate ((n + 63) / 64) 0) = (List.replicate ((n + 63) / 64) (Value.int .u64 0)).toArray := by simp [wv]
    rw [this]; exact hb.alloc _
  · intro k
    rw [List.getD_eq_getElem?_getD, List.getElem?_replicate]
    split <;> decide
  · intro i _
    exact wbit_zero _ _

/-- The numbers in it below b, rising. -/
def below (ws : List Nat) (b : Nat) : List Nat := (List.range b).filter (wbit ws)
theorem below_succ (ws : List Nat) (b : Nat) : below ws (b + 1) = below ws b ++ (if wbit ws b then [b] else []) := by
  unfold below
  rw [List.range_succ, List.filter_append]
  congr 1
  by_cases h : wbit ws b <;> simp [h]
theorem below_skip {ws : List Nat} {b d : Nat} (h : ∀ j, b ≤ j → j < b + d → wbit ws j = false) : below ws (b + d) = below ws b := by
  induction d with
  | zero => rfl
  | succ d ih => rw [← Nat.add_assoc, below_succ, ih (fun j h1 h2 => h j h1 (by omega)), h (b + d) (by omega) (by omega)]; simp
theorem below_le (ws : List Nat) (b : Nat) : (below ws b).length ≤ b := by
  unfold below
  exact Nat.le_trans (List.length_filter_le _ _) (by simp)
/-- What holds at the head of List's inner loop: the word's numbers below p are listed. -/
def ListInv (ws : List Nat) (A X p : Nat) : Prop := p ≤ 64 ∧ X < 18446744073709551616 ∧ ∀ j, j < 64 → X.testBit j = (wbit ws (A * 64 + j) && decide (p ≤ j))
theorem list_start {ws : List Nat} (hok : Words ws) (A : Nat) : ListInv ws A (ws.getD A 0) 0 := ⟨by omega, hok A, fun j hj => by rw [wbit_at _ _ _ hj]; simp⟩
theorem list_done {ws : List Nat} {A p : Nat} (h : ListInv ws A 0 p) : below ws (A * 64 + p) = below ws ((A + 1) * 64) := by
  obtain ⟨h1, _, h3⟩ := h
  obtain ⟨d, hd⟩ : ∃ d, 64 = p + d := ⟨64 - p, by omega⟩
  rw [show (A + 1) * 64 = A * 64 + p + d by omega]
  refine (below_skip fun j a b => ?_).symm
  have := h3 (j - A * 64) (by omega)
  rw [show A * 64 + (j - A * 64) = j by omega, Nat.zero_testBit, show decide (p ≤ j - A * 64) = true by simp; omega, Bool.and_true] at this
  exact this.symm
theorem list_step {ws : List Nat} {A X p : Nat} (h : ListInv ws A X p) (h0 : 0 < X) :
    ListInv ws A (X &&& (X - 1)) (Lib.ctz 64 X + 1) ∧ below ws (A * 64 + (Lib.ctz 64 X + 1)) = below ws (A * 64 + p) ++ [A * 64 + Lib.ctz 64 X] ∧ X &&& (X - 1) < X := by
  obtain ⟨h1, h2, h3⟩ := h
  obtain ⟨c1, c2, c3⟩ := ctz_low X h0 h2
  have hb := and_pred_bit X h0 h2
  have hle : X &&& (X - 1) ≤ X - 1 := Nat.and_le_right
  generalize Lib.ctz 64 X = c at *
  have hc := h3 c c1
  rw [c2] at hc
  have hc' := hc.symm
  rw [Bool.and_eq_true, decide_eq_true_eq] at hc'
  refine ⟨⟨by omega, by omega, fun j hj => ?_⟩, ?_, by omega⟩
  · rw [hb, h3 j hj]
    by_cases hjc : j ≤ c
    · by_cases hje : j = c
      · subst hje; simp
      · have := c3 j (by omega)
        rw [h3 j hj] at this
        rw [this, show decide (c + 1 ≤ j) = false by simp; omega]; simp
    · rw [show decide (p ≤ j) = true by simp; omega, show decide (c + 1 ≤ j) = true by simp; omega, show decide (j ≠ c) = true by simp; omega]; simp
  · rw [← Nat.add_assoc, below_succ, hc'.1]
    obtain ⟨d, hd⟩ : ∃ d, c = p + d := ⟨c - p, by omega⟩
    have : below ws (A * 64 + c) = below ws (A * 64 + p) := by
      rw [hd, ← Nat.add_assoc]
      refine below_skip fun j a b => ?_
      have e := h3 (j - A * 64) (by omega)
      rw [c3 _ (by omega), show A * 64 + (j - A * 64) = j by omega, show decide (p ≤ j - A * 64) = true by simp; omega, Bool.and_true] at e
      exact e.symm
    rw [this]; rfl
end Go.Proofs.YtkbffmmomoeaiaaDoor
