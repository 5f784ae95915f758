/- Package cset's cost and compare; the library's cmp.Or of two numbers. -/
import Derived.Test.YteggdpcfeljphaaKa
import Derived.Test.YteggdpcfeljphaaNm
import Derived.Test.YteggdpcfeljphaaShelf
import Derived.Deep.RegionHeld3
import Derived.Shelf.SlSortCmp.NoneTotal
namespace Go.Proofs.Yteggdpcfeljphaa
set_option linter.unusedVariables false
set_option linter.unusedSimpArgs false
open Go.RowKit Go.Gl Go.Shelf Go.Sort

/-- From w on there was only new memory, and draws. -/
structure Gr (w w' : World) : Prop where
  fr : Fr [] w w'
  drawn : w.drawn ≤ w'.drawn
theorem Gr.refl (w : World) : Gr w w := ⟨Fr.refl _ _, Nat.le_refl _⟩
theorem Gr.trans {a b c : World} (h : Gr a b) (h' : Gr b c) : Gr a c := ⟨h.fr.trans_same h'.fr, Nat.le_trans h.drawn h'.drawn⟩
theorem Gr.alloc {a b : World} (h : Gr a b) (o : Obj) : Gr a (b.alloc o) := ⟨h.fr.alloc o, h.drawn⟩
theorem Gr.drew {a b : World} (h : Gr a b) : Gr a b.drew := ⟨h.fr.drew, Nat.le_succ_of_le h.drawn⟩
theorem Gr.drewN {a b : World} (h : Gr a b) (n : Nat) : Gr a (b.drewN n) := ⟨h.fr.drewN n, Nat.le_trans h.drawn (Nat.le_add_right _ _)⟩
theorem Gr.grow {w w' : World} (h : Gr w w') : ∃ q os, w' = Go.Sort.grow (w.drewN q) os := by
  refine ⟨w'.drawn - w.drawn, w'.heap.extract w.heap.size w'.heap.size, ?_⟩
  have h1 := h.fr.size
  have hd := h.drawn
  have hh : w'.heap = w.heap ++ w'.heap.extract w.heap.size w'.heap.size := by
    apply Array.ext_getElem?
    intro k
    rcases Nat.lt_or_ge k w.heap.size with hk | hk
    · rw [h.fr.block k hk (by simp), Array.getElem?_append_left hk]
    · rw [Array.getElem?_append_right hk]
      simp only [Array.getElem?_extract]
      rcases Nat.lt_or_ge k w'.heap.size with h2 | h2
      · rw [if_pos (by omega), show w.heap.size + (k - w.heap.size) = k by omega]
      · rw [if_neg (by omega), Array.getElem?_eq_none h2]
  have e1 := h.fr.os
  have e2 := h.fr.tape
  have e3 := h.fr.output
  cases w' with
  | mk heap tape drawn os output =>
    simp only at e1 e2 e3 hh hd
    subst e1 e2 e3
    unfold Go.Sort.grow World.drewN
    simp only [World.mk.injEq, true_and, and_true]
    exact ⟨hh, by omega⟩

theorem cost_any (x : Int × Int) (w : World) : Calls Try.prog 24 #[.agg #[.int .i64 x.1, .int .i64 x.2]] w fun e w' => e = .returned (.int .i64 (max x.2 0)) ∧ Gr w w' := by
  obtain ⟨r, l⟩ := x
  simp only
  go_enter Try.func24, Try.ntmps24
  go_wp2
  all_goals go_ret
  all_goals exact ⟨ret_int (by omega), (Gr.refl _).alloc _⟩
/-- Below, above 0 or 0. -/
def cmp3 (x y : Int) : Int := if x < y then -1 else if x > y then 1 else 0
theorem cmp3_any (x y : Int) (w : World) : Calls Try.prog 31 #[.int .i64 x, .int .i64 y] w fun e w' => e = .returned (.int .i64 (cmp3 x y)) ∧ w = w' :=
  (Any.cmp_Compare_int Try.shCompare x y w).mono fun e w' h => ⟨h.1, h.2.symm⟩
theorem cmpOr_any {w : World} {b : Nat} {t : TypeId} (x y : Int) (h : Blk w b t #[.int .i64 x, .int .i64 y]) : Calls Try.prog 30 #[.slice (some ⟨b, 0, none⟩) 2 2] w fun e w' => e = .returned (.int .i64 (if x = 0 then y else x)) ∧ w = w' := by
  have c0 : w.cell? ⟨b, 0, none⟩ = some (.int .i64 x) := h.cell 0
  have c1 : w.cell? ⟨b, 1, none⟩ = some (.int .i64 y) := h.cell 1
  clear h
  obtain ⟨R, hR⟩ : ∃ R, (if x = 0 then y else x) = R := ⟨_, rfl⟩
  rw [hR]
  have HR := hide hR
  clear hR
  have hx1 : (x != 0) = true ∨ (x != 0) = false := by cases (x != 0) <;> simp
  have hy1 : (y != 0) = true ∨ (y != 0) = false := by cases (y != 0) <;> simp
  go_enter Try.func30, Try.ntmps30
  go_wp2
  refine wp_loop_rounds 3 ?_
  rw [rounds_succ]
  rcases hx1 with hx1 | hx1
  · go_wp2
    go_ret
    exact ⟨ret_int (by rw [← HR.out, if_neg (by simpa using hx1)]), rfl⟩
  · rcases hy1 with hy1 | hy1
    · go_wp2
      rw [rounds_succ]
      go_wp2
      go_ret
      exact ⟨ret_int (by rw [← HR.out, if_pos (by simpa using hx1)]), rfl⟩
    · go_wp2
      rw [rounds_succ]
      go_wp2
      rw [rounds_succ]
      go_wp2
      go_ret
      exact ⟨ret_int (by rw [← HR.out, if_pos (by simpa using hx1)]; exact Eq.symm (by simpa using hy1)), rfl⟩
/-- What compare comes to. -/
def cfC (x y : Int × Int) : Int := if cmp3 (max x.2 0) (max y.2 0) = 0 then cmp3 x.1 y.1 else cmp3 (max x.2 0) (max y.2 0)
set_option maxRecDepth 100000 in
set_option maxHeartbeats 1600000 in
theorem compareC_any (x y : Int × Int) (w : World) : Calls Try.prog 23 #[.agg #[.int .i64 x.1, .int .i64 x.2], .agg #[.int .i64 y.1, .int .i64 y.2]] w fun e w' => e = .returned (.int .i64 (cfC x y)) ∧ Gr w w' := by
  obtain ⟨w2, hw2⟩ : ∃ w2, w2 = ((w.alloc (.cells #[.int .i64 x.1, .int .i64 x.2] 33)).alloc (.cells #[.int .i64 y.1, .int .i64 y.2] 33)).drew := ⟨_, rfl⟩
  have G2 : Gr w w2 := by rw [hw2]; exact (((Gr.refl w).alloc _).alloc _).drew
  have B1 : Blk w2 w.heap.size 33 #[.int .i64 x.1, .int .i64 x.2] := by rw [hw2]; exact ((Blk.new w 33 _).alloc _).drew
  have B2 : Blk w2 (w.heap.size + 1) 33 #[.int .i64 y.1, .int .i64 y.2] := by rw [hw2]; exact (Blk.new_at (w := w.alloc (.cells #[.int .i64 x.1, .int .i64 x.2] 33)) 33 _ (by simp)).drew
  have HS : Hid (∀ w', Gr w2 w' → (w'.cell? ⟨w.heap.size, 0, none⟩ = some (.int .i64 x.1) ∧ w'.cell? ⟨w.heap.size, 1, none⟩ = some (.int .i64 x.2) ∧ w'.cell? ⟨w.heap.size + 1, 0, none⟩ = some (.int .i64 y.1) ∧ w'.cell? ⟨w.heap.size + 1, 1, none⟩ = some (.int .i64 y.2)) ∧ Gr w2 w') :=
    fun w' hg => ⟨⟨(B1.fr hg.fr (by simp)).cell 0, (B1.fr hg.fr (by simp)).cell 1, (B2.fr hg.fr (by simp)).cell 0, (B2.fr hg.fr (by simp)).cell 1⟩, hg⟩
  have K0 := hide (HS.out w2 (Gr.refl _))
  have HX : Hid (∀ w', Gr w2 w' → Calls Try.prog 24 #[.agg #[.int .i64 x.1, .int .i64 x.2]] w' fun e w'' => e = .returned (.int .i64 (max x.2 0)) ∧ Gr w2 w'') := fun w' hg => (cost_any x w').mono fun e w'' h => ⟨h.1, hg.trans h.2⟩
  have HY : Hid (∀ w', Gr w2 w' → Calls Try.prog 24 #[.agg #[.int .i64 y.1, .int .i64 y.2]] w' fun e w'' => e = .returned (.int .i64 (max y.2 0)) ∧ Gr w2 w'') := fun w' hg => (cost_any y w').mono fun e w'' h => ⟨h.1, hg.trans h.2⟩
  have HR : Hid (cfC x y = if cmp3 (max x.2 0) (max y.2 0) = 0 then cmp3 x.1 y.1 else cmp3 (max x.2 0) (max y.2 0)) := rfl
  have HG := hide G2
  clear B1 B2 G2
  generalize cfC x y = R at *
  generalize hmx : max x.2 0 = mx at *
  generalize hmy : max y.2 0 = my at *
  generalize x.1 = x1 at *
  generalize y.1 = y1 at *
  generalize x.2 = x2 at *
  generalize y.2 = y2 at *
  have HC1 : Hid (∀ w', Calls Try.prog 31 #[.int .i64 mx, .int .i64 my] w' fun e w'' => e = .returned (.int .i64 (cmp3 mx my)) ∧ w' = w'') := fun w' => cmp3_any _ _ _
  have HC2 : Hid (∀ w', Calls Try.prog 31 #[.int .i64 x1, .int .i64 y1] w' fun e w'' => e = .returned (.int .i64 (cmp3 x1 y1)) ∧ w' = w'') := fun w' => cmp3_any _ _ _
  generalize cmp3 mx my = d1 at *
  generalize cmp3 x1 y1 = d2 at *
  have HO : Hid (∀ (w' : World) (b : Nat), Blk w' b 3 #[.int .i64 d1, .int .i64 d2] → Calls Try.prog 30 #[.slice (some ⟨b, 0, none⟩) 2 2] w' fun e w'' => e = .returned (.int .i64 R) ∧ w' = w'') := fun w' b hb => by
    rw [HR.out]; exact cmpOr_any _ _ hb
  clear HR hmx hmy
  subst hw2
  go_enter Try.func23, Try.ntmps23
  go_wp2_with fail
  go_region_held3 (fun w' => (w'.cell? ⟨w.heap.size, 0, none⟩ = some (.int .i64 x1) ∧ w'.cell? ⟨w.heap.size, 1, none⟩ = some (.int .i64 x2) ∧ w'.cell? ⟨w.heap.size + 1, 0, none⟩ = some (.int .i64 y1) ∧ w'.cell? ⟨w.heap.size + 1, 1, none⟩ = some (.int .i64 y2)) ∧ Gr (((w.alloc (.cells #[.int .i64 x1, .int .i64 x2] 33)).alloc (.cells #[.int .i64 y1, .int .i64 y2] 33)).drew) w')
    (first | exact K0.out | exact HS.out _ (by assumption) | exact HS.out _ (Gr.alloc (by assumption) _))
    (first
      | (go_at_call 24; (first | (with_reducible refine Calls.mono (HX.out _ (by assumption)) ?_) | (with_reducible refine Calls.mono (HX.out _ (Gr.refl _)) ?_) | (with_reducible refine Calls.mono (HY.out _ (by assumption)) ?_)); rintro e w3 ⟨rfl, hg3⟩)
      | (go_at_call 31; (first | (with_reducible refine Calls.mono (HC1.out _) ?_) | (with_reducible refine Calls.mono (HC2.out _) ?_)); rintro e w3 ⟨rfl, rfl⟩)
      | (go_at_call 30; (with_reducible refine Calls.mono (HO.out _ _ (Blk.new _ _ _)) ?_); rintro e w3 ⟨rfl, rfl⟩))
  all_goals
    go_wp2_with fail
    go_ret
    exact ⟨rfl, HG.out.trans (Gr.alloc (by assumption) _)⟩
/-! The order that compare tells. -/
theorem cfC_lt (x y : Int × Int) : cfC x y < 0 ↔ ¬ kle (keyC y) (keyC x) := by
  unfold cfC kle keyC cmp3
  simp only
  generalize max x.2 0 = a
  generalize max y.2 0 = b
  generalize x.1 = c
  generalize y.1 = d
  by_cases h1 : a < b
  · (try simp [h1]); try omega
  · by_cases h2 : a > b
    · simp [h1, h2]; try omega
    · obtain rfl : a = b := by omega
      by_cases h3 : c < d
      · simp [h3]; try omega
      · by_cases h4 : c > d
        · simp [h3, h4]; try omega
        · simp [h3, h4]; try omega
theorem ltC (x y : Int × Int) : ltOf cfC x y = !decide (kle (keyC y) (keyC x)) := by
  unfold ltOf
  by_cases h : kle (keyC y) (keyC x)
  · rw [decide_eq_false (fun h2 => (cfC_lt x y).1 h2 h), decide_eq_true h]; rfl
  · rw [decide_eq_true ((cfC_lt x y).2 h), decide_eq_false h]; rfl
theorem swoC : SWO (ltOf cfC) where
  irrefl x := by rw [ltC]; simpa using kle_refl _
  trans x y z h1 h2 := by
    rw [ltC] at *
    simp at *
    intro h3
    rcases kle_total (keyC x) (keyC y) with h | h
    · exact h2 (kle_trans h3 h)
    · exact h1 h
  ntrans x y z h1 h2 := by
    rw [ltC] at *
    simp at *
    exact kle_trans h2 h1
def encC (x : Int × Int) : List Value := [.int .i64 x.1, .int .i64 x.2]
theorem cmpLaysC (blk off size : Nat) (w : World) : CmpLays Try.prog 23 #[] encC 2 cfC blk off size w :=
  fun m os dk hs x y => (compareC_any x y _).mono fun _ _ h => ⟨h.1, h.2.grow⟩
end Go.Proofs.Yteggdpcfeljphaa
