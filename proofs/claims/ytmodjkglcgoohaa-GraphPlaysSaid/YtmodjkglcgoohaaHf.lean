/- gleanerref13: asks; step, of any operation. -/
import Derived.Test.YtmodjkglcgoohaaHd
import Derived.Test.YtmodjkglcgoohaaHda
import Derived.Test.YtmodjkglcgoohaaHdb
import Derived.Test.YtmodjkglcgoohaaHdc
import Derived.Test.YtmodjkglcgoohaaHe
import Derived.Deep.CutRange
import Derived.WalkKit
import Derived.BigQuiet
namespace Go.Proofs.Ytmodjkglcgoohaa
set_option linter.unusedVariables false
set_option linter.unusedSimpArgs false
open Go.RowKit Go.Gl
section
variable {w w' : World} {tg tg' : TG} {F : List Nat} {Λ : ML} {T B M : Nat} {σ : GS} {t : Nat}
set_option maxRecDepth 100000 in
set_option maxHeartbeats 3200000 in
theorem masks_9 (h : MG w tg Λ T T B M σ) (ok : GOk T B σ) (hd : GDim T B M) (ht : t < T) (a b c v : Int) {ab : Nat} {th dn : Int} (hab : Blk w ab 34 (ansC th dn ⟨0, 0, false⟩)) (htg : (tg ab).1 = 0) :
    Calls Try.prog 46 #[.pointer (some ⟨Λ.m, 0, none⟩), .pointer (some ⟨Λ.S t, 0, none⟩), opV ⟨9, a, b, c, v⟩, .pointer (some ⟨ab, 0, none⟩)] w (MActPost w tg Λ.m T B M σ ab th dn ⟨equalE σ t a b, 0, equalV σ t a b⟩) := by
  have hf1 : Fr [] w (w.alloc (.cells #[.int .i64 9, .int .i64 a, .int .i64 b, .int .i64 c, .int .u64 v] 38)) := (Fr.refl _ _).alloc _
  obtain ⟨w1, hw1⟩ : ∃ w1, w1 = w.alloc (.cells #[.int .i64 9, .int .i64 a, .int .i64 b, .int .i64 c, .int .u64 v] 38) := ⟨_, rfl⟩
  have hbo : Blk w1 w.heap.size 38 #[.int .i64 9, .int .i64 a, .int .i64 b, .int .i64 c, .int .u64 v] := by rw [hw1]; exact Blk.new _ _ _
  rw [← hw1] at hf1
  have hp1 := h.fr0 hf1
  have HW1 := hide hw1
  have HF1 := hide hf1
  have HAB := hide hab
  have HTG := hide htg
  have HM := hide hp1.at
  have e0 : w1.cell? ⟨w.heap.size, 0, none⟩ = some (.int .i64 9) := by rw [hbo.cell]; rfl
  have e1 : w1.cell? ⟨w.heap.size, 1, none⟩ = some (.int .i64 a) := by rw [hbo.cell]; rfl
  have e2 : w1.cell? ⟨w.heap.size, 2, none⟩ = some (.int .i64 b) := by rw [hbo.cell]; rfl
  have e3 : w1.cell? ⟨w.heap.size, 3, none⟩ = some (.int .i64 c) := by rw [hbo.cell]; rfl
  have e4 : w1.cell? ⟨w.heap.size, 4, none⟩ = some (.int .u64 v) := by rw [hbo.cell]; rfl
  have NO : w.heap.size < w1.heap.size := lt_of_cell e0
  unfold opV
  clear hw1 hf1 hab htg h hbo
  have hb1 := HAB.out.fr HF1.out (by simp)
  have d4 : w1.cell? ⟨ab, 4, none⟩ = some (.bool false) := by rw [hb1.cell]; rfl
  have dz := hb1.frozen 4
  have NA : ab < w1.heap.size := hb1.lt
  have HB1 := hide hb1
  clear hb1
  have H1 := hide (mat_any hp1 ht a)
  have H2 := hide (mat_any hp1 ht b)
  unfold equalV equalE
  by_cases hi : hkIn (σ.st t) a
  · have q1 : hkAtE (σ.st t) a = 0 := by unfold hkAtE; rw [if_pos hi]
    rw [q1] at H1
    rw [if_pos hi]
    by_cases hj : hkIn (σ.st t) b
    · have q2 : hkAtE (σ.st t) b = 0 := by unfold hkAtE; rw [if_pos hj]
      rw [q2] at H2 ⊢
      rw [show decide (hkIn (σ.st t) a ∧ hkIn (σ.st t) b ∧ hkAt (σ.st t) a = hkAt (σ.st t) b) = decide (hkAt (σ.st t) a = hkAt (σ.st t) b) by simp [hi, hj]]
      generalize hkAt (σ.st t) a = x at *
      generalize hkAt (σ.st t) b = y at *
      clear hp1 hi hj q1 q2 ok hd ht
      by_cases he : x = y
      · subst he
        rw [show decide (x = x) = true by simp]
        have hx : (x == x) = true := by simp
        go_enter Try.func46, Try.ntmps46
        go_upto_region 1 with fail
        rw [← HW1.out]
        go_wp2_with fail
        refine H1.out.mono ?_
        rintro e w' ⟨rfl, rfl⟩
        go_wp2_with fail
        refine H2.out.mono ?_
        rintro e w' ⟨rfl, rfl⟩
        go_wp2_with fail
        go_ret
        exact MActPost.of HF1.out (GFr.refl _ _) HM.out HAB.out HTG.out ((Fr.refl _ _).setCell (p := ⟨ab, 4, none⟩) (.inl (by simp)) _) (by have := HB1.out.put 4 (.bool true); simpa [ansC] using this)
      · rw [show decide (x = y) = false by simp [he]]
        have hx : (x == y) = false := by simpa using he
        go_enter Try.func46, Try.ntmps46
        go_upto_region 1 with fail
        rw [← HW1.out]
        go_wp2_with fail
        refine H1.out.mono ?_
        rintro e w' ⟨rfl, rfl⟩
        go_wp2_with fail
        refine H2.out.mono ?_
        rintro e w' ⟨rfl, rfl⟩
        go_wp2_with fail
        go_ret
        exact MActPost.of HF1.out (GFr.refl _ _) HM.out HAB.out HTG.out ((Fr.refl _ _).setCell (p := ⟨ab, 4, none⟩) (.inl (by simp)) _) (by have := HB1.out.put 4 (.bool false); simpa [ansC] using this)
    · have q2 : hkAtE (σ.st t) b = 10 := by unfold hkAtE; rw [if_neg hj]
      rw [q2] at H2 ⊢
      rw [show decide (hkIn (σ.st t) a ∧ hkIn (σ.st t) b ∧ hkAt (σ.st t) a = hkAt (σ.st t) b) = false by simp [hj]]
      generalize hkAt (σ.st t) a = x at *
      generalize hkAt (σ.st t) b = y at *
      clear hp1 hi hj q1 q2 ok hd ht
      go_enter Try.func46, Try.ntmps46
      go_upto_region 1 with fail
      rw [← HW1.out]
      go_wp2_with fail
      refine H1.out.mono ?_
      rintro e w' ⟨rfl, rfl⟩
      go_wp2_with fail
      refine H2.out.mono ?_
      rintro e w' ⟨rfl, rfl⟩
      go_wp2_with fail
      go_ret
      exact MActPost.of0 HF1.out (GFr.refl _ _) HM.out HAB.out HTG.out (Fr.refl _ _)
  · have q1 : hkAtE (σ.st t) a = 10 := by unfold hkAtE; rw [if_neg hi]
    rw [q1] at H1
    rw [if_neg hi]
    rw [show decide (hkIn (σ.st t) a ∧ hkIn (σ.st t) b ∧ hkAt (σ.st t) a = hkAt (σ.st t) b) = false by simp [hi]]
    generalize hkAt (σ.st t) a = x at *
    generalize hkAt (σ.st t) b = y at *
    generalize hkAtE (σ.st t) b = E2 at *
    clear hp1 hi q1 ok hd ht
    go_enter Try.func46, Try.ntmps46
    go_upto_region 1 with fail
    rw [← HW1.out]
    go_wp2_with fail
    refine H1.out.mono ?_
    rintro e w' ⟨rfl, rfl⟩
    go_wp2_with fail
    refine H2.out.mono ?_
    rintro e w' ⟨rfl, rfl⟩
    go_wp2_with fail
    go_ret
    exact MActPost.of0 HF1.out (GFr.refl _ _) HM.out HAB.out HTG.out (Fr.refl _ _)
set_option maxRecDepth 100000 in
set_option maxHeartbeats 3200000 in
theorem masks_10 (h : MG w tg Λ T T B M σ) (ok : GOk T B σ) (hd : GDim T B M) (ht : t < T) (a b c v : Int) {ab : Nat} {th dn : Int} (hab : Blk w ab 34 (ansC th dn ⟨0, 0, false⟩)) (htg : (tg ab).1 = 0) :
    Calls Try.prog 46 #[.pointer (some ⟨Λ.m, 0, none⟩), .pointer (some ⟨Λ.S t, 0, none⟩), opV ⟨10, a, b, c, v⟩, .pointer (some ⟨ab, 0, none⟩)] w (MActPost w tg Λ.m T B M σ ab th dn ⟨hkAtE (σ.st t) a, 0, isNilV σ t a⟩) := by
  have hf1 : Fr [] w (w.alloc (.cells #[.int .i64 10, .int .i64 a, .int .i64 b, .int .i64 c, .int .u64 v] 38)) := (Fr.refl _ _).alloc _
  obtain ⟨w1, hw1⟩ : ∃ w1, w1 = w.alloc (.cells #[.int .i64 10, .int .i64 a, .int .i64 b, .int .i64 c, .int .u64 v] 38) := ⟨_, rfl⟩
  have hbo : Blk w1 w.heap.size 38 #[.int .i64 10, .int .i64 a, .int .i64 b, .int .i64 c, .int .u64 v] := by rw [hw1]; exact Blk.new _ _ _
  rw [← hw1] at hf1
  have hp1 := h.fr0 hf1
  have HW1 := hide hw1
  have HF1 := hide hf1
  have HAB := hide hab
  have HTG := hide htg
  have HM := hide hp1.at
  have e0 : w1.cell? ⟨w.heap.size, 0, none⟩ = some (.int .i64 10) := by rw [hbo.cell]; rfl
  have e1 : w1.cell? ⟨w.heap.size, 1, none⟩ = some (.int .i64 a) := by rw [hbo.cell]; rfl
  have e2 : w1.cell? ⟨w.heap.size, 2, none⟩ = some (.int .i64 b) := by rw [hbo.cell]; rfl
  have e3 : w1.cell? ⟨w.heap.size, 3, none⟩ = some (.int .i64 c) := by rw [hbo.cell]; rfl
  have e4 : w1.cell? ⟨w.heap.size, 4, none⟩ = some (.int .u64 v) := by rw [hbo.cell]; rfl
  have NO : w.heap.size < w1.heap.size := lt_of_cell e0
  unfold opV
  clear hw1 hf1 hab htg h hbo
  have hb1 := HAB.out.fr HF1.out (by simp)
  have d4 : w1.cell? ⟨ab, 4, none⟩ = some (.bool false) := by rw [hb1.cell]; rfl
  have dz := hb1.frozen 4
  have NA : ab < w1.heap.size := hb1.lt
  have HB1 := hide hb1
  clear hb1
  have H1 := hide (mat_any hp1 ht a)
  unfold isNilV
  by_cases hi : hkIn (σ.st t) a
  · have q1 : hkAtE (σ.st t) a = 0 := by unfold hkAtE; rw [if_pos hi]
    rw [q1] at H1 ⊢
    rw [show decide (hkIn (σ.st t) a ∧ hkAt (σ.st t) a = 0) = decide (hkAt (σ.st t) a = 0) by simp [hi]]
    generalize hkAt (σ.st t) a = x at *
    clear hp1 hi q1 ok hd ht
    by_cases he : x = 0
    · subst he
      rw [show decide ((0 : Int) = 0) = true by simp]
      go_enter Try.func46, Try.ntmps46
      go_upto_region 1 with fail
      rw [← HW1.out]
      go_wp2_with fail
      refine H1.out.mono ?_
      rintro e w' ⟨rfl, rfl⟩
      go_wp2_with fail
      go_ret
      exact MActPost.of HF1.out (GFr.refl _ _) HM.out HAB.out HTG.out ((Fr.refl _ _).setCell (p := ⟨ab, 4, none⟩) (.inl (by simp)) _) (by have := HB1.out.put 4 (.bool true); simpa [ansC] using this)
    · rw [show decide (x = 0) = false by simp [he]]
      have hx : (x == 0) = false := by simpa using he
      go_enter Try.func46, Try.ntmps46
      go_upto_region 1 with fail
      rw [← HW1.out]
      go_wp2_with fail
      refine H1.out.mono ?_
      rintro e w' ⟨rfl, rfl⟩
      go_wp2_with fail
      go_ret
      exact MActPost.of HF1.out (GFr.refl _ _) HM.out HAB.out HTG.out ((Fr.refl _ _).setCell (p := ⟨ab, 4, none⟩) (.inl (by simp)) _) (by have := HB1.out.put 4 (.bool false); simpa [ansC] using this)
  · have q1 : hkAtE (σ.st t) a = 10 := by unfold hkAtE; rw [if_neg hi]
    rw [q1] at H1 ⊢
    rw [show decide (hkIn (σ.st t) a ∧ hkAt (σ.st t) a = 0) = false by simp [hi]]
    generalize hkAt (σ.st t) a = x at *
    clear hp1 hi q1 ok hd ht
    go_enter Try.func46, Try.ntmps46
    go_upto_region 1 with fail
    rw [← HW1.out]
    go_wp2_with fail
    refine H1.out.mono ?_
    rintro e w' ⟨rfl, rfl⟩
    go_wp2_with fail
    go_ret
    exact MActPost.of0 HF1.out (GFr.refl _ _) HM.out HAB.out HTG.out (Fr.refl _ _)
set_option maxRecDepth 100000 in
set_option maxHeartbeats 3200000 in
theorem masks_11 (h : MG w tg Λ T T B M σ) (ok : GOk T B σ) (hd : GDim T B M) (ht : t < T) (a b c v : Int) {ab : Nat} {th dn : Int} (hab : Blk w ab 34 (ansC th dn ⟨0, 0, false⟩)) (htg : (tg ab).1 = 0) :
    Calls Try.prog 46 #[.pointer (some ⟨Λ.m, 0, none⟩), .pointer (some ⟨Λ.S t, 0, none⟩), opV ⟨11, a, b, c, v⟩, .pointer (some ⟨ab, 0, none⟩)] w (MActPost w tg Λ.m T B M σ ab th dn ⟨0, 0, false⟩) := by
  have hf1 : Fr [] w (w.alloc (.cells #[.int .i64 11, .int .i64 a, .int .i64 b, .int .i64 c, .int .u64 v] 38)) := (Fr.refl _ _).alloc _
  obtain ⟨w1, hw1⟩ : ∃ w1, w1 = w.alloc (.cells #[.int .i64 11, .int .i64 a, .int .i64 b, .int .i64 c, .int .u64 v] 38) := ⟨_, rfl⟩
  have hbo : Blk w1 w.heap.size 38 #[.int .i64 11, .int .i64 a, .int .i64 b, .int .i64 c, .int .u64 v] := by rw [hw1]; exact Blk.new _ _ _
  rw [← hw1] at hf1
  have hp1 := h.fr0 hf1
  have HW1 := hide hw1
  have HF1 := hide hf1
  have HAB := hide hab
  have HTG := hide htg
  have HM := hide hp1.at
  have e0 : w1.cell? ⟨w.heap.size, 0, none⟩ = some (.int .i64 11) := by rw [hbo.cell]; rfl
  have e1 : w1.cell? ⟨w.heap.size, 1, none⟩ = some (.int .i64 a) := by rw [hbo.cell]; rfl
  have e2 : w1.cell? ⟨w.heap.size, 2, none⟩ = some (.int .i64 b) := by rw [hbo.cell]; rfl
  have e3 : w1.cell? ⟨w.heap.size, 3, none⟩ = some (.int .i64 c) := by rw [hbo.cell]; rfl
  have e4 : w1.cell? ⟨w.heap.size, 4, none⟩ = some (.int .u64 v) := by rw [hbo.cell]; rfl
  have NO : w.heap.size < w1.heap.size := lt_of_cell e0
  unfold opV
  clear hw1 hf1 hab htg h hbo
  clear hp1 ok hd ht
  go_enter Try.func46, Try.ntmps46
  go_upto_region 1 with fail
  rw [← HW1.out]
  go_wp2_with fail
  go_ret
  exact MActPost.of0 HF1.out (GFr.refl _ _) HM.out HAB.out HTG.out (Fr.refl _ _)
set_option maxRecDepth 100000 in
set_option maxHeartbeats 3200000 in
theorem masks_12 (h : MG w tg Λ T T B M σ) (ok : GOk T B σ) (hd : GDim T B M) (ht : t < T) (a b c v : Int) {ab : Nat} {th dn : Int} (hab : Blk w ab 34 (ansC th dn ⟨0, 0, false⟩)) (htg : (tg ab).1 = 0) :
    Calls Try.prog 46 #[.pointer (some ⟨Λ.m, 0, none⟩), .pointer (some ⟨Λ.S t, 0, none⟩), opV ⟨12, a, b, c, v⟩, .pointer (some ⟨ab, 0, none⟩)] w (MActPost w tg Λ.m T B M σ ab th dn ⟨collectE a, 0, false⟩) := by
  have hf1 : Fr [] w (w.alloc (.cells #[.int .i64 12, .int .i64 a, .int .i64 b, .int .i64 c, .int .u64 v] 38)) := (Fr.refl _ _).alloc _
  obtain ⟨w1, hw1⟩ : ∃ w1, w1 = w.alloc (.cells #[.int .i64 12, .int .i64 a, .int .i64 b, .int .i64 c, .int .u64 v] 38) := ⟨_, rfl⟩
  have hbo : Blk w1 w.heap.size 38 #[.int .i64 12, .int .i64 a, .int .i64 b, .int .i64 c, .int .u64 v] := by rw [hw1]; exact Blk.new _ _ _
  rw [← hw1] at hf1
  have hp1 := h.fr0 hf1
  have HW1 := hide hw1
  have HF1 := hide hf1
  have HAB := hide hab
  have HTG := hide htg
  have HM := hide hp1.at
  have e0 : w1.cell? ⟨w.heap.size, 0, none⟩ = some (.int .i64 12) := by rw [hbo.cell]; rfl
  have e1 : w1.cell? ⟨w.heap.size, 1, none⟩ = some (.int .i64 a) := by rw [hbo.cell]; rfl
  have e2 : w1.cell? ⟨w.heap.size, 2, none⟩ = some (.int .i64 b) := by rw [hbo.cell]; rfl
  have e3 : w1.cell? ⟨w.heap.size, 3, none⟩ = some (.int .i64 c) := by rw [hbo.cell]; rfl
  have e4 : w1.cell? ⟨w.heap.size, 4, none⟩ = some (.int .u64 v) := by rw [hbo.cell]; rfl
  have NO : w.heap.size < w1.heap.size := lt_of_cell e0
  unfold opV
  clear hw1 hf1 hab htg h hbo
  clear hp1 ok hd ht
  unfold collectE
  rcases (show a < 0 ∨ (¬ a < 0 ∧ a > 3) ∨ (¬ a < 0 ∧ ¬ a > 3) by omega) with h1 | ⟨h1, h2⟩ | ⟨h1, h2⟩
  · rw [if_neg (by omega)]
    go_enter Try.func46, Try.ntmps46
    go_upto_region 1 with fail
    rw [← HW1.out]
    go_wp2_with fail
    go_ret
    exact MActPost.of0 HF1.out (GFr.refl _ _) HM.out HAB.out HTG.out (Fr.refl _ _)
  · rw [if_neg (by omega)]
    go_enter Try.func46, Try.ntmps46
    go_upto_region 1 with fail
    rw [← HW1.out]
    go_wp2_with fail
    go_ret
    exact MActPost.of0 HF1.out (GFr.refl _ _) HM.out HAB.out HTG.out (Fr.refl _ _)
  · rw [if_pos (by omega)]
    go_enter Try.func46, Try.ntmps46
    go_upto_region 1 with fail
    rw [← HW1.out]
    go_wp2_with fail
    go_ret
    exact MActPost.of0 HF1.out (GFr.refl _ _) HM.out HAB.out HTG.out (Fr.refl _ _)
set_option maxRecDepth 100000 in
set_option maxHeartbeats 3200000 in
theorem masks_else (h : MG w tg Λ T T B M σ) (ok : GOk T B σ) (hd : GDim T B M) (ht : t < T) (k a b c v : Int) (hk : k < 1 ∨ 13 < k) {ab : Nat} {th dn : Int} (hab : Blk w ab 34 (ansC th dn ⟨0, 0, false⟩)) (htg : (tg ab).1 = 0) :
    Calls Try.prog 46 #[.pointer (some ⟨Λ.m, 0, none⟩), .pointer (some ⟨Λ.S t, 0, none⟩), opV ⟨k, a, b, c, v⟩, .pointer (some ⟨ab, 0, none⟩)] w (MActPost w tg Λ.m T B M σ ab th dn ⟨17, 0, false⟩) := by
  have hf1 : Fr [] w (w.alloc (.cells #[.int .i64 k, .int .i64 a, .int .i64 b, .int .i64 c, .int .u64 v] 38)) := (Fr.refl _ _).alloc _
  obtain ⟨w1, hw1⟩ : ∃ w1, w1 = w.alloc (.cells #[.int .i64 k, .int .i64 a, .int .i64 b, .int .i64 c, .int .u64 v] 38) := ⟨_, rfl⟩
  have hbo : Blk w1 w.heap.size 38 #[.int .i64 k, .int .i64 a, .int .i64 b, .int .i64 c, .int .u64 v] := by rw [hw1]; exact Blk.new _ _ _
  rw [← hw1] at hf1
  have hp1 := h.fr0 hf1
  have HW1 := hide hw1
  have HF1 := hide hf1
  have HAB := hide hab
  have HTG := hide htg
  have HM := hide hp1.at
  have e0 : w1.cell? ⟨w.heap.size, 0, none⟩ = some (.int .i64 k) := by rw [hbo.cell]; rfl
  have e1 : w1.cell? ⟨w.heap.size, 1, none⟩ = some (.int .i64 a) := by rw [hbo.cell]; rfl
  have e2 : w1.cell? ⟨w.heap.size, 2, none⟩ = some (.int .i64 b) := by rw [hbo.cell]; rfl
  have e3 : w1.cell? ⟨w.heap.size, 3, none⟩ = some (.int .i64 c) := by rw [hbo.cell]; rfl
  have e4 : w1.cell? ⟨w.heap.size, 4, none⟩ = some (.int .u64 v) := by rw [hbo.cell]; rfl
  have NO : w.heap.size < w1.heap.size := lt_of_cell e0
  unfold opV
  clear hw1 hf1 hab htg h hbo
  clear hp1 ok hd ht
  have z9 : (k == 9) = false := by simp; omega
  have z10 : (k == 10) = false := by simp; omega
  have z11 : (k == 11) = false := by simp; omega
  have z12 : (k == 12) = false := by simp; omega
  clear hk
  go_enter Try.func46, Try.ntmps46
  go_upto_region 1 with fail
  rw [← HW1.out]
  go_wp2_with fail
  go_ret
  exact MActPost.of0 HF1.out (GFr.refl _ _) HM.out HAB.out HTG.out (Fr.refl _ _)
theorem MActPost.inside {w1 : World} {m ab : Nat} {th dn : Int} {x : An} {e : Ending} (hf : Fr [] w w1) (h : MActPost w1 tg m T B M σ ab th dn x e w') : MActPost w tg m T B M σ ab th dn x e w' := by
  obtain ⟨h1, tg', h2, h3, ⟨F, h4, h5⟩, h6⟩ := h
  exact ⟨h1, tg', h2, h3, ⟨F, (hf.mono (fun x hx => by cases hx)).trans h4 (fun x hx => .inl hx), h5⟩, fun b hb => h6 b (Nat.lt_of_lt_of_le hb hf.size)⟩
set_option maxRecDepth 100000 in
set_option maxHeartbeats 3200000 in
theorem mstep_asks (h : MG w tg Λ T T B M σ) (ok : GOk T B σ) (hd : GDim T B M) (ht : t < T) (k a b c v : Int) (hk : k < 1 ∨ 8 < k) (hk2 : k ≠ 13) {x : An} {ab : Nat} {th dn : Int} (hab : Blk w ab 34 (ansC th dn ⟨0, 0, false⟩)) (htg : (tg ab).1 = 0)
    (HC : ∀ w1, Fr [] w w1 → Calls Try.prog 46 #[.pointer (some ⟨Λ.m, 0, none⟩), .pointer (some ⟨Λ.S t, 0, none⟩), opV ⟨k, a, b, c, v⟩, .pointer (some ⟨ab, 0, none⟩)] w1 (MActPost w1 tg Λ.m T B M σ ab th dn x)) :
    Calls Try.prog 22 #[.pointer (some ⟨Λ.m, 0, none⟩), .pointer (some ⟨Λ.S t, 0, none⟩), opV ⟨k, a, b, c, v⟩, .pointer (some ⟨ab, 0, none⟩)] w (MActPost w tg Λ.m T B M σ ab th dn ⟨x.code, x.word, x.bit⟩) := by
  have hf1 : Fr [] w (w.alloc (.cells #[.int .i64 k, .int .i64 a, .int .i64 b, .int .i64 c, .int .u64 v] 38)) := (Fr.refl _ _).alloc _
  obtain ⟨w1, hw1⟩ : ∃ w1, w1 = w.alloc (.cells #[.int .i64 k, .int .i64 a, .int .i64 b, .int .i64 c, .int .u64 v] 38) := ⟨_, rfl⟩
  have hbo : Blk w1 w.heap.size 38 #[.int .i64 k, .int .i64 a, .int .i64 b, .int .i64 c, .int .u64 v] := by rw [hw1]; exact Blk.new _ _ _
  rw [← hw1] at hf1
  have hp1 := h.fr0 hf1
  have HW1 := hide hw1
  have HF1 := hide hf1
  have HAB := hide hab
  have HTG := hide htg
  have HM := hide hp1.at
  have e0 : w1.cell? ⟨w.heap.size, 0, none⟩ = some (.int .i64 k) := by rw [hbo.cell]; rfl
  have e1 : w1.cell? ⟨w.heap.size, 1, none⟩ = some (.int .i64 a) := by rw [hbo.cell]; rfl
  have e2 : w1.cell? ⟨w.heap.size, 2, none⟩ = some (.int .i64 b) := by rw [hbo.cell]; rfl
  have e3 : w1.cell? ⟨w.heap.size, 3, none⟩ = some (.int .i64 c) := by rw [hbo.cell]; rfl
  have e4 : w1.cell? ⟨w.heap.size, 4, none⟩ = some (.int .u64 v) := by rw [hbo.cell]; rfl
  have NO : w.heap.size < w1.heap.size := lt_of_cell e0
  unfold opV
  clear hw1 hf1 hab htg h hbo
  have HQ := hide (HC w1 HF1.out)
  unfold opV at HQ
  clear hp1 ok hd ht HC
  have z1 : (k == 1) = false := by simp; omega
  have z2 : (k == 2) = false := by simp; omega
  have z3 : (k == 3) = false := by simp; omega
  have z4 : (k == 4) = false := by simp; omega
  have z5 : (k == 5) = false := by simp; omega
  have z6 : (k == 6) = false := by simp; omega
  have z7 : (k == 7) = false := by simp; omega
  have z8 : (k == 8) = false := by simp; omega
  have z13 : (k == 13) = false := by simpa using hk2
  clear hk hk2
  go_enter Try.func22, Try.ntmps22
  go_upto_region 1 with fail
  rw [← HW1.out]
  go_wp2_with fail
  refine HQ.out.mono ?_
  rintro e w2 ⟨rfl, hrest⟩
  have HE : Hid (MActPost w1 tg Λ.m T B M σ ab th dn x (.returned (.int .i64 x.code)) w2) := ⟨rfl, hrest⟩
  clear hrest
  go_wp2_with fail
  go_ret
  exact MActPost.inside HF1.out HE.out
/-- step, of any operation. -/
theorem mstep_any (h : MG w tg Λ T T B M σ) (ok : GOk T B σ) (hd : GDim T B M) (hN : σ.N + 1 ≤ 4096) (ht : t < T) (o : Po) (ho : PoOk o) {ab : Nat} {th dn : Int} (hab : Blk w ab 34 (ansC th dn ⟨0, 0, false⟩)) (htg : (tg ab).1 = 0) :
    Calls Try.prog 22 #[.pointer (some ⟨Λ.m, 0, none⟩), .pointer (some ⟨Λ.S t, 0, none⟩), opV o, .pointer (some ⟨ab, 0, none⟩)] w (MActPost w tg Λ.m T B M (actS B M T σ t o) ab th dn (actA B M T σ t o)) := by
  obtain ⟨k, a, b, c, v⟩ := o
  obtain ⟨ha, hb⟩ := ho
  have ha : -9223372036854775808 ≤ a ∧ a ≤ 9223372036854775807 := ha
  have hb : -9223372036854775808 ≤ b ∧ b ≤ 9223372036854775807 := hb
  rcases (show (k < 1 ∨ 13 < k) ∨ k = 1 ∨ k = 2 ∨ k = 3 ∨ k = 4 ∨ k = 5 ∨ k = 6 ∨ k = 7 ∨ k = 8 ∨ k = 9 ∨ k = 10 ∨ k = 11 ∨ k = 12 ∨ k = 13 by omega) with hk | rfl | rfl | rfl | rfl | rfl | rfl | rfl | rfl | rfl | rfl | rfl | rfl | rfl
  · have e1 : actA B M T σ t ⟨k, a, b, c, v⟩ = ⟨17, 0, false⟩ := by
      unfold actA
      dsimp only
      iterate 13 rw [if_neg (by omega)]
    have e2 : actS B M T σ t ⟨k, a, b, c, v⟩ = σ := by
      unfold actS
      dsimp only
      iterate 8 rw [if_neg (by omega)]
    rw [e1, e2]
    exact mstep_asks (x := ⟨17, 0, false⟩) h ok hd ht k a b c v (by omega) (by omega) hab htg (fun w1 hf => masks_else (h.fr0 hf) ok hd ht k a b c v hk (hab.fr hf (by simp)) htg)
  · exact mstep_1 h ok hd hN ht a b c v ha hb hab htg
  · exact mstep_2 h ok hd ht a b c v hab htg
  · exact mstep_3 h ok hd ht a b c v hab htg
  · exact mstep_4 h ok hd ht a b c v hab htg
  · exact mstep_5 h ok hd ht a b c v hab htg
  · exact mstep_6 h ok hd ht a b c v hab htg
  · exact mstep_7 h ok hd ht a b c v hab htg
  · exact mstep_8 h ok hd ht a b c v hab htg
  · exact mstep_asks (x := ⟨equalE σ t a b, 0, equalV σ t a b⟩) h ok hd ht 9 a b c v (by omega) (by omega) hab htg (fun w1 hf => masks_9 (h.fr0 hf) ok hd ht a b c v (hab.fr hf (by simp)) htg)
  · exact mstep_asks (x := ⟨hkAtE (σ.st t) a, 0, isNilV σ t a⟩) h ok hd ht 10 a b c v (by omega) (by omega) hab htg (fun w1 hf => masks_10 (h.fr0 hf) ok hd ht a b c v (hab.fr hf (by simp)) htg)
  · exact mstep_asks (x := ⟨0, 0, false⟩) h ok hd ht 11 a b c v (by omega) (by omega) hab htg (fun w1 hf => masks_11 (h.fr0 hf) ok hd ht a b c v (hab.fr hf (by simp)) htg)
  · exact mstep_asks (x := ⟨collectE a, 0, false⟩) h ok hd ht 12 a b c v (by omega) (by omega) hab htg (fun w1 hf => masks_12 (h.fr0 hf) ok hd ht a b c v (hab.fr hf (by simp)) htg)
  · exact mstep_13 h ok hd ht a b c v hab htg
end
end Go.Proofs.Ytmodjkglcgoohaa
