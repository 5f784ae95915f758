/- The questions that each statement of layer 11 asks first. -/
import Derived.Test.YtkbffmmomoeaiaaDoorL11
namespace Go.Proofs.YtkbffmmomoeaiaaDoor
set_option linter.unusedVariables false
set_option linter.unusedSimpArgs false
open Go.RowKit Go.Gl

theorem Own.tab {W w : World} {sb per n : Nat} {σ : RS} (h : Own W w sb per n σ) (hT : Tab W) : Tab w := hT.fr h.1 (by simp)
theorem Own.way {W w : World} {sb per n : Nat} {σ : RS} (h : Own W w sb per n σ) (a b : Int) (wa : (Lit.int .i64 a).wf = true) (wb : (Lit.int .i64 b).wf = true) : Calls Tryd.prog 14 #[.pointer (some ⟨sb, 0, none⟩), .int .i64 a, .int .i64 b] w fun e w' => e = .returned (.int .i64 (wayI σ a b : Int)) ∧ w = w' := by
  obtain ⟨tg, h1, _⟩ := h.2
  exact h1.way a b wa wb
theorem Own.has {W w : World} {sb per n : Nat} {σ : RS} (h : Own W w sb per n σ) (a c : Int) (wa : (Lit.int .i64 a).wf = true) : Calls Tryd.prog 20 #[.pointer (some ⟨sb, 0, none⟩), .int .i64 a, .int .i64 c] w fun e w' => e = .returned (.bool (hasI σ per n a c)) ∧ Fr [] w w' := by
  obtain ⟨tg, h1, _⟩ := h.2
  exact h1.has a c wa
theorem Own.cards {W w : World} {sb per n : Nat} {σ : RS} (h : Own W w sb per n σ) (hT : Tab W) {a : Nat} (ha : a < n) : Calls Tryd.prog 11 #[.pointer (some ⟨sb, 0, none⟩), .int .i64 (a : Int)] w (ListPost w [] (allOf σ per n a)) := by
  obtain ⟨tg, h1, _⟩ := h.2
  exact h1.cards (hT.fr h.1 (by simp)) ha
theorem Own.add {W w : World} {sb per n : Nat} {σ σ' : RS} {b : Bool} {r : Int} (h : Own W w sb per n σ) (a c : Int) (hr : addR σ per n a c = (b, r, σ')) : Calls Tryd.prog 19 #[.pointer (some ⟨sb, 0, none⟩), .int .i64 a, .int .i64 c] w fun e w' => e = .returned (.tuple #[.bool b, .int .i64 r]) ∧ Own W w' sb per n σ' :=
  h.upd fun tg ht => by
    have := ht.add a c
    rw [hr] at this
    exact this
set_option maxRecDepth 100000 in
set_option maxHeartbeats 3200000 in
theorem awake11_any (W : World) (hT : Tab W) : Calls Tryd.prog 7 #[] W fun e w' => e = .returned (.bool true) ∧ Fr [] W w' := by
  have HT := hide hT
  have HN : Hid (∀ w' : World, Calls Tryd.prog 8 #[.agg #[.int .i64 512, .int .i64 64, .int .i64 8, .int .i64 8, .int .i64 64, .int .i64 448]] w' fun e w'' => ∃ sb tg, e = .returned (.tuple #[.pointer (some ⟨sb, 0, none⟩), .int .i64 0]) ∧ SAt w'' tg sb 8 8 freshS ∧ Fr [] w' w'' ∧ Old w'.heap.size tg) := new_small
  have HSm : Hid (∀ w' : World, Calls Tryd.prog 16 #[] w' fun e w'' => e = .returned (.agg #[.int .i64 512, .int .i64 64, .int .i64 8, .int .i64 8, .int .i64 64, .int .i64 448]) ∧ Fr [] w' w'') := small_any
  clear hT
  go_enter Tryd.func7, Tryd.ntmps7
  go_wp2_with (first | (go_at_call 16; refine (HSm.out _).mono ?_; rintro e w1 ⟨rfl, hf1⟩; have HF1 := hide hf1; clear hf1) | (go_at_call 8; refine (HN.out _).mono ?_; rintro e w2 ⟨sb, tg, rfl, hs, hf, ho⟩; have HO : Hid (Own W w2 sb 8 8 (tau 8)) := ⟨HF1.out.trans_same hf, tg, tau_fresh ▸ hs, fun b hb => ho b (by have := HF1.out.size; omega)⟩; clear hs hf ho))
  go_loopw [3] (fun i wr => ∃ k : Nat, i = .int .i64 k ∧ 8 ≤ k ∧ k ≤ 13 ∧ Own W wr sb 8 8 (tau k)) (fun i _ => 13 - (intOf i).toNat)
  case atStart => exact ⟨8, rfl, by decide, by decide, HO.out⟩
  case round =>
    obtain ⟨k, rfl, hk8, hk, ho⟩ := hrel
    by_cases hlt : k < 13
    · have hlt1 : (k : Int) < 13 := by omega
      have T1 := hide (ho.add 0 (k : Int) (tau_add hk8 hlt))
      clear ho
      go_wp2_with fail
      refine T1.out.mono ?_
      rintro e w3 ⟨rfl, ho⟩
      have HO3 := hide ho
      clear ho T1
      go_wp2_with fail
      go_roundw
      case rel => exact ⟨k + 1, by go_num, by omega, by omega, HO3.out⟩
      case measure => simp [intOf]; omega
    · obtain rfl : k = 13 := by omega
      have T1 := hide (ho.add 0 3 tau_end)
      clear ho
      go_wp2_with fail
      refine T1.out.mono ?_
      rintro e w3 ⟨rfl, ho⟩
      have T2 := hide (ho.way 0 1 (by decide) (by decide))
      have T3 := hide (ho.cards HT.out (a := 0) (by decide))
      rw [tau_way] at T2
      rw [tau_cards] at T3
      have HO3 := hide ho
      clear ho T1
      go_wp2_with fail
      refine T2.out.mono ?_
      rintro e w4 ⟨rfl, rfl⟩
      go_wp2_with fail
      refine T3.out.mono ?_
      rintro e w5 ⟨A5, c5, G5, rfl, hl, hf, hg⟩
      have HO5 := hide (HO3.out.fr0 hf)
      have HS5 := hide (hl.alloc (.cells #[.int .i64 8, .int .i64 9, .int .i64 10, .int .i64 11, .int .i64 12] 3)).slz
      have HB5 := Blk.new w5 3 #[.int .i64 8, .int .i64 9, .int .i64 10, .int .i64 11, .int .i64 12]
      have HT5 : Hid (Sl (w5.alloc (.cells #[.int .i64 8, .int .i64 9, .int .i64 10, .int .i64 11, .int .i64 12] 3)) (some ⟨w5.heap.size, 0, none⟩) 5 (fun k => .int .i64 (([8, 9, 10, 11, 12] : List Int).getD k 0))) := fun _ => ⟨_, 0, rfl, HB5.lt, fun k hk => by
        rw [HB5.cell]
        obtain rfl | rfl | rfl | rfl | rfl : k = 0 ∨ k = 1 ∨ k = 2 ∨ k = 3 ∨ k = 4 := by omega
        all_goals rfl⟩
      clear hl hf hg T2 T3 HB5
      go_wp2_with fail
      have T5 : Hid (Calls Tryd.prog 12 #[.slice A5 5 c5, .slice (some ⟨w5.heap.size, 0, none⟩) 5 5] (w5.alloc (.cells #[.int .i64 8, .int .i64 9, .int .i64 10, .int .i64 11, .int .i64 12] 3)) fun e w' => e = .returned (.bool true) ∧ ∃ k, w' = (w5.alloc (.cells #[.int .i64 8, .int .i64 9, .int .i64 10, .int .i64 11, .int .i64 12] 3)).drewN k) := by
        have h := same_any (ca := c5) (cb := 5) (xs := [8, 9, 10, 11, 12]) (ys := [8, 9, 10, 11, 12]) HS5.out HT5.out (by decide) (by decide)
        rw [show decide (([8, 9, 10, 11, 12] : List Int) = [8, 9, 10, 11, 12]) = true by decide] at h
        exact h
      refine T5.out.mono ?_
      rintro e w6 ⟨rfl, k, rfl⟩
      have HO6 := hide (HO5.out.fr0 (((Fr.refl _ _).alloc (.cells #[.int .i64 8, .int .i64 9, .int .i64 10, .int .i64 11, .int .i64 12] 3)).drewN k))
      have T6 := hide (HO6.out.has 0 12 (by decide))
      rw [tau_has.1] at T6
      clear HS5 HT5
      go_wp2_with fail
      refine T6.out.mono ?_
      rintro e w7 ⟨rfl, hf⟩
      have HO7 := hide (HO6.out.fr0 hf)
      have T7 := hide (HO7.out.has 0 13 (by decide))
      rw [tau_has.2] at T7
      clear hf
      go_wp2_with fail
      refine T7.out.mono ?_
      rintro e w8 ⟨rfl, hf⟩
      have HF8 := hide (HO7.out.1.trans_same hf)
      clear hf
      go_wp2_with fail
      go_ret
      exact ⟨rfl, HF8.out⟩
end Go.Proofs.YtkbffmmomoeaiaaDoor
