/- Two sets that lie apart; a call on one home leaves the others' cards. -/
import Derived.Test.YtkbffmmomoeaiaaDoorL11a
namespace Go.Proofs.YtkbffmmomoeaiaaDoor
set_option linter.unusedVariables false
set_option linter.unusedSimpArgs false
open Go.RowKit Go.Gl

def Two (W w : World) (s t per n : Nat) (σ τ : RS) : Prop :=
  Fr [] W w ∧ ∃ tgS tgT, SAt w tgS s per n σ ∧ SAt w tgT t per n τ ∧ Old W.heap.size tgS ∧ Old W.heap.size tgT ∧ ∀ b, (tgS b).1 = 0 ∨ (tgT b).1 = 0
section
variable {W w w' : World} {s t per n : Nat} {σ τ σ' : RS} {v : Value}
theorem Two.fr0 (h : Two W w s t per n σ τ) (hf : Fr [] w w') : Two W w' s t per n σ τ := by
  obtain ⟨h0, tgS, tgT, h1, h2, h3, h4, h5⟩ := h
  exact ⟨h0.trans_same hf, tgS, tgT, h1.fr0 hf, h2.fr0 hf, h3, h4, h5⟩
theorem Two.swap (h : Two W w s t per n σ τ) : Two W w t s per n τ σ := by
  obtain ⟨h0, tgS, tgT, h1, h2, h3, h4, h5⟩ := h
  exact ⟨h0, tgT, tgS, h2, h1, h4, h3, fun b => (h5 b).symm⟩
theorem Two.left {P : Program} {f : FuncId} {args : Array Value} (h : Two W w s t per n σ τ) (hc : ∀ tg, SAt w tg s per n σ → Calls P f args w (Upd w tg s per n v σ')) : Calls P f args w fun e w' => e = .returned v ∧ Two W w' s t per n σ' τ := by
  obtain ⟨h0, tgS, tgT, h1, h2, h3, h4, h5⟩ := h
  refine (hc tgS h1).mono ?_
  rintro e w' ⟨tg', F, rfl, k1, k2, k3, k4⟩
  refine ⟨rfl, h0.trans k2 (fun x hx => .inr (h3.out k3 x hx)), tg', tgT, k1, h2.fr k2 (fun b hb => (h5 b).resolve_left (k3 b hb)), h3.up h0.size k4, h4, fun b => ?_⟩
  by_cases hb : b < w.heap.size
  · rw [k4 b hb]; exact h5 b
  · right
    rcases Nat.eq_zero_or_pos (tgT b).1 with h6 | h6
    · exact h6
    · exact absurd (h2.tok b (by omega)) hb
theorem Two.right {P : Program} {f : FuncId} {args : Array Value} (h : Two W w s t per n τ σ) (hc : ∀ tg, SAt w tg t per n σ → Calls P f args w (Upd w tg t per n v σ')) : Calls P f args w fun e w' => e = .returned v ∧ Two W w' s t per n τ σ' :=
  (h.swap.left hc).mono fun e w' h => ⟨h.1, h.2.swap⟩
theorem Two.cardsL (h : Two W w s t per n σ τ) (hT : Tab W) {a : Nat} (ha : a < n) : Calls Tryd.prog 11 #[.pointer (some ⟨s, 0, none⟩), .int .i64 (a : Int)] w (ListPost w [] (allOf σ per n a)) := by
  obtain ⟨h0, tgS, tgT, h1, _⟩ := h
  exact h1.cards (hT.fr h0 (by simp)) ha
theorem Two.made (h0 : Fr [] W w) {tgS tgT : Tg} (h1 : SAt w tgS s per n σ) (h3 : Old W.heap.size tgS) (hf : Fr [] w w') (h2 : SAt w' tgT t per n τ) (h4 : Old w.heap.size tgT) : Two W w' s t per n σ τ :=
  ⟨h0.trans_same hf, tgS, tgT, h1.fr0 hf, h2, h3, fun b hb => h4 b (by have := h0.size; omega), fun b => by
    rcases Nat.eq_zero_or_pos (tgS b).1 with h6 | h6
    · exact .inl h6
    · exact .inr (h4 b (h1.tok b (by omega)))⟩
end
theorem addS_else {σ : RS} {per n h c a : Nat} (ha : a ≠ h) : (∀ b, (addS σ per n h c).way a b = σ.way a b) ∧ ∀ x, (addS σ per n h c).has a x = σ.has a x := by
  have put : ∀ (τ : RS) (s k : Nat) (g : Nat → Bool), (∀ b, (τ.put per h s k g).way a b = τ.way a b) ∧ ∀ x, (τ.put per h s k g).has a x = τ.has a x := fun τ s k g =>
    ⟨fun b => RS.way_ne _ _ _ _ (fun e => ha e.1), fun x => RS.has_ne _ _ _ _ (fun e => ha e.1)⟩
  unfold addS
  split
  · exact put _ _ _ _
  · split
    · exact put _ _ _ _
    · unfold coarsen
      split
      · exact ⟨fun b => ((put _ _ _ _).1 b).trans ((put _ _ _ _).1 b), fun x => ((put _ _ _ _).2 x).trans ((put _ _ _ _).2 x)⟩
      · exact put _ _ _ _
theorem addR_else {σ : RS} {per n h a : Nat} {c : Int} (ha : a ≠ h) : (∀ b, (addR σ per n (h : Int) c).2.2.way a b = σ.way a b) ∧ ∀ x, (addR σ per n (h : Int) c).2.2.has a x = σ.has a x := by
  unfold addR
  split
  · exact ⟨fun _ => rfl, fun _ => rfl⟩
  · split
    · exact ⟨fun _ => rfl, fun _ => rfl⟩
    · split
      · exact ⟨fun _ => rfl, fun _ => rfl⟩
      · simp only [Int.toNat_natCast]
        exact addS_else ha
theorem allOf_congr {σ τ : RS} {per n h : Nat} (hw : ∀ b, σ.way h b = τ.way h b) (hh : ∀ c, σ.has h c = τ.has h c) : allOf σ per n h = allOf τ per n h :=
  part_congr fun i _ => by unfold hasN; rw [hw, hh]
theorem allOf_none {σ : RS} {per n h : Nat} (ok : SOk per n σ) (hw : ∀ b, σ.way h b = 0) : allOf σ per n h = [] := by
  unfold allOf
  rw [part_to (k := 0) (Nat.zero_le _) fun j _ _ => hasN_none ok (hw _)]
  exact part_zero _ _ _
end Go.Proofs.YtkbffmmomoeaiaaDoor
