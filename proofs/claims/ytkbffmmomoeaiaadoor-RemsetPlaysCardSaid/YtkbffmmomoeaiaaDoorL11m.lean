/- The document's sets beside the program's, apart from one another: one call on both. -/
import Derived.Test.YtkbffmmomoeaiaaDoorMb
import Derived.Test.YtkbffmmomoeaiaaDoorMc
import Derived.Test.YtkbffmmomoeaiaaDoorL11b
import Derived.Deep.RegionHeld3
namespace Go.Proofs.YtkbffmmomoeaiaaDoor
set_option linter.unusedVariables false
set_option linter.unusedSimpArgs false
open Go.RowKit Go.Gl

def clearR (σ : RS) (n : Nat) (a : Int) : Int × RS := if 0 ≤ a ∧ a < (n : Int) then (0, σ.clear a.toNat) else (2, σ)
def scrubR (σ : RS) (per n : Nat) (a : Int) : Int × RS := if 0 ≤ a ∧ a < (n : Int) then (0, σ.scrub per a.toNat) else (2, σ)
section
variable {w w' : World} {tg : Tg} {F : List Nat} {sb mb per n : Nat} {σ : RS}
theorem SAt.clearI (h : SAt w tg sb per n σ) (a : Int) : Calls Tryd.prog 17 #[.pointer (some ⟨sb, 0, none⟩), .int .i64 a] w (Upd w tg sb per n (.int .i64 (clearR σ n a).1) (clearR σ n a).2) := by
  unfold clearR
  by_cases ha : 0 ≤ a ∧ a < (n : Int)
  · rw [if_pos ha]
    obtain ⟨k, rfl⟩ := Int.eq_ofNat_of_zero_le ha.1
    exact h.clear (by omega)
  · rw [if_neg ha]; exact h.clear_bad ha
theorem SAt.scrubI (h : SAt w tg sb per n σ) (a : Int) : Calls Tryd.prog 18 #[.pointer (some ⟨sb, 0, none⟩), .int .i64 a] w (Upd w tg sb per n (.int .i64 (scrubR σ per n a).1) (scrubR σ per n a).2) := by
  unfold scrubR
  by_cases ha : 0 ≤ a ∧ a < (n : Int)
  · rw [if_pos ha]
    obtain ⟨k, rfl⟩ := Int.eq_ofNat_of_zero_le ha.1
    exact h.scrub (by omega)
  · rw [if_neg ha]; exact h.scrub_bad ha
theorem MAt.fr (h : MAt w tg mb per n σ) (hf : Fr F w w') (hF : ∀ b, b ∈ F → (tg b).1 = 0) : MAt w' tg mb per n σ := by
  obtain ⟨lb, L, V, cv, h1, h2⟩ := h
  exact ⟨lb, L, V, cv, h1.fr hf hF, h2⟩
theorem MAt.fr0 (h : MAt w tg mb per n σ) (hf : Fr [] w w') : MAt w' tg mb per n σ := h.fr hf (fun _ h => by cases h)
theorem MAt.tok (h : MAt w tg mb per n σ) : TgOk w tg := by
  obtain ⟨lb, L, V, cv, h1, h2⟩ := h
  exact h1.tok
theorem MAt.add (h : MAt w tg mb per n σ) (a c : Int) : Calls Tryd.prog 25 #[.pointer (some ⟨mb, 0, none⟩), .int .i64 a, .int .i64 c] w (MUpd w tg mb per n (.tuple #[.bool (addR σ per n a c).1, .int .i64 (addR σ per n a c).2.1]) (addR σ per n a c).2.2) := by
  obtain ⟨lb, L, V, cv, hm, ht⟩ := h
  by_cases hac : ¬ (0 ≤ a ∧ a < (n : Int)) ∨ ¬ (0 ≤ c ∧ c < ((n * per : Nat) : Int))
  · rw [addR_bad hac]; exact madd_bad hm ht hac
  · obtain ⟨ha, hc⟩ : (0 ≤ a ∧ a < (n : Int)) ∧ (0 ≤ c ∧ c < ((n * per : Nat) : Int)) := by
      refine ⟨Classical.byContradiction fun h1 => hac (.inl h1), Classical.byContradiction fun h1 => hac (.inr h1)⟩
    obtain ⟨x, rfl⟩ := Int.eq_ofNat_of_zero_le ha.1
    obtain ⟨y, rfl⟩ := Int.eq_ofNat_of_zero_le hc.1
    have hx : x < n := by omega
    have hy : y < n * per := by omega
    rw [addR_at hx hy]
    by_cases hs : y / per = x
    · rw [if_pos hs]; exact madd_shape hm ht hx hy hs
    · rw [if_neg hs]
      by_cases hh : hasN σ per x y = true
      · rw [if_pos hh]; exact madd_had hm ht hx hy hs hh
      · rw [if_neg hh]
        have hno : hasN σ per x y = false := by simpa using hh
        by_cases hf : fnd (L x) ((y / per : Nat) : Int) < (L x).length
        · exact madd_found hm ht hx hy hs hno hf
        · exact madd_fresh hm ht hx hy hs hno hf
theorem MAt.has (h : MAt w tg mb per n σ) (a c : Int) : Calls Tryd.prog 24 #[.pointer (some ⟨mb, 0, none⟩), .int .i64 a, .int .i64 c] w (QuietB w (hasI σ per n a c)) := by
  obtain ⟨lb, L, V, cv, hm, ht⟩ := h
  exact mhas_any hm ht a c
theorem MAt.way (h : MAt w tg mb per n σ) (a b : Int) : Calls Tryd.prog 15 #[.pointer (some ⟨mb, 0, none⟩), .int .i64 a, .int .i64 b] w fun e w' => e = .returned (.int .i64 (wayI σ a b : Int)) ∧ ∃ k, w' = w.drewN k := by
  obtain ⟨lb, L, V, cv, hm, ht⟩ := h
  exact mway_any hm ht a b
theorem MAt.cards (h : MAt w tg mb per n σ) {a : Nat} (ha : a < n) : Calls Tryd.prog 13 #[.pointer (some ⟨mb, 0, none⟩), .int .i64 (a : Int)] w (ListPost w [] (allOf σ per n a)) := by
  obtain ⟨lb, L, V, cv, hm, ht⟩ := h
  exact mcards_ok hm ht ha
theorem MAt.cards_no (h : MAt w tg mb per n σ) {a : Int} (ha : ¬ (0 ≤ a ∧ a < (n : Int))) : Calls Tryd.prog 13 #[.pointer (some ⟨mb, 0, none⟩), .int .i64 a] w fun e w' => e = .returned (.slice none 0 0) ∧ w = w' := by
  obtain ⟨lb, L, V, cv, hm, ht⟩ := h
  exact mcards_no hm ht ha
theorem MAt.clearI (h : MAt w tg mb per n σ) (a : Int) : Calls Tryd.prog 22 #[.pointer (some ⟨mb, 0, none⟩), .int .i64 a] w (MUpd w tg mb per n (.int .i64 (clearR σ n a).1) (clearR σ n a).2) := by
  obtain ⟨lb, L, V, cv, hm, ht⟩ := h
  unfold clearR
  by_cases ha : 0 ≤ a ∧ a < (n : Int)
  · rw [if_pos ha]
    obtain ⟨k, rfl⟩ := Int.eq_ofNat_of_zero_le ha.1
    exact mclear_any hm ht (by omega)
  · rw [if_neg ha]; exact mclear_bad hm ht ha
theorem MAt.scrubI (h : MAt w tg mb per n σ) (a : Int) : Calls Tryd.prog 23 #[.pointer (some ⟨mb, 0, none⟩), .int .i64 a] w (MUpd w tg mb per n (.int .i64 (scrubR σ per n a).1) (scrubR σ per n a).2) := by
  obtain ⟨lb, L, V, cv, hm, ht⟩ := h
  unfold scrubR
  by_cases ha : 0 ≤ a ∧ a < (n : Int)
  · rw [if_pos ha]
    obtain ⟨k, rfl⟩ := Int.eq_ofNat_of_zero_le ha.1
    exact mscrub_any hm ht (by omega)
  · rw [if_neg ha]; exact mscrub_bad hm ht ha
end
/-- The program's sets and the document's, apart from one another, from what came in and from the blocks P. -/
def Both (P : List Nat) (W w : World) (sb mb per n : Nat) (σ τ : RS) : Prop :=
  Fr [] W w ∧ ∃ tg tm, SAt w tg sb per n σ ∧ MAt w tm mb per n τ ∧ Old W.heap.size tg ∧ Old W.heap.size tm ∧ (∀ b, (tg b).1 = 0 ∨ (tm b).1 = 0) ∧ ∀ g, g ∈ P → g < w.heap.size ∧ (tg g).1 = 0 ∧ (tm g).1 = 0
def CallB (P : List Nat) (W : World) (sb mb per n : Nat) (v : Value) (σ τ : RS) (w : World) (e : Ending) (w' : World) : Prop :=
  e = .returned v ∧ Both P W w' sb mb per n σ τ ∧ ∃ F, Fr F w w' ∧ ∀ g, g ∈ P → g ∉ F
section
variable {P : List Nat} {W w w' : World} {sb mb per n : Nat} {σ τ σ' : RS} {v : Value}
theorem Both.fr0 (h : Both P W w sb mb per n σ τ) (hf : Fr [] w w') : Both P W w' sb mb per n σ τ := by
  obtain ⟨h0, tg, tm, h1, h2, h3, h4, h5, h6⟩ := h
  exact ⟨h0.trans_same hf, tg, tm, h1.fr0 hf, h2.fr0 hf, h3, h4, h5, fun g hg => ⟨Nat.lt_of_lt_of_le (h6 g hg).1 hf.size, (h6 g hg).2⟩⟩
theorem Both.box (h : Both P W w sb mb per n σ τ) (o : Obj) : Both (w.heap.size :: P) W (w.alloc o) sb mb per n σ τ := by
  have hf : Fr [] w (w.alloc o) := (Fr.refl _ _).alloc o
  obtain ⟨h0, tg, tm, h1, h2, h3, h4, h5, h6⟩ := h
  refine ⟨h0.trans_same hf, tg, tm, h1.fr0 hf, h2.fr0 hf, h3, h4, h5, fun g hg => ?_⟩
  rcases List.mem_cons.1 hg with rfl | hg
  · refine ⟨by simp, ?_, ?_⟩
    · rcases Nat.eq_zero_or_pos (tg w.heap.size).1 with h7 | h7
      · exact h7
      · have := h1.tok w.heap.size (by omega); omega
    · rcases Nat.eq_zero_or_pos (tm w.heap.size).1 with h7 | h7
      · exact h7
      · have := h2.tok w.heap.size (by omega); omega
  · exact ⟨Nat.lt_of_lt_of_le (h6 g hg).1 hf.size, (h6 g hg).2⟩
theorem Both.less {Q : List Nat} (h : Both P W w sb mb per n σ τ) (hq : ∀ g, g ∈ Q → g ∈ P) : Both Q W w sb mb per n σ τ := by
  obtain ⟨h0, tg, tm, h1, h2, h3, h4, h5, h6⟩ := h
  exact ⟨h0, tg, tm, h1, h2, h3, h4, h5, fun g hg => h6 g (hq g hg)⟩
theorem Both.s {Pr : Program} {f : FuncId} {args : Array Value} (h : Both P W w sb mb per n σ τ) (hc : ∀ tg, SAt w tg sb per n σ → Calls Pr f args w (Upd w tg sb per n v σ')) : Calls Pr f args w (CallB P W sb mb per n v σ' τ w) := by
  obtain ⟨h0, tg, tm, h1, h2, h3, h4, h5, h6⟩ := h
  refine (hc tg h1).mono ?_
  rintro e w' ⟨tg', F, rfl, k1, k2, k3, k4⟩
  refine ⟨rfl, ⟨h0.trans k2 (fun x hx => .inr (h3.out k3 x hx)), tg', tm, k1, h2.fr k2 (fun b hb => (h5 b).resolve_left (k3 b hb)), h3.up h0.size k4, h4, fun b => ?_, fun g hg => ?_⟩, F, k2, fun g hg hF => k3 g hF (h6 g hg).2.1⟩
  · by_cases hb : b < w.heap.size
    · rw [k4 b hb]; exact h5 b
    · right
      rcases Nat.eq_zero_or_pos (tm b).1 with h7 | h7
      · exact h7
      · exact absurd (h2.tok b (by omega)) hb
  · obtain ⟨a1, a2, a3⟩ := h6 g hg
    exact ⟨Nat.lt_of_lt_of_le a1 k2.size, by rw [k4 g a1]; exact a2, a3⟩
theorem Both.m {Pr : Program} {f : FuncId} {args : Array Value} (h : Both P W w sb mb per n τ σ) (hc : ∀ tg, MAt w tg mb per n σ → Calls Pr f args w (MUpd w tg mb per n v σ')) : Calls Pr f args w (CallB P W sb mb per n v τ σ' w) := by
  obtain ⟨h0, tg, tm, h1, h2, h3, h4, h5, h6⟩ := h
  refine (hc tm h2).mono ?_
  rintro e w' ⟨tm', F, rfl, k1, k2, k3, k4⟩
  refine ⟨rfl, ⟨h0.trans k2 (fun x hx => .inr (h4.out k3 x hx)), tg, tm', h1.fr k2 (fun b hb => (h5 b).resolve_right (k3 b hb)), k1, h3, h4.up h0.size k4, fun b => ?_, fun g hg => ?_⟩, F, k2, fun g hg hF => k3 g hF (h6 g hg).2.2⟩
  · by_cases hb : b < w.heap.size
    · rw [k4 b hb]; exact h5 b
    · left
      rcases Nat.eq_zero_or_pos (tg b).1 with h7 | h7
      · exact h7
      · exact absurd (h1.tok b (by omega)) hb
  · obtain ⟨a1, a2, a3⟩ := h6 g hg
    exact ⟨Nat.lt_of_lt_of_le a1 k2.size, a2, by rw [k4 g a1]; exact a3⟩
theorem Both.made (h0 : Fr [] W w) {tg tm : Tg} (h1 : SAt w tg sb per n σ) (h3 : Old W.heap.size tg) (hf : Fr [] w w') (h2 : MAt w' tm mb per n τ) (h4 : Old w.heap.size tm) : Both [] W w' sb mb per n σ τ :=
  ⟨h0.trans_same hf, tg, tm, h1.fr0 hf, h2, h3, fun b hb => h4 b (by have := h0.size; omega), fun b => by
    rcases Nat.eq_zero_or_pos (tg b).1 with h6 | h6
    · exact .inl h6
    · exact .inr (h4 b (h1.tok b (by omega))), fun g hg => by cases hg⟩
theorem Both.sat (h : Both P W w sb mb per n σ τ) : ∃ tg, SAt w tg sb per n σ := by
  obtain ⟨_, tg, _, h1, _⟩ := h
  exact ⟨tg, h1⟩
theorem Both.mat (h : Both P W w sb mb per n σ τ) : ∃ tg, MAt w tg mb per n τ := by
  obtain ⟨_, _, tm, _, h2, _⟩ := h
  exact ⟨tm, h2⟩
end
theorem mod7_of (x : Int) : ∃ C : Nat, x.tmod 7 % 7 = (C : Int) ∧ C < 7 ∧ -7 < x.tmod 7 ∧ x.tmod 7 < 7 := by
  obtain ⟨C, hC⟩ := Int.eq_ofNat_of_zero_le (Int.emod_nonneg (x.tmod 7) (show (7 : Int) ≠ 0 by omega))
  have h3 := Int.emod_lt_of_pos (x.tmod 7) (show (0 : Int) < 7 by omega)
  exact ⟨C, hC, by omega, Int.lt_tmod_of_pos x (by omega), Int.tmod_lt_of_pos x (by omega)⟩
def StepPost (P : List Nat) (W : World) (sb mb per n : Nat) (w : World) (e : Ending) (w' : World) : Prop :=
  e = .returned (.bool true) ∧ (∃ σ, Both P W w' sb mb per n σ σ) ∧ ∃ F, Fr F w w' ∧ ∀ g, g ∈ P → g ∉ F
end Go.Proofs.YtkbffmmomoeaiaaDoor
