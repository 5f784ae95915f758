/- The statements of layer 11: what lies where, in one word; the questions that each of them asks first. -/
import Derived.Test.YtkbffmmomoeaiaaDoorSy
import Derived.Test.YtkbffmmomoeaiaaDoorSv
namespace Go.Proofs.YtkbffmmomoeaiaaDoor
set_option linter.unusedVariables false
set_option linter.unusedSimpArgs false
open Go.RowKit Go.Gl

def SAt (w : World) (tg : Tg) (sb per n : Nat) (σ : RS) : Prop := ∃ kb sB hB fB fk Vs Vh Vf, Rs w tg sb kb sB hB fB per n σ fk Vs Vh Vf
/-- No block below B is tagged. -/
def Old (B : Nat) (tg : Tg) : Prop := ∀ b, b < B → (tg b).1 = 0
def Upd (w : World) (tg : Tg) (sb per n : Nat) (v : Value) (σ : RS) (e : Ending) (w' : World) : Prop :=
  ∃ tg' F, e = .returned v ∧ SAt w' tg' sb per n σ ∧ Fr F w w' ∧ (∀ b, b ∈ F → (tg b).1 ≠ 0) ∧ TgUp w tg tg'
section
variable {w w' : World} {tg tg' : Tg} {F : List Nat} {sb per n B : Nat} {σ : RS}
theorem SAt.fr (h : SAt w tg sb per n σ) (hf : Fr F w w') (hF : ∀ b, b ∈ F → (tg b).1 = 0) : SAt w' tg sb per n σ := by
  obtain ⟨kb, sB, hB, fB, fk, Vs, Vh, Vf, h⟩ := h
  exact ⟨kb, sB, hB, fB, fk, Vs, Vh, Vf, h.fr hf hF⟩
theorem SAt.fr0 (h : SAt w tg sb per n σ) (hf : Fr [] w w') : SAt w' tg sb per n σ := h.fr hf (fun _ h => by cases h)
theorem SAt.ok (h : SAt w tg sb per n σ) : SOk per n σ := by
  obtain ⟨kb, sB, hB, fB, fk, Vs, Vh, Vf, h⟩ := h
  exact h.ok
theorem SAt.tok (h : SAt w tg sb per n σ) : TgOk w tg := by
  obtain ⟨kb, sB, hB, fB, fk, Vs, Vh, Vf, h⟩ := h
  exact h.tok
theorem SAt.add (h : SAt w tg sb per n σ) (a c : Int) : Calls Tryd.prog 19 #[.pointer (some ⟨sb, 0, none⟩), .int .i64 a, .int .i64 c] w (Upd w tg sb per n (.tuple #[.bool (addR σ per n a c).1, .int .i64 (addR σ per n a c).2.1]) (addR σ per n a c).2.2) := by
  obtain ⟨kb, sB, hB, fB, fk, Vs, Vh, Vf, h⟩ := h
  refine (radd_any h a c).mono ?_
  rintro e w' ⟨tg', fk', Vs', Vh', Vf', F, rfl, h1, h2, h3, h4⟩
  exact ⟨tg', F, rfl, ⟨_, _, _, _, _, _, _, _, h1⟩, h2, h3, h4⟩
theorem SAt.has (h : SAt w tg sb per n σ) (a c : Int) (wa : (Lit.int .i64 a).wf = true) : Calls Tryd.prog 20 #[.pointer (some ⟨sb, 0, none⟩), .int .i64 a, .int .i64 c] w fun e w' => e = .returned (.bool (hasI σ per n a c)) ∧ Fr [] w w' := by
  obtain ⟨kb, sB, hB, fB, fk, Vs, Vh, Vf, h⟩ := h
  exact rhas_any h a c wa
theorem SAt.way (h : SAt w tg sb per n σ) (a b : Int) (wa : (Lit.int .i64 a).wf = true) (wb : (Lit.int .i64 b).wf = true) : Calls Tryd.prog 14 #[.pointer (some ⟨sb, 0, none⟩), .int .i64 a, .int .i64 b] w fun e w' => e = .returned (.int .i64 (wayI σ a b : Int)) ∧ w = w' := by
  obtain ⟨kb, sB, hB, fB, fk, Vs, Vh, Vf, h⟩ := h
  exact way_any h a b wa wb
theorem SAt.cards (h : SAt w tg sb per n σ) (hT : Tab w) {a : Nat} (ha : a < n) : Calls Tryd.prog 11 #[.pointer (some ⟨sb, 0, none⟩), .int .i64 (a : Int)] w (ListPost w [] (allOf σ per n a)) := by
  obtain ⟨kb, sB, hB, fB, fk, Vs, Vh, Vf, h⟩ := h
  exact rcards_ok h hT ha
theorem SAt.cards_no (h : SAt w tg sb per n σ) {a : Int} (ha : ¬ (0 ≤ a ∧ a < (n : Int))) : Calls Tryd.prog 11 #[.pointer (some ⟨sb, 0, none⟩), .int .i64 a] w fun e w' => e = .returned (.slice none 0 0) ∧ w = w' := by
  obtain ⟨kb, sB, hB, fB, fk, Vs, Vh, Vf, h⟩ := h
  exact rcards_no h a ha
theorem SAt.clear (h : SAt w tg sb per n σ) {a : Nat} (ha : a < n) : Calls Tryd.prog 17 #[.pointer (some ⟨sb, 0, none⟩), .int .i64 (a : Int)] w (Upd w tg sb per n (.int .i64 0) (σ.clear a)) := by
  obtain ⟨kb, sB, hB, fB, fk, Vs, Vh, Vf, h⟩ := h
  refine (clear_any h ha).mono ?_
  rintro e w' ⟨fk', Vf', F, rfl, h1, h2, h3⟩
  exact ⟨tg, F, rfl, ⟨_, _, _, _, _, _, _, _, h1⟩, h2, h3, TgUp.refl _ _⟩
theorem SAt.clear_bad (h : SAt w tg sb per n σ) {a : Int} (ha : ¬ (0 ≤ a ∧ a < (n : Int))) : Calls Tryd.prog 17 #[.pointer (some ⟨sb, 0, none⟩), .int .i64 a] w (Upd w tg sb per n (.int .i64 2) σ) := by
  obtain ⟨kb, sB, hB, fB, fk, Vs, Vh, Vf, h⟩ := h
  refine (Go.Proofs.YtkbffmmomoeaiaaDoor.clear_bad h ha).mono ?_
  rintro e w' ⟨fk', Vf', F, rfl, h1, h2, h3⟩
  exact ⟨tg, F, rfl, ⟨_, _, _, _, _, _, _, _, h1⟩, h2, h3, TgUp.refl _ _⟩
theorem SAt.scrub (h : SAt w tg sb per n σ) {a : Nat} (ha : a < n) : Calls Tryd.prog 18 #[.pointer (some ⟨sb, 0, none⟩), .int .i64 (a : Int)] w (Upd w tg sb per n (.int .i64 0) (σ.scrub per a)) := by
  obtain ⟨kb, sB, hB, fB, fk, Vs, Vh, Vf, h⟩ := h
  refine (scrub_any h ha).mono ?_
  rintro e w' ⟨fk', Vf', F, rfl, h1, h2, h3⟩
  exact ⟨tg, F, rfl, ⟨_, _, _, _, _, _, _, _, h1⟩, h2, h3, TgUp.refl _ _⟩
theorem SAt.scrub_bad (h : SAt w tg sb per n σ) {a : Int} (ha : ¬ (0 ≤ a ∧ a < (n : Int))) : Calls Tryd.prog 18 #[.pointer (some ⟨sb, 0, none⟩), .int .i64 a] w (Upd w tg sb per n (.int .i64 2) σ) := by
  obtain ⟨kb, sB, hB, fB, fk, Vs, Vh, Vf, h⟩ := h
  refine (Go.Proofs.YtkbffmmomoeaiaaDoor.scrub_bad h ha).mono ?_
  rintro e w' ⟨fk', Vf', F, rfl, h1, h2, h3⟩
  exact ⟨tg, F, rfl, ⟨_, _, _, _, _, _, _, _, h1⟩, h2, h3, TgUp.refl _ _⟩
theorem Old.up (h : Old B tg) (hB : B ≤ w.heap.size) (hu : TgUp w tg tg') : Old B tg' := fun b hb => by rw [hu b (by omega)]; exact h b hb
theorem Old.out (h : Old B tg) (hF : ∀ b, b ∈ F → (tg b).1 ≠ 0) : ∀ b, b ∈ F → B ≤ b := fun b hb => by
  rcases Nat.lt_or_ge b B with h1 | h1
  · exact absurd (h b h1) (hF b hb)
  · exact h1
end
/-- The sets are new since W, and nothing that was there has been touched. -/
def Own (W w : World) (sb per n : Nat) (σ : RS) : Prop := Fr [] W w ∧ ∃ tg, SAt w tg sb per n σ ∧ Old W.heap.size tg
section
variable {W w w' : World} {sb per n : Nat} {σ σ' : RS} {v : Value} {e : Ending}
theorem Own.fr0 (h : Own W w sb per n σ) (hf : Fr [] w w') : Own W w' sb per n σ := ⟨h.1.trans_same hf, by obtain ⟨tg, h1, h2⟩ := h.2; exact ⟨tg, h1.fr0 hf, h2⟩⟩
theorem Own.upd {P : Program} {f : FuncId} {args : Array Value} (h : Own W w sb per n σ) (hc : ∀ tg, SAt w tg sb per n σ → Calls P f args w (Upd w tg sb per n v σ')) : Calls P f args w fun e w' => e = .returned v ∧ Own W w' sb per n σ' := by
  obtain ⟨h1, tg, h2, h3⟩ := h
  refine (hc tg h2).mono ?_
  rintro e w' ⟨tg', F, rfl, k1, k2, k3, k4⟩
  exact ⟨rfl, h1.trans k2 (fun x hx => .inr (h3.out k3 x hx)), tg', k1, h3.up h1.size k4⟩
end
def smallG : Geo := ⟨512, 64, 8, 8, 64, 448⟩
theorem small_ok : OkG smallG 8 8 := ⟨⟨by decide, by decide, by decide, by decide⟩, rfl, rfl, rfl, by decide, ⟨by decide, by decide, by decide, by decide, by decide, by decide, by decide, by decide⟩⟩
theorem small_any (w : World) : Calls Tryd.prog 16 #[] w fun e w' => e = .returned smallG.val ∧ Fr [] w w' := by
  go_enter Tryd.func16, Tryd.ntmps16
  go_wp2_with fail
  refine bodyPost_ret (v := smallG.val) (by simp [results, Tryd.results16, go_sem, *]; rfl) rfl ⟨rfl, ?_⟩
  exact (Fr.refl _ _).alloc _
theorem new_small (w : World) : Calls Tryd.prog 8 #[smallG.val] w fun e w' => ∃ sb tg, e = .returned (.tuple #[.pointer (some ⟨sb, 0, none⟩), .int .i64 0]) ∧ SAt w' tg sb 8 8 freshS ∧ Fr [] w w' ∧ Old w.heap.size tg := by
  refine (rnew_ok smallG small_ok w).mono ?_
  rintro e w' ⟨tg, sb, kb, sB, hB, fB, fk, Vs, Vh, Vf, rfl, h1, h2, h3⟩
  exact ⟨sb, tg, rfl, ⟨_, _, _, _, _, _, _, _, h1⟩, h2, h3⟩
/-- The sets when the cards from 8 on and below k were added to the home 0. -/
def tau (k : Nat) : RS := ⟨fun a b => if a = 0 ∧ b = 1 then (if k ≤ 8 then 0 else if k ≤ 12 then 1 else 2) else 0, fun a c => decide (a = 0 ∧ 8 ≤ c ∧ c < k)⟩
theorem tau_fresh : tau 8 = freshS := RS.ext (fun a b => by simp [tau, freshS]) (fun a c => by simp [tau, freshS])
theorem tau_put (k m j : Nat) (hk : 8 ≤ k ∧ k < 13) (hm : m = if k + 1 ≤ 8 then 0 else if k + 1 ≤ 12 then 1 else 2) : (tau k).put 8 0 1 m (plus (tau k) 0 k) = tau (k + 1) := by
  refine RS.ext (fun a b => ?_) (fun a c => ?_)
  · simp only [RS.put, tau]
    by_cases h : a = 0 ∧ b = 1
    · rw [if_pos h, if_pos h, hm]
    · rw [if_neg h, if_neg h, if_neg h]
  · simp only [RS.put, tau, plus]
    by_cases h : a = 0 ∧ c / 8 = 1
    · rw [if_pos h, Bool.eq_iff_iff]
      simp
      omega
    · rw [if_neg h, Bool.eq_iff_iff]
      simp
      omega
theorem tau_add {k : Nat} (h8 : 8 ≤ k) (hk : k < 13) : addR (tau k) 8 8 0 (k : Int) = (true, 0, tau (k + 1)) := by
  refine (addR_at (σ := tau k) (per := 8) (n := 8) (a := 0) (c := k) (by decide) (by omega)).trans ?_
  rw [if_neg (by omega)]
  have e1 : k / 8 = 1 := by omega
  have e2 : hasN (tau k) 8 0 k = false := by
    simp only [hasN, tau, e1]
    obtain rfl | rfl | rfl | rfl | rfl : k = 8 ∨ k = 9 ∨ k = 10 ∨ k = 11 ∨ k = 12 := by omega
    all_goals rfl
  rw [if_neg (by rw [e2]; decide)]
  unfold addS
  have e4 : ¬ (tau k).way 0 1 = 2 := by
    obtain rfl | rfl | rfl | rfl | rfl : k = 8 ∨ k = 9 ∨ k = 10 ∨ k = 11 ∨ k = 12 := by omega
    all_goals decide
  rw [e1, if_neg e4]
  by_cases h12 : k = 12
  · subst h12
    rw [if_neg (by decide +kernel), tau_put 12 2 0 (by decide) (by decide)]
    unfold coarsen
    rw [if_neg (by decide +kernel)]
  · have e3 : cntS ((tau k).put 8 0 1 1 (plus (tau k) 0 k)) 8 0 1 ≤ 4 := by
      obtain rfl | rfl | rfl | rfl : k = 8 ∨ k = 9 ∨ k = 10 ∨ k = 11 := by omega
      all_goals decide +kernel
    rw [if_pos e3, tau_put k 1 0 ⟨h8, hk⟩ (by rw [if_neg (by omega), if_pos (by omega)])]
theorem tau_end : addR (tau 13) 8 8 0 3 = (false, 3, tau 13) := by
  refine (addR_at (σ := tau 13) (per := 8) (n := 8) (a := 0) (c := 3) (by decide) (by decide)).trans ?_
  rw [if_pos (by decide)]
theorem tau_cards : allOf (tau 13) 8 8 0 = [8, 9, 10, 11, 12] := by decide +kernel
theorem tau_has : hasI (tau 13) 8 8 0 12 = true ∧ hasI (tau 13) 8 8 0 13 = false := by decide +kernel
theorem tau_way : wayI (tau 13) 0 1 = 2 := by decide +kernel
end Go.Proofs.YtkbffmmomoeaiaaDoor
