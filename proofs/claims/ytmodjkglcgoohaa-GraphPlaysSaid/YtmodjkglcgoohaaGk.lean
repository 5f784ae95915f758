/- The abstract heap: what is refused, and what is asked, changes nothing. -/
import Derived.Test.YtmodjkglcgoohaaGp
namespace Go.Proofs.Ytmodjkglcgoohaa
set_option linter.unusedVariables false
open Go.RowKit Go.Gl

def asksB (k : Int) : Bool := decide (k = 4 ∨ k = 9 ∨ k = 10 ∨ k = 11 ∨ k = 12)
section
variable {B M T : Nat} {σ : GS} {t : Nat} {o : Po}
theorem push_full' {r : Int} (h : hkPushE B (σ.st t) ≠ 0) : σ.push B t r = σ := by
  unfold GS.push GS.setSt hkPush
  unfold hkPushE at h
  split
  · rename_i h1
    rw [if_pos h1] at h
    exact absurd rfl h
  · rw [setF_same]
theorem act_refused (h : (actA B M T σ t o).code ≠ 0) : actS B M T σ t o = σ := by
  unfold actA at h
  unfold actS
  by_cases h1 : o.k = 1
  · rw [if_pos h1] at h ⊢
    unfold allocS
    have h : allocE B M σ t o.a o.b ≠ 0 := h
    unfold allocE at h
    split
    · rfl
    · rename_i hs
      rw [if_neg hs] at h
      unfold hkPushE at h
      split
      · rename_i hl
        rw [if_pos hl] at h
        exact absurd rfl h
      · rfl
  rw [if_neg h1] at h ⊢
  by_cases h2 : o.k = 2
  · rw [if_pos h2] at h ⊢
    unfold loadS
    have h : loadE B σ t o.a o.b ≠ 0 := h
    unfold loadE at h
    split
    · rename_i hs
      rw [if_neg (show ¬ (objE σ t o.a ≠ 0) from fun hx => hx hs.1), if_pos hs.2] at h
      exact push_full' h
    · rfl
  rw [if_neg h2] at h ⊢
  by_cases h3 : o.k = 3
  · rw [if_pos h3] at h ⊢
    unfold storeS
    exact if_neg h
  rw [if_neg h3] at h ⊢
  by_cases h4 : o.k = 4
  · rw [if_neg (by omega), if_neg (by omega), if_neg (by omega), if_neg (by omega), if_neg (by omega)]
  rw [if_neg h4] at h
  by_cases h5 : o.k = 5
  · rw [if_pos h5] at h ⊢
    unfold writeS
    exact if_neg h
  rw [if_neg h5] at h ⊢
  by_cases h6 : o.k = 6
  · rw [if_pos h6] at h ⊢
    exact push_full' h
  rw [if_neg h6] at h ⊢
  by_cases h7 : o.k = 7
  · rw [if_pos h7] at h ⊢
    have h : hkPopE (σ.st t) ≠ 0 := h
    unfold hkPopE at h
    split at h
    · rename_i hl
      unfold popS GS.setSt
      rw [show hkPop (σ.st t) = σ.st t by rw [List.eq_nil_of_length_eq_zero hl]; rfl, setF_same]
    · exact absurd rfl h
  rw [if_neg h7] at h ⊢
  by_cases h8 : o.k = 8
  · rw [if_pos h8] at h ⊢
    unfold dupS
    have h : dupE B σ t o.a ≠ 0 := h
    unfold dupE at h
    split
    · rename_i hs
      rw [if_pos hs] at h
      exact push_full' h
    · rfl
  rw [if_neg h8] at h ⊢
  by_cases h13 : o.k = 13
  · rw [if_neg (by omega), if_neg (by omega), if_neg (by omega), if_neg (by omega), if_pos h13] at h
    rw [if_pos h13]
    unfold sendS
    have h : sendE B T σ t o.a o.b ≠ 0 := h
    unfold sendE at h
    split
    · rename_i hs
      rw [if_pos hs.1, if_pos hs.2] at h
      exact push_full' h
    · rfl
  rw [if_neg h13]
theorem act_asks (h : asksB o.k = true) : actS B M T σ t o = σ := by
  have h : o.k = 4 ∨ o.k = 9 ∨ o.k = 10 ∨ o.k = 11 ∨ o.k = 12 := by simpa [asksB] using h
  unfold actS
  iterate 8 rw [if_neg (by omega)]
theorem act_zero (h : (actA B M T σ t o).code ≠ 0) : (actA B M T σ t o).word = 0 ∧ (actA B M T σ t o).bit = false := by
  by_cases h4 : o.k = 4
  · have e : actA B M T σ t o = ⟨wordE σ t o.a o.b, readV σ t o.a o.b, false⟩ := by
      unfold actA
      rw [if_neg (by omega), if_neg (by omega), if_neg (by omega), if_pos h4]
    rw [e] at h ⊢
    exact ⟨if_neg h, rfl⟩
  by_cases h9 : o.k = 9
  · have e : actA B M T σ t o = ⟨equalE σ t o.a o.b, 0, equalV σ t o.a o.b⟩ := by
      unfold actA
      iterate 8 rw [if_neg (by omega)]
      rw [if_pos h9]
    rw [e] at h ⊢
    refine ⟨rfl, ?_⟩
    show equalV σ t o.a o.b = false
    have h : equalE σ t o.a o.b ≠ 0 := h
    unfold equalE at h
    unfold equalV
    rw [decide_eq_false_iff_not]
    rintro ⟨x1, x2, _⟩
    rw [if_pos x1] at h
    unfold hkAtE at h
    rw [if_pos x2] at h
    exact h rfl
  by_cases h10 : o.k = 10
  · have e : actA B M T σ t o = ⟨hkAtE (σ.st t) o.a, 0, isNilV σ t o.a⟩ := by
      unfold actA
      iterate 9 rw [if_neg (by omega)]
      rw [if_pos h10]
    rw [e] at h ⊢
    refine ⟨rfl, ?_⟩
    show isNilV σ t o.a = false
    have h : hkAtE (σ.st t) o.a ≠ 0 := h
    unfold isNilV
    rw [decide_eq_false_iff_not]
    rintro ⟨x1, _⟩
    unfold hkAtE at h
    rw [if_pos x1] at h
    exact h rfl
  clear h
  unfold actA
  rw [if_neg h4, if_neg h9, if_neg h10]
  repeat' split
  all_goals exact ⟨rfl, rfl⟩
end
/-- What Do answers, as an answer. -/
def doA (B M T : Nat) (σ : GS) (th : Int) (o : Po) : An := if fieldIn T th then actA B M T σ th.toNat o else ⟨2, 0, false⟩
def doTh (T : Nat) (th : Int) : Int := if fieldIn T th then th else 0
def doDn (T : Nat) (σ : GS) (th : Int) : Int := if fieldIn T th then (σ.done th.toNat : Int) else 0
theorem doV_eq (B M T : Nat) (σ : GS) (th : Int) (o : Po) : doV B M T σ th o = ansV (doTh T th) (doDn T σ th) (doA B M T σ th o) := by
  unfold doV doTh doDn doA
  split <;> rfl
theorem do_still {B M T : Nat} {σ : GS} {th : Int} {o : Po} (h : (doA B M T σ th o).code ≠ 0 ∨ asksB o.k = true) : shape (doS B M T σ th o) T = shape σ T ∧ words (doS B M T σ th o) T = words σ T := by
  unfold doS
  unfold doA at h
  split
  · rename_i hf
    rw [if_pos hf] at h
    have e : actS B M T (σ.tick th.toNat) th.toNat o = σ.tick th.toNat := by
      rcases h with h | h
      · exact act_refused (σ := σ.tick th.toNat) h
      · exact act_asks h
    rw [e]
    exact ⟨shape_tick _ _ _, words_tick _ _ _⟩
  · exact ⟨rfl, rfl⟩
theorem do_zero {B M T : Nat} {σ : GS} {th : Int} {o : Po} (h : (doA B M T σ th o).code ≠ 0) : (doA B M T σ th o).word = 0 ∧ (doA B M T σ th o).bit = false := by
  unfold doA at h ⊢
  split
  · rename_i hf
    rw [if_pos hf] at h
    exact act_zero h
  · exact ⟨rfl, rfl⟩
end Go.Proofs.Ytmodjkglcgoohaa
