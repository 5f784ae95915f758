/- Package remset: one source of one home remembered otherwise. -/
import Derived.Test.YtkbffmmomoeaiaaDoorSc
namespace Go.Proofs.YtkbffmmomoeaiaaDoor
set_option linter.unusedVariables false
open Go.RowKit Go.Gl

/-- The source s of the home h is remembered in the way k, its cards are those of g. -/
def RS.put (σ : RS) (per h s k : Nat) (g : Nat → Bool) : RS := ⟨fun a b => if a = h ∧ b = s then k else σ.way a b, fun a c => if a = h ∧ c / per = s then g c else σ.has a c⟩
theorem RS.way_at (σ : RS) (per h s k : Nat) (g : Nat → Bool) : (σ.put per h s k g).way h s = k := by simp [RS.put]
theorem RS.way_ne (σ : RS) (per : Nat) {h s a b : Nat} (k : Nat) (g : Nat → Bool) (e : ¬ (a = h ∧ b = s)) : (σ.put per h s k g).way a b = σ.way a b := by simp only [RS.put]; rw [if_neg e]
theorem RS.has_at (σ : RS) (per h s k : Nat) (g : Nat → Bool) {c : Nat} (e : c / per = s) : (σ.put per h s k g).has h c = g c := by simp [RS.put, e]
theorem RS.has_ne (σ : RS) (per : Nat) {h s a c : Nat} (k : Nat) (g : Nat → Bool) (e : ¬ (a = h ∧ c / per = s)) : (σ.put per h s k g).has a c = σ.has a c := by simp only [RS.put]; rw [if_neg e]
section
variable {w w1 w2 : World} {tg tg' : Tg} {F : List Nat} {per n h s kb k way : Nat} {has has' g : Nat → Bool} {v : Value} {σ : RS} {fk : Value → Option Value}
theorem MemIs.congr (hm : MemIs w tg per has way h s v) (e : ∀ c, c / per = s → has c = has' c) : MemIs w tg per has' way h s v := by
  rcases hm with ⟨e0, A, c, G, l, e1, e2, e3, e4⟩ | ⟨e0, bs, bw, ws, e1, e2, e3, e4, e5⟩ | hm
  · refine .inl ⟨e0, A, c, G, l, e1, e2, e3, e4.up, fun x => (e4.mem x).trans ?_, e4.len⟩
    constructor
    · rintro ⟨c, h1, h2, h3⟩; exact ⟨c, h1, h2, by rw [← e c h2]; exact h3⟩
    · rintro ⟨c, h1, h2, h3⟩; exact ⟨c, h1, h2, by rw [e c h2]; exact h3⟩
  · refine .inr (.inl ⟨e0, bs, bw, ws, e1, e2, e3, e4, fun i hi => (e5 i hi).trans (e _ ?_)⟩)
    rw [Nat.mul_comm, Nat.mul_add_div (by omega), Nat.div_eq_of_lt hi, Nat.add_zero]
  · exact .inr (.inr hm)
theorem Kn.up (hK : Kn w tg kb per n σ fk) (hh : h < n) (hs : s < n) (hk : k ≠ 0) (hf : Fr F w w1) (hF : ∀ b, b ∈ F → (tg b).1 ≠ 2 ∧ ((tg b).1 = 9 ∨ (tg b).1 = 10 → (tg b).2 = (h, s))) (hu : TgUp w tg tg')
    (hM : Mp Tryd.prog 76 w2 kb (upF fk (pairV h s) v)) (hf2 : Fr [kb] w1 w2) (hm : MemIs w1 tg' per g k h s v) : Kn w2 tg' kb per n (σ.put per h s k g) (upF fk (pairV h s) v) := by
  have hkb : tg' kb = (2, 0, 0) := (hu _ hK.mp.lt).trans hK.tag
  refine ⟨hM, hkb, fun x v' hx => ?_, fun a b ha hb hw => ?_⟩
  · by_cases e : x = pairV h s
    · exact ⟨h, s, hh, hs, e, by rw [RS.way_at]; exact hk⟩
    · rw [upF_ne _ _ e] at hx
      obtain ⟨a, b, h1, h2, h3, h4⟩ := hK.key _ _ hx
      refine ⟨a, b, h1, h2, h3, ?_⟩
      rw [RS.way_ne]
      · exact h4
      · rintro ⟨rfl, rfl⟩; exact e h3
  · by_cases e : a = h ∧ b = s
    · obtain ⟨rfl, rfl⟩ := e
      refine ⟨v, upF_at _ _ _, ?_⟩
      rw [RS.way_at]
      refine (hm.fr hf2 (fun y hy => ?_) (TgUp.refl _ _)).congr fun c hc => (RS.has_at _ _ _ _ _ _ hc).symm
      simp at hy; subst hy; rw [hkb]; simp
    · rw [RS.way_ne _ _ _ _ e] at hw ⊢
      obtain ⟨v', e1, e2⟩ := hK.mem a b ha hb hw
      refine ⟨v', ?_, ?_⟩
      · rw [upF_ne]
        · exact e1
        · intro e3; have := pairV_inj e3; exact e ⟨by omega, by omega⟩
      · refine ((e2.fr hf (fun y hy => ?_) hu).fr hf2 (fun y hy => ?_) (TgUp.refl _ _)).congr fun c hc => (RS.has_ne _ _ _ _ (fun e4 => e ⟨e4.1, hc.symm.trans e4.2⟩)).symm
        · have h1 := (hF y hy).2
          constructor
          · intro e5; rw [e5] at h1; have := h1 (.inl rfl); injection this with h6 h7; exact e ⟨h6, h7⟩
          · intro e5; rw [e5] at h1; have := h1 (.inr rfl); injection this with h6 h7; exact e ⟨h6, h7⟩
        · simp at hy; subst hy; rw [hkb]; simp
theorem Kn.off (hK : Kn w tg kb per n σ fk) (hM : Mp Tryd.prog 76 w2 kb (offF fk (pairV h s))) (hf2 : Fr [kb] w w2) : Kn w2 tg kb per n (σ.put per h s 0 (fun _ => false)) (offF fk (pairV h s)) := by
  refine ⟨hM, hK.tag, fun x v' hx => ?_, fun a b ha hb hw => ?_⟩
  · by_cases e : x = pairV h s
    · subst e; rw [offF_at] at hx; cases hx
    · rw [offF_ne _ e] at hx
      obtain ⟨a, b, h1, h2, h3, h4⟩ := hK.key _ _ hx
      refine ⟨a, b, h1, h2, h3, ?_⟩
      rw [RS.way_ne]
      · exact h4
      · rintro ⟨rfl, rfl⟩; exact e h3
  · by_cases e : a = h ∧ b = s
    · obtain ⟨rfl, rfl⟩ := e; rw [RS.way_at] at hw; exact absurd rfl hw
    · rw [RS.way_ne _ _ _ _ e] at hw ⊢
      obtain ⟨v', e1, e2⟩ := hK.mem a b ha hb hw
      refine ⟨v', ?_, ?_⟩
      · rw [offF_ne]
        · exact e1
        · intro e3; have := pairV_inj e3; exact e ⟨by omega, by omega⟩
      · refine (e2.fr hf2 (fun y hy => ?_) (TgUp.refl _ _)).congr fun c hc => (RS.has_ne _ _ _ _ (fun e4 => e ⟨e4.1, hc.symm.trans e4.2⟩)).symm
        simp at hy; subst hy; rw [hK.tag]; simp
theorem SOk.put (ok : SOk per n σ) (hk : k ≠ 0 → h < n ∧ s < n ∧ h ≠ s ∧ k ≤ 3) (hg : ∀ c, c / per = s → g c = true → c < n * per ∧ (k = 1 ∨ k = 2)) : SOk per n (σ.put per h s k g) := by
  refine ⟨ok.dim, fun a b hw => ?_, fun a c hc => ?_⟩
  · by_cases e : a = h ∧ b = s
    · obtain ⟨rfl, rfl⟩ := e; rw [RS.way_at] at hw ⊢; exact hk hw
    · rw [RS.way_ne _ _ _ _ e] at hw ⊢; exact ok.rng a b hw
  · by_cases e : a = h ∧ c / per = s
    · obtain ⟨rfl, e2⟩ := e; rw [RS.has_at _ _ _ _ _ _ e2] at hc; rw [e2, RS.way_at]; exact hg c e2 hc
    · rw [RS.has_ne _ _ _ _ e] at hc; rw [RS.way_ne _ _ _ _ e]; exact ok.can a c hc
end
end Go.Proofs.YtkbffmmomoeaiaaDoor
