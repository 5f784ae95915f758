/- What a home has, against what was asked for: never less, and no more unless coarse. -/
import Derived.Test.YtkbffmmomoeaiaaDoorL11b
namespace Go.Proofs.YtkbffmmomoeaiaaDoor
set_option linter.unusedVariables false
set_option linter.unusedSimpArgs false
open Go.RowKit Go.Gl

theorem cnt_upd {p q : Nat → Bool} {m : Nat} (h : ∀ j, j ≠ m → p j = q j) : ∀ n, m < n → cnt p 0 n + (q m).toNat = cnt q 0 n + (p m).toNat
  | 0, hm => absurd hm (by omega)
  | n + 1, hm => by
    unfold cnt
    rw [Nat.zero_add]
    by_cases e : m = n
    · subst e
      have h1 : cnt p 0 m = cnt q 0 m := cnt_congr fun j hj => by rw [Nat.zero_add]; exact h j (by omega)
      rw [h1]
      cases p m <;> cases q m <;> simp
    · have h1 := cnt_upd h n (by omega)
      rw [h n (fun h2 => e h2.symm)]
      omega
theorem cnt_mono {p q : Nat → Bool} (h : ∀ j, p j = true → q j = true) : ∀ n, cnt p 0 n ≤ cnt q 0 n
  | 0 => Nat.le_refl _
  | n + 1 => by
    unfold cnt
    have h1 := cnt_mono h n
    have h2 := h (0 + n)
    cases hp : p (0 + n) with
    | false => simp; split <;> omega
    | true => rw [h2 hp]; simpa using h1
def set2 (W : Nat → Nat → Bool) (h c : Nat) (v : Bool) : Nat → Nat → Bool := fun a b => if a = h ∧ b = c then v else W a b
structure Keeps (per n : Nat) (σ : RS) (W : Nat → Nat → Bool) : Prop where
  had : ∀ h c, W h c = true → hasN σ per h c = true
  want : ∀ h c, σ.has h c = true → W h c = true
  fine : ∀ h, nFine σ n h ≤ 4
section
variable {per n : Nat} {σ : RS} {W : Nat → Nat → Bool}
theorem Keeps.fresh : Keeps per n freshS fun _ _ => false := ⟨fun _ _ h => (by cases h), fun _ _ h => (by cases h), fun h => by
  unfold nFine
  rw [cnt_none (fun j hj => rfl)]; omega⟩
theorem Keeps.same (K : Keeps per n σ W) {h c : Nat} (hy : hasN σ per h c = true) : Keeps per n σ (set2 W h c true) :=
  ⟨fun a b hw => by
    unfold set2 at hw
    by_cases e : a = h ∧ b = c
    · rw [e.1, e.2]; exact hy
    · rw [if_neg e] at hw; exact K.had a b hw, fun a b hh => by
    unfold set2
    split
    · rfl
    · exact K.want a b hh, K.fine⟩
theorem Keeps.clear (K : Keeps per n σ W) (h : Nat) : Keeps per n (σ.clear h) (fun a b => if a = h then false else W a b) :=
  ⟨fun a b hw => by
    by_cases e : a = h
    · rw [if_pos e] at hw; cases hw
    · rw [if_neg e] at hw
      have := K.had a b hw
      unfold hasN RS.clear at *
      simp only [if_neg e]; exact this, fun a b hh => by
    unfold RS.clear at hh
    by_cases e : a = h
    · simp only [if_pos e] at hh; cases hh
    · simp only [if_neg e] at hh ⊢; exact K.want a b hh, fun a => by
    refine Nat.le_trans (cnt_mono (fun j hj => ?_) n) (K.fine a)
    unfold RS.clear at hj
    by_cases e : a = h
    · simp only [if_pos e] at hj; cases hj
    · simp only [if_neg e] at hj; exact hj⟩
theorem Keeps.scrub (K : Keeps per n σ W) (s : Nat) : Keeps per n (σ.scrub per s) (fun a b => if b / per = s then false else W a b) :=
  ⟨fun a b hw => by
    by_cases e : b / per = s
    · rw [if_pos e] at hw; cases hw
    · rw [if_neg e] at hw
      have := K.had a b hw
      unfold hasN RS.scrub at *
      simp only [if_neg e]; exact this, fun a b hh => by
    unfold RS.scrub at hh
    by_cases e : b / per = s
    · simp only [if_pos e] at hh; cases hh
    · simp only [if_neg e] at hh ⊢; exact K.want a b hh, fun a => by
    refine Nat.le_trans (cnt_mono (fun j hj => ?_) n) (K.fine a)
    unfold RS.scrub at hj
    by_cases e : j = s
    · simp only [if_pos e] at hj; cases hj
    · simp only [if_neg e] at hj; exact hj⟩
theorem nFine_else {h s k a : Nat} {g : Nat → Bool} (ha : a ≠ h) : nFine (σ.put per h s k g) n a = nFine σ n a :=
  cnt_congr fun j hj => by rw [RS.way_ne _ _ _ _ (fun e => ha e.1)]
theorem nFine_put {h s k : Nat} {g : Nat → Bool} (hs : s < n) : nFine (σ.put per h s k g) n h + (σ.way h s == 2).toNat = nFine σ n h + (k == 2).toNat := by
  have := cnt_upd (p := fun x => (σ.put per h s k g).way h x == 2) (q := fun x => σ.way h x == 2) (m := s) (fun j hj => by
    show (RS.way _ h j == 2) = _
    rw [RS.way_ne _ _ _ _ (fun e => hj e.2)]) n hs
  simp only [RS.way_at] at this
  exact this
/-- A card is added, its source being sparse or fine behind it. -/
theorem Keeps.onto (K : Keeps per n σ W) {h c k : Nat} (hk : k = 1 ∨ k = 2) (hno : hasN σ per h c = false) :
    (∀ a b, set2 W h c true a b = true → hasN (σ.put per h (c / per) k (plus σ h c)) per a b = true) ∧ ∀ a b, (σ.put per h (c / per) k (plus σ h c)).has a b = true → set2 W h c true a b = true := by
  have hw3 : ¬ σ.way h (c / per) = 3 := fun e => by unfold hasN at hno; rw [e] at hno; simp at hno
  refine ⟨fun a b hw => ?_, fun a b hh => ?_⟩
  · by_cases e : a = h ∧ b / per = c / per
    · obtain ⟨rfl, e2⟩ := e
      unfold hasN
      rw [RS.has_at _ _ _ _ _ _ e2]
      unfold plus
      by_cases e3 : b = c
      · simp [e3]
      · unfold set2 at hw
        rw [if_neg (fun h => e3 h.2)] at hw
        have := K.had a b hw
        unfold hasN at this
        rw [e2] at this
        have h4 : (σ.way a (c / per) == 3) = false := by simpa using hw3
        rw [h4] at this
        simp only [Bool.false_or] at this
        rw [this]; simp
    · unfold hasN
      rw [RS.has_ne _ _ _ _ e, RS.way_ne _ _ _ _ e]
      unfold set2 at hw
      rw [if_neg (fun h => e ⟨h.1, by rw [h.2]⟩)] at hw
      exact K.had a b hw
  · unfold set2
    by_cases e3 : a = h ∧ b = c
    · rw [if_pos e3]
    · rw [if_neg e3]
      by_cases e : a = h ∧ b / per = c / per
      · obtain ⟨rfl, e2⟩ := e
        rw [RS.has_at _ _ _ _ _ _ e2] at hh
        unfold plus at hh
        have : ¬ b = c := fun h => e3 ⟨rfl, h⟩
        simp [this] at hh
        exact K.want a b hh
      · rw [RS.has_ne _ _ _ _ e] at hh
        exact K.want a b hh
theorem Keeps.add (K : Keeps per n σ W) {h c : Nat} (hs : c / per < n) (hno : hasN σ per h c = false) : Keeps per n (addS σ per n h c) (set2 W h c true) := by
  obtain ⟨p1, p2⟩ := K.onto (k := 1) (.inl rfl) hno
  obtain ⟨q1, q2⟩ := K.onto (k := 2) (.inr rfl) hno
  have F : ∀ k, (∀ a, a ≠ h → nFine (σ.put per h (c / per) k (plus σ h c)) n a ≤ 4) ∧ nFine (σ.put per h (c / per) k (plus σ h c)) n h + (σ.way h (c / per) == 2).toNat = nFine σ n h + (k == 2).toNat := fun k =>
    ⟨fun a ha => by rw [nFine_else ha]; exact K.fine a, nFine_put hs⟩
  have K4 := K.fine h
  unfold addS
  by_cases h2 : σ.way h (c / per) = 2
  · rw [if_pos h2]
    refine ⟨q1, q2, fun a => ?_⟩
    by_cases ha : a = h
    · subst ha
      have := (F 2).2
      rw [h2] at this
      simp at this
      omega
    · exact (F 2).1 a ha
  · rw [if_neg h2]
    have h2' : (σ.way h (c / per) == 2) = false := by simpa using h2
    by_cases h4 : cntS (σ.put per h (c / per) 1 (plus σ h c)) per h (c / per) ≤ 4
    · rw [if_pos h4]
      refine ⟨p1, p2, fun a => ?_⟩
      by_cases ha : a = h
      · subst ha
        have := (F 1).2
        rw [h2'] at this
        simp at this
        omega
      · exact (F 1).1 a ha
    · rw [if_neg h4]
      unfold coarsen
      have f5 := (F 2).2
      rw [h2'] at f5
      simp at f5
      by_cases h5 : 4 < nFine (σ.put per h (c / per) 2 (plus σ h c)) n h
      · rw [if_pos h5]
        obtain ⟨b1, b2, _⟩ := bestOf_spec (per := per) h5
        have f6 := fun a (ha : a ≠ h) => (F 2).1 a ha
        generalize bestOf (σ.put per h (c / per) 2 (plus σ h c)) per n h = m at *
        generalize σ.put per h (c / per) 2 (plus σ h c) = τ at *
        refine ⟨fun a b hw => ?_, fun a b hh => ?_, fun a => ?_⟩
        · by_cases e : a = h ∧ b / per = m
          · obtain ⟨rfl, rfl⟩ := e
            unfold hasN
            rw [RS.way_at]; rfl
          · unfold hasN
            rw [RS.has_ne _ _ _ _ e, RS.way_ne _ _ _ _ e]
            exact q1 a b hw
        · by_cases e : a = h ∧ b / per = m
          · obtain ⟨rfl, rfl⟩ := e
            rw [RS.has_at _ _ _ _ _ _ rfl] at hh
            cases hh
          · rw [RS.has_ne _ _ _ _ e] at hh
            exact q2 a b hh
        · by_cases ha : a = h
          · subst ha
            have := nFine_put (σ := τ) (per := per) (n := n) (h := a) (s := m) (k := 3) (g := fun _ => false) b1
            rw [b2] at this
            simp at this
            omega
          · rw [nFine_else ha]; exact f6 a ha
      · rw [if_neg h5]
        refine ⟨q1, q2, fun a => ?_⟩
        by_cases ha : a = h
        · subst ha; omega
        · exact (F 2).1 a ha
end
end Go.Proofs.YtkbffmmomoeaiaaDoor
