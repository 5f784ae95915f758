/- Package remset: the abstract addition; lists of fine sources. -/
import Derived.Test.YtkbffmmomoeaiaaDoorSu
import Derived.Test.YtkbffmmomoeaiaaDoorSe
namespace Go.Proofs.YtkbffmmomoeaiaaDoor
set_option linter.unusedVariables false
set_option linter.unusedSimpArgs false
open Go.RowKit Go.Gl

theorem nodup_cnt (q : Nat → Bool) : ∀ (n : Nat) (l : List Nat), l.Nodup → (∀ s, s ∈ l ↔ s < n ∧ q s = true) → l.length = cnt q 0 n
  | 0, l, _, h => by
    cases l with
    | nil => rfl
    | cons a r => exact absurd ((h a).1 (by simp)).1 (by omega)
  | n + 1, l, hn, h => by
    have ih := nodup_cnt q n (l.filter fun x => !(x == n)) (hn.filter _) (fun s => by
      rw [List.mem_filter, h s]
      simp
      constructor
      · rintro ⟨⟨h1, h2⟩, h3⟩; exact ⟨by omega, h2⟩
      · rintro ⟨h1, h2⟩; exact ⟨⟨by omega, h2⟩, by omega⟩)
    have h1 := List.length_eq_countP_add_countP (fun x => x == n) (l := l)
    have h2 : l.countP (fun x => x == n) = if q n = true then 1 else 0 := by
      split
      · rename_i hq
        exact List.Nodup.count (hn) |>.trans (if_pos ((h n).2 ⟨by omega, hq⟩))
      · rename_i hq
        refine List.countP_eq_zero.2 fun x hx => ?_
        simp
        rintro rfl
        exact hq ((h x).1 hx).2
    rw [← List.countP_eq_length_filter] at ih
    simp only [cnt, Nat.zero_add]
    rw [h1, h2]
    have e : l.countP (fun x => decide ¬(x == n) = true) = l.countP (fun x => !(x == n)) := by congr 1; funext x; cases (x == n) <;> rfl
    rw [e, ih]
    omega
/-- How many sources of a home are fine. -/
def nFine (σ : RS) (n h : Nat) : Nat := cnt (fun s => σ.way h s == 2) 0 n
def BestOf (σ : RS) (per n h m : Nat) : Prop := m < n ∧ σ.way h m = 2 ∧ ∀ x, x < n → σ.way h x = 2 → Bet σ per h m x
theorem BestOf.uniq {σ : RS} {per n h m m' : Nat} (h1 : BestOf σ per n h m) (h2 : BestOf σ per n h m') : m = m' := (h1.2.2 _ h2.1 h2.2.1).antisymm (h2.2.2 _ h1.1 h1.2.1)
noncomputable def bestOf (σ : RS) (per n h : Nat) : Nat := Classical.epsilon fun m => BestOf σ per n h m
theorem bestOf_eq {σ : RS} {per n h m : Nat} (hb : BestOf σ per n h m) : bestOf σ per n h = m := (Classical.epsilon_spec (p := fun m => BestOf σ per n h m) ⟨m, hb⟩).uniq hb
/-- Too many fine ones: the best becomes coarse. -/
noncomputable def coarsen (σ : RS) (per n h : Nat) : RS := if 4 < nFine σ n h then σ.put per h (bestOf σ per n h) 3 (fun _ => false) else σ
/-- A card is added to those of its source. -/
def plus (σ : RS) (h c : Nat) : Nat → Bool := fun x => σ.has h x || decide (x = c)
/-- What Add leaves, if the set doesn't have the card. -/
noncomputable def addS (σ : RS) (per n h c : Nat) : RS :=
  if σ.way h (c / per) = 2 then σ.put per h (c / per) 2 (plus σ h c)
  else if cntS (σ.put per h (c / per) 1 (plus σ h c)) per h (c / per) ≤ 4 then σ.put per h (c / per) 1 (plus σ h c)
  else coarsen (σ.put per h (c / per) 2 (plus σ h c)) per n h
theorem Fi.upd {w w3 : World} {tg tg' : Tg} {fB n h : Nat} {p : Nat → Nat → Prop} {q : Nat → Prop} {V : Nat → Value} {F G : List Nat} {A : Option Addr} {c : Nat} {l : List Nat} (H : Fi w tg fB n p V) (hh : h < n) (hf : Fr F w w3) (hF : ∀ b, b ∈ F → tg b = (8, h, 0) ∨ ((tg b).1 ≠ 5 ∧ (tg b).1 ≠ 8))
    (hu : TgUp w tg tg') (hl : Lr w3 3 A l.length c G (zv (ints l))) (hG : ∀ g, g ∈ G → tg' g = (8, h, 0)) (hnd : l.Nodup) (hm : ∀ s, s ∈ l ↔ s < n ∧ q s) :
    Fi (w3.setCell ⟨fB, h, none⟩ (.slice A l.length c)) tg' fB n (fun a b => if a = h then q b else p a b) (putF V h (.slice A l.length c)) := by
  have hF5 : Fr [fB] w3 (w3.setCell ⟨fB, h, none⟩ (.slice A l.length c)) := (Fr.refl _ _).setCell (p := ⟨fB, h, none⟩) (.inl (by simp)) _
  have hb : fB ∉ F := fun hb => by rcases hF _ hb with e | e <;> rw [H.tag] at e <;> simp at e
  have htB : tg' fB = (5, 0, 0) := (hu _ H.row.lt).trans H.tag
  have hrow := (H.row.fr hf hb).put h (.slice A l.length c)
  rw [rowF_set] at hrow
  refine ⟨hrow, htB, fun r hr => ?_⟩
  by_cases e : r = h
  · subst e
    rw [putF_at]
    exact ⟨A, c, G, l, rfl, hl.fr hF5 (fun g hg hg2 => by simp at hg2; subst hg2; have := hG _ hg; rw [htB] at this; cases this), hG, hnd, fun s => by rw [hm s]; simp⟩
  · rw [putF_ne _ _ e]
    refine (((H.own r hr).fr hf (fun b hb hq => ?_) hu).fr hF5 (fun b hb hq => ?_) (TgUp.refl _ _)).congr fun x hx => by simp [e]
    · rcases hF b hb with e2 | e2
      · rw [e2] at hq; injection hq with _ h2; injection h2 with h2; exact e h2.symm
      · rw [hq] at e2; exact e2.2 rfl
    · simp at hb; subst hb; rw [htB] at hq; cases hq
theorem Fi.len {w : World} {tg : Tg} {fB n h : Nat} {σ : RS} {V : Nat → Value} (H : Fi w tg fB n (fun a b => σ.way a b = 2) V) (hh : h < n) : ∃ A c G, ∃ l : List Nat, V h = .slice A l.length c ∧ Lr w 3 A l.length c G (zv (ints l)) ∧ (∀ g, g ∈ G → tg g = (8, h, 0)) ∧ l.Nodup ∧ (∀ s, s ∈ l ↔ s < n ∧ σ.way h s = 2) ∧ l.length = nFine σ n h := by
  obtain ⟨A, c, G, l, e1, e2, e3, e4, e5⟩ := H.own h hh
  exact ⟨A, c, G, l, e1, e2, e3, e4, e5, nodup_cnt _ n l e4 fun s => by rw [e5 s]; simp⟩
end Go.Proofs.YtkbffmmomoeaiaaDoor
