/- Two abstract heaps, of which the second has more in it: what a thread shares with nobody looks the same in both. -/
import Derived.Test.YtmodjkglcgoohaaGp
namespace Go.Proofs.Ytmodjkglcgoohaa
set_option linter.unusedVariables false
set_option linter.unusedSimpArgs false
open Go.RowKit Go.Gl

section
variable {l : List Int} {ρ : Int → Int} {a : Int} {B : Nat}
theorem map_in : hkIn (l.map ρ) a ↔ hkIn l a := by unfold hkIn; simp
theorem map_at (z : ρ 0 = 0) : hkAt (l.map ρ) a = ρ (hkAt l a) := by
  unfold hkAt
  by_cases h : hkIn l a
  · rw [if_pos h, if_pos (map_in.2 h)]
    unfold hkIn at h
    have : a.toNat < l.length := by omega
    simp [this]
  · rw [if_neg h, if_neg (fun h' => h (map_in.1 h')), z]
theorem map_atE : hkAtE (l.map ρ) a = hkAtE l a := by
  unfold hkAtE
  by_cases h : hkIn l a
  · rw [if_pos h, if_pos (map_in.2 h)]
  · rw [if_neg h, if_neg (fun h' => h (map_in.1 h'))]
theorem map_push (r : Int) : hkPush B (l.map ρ) (ρ r) = (hkPush B l r).map ρ := by
  unfold hkPush
  rw [List.length_map]
  split
  · simp
  · rfl
theorem map_pushE : hkPushE B (l.map ρ) = hkPushE B l := by unfold hkPushE; rw [List.length_map]
theorem map_pop : hkPop (l.map ρ) = (hkPop l).map ρ := by unfold hkPop; rw [List.length_map, List.map_take]
theorem map_popE : hkPopE (l.map ρ) = hkPopE l := by unfold hkPopE; rw [List.length_map]
end
/-- One of the first heap's objects, in the second. -/
def Img (ρ : Int → Int) (σ : GS) (y : Int) : Prop := ∃ x, 1 ≤ x ∧ x ≤ (σ.N : Int) ∧ ρ x = y
structure Ap (ρ : Int → Int) (σ τ : GS) : Prop where
  z : ρ 0 = 0
  inj : ∀ x y, 0 ≤ x → x ≤ (σ.N : Int) → 0 ≤ y → y ≤ (σ.N : Int) → ρ x = ρ y → x = y
  rng : ∀ x, 1 ≤ x → x ≤ (σ.N : Int) → 1 ≤ ρ x ∧ ρ x ≤ (τ.N : Int)
  st : τ.st 0 = (σ.st 0).map ρ
  np : ∀ x, 1 ≤ x → x ≤ (σ.N : Int) → τ.np (ρ x) = σ.np x
  nw : ∀ x, 1 ≤ x → x ≤ (σ.N : Int) → τ.nw (ρ x) = σ.nw x
  ref : ∀ x, 1 ≤ x → x ≤ (σ.N : Int) → ∀ j, τ.ref (ρ x) j = ρ (σ.ref x j)
  dat : ∀ x, 1 ≤ x → x ≤ (σ.N : Int) → ∀ j, τ.dat (ρ x) j = σ.dat x j
  done : τ.done 0 = σ.done 0
  own1 : ∀ y, y ∈ τ.st 1 → ¬ Img ρ σ y
  own2 : ∀ y, 1 ≤ y → y ≤ (τ.N : Int) → ¬ Img ρ σ y → ∀ j, ¬ Img ρ σ (τ.ref y j)
theorem Ap.zero : Ap id G0 G0 := ⟨rfl, fun x y _ _ _ _ h => h, fun x h1 h2 => by simp [G0] at h2; omega, rfl, fun x h1 h2 => rfl, fun x h1 h2 => rfl, fun x h1 h2 j => rfl, fun x h1 h2 j => rfl, rfl, fun y hy => by simp [G0] at hy, fun y h1 h2 => by simp [G0] at h2; omega⟩
section
variable {ρ : Int → Int} {σ τ : GS} {B M T : Nat} {t : Nat}
theorem Ap.no0 (h : Ap ρ σ τ) : ¬ Img ρ σ 0 := fun ⟨x, h1, h2, h3⟩ => by have := (h.rng x h1 h2).1; omega
theorem Ap.at0 (h : Ap ρ σ τ) (a : Int) : hkAt (τ.st 0) a = ρ (hkAt (σ.st 0) a) := by rw [h.st, map_at h.z]
theorem Ap.eq0 (h : Ap ρ σ τ) {x : Int} (h0 : 0 ≤ x) (h2 : x ≤ (σ.N : Int)) : ρ x = 0 ↔ x = 0 := ⟨fun e => h.inj x 0 h0 h2 (by omega) (by omega) (by rw [e, h.z]), fun e => by rw [e, h.z]⟩
theorem Ap.push (h : Ap ρ σ τ) (r : Int) : Ap ρ (σ.push B 0 r) (τ.push B 0 (ρ r)) := by
  refine ⟨h.z, h.inj, h.rng, ?_, h.np, h.nw, h.ref, h.dat, h.done, fun y hy => ?_, h.own2⟩
  · show setF τ.st 0 (hkPush B (τ.st 0) (ρ r)) 0 = (setF σ.st 0 (hkPush B (σ.st 0) r) 0).map ρ
    rw [setF_at, setF_at, h.st, map_push]
  · have hy : y ∈ setF τ.st 0 (hkPush B (τ.st 0) (ρ r)) 1 := hy
    rw [setF_ne _ _ (by decide)] at hy
    exact h.own1 y hy
theorem Ap.push1 (h : Ap ρ σ τ) {y : Int} (hy : ¬ Img ρ σ y) : Ap ρ σ (τ.push B 1 y) := by
  refine ⟨h.z, h.inj, h.rng, ?_, h.np, h.nw, h.ref, h.dat, h.done, fun x hx => ?_, h.own2⟩
  · show setF τ.st 1 (hkPush B (τ.st 1) y) 0 = _
    rw [setF_ne _ _ (by decide)]
    exact h.st
  · have hx : x ∈ setF τ.st 1 (hkPush B (τ.st 1) y) 1 := hx
    rw [setF_at] at hx
    unfold hkPush at hx
    split at hx
    · rcases List.mem_append.1 hx with h1 | h1
      · exact h.own1 x h1
      · simp at h1; rw [h1]; exact hy
    · exact h.own1 x hx
theorem Ap.pop (h : Ap ρ σ τ) : Ap ρ (popS σ 0) (popS τ 0) := by
  refine ⟨h.z, h.inj, h.rng, ?_, h.np, h.nw, h.ref, h.dat, h.done, fun y hy => ?_, h.own2⟩
  · show setF τ.st 0 (hkPop (τ.st 0)) 0 = (setF σ.st 0 (hkPop (σ.st 0)) 0).map ρ
    rw [setF_at, setF_at, h.st, map_pop]
  · have hy : y ∈ setF τ.st 0 (hkPop (τ.st 0)) 1 := hy
    rw [setF_ne _ _ (by decide)] at hy
    exact h.own1 y hy
theorem Ap.pop1 (h : Ap ρ σ τ) : Ap ρ σ (popS τ 1) := by
  refine ⟨h.z, h.inj, h.rng, ?_, h.np, h.nw, h.ref, h.dat, h.done, fun x hx => ?_, h.own2⟩
  · show setF τ.st 1 (hkPop (τ.st 1)) 0 = _
    rw [setF_ne _ _ (by decide)]
    exact h.st
  · have hx : x ∈ setF τ.st 1 (hkPop (τ.st 1)) 1 := hx
    rw [setF_at] at hx
    exact h.own1 x (List.mem_of_mem_take hx)
theorem Ap.setRef (h : Ap ρ σ τ) {x y b : Int} (x1 : 1 ≤ x) (x2 : x ≤ (σ.N : Int)) : Ap ρ (σ.setRef x b y) (τ.setRef (ρ x) b (ρ y)) := by
  refine ⟨h.z, h.inj, h.rng, h.st, h.np, h.nw, fun u u1 u2 j => ?_, h.dat, h.done, h.own1, fun u u1 u2 hu j => ?_⟩
  · show setF τ.ref (ρ x) (setF (τ.ref (ρ x)) b (ρ y)) (ρ u) j = ρ (setF σ.ref x (setF (σ.ref x) b y) u j)
    by_cases e : u = x
    · subst e
      rw [setF_at, setF_at]
      by_cases e2 : j = b
      · subst e2; rw [setF_at, setF_at]
      · rw [setF_ne _ _ e2, setF_ne _ _ e2]; exact h.ref u u1 u2 j
    · rw [setF_ne _ _ (fun e' => e (h.inj u x (by omega) u2 (by omega) x2 e')), setF_ne _ _ e]
      exact h.ref u u1 u2 j
  · show ¬ Img ρ σ (setF τ.ref (ρ x) (setF (τ.ref (ρ x)) b (ρ y)) u j)
    rw [setF_ne _ _ (fun e => hu ⟨x, x1, x2, e.symm⟩)]
    exact h.own2 u u1 u2 hu j
theorem Ap.setRef1 (h : Ap ρ σ τ) {y b v : Int} (hy : ¬ Img ρ σ y) (hv : ¬ Img ρ σ v) : Ap ρ σ (τ.setRef y b v) := by
  refine ⟨h.z, h.inj, h.rng, h.st, h.np, h.nw, fun u u1 u2 j => ?_, h.dat, h.done, h.own1, fun u u1 u2 hu j => ?_⟩
  · show setF τ.ref y (setF (τ.ref y) b v) (ρ u) j = _
    rw [setF_ne _ _ (fun e => hy ⟨u, u1, u2, e⟩)]
    exact h.ref u u1 u2 j
  · show ¬ Img ρ σ (setF τ.ref y (setF (τ.ref y) b v) u j)
    by_cases e : u = y
    · subst e
      rw [setF_at]
      by_cases e2 : j = b
      · subst e2; rw [setF_at]; exact hv
      · rw [setF_ne _ _ e2]; exact h.own2 u u1 u2 hu j
    · rw [setF_ne _ _ e]
      exact h.own2 u u1 u2 hu j
theorem Ap.setDat (h : Ap ρ σ τ) {x b v : Int} (x1 : 1 ≤ x) (x2 : x ≤ (σ.N : Int)) : Ap ρ (σ.setDat x b v) (τ.setDat (ρ x) b v) := by
  refine ⟨h.z, h.inj, h.rng, h.st, h.np, h.nw, h.ref, fun u u1 u2 j => ?_, h.done, h.own1, h.own2⟩
  show setF τ.dat (ρ x) (setF (τ.dat (ρ x)) b v) (ρ u) j = setF σ.dat x (setF (σ.dat x) b v) u j
  by_cases e : u = x
  · subst e
    rw [setF_at, setF_at]
    by_cases e2 : j = b
    · subst e2; rw [setF_at, setF_at]
    · rw [setF_ne _ _ e2, setF_ne _ _ e2]; exact h.dat u u1 u2 j
  · rw [setF_ne _ _ (fun e' => e (h.inj u x (by omega) u2 (by omega) x2 e')), setF_ne _ _ e]
    exact h.dat u u1 u2 j
theorem Ap.setDat1 (h : Ap ρ σ τ) {y b v : Int} (hy : ¬ Img ρ σ y) : Ap ρ σ (τ.setDat y b v) := by
  refine ⟨h.z, h.inj, h.rng, h.st, h.np, h.nw, h.ref, fun u u1 u2 j => ?_, h.done, h.own1, h.own2⟩
  show setF τ.dat y (setF (τ.dat y) b v) (ρ u) j = _
  rw [setF_ne _ _ (fun e => hy ⟨u, u1, u2, e⟩)]
  exact h.dat u u1 u2 j
theorem Ap.tick0 (h : Ap ρ σ τ) : Ap ρ (σ.tick 0) (τ.tick 0) := by
  refine ⟨h.z, h.inj, h.rng, h.st, h.np, h.nw, h.ref, h.dat, ?_, h.own1, h.own2⟩
  show setF τ.done 0 (τ.done 0 + 1) 0 = setF σ.done 0 (σ.done 0 + 1) 0
  rw [setF_at, setF_at, h.done]
theorem Ap.tick1 (h : Ap ρ σ τ) : Ap ρ σ (τ.tick 1) := by
  refine ⟨h.z, h.inj, h.rng, h.st, h.np, h.nw, h.ref, h.dat, ?_, h.own1, h.own2⟩
  show setF τ.done 1 (τ.done 1 + 1) 0 = _
  rw [setF_ne _ _ (by decide)]
  exact h.done
theorem Ap.new (h : Ap ρ σ τ) (okσ : GOk 2 B σ) (okτ : GOk 2 B τ) (a b : Int) : Ap (setF ρ ((σ.N : Int) + 1) ((τ.N : Int) + 1)) (σ.new a b) (τ.new a b) := by
  have hN : (((σ.new a b).N : Nat) : Int) = (σ.N : Int) + 1 := by show ((σ.N + 1 : Nat) : Int) = _; omega
  have hM : (((τ.new a b).N : Nat) : Int) = (τ.N : Int) + 1 := by show ((τ.N + 1 : Nat) : Int) = _; omega
  have old : ∀ x, x ≤ (σ.N : Int) → setF ρ ((σ.N : Int) + 1) ((τ.N : Int) + 1) x = ρ x := fun x hx => setF_ne _ _ (by omega)
  have lt : ∀ x, 0 ≤ x → x ≤ (σ.N : Int) → ρ x ≤ (τ.N : Int) := fun x h0 h2 => by
    by_cases e : x = 0
    · rw [e, h.z]; omega
    · exact (h.rng x (by omega) h2).2
  have img : ∀ y, y ≤ (τ.N : Int) → ¬ Img ρ σ y → ¬ Img (setF ρ ((σ.N : Int) + 1) ((τ.N : Int) + 1)) (σ.new a b) y := fun y hy hn ⟨x, x1, x2, x3⟩ => by
    rw [hN] at x2
    by_cases e : x = (σ.N : Int) + 1
    · rw [e, setF_at] at x3; omega
    · rw [old x (by omega)] at x3
      exact hn ⟨x, x1, by omega, x3⟩
  have imgn : ∀ y, ¬ Img (setF ρ ((σ.N : Int) + 1) ((τ.N : Int) + 1)) (σ.new a b) y → ¬ Img ρ σ y ∧ y ≠ (τ.N : Int) + 1 := fun y hn =>
    ⟨fun ⟨x, x1, x2, x3⟩ => hn ⟨x, x1, by rw [hN]; omega, by rw [old x x2]; exact x3⟩, fun e => hn ⟨(σ.N : Int) + 1, by omega, by rw [hN]; omega, by rw [setF_at, e]⟩⟩
  refine ⟨?_, fun x y x0 x2 y0 y2 e => ?_, fun x x1 x2 => ?_, ?_, fun x x1 x2 => ?_, fun x x1 x2 => ?_, fun x x1 x2 j => ?_, fun x x1 x2 j => ?_, h.done, fun y hy => ?_, fun y y1 y2 hy j => ?_⟩
  · rw [old 0 (by omega), h.z]
  · rw [hN] at x2 y2
    by_cases ex : x = (σ.N : Int) + 1
    · by_cases ey : y = (σ.N : Int) + 1
      · omega
      · rw [ex, setF_at, old y (by omega)] at e
        have := lt y y0 (by omega)
        omega
    · by_cases ey : y = (σ.N : Int) + 1
      · rw [ey, setF_at, old x (by omega)] at e
        have := lt x x0 (by omega)
        omega
      · rw [old x (by omega), old y (by omega)] at e
        exact h.inj x y x0 (by omega) y0 (by omega) e
  · rw [hN] at x2
    rw [hM]
    by_cases ex : x = (σ.N : Int) + 1
    · rw [ex, setF_at]; omega
    · rw [old x (by omega)]
      have := h.rng x x1 (by omega)
      omega
  · show τ.st 0 = (σ.st 0).map _
    rw [h.st]
    apply List.map_congr_left
    intro r hr
    rw [old r (okσ.mem 0 r hr).2]
  · rw [hN] at x2
    show setF τ.np _ _ _ = setF σ.np _ _ _
    by_cases ex : x = (σ.N : Int) + 1
    · rw [ex, setF_at, setF_at, setF_at]
    · rw [old x (by omega), setF_ne _ _ ex, setF_ne _ _ (by have := (h.rng x x1 (by omega)).2; omega)]
      exact h.np x x1 (by omega)
  · rw [hN] at x2
    show setF τ.nw _ _ _ = setF σ.nw _ _ _
    by_cases ex : x = (σ.N : Int) + 1
    · rw [ex, setF_at, setF_at, setF_at]
    · rw [old x (by omega), setF_ne _ _ ex, setF_ne _ _ (by have := (h.rng x x1 (by omega)).2; omega)]
      exact h.nw x x1 (by omega)
  · rw [hN] at x2
    show setF τ.ref _ _ _ j = setF ρ _ _ (setF σ.ref _ _ _ j)
    by_cases ex : x = (σ.N : Int) + 1
    · rw [ex, setF_at, setF_at, setF_at, old 0 (by omega), h.z]
    · rw [old x (by omega), setF_ne _ _ ex, setF_ne _ _ (by have := (h.rng x x1 (by omega)).2; omega), old _ (okσ.ref x j).2]
      exact h.ref x x1 (by omega) j
  · rw [hN] at x2
    show setF τ.dat _ _ _ j = setF σ.dat _ _ _ j
    by_cases ex : x = (σ.N : Int) + 1
    · rw [ex, setF_at, setF_at, setF_at]
    · rw [old x (by omega), setF_ne _ _ ex, setF_ne _ _ (by have := (h.rng x x1 (by omega)).2; omega)]
      exact h.dat x x1 (by omega) j
  · exact img y (okτ.mem 1 y hy).2 (h.own1 y hy)
  · obtain ⟨n1, n2⟩ := imgn y hy
    rw [hM] at y2
    show ¬ Img _ _ (setF τ.ref _ _ y j)
    rw [setF_ne _ _ n2]
    exact img _ (okτ.ref y j).2 (h.own2 y y1 (by omega) n1 j)
theorem Ap.new1 (h : Ap ρ σ τ) (a b : Int) : Ap ρ σ (τ.new a b) ∧ ¬ Img ρ σ ((τ.N : Int) + 1) := by
  have hM : (((τ.new a b).N : Nat) : Int) = (τ.N : Int) + 1 := by show ((τ.N + 1 : Nat) : Int) = _; omega
  have hi : ¬ Img ρ σ ((τ.N : Int) + 1) := fun ⟨x, x1, x2, x3⟩ => by have := (h.rng x x1 x2).2; omega
  refine ⟨⟨h.z, h.inj, fun x x1 x2 => ?_, h.st, fun x x1 x2 => ?_, fun x x1 x2 => ?_, fun x x1 x2 j => ?_, fun x x1 x2 j => ?_, h.done, h.own1, fun y y1 y2 hy j => ?_⟩, hi⟩
  · rw [hM]; have := h.rng x x1 x2; omega
  · show setF τ.np _ _ _ = _
    rw [setF_ne _ _ (by have := (h.rng x x1 x2).2; omega)]
    exact h.np x x1 x2
  · show setF τ.nw _ _ _ = _
    rw [setF_ne _ _ (by have := (h.rng x x1 x2).2; omega)]
    exact h.nw x x1 x2
  · show setF τ.ref _ _ _ j = _
    rw [setF_ne _ _ (by have := (h.rng x x1 x2).2; omega)]
    exact h.ref x x1 x2 j
  · show setF τ.dat _ _ _ j = _
    rw [setF_ne _ _ (by have := (h.rng x x1 x2).2; omega)]
    exact h.dat x x1 x2 j
  · rw [hM] at y2
    show ¬ Img _ _ (setF τ.ref _ _ y j)
    by_cases e : y = (τ.N : Int) + 1
    · rw [e, setF_at]; exact h.no0
    · rw [setF_ne _ _ e]
      exact h.own2 y y1 (by omega) hy j
theorem Ap.at1 (h : Ap ρ σ τ) (a : Int) : ¬ Img ρ σ (hkAt (τ.st 1) a) := by
  unfold hkAt
  by_cases hi : hkIn (τ.st 1) a
  · rw [if_pos hi]
    unfold hkIn at hi
    have : a.toNat < (τ.st 1).length := by omega
    exact h.own1 _ (by simp [this])
  · rw [if_neg hi]; exact h.no0
theorem Ap.objE0 (h : Ap ρ σ τ) (ok : GOk 2 B σ) (a : Int) : objE τ 0 a = objE σ 0 a := by
  unfold objE
  rw [h.at0 a]
  have hb := ok.at 0 a
  have hin : hkIn (τ.st 0) a ↔ hkIn (σ.st 0) a := by rw [h.st]; exact map_in
  by_cases hi : hkIn (σ.st 0) a
  · rw [if_pos hi, if_pos (hin.2 hi)]
    by_cases e : hkAt (σ.st 0) a = 0
    · rw [if_pos e, if_pos ((h.eq0 hb.1 hb.2).2 e)]
    · rw [if_neg e, if_neg (fun e' => e ((h.eq0 hb.1 hb.2).1 e'))]
  · rw [if_neg hi, if_neg (fun h' => hi (hin.1 h'))]
theorem objE_pos {σ : GS} {t : Nat} {a : Int} (ok : GOk 2 B σ) (h : objE σ t a = 0) : 1 ≤ hkAt (σ.st t) a ∧ hkAt (σ.st t) a ≤ (σ.N : Int) := by
  have hb := ok.at t a
  unfold objE at h
  split at h
  · split at h
    · exact absurd h (by decide)
    · omega
  · exact absurd h (by decide)
/-- What another thread does. -/
theorem Ap.other (h : Ap ρ σ τ) (okτ : GOk 2 B τ) (o : Po) (hk : o.k ≠ 13) : Ap ρ σ (actS B M 2 τ 1 o) := by
  unfold actS
  by_cases h1 : o.k = 1
  · rw [if_pos h1]
    unfold allocS
    split
    · exact h
    · split
      · obtain ⟨n1, n2⟩ := h.new1 o.a o.b
        exact n1.push1 n2
      · exact h
  rw [if_neg h1]
  by_cases h2 : o.k = 2
  · rw [if_pos h2]
    unfold loadS
    split
    · rename_i hs
      obtain ⟨p1, p2⟩ := objE_pos okτ hs.1
      exact h.push1 (h.own2 _ p1 p2 (h.at1 o.a) o.b)
    · exact h
  rw [if_neg h2]
  by_cases h3 : o.k = 3
  · rw [if_pos h3]
    unfold storeS
    split
    · exact h.setRef1 (h.at1 o.a) (h.at1 o.c)
    · exact h
  rw [if_neg h3]
  by_cases h5 : o.k = 5
  · rw [if_pos h5]
    unfold writeS
    split
    · exact h.setDat1 (h.at1 o.a)
    · exact h
  rw [if_neg h5]
  by_cases h6 : o.k = 6
  · rw [if_pos h6]
    exact h.push1 h.no0
  rw [if_neg h6]
  by_cases h7 : o.k = 7
  · rw [if_pos h7]
    exact h.pop1
  rw [if_neg h7]
  by_cases h8 : o.k = 8
  · rw [if_pos h8]
    unfold dupS
    split
    · exact h.push1 (h.at1 o.a)
    · exact h
  rw [if_neg h8, if_neg hk]
  exact h
theorem Ap.fin (h : Ap ρ σ τ) {x : Int} (x1 : 1 ≤ x) (x2 : x ≤ (σ.N : Int)) (b : Int) : (fieldIn (τ.np (ρ x)) b ↔ fieldIn (σ.np x) b) ∧ (fieldIn (τ.nw (ρ x)) b ↔ fieldIn (σ.nw x) b) := by
  rw [h.np x x1 x2, h.nw x x1 x2]
  exact ⟨Iff.rfl, Iff.rfl⟩
theorem Ap.wordE (h : Ap ρ σ τ) (ok : GOk 2 B σ) (a b : Int) : wordE τ 0 a b = wordE σ 0 a b := by
  unfold Go.Proofs.Ytmodjkglcgoohaa.wordE
  rw [h.objE0 ok a]
  by_cases e : objE σ 0 a = 0
  · obtain ⟨p1, p2⟩ := objE_pos ok e
    rw [h.at0 a, h.nw _ p1 p2]
  · rw [if_pos e, if_pos e]
theorem Ap.storeE (h : Ap ρ σ τ) (ok : GOk 2 B σ) (a b c : Int) : storeE τ 0 a b c = storeE σ 0 a b c := by
  unfold Go.Proofs.Ytmodjkglcgoohaa.storeE
  rw [h.objE0 ok a]
  have hin : hkIn (τ.st 0) c ↔ hkIn (σ.st 0) c := by rw [h.st]; exact map_in
  by_cases hc : hkIn (σ.st 0) c
  · rw [if_pos hc, if_pos (hin.2 hc)]
    by_cases e : objE σ 0 a = 0
    · obtain ⟨p1, p2⟩ := objE_pos ok e
      rw [h.at0 a, h.np _ p1 p2]
    · rw [if_pos e, if_pos e]
  · rw [if_neg hc, if_neg (fun h' => hc (hin.1 h'))]
theorem wordE_pos {σ : GS} {t : Nat} {a b : Int} (h : wordE σ t a b = 0) : objE σ t a = 0 := by
  unfold wordE at h
  split at h
  · rename_i h1; exact absurd h h1
  · rename_i h1; simpa using h1
theorem storeE_pos {σ : GS} {t : Nat} {a b c : Int} (h : storeE σ t a b c = 0) : objE σ t a = 0 := by
  unfold storeE at h
  split at h
  · split at h
    · rename_i h1; exact absurd h h1
    · rename_i h1; simpa using h1
  · exact absurd h (by decide)
/-- What the thread itself does. -/
theorem Ap.self (h : Ap ρ σ τ) (okσ : GOk 2 B σ) (okτ : GOk 2 B τ) (o : Po) (hk : o.k ≠ 13) : actA B M 2 τ 0 o = actA B M 2 σ 0 o ∧ ∃ ρ', Ap ρ' (actS B M 2 σ 0 o) (actS B M 2 τ 0 o) := by
  have hin : ∀ a, hkIn (τ.st 0) a ↔ hkIn (σ.st 0) a := fun a => by rw [h.st]; exact map_in
  have hpe : hkPushE B (τ.st 0) = hkPushE B (σ.st 0) := by rw [h.st, map_pushE]
  have hln : (τ.st 0).length = (σ.st 0).length := by rw [h.st, List.length_map]
  unfold actA actS
  by_cases h1 : o.k = 1
  · rw [if_pos h1, if_pos h1, if_pos h1, if_pos h1]
    unfold allocE allocS
    rw [hpe, hln]
    refine ⟨rfl, ?_⟩
    split
    · exact ⟨ρ, h⟩
    · split
      · have hn := h.new okσ okτ o.a o.b
        have hp := hn.push (B := B) ((σ.N : Int) + 1)
        rw [setF_at] at hp
        exact ⟨_, hp⟩
      · exact ⟨ρ, h⟩
  rw [if_neg h1, if_neg h1, if_neg h1, if_neg h1]
  by_cases h2 : o.k = 2
  · rw [if_pos h2, if_pos h2, if_pos h2, if_pos h2]
    unfold loadE loadS
    rw [h.objE0 okσ, hpe, h.at0 o.a]
    by_cases e : objE σ 0 o.a = 0
    · obtain ⟨p1, p2⟩ := objE_pos okσ e
      rw [h.np _ p1 p2, h.ref _ p1 p2]
      refine ⟨rfl, ρ, ?_⟩
      split
      · exact h.push _
      · exact h
    · rw [if_pos e, if_pos e, if_neg (fun hx => e hx.1), if_neg (fun hx => e hx.1)]
      exact ⟨rfl, ρ, h⟩
  rw [if_neg h2, if_neg h2, if_neg h2, if_neg h2]
  by_cases h3 : o.k = 3
  · rw [if_pos h3, if_pos h3, if_pos h3, if_pos h3]
    rw [h.storeE okσ]
    refine ⟨rfl, ρ, ?_⟩
    unfold storeS
    rw [h.storeE okσ]
    split
    · rename_i hs
      obtain ⟨p1, p2⟩ := objE_pos okσ (storeE_pos hs)
      rw [h.at0 o.a, h.at0 o.c]
      exact h.setRef p1 p2
    · exact h
  rw [if_neg h3, if_neg h3, if_neg h3, if_neg h3]
  by_cases h4 : o.k = 4
  · rw [if_pos h4, if_pos h4]
    have e8 : ∀ x : GS, (if o.k = 5 then writeS x 0 o.a o.b o.v else if o.k = 6 then x.push B 0 0 else if o.k = 7 then popS x 0 else if o.k = 8 then dupS B x 0 o.a else if o.k = 13 then sendS B 2 x 0 o.a o.b else x) = x := fun x => by
      iterate 5 rw [if_neg (by omega)]
    rw [e8, e8, h.wordE okσ]
    refine ⟨?_, ρ, h⟩
    congr 1
    unfold readV
    rw [h.wordE okσ]
    split
    · rename_i hs
      obtain ⟨p1, p2⟩ := objE_pos okσ (wordE_pos hs)
      rw [h.at0 o.a, h.dat _ p1 p2]
    · rfl
  rw [if_neg h4, if_neg h4]
  by_cases h5 : o.k = 5
  · rw [if_pos h5, if_pos h5, if_pos h5, if_pos h5, h.wordE okσ]
    refine ⟨rfl, ρ, ?_⟩
    unfold writeS
    rw [h.wordE okσ]
    split
    · rename_i hs
      obtain ⟨p1, p2⟩ := objE_pos okσ (wordE_pos hs)
      rw [h.at0 o.a]
      exact h.setDat p1 p2
    · exact h
  rw [if_neg h5, if_neg h5, if_neg h5, if_neg h5]
  by_cases h6 : o.k = 6
  · rw [if_pos h6, if_pos h6, if_pos h6, if_pos h6, hpe]
    have hp := h.push (B := B) 0
    rw [h.z] at hp
    exact ⟨rfl, ρ, hp⟩
  rw [if_neg h6, if_neg h6, if_neg h6, if_neg h6]
  by_cases h7 : o.k = 7
  · rw [if_pos h7, if_pos h7, if_pos h7, if_pos h7]
    rw [show hkPopE (τ.st 0) = hkPopE (σ.st 0) by rw [h.st, map_popE]]
    exact ⟨rfl, ρ, h.pop⟩
  rw [if_neg h7, if_neg h7, if_neg h7, if_neg h7]
  by_cases h8 : o.k = 8
  · rw [if_pos h8, if_pos h8, if_pos h8, if_pos h8]
    unfold dupE dupS
    rw [hpe, h.at0 o.a]
    by_cases hi : hkIn (σ.st 0) o.a
    · rw [if_pos hi, if_pos ((hin _).2 hi), if_pos hi, if_pos ((hin _).2 hi)]
      exact ⟨rfl, ρ, h.push _⟩
    · rw [if_neg hi, if_neg (fun h' => hi ((hin _).1 h')), if_neg hi, if_neg (fun h' => hi ((hin _).1 h'))]
      exact ⟨rfl, ρ, h⟩
  rw [if_neg h8, if_neg h8, if_neg h8, if_neg h8]
  refine ⟨?_, ρ, by rw [if_neg hk, if_neg hk]; exact h⟩
  by_cases h9 : o.k = 9
  · rw [if_pos h9, if_pos h9]
    unfold equalE equalV
    rw [h.at0, h.at0, show hkAtE (τ.st 0) o.b = hkAtE (σ.st 0) o.b by rw [h.st, map_atE]]
    have hb := okσ.at 0 o.a
    have hb2 := okσ.at 0 o.b
    have e : (hkIn (τ.st 0) o.a ∧ hkIn (τ.st 0) o.b ∧ ρ (hkAt (σ.st 0) o.a) = ρ (hkAt (σ.st 0) o.b)) ↔ (hkIn (σ.st 0) o.a ∧ hkIn (σ.st 0) o.b ∧ hkAt (σ.st 0) o.a = hkAt (σ.st 0) o.b) := by
      rw [hin, hin]
      refine and_congr_right fun _ => and_congr_right fun _ => ⟨fun e => h.inj _ _ hb.1 hb.2 hb2.1 hb2.2 e, fun e => by rw [e]⟩
    congr 1
    · by_cases hi : hkIn (σ.st 0) o.a
      · rw [if_pos hi, if_pos ((hin _).2 hi)]
      · rw [if_neg hi, if_neg (fun h' => hi ((hin _).1 h'))]
    · exact decide_eq_decide.2 e
  rw [if_neg h9, if_neg h9]
  by_cases h10 : o.k = 10
  · rw [if_pos h10, if_pos h10]
    unfold isNilV
    rw [h.at0, show hkAtE (τ.st 0) o.a = hkAtE (σ.st 0) o.a by rw [h.st, map_atE]]
    have hb := okσ.at 0 o.a
    congr 1
    exact decide_eq_decide.2 (by rw [hin, h.eq0 hb.1 hb.2])
  rw [if_neg h10, if_neg h10]
  by_cases h11 : o.k = 11
  · rw [if_pos h11, if_pos h11]
  rw [if_neg h11, if_neg h11]
  by_cases h12 : o.k = 12
  · rw [if_pos h12, if_pos h12]
  rw [if_neg h12, if_neg h12, if_neg hk, if_neg hk]
end
/-- .. by Do. -/
theorem Ap.doOther {ρ : Int → Int} {σ τ : GS} {B M : Nat} (h : Ap ρ σ τ) (okτ : GOk 2 B τ) (o : Po) (hk : o.k ≠ 13) : Ap ρ σ (doS B M 2 τ 1 o) := by
  unfold doS
  rw [if_pos (show fieldIn 2 1 by decide)]
  exact (h.tick1).other (okτ.tick _) o hk
theorem Ap.doSelf {ρ : Int → Int} {σ τ : GS} {B M : Nat} (h : Ap ρ σ τ) (okσ : GOk 2 B σ) (okτ : GOk 2 B τ) (o : Po) (hk : o.k ≠ 13) : doV B M 2 τ 0 o = doV B M 2 σ 0 o ∧ ∃ ρ', Ap ρ' (doS B M 2 σ 0 o) (doS B M 2 τ 0 o) := by
  unfold doS doV
  rw [if_pos (show fieldIn 2 0 by decide), if_pos (show fieldIn 2 0 by decide), if_pos (show fieldIn 2 0 by decide), if_pos (show fieldIn 2 0 by decide)]
  refine ⟨?_, (h.tick0.self (okσ.tick _) (okτ.tick _) o hk).2⟩
  rw [show ((0 : Int).toNat) = 0 from rfl, (h.self okσ okτ o hk).1, h.done]
end Go.Proofs.Ytmodjkglcgoohaa
