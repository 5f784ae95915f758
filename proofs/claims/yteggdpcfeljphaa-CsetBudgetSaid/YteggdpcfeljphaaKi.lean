/- What lies within a budget. -/
import Derived.Test.YteggdpcfeljphaaL18
namespace Go.Gl
set_option linter.unusedVariables false
/-- What keys cost together. -/
def sumK (l : List (Int × Int)) : Int := (l.map (·.1)).sum
theorem takeB_sum : ∀ (s : List (Int × Int)) (b : Int), takeB s b ≠ [] → sumK (takeB s b) ≤ b
  | [], b, h => absurd rfl h
  | k :: s, b, h => by
    unfold takeB at h ⊢
    by_cases hk : b < k.1
    · rw [if_pos hk] at h; exact absurd rfl h
    · rw [if_neg hk]
      by_cases h0 : takeB s (b - k.1) = []
      · rw [h0]; simp [sumK]; omega
      · have := takeB_sum s (b - k.1) h0
        simp only [sumK, List.map_cons, List.sum_cons] at *
        omega
theorem takeB_more : ∀ (s : List (Int × Int)) (b : Int), s.Pairwise kle → ∀ x, x ∈ s → x ∉ takeB s b → b < sumK (takeB s b) + x.1
  | [], b, _, x, hx, _ => by cases hx
  | k :: s, b, hp, x, hx, hn => by
    obtain ⟨p1, p2⟩ := List.pairwise_cons.1 hp
    unfold takeB at hn ⊢
    by_cases hk : b < k.1
    · rw [if_pos hk]
      have : kle k x := by
        rcases List.mem_cons.1 hx with rfl | h
        · exact kle_refl _
        · exact p1 _ h
      unfold kle at this
      simp [sumK]; omega
    · rw [if_neg hk] at hn ⊢
      rcases List.mem_cons.1 hx with rfl | h
      · exact absurd (by simp) hn
      · have := takeB_more s (b - k.1) p2 x h (fun h2 => hn (by simp [h2]))
        simp only [sumK, List.map_cons, List.sum_cons] at *
        omega
theorem takeB_cheap : ∀ (s : List (Int × Int)) (b : Int), s.Pairwise kle → ∀ y x, y ∈ takeB s b → x ∈ s → x ∉ takeB s b → y.1 ≤ x.1
  | [], b, _, y, x, hy, _, _ => by simp [takeB] at hy
  | k :: s, b, hp, y, x, hy, hx, hn => by
    obtain ⟨p1, p2⟩ := List.pairwise_cons.1 hp
    unfold takeB at hn hy
    by_cases hk : b < k.1
    · rw [if_pos hk] at hy; cases hy
    · rw [if_neg hk] at hn hy
      have hxs : x ∈ s := by
        rcases List.mem_cons.1 hx with rfl | h
        · exact absurd (by simp) hn
        · exact h
      rcases List.mem_cons.1 hy with rfl | h
      · have := p1 _ hxs; unfold kle at this; omega
      · exact takeB_cheap s (b - k.1) p2 y x h hxs (fun h2 => hn (by simp [h2]))
theorem perm_of_same (a b : List Int) (ha : a.Nodup) (hb : b.Nodup) (h : ∀ x, x ∈ a ↔ x ∈ b) : a.Perm b := (List.perm_ext_iff_of_nodup ha hb).2 h
theorem sum_perm {a b : List Int} (h : a.Perm b) : a.sum = b.sum := by
  induction h with
  | nil => rfl
  | cons x _ ih => simp [ih]
  | swap x y l => simp; omega
  | trans _ _ h1 h2 => exact h1.trans h2
/-- Candidates numbered from 0 on. -/
def candN (n : Nat) (F : Nat → Int) : List (Int × Int) := (List.range n).map fun i : Nat => ((i : Int), F i)
/-- What of a candidate that is told by its number. -/
def costAt (F : Nat → Int) (x : Int) : Int := F x.toNat
/-- What a budget does for such candidates. -/
theorem budget_facts {n : Nat} {F : Nat → Int} (hF : ∀ i, 0 ≤ F i) {b : Int} {r : List Int} (h : IsSet (Chosen [] (candN n F) b) r) :
    (∀ x, x ∈ r → ∃ i : Nat, i < n ∧ x = (i : Int)) ∧ (r ≠ [] → (r.map (costAt F)).sum ≤ b) ∧ (∀ i : Nat, i < n → (i : Int) ∉ r → b < (r.map (costAt F)).sum + F i) ∧ (∀ i : Nat, i < n → (i : Int) ∉ r → ∀ x, x ∈ r → costAt F x ≤ F i) := by
  obtain ⟨s, hs⟩ := Srt.some ((candN n F).map keyC)
  have hm : ∀ x, x ∈ r ↔ x ∈ (takeB s b).map (·.2) := fun x => by rw [h.mem, chosen_iff hs]; simp
  have hk : ∀ k, k ∈ s → ∃ i : Nat, i < n ∧ k = (F i, (i : Int)) := fun k hk => by
    have := hs.perm.mem_iff.1 hk
    simp only [candN, List.map_map, List.mem_map, List.mem_range, Function.comp] at this
    obtain ⟨i, hi, rfl⟩ := this
    refine ⟨i, hi, ?_⟩
    have := hF i
    show (max (F i) 0, (i : Int)) = _
    rw [show max (F i) 0 = F i by omega]
  have hin : ∀ i : Nat, i < n → (F i, (i : Int)) ∈ s := fun i hi => by
    refine hs.perm.mem_iff.2 ?_
    simp only [candN, List.map_map, List.mem_map, List.mem_range, Function.comp]
    refine ⟨i, hi, ?_⟩
    have := hF i
    show (max (F i) 0, (i : Int)) = _
    rw [show max (F i) 0 = F i by omega]
  have hsub := takeB_sub s b
  have hnd : (s.map (·.2)).Nodup := by
    have hp := hs.perm.map (·.2)
    refine hp.nodup_iff.2 ?_
    simp only [candN, List.map_map]
    refine List.pairwise_map.2 (List.nodup_range.imp fun {a b} hab he => hab ?_)
    have : (a : Int) = (b : Int) := he
    omega
  have hnr : r.Nodup := h.up.imp fun h => by omega
  have hpr : r.Perm ((takeB s b).map (·.2)) := perm_of_same _ _ hnr (List.Pairwise.sublist (hsub.map _) hnd) hm
  have hsum : (r.map (costAt F)).sum = sumK (takeB s b) := by
    have e1 : (r.map (costAt F)).sum = (((takeB s b).map (·.2)).map (costAt F)).sum := sum_perm (hpr.map _)
    rw [e1, List.map_map]
    unfold sumK
    congr 1
    refine List.map_congr_left fun k hkt => ?_
    obtain ⟨i, hi, rfl⟩ := hk k (hsub.subset hkt)
    simp [costAt]
  have hout : ∀ i : Nat, (i : Int) ∉ r → (F i, (i : Int)) ∉ takeB s b := fun i hi hmem => hi ((hm _).2 (List.mem_map.2 ⟨_, hmem, rfl⟩))
  refine ⟨fun x hx => ?_, fun hr => ?_, fun i hi hir => ?_, fun i hi hir x hx => ?_⟩
  · obtain ⟨k, hkt, rfl⟩ := List.mem_map.1 ((hm x).1 hx)
    obtain ⟨i, hi, rfl⟩ := hk k (hsub.subset hkt)
    exact ⟨i, hi, rfl⟩
  · rw [hsum]
    refine takeB_sum s b fun h0 => hr ?_
    rw [h0] at hpr
    exact hpr.eq_nil
  · rw [hsum]
    exact takeB_more s b hs.up _ (hin i hi) (hout i hir)
  · obtain ⟨k, hkt, rfl⟩ := List.mem_map.1 ((hm x).1 hx)
    have h1 := takeB_cheap s b hs.up k _ hkt (hin i hi) (hout i hir)
    obtain ⟨j, hj, rfl⟩ := hk k (hsub.subset hkt)
    simpa [costAt] using h1
/-- The greatest of what has been gone through. -/
def mostF (F : Nat → Int) (r : List Int) (k : Nat) : Int := (r.take k).foldl (fun m x => max m (costAt F x)) (-1)
def sumF (F : Nat → Int) (r : List Int) (k : Nat) : Int := ((r.take k).map (costAt F)).sum
theorem mostF_succ (F : Nat → Int) {r : List Int} {k : Nat} (h : k < r.length) : mostF F r (k + 1) = max (mostF F r k) (costAt F (r.getD k 0)) := by
  unfold mostF
  have e : r.take (k + 1) = r.take k ++ [r.getD k 0] := by rw [List.take_add_one]; simp [h]
  rw [e, List.foldl_append]; rfl
theorem sumF_succ (F : Nat → Int) {r : List Int} {k : Nat} (h : k < r.length) : sumF F r (k + 1) = sumF F r k + costAt F (r.getD k 0) := by
  unfold sumF
  have e : r.take (k + 1) = r.take k ++ [r.getD k 0] := by rw [List.take_add_one]; simp [h]
  rw [e]; simp
theorem mostF_le {F : Nat → Int} {r : List Int} {z : Int} (hz : -1 ≤ z) : ∀ k, k ≤ r.length → (∀ x, x ∈ r → costAt F x ≤ z) → mostF F r k ≤ z
  | 0, _, _ => by simpa [mostF] using hz
  | k + 1, hk, h => by
    rw [mostF_succ F (by omega)]
    have h1 := mostF_le hz k (by omega) h
    have h2 := h (r.getD k 0) (by have : k < r.length := by omega
                                  simp [this])
    omega
theorem sumF_bounds {F : Nat → Int} (hF : ∀ i, 0 ≤ F i ∧ F i ≤ 65535) {r : List Int} : ∀ k, k ≤ r.length → 0 ≤ sumF F r k ∧ sumF F r k ≤ 65535 * (k : Int)
  | 0, _ => by simp [sumF]
  | k + 1, hk => by
    rw [sumF_succ F (by omega)]
    obtain ⟨h1, h2⟩ := sumF_bounds hF (r := r) k (by omega)
    have := hF (r.getD k 0).toNat
    unfold costAt
    exact ⟨by omega, by push_cast; omega⟩
theorem mostF_bounds {F : Nat → Int} (hF : ∀ i, 0 ≤ F i ∧ F i ≤ 65535) {r : List Int} : ∀ k, k ≤ r.length → -1 ≤ mostF F r k ∧ mostF F r k ≤ 65535
  | 0, _ => by simp [mostF]
  | k + 1, hk => by
    rw [mostF_succ F (by omega)]
    obtain ⟨h1, h2⟩ := mostF_bounds hF (r := r) k (by omega)
    have := hF (r.getD k 0).toNat
    unfold costAt
    omega
theorem sumF_all (F : Nat → Int) (r : List Int) : sumF F r r.length = (r.map (costAt F)).sum := by simp [sumF]
end Go.Gl
