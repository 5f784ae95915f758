/- Package remset: list. -/
import Derived.Test.YtkmnbaecohhcaaaDoorSp
import Derived.Test.YtkmnbaecohhcaaaDoorB1
import Derived.Test.YtkmnbaecohhcaaaDoorTz
import Derived.Deep.RegionHeld3
import Derived.Deep.CutRange
namespace Go.Proofs.YtkmnbaecohhcaaaDoor
set_option linter.unusedVariables false
set_option linter.unusedSimpArgs false
open Go.RowKit Go.Gl

/-- Strictly rising lists with the same members. -/
theorem up_ext : ∀ {a b : List Int}, a.Pairwise (· < ·) → b.Pairwise (· < ·) → (∀ x, x ∈ a ↔ x ∈ b) → a = b
  | [], [], _, _, _ => rfl
  | [], y :: b, _, _, h => absurd ((h y).2 (by simp)) (by simp)
  | x :: a, [], _, _, h => absurd ((h x).1 (by simp)) (by simp)
  | x :: a, y :: b, ha, hb, h => by
    rw [List.pairwise_cons] at ha hb
    have h1 : x = y := by
      have p1 := (h x).1 (by simp)
      have p2 := (h y).2 (by simp)
      rw [List.mem_cons] at p1 p2
      rcases p1 with p1 | p1
      · exact p1
      rcases p2 with p2 | p2
      · exact p2.symm
      have := hb.1 x p1
      have := ha.1 y p2
      omega
    subst h1
    refine congrArg (x :: ·) (up_ext ha.2 hb.2 fun z => ?_)
    have := h z
    rw [List.mem_cons, List.mem_cons] at this
    constructor
    · intro hz
      have h2 := ha.1 z hz
      rcases this.1 (.inr hz) with h3 | h3
      · omega
      · exact h3
    · intro hz
      have h2 := hb.1 z hz
      rcases this.2 (.inr hz) with h3 | h3
      · omega
      · exact h3
/-- The cards of a source below its k'th that p has. -/
def part (per s : Nat) (p : Nat → Bool) (k : Nat) : List Int := ((List.range k).filter p).map fun i => ((s * per + i : Nat) : Int)
theorem part_zero (per s : Nat) (p : Nat → Bool) : part per s p 0 = [] := rfl
theorem part_yes {per s : Nat} {p : Nat → Bool} {k : Nat} (h : p k = true) : part per s p (k + 1) = part per s p k ++ [((s * per + k : Nat) : Int)] := by
  unfold part
  rw [List.range_succ, List.filter_append, List.map_append]
  simp [h]
theorem part_no {per s : Nat} {p : Nat → Bool} {k : Nat} (h : p k = false) : part per s p (k + 1) = part per s p k := by
  unfold part
  rw [List.range_succ, List.filter_append, List.map_append]
  simp [h]
theorem part_skip {per s : Nat} {p : Nat → Bool} {k : Nat} : ∀ d, (∀ j, k ≤ j → j < k + d → p j = false) → part per s p (k + d) = part per s p k
  | 0, _ => rfl
  | d + 1, h => by rw [← Nat.add_assoc, part_no (h (k + d) (by omega) (by omega)), part_skip d fun j h1 h2 => h j h1 (by omega)]
theorem part_to {per s : Nat} {p : Nat → Bool} {k m : Nat} (hkm : k ≤ m) (h : ∀ j, k ≤ j → j < m → p j = false) : part per s p m = part per s p k := by
  obtain ⟨d, rfl⟩ := Nat.exists_eq_add_of_le hkm
  exact part_skip d h
theorem part_len (per s : Nat) (p : Nat → Bool) (k : Nat) : (part per s p k).length ≤ k := by
  unfold part
  rw [List.length_map]
  exact Nat.le_trans (List.length_filter_le _ _) (by simp)
theorem part_mem {per s : Nat} {p : Nat → Bool} {k : Nat} {x : Int} : x ∈ part per s p k ↔ ∃ i, i < k ∧ p i = true ∧ x = ((s * per + i : Nat) : Int) := by
  unfold part
  rw [List.mem_map]
  constructor
  · rintro ⟨i, hi, rfl⟩
    obtain ⟨h1, h2⟩ := List.mem_filter.1 hi
    exact ⟨i, List.mem_range.1 h1, h2, rfl⟩
  · rintro ⟨i, h1, h2, rfl⟩
    exact ⟨i, List.mem_filter.2 ⟨List.mem_range.2 h1, h2⟩, rfl⟩
theorem part_up (per s : Nat) (p : Nat → Bool) (k : Nat) : (part per s p k).Pairwise (· < ·) := by
  unfold part
  refine List.pairwise_map.2 ((List.Pairwise.filter _ List.pairwise_lt_range).imp fun {a b} h => by omega)
theorem part_congr {per s : Nat} {p q : Nat → Bool} {k : Nat} (h : ∀ i, i < k → p i = q i) : part per s p k = part per s q k := by
  unfold part
  congr 1
  refine List.filter_congr fun i hi => h i (List.mem_range.1 hi)
/-- The cards that the home h has of the source s. -/
def cardsOf (σ : RS) (per h s : Nat) : List Int := part per s (fun i => hasN σ per h (s * per + i)) per
def ListPost (w : World) (G0 : List Nat) (xs : List Int) (e : Ending) (w' : World) : Prop :=
  ∃ A c G, e = .returned (.slice A xs.length c) ∧ Lr w' 3 A xs.length c G (zv xs) ∧ Fr G0 w w' ∧ ∀ g, g ∈ G → g ∈ G0 ∨ w.heap.size ≤ g
def toCome (per : Nat) (v : Value) : Nat := if intOf v < 0 then 0 else per - (intOf v).toNat
theorem toCome_end (per : Nat) : toCome per (.int .i64 (-1)) = 0 := by unfold toCome; exact if_pos (by decide)
theorem toCome_at (per R : Nat) : toCome per (.int .i64 (R : Int)) = per - R := by
  have h : ¬ intOf (.int .i64 (R : Int)) < 0 := by show ¬ (R : Int) < 0; omega
  unfold toCome; rw [if_neg h]; rfl
theorem next_part {ws : List Nat} {per s k : Nat} {p : Nat → Bool} {r : Int} (hp : ∀ i, i < per → wbit ws i = p i) (top : ∀ i, per ≤ i → wbit ws i = false) (hk : k ≤ per) (h : NextIs ws (k : Int) r) :
    (r = -1 ∧ part per s p per = part per s p k) ∨ ∃ R : Nat, r = (R : Int) ∧ R < per ∧ k ≤ R ∧ p R = true ∧ part per s p R = part per s p k := by
  rcases h with ⟨rfl, h⟩ | ⟨R, rfl, h1, h2, h3⟩
  · exact .inl ⟨rfl, part_to hk fun j h1 h2 => by rw [← hp j h2]; exact h j (by omega)⟩
  · have hR : R < per := by
      rcases Nat.lt_or_ge R per with h | h
      · exact h
      · rw [top R h] at h2; cases h2
    exact .inr ⟨R, rfl, hR, by omega, by rw [← hp R hR]; exact h2, part_to (by omega) fun j a b => by rw [← hp j (by omega)]; exact h3 j (by omega) b⟩
section
variable {w : World} {tg : Tg} {sb kb sB hB fB per n : Nat} {σ : RS} {fk : Value → Option Value} {Vs Vh Vf : Nat → Value}
end
end Go.Proofs.YtkmnbaecohhcaaaDoor
/- Package remset: Cards. -/
namespace Go.Proofs.YtkmnbaecohhcaaaDoor
set_option linter.unusedVariables false
set_option linter.unusedSimpArgs false
open Go.RowKit Go.Gl

theorem part_cast {a b i : Nat} (h : a = b) : ((a + i : Nat) : Int) = ((b + i : Nat) : Int) := by rw [h]
theorem part_add (N per s a : Nat) (p : Nat → Bool) (ha : s * per = a) : ∀ b, part N 0 p (a + b) = part N 0 p a ++ part per s (fun i => p (a + i)) b
  | 0 => by rw [part_zero]; simp
  | b + 1 => by
    rw [← Nat.add_assoc]
    cases h : p (a + b) with
    | true => rw [part_yes h, part_add N per s a p ha b, part_yes (p := fun i => p (a + i)) h, ← List.append_assoc, ha, Nat.zero_mul, Nat.zero_add]
    | false => rw [part_no h, part_add N per s a p ha b, part_no (p := fun i => p (a + i)) h]
/-- All sources that the home h has. -/
def srcs (σ : RS) (n h : Nat) : List Nat := (List.range n).filter fun s => decide (σ.way h s ≠ 0)
/-- All cards that the home h has. -/
def allOf (σ : RS) (per n h : Nat) : List Int := part (n * per) 0 (hasN σ per h) (n * per)
theorem srcs_mem {σ : RS} {n h s : Nat} : s ∈ srcs σ n h ↔ s < n ∧ σ.way h s ≠ 0 := by simp [srcs]
theorem srcs_len (σ : RS) (n h : Nat) : (srcs σ n h).length ≤ n := by
  unfold srcs
  exact Nat.le_trans (List.length_filter_le _ _) (by simp)
theorem hasN_none {σ : RS} {per n h : Nat} (ok : SOk per n σ) {c : Nat} (hw : σ.way h (c / per) = 0) : hasN σ per h c = false := by
  unfold hasN
  rw [hw]
  cases hh : σ.has h c with
  | false => rfl
  | true => have := (ok.can h c hh).2; omega
theorem flat_all {σ : RS} {per n h : Nat} (ok : SOk per n σ) : ∀ m, ((List.range m).filter fun s => decide (σ.way h s ≠ 0)).flatMap (cardsOf σ per h) = part (n * per) 0 (hasN σ per h) (m * per)
  | 0 => by simp [part_zero]
  | m + 1 => by
    rw [List.range_succ, List.filter_append, List.flatMap_append, flat_all ok m, Nat.succ_mul]
    by_cases hw : σ.way h m = 0
    · rw [show List.filter (fun s => decide (σ.way h s ≠ 0)) [m] = [] by simp [hw], part_to (p := hasN σ per h) (k := m * per) (m := m * per + per) (by omega) fun j h1 h2 => ?_]
      · simp
      · refine hasN_none ok ?_
        have : j / per = m := by
          rw [Nat.div_eq_iff (by have := ok.dim.p1; omega)]
          have : (m + 1) * per = m * per + per := Nat.succ_mul _ _
          omega
        rw [this, hw]
    · rw [show List.filter (fun s => decide (σ.way h s ≠ 0)) [m] = [m] by simp [hw], part_add (n * per) per m (m * per) _ rfl per]
      simp [cardsOf]
theorem flat_srcs {σ : RS} {per n h : Nat} (ok : SOk per n σ) : (srcs σ n h).flatMap (cardsOf σ per h) = allOf σ per n h := flat_all ok n
theorem flat_len (σ : RS) (per h : Nat) : ∀ l : List Nat, (l.flatMap (cardsOf σ per h)).length ≤ l.length * per
  | [] => by simp
  | a :: l => by
    rw [List.flatMap_cons, List.length_append, List.length_cons, Nat.succ_mul]
    have h1 := flat_len σ per h l
    have h2 : (cardsOf σ per h a).length ≤ per := part_len _ _ _ _
    omega
theorem srcs_up (σ : RS) (n h : Nat) : (ints (srcs σ n h)).Pairwise (· < ·) := by
  unfold ints srcs
  refine List.pairwise_map.2 ((List.Pairwise.filter _ List.pairwise_lt_range).imp fun {a b} h => by omega)
section
variable {w : World} {tg : Tg} {sb kb sB hB fB per n : Nat} {σ : RS} {fk : Value → Option Value} {Vs Vh Vf : Nat → Value}
end
end Go.Proofs.YtkmnbaecohhcaaaDoor
/- The statements of layer 11: what lies where, in one word; the questions that each of them asks first. -/
namespace Go.Proofs.YtkmnbaecohhcaaaDoor
set_option linter.unusedVariables false
set_option linter.unusedSimpArgs false
open Go.RowKit Go.Gl

def SAt (w : World) (tg : Tg) (sb per n : Nat) (σ : RS) : Prop := ∃ kb sB hB fB fk Vs Vh Vf, Rs w tg sb kb sB hB fB per n σ fk Vs Vh Vf
/-- No block below B is tagged. -/
def Old (B : Nat) (tg : Tg) : Prop := ∀ b, b < B → (tg b).1 = 0
def Upd (w : World) (tg : Tg) (sb per n : Nat) (v : Value) (σ : RS) (e : Ending) (w' : World) : Prop :=
  ∃ tg' F, e = .returned v ∧ SAt w' tg' sb per n σ ∧ Fr F w w' ∧ (∀ b, b ∈ F → (tg b).1 ≠ 0) ∧ TgUp w tg tg'
section
variable {w w' : World} {tg tg' : Tg} {F : List Nat} {sb per n B : Nat} {σ : RS}
theorem SAt.fr (h : SAt w tg sb per n σ) (hf : Fr F w w') (hF : ∀ b, b ∈ F → (tg b).1 = 0) : SAt w' tg sb per n σ := by
  obtain ⟨kb, sB, hB, fB, fk, Vs, Vh, Vf, h⟩ := h
  exact ⟨kb, sB, hB, fB, fk, Vs, Vh, Vf, h.fr hf hF⟩
theorem SAt.fr0 (h : SAt w tg sb per n σ) (hf : Fr [] w w') : SAt w' tg sb per n σ := h.fr hf (fun _ h => by cases h)
theorem SAt.ok (h : SAt w tg sb per n σ) : SOk per n σ := by
  obtain ⟨kb, sB, hB, fB, fk, Vs, Vh, Vf, h⟩ := h
  exact h.ok
theorem SAt.tok (h : SAt w tg sb per n σ) : TgOk w tg := by
  obtain ⟨kb, sB, hB, fB, fk, Vs, Vh, Vf, h⟩ := h
  exact h.tok
theorem Old.up (h : Old B tg) (hB : B ≤ w.heap.size) (hu : TgUp w tg tg') : Old B tg' := fun b hb => by rw [hu b (by omega)]; exact h b hb
theorem Old.out (h : Old B tg) (hF : ∀ b, b ∈ F → (tg b).1 ≠ 0) : ∀ b, b ∈ F → B ≤ b := fun b hb => by
  rcases Nat.lt_or_ge b B with h1 | h1
  · exact absurd (h b h1) (hF b hb)
  · exact h1
end
/-- The sets are new since W, and nothing that was there has been touched. -/
def OwnS (W w : World) (sb per n : Nat) (σ : RS) : Prop := Fr [] W w ∧ ∃ tg, SAt w tg sb per n σ ∧ Old W.heap.size tg
section
variable {W w w' : World} {sb per n : Nat} {σ σ' : RS} {v : Value} {e : Ending}
theorem OwnS.fr0 (h : OwnS W w sb per n σ) (hf : Fr [] w w') : OwnS W w' sb per n σ := ⟨h.1.trans_same hf, by obtain ⟨tg, h1, h2⟩ := h.2; exact ⟨tg, h1.fr0 hf, h2⟩⟩
theorem OwnS.upd {P : Program} {f : FuncId} {args : Array Value} (h : OwnS W w sb per n σ) (hc : ∀ tg, SAt w tg sb per n σ → Calls P f args w (Upd w tg sb per n v σ')) : Calls P f args w fun e w' => e = .returned v ∧ OwnS W w' sb per n σ' := by
  obtain ⟨h1, tg, h2, h3⟩ := h
  refine (hc tg h2).mono ?_
  rintro e w' ⟨tg', F, rfl, k1, k2, k3, k4⟩
  exact ⟨rfl, h1.trans k2 (fun x hx => .inr (h3.out k3 x hx)), tg', k1, h3.up h1.size k4⟩
end
def smallG : Geo := ⟨512, 64, 8, 8, 64, 448⟩
theorem small_ok : OkG smallG 8 8 := ⟨⟨by decide, by decide, by decide, by decide⟩, rfl, rfl, rfl, by decide, ⟨by decide, by decide, by decide, by decide, by decide, by decide, by decide, by decide⟩⟩
theorem new_small (w : World) : Calls Tryd.prog 27 #[smallG.val] w fun e w' => ∃ sb tg, e = .returned (.tuple #[.pointer (some ⟨sb, 0, none⟩), .int .i64 0]) ∧ SAt w' tg sb 8 8 freshS ∧ Fr [] w w' ∧ Old w.heap.size tg := by
  refine (snew_ok smallG small_ok w).mono ?_
  rintro e w' ⟨tg, sb, kb, sB, hB, fB, fk, Vs, Vh, Vf, rfl, h1, h2, h3⟩
  exact ⟨sb, tg, rfl, ⟨_, _, _, _, _, _, _, _, h1⟩, h2, h3⟩
/-- The sets when the cards from 8 on and below k were added to the home 0. -/
def tau (k : Nat) : RS := ⟨fun a b => if a = 0 ∧ b = 1 then (if k ≤ 8 then 0 else if k ≤ 12 then 1 else 2) else 0, fun a c => decide (a = 0 ∧ 8 ≤ c ∧ c < k)⟩
theorem tau_fresh : tau 8 = freshS := RS.ext (fun a b => by simp [tau, freshS]) (fun a c => by simp [tau, freshS])
theorem tau_put (k m j : Nat) (hk : 8 ≤ k ∧ k < 13) (hm : m = if k + 1 ≤ 8 then 0 else if k + 1 ≤ 12 then 1 else 2) : (tau k).put 8 0 1 m (plus (tau k) 0 k) = tau (k + 1) := by
  refine RS.ext (fun a b => ?_) (fun a c => ?_)
  · simp only [RS.put, tau]
    by_cases h : a = 0 ∧ b = 1
    · rw [if_pos h, if_pos h, hm]
    · rw [if_neg h, if_neg h, if_neg h]
  · simp only [RS.put, tau, plus]
    by_cases h : a = 0 ∧ c / 8 = 1
    · rw [if_pos h, Bool.eq_iff_iff]
      simp
      omega
    · rw [if_neg h, Bool.eq_iff_iff]
      simp
      omega
theorem tau_add {k : Nat} (h8 : 8 ≤ k) (hk : k < 13) : addR (tau k) 8 8 0 (k : Int) = (true, 0, tau (k + 1)) := by
  refine (addR_at (σ := tau k) (per := 8) (n := 8) (a := 0) (c := k) (by decide) (by omega)).trans ?_
  rw [if_neg (by omega)]
  have e1 : k / 8 = 1 := by omega
  have e2 : hasN (tau k) 8 0 k = false := by
    simp only [hasN, tau, e1]
    obtain rfl | rfl | rfl | rfl | rfl : k = 8 ∨ k = 9 ∨ k = 10 ∨ k = 11 ∨ k = 12 := by omega
    all_goals rfl
  rw [if_neg (by rw [e2]; decide)]
  unfold addS
  have e4 : ¬ (tau k).way 0 1 = 2 := by
    obtain rfl | rfl | rfl | rfl | rfl : k = 8 ∨ k = 9 ∨ k = 10 ∨ k = 11 ∨ k = 12 := by omega
    all_goals decide
  rw [e1, if_neg e4]
  by_cases h12 : k = 12
  · subst h12
    rw [if_neg (by decide +kernel), tau_put 12 2 0 (by decide) (by decide)]
    unfold coarsen
    rw [if_neg (by decide +kernel)]
  · have e3 : cntS ((tau k).put 8 0 1 1 (plus (tau k) 0 k)) 8 0 1 ≤ 4 := by
      obtain rfl | rfl | rfl | rfl : k = 8 ∨ k = 9 ∨ k = 10 ∨ k = 11 := by omega
      all_goals decide +kernel
    rw [if_pos e3, tau_put k 1 0 ⟨h8, hk⟩ (by rw [if_neg (by omega), if_pos (by omega)])]
theorem tau_end : addR (tau 13) 8 8 0 3 = (false, 3, tau 13) := by
  refine (addR_at (σ := tau 13) (per := 8) (n := 8) (a := 0) (c := 3) (by decide) (by decide)).trans ?_
  rw [if_pos (by decide)]
theorem tau_cards : allOf (tau 13) 8 8 0 = [8, 9, 10, 11, 12] := by decide +kernel
theorem tau_has : hasI (tau 13) 8 8 0 12 = true ∧ hasI (tau 13) 8 8 0 13 = false := by decide +kernel
theorem tau_way : wayI (tau 13) 0 1 = 2 := by decide +kernel
end Go.Proofs.YtkmnbaecohhcaaaDoor
