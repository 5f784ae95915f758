/- Rows of bools that tell which numbers are in. -/
import Derived.Test.YtbaccleaakmenaaDoorProg
import Derived.Test.YtbaccleaakmenaaDoorKit
namespace Go.Proofs.YtbaccleaakmenaaDoor
set_option linter.unusedVariables false
open Go.RowKit Go.Gl

theorem Tryd.info_bool : (Tryd.prog.info? 4).map (fun i => (i.zero, i.size, i.bytes)) = some (some (.bool false), 1, 1) := by kernel_rfl
def bv (L : List Bool) : Array Value := (L.map Value.bool).toArray
theorem bv_at (L : List Bool) (k : Nat) (h : k < L.length) : (bv L)[k]? = some (.bool (L.getD k false)) := by simp [bv, h]
theorem bv_set (L : List Bool) (k : Nat) (x : Bool) : (bv L).setIfInBounds k (.bool x) = bv (L.set k x) := by simp [bv]
/-- The numbers of such a set. -/
def rS (L : List Bool) (j : Nat) : Bool := L.getD j false
theorem rS_set {L : List Bool} {k : Nat} (h : k < L.length) (x : Bool) (j : Nat) : rS (L.set k x) j = if j = k then x else rS L j := by
  unfold rS
  simp only [List.getD_eq_getElem?_getD, List.getElem?_set]
  by_cases hj : k = j
  · subst hj; simp [h]
  · rw [if_neg hj, if_neg (fun e => hj e.symm)]
theorem rS_far {L : List Bool} {j : Nat} (h : L.length ≤ j) : rS L j = false := by
  unfold rS
  rw [List.getD_eq_getElem?_getD, List.getElem?_eq_none h]; rfl
def inS (S : Nat → Bool) (i : Int) : Bool := decide (0 ≤ i) && S i.toNat
def RTurned (S : Nat → Bool) (n : Nat) (i : Int) (on c : Bool) (er : Int) (S' : Nat → Bool) : Prop :=
  (0 ≤ i ∧ i < (n : Int) ∧ er = 0 ∧ c = (S i.toNat != on) ∧ ∀ j : Nat, S' j = if j = i.toNat then on else S j) ∨
  (¬ (0 ≤ i ∧ i < (n : Int)) ∧ er = 2 ∧ c = false ∧ S' = S)
def belowS (S : Nat → Bool) (b : Nat) : List Nat := (List.range b).filter S
theorem belowS_succ (S : Nat → Bool) (b : Nat) : belowS S (b + 1) = belowS S b ++ (if S b then [b] else []) := by
  unfold belowS
  rw [List.range_succ, List.filter_append]
  congr 1
  by_cases h : S b <;> simp [h]
theorem belowS_le (S : Nat → Bool) (b : Nat) : (belowS S b).length ≤ b := by
  unfold belowS
  exact Nat.le_trans (List.length_filter_le _ _) (by simp)
end Go.Proofs.YtbaccleaakmenaaDoor
