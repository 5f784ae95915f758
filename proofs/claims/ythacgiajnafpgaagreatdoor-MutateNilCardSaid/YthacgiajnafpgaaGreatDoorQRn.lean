/- A row of whole numbers of a kind, given by a function. -/
import Derived.Test.YthacgiajnafpgaaGreatDoorQKit
namespace Go.Gl
set_option linter.unusedVariables false
open Go.RowKit

/-- A row of n numbers. -/
def rowV (q : IntKind) (n : Nat) (f : Nat → Int) : Array Value := ((List.range n).map fun k => Value.int q (f k)).toArray
/-- One number turned. -/
def put1 (f : Nat → Int) (k : Nat) (x : Int) : Nat → Int := fun j => if j = k then x else f j
/-- The numbers from a on and below b turned into what g says. -/
def put2 (f : Nat → Int) (a b : Nat) (g : Nat → Int) : Nat → Int := fun j => if a ≤ j ∧ j < b then g j else f j
theorem rowV_size (q : IntKind) (n : Nat) (f : Nat → Int) : (rowV q n f).size = n := by simp [rowV]
theorem rowV_get (q : IntKind) (n : Nat) (f : Nat → Int) (k : Nat) : (rowV q n f)[k]? = if k < n then some (.int q (f k)) else none := by
  unfold rowV
  by_cases h : k < n
  · simp [h]
  · simp [h]
theorem rowV_at {q : IntKind} {n : Nat} {f : Nat → Int} {k : Nat} (h : k < n) : (rowV q n f)[k]? = some (.int q (f k)) := by rw [rowV_get, if_pos h]
theorem rowV_ext {q : IntKind} {n : Nat} {f : Nat → Int} {cs : Array Value} (hs : cs.size = n) (h : ∀ k, k < n → cs[k]? = some (.int q (f k))) : cs = rowV q n f := by
  apply Array.ext
  · rw [hs, rowV_size]
  · intro i h1 h2
    have a1 := h i (by omega)
    have a2 := rowV_at (q := q) (f := f) (show i < n by omega)
    rw [Array.getElem?_eq_getElem h1] at a1
    rw [Array.getElem?_eq_getElem h2] at a2
    exact Option.some.inj (a1.trans a2.symm)
theorem rowV_congr {q : IntKind} {n : Nat} {f g : Nat → Int} (h : ∀ k, k < n → f k = g k) : rowV q n f = rowV q n g :=
  rowV_ext (rowV_size _ _ _) fun k hk => by rw [rowV_at hk, h k hk]
theorem rowV_set (q : IntKind) (n : Nat) (f : Nat → Int) (k : Nat) (x : Int) : (rowV q n f).setIfInBounds k (.int q x) = rowV q n (put1 f k x) := by
  refine rowV_ext (by simp [rowV_size]) fun j hj => ?_
  rw [Array.getElem?_setIfInBounds]
  unfold put1
  by_cases h : k = j
  · subst h
    rw [if_pos rfl, if_pos (by rw [rowV_size]; exact hj), if_pos rfl]
  · rw [if_neg h, if_neg (Ne.symm h), rowV_at hj]
theorem rowV_const (q : IntKind) (n : Nat) (x : Int) : rowV q n (fun _ => x) = (List.replicate n (Value.int q x)).toArray := by
  unfold rowV
  congr 1
  apply List.ext_getElem <;> simp
theorem put2_none {f g : Nat → Int} {a b : Nat} (h : b ≤ a) : put2 f a b g = f := by
  funext j
  unfold put2
  rw [if_neg (by omega)]
/-- The first k numbers, as values. -/
def cellsQ (q : IntKind) (f : Nat → Int) (k : Nat) : List Value := (List.range k).map fun j => Value.int q (f j)
/-- Behind a store into the row. -/
theorem Blk.putRow {w : World} {g : Nat} {t : TypeId} {q : IntKind} {n : Nat} {f : Nat → Int} (h : Blk w g t (rowV q n f)) (k : Nat) (x : Int) : Blk (w.setCell ⟨g, k, none⟩ (.int q x)) g t (rowV q n (put1 f k x)) := by
  have := h.put k (.int q x)
  rw [rowV_set] at this
  exact this
end Go.Gl
