/- gleanerlaw14.room: a thing that isn't big. -/
import Derived.Test.YthacgiajnafpgaaGreatDoorQWd
import Derived.Test.YthacgiajnafpgaaGreatDoorQLr
namespace Go.Proofs.YthacgiajnafpgaaGreatDoor
set_option linter.unusedVariables false
set_option linter.unusedSimpArgs false
set_option maxRecDepth 100000
open Go.RowKit Go.Gl

end Go.Proofs.YthacgiajnafpgaaGreatDoor
/- gleanerlaw14: a built heap's references: Ref, Home, link. -/
namespace Go.Proofs.YthacgiajnafpgaaGreatDoor
set_option linter.unusedVariables false
set_option linter.unusedSimpArgs false
set_option maxRecDepth 100000
open Go.RowKit Go.Gl

/-- A list of numbers in a block beside the heap. -/
def Row (E : Blks) (A : Option Addr) (c : Nat) (l : List Int) : Prop :=
  l.length ≤ c ∧ c ≤ maxLen ∧ (0 < c → ∃ g off cur, A = some ⟨g, off, none⟩ ∧ (g, 3, cur) ∈ E ∧ off + c ≤ cur.size ∧ (cur.toList.drop off).take l.length = zv l)
/-- The places of things, as numbers. -/
def places (A : Nat → Nat) (n : Nat) : List Int := (List.range n).map fun i => (A i : Int)
section
variable {W w w' : World} {L : HL} {X : HX} {h : HS} {x : HT} {s k : Nat} {E E' : Blks} {A : Option Addr} {c : Nat} {l : List Int}
theorem Row.sub (r : Row E A c l) (hs : ∀ q, q ∈ E → q ∈ E') : Row E' A c l := by
  obtain ⟨h1, h2, h3⟩ := r
  refine ⟨h1, h2, fun hc => ?_⟩
  obtain ⟨g, off, cur, h4, h5, h6⟩ := h3 hc
  exact ⟨g, off, cur, h4, hs _ h5, h6⟩
/-- What stands in it, wherever the heap and its blocks are. -/
theorem Row.cell (r : Row E A c l) (hl : 0 < l.length) : ∃ g off, A = some ⟨g, off, none⟩ ∧ ∀ {w : World} {h : HS} {x : HT}, HE W w L X h x s k E → ∀ j, j < l.length → w.cell? ⟨g, off + j, none⟩ = some (.int .i64 (l.getD j 0)) := by
  obtain ⟨h1, h2, h3⟩ := r
  obtain ⟨g, off, cur, h4, h5, h6, h7⟩ := h3 (by omega)
  refine ⟨g, off, h4, fun {w h x} H j hj => ?_⟩
  have hb := H.blk h5
  rw [hb.cell]
  have e1 : (zv l)[j]? = cur[off + j]? := by
    rw [← h7, List.getElem?_take_of_lt hj, List.getElem?_drop, Array.getElem?_toList]
  rw [← e1]
  exact zv_get l hj
end
/-- A thing's reference. -/
def lnk (A : Nat → Nat) (r : Int) : Nat := if r = 0 then 0 else A (r.toNat - 1) + 1
end Go.Proofs.YthacgiajnafpgaaGreatDoor
