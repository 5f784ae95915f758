/- gleanerlaw14: link: a thing's references are stored, and remembered. -/
import Derived.Test.YthacgiajnafpgaaGreatDoorQWe
namespace Go.Proofs.YthacgiajnafpgaaGreatDoor
set_option linter.unusedVariables false
set_option linter.unusedSimpArgs false
set_option maxRecDepth 100000
open Go.RowKit Go.Gl

section
variable {W w w' : World} {L : HL} {X : HX} {h : HS} {x : HT} {s k : Nat} {E : Blks}
theorem HE.cS (H : HE W w L X h x s k E) : w.cell? ⟨L.hb, 25, none⟩ = some (.pointer (some ⟨X.zb, 0, none⟩)) := by
  obtain ⟨own, ⟨tg, FS, H, _⟩, _⟩ := H
  have := H.st.cell 25
  rw [← H.vs]
  exact this
theorem HE.dim (H : HE W w L X h x s k E) : GDims h.g h.W h.R x.cw x.per := by
  obtain ⟨own, ⟨tg, FS, H, _⟩, _⟩ := H
  exact H.dim
theorem HE.card (H : HE W w L X h x s k E) (a : Int) : Calls Tryz.prog 20 #[.agg #[.int .i64 h.g.words, .int .i64 h.g.rw, .int .i64 h.g.cw, .int .i64 h.g.regions, .int .i64 h.g.cards, .int .i64 h.g.max], .int .i64 a] w fun e w' => e = .returned (.int .i64 (h.g.cardOf a)) ∧ Fr [] w w' := card_any h.g H.ok.geo a w H.hr.tab
theorem HE.region (H : HE W w L X h x s k E) (a : Int) : Calls Tryz.prog 37 #[.agg #[.int .i64 h.g.words, .int .i64 h.g.rw, .int .i64 h.g.cw, .int .i64 h.g.regions, .int .i64 h.g.cards, .int .i64 h.g.max], .int .i64 a] w fun e w' => e = .returned (.int .i64 (h.g.regionOf a)) ∧ Fr [] w w' := H.hr.region a (Fr.refl _ _)
end
def LinkP (W : World) (L : HL) (X : HX) (h : HS) (x : HT) (s k : Nat) (p : Pl) (A : Nat → Nat) (wd d : Nat → Nat → Nat) (i : Nat) (E : Blks) (e : Ending) (w' : World) : Prop :=
  e = .returned (.bool true) ∧ ∃ f σ wd', HE W w' L X { h with f := f } { x with σ := σ } s k E ∧ Lay p A p.n wd' d { h with f := f } ∧
    (∀ j, j < (p.T i).rf.length → wd' i j = lnk A ((p.T i).rf.getD j 0)) ∧ ∀ i', i' ≠ i → ∀ j, wd' i' j = wd i' j
end Go.Proofs.YthacgiajnafpgaaGreatDoor
/- gleanerlaw14.Build: what its loops lean on. -/
namespace Go.Proofs.YthacgiajnafpgaaGreatDoor
set_option linter.unusedVariables false
set_option linter.unusedSimpArgs false
set_option maxRecDepth 100000
open Go.RowKit Go.Gl

section
variable {W w w' : World} {L : HL} {X : HX} {h : HS} {x : HT} {s k : Nat} {E Er R : Blks}
end
/-- The words of a plan's data. -/
def dta (p : Pl) (i j : Nat) : Nat := ((p.T i).dt.getD j 0).toNat
/-- A heap with all of a plan in it. -/
structure Laid (p : Pl) (A : Nat → Nat) (L : HL) (h : HS) : Prop where
  lay : Lay p A p.n (fun i j => lnk A ((p.T i).rf.getD j 0)) (dta p) h
  g : h.g = p.c.geo
  T : p.c.threads = (h.T : Int)
  B : p.c.roots = (L.B : Int)
  st : ∀ t, t < h.T → h.st t = if t < p.m then (p.H t).map fun r => (lnk A r : Int) else []
def BuiltP (W : World) (p : Pl) (e : Ending) (w' : World) : Prop :=
  (∃ (L : HL) (X : HX) (h : HS) (x : HT) (s k : Nat) (A : Nat → Nat) (A0 : Option Addr) (c : Nat) (E : Blks), e = .returned (.tuple #[.agg #[.pointer (some ⟨L.hb, 0, none⟩), .slice A0 p.n c], .bool true, .bool false]) ∧ HE W w' L X h x s k E ∧ Row E A0 c (places A p.n) ∧ Laid p A L h) ∨
  (e = .returned (.tuple #[.agg #[.pointer none, .slice none 0 0], .bool false, .bool false]) ∧ Fr [] W w')
end Go.Proofs.YthacgiajnafpgaaGreatDoor
