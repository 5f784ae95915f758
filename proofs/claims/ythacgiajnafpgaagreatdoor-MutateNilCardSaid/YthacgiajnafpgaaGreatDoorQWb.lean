/- gleanerref14.Right: may a plan be laid? -/
import Derived.Test.YthacgiajnafpgaaGreatDoorQWa
import Derived.Test.YthacgiajnafpgaaGreatDoorQR2n
import Derived.Deep.CutRange
namespace Go.Proofs.YthacgiajnafpgaaGreatDoor
set_option linter.unusedVariables false
set_option linter.unusedSimpArgs false
set_option maxRecDepth 100000
open Go.RowKit Go.Gl

/-- A thing that may be laid. -/
structure PT.Ok (g : Geo) (n : Nat) (t : PT) : Prop where
  z2 : 2 ≤ t.sz
  zm : (t.sz : Int) ≤ g.max
  big : g.bigB t.sz = (t.st == 4)
  s1 : 1 ≤ t.st
  s4 : t.st ≤ 4
  rf : RefsOk t.rf n
/-- A plan that may be laid. -/
structure Pl.Right (p : Pl) : Prop where
  may : mayB p.c = true
  wd : p.c.geo.words ≤ 4096
  n : p.n ≤ 200
  m : (p.m : Int) ≤ p.c.threads
  t : ∀ i, i < p.n → (p.T i).Ok p.c.geo p.n
  hl : ∀ i, i < p.m → ((p.H i).length : Int) ≤ p.c.roots
  hr : ∀ i, i < p.m → RefsOk (p.H i) p.n
open Classical in
noncomputable def Pl.rightB (p : Pl) : Bool := decide p.Right
theorem Pl.rightB_no {p : Pl} (h : ¬ p.Right) : p.rightB = false := by unfold Pl.rightB; simpa using h
end Go.Proofs.YthacgiajnafpgaaGreatDoor
