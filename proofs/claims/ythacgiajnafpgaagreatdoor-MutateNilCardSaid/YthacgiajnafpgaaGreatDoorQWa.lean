/- A plan of things (gleanerref14): its numbers, where it lies; Size and refs. -/
import Derived.Test.YthacgiajnafpgaaGreatDoorQNm
import Derived.Test.YthacgiajnafpgaaGreatDoorQGeo
namespace Go.Proofs.YthacgiajnafpgaaGreatDoor
set_option linter.unusedVariables false
set_option linter.unusedSimpArgs false
set_option maxRecDepth 100000
open Go.RowKit Go.Gl

/-- A thing's numbers. -/
structure PT where
  st : Int
  rf : List Int
  dt : List Int
def PT.sz (t : PT) : Nat := 1 + t.rf.length + t.dt.length
/-- A plan's numbers. -/
structure Pl where
  c : Cfg
  n : Nat
  T : Nat → PT
  m : Nat
  H : Nat → List Int
/-- Where a plan lies. -/
structure PA where
  tb : Nat
  to : Nat
  tc : Nat
  tA : Option Addr
  rA : Nat → Option Addr
  rc : Nat → Nat
  dA : Nat → Option Addr
  dc : Nat → Nat
  hb : Nat
  ho : Nat
  hc : Nat
  hA : Option Addr
  lA : Nat → Option Addr
  lc : Nat → Nat
def PA.val (Q : PA) (p : Pl) : Value := .agg #[.int .i64 p.c.shift, .int .i64 p.c.regions, .int .i64 p.c.cardShift, .int .i64 p.c.threads, .int .i64 p.c.roots, .int .i64 p.c.refiners, .int .i64 p.c.markers, .int .i64 p.c.young, .int .i64 p.c.tenure, .int .i64 p.c.queue, .int .i64 p.c.stack, .int .i64 p.c.budget, .int .i64 p.c.percent, .int .i64 p.c.fail, .slice Q.tA p.n Q.tc, .slice Q.hA p.m Q.hc]
def PA.cells (Q : PA) (p : Pl) : Array Value := #[.int .i64 p.c.shift, .int .i64 p.c.regions, .int .i64 p.c.cardShift, .int .i64 p.c.threads, .int .i64 p.c.roots, .int .i64 p.c.refiners, .int .i64 p.c.markers, .int .i64 p.c.young, .int .i64 p.c.tenure, .int .i64 p.c.queue, .int .i64 p.c.stack, .int .i64 p.c.budget, .int .i64 p.c.percent, .int .i64 p.c.fail, .slice Q.tA p.n Q.tc, .slice Q.hA p.m Q.hc]
def PA.thing (Q : PA) (p : Pl) (i : Nat) : Value := .agg #[.int .i64 (p.T i).st, .slice (Q.rA i) (p.T i).rf.length (Q.rc i), .slice (Q.dA i) (p.T i).dt.length (Q.dc i)]
def PA.tcells (Q : PA) (p : Pl) (i : Nat) : Array Value := #[.int .i64 (p.T i).st, .slice (Q.rA i) (p.T i).rf.length (Q.rc i), .slice (Q.dA i) (p.T i).dt.length (Q.dc i)]
/-- It lies there. -/
structure PlAt (w : World) (Q : PA) (p : Pl) : Prop where
  nm : p.n ≤ 9223372036854775807
  mm : p.m ≤ 9223372036854775807
  ta : 0 < p.n → Q.tA = some ⟨Q.tb, Q.to, none⟩
  t0 : ∀ i, i < p.n → w.cell? ⟨Q.tb, Q.to + i * 3, none⟩ = some (.int .i64 (p.T i).st)
  t1 : ∀ i, i < p.n → w.cell? ⟨Q.tb, Q.to + i * 3 + 1, none⟩ = some (.slice (Q.rA i) (p.T i).rf.length (Q.rc i))
  t2 : ∀ i, i < p.n → w.cell? ⟨Q.tb, Q.to + i * 3 + 2, none⟩ = some (.slice (Q.dA i) (p.T i).dt.length (Q.dc i))
  rm : ∀ i, i < p.n → (p.T i).rf.length ≤ 9223372036854775807
  dm : ∀ i, i < p.n → (p.T i).dt.length ≤ 9223372036854775807
  rs : ∀ i, i < p.n → Sl w (Q.rA i) (p.T i).rf.length fun j => .int .i64 ((p.T i).rf.getD j 0)
  ds : ∀ i, i < p.n → Sl w (Q.dA i) (p.T i).dt.length fun j => .int .u64 ((p.T i).dt.getD j 0)
  dv : ∀ i, i < p.n → ∀ j, 0 ≤ (p.T i).dt.getD j 0 ∧ (p.T i).dt.getD j 0 < 18446744073709551616
  ha : 0 < p.m → Q.hA = some ⟨Q.hb, Q.ho, none⟩
  h0 : ∀ i, i < p.m → w.cell? ⟨Q.hb, Q.ho + i, none⟩ = some (.slice (Q.lA i) (p.H i).length (Q.lc i))
  lm : ∀ i, i < p.m → (p.H i).length ≤ 9223372036854775807
  ls : ∀ i, i < p.m → Sl w (Q.lA i) (p.H i).length fun j => .int .i64 ((p.H i).getD j 0)
section
variable {w w' : World} {Q : PA} {p : Pl}
theorem PlAt.fr {F : List Nat} (a : PlAt w Q p) (hf : Fr F w w') (hF : ∀ x, x ∈ F → w.heap.size ≤ x) : PlAt w' Q p := by
  have k : ∀ {b o v}, w.cell? ⟨b, o, none⟩ = some v → w'.cell? ⟨b, o, none⟩ = some v := fun {b o v} h => (hf.cell (lt_of_cell h) (fun hx => by have := hF _ hx; have := lt_of_cell h; simp at *; omega)).trans h
  exact ⟨a.nm, a.mm, a.ta, fun i hi => k (a.t0 i hi), fun i hi => k (a.t1 i hi), fun i hi => k (a.t2 i hi), a.rm, a.dm, fun i hi => (a.rs i hi).fr hf hF, fun i hi => (a.ds i hi).fr hf hF, a.dv, a.ha, fun i hi => k (a.h0 i hi), a.lm, fun i hi => (a.ls i hi).fr hf hF⟩
theorem PlAt.fr0 (a : PlAt w Q p) (hf : Fr [] w w') : PlAt w' Q p := a.fr hf (fun x hx => by cases hx)
end
/-- References to n things. -/
def RefsOk (l : List Int) (n : Nat) : Prop := ∀ r, r ∈ l → 0 ≤ r ∧ r ≤ (n : Int)
open Classical in
noncomputable def refsB (l : List Int) (n : Nat) : Bool := decide (RefsOk l n)
end Go.Proofs.YthacgiajnafpgaaGreatDoor
