/- A plan of things (gleanerref14): its numbers, where it lies; Size and refs. -/
import Derived.Test.YtapglokadaibnaaGreatDoorSNm
import Derived.Test.YtapglokadaibnaaGreatDoorSGeo
namespace Go.Proofs.YtapglokadaibnaaGreatDoor
set_option linter.unusedVariables false
set_option linter.unusedSimpArgs false
set_option maxRecDepth 100000
open Go.RowKit Go.Gl

/-- A thing's numbers. -/
structure PT where
  st : Int
  rf : List Int
  dt : List Int
def PT.sz (t : PT) : Nat := 1 + t.rf.length + t.dt.length
/-- A plan's numbers. -/
structure Pl where
  c : Cfg
  n : Nat
  T : Nat → PT
  m : Nat
  H : Nat → List Int
/-- Where a plan lies. -/
structure PA where
  tb : Nat
  to : Nat
  tc : Nat
  tA : Option Addr
  rA : Nat → Option Addr
  rc : Nat → Nat
  dA : Nat → Option Addr
  dc : Nat → Nat
  hb : Nat
  ho : Nat
  hc : Nat
  hA : Option Addr
  lA : Nat → Option Addr
  lc : Nat → Nat
def PA.val (Q : PA) (p : Pl) : Value := .agg #[.int .i64 p.c.shift, .int .i64 p.c.regions, .int .i64 p.c.cardShift, .int .i64 p.c.threads, .int .i64 p.c.roots, .int .i64 p.c.refiners, .int .i64 p.c.markers, .int .i64 p.c.young, .int .i64 p.c.tenure, .int .i64 p.c.queue, .int .i64 p.c.stack, .int .i64 p.c.budget, .int .i64 p.c.percent, .int .i64 p.c.fail, .slice Q.tA p.n Q.tc, .slice Q.hA p.m Q.hc]
def PA.cells (Q : PA) (p : Pl) : Array Value := #[.int .i64 p.c.shift, .int .i64 p.c.regions, .int .i64 p.c.cardShift, .int .i64 p.c.threads, .int .i64 p.c.roots, .int .i64 p.c.refiners, .int .i64 p.c.markers, .int .i64 p.c.young, .int .i64 p.c.tenure, .int .i64 p.c.queue, .int .i64 p.c.stack, .int .i64 p.c.budget, .int .i64 p.c.percent, .int .i64 p.c.fail, .slice Q.tA p.n Q.tc, .slice Q.hA p.m Q.hc]
def PA.thing (Q : PA) (p : Pl) (i : Nat) : Value := .agg #[.int .i64 (p.T i).st, .slice (Q.rA i) (p.T i).rf.length (Q.rc i), .slice (Q.dA i) (p.T i).dt.length (Q.dc i)]
def PA.tcells (Q : PA) (p : Pl) (i : Nat) : Array Value := #[.int .i64 (p.T i).st, .slice (Q.rA i) (p.T i).rf.length (Q.rc i), .slice (Q.dA i) (p.T i).dt.length (Q.dc i)]
/-- It lies there. -/
structure PlAt (w : World) (Q : PA) (p : Pl) : Prop where
  nm : p.n ≤ 9223372036854775807
  mm : p.m ≤ 9223372036854775807
  ta : 0 < p.n → Q.tA = some ⟨Q.tb, Q.to, none⟩
  t0 : ∀ i, i < p.n → w.cell? ⟨Q.tb, Q.to + i * 3, none⟩ = some (.int .i64 (p.T i).st)
  t1 : ∀ i, i < p.n → w.cell? ⟨Q.tb, Q.to + i * 3 + 1, none⟩ = some (.slice (Q.rA i) (p.T i).rf.length (Q.rc i))
  t2 : ∀ i, i < p.n → w.cell? ⟨Q.tb, Q.to + i * 3 + 2, none⟩ = some (.slice (Q.dA i) (p.T i).dt.length (Q.dc i))
  rm : ∀ i, i < p.n → (p.T i).rf.length ≤ 9223372036854775807
  dm : ∀ i, i < p.n → (p.T i).dt.length ≤ 9223372036854775807
  rs : ∀ i, i < p.n → Sl w (Q.rA i) (p.T i).rf.length fun j => .int .i64 ((p.T i).rf.getD j 0)
  ds : ∀ i, i < p.n → Sl w (Q.dA i) (p.T i).dt.length fun j => .int .u64 ((p.T i).dt.getD j 0)
  dv : ∀ i, i < p.n → ∀ j, 0 ≤ (p.T i).dt.getD j 0 ∧ (p.T i).dt.getD j 0 < 18446744073709551616
  ha : 0 < p.m → Q.hA = some ⟨Q.hb, Q.ho, none⟩
  h0 : ∀ i, i < p.m → w.cell? ⟨Q.hb, Q.ho + i, none⟩ = some (.slice (Q.lA i) (p.H i).length (Q.lc i))
  lm : ∀ i, i < p.m → (p.H i).length ≤ 9223372036854775807
  ls : ∀ i, i < p.m → Sl w (Q.lA i) (p.H i).length fun j => .int .i64 ((p.H i).getD j 0)
section
variable {w w' : World} {Q : PA} {p : Pl}
theorem PlAt.fr {F : List Nat} (a : PlAt w Q p) (hf : Fr F w w') (hF : ∀ x, x ∈ F → w.heap.size ≤ x) : PlAt w' Q p := by
  have k : ∀ {b o v}, w.cell? ⟨b, o, none⟩ = some v → w'.cell? ⟨b, o, none⟩ = some v := fun {b o v} h => (hf.cell (lt_of_cell h) (fun hx => by have := hF _ hx; have := lt_of_cell h; simp at *; omega)).trans h
  exact ⟨a.nm, a.mm, a.ta, fun i hi => k (a.t0 i hi), fun i hi => k (a.t1 i hi), fun i hi => k (a.t2 i hi), a.rm, a.dm, fun i hi => (a.rs i hi).fr hf hF, fun i hi => (a.ds i hi).fr hf hF, a.dv, a.ha, fun i hi => k (a.h0 i hi), a.lm, fun i hi => (a.ls i hi).fr hf hF⟩
theorem PlAt.fr0 (a : PlAt w Q p) (hf : Fr [] w w') : PlAt w' Q p := a.fr hf (fun x hx => by cases hx)
end
/-- References to n things. -/
def RefsOk (l : List Int) (n : Nat) : Prop := ∀ r, r ∈ l → 0 ≤ r ∧ r ≤ (n : Int)
open Classical in
noncomputable def refsB (l : List Int) (n : Nat) : Bool := decide (RefsOk l n)
theorem refsB_yes {l : List Int} {n : Nat} : refsB l n = true ↔ RefsOk l n := by unfold refsB; simp
theorem refsB_no {l : List Int} {n : Nat} (h : ∃ j, j < l.length ∧ ¬ (0 ≤ l.getD j 0 ∧ l.getD j 0 ≤ (n : Int))) : refsB l n = false := by
  obtain ⟨j, h1, h2⟩ := h
  unfold refsB
  simp
  intro h
  refine h2 (h _ ?_)
  rw [List.getD_eq_getElem?_getD, List.getElem?_eq_getElem h1]
  exact List.getElem_mem h1
theorem refsB_all {l : List Int} {n : Nat} (h : ∀ j, j < l.length → 0 ≤ l.getD j 0 ∧ l.getD j 0 ≤ (n : Int)) : refsB l n = true := by
  rw [refsB_yes]
  intro r hr
  obtain ⟨j, hj, rfl⟩ := List.getElem_of_mem hr
  have := h j hj
  rwa [List.getD_eq_getElem?_getD, List.getElem?_eq_getElem hj] at this
theorem refs14_any {w : World} {A : Option Addr} {c : Nat} {l : List Int} {n : Nat} (hA : Sl w A l.length fun j => .int .i64 (l.getD j 0)) (hm : l.length ≤ 9223372036854775807) :
    Calls Tryz.prog 64 #[.slice A l.length c, .int .i64 (n : Int)] w fun e w' => e = .returned (.bool (refsB l n)) ∧ ∃ k, w' = w.drewN k := by
  have HA := hide hA
  obtain ⟨B, hB⟩ : ∃ B, refsB l n = B := ⟨_, rfl⟩
  have HB := hide hB
  obtain ⟨z, hz⟩ : ∃ z, l.length = z := ⟨_, rfl⟩
  have HZ := hide hz
  rw [hz] at hm ⊢
  rw [hB]
  clear hA hB hz
  go_enter Tryz.func64, Tryz.ntmps64
  go_wp2
  go_loopw [5] (fun i wr => ∃ k q : Nat, i = .int .i64 k ∧ k ≤ z ∧ (∀ j, j < k → 0 ≤ l.getD j 0 ∧ l.getD j 0 ≤ (n : Int)) ∧ wr = w.drewN q) (fun i _ => z - (intOf i).toNat)
  case atStart => exact ⟨0, 0, rfl, Nat.zero_le _, fun j hj => absurd hj (by omega), rfl⟩
  case round =>
    obtain ⟨k, q, rfl, hk, hs, rfl⟩ := hrel
    have HS := hide hs
    clear hs
    by_cases hlt : k < z
    · have hlt1 : (k : Int) < (z : Int) := by omega
      obtain ⟨b, off, rfl, hl, hcell⟩ := HA.out (by have := HZ.out; omega)
      have c0 : w.cell? ⟨b, off + k, none⟩ = some (.int .i64 (l.getD k 0)) := hcell k (by have := HZ.out; omega)
      obtain ⟨x, hx⟩ : ∃ x, l.getD k 0 = x := ⟨_, rfl⟩
      rw [hx] at c0
      have HX := hide hx
      clear hcell hx
      by_cases h1 : x < 0
      · go_wp2_with fail
        go_ret
        exact ⟨ret_bool (by rw [← HB.out]; exact (refsB_no ⟨k, by have := HZ.out; omega, by rw [HX.out]; omega⟩).symm), _, rfl⟩
      · by_cases h2 : (n : Int) < x
        · go_wp2_with fail
          go_ret
          exact ⟨ret_bool (by rw [← HB.out]; exact (refsB_no ⟨k, by have := HZ.out; omega, by rw [HX.out]; omega⟩).symm), _, rfl⟩
        · go_wp2_with fail
          go_roundw
          case rel =>
            refine ⟨k + 1, _, by go_num, by omega, fun j hj => ?_, rfl⟩
            by_cases e : j = k
            · subst e; rw [HX.out]; omega
            · exact HS.out j (by omega)
          case measure => simp [intOf]; omega
    · go_wp2_with fail
      go_ret
      exact ⟨ret_bool (by rw [← HB.out]; exact (refsB_all (fun j hj => HS.out j (by have := HZ.out; omega))).symm), _, rfl⟩
/-- Size: a thing's words, if they are a number. -/
theorem size14_any {A D : Option Addr} {a b c d : Nat} (st : Int) (ha : a ≤ 9223372036854775807) (hb : b ≤ 9223372036854775807) (w : World) :
    Calls Tryz.prog 21 #[.agg #[.int .i64 st, .slice A a c, .slice D b d]] w fun e w' => e = .returned (.int .i64 (wrap64 ((1 + a + b : Nat) : Int))) ∧ Fr [] w w' := by
  go_enter Tryz.func21, Tryz.ntmps21
  go_wp2_with fail
  go_ret
  exact ⟨ret_int (by unfold wrap64; omega), (Fr.refl _ _).alloc _⟩
end Go.Proofs.YtapglokadaibnaaGreatDoor
