/- Structs of whole numbers that hold such structs, among the arguments. -/
import Derived.Test.YtmodjkglcgoohaaRc
namespace Go.Gl
set_option linter.unusedVariables false
open Go.ChangeShapes Go.WideShapes Go.ChangeAt Go.RowKit Go.Deep

section
variable {H : Type} {enc : TypeId × Value → H} {P : Program} {w : World} {base : Nat} {spare : Nat → Bool} {held : Bool}
/-- The cells of a struct of whole numbers. -/
theorem cells_kinds {t : TypeId} {fs : Array Field} {ks : Nat → IntKind} (hs : P.underlying t = some (.struct fs)) (hone : oneCellFields P fs = true) (hC : P.cellsOf t = fs.size)
    (hk : ∀ (j : Nat) f, fs[j]? = some f → P.underlying f.type = some (.int (ks j))) {n : Nat} {cs : List Value} {y : DataW H × List MemPlace} (h : DataW.trod enc P w base spare held n t cs = some y) :
    cs.length = fs.size ∧ ∀ j, j < fs.size → ∃ z, cs[j]? = some (.int (ks j) z) ∧ (Lit.int (ks j) z).wf = true := by
  obtain ⟨xs, m, _, _, hl, hlen, hg⟩ := DataW.trod_struct hs h
  refine ⟨by omega, fun j hj => ?_⟩
  have hfj : fs[j]? = some fs[j] := Array.getElem?_eq_getElem hj
  obtain ⟨ho, hc⟩ := hone_of hone j _ hfj
  have h1 := hg j _ hfj
  have hjc : j < cs.length := by omega
  have e : (cs.drop j).take 1 = [cs[j]] := by
    rw [List.drop_eq_getElem_cons hjc]; rfl
  have hx : xs[j]? = some (xs[j]'(by omega)) := List.getElem?_eq_getElem (by omega)
  rw [ho, hc, e, hx] at h1
  obtain ⟨z, hz, _, hw⟩ := DataW.trod_int (hk j _ hfj) h1
  simp only [List.cons.injEq, and_true] at hz
  exact ⟨z, by rw [List.getElem?_eq_getElem hjc, hz], hw⟩
/-- .. of a struct of a number and such a struct. -/
theorem cells_pair {t : TypeId} {f0 f1 : Field} {fs : Array Field} {k0 : IntKind} {ks : Nat → IntKind} (ht : P.underlying t = some (.struct #[f0, f1])) (o0 : f0.offset = 0) (o1 : f1.offset = 1) (h0 : P.underlying f0.type = some (.int k0)) (c0 : P.cellsOf f0.type = 1)
    (hs : P.underlying f1.type = some (.struct fs)) (hone : oneCellFields P fs = true) (hC : P.cellsOf f1.type = fs.size) (hT : P.cellsOf t = 1 + fs.size)
    (hk : ∀ (j : Nat) f, fs[j]? = some f → P.underlying f.type = some (.int (ks j))) {n : Nat} {cs : List Value} {y : DataW H × List MemPlace} (h : DataW.trod enc P w base spare held n t cs = some y) :
    cs.length = 1 + fs.size ∧ (∃ z, cs[0]? = some (.int k0 z) ∧ (Lit.int k0 z).wf = true) ∧ ∀ j, j < fs.size → ∃ z, cs[1 + j]? = some (.int (ks j) z) ∧ (Lit.int (ks j) z).wf = true := by
  obtain ⟨y0, y1, m, _, hl, t0, t1⟩ := trod_struct2 ht h
  have hlen : cs.length = 1 + fs.size := by omega
  rw [o0, c0] at t0
  rw [o1, hC] at t1
  obtain ⟨z, hz, _, hw⟩ := DataW.trod_int h0 t0
  obtain ⟨_, hg⟩ := cells_kinds hs hone hC hk t1
  refine ⟨hlen, ⟨z, ?_, hw⟩, fun j hj => ?_⟩
  · have : (cs.drop 0).take 1 = [cs[0]'(by omega)] := by
      rw [List.drop_zero]
      cases cs with
      | nil => simp at hlen; omega
      | cons a l => rfl
    rw [this] at hz
    simp only [List.cons.injEq, and_true] at hz
    rw [List.getElem?_eq_getElem (by omega), hz]
  · obtain ⟨z, hz, hw⟩ := hg j hj
    refine ⟨z, ?_, hw⟩
    rw [List.getElem?_take_of_lt hj, List.getElem?_drop] at hz
    exact hz
end
theorem open_recsN {H : Type} {enc : TypeId × Value → H} {P : Program} {W : World} {t e : TypeId} {C : Nat} {ks : Nat → IntKind} {r : Reach} {b : Nat} {v : Value} {d : DataW H} {p : List MemPlace}
    (ht : P.underlying t = some (.slice e)) (hC : P.cellsOf e = C) (hpos : 0 < C)
    (hel : ∀ n cs y, DataW.trod enc P W 0 (fun _ => true) true n e cs = some y → ∀ j, j < C → ∃ z, cs[j]? = some (.int (ks j) z) ∧ (Lit.int (ks j) z).wf = true)
    (hv : Value.okWide P W r b t v) (h : DataW.Trod enc P W 0 (fun _ => true) true t v d p) :
    ∃ A n c f, v = .slice A n c ∧ n ≤ maxLen ∧ Recs W A n C ks f ∧ ∀ i j, i < n → j < C → (Lit.int (ks j) (f i j)).wf = true := by
  obtain ⟨a0, len, cap, rfl⟩ := okWide_slice ht hv
  obtain ⟨fuel, hf⟩ := h
  rcases open_slice ht hf with ⟨hcs, hx⟩ | ⟨a, len', cap', m, nn, D, Pl, hcs, _, hl, hm, hmm, hx, hi⟩
  · simp only [Value.cells] at hcs
    injection hcs with h1 _
    injection h1 with h1 h2 h3
    subst h1 h2 h3
    exact ⟨none, 0, 0, fun _ _ => 0, rfl, Nat.zero_le _, fun h => absurd h (by decide), fun i j h => absurd h (by omega)⟩
  · simp only [Value.cells] at hcs
    injection hcs with h1 _
    injection h1 with h1 h2 h3
    subst h1 h2 h3
    simp only [if_true] at hmm
    subst hmm
    rw [hC] at hi
    have each : ∀ i j, ∃ z : Int, i < m → j < C → W.cell? (a.add (i * C + j)) = some (.int (ks j) z) ∧ (Lit.int (ks j) z).wf = true := by
      intro i j
      by_cases h0 : i < m ∧ j < C
      · obtain ⟨hi0, hj0⟩ := h0
        obtain ⟨cs', hc, htr⟩ := hi i hi0
        obtain ⟨_, hcl, hat⟩ := World.cells?_some hc
        obtain ⟨z, hz, hw⟩ := hel _ _ _ htr j hj0
        refine ⟨z, fun _ _ => ⟨?_, hw⟩⟩
        rw [← Go.Deep.add_add, hat j hj0, hz]
      · exact ⟨0, fun h1 h2 => absurd ⟨h1, h2⟩ h0⟩
    obtain ⟨g, hfun⟩ : ∃ g : Nat → Nat → Int, ∀ i j, i < m → j < C → W.cell? (a.add (i * C + j)) = some (.int (ks j) (g i j)) ∧ (Lit.int (ks j) (g i j)).wf = true :=
      ⟨fun i j => Classical.choose (each i j), fun i j => Classical.choose_spec (each i j)⟩
    clear each
    refine ⟨some a, len, m, g, rfl, by omega, fun hn => ?_, fun i j h1 h2 => (hfun i j (by omega) h2).2⟩
    have h0 := (hfun 0 0 (by omega) hpos).1
    obtain ⟨b0, off, spot⟩ := a
    have hspot : spot = none := by
      have := World.cell?_spot h0
      simpa [Addr.add] using this
    subst hspot
    refine ⟨b0, off, rfl, ?_, fun i hi2 j hj => ?_⟩
    · have := lt_of_cell h0
      simpa [Addr.add] using this
    · have q0 := (hfun i j (by omega) hj).1
      rwa [show Addr.add ⟨b0, off, none⟩ (i * C + j) = ⟨b0, off + (i * C + j), none⟩ from Go.WideShapes.add_plain _ _ _] at q0
end Go.Gl
