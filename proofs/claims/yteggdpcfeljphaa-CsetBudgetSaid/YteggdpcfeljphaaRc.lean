/- A slice of structs of whole numbers among the arguments. -/
import Derived.Test.YteggdpcfeljphaaFrame
namespace Go.Gl
set_option linter.unusedVariables false
open Go.ChangeShapes Go.WideShapes Go.ChangeAt Go.RowKit Go.Deep

/-- At A lie n structs of k numbers each. -/
def Recs (w : World) (A : Option Addr) (n k : Nat) (ks : Nat → IntKind) (f : Nat → Nat → Int) : Prop :=
  0 < n → ∃ b off, A = some ⟨b, off, none⟩ ∧ b < w.heap.size ∧ ∀ i, i < n → ∀ j, j < k → w.cell? ⟨b, off + (i * k + j), none⟩ = some (.int (ks j) (f i j))
theorem open_recs {H : Type} {enc : TypeId × Value → H} {P : Program} {W : World} {t e : TypeId} {fs : Array Field} {ks : Nat → IntKind} {r : Reach} {b : Nat} {v : Value} {d : DataW H} {p : List MemPlace}
    (ht : P.underlying t = some (.slice e)) (he : P.underlying e = some (.struct fs)) (hone : oneCellFields P fs = true) (hC : P.cellsOf e = fs.size) (hpos : 0 < fs.size)
    (hk : ∀ (j : Nat) f, fs[j]? = some f → P.underlying f.type = some (.int (ks j))) (hv : Value.okWide P W r b t v) (h : DataW.Trod enc P W 0 (fun _ => true) true t v d p) :
    ∃ A n c f, v = .slice A n c ∧ n ≤ maxLen ∧ Recs W A n fs.size ks f ∧ ∀ i j, i < n → j < fs.size → (Lit.int (ks j) (f i j)).wf = true := by
  obtain ⟨a0, len, cap, rfl⟩ := okWide_slice ht hv
  obtain ⟨fuel, hf⟩ := h
  rcases open_slice_fields ht he hone hC hf with ⟨hcs, hx⟩ | ⟨a, len', cap', m, D, Pl, hcs, _, hl, hm, hmm, hx, hi⟩
  · simp only [Value.cells] at hcs
    injection hcs with h1 _
    injection h1 with h1 h2 h3
    subst h1 h2 h3
    exact ⟨none, 0, 0, fun _ _ => 0, rfl, Nat.zero_le _, fun h => absurd h (by decide), fun i j h => absurd h (by omega)⟩
  · simp only [Value.cells] at hcs
    injection hcs with h1 _
    injection h1 with h1 h2 h3
    subst h1 h2 h3
    simp only [if_true] at hmm
    subst hmm
    have each : ∀ i j, ∃ z : Int, i < m → j < fs.size → W.cell? (a.add (i * fs.size + j)) = some (.int (ks j) z) ∧ (Lit.int (ks j) z).wf = true := by
      intro i j
      by_cases h0 : i < m ∧ j < fs.size
      · obtain ⟨hi0, hj0⟩ := h0
        obtain ⟨ys, n, _, _, _, hf⟩ := hi i hi0
        have hfj : fs[j]? = some fs[j] := Array.getElem?_eq_getElem hj0
        obtain ⟨v0, y0, k0, _, t0⟩ := hf j _ hfj
        obtain ⟨z0, e0, _, w0⟩ := DataW.trod_int (hk j _ hfj) t0
        simp only [List.cons.injEq, and_true] at e0
        subst e0
        exact ⟨z0, fun _ _ => ⟨k0, w0⟩⟩
      · exact ⟨0, fun h1 h2 => absurd ⟨h1, h2⟩ h0⟩
    obtain ⟨g, hfun⟩ : ∃ g : Nat → Nat → Int, ∀ i j, i < m → j < fs.size → W.cell? (a.add (i * fs.size + j)) = some (.int (ks j) (g i j)) ∧ (Lit.int (ks j) (g i j)).wf = true :=
      ⟨fun i j => Classical.choose (each i j), fun i j => Classical.choose_spec (each i j)⟩
    clear each
    refine ⟨some a, len, m, g, rfl, by omega, fun hn => ?_, fun i j h1 h2 => (hfun i j (by omega) h2).2⟩
    have h0 := (hfun 0 0 (by omega) hpos).1
    obtain ⟨b0, off, spot⟩ := a
    have hspot : spot = none := by
      have := World.cell?_spot h0
      simpa [Addr.add] using this
    subst hspot
    refine ⟨b0, off, rfl, ?_, fun i hi2 j hj => ?_⟩
    · have := lt_of_cell h0
      simpa [Addr.add] using this
    · have q0 := (hfun i j (by omega) hj).1
      rwa [show Addr.add ⟨b0, off, none⟩ (i * fs.size + j) = ⟨b0, off + (i * fs.size + j), none⟩ from Go.WideShapes.add_plain _ _ _] at q0
end Go.Gl
