/- Slices of bools among the arguments. -/
import Derived.Test.YtjnnegbcijmclaaFrame
import Derived.Deep.Grids
namespace Go.Gl
set_option linter.unusedVariables false
open Go.ChangeShapes Go.WideShapes Go.ChangeAt Go.RowKit

theorem open_bl {H : Type} {enc : TypeId × Value → H} {P : Program} {W : World} {t e : TypeId} {r : Reach} {b : Nat} {v : Value} {d : DataW H} {p : List MemPlace}
    (ht : P.underlying t = some (.slice e)) (he : P.underlying e = some .bool) (hc : P.cellsOf e = 1) (hv : Value.okWide P W r b t v) (h : DataW.Trod enc P W 0 (fun _ => true) true t v d p) :
    ∃ A n c, ∃ zs : Nat → Bool, v = .slice A n c ∧ n ≤ maxLen ∧ Sl W A n (fun j => .bool (zs j)) := by
  obtain ⟨a0, len, cap, rfl⟩ := okWide_slice ht hv
  obtain ⟨fuel, hf⟩ := h
  rcases Go.Deep.open_bools ht he hc hf with ⟨hcs, hx⟩ | ⟨a, len', cap', B, hcs, _, hl, hm, hx, hcell⟩
  · simp only [Value.cells] at hcs
    injection hcs with h1 _
    injection h1 with h1 h2 h3
    subst h1 h2 h3
    exact ⟨none, 0, 0, fun _ => false, rfl, Nat.zero_le _, fun h => absurd h (by decide)⟩
  · simp only [Value.cells] at hcs
    injection hcs with h1 _
    injection h1 with h1 h2 h3
    subst h1 h2 h3
    refine ⟨some a, len, cap, B, rfl, by omega, fun hn => ?_⟩
    have h0 := hcell 0 (by omega)
    obtain ⟨b0, off, spot⟩ := a
    have hspot : spot = none := by
      have := World.cell?_spot h0
      simpa [Addr.add] using this
    subst hspot
    refine ⟨b0, off, rfl, ?_, fun k hk => ?_⟩
    · have := lt_of_cell h0
      simpa [Addr.add] using this
    · have := hcell k (by omega)
      rw [Go.WideShapes.add_plain b0 off k] at this
      exact this
end Go.Gl
