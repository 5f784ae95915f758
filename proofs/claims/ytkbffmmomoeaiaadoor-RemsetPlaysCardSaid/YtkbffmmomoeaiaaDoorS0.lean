/- Package remset: its types as keys and elements of maps. -/
import Derived.Test.YtkbffmmomoeaiaaDoorMp
import Derived.Test.YtkbffmmomoeaiaaDoorProg
import Derived.DeepKeys4
import Derived.WalkKit
namespace Go.Proofs.YtkbffmmomoeaiaaDoor
set_option linter.unusedVariables false
open Go.RowKit Go.Gl
open Go.Maps (Keyed)

theorem Tryd.laidOut : laidOutB Tryd.prog = true := by kernel_rfl
theorem Tryd.pairLaw : Keyed Tryd.prog 76 := Keyed.of_law (deep_law_laid Tryd.laidOut (m := 2) (by omega) (of_decide_eq_true (by kernel_rfl)) (by kernel_rfl) (by kernel_rfl))
theorem Tryd.intLaw : Keyed Tryd.prog 3 := Maps.int_keyed Tryd.underlying3
/-- What a map's key is: a home and a source. -/
def pairV (h s : Int) : Value := .agg #[.int .i64 h, .int .i64 s]
theorem pairV_inj {h s h' s' : Int} (e : pairV h s = pairV h' s') : h = h' ∧ s = s' := by
  unfold pairV at e
  injection e with e
  simp at e
  exact e
theorem Tryd.pk2 : 2 ≤ Tryd.prog.types.size := of_decide_eq_true (by kernel_rfl)
theorem Tryd.pk1 : Tryd.prog.keyTypeAt 3 76 = true := by kernel_rfl
theorem Tryd.pkC : Tryd.prog.cellsOf 76 = 2 := by kernel_rfl
theorem Tryd.pkI : Tryd.prog.cellsOf 3 = 1 := by kernel_rfl
theorem Tryd.pkT : Tryd.prog.keyType 76 = true := by kernel_rfl
theorem pairKey (h s : Int) (wh : (Lit.int .i64 h).wf = true) (ws : (Lit.int .i64 s).wf = true) : ∃ l, keyOf Tryd.prog 76 (pairV h s) = some l := by
  obtain ⟨m, hm⟩ : ∃ m, Tryd.prog.types.size = m + 2 := ⟨Tryd.prog.types.size - 2, by have := Tryd.pk2; omega⟩
  unfold keyOf pairV
  rw [Tryd.underlying76]
  show ∃ l, (if (Tryd.prog.keyType 76 && Value.formed Tryd.prog 76 _) = true then _ else none) = some l
  rw [Tryd.pkT, hm]
  simp [Tryd.underlying76, Value.formed, Tryd.pkC, Program.keyLits, Value.cells, Tryd.pkI, Tryd.underlying3, wh, ws]
theorem intKey (a : Int) (wa : (Lit.int .i64 a).wf = true) : keyOf Tryd.prog 3 (.int .i64 a) = some (.int .i64 a) := Maps.keyOf_int_mk Tryd.underlying3 wa
/-- What is known of a source. -/
def memOf (way : Int) (few many : Value) : Value := .agg #[.int .i64 way, few, many]
theorem zeroMem (w : World) : (zeroValue 82).run Tryd.prog w = .ok (memOf 0 (.slice none 0 0) (.pointer none)) w := by kernel_rfl
theorem field_way (a b c : Value) (w : World) : (Instr.field 82 (.agg #[a, b, c]) 0).run Tryd.prog w = .ok a w := by
  simp [Instr.field, Tryd.underlying82, run_underlying, Tryd.isAgg40, Tryd.sizeOf40, asAgg, go_sem]
theorem field_many (a b c : Value) (w : World) : (Instr.field 82 (.agg #[a, b, c]) 2).run Tryd.prog w = .ok c w := by
  simp [Instr.field, Tryd.underlying82, run_underlying, Tryd.isAgg80, Tryd.sizeOf80, asAgg, go_sem]
theorem zeroUnit (w : World) : (zeroValue 73).run Tryd.prog w = .ok (.agg #[]) w := by kernel_rfl
theorem wf_nat {n : Nat} (h : n ≤ 4611686018427387904) : (Lit.int .i64 (n : Int)).wf = true := WalkArith.wf_i64 (by omega)
end Go.Proofs.YtkbffmmomoeaiaaDoor
