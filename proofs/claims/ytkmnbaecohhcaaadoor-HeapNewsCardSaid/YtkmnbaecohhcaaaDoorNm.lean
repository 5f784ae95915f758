/- Lists of whole numbers, and the document's comparison of two. -/
import Derived.Test.YtkmnbaecohhcaaaDoorProg
import Derived.Test.YtkmnbaecohhcaaaDoorKit
import Derived.WalkKit
import Derived.BigQuiet
namespace Go.Proofs.YtkmnbaecohhcaaaDoor
set_option linter.unusedVariables false
open Go.RowKit Go.Gl

theorem Tryd.info_int : (Tryd.prog.info? 3).map (fun i => (i.zero, i.size, i.bytes)) = some (some (.int .i64 0), 1, 8) := by kernel_rfl
def nums (l : List Nat) : List Value := l.map fun (x : Nat) => .int .i64 (x : Int)
theorem nums_len (l : List Nat) : (nums l).length = l.length := by simp [nums]
theorem nums_app (a b : List Nat) : nums (a ++ b) = nums a ++ nums b := by simp [nums]
theorem one_at (w : World) (v : Value) (t : TypeId) : ∀ (j : Nat) u, [v][j]? = some u → (w.alloc (.cells #[v] t)).cell? (Addr.add ⟨w.heap.size, 0, none⟩ j) = some u := by
  intro j u hj
  match j, hj with
  | 0, hj =>
    simp only [List.getElem?_cons_zero, Option.some.injEq] at hj
    subst hj
    have := (Blk.new w t #[v]).cell 0
    exact this

def ints (l : List Nat) : List Int := l.map fun (x : Nat) => (x : Int)
theorem ints_len (l : List Nat) : (ints l).length = l.length := by simp [ints]
theorem sl_nums {w : World} {base : Nat} {e : TypeId} {v : Value} {l : List Nat} (h : w.ownsRow base e 1 v l.length (nums l)) : ∃ A c, v = .slice A (ints l).length c ∧ Sl w A (ints l).length (fun k => .int .i64 ((ints l).getD k 0)) := by
  obtain ⟨A, c, rfl, hs⟩ := Sl.own h
  refine ⟨A, c, by rw [ints_len], fun hn => ?_⟩
  rw [ints_len] at hn ⊢
  obtain ⟨b, off, h1, h2, h3⟩ := hs hn
  refine ⟨b, off, h1, h2, fun k hk => (h3 k hk).trans ?_⟩
  simp [nums, ints, hk]
theorem one_at' (w : World) (v : Value) (t : TypeId) {s : Nat} (hs : w.heap.size = s) : ∀ (j : Nat) u, [v][j]? = some u → (w.alloc (.cells #[v] t)).cell? (Addr.add ⟨s, 0, none⟩ j) = some u := by
  subst hs
  exact one_at w v t
end Go.Proofs.YtkmnbaecohhcaaaDoor
