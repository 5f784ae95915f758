/- A new heap: it is sound, its shape. -/
import Derived.Test.YtkmnbaecohhcaaaDoorVr
namespace Go.Proofs.YtkmnbaecohhcaaaDoor
set_option linter.unusedVariables false
set_option linter.unusedSimpArgs false
set_option maxRecDepth 100000
open Go.RowKit Go.Gl HS

section
variable {g : Geo} {W R n T : Nat}
theorem HSn.row {k : Nat} (h : k < R) : (HSn g W R n T).rowL (k : Int) = [] ∧ (HSn g W R n T).rowE (k : Int) = 0 := by
  have hs : (HSn g W R n T).s ((k : Int)).toNat = 0 := rfl
  have hR : (HSn g W R n T).R = R := rfl
  constructor
  · unfold rowL
    rw [if_neg (by rw [hR]; omega), if_neg (by rw [hs]; omega), if_neg (by rw [hs]; omega)]
  · unfold rowE
    rw [if_neg (by rw [hR]; omega), if_neg (by rw [hs]; omega), if_neg (by rw [hs]; omega)]
theorem HSn.row_out {a : Int} (h : ¬ (0 ≤ a ∧ a < (R : Int))) : (HSn g W R n T).rowL a = [] ∧ (HSn g W R n T).rowE a = 2 := by
  constructor
  · unfold rowL
    rw [if_pos (show ¬ (0 ≤ a ∧ a < ((HSn g W R n T).R : Int)) from h)]
  · unfold rowE
    rw [if_pos (show ¬ (0 ≤ a ∧ a < ((HSn g W R n T).R : Int)) from h)]
theorem HSn.objs : (HSn g W R n T).objL = [] := by
  refine List.eq_nil_iff_forall_not_mem.2 fun a ha => ?_
  obtain ⟨k, hk, hr, _⟩ := mem_objL.1 ha
  have hk : k < R := hk
  rw [(HSn.row hk).1] at hr
  cases hr
theorem HSn.sound : (HSn g W R n T).Sound :=
  ⟨fun k hk => (HSn.row hk).2, fun a ha => (by rw [HSn.objs] at ha; cases ha), fun i hi r hr => (by cases hr)⟩
theorem HSn.stk (i : Nat) : (HSn g W R n T).gs.st i = [] := by
  show (if i < T then [] else []) = ([] : List Int)
  split <;> rfl
theorem HSn.roots : ∀ t, rootsOf (HSn g W R n T).gs t = []
  | 0 => rfl
  | t + 1 => by rw [rootsOf_succ, HSn.roots t, HSn.stk]; rfl
theorem HSn.ord : order (HSn g W R n T).gs T = [] := by
  have h0 : bfs (HSn g W R n T).gs T 0 = [] := by
    show visits [] (rootsOf _ T) = []
    rw [HSn.roots]
    rfl
  unfold order
  rw [bfs_still _ _ (m := 0) (Nat.zero_le _) (by rw [h0]; decide), h0]
theorem HSn.shape_len : (shape (HSn g W R n T).gs T).length = T := by
  unfold shape
  rw [HSn.ord]
  have h1 : ∀ t, ((List.range t).flatMap (shapeT (HSn g W R n T).gs [])).length = t := fun t => by
    induction t with
    | zero => rfl
    | succ t ih =>
      rw [List.range_succ, List.flatMap_append, List.length_append, ih]
      simp [shapeT, HSn.stk]
  rw [List.length_append, h1]
  rfl
end
end Go.Proofs.YtkmnbaecohhcaaaDoor
