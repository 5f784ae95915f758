/- RootsNil: a stack that isn't there answers an error or nothing, whatever is asked of it. Conditions: none but the row's own. -/
import Derived.Test.YtamjlkcoipgfgaaL12
import Derived.Test.YtamjlkcoipgfgaaCard0
namespace Go.Proofs.Ytamjlkcoipgfgaa.RootsNil
set_option linter.unusedVariables false
open Go.RowKit Go.Gl Go.ChangeShapes Go.WideShapes Go.ChangeAt Go.Deep

theorem walk (k a b : Int) (w : World) : Calls Try.prog 5 #[.agg #[.int .i64 k, .int .i64 a, .int .u64 b]] w fun e w' => e = .returned (.bool true) ∧ Fr [] w w' := by
  have HB : Hid (Blk (w.alloc (.cells #[.int .i64 k, .int .i64 a, .int .u64 b] 34)) w.heap.size 34 #[.int .i64 k, .int .i64 a, .int .u64 b]) := Blk.new _ _ _
  go_enter Try.func5, Try.ntmps5
  go_wp2_with fail
  refine (awake12_any _).mono ?_
  rintro e w1 ⟨rfl, hf⟩
  have HF := hide hf
  have B1 := HB.out.fr hf (by simp)
  have c1 := B1.cell 1
  have c2 := B1.cell 2
  clear hf B1
  go_wp2_with (first | (go_at_call 15; refine (hpush_nil _ _).mono ?_; rintro e w' ⟨rfl, rfl⟩) | (go_at_call 9; refine (hpop_nil _).mono ?_; rintro e w' ⟨rfl, rfl⟩) | (go_at_call 11; refine (hat_nil _ _).mono ?_; rintro e w' ⟨rfl, rfl⟩) | (go_at_call 13; refine (hset_nil _ _ _).mono ?_; rintro e w' ⟨rfl, rfl⟩) | (go_at_call 19; refine (hlen_nil _).mono ?_; rintro e w' ⟨rfl, rfl⟩) | (go_at_call 20; refine (hroom_nil _).mono ?_; rintro e w' ⟨rfl, rfl⟩) | (go_at_call 17; refine (hlist_nil _).mono ?_; rintro e w' ⟨rfl, rfl⟩))
  go_ret
  exact ⟨rfl, ((Fr.refl _ _).alloc _).trans_nil HF.out⟩

def kinds : Nat → IntKind := fun j => if j = 2 then .u64 else .i64
theorem act_fields : ∃ fs : Array Field, Try.prog.underlying 34 = some (.struct fs) ∧ oneCellFields Try.prog fs = true ∧ Try.prog.cellsOf 34 = fs.size ∧ fs.size = 3 ∧ ∀ (j : Nat) f, fs[j]? = some f → Try.prog.underlying f.type = some (.int (kinds j)) :=
  ⟨_, Try.underlying34, by kernel_rfl, by kernel_rfl, by kernel_rfl, by
    intro j f hf
    match j, hf with
    | 0, hf => simp at hf; subst hf; exact Try.underlying3
    | 1, hf => simp at hf; subst hf; exact Try.underlying3
    | 2, hf => simp at hf; subst hf; exact Try.underlying32
    | j + 3, hf => simp at hf⟩
theorem holds {H : Type} {enc : TypeId × Value → H} {W : World} {base : Nat} {args : Array Value} {ds : List (DataW H)} {p : List MemPlace}
    (hval : ∀ (j : Nat) t v, Try.f5.params[j]? = some t → args[j]? = some v → Value.okWide Try.prog W .any base t v)
    (hA : DataW.TrodAll enc Try.prog W 0 (fun _ => true) true Try.f5.params.toList args.toList ds p) : Holds Try.prog 5 args W := by
  rw [Try.params5] at hA hval
  obtain ⟨v0, vs0, d0, ds0, p0, q0, hargs, rfl, rfl, h0, r0⟩ := trodAll_cons hA
  obtain ⟨rfl, rfl, rfl⟩ := trodAll_nil r0
  obtain rfl : args = #[v0] := by cases args; simp_all
  obtain ⟨fs, e1, e2, e3, e4, e5⟩ := act_fields
  obtain ⟨z, rfl, _⟩ := open_agg_kinds e1 e2 e3 e5 (hval 0 34 v0 rfl rfl) h0
  rw [e4]
  exact (walk (z 0) (z 1) (z 2) W).mono fun e W' ⟨he, hf⟩ => ⟨he, hf.below_nil⟩
theorem readable : ∀ t, t ∈ Try.f5.params.toList → Try.prog.readableRec t = true ∧ t < Try.prog.types.size := by
  intro t ht
  rw [Try.params5] at ht
  have hm : t = 34 := by simp at ht; omega
  rcases hm with rfl
  all_goals exact ⟨by kernel_rfl, of_decide_eq_true (by kernel_rfl)⟩
theorem laid_met (os : Os) : laidMet Try.prog Rows.rootsNilRow.laid ((laidWorld os).forCall (fun _ _ => 0) ⟨#[], #[.agg #[.int .i64 0, .int .i64 0, .int .u64 0]], []⟩).memory :=
  ⟨[], rfl, List.nodup_nil, fun _ _ h => by cases h⟩
theorem reads (os : Os) {H : Type} (enc : TypeId × Value → H) : ∃ places, DataW.whole enc Try.prog ((laidWorld os).forCall (fun _ _ => 0) ⟨#[], #[.agg #[.int .i64 0, .int .i64 0, .int .u64 0]], []⟩).memory Try.f5.params.toList Rows.rootsNilSpec.vars false (#[.agg #[.int .i64 0, .int .i64 0, .int .u64 0]] : Array Value).toList 8 = some ([.agg [.lit (.int .i64 0), .lit (.int .i64 0), .lit (.int .u64 0)]], [], places) :=
  ⟨[], by kernel_rfl⟩
theorem spec {H : Type} : ∀ ds : List (DataW H), ds.length = Try.f5.params.toList.length → Rows.rootsNilSpec.fn H (ds ++ []) = { results := [.lit (.bool true)], args := ds, vars := [] } := by
  intro ds h
  rw [Try.params5] at h
  simp only [List.append_nil]
  match ds, h with
  | [_], _ => rfl

set_option maxRecDepth 100000 in
theorem lifted (os : Os) (started : os.Started) (H : Type) (enc : TypeId × Value → H) (F : Stop.Interp) :
    ReturnsInHanded {} Try.checked os 5 .any ((OpenSpec.ofChange Rows.rootsNilSpec).preRow enc Try.prog Try.f5 Rows.rootsNilRow.domain false Rows.rootsNilRow.laid) (((OpenSpec.ofChange Rows.rootsNilSpec).at F).post enc Try.prog Try.f5 false true false false) := by
  obtain ⟨places, hx⟩ := reads os enc
  refine returnsInHanded_of_row (C := Try.checked) (s := OpenSpec.ofChange Rows.rootsNilSpec) own started (by kernel_rfl) Try.func5
    (witness_row_at (enc := enc) (C := Try.checked) false (laidWorld os) #[.agg #[.int .i64 0, .int .i64 0, .int .u64 0]] rfl (by kernel_rfl) (by kernel_rfl) (by kernel_rfl)
      (OpenSpec.preRow_of_cond 8 hx (by kernel_rfl) (fun k hk => by cases hk) (by kernel_rfl) (laid_met os))) ?_
  intro W base args ds gs before hval hW _ _ _ hL _ _
  have hW' : DataW.Whole enc Try.prog Try.f5.params.toList Rows.rootsNilSpec.vars false W args.toList ds gs before := hW
  exact law_close (s := Rows.rootsNilSpec) rfl rfl Try.underlying4 spec laidOut readable hW' (by
    obtain ⟨p, q, hA, _⟩ := hW'
    exact holds hval hA)

theorem said : Rows.RootsNilSaid :=
  OpenClaim.holds_of_cond 5 Try.f5 rfl rfl rfl rfl rfl rfl rfl ⟨rfl, rfl, rfl, rfl, rfl⟩ rfl rfl rfl rfl rfl (by kernel_rfl) Try.func5 (by kernel_rfl)
    (of_decide_eq_true (by kernel_rfl)) (by unfold Func.isWrapper; first | (rw [if_pos (by decide +kernel)]; kernel_rfl) | (rw [if_neg (by decide +kernel)]; exact ⟨rfl, rfl⟩))
    (fun os started H enc _ F => by rw [OpenClaim.pre_eq_preRow]; exact lifted os started H enc F)
end Go.Proofs.Ytamjlkcoipgfgaa.RootsNil
