/- ParseNil: without an arena every call answers an error, whatever it is asked. Conditions: none but the row's own. -/
import Derived.Test.YtjnnegbcijmclaaL5
import Derived.Test.YtjnnegbcijmclaaCard0
namespace Go.Proofs.Ytjnnegbcijmclaa.ParseNil
set_option linter.unusedVariables false
open Go.RowKit Go.Gl Go.ChangeShapes Go.WideShapes Go.ChangeAt Go.Deep

set_option maxRecDepth 100000 in
theorem walk (k a b n v : Int) (w : World) : Calls Try.prog 6 #[.agg #[.int .i64 k, .int .i64 a, .int .i64 b, .int .i64 n, .int .u64 v]] w fun e w' => e = .returned (.bool true) ∧ Fr [] w w' := by
  have HB : Hid (Blk (w.alloc (.cells #[.int .i64 k, .int .i64 a, .int .i64 b, .int .i64 n, .int .u64 v] 31)) w.heap.size 31 #[.int .i64 k, .int .i64 a, .int .i64 b, .int .i64 n, .int .u64 v]) := Blk.new _ _ _
  go_enter Try.func6, Try.ntmps6
  go_wp2_with fail
  refine (awake_any _).mono ?_
  rintro e w1 ⟨rfl, hf⟩
  have HF := hide hf
  have HB1 := hide (HB.out.fr hf (by simp))
  have c1 := HB1.out.cell 1
  clear hf
  go_wp2_with fail
  refine (pat_nil _ _).mono ?_
  rintro e w2 ⟨rfl, hf⟩
  have HF2 := hide hf
  have HB2 := hide (HB1.out.fr (hf.alloc (.cells #[.int .i64 0, .int .i64 0, .int .i64 0, .int .i64 0, .int .i64 0] 46)) (by simp))
  have HH2 : Hid (Blk (w2.alloc (.cells #[.int .i64 0, .int .i64 0, .int .i64 0, .int .i64 0, .int .i64 0] 46)) w2.heap.size 46 #[.int .i64 0, .int .i64 0, .int .i64 0, .int .i64 0, .int .i64 0]) := Blk.new _ _ _
  have N2 : w.heap.size < w2.heap.size := by have := HB1.out.lt; have := hf.size; omega
  have c1' := HB2.out.cell 1
  have c1'' : w2.cell? ⟨w.heap.size, 1, none⟩ = some (.int .i64 a) := (HB1.out.fr hf (by simp)).cell 1
  clear hf c1
  go_wp2_with fail
  refine (pfields_nil _ _).mono ?_
  rintro e w3 ⟨rfl, hf⟩
  have HF3 := hide hf
  have B3 := HB2.out.fr hf (by simp)
  have c1 := B3.cell 1
  have c2 := B3.cell 2
  have c3 := B3.cell 3
  obtain ⟨d0, d1, d2, d3, d4⟩ := HdAt.of (h := ⟨0, 0, 0, 0, 0⟩) (HH2.out.fr hf (by simp))
  simp only at d0 d1 d2 d3 d4
  clear hf B3 c1' c1''
  go_wp2_with (first | (go_at_call 17; refine (pstarts_nil _ _ _).mono ?_; rintro e w' ⟨rfl, rfl⟩) | (go_at_call 9; refine (pmake_nil _ _ _ _).mono ?_; rintro e w' ⟨rfl, rfl⟩) | (go_at_call 11; refine (pfill_nil _ _ _).mono ?_; rintro e w' ⟨rfl, rfl⟩))
  go_ret
  exact ⟨rfl, (((((Fr.refl _ _).alloc _).trans_nil HF.out).trans_nil HF2.out).alloc _).trans_nil HF3.out⟩

theorem act_fields : ∃ fs : Array Field, Try.prog.underlying 31 = some (.struct fs) ∧ oneCellFields Try.prog fs = true ∧ Try.prog.cellsOf 31 = fs.size ∧ fs.size = 5 ∧ ∀ (j : Nat) f, fs[j]? = some f → Try.prog.underlying f.type = some (.int (if j < 4 then .i64 else .u64)) :=
  ⟨_, Try.underlying31, by kernel_rfl, by kernel_rfl, by kernel_rfl, by
    intro j f hf
    match j, hf with
    | 0, hf => cases hf; exact Try.underlying3
    | 1, hf => cases hf; exact Try.underlying3
    | 2, hf => cases hf; exact Try.underlying3
    | 3, hf => cases hf; exact Try.underlying3
    | 4, hf => cases hf; exact Try.underlying29
    | _ + 5, hf => cases hf⟩
theorem holds {H : Type} {enc : TypeId × Value → H} {W : World} {base : Nat} {args : Array Value} {ds : List (DataW H)} {p : List MemPlace}
    (hval : ∀ (j : Nat) t v, Try.f6.params[j]? = some t → args[j]? = some v → Value.okWide Try.prog W .any base t v)
    (hA : DataW.TrodAll enc Try.prog W 0 (fun _ => true) true Try.f6.params.toList args.toList ds p) : Holds Try.prog 6 args W := by
  rw [Try.params6] at hA hval
  obtain ⟨v0, vs0, d0, ds0, p0, q0, hargs, rfl, rfl, h0, r0⟩ := trodAll_cons hA
  obtain ⟨rfl, rfl, rfl⟩ := trodAll_nil r0
  obtain rfl : args = #[v0] := by cases args; simp_all
  obtain ⟨fs, e1, e2, e3, e4, e5⟩ := act_fields
  obtain ⟨z, rfl, _⟩ := open_agg_kinds e1 e2 e3 e5 (hval 0 31 v0 rfl rfl) h0
  rw [e4]
  exact (walk (z 0) (z 1) (z 2) (z 3) (z 4) W).mono fun e W' ⟨he, hf⟩ => ⟨he, hf.below_nil⟩
theorem readable : ∀ t, t ∈ Try.f6.params.toList → Try.prog.readableRec t = true ∧ t < Try.prog.types.size := by
  intro t ht
  rw [Try.params6] at ht
  have hm : t = 31 := by simp at ht; omega
  rcases hm with rfl
  all_goals exact ⟨by kernel_rfl, of_decide_eq_true (by kernel_rfl)⟩
theorem laid_met (os : Os) : laidMet Try.prog Rows.parseNilRow.laid ((laidWorld os).forCall (fun _ _ => 0) ⟨#[], #[.agg #[.int .i64 0, .int .i64 0, .int .i64 0, .int .i64 0, .int .u64 0]], []⟩).memory :=
  ⟨[], rfl, List.nodup_nil, fun _ _ h => by cases h⟩
theorem reads (os : Os) {H : Type} (enc : TypeId × Value → H) : ∃ places, DataW.whole enc Try.prog ((laidWorld os).forCall (fun _ _ => 0) ⟨#[], #[.agg #[.int .i64 0, .int .i64 0, .int .i64 0, .int .i64 0, .int .u64 0]], []⟩).memory Try.f6.params.toList Rows.parseNilSpec.vars false (#[.agg #[.int .i64 0, .int .i64 0, .int .i64 0, .int .i64 0, .int .u64 0]] : Array Value).toList 8 = some ([.agg [.lit (.int .i64 0), .lit (.int .i64 0), .lit (.int .i64 0), .lit (.int .i64 0), .lit (.int .u64 0)]], [], places) :=
  ⟨[], by kernel_rfl⟩
theorem spec {H : Type} : ∀ ds : List (DataW H), ds.length = Try.f6.params.toList.length → Rows.parseNilSpec.fn H (ds ++ []) = { results := [.lit (.bool true)], args := ds, vars := [] } := by
  intro ds h
  rw [Try.params6] at h
  simp only [List.append_nil]
  match ds, h with
  | [_], _ => rfl

set_option maxRecDepth 100000 in
theorem lifted (os : Os) (started : os.Started) (H : Type) (enc : TypeId × Value → H) (F : Stop.Interp) :
    ReturnsInHanded {} Try.checked os 6 .any ((OpenSpec.ofChange Rows.parseNilSpec).preRow enc Try.prog Try.f6 Rows.parseNilRow.domain false Rows.parseNilRow.laid) (((OpenSpec.ofChange Rows.parseNilSpec).at F).post enc Try.prog Try.f6 false true false false) := by
  obtain ⟨places, hx⟩ := reads os enc
  refine returnsInHanded_of_row (C := Try.checked) (s := OpenSpec.ofChange Rows.parseNilSpec) own started (by kernel_rfl) Try.func6
    (witness_row_at (enc := enc) (C := Try.checked) false (laidWorld os) #[.agg #[.int .i64 0, .int .i64 0, .int .i64 0, .int .i64 0, .int .u64 0]] rfl (by kernel_rfl) (by kernel_rfl) (by kernel_rfl)
      (OpenSpec.preRow_of_cond 8 hx (by kernel_rfl) (fun k hk => by cases hk) (by kernel_rfl) (laid_met os))) ?_
  intro W base args ds gs before hval hW _ _ _ hL _ _
  have hW' : DataW.Whole enc Try.prog Try.f6.params.toList Rows.parseNilSpec.vars false W args.toList ds gs before := hW
  exact law_close (s := Rows.parseNilSpec) rfl rfl Try.underlying4 spec laidOut readable hW' (by
    obtain ⟨p, q, hA, _⟩ := hW'
    exact holds hval hA)

theorem said : Rows.ParseNilSaid :=
  OpenClaim.holds_of_cond 6 Try.f6 rfl rfl rfl rfl rfl rfl rfl ⟨rfl, rfl, rfl, rfl, rfl⟩ rfl rfl rfl rfl rfl (by kernel_rfl) Try.func6 (by kernel_rfl)
    (of_decide_eq_true (by kernel_rfl)) (by unfold Func.isWrapper; first | (rw [if_pos (by decide +kernel)]; kernel_rfl) | (rw [if_neg (by decide +kernel)]; exact ⟨rfl, rfl⟩))
    (fun os started H enc _ F => by rw [OpenClaim.pre_eq_preRow]; exact lifted os started H enc F)
end Go.Proofs.Ytjnnegbcijmclaa.ParseNil
