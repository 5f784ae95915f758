/- OffsNil: of a table that isn't there each call answers an error, whatever it is asked. Conditions: none but the row's own (the library's table lies as its text lays it). -/
import Derived.Test.YtjjedmjcnppdkaaDoorL6
import Derived.Test.YtjjedmjcnppdkaaDoorCard
namespace Go.Proofs.YtjjedmjcnppdkaaDoor.OffsNil
set_option linter.unusedVariables false
open Go.RowKit Go.Gl Go.ChangeShapes Go.WideShapes Go.ChangeAt Go.Deep

theorem walk (k a b : Int) (w : World) (hT : Tab w) : Calls Tryd.prog 4 #[.agg #[.int .i64 k, .int .i64 a, .int .i64 b]] w fun e w' => e = .returned (.bool true) ∧ Fr [] w w' := by
  have HT := hide hT
  have HB : Hid (Blk (w.alloc (.cells #[.int .i64 k, .int .i64 a, .int .i64 b] 37)) w.heap.size 37 #[.int .i64 k, .int .i64 a, .int .i64 b]) := Blk.new _ _ _
  clear hT
  go_enter Tryd.func4, Tryd.ntmps4
  go_wp2_with fail
  refine (awake_any _ (HT.out.alloc _)).mono ?_
  rintro e w1 ⟨rfl, hf⟩
  have HF := hide hf
  have B1 := HB.out.fr hf (by simp)
  have c1 := B1.cell 1
  have c2 := B1.cell 2
  clear hf B1
  go_wp2_with (first | (go_at_call 9; refine (ofirst_nil _ _).mono ?_; rintro e w' ⟨rfl, rfl⟩) | (go_at_call 8; refine (oput_nil _ _ _).mono ?_; rintro e w' ⟨rfl, rfl⟩) | (go_at_call 10; refine (odrop_nil _ _ _).mono ?_; rintro e w' ⟨rfl, rfl⟩))
  go_ret
  exact ⟨rfl, ((Fr.refl _ _).alloc _).trans_nil HF.out⟩

theorem act_fields : ∃ fs : Array Field, Tryd.prog.underlying 37 = some (.struct fs) ∧ oneCellFields Tryd.prog fs = true ∧ Tryd.prog.cellsOf 37 = fs.size ∧ fs.size = 3 ∧ ∀ f ∈ fs.toList, Tryd.prog.underlying f.type = some (.int .i64) :=
  ⟨_, Tryd.underlying37, by kernel_rfl, by kernel_rfl, by kernel_rfl, by
    intro f hf
    simp at hf
    rcases hf with rfl | rfl | rfl
    all_goals exact Tryd.underlying3⟩
theorem holds {H : Type} {enc : TypeId × Value → H} {W : World} {base : Nat} {args : Array Value} {ds : List (DataW H)} {p : List MemPlace}
    (hval : ∀ (j : Nat) t v, Tryd.f4.params[j]? = some t → args[j]? = some v → Value.okWide Tryd.prog W .any base t v)
    (hA : DataW.TrodAll enc Tryd.prog W 0 (fun _ => true) true Tryd.f4.params.toList args.toList ds p) (hT : Tab W) : Holds Tryd.prog 4 args W := by
  rw [Tryd.params4] at hA hval
  obtain ⟨v0, vs0, d0, ds0, p0, q0, hargs, rfl, rfl, h0, r0⟩ := trodAll_cons hA
  obtain ⟨rfl, rfl, rfl⟩ := trodAll_nil r0
  obtain rfl : args = #[v0] := by cases args; simp_all
  obtain ⟨fs, e1, e2, e3, e4, e5⟩ := act_fields
  obtain ⟨zs, hz, rfl, _⟩ := open_agg_ints e1 e2 e3 e5 (hval 0 37 v0 rfl rfl) h0
  match zs, hz.trans e4 with
  | [k, a, b], _ =>
    exact (walk k a b W hT).mono fun e W' ⟨he, hf⟩ => ⟨he, hf.below_nil⟩
theorem readable : ∀ t, t ∈ Tryd.f4.params.toList → Tryd.prog.readableRec t = true ∧ t < Tryd.prog.types.size := by
  intro t ht
  rw [Tryd.params4] at ht
  have hm : t = 37 := by simp at ht; omega
  rcases hm with rfl
  all_goals exact ⟨by kernel_rfl, of_decide_eq_true (by kernel_rfl)⟩
theorem laid_met (os : Os) : laidMet Tryd.prog Rows.offsNilRow.laid ((laidWorld os).forCall (fun _ _ => 0) ⟨#[], #[.agg #[.int .i64 0, .int .i64 0, .int .i64 0]], []⟩).memory :=
  laidMet_of_run' 8 (by kernel_rfl) (by kernel_rfl)
theorem reads (os : Os) {H : Type} (enc : TypeId × Value → H) : ∃ places, DataW.whole enc Tryd.prog ((laidWorld os).forCall (fun _ _ => 0) ⟨#[], #[.agg #[.int .i64 0, .int .i64 0, .int .i64 0]], []⟩).memory Tryd.f4.params.toList Rows.offsNilSpec.vars false (#[.agg #[.int .i64 0, .int .i64 0, .int .i64 0]] : Array Value).toList 8 = some ([.agg [.lit (.int .i64 0), .lit (.int .i64 0), .lit (.int .i64 0)]], [], places) :=
  ⟨[], by kernel_rfl⟩
theorem spec {H : Type} : ∀ ds : List (DataW H), ds.length = Tryd.f4.params.toList.length → Rows.offsNilSpec.fn H (ds ++ []) = { results := [.lit (.bool true)], args := ds, vars := [] } := by
  intro ds h
  rw [Tryd.params4] at h
  simp only [List.append_nil]
  match ds, h with
  | [_], _ => rfl

set_option maxRecDepth 100000 in
theorem lifted (os : Os) (started : os.Started) (H : Type) (enc : TypeId × Value → H) (F : Stop.Interp) :
    ReturnsInHanded {} Tryd.checked os 4 .any ((OpenSpec.ofChange Rows.offsNilSpec).preRow enc Tryd.prog Tryd.f4 Rows.offsNilRow.domain false Rows.offsNilRow.laid) (((OpenSpec.ofChange Rows.offsNilSpec).at F).post enc Tryd.prog Tryd.f4 false true false false) := by
  obtain ⟨places, hx⟩ := reads os enc
  refine returnsInHanded_of_row (C := Tryd.checked) (s := OpenSpec.ofChange Rows.offsNilSpec) own started (by kernel_rfl) Tryd.func4
    (witness_row_at (enc := enc) (C := Tryd.checked) false (laidWorld os) #[.agg #[.int .i64 0, .int .i64 0, .int .i64 0]] rfl (by kernel_rfl) (by kernel_rfl) (by kernel_rfl)
      (OpenSpec.preRow_of_cond 8 hx (by kernel_rfl) (fun k hk => by cases hk) (by kernel_rfl) (laid_met os))) ?_
  intro W base args ds gs before hval hW _ _ _ hL _ _
  have hW' : DataW.Whole enc Tryd.prog Tryd.f4.params.toList Rows.offsNilSpec.vars false W args.toList ds gs before := hW
  exact law_close (s := Rows.offsNilSpec) rfl rfl Tryd.underlying4 spec laidOut readable hW' (by
    obtain ⟨p, q, hA, _⟩ := hW'
    exact holds hval hA (table hL))

theorem said : Rows.OffsNilSaid :=
  OpenClaim.holds_of_cond 4 Tryd.f4 rfl rfl rfl rfl rfl rfl rfl ⟨rfl, rfl, rfl, rfl, rfl⟩ rfl rfl rfl rfl rfl (by kernel_rfl) Tryd.func4 (by kernel_rfl)
    (of_decide_eq_true (by kernel_rfl)) (by unfold Func.isWrapper; first | (rw [if_pos (by decide +kernel)]; kernel_rfl) | (rw [if_neg (by decide +kernel)]; exact ⟨rfl, rfl⟩))
    (fun os started H enc _ F => by rw [OpenClaim.pre_eq_preRow]; exact lifted os started H enc F)

/-- No parameter wants a stand-in; the program's own looks are off. -/
theorem plain (f : FuncId) (fn : Func) (hf : Tryd.pinned.checked.prog.funcNamed "gleaner/gleanerlaw06.OffsNil" = some f) (hfn : Tryd.pinned.checked.prog.funcs[f]? = some fn) :
    false = Tryd.pinned.checked.prog.looks [] ∧ ∀ (j : Nat) t, fn.params[j]? = some t → Tryd.pinned.checked.prog.wantsStandIn t = false := by
  obtain rfl : f = 4 := Option.some.inj ((show Tryd.prog.funcNamed "gleaner/gleanerlaw06.OffsNil" = some 4 by kernel_rfl).symm.trans hf) |>.symm
  obtain rfl : fn = Tryd.f4 := (Option.some.inj (Tryd.func4.symm.trans hfn)).symm
  refine ⟨by kernel_rfl, fun j t ht => ?_⟩
  rw [Tryd.params4] at ht
  have hm : t = 37 := by have := Array.mem_of_getElem? ht; simp at this; omega
  rcases hm with rfl
  · exact (show Tryd.prog.wantsStandIn 37 = false by kernel_rfl)

/-- The card. -/
theorem card : Rows.OffsNilCardSaid :=
  Claim7.holds_tied_plain_at .later [] _ _ _ _ said (fun _ h => by cases h) (by kernel_rfl) (fun _ h => by cases h) offsNil_row_tie rfl ⟨rfl, rfl⟩ (by kernel_rfl) rfl plain (by kernel_rfl)
end Go.Proofs.YtjjedmjcnppdkaaDoor.OffsNil
