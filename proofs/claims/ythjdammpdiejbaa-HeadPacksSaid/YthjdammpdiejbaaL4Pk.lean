/- HeadPacks: every header has just its word, and every word is a header or none, whatever comes in. Conditions: none but the row's own. -/
import Derived.Test.YthjdammpdiejbaaL4
import Derived.Test.YthjdammpdiejbaaCard0
namespace Go.Proofs.Ythjdammpdiejbaa.HeadPacks
set_option linter.unusedVariables false
open Go.RowKit Go.Gl Go.ChangeShapes Go.WideShapes Go.ChangeAt Go.Deep

theorem walk (h : Hd) (x : Nat) (hx : x < 18446744073709551616) (w : World) : Calls Try.prog 3 #[h.val, .int .u64 (x : Int)] w fun e w' => e = .returned (.bool true) ∧ Fr [] w w' := by
  have hp := hpack_any h
  have hq := r4pack_any h
  have hu := hunpack_any x hx
  have hv := r4unpack_any x hx
  generalize h.ans = A at *
  generalize h.err = E at *
  generalize Hd.of x = g at *
  generalize Hd.ofErr x = F at *
  have HP := hide hp
  have HQ := hide hq
  have HU := hide hu
  have HV := hide hv
  clear hp hq hu hv
  have hb : ∀ w : World, Blk (w.alloc (.cells h.cells 24)) w.heap.size 24 h.cells := fun w => Blk.new _ _ _
  have HB := hide hb
  have hg : ∀ (w : World), Blk (w.alloc (.cells g.cells 24)) w.heap.size 24 g.cells := fun w => Blk.new _ _ _
  have HG := hide hg
  clear hb hg
  unfold Hd.val
  go_enter Try.func3, Try.ntmps3
  go_wp2_with fail
  refine (awake_any _).mono ?_
  rintro e w1 ⟨rfl, hf1⟩
  obtain ⟨c0, c1, c2, c3, c4⟩ := HdAt.of ((HB.out w).fr hf1 (by simp))
  have HF1 := hide hf1
  clear hf1
  go_wp2_with fail
  refine (HP.out _).mono ?_
  rintro e w2 ⟨rfl, hf2⟩
  obtain ⟨d0, d1, d2, d3, d4⟩ := (HdAt.fr ⟨c0, c1, c2, c3, c4⟩ hf2 (by simp))
  have HF2 := hide hf2
  clear hf2 c0 c1 c2 c3 c4
  go_wp2_with fail
  refine (HQ.out _).mono ?_
  rintro e w3 ⟨rfl, hf3⟩
  have HF3 := hide hf3
  clear hf3 d0 d1 d2 d3 d4
  go_wp2_with fail
  refine (HU.out _).mono ?_
  rintro e w4 ⟨rfl, hf4⟩
  have HF4 := hide hf4
  unfold Hd.val
  clear hf4
  go_wp2_with fail
  refine (HV.out _).mono ?_
  rintro e w5 ⟨rfl, hf5⟩
  obtain ⟨c0, c1, c2, c3, c4⟩ := HdAt.of ((HG.out w4).fr hf5 (by simp))
  have HF5 := hide hf5
  clear hf5
  unfold Hd.val
  have N0 : w4.heap.size < w5.heap.size := lt_of_cell c0
  go_wp2_with fail
  go_ret
  exact ⟨rfl, ((((((((Fr.refl _ _).alloc _).trans_same HF1.out).trans_same HF2.out).trans_same HF3.out).trans_same HF4.out).alloc _).trans_same HF5.out).alloc _⟩

theorem holds {H : Type} {enc : TypeId × Value → H} {W : World} {base : Nat} {args : Array Value} {ds : List (DataW H)} {p : List MemPlace}
    (hval : ∀ (j : Nat) t v, Try.f3.params[j]? = some t → args[j]? = some v → Value.okWide Try.prog W .any base t v)
    (hA : DataW.TrodAll enc Try.prog W 0 (fun _ => true) true Try.f3.params.toList args.toList ds p) : Holds Try.prog 3 args W := by
  rw [Try.params3] at hA hval
  obtain ⟨v0, vs0, d0, ds0, p0, q0, hargs, rfl, rfl, h0, r0⟩ := trodAll_cons hA
  obtain ⟨v1, vs1, d1, ds1, p1, q1, rfl, rfl, rfl, h1, r1⟩ := trodAll_cons r0
  obtain ⟨rfl, rfl, rfl⟩ := trodAll_nil r1
  obtain rfl : args = #[v0, v1] := by cases args; simp_all
  obtain ⟨fs, e1, e2, e3, e4, e5⟩ := head_fields
  obtain ⟨zs, hz, rfl, _⟩ := open_agg_ints e1 e2 e3 e5 (hval 0 24 v0 rfl rfl) h0
  obtain ⟨x1, rfl, rfl, rfl, w1⟩ := open_int Try.underlying25 (hval 1 25 v1 rfl rfl) h1
  have b1 : 0 ≤ x1 ∧ x1 < 18446744073709551616 := u64_bounds w1
  obtain ⟨X, rfl⟩ := Int.eq_ofNat_of_zero_le b1.1
  match zs, hz.trans e4 with
  | [y0, y1, y2, y3, y4], _ =>
    exact (walk ⟨y0, y1, y2, y3, y4⟩ X (by omega) W).mono fun e W' ⟨he, hf⟩ => ⟨he, hf.below_nil⟩
theorem readable : ∀ t, t ∈ Try.f3.params.toList → Try.prog.readableRec t = true ∧ t < Try.prog.types.size := by
  intro t ht
  rw [Try.params3] at ht
  have hm : t = 24 ∨ t = 25 := by simp at ht; omega
  rcases hm with rfl | rfl
  all_goals exact ⟨by kernel_rfl, of_decide_eq_true (by kernel_rfl)⟩
theorem laid_met (os : Os) : laidMet Try.prog Rows.headPacksRow.laid ((laidWorld os).forCall (fun _ _ => 0) ⟨#[], #[.agg #[.int .i64 0, .int .i64 0, .int .i64 0, .int .i64 0, .int .i64 0], .int .u64 0], []⟩).memory :=
  ⟨[], rfl, List.nodup_nil, fun _ _ h => by cases h⟩
theorem reads (os : Os) {H : Type} (enc : TypeId × Value → H) : ∃ places, DataW.whole enc Try.prog ((laidWorld os).forCall (fun _ _ => 0) ⟨#[], #[.agg #[.int .i64 0, .int .i64 0, .int .i64 0, .int .i64 0, .int .i64 0], .int .u64 0], []⟩).memory Try.f3.params.toList Rows.headPacksSpec.vars false (#[.agg #[.int .i64 0, .int .i64 0, .int .i64 0, .int .i64 0, .int .i64 0], .int .u64 0] : Array Value).toList 8 = some ([.agg [.lit (.int .i64 0), .lit (.int .i64 0), .lit (.int .i64 0), .lit (.int .i64 0), .lit (.int .i64 0)], .lit (.int .u64 0)], [], places) :=
  ⟨[], by kernel_rfl⟩
theorem spec {H : Type} : ∀ ds : List (DataW H), ds.length = Try.f3.params.toList.length → Rows.headPacksSpec.fn H (ds ++ []) = { results := [.lit (.bool true)], args := ds, vars := [] } := by
  intro ds h
  rw [Try.params3] at h
  simp only [List.append_nil]
  match ds, h with
  | [_, _], _ => rfl

set_option maxRecDepth 100000 in
theorem lifted (os : Os) (started : os.Started) (H : Type) (enc : TypeId × Value → H) (F : Stop.Interp) :
    ReturnsInHanded {} Try.checked os 3 .any ((OpenSpec.ofChange Rows.headPacksSpec).preRow enc Try.prog Try.f3 Rows.headPacksRow.domain false Rows.headPacksRow.laid) (((OpenSpec.ofChange Rows.headPacksSpec).at F).post enc Try.prog Try.f3 false true false false) := by
  obtain ⟨places, hx⟩ := reads os enc
  refine returnsInHanded_of_row (C := Try.checked) (s := OpenSpec.ofChange Rows.headPacksSpec) own started (by kernel_rfl) Try.func3
    (witness_row_at (enc := enc) (C := Try.checked) false (laidWorld os) #[.agg #[.int .i64 0, .int .i64 0, .int .i64 0, .int .i64 0, .int .i64 0], .int .u64 0] rfl (by kernel_rfl) (by kernel_rfl) (by kernel_rfl)
      (OpenSpec.preRow_of_cond 8 hx (by kernel_rfl) (fun k hk => by cases hk) (by kernel_rfl) (laid_met os))) ?_
  intro W base args ds gs before hval hW _ _ _ hL _ _
  have hW' : DataW.Whole enc Try.prog Try.f3.params.toList Rows.headPacksSpec.vars false W args.toList ds gs before := hW
  exact law_close (s := Rows.headPacksSpec) rfl rfl Try.underlying4 spec laidOut readable hW' (by
    obtain ⟨p, q, hA, _⟩ := hW'
    exact holds hval hA)

theorem said : Rows.HeadPacksSaid :=
  OpenClaim.holds_of_cond 3 Try.f3 rfl rfl rfl rfl rfl rfl rfl ⟨rfl, rfl, rfl, rfl, rfl⟩ rfl rfl rfl rfl rfl (by kernel_rfl) Try.func3 (by kernel_rfl)
    (of_decide_eq_true (by kernel_rfl)) (by unfold Func.isWrapper; first | (rw [if_pos (by decide +kernel)]; kernel_rfl) | (rw [if_neg (by decide +kernel)]; exact ⟨rfl, rfl⟩))
    (fun os started H enc _ F => by rw [OpenClaim.pre_eq_preRow]; exact lifted os started H enc F)
end Go.Proofs.Ythjdammpdiejbaa.HeadPacks
