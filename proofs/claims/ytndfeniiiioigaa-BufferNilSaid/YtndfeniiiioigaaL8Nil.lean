/- BufferNil: a buffer that isn't there, and one of no words, give nothing, whatever number is asked for. Conditions: none but the row's own. -/
import Derived.Test.YtndfeniiiioigaaL8
import Derived.Test.YtndfeniiiioigaaCard0
namespace Go.Proofs.Ytndfeniiiioigaa.BufferNil
set_option linter.unusedVariables false
open Go.RowKit Go.Gl Go.ChangeShapes Go.WideShapes Go.ChangeAt Go.Deep

/-- Of a buffer of no words nothing is taken. -/
theorem none_taken {w : World} {g : Nat} (h : Bu w g 25 0 0) (m : Int) (hm : 1 ≤ m) : Calls Try.prog 11 #[.pointer (some ⟨g, 0, none⟩), .int .i64 m] w fun e w' => e = .returned (.tuple #[.int .i64 0, .int .i64 6]) ∧ Bu w' g 25 0 0 ∧ Fr [g] w w' := by
  have := btake_any h m
  unfold tkV at this
  rw [show tkA 0 0 m = 0 from by unfold tkA; rw [if_neg (by omega)], show tkE 0 0 m = 6 from by unfold tkE; rw [if_neg (by omega), if_pos (by omega)], show tkX 0 0 m = 0 from by unfold tkX; rw [if_neg (by omega)]] at this
  exact this
set_option maxRecDepth 100000 in
set_option maxHeartbeats 3200000 in
theorem walk (n : Int) (w : World) : Calls Try.prog 5 #[.int .i64 n] w fun e w' => e = .returned (.bool true) ∧ Fr [] w w' := by
  go_enter Try.func5, Try.ntmps5
  go_wp2_with fail
  refine (awake8_any _).mono ?_
  rintro e w1 ⟨rfl, hf⟩
  have HF := hide hf
  have HB : Hid (Bu (w1.alloc (.cells #[.int .i64 0, .int .i64 0] 25)) w1.heap.size 25 0 0) := Bu.made _ _ (by decide) (by decide) (by decide)
  have HL : Hid (w.heap.size ≤ w1.heap.size) := hf.size
  clear hf
  go_wp2_with (first | (go_at_call 11; with_reducible refine (btake_nil _ _).mono ?_; rintro e w' ⟨rfl, rfl⟩) | (go_at_call 13; refine (brest_nil _).mono ?_; rintro e w' ⟨rfl, rfl⟩) | (go_at_call 9; refine (bdrop_nil _).mono ?_; rintro e w' ⟨rfl, rfl⟩))
  all_goals
    refine (none_taken HB.out _ (by omega)).mono ?_
    rintro e w2 ⟨rfl, hb, hf⟩
    have HB2 := hide hb
    have HF2 : Hid (Fr [] w w2) := ((HF.out.alloc _).trans hf (fun x hx => by have := HL.out; simp at hx; omega))
    have LE : Hid (∀ {u : World}, Bu u w1.heap.size 25 0 0 → Calls Try.prog 14 #[.pointer (some ⟨w1.heap.size, 0, none⟩)] u fun e w' => e = .returned (.int .i64 0) ∧ ∃ k, w' = u.drewN k) := fun h => bleft_any h
    clear hb hf
    go_wp2_with (go_at_call 14; first | (with_reducible refine (bleft_nil _).mono ?_; rintro e w' ⟨rfl, rfl⟩) | (refine (LE.out HB2.out).mono ?_; rintro e w' ⟨rfl, k, rfl⟩))
    go_ret
    exact ⟨rfl, HF2.out.drewN _⟩

theorem holds {H : Type} {enc : TypeId × Value → H} {W : World} {base : Nat} {args : Array Value} {ds : List (DataW H)} {p : List MemPlace}
    (hval : ∀ (j : Nat) t v, Try.f5.params[j]? = some t → args[j]? = some v → Value.okWide Try.prog W .any base t v)
    (hA : DataW.TrodAll enc Try.prog W 0 (fun _ => true) true Try.f5.params.toList args.toList ds p) : Holds Try.prog 5 args W := by
  rw [Try.params5] at hA hval
  obtain ⟨v0, vs0, d0, ds0, p0, q0, hargs, rfl, rfl, h0, r0⟩ := trodAll_cons hA
  obtain ⟨rfl, rfl, rfl⟩ := trodAll_nil r0
  obtain rfl : args = #[v0] := by cases args; simp_all
  obtain ⟨x0, rfl, rfl, rfl, _⟩ := open_int Try.underlying3 (hval 0 3 v0 rfl rfl) h0
  exact (walk x0 W).mono fun e W' ⟨he, hf⟩ => ⟨he, hf.below_nil⟩
theorem readable : ∀ t, t ∈ Try.f5.params.toList → Try.prog.readableRec t = true ∧ t < Try.prog.types.size := by
  intro t ht
  rw [Try.params5] at ht
  have hm : t = 3 := by simp at ht; omega
  rcases hm with rfl
  all_goals exact ⟨by kernel_rfl, of_decide_eq_true (by kernel_rfl)⟩
theorem laid_met (os : Os) : laidMet Try.prog Rows.bufferNilRow.laid ((laidWorld os).forCall (fun _ _ => 0) ⟨#[], #[.int .i64 0], []⟩).memory :=
  ⟨[], rfl, List.nodup_nil, fun _ _ h => by cases h⟩
theorem reads (os : Os) {H : Type} (enc : TypeId × Value → H) : ∃ places, DataW.whole enc Try.prog ((laidWorld os).forCall (fun _ _ => 0) ⟨#[], #[.int .i64 0], []⟩).memory Try.f5.params.toList Rows.bufferNilSpec.vars false (#[.int .i64 0] : Array Value).toList 8 = some ([.lit (.int .i64 0)], [], places) :=
  ⟨[], by kernel_rfl⟩
theorem spec {H : Type} : ∀ ds : List (DataW H), ds.length = Try.f5.params.toList.length → Rows.bufferNilSpec.fn H (ds ++ []) = { results := [.lit (.bool true)], args := ds, vars := [] } := by
  intro ds h
  rw [Try.params5] at h
  simp only [List.append_nil]
  match ds, h with
  | [_], _ => rfl

set_option maxRecDepth 100000 in
theorem lifted (os : Os) (started : os.Started) (H : Type) (enc : TypeId × Value → H) (F : Stop.Interp) :
    ReturnsInHanded {} Try.checked os 5 .any ((OpenSpec.ofChange Rows.bufferNilSpec).preRow enc Try.prog Try.f5 Rows.bufferNilRow.domain false Rows.bufferNilRow.laid) (((OpenSpec.ofChange Rows.bufferNilSpec).at F).post enc Try.prog Try.f5 false true false false) := by
  obtain ⟨places, hx⟩ := reads os enc
  refine returnsInHanded_of_row (C := Try.checked) (s := OpenSpec.ofChange Rows.bufferNilSpec) own started (by kernel_rfl) Try.func5
    (witness_row_at (enc := enc) (C := Try.checked) false (laidWorld os) #[.int .i64 0] rfl (by kernel_rfl) (by kernel_rfl) (by kernel_rfl)
      (OpenSpec.preRow_of_cond 8 hx (by kernel_rfl) (fun k hk => by cases hk) (by kernel_rfl) (laid_met os))) ?_
  intro W base args ds gs before hval hW _ _ _ hL _ _
  have hW' : DataW.Whole enc Try.prog Try.f5.params.toList Rows.bufferNilSpec.vars false W args.toList ds gs before := hW
  exact law_close (s := Rows.bufferNilSpec) rfl rfl Try.underlying4 spec laidOut readable hW' (by
    obtain ⟨p, q, hA, _⟩ := hW'
    exact holds hval hA)

theorem said : Rows.BufferNilSaid :=
  OpenClaim.holds_of_cond 5 Try.f5 rfl rfl rfl rfl rfl rfl rfl ⟨rfl, rfl, rfl, rfl, rfl⟩ rfl rfl rfl rfl rfl (by kernel_rfl) Try.func5 (by kernel_rfl)
    (of_decide_eq_true (by kernel_rfl)) (by unfold Func.isWrapper; first | (rw [if_pos (by decide +kernel)]; kernel_rfl) | (rw [if_neg (by decide +kernel)]; exact ⟨rfl, rfl⟩))
    (fun os started H enc _ F => by rw [OpenClaim.pre_eq_preRow]; exact lifted os started H enc F)
end Go.Proofs.Ytndfeniiiioigaa.BufferNil
