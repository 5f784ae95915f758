/- BufferApart: what is taken lies one behind the other, within the buffer, and a copy of a buffer goes its own way, whatever comes in. Conditions: none but the row's own. -/
import Derived.Test.YtndfeniiiioigaaL8
import Derived.Test.YtndfeniiiioigaaCard0
namespace Go.Proofs.Ytndfeniiiioigaa.BufferApart
set_option linter.unusedVariables false
open Go.RowKit Go.Gl Go.ChangeShapes Go.WideShapes Go.ChangeAt Go.Deep

theorem into1000 (x : Int) : ∃ F : Nat, x.tmod 1000 % 1000 = (F : Int) ∧ -1000 < x.tmod 1000 ∧ x.tmod 1000 < 1000 ∧ (F : Int) < 1000 := by
  have h1 := Int.lt_tmod_of_pos x (show (0 : Int) < 1000 by decide)
  have h2 := Int.tmod_lt_of_pos x (show (0 : Int) < 1000 by decide)
  obtain ⟨F, hF⟩ := Int.eq_ofNat_of_zero_le (Int.emod_nonneg (x.tmod 1000) (show (1000 : Int) ≠ 0 by decide))
  have h3 := Int.emod_lt_of_pos (x.tmod 1000) (show (0 : Int) < 1000 by decide)
  exact ⟨F, hF, h1, h2, by omega⟩
theorem into300 (x : Int) : ∃ F : Nat, x.tmod 300 % 300 = (F : Int) ∧ -300 < x.tmod 300 ∧ x.tmod 300 < 300 ∧ (F : Int) < 300 := by
  have h1 := Int.lt_tmod_of_pos x (show (0 : Int) < 300 by decide)
  have h2 := Int.tmod_lt_of_pos x (show (0 : Int) < 300 by decide)
  obtain ⟨F, hF⟩ := Int.eq_ofNat_of_zero_le (Int.emod_nonneg (x.tmod 300) (show (300 : Int) ≠ 0 by decide))
  have h3 := Int.emod_lt_of_pos (x.tmod 300) (show (0 : Int) < 300 by decide)
  exact ⟨F, hF, h1, h2, by omega⟩
theorem zs_u8 {zs : List Int} (h : ∀ z ∈ zs, (Lit.int .u8 z).wf = true) (k : Nat) : 0 ≤ zs.getD k 0 ∧ zs.getD k 0 ≤ 255 := by
  rw [List.getD_eq_getElem?_getD]
  rcases Nat.lt_or_ge k zs.length with hk | hk
  · rw [List.getElem?_eq_getElem hk]
    have := h _ (List.getElem_mem hk)
    simpa [Lit.wf, IntKind.min, IntKind.max, IntKind.signed, IntKind.bits] using this
  · rw [List.getElem?_eq_none hk]; simp

set_option maxRecDepth 100000 in
set_option maxHeartbeats 3200000 in
theorem walk (W : World) (a b : Int) (P : Option Addr) (na ca : Nat) (zs : List Int) (hA : Sl W P na (fun k => .int .u8 (zs.getD k 0))) (hz : ∀ k, 0 ≤ zs.getD k 0 ∧ zs.getD k 0 ≤ 255) (hna : na ≤ 9223372036854775807) :
    Holds Try.prog 4 #[.int .i64 a, .int .i64 b, .slice P na ca] W := by
  have HA := hide hA
  have Hz := hide hz
  clear hA hz
  obtain ⟨F, E1, f1, f2, f3⟩ := into1000 a
  obtain ⟨S, E2, s1, s2, s3⟩ := into300 b
  have B1 := hide (bnew_any (F : Int) ((F : Int) + (S : Int)))
  have HO : Hid (nuX F (F + S) ≤ nuY F (F + S) ∧ 0 ≤ nuX F (F + S) ∧ nuY F (F + S) ≤ 4194304 ∧ nuY F (F + S) - nuX F (F + S) = S ∧ (nuX F (F + S) < nuY F (F + S) → nuX F (F + S) = F)) := by
    obtain ⟨o0, o1, o2⟩ := nu_ok (F : Int) (F + S)
    refine ⟨o1, o0, o2, ?_, ?_⟩ <;> unfold nuX nuY <;> split <;> omega
  unfold nuV at B1
  rw [show nuE F (F + S) = 0 from by unfold nuE; rw [if_pos (by omega)]] at B1
  generalize nuX F (F + S) = X0 at *
  generalize nuY F (F + S) = Y0 at *
  unfold Holds
  go_enter Try.func4, Try.ntmps4
  go_wp2_with fail
  refine (awake8_any _).mono ?_
  rintro e w0 ⟨rfl, hf⟩
  have HF0 := hide hf
  clear hf
  go_wp2_with fail
  refine (B1.out _).mono ?_
  rintro e w1 ⟨rfl, hf⟩
  have HF1 : Hid (Fr [] W w1) := HF0.out.trans_same hf
  clear hf
  have HB : Hid (Bu (w1.alloc (.cells #[.int .i64 X0, .int .i64 Y0] 25)) w1.heap.size 25 X0 Y0) := Bu.made _ _ HO.out.2.1 HO.out.1 HO.out.2.2.1
  have LE : Hid (Calls Try.prog 14 #[.pointer (some ⟨w1.heap.size, 0, none⟩)] (w1.alloc (.cells #[.int .i64 X0, .int .i64 Y0] 25)) fun e w' => e = .returned (.int .i64 (S : Int)) ∧ ∃ k, w' = (w1.alloc (.cells #[.int .i64 X0, .int .i64 Y0] 25)).drewN k) := by
    have := bleft_any HB.out
    rw [HO.out.2.2.2.1] at this
    exact this
  go_wp2_with fail
  refine LE.out.mono ?_
  rintro e w2 ⟨rfl, q, hq⟩
  have HB2 : Hid (Bu w2 w1.heap.size 25 X0 Y0) := hq ▸ HB.out.drewN q
  have HF2 : Hid (Fr [] W w2) := hq ▸ (HF1.out.alloc _).drewN q
  clear hq
  have HL : Hid (W.heap.size ≤ w1.heap.size) := HF1.out.size
  go_wp2_with fail
  obtain ⟨bb, hbb⟩ : ∃ bb, bb = w1.heap.size := ⟨_, rfl⟩
  rw [← hbb]
  rw [← hbb] at HB2 HL
  clear hbb
  go_loopw [9, 10] (fun t i wr => ∃ (k : Nat) (A X : Int), t = .int .i64 A ∧ i = .int .i64 k ∧ k ≤ na ∧ Bu wr bb 25 X Y0 ∧ Y0 - X = F + S - A ∧ (X < Y0 → X = A) ∧ (F : Int) ≤ A ∧ A ≤ F + S ∧ Fr [] W wr) (fun _ i _ => na - (intOf i).toNat)
  case atStart => exact ⟨0, _, _, rfl, rfl, Nat.zero_le _, HB2.out, by have := HO.out.2.2.2.1; omega, HO.out.2.2.2.2, by omega, by omega, HF2.out⟩
  case round =>
    obtain ⟨k, A, X, rfl, rfl, hk, hb, q1, q2, q3, q4, hfr⟩ := hrel
    have HB := hide hb
    have HF := hide hfr
    have HQ := hide q1
    have HQ2 := hide q2
    have LE : Hid (∀ u : World, ∀ x : Int, Bu u bb 25 x Y0 → Calls Try.prog 14 #[.pointer (some ⟨bb, 0, none⟩)] u fun e w' => e = .returned (.int .i64 (Y0 - x)) ∧ ∃ k, w' = u.drewN k) := fun u x h => bleft_any h
    clear hb hfr q1 q2
    by_cases hlt : k < na
    · have hlt3 : (k : Int) < (na : Int) := by omega
      obtain ⟨b0, off, rfl, hb0, hc⟩ := HA.out (by omega)
      have c0 : wr.cell? ⟨b0, off + k, none⟩ = some (.int .u8 (zs.getD k 0)) := (HF.out.cell (p := ⟨b0, off + k, none⟩) hb0 (by simp)).trans (hc k hlt)
      obtain ⟨x1, x2⟩ := Hz.out k
      clear hc
      generalize zs.getD k 0 = x at *
      have d0 := HB.out.c0
      have d1 := HB.out.c1
      have HC : Hid (Bu (wr.alloc (.cells #[.int .i64 X, .int .i64 Y0] 25)) wr.heap.size 25 X Y0) := Bu.made _ _ HB.out.low HB.out.ord HB.out.max
      have HBX := hide (HB.out.fr0 ((Fr.refl [] wr).alloc (.cells #[.int .i64 X, .int .i64 Y0] 25)))
      have HFX := hide (HF.out.alloc (.cells #[.int .i64 X, .int .i64 Y0] 25))
      have HN : Hid (bb ≠ wr.heap.size) := by have := HB.out.blk.lt; show bb ≠ _; omega
      have HS : Hid (W.heap.size ≤ wr.heap.size) := HF.out.size
      rcases tk_ways X Y0 (x % 20 + 1) with ⟨t1, _⟩ | ⟨t1, t2, hv⟩ | ⟨t1, t2, hv⟩
      · omega
      · have HT : Hid (∀ (u : World) (g : Nat), Bu u g 25 X Y0 → Calls Try.prog 11 #[.pointer (some ⟨g, 0, none⟩), .int .i64 (x % 20 + 1)] u fun e w' => e = .returned (.tuple #[.int .i64 0, .int .i64 6]) ∧ Bu w' g 25 X Y0 ∧ Fr [g] u w') := fun u g h => by
          have := btake_any h (x % 20 + 1)
          unfold tkV at this
          rw [hv.out.1, hv.out.2.1, hv.out.2.2] at this
          exact this
        have t3 : (F : Int) + S - A < x % 20 + 1 := by have := HQ.out; omega
        clear hv t2
        go_wp2_with fail
        refine (HT.out _ _ HBX.out).mono ?_
        rintro e w3 ⟨rfl, hb, hf⟩
        have HB3 := hide hb
        have HC3 := hide (HC.out.fr hf (by simpa using HN.out.symm))
        have HF3 : Hid (Fr [] W w3) := HFX.out.trans hf (fun z hz => by have := HL.out; simp at hz; omega)
        clear hb hf c0 d0 d1
        go_wp2_with fail
        refine (HT.out _ _ HC3.out).mono ?_
        rintro e w4 ⟨rfl, hb, hf⟩
        have HB4 := hide (HB3.out.fr hf (by simpa using HN.out))
        have HF4 : Hid (Fr [] W w4) := HF3.out.trans hf (fun z hz => by have := HS.out; simp at hz; omega)
        clear hb hf
        have L4 := LE.out _ _ HB4.out
        rw [HQ.out] at L4
        have HL4 := hide L4
        clear L4
        go_wp2_with fail
        refine HL4.out.mono ?_
        rintro e w5 ⟨rfl, q, rfl⟩
        go_wp2_with fail
        go_roundw
        case rel => exact ⟨k + 1, _, _, rfl, by go_num, by omega, HB4.out.drewN q, HQ.out, HQ2.out, q3, q4, HF4.out.drewN q⟩
        case measure => simp [intOf]; omega
      · have hxa : X = A := HQ2.out (by omega)
        have HT : Hid (∀ (u : World) (g : Nat), Bu u g 25 X Y0 → Calls Try.prog 11 #[.pointer (some ⟨g, 0, none⟩), .int .i64 (x % 20 + 1)] u fun e w' => e = .returned (.tuple #[.int .i64 A, .int .i64 0]) ∧ Bu w' g 25 (X + (x % 20 + 1)) Y0 ∧ Fr [g] u w') := fun u g h => by
          have := btake_any h (x % 20 + 1)
          unfold tkV at this
          rw [hv.out.1, hv.out.2.1, hv.out.2.2] at this
          rw [← hxa]
          exact this
        have t3 : A + (x % 20 + 1) ≤ (F : Int) + S := by have := HQ.out; omega
        have HXA := hide hxa
        clear hv t2 hxa
        go_wp2_with fail
        refine (HT.out _ _ HBX.out).mono ?_
        rintro e w3 ⟨rfl, hb, hf⟩
        have HB3 := hide hb
        have HC3 := hide (HC.out.fr hf (by simpa using HN.out.symm))
        have HF3 : Hid (Fr [] W w3) := HFX.out.trans hf (fun z hz => by have := HL.out; simp at hz; omega)
        clear hb hf c0 d0 d1
        go_wp2_with fail
        refine (HT.out _ _ HC3.out).mono ?_
        rintro e w4 ⟨rfl, hb, hf⟩
        have HB4 := hide (HB3.out.fr hf (by simpa using HN.out))
        have HF4 : Hid (Fr [] W w4) := HF3.out.trans hf (fun z hz => by have := HS.out; simp at hz; omega)
        clear hb hf
        go_wp2_with fail
        go_roundw
        case rel => exact ⟨k + 1, A + (x % 20 + 1), X + (x % 20 + 1), by go_num, by go_num, by omega, HB4.out, by have := HQ.out; omega, fun _ => by have := HXA.out; omega, by omega, by omega, HF4.out⟩
        case measure => simp [intOf]; omega
    · have L4 := LE.out _ _ HB.out
      rw [HQ.out] at L4
      have HL4 := hide L4
      clear L4
      go_wp2_with fail
      refine HL4.out.mono ?_
      rintro e w5 ⟨rfl, q, rfl⟩
      go_wp2_with fail
      go_ret
      exact ⟨rfl, (HF.out.drewN q).below_nil⟩

theorem holds {H : Type} {enc : TypeId × Value → H} {W : World} {base : Nat} {args : Array Value} {ds : List (DataW H)} {p : List MemPlace}
    (hval : ∀ (j : Nat) t v, Try.f4.params[j]? = some t → args[j]? = some v → Value.okWide Try.prog W .any base t v)
    (hA : DataW.TrodAll enc Try.prog W 0 (fun _ => true) true Try.f4.params.toList args.toList ds p) : Holds Try.prog 4 args W := by
  rw [Try.params4] at hA hval
  obtain ⟨v0, vs0, d0, ds0, p0, q0, hargs, rfl, rfl, h0, r0⟩ := trodAll_cons hA
  obtain ⟨v1, vs1, d1, ds1, p1, q1, rfl, rfl, rfl, h1, r1⟩ := trodAll_cons r0
  obtain ⟨v2, vs2, d2, ds2, p2, q2, rfl, rfl, rfl, h2, r2⟩ := trodAll_cons r1
  obtain ⟨rfl, rfl, rfl⟩ := trodAll_nil r2
  obtain rfl : args = #[v0, v1, v2] := by cases args; simp_all
  obtain ⟨x0, rfl, rfl, rfl, _⟩ := open_int Try.underlying3 (hval 0 3 v0 rfl rfl) h0
  obtain ⟨x1, rfl, rfl, rfl, _⟩ := open_int Try.underlying3 (hval 1 3 v1 rfl rfl) h1
  obtain ⟨A, na, ca, zs, rfl, hna, hA2, hw⟩ := open_sl Try.underlying40 Try.underlying5 (by kernel_rfl) (hval 2 40 v2 rfl rfl) h2
  exact walk W x0 x1 A na ca zs hA2 (zs_u8 hw) (by unfold maxLen at hna; omega)
theorem readable : ∀ t, t ∈ Try.f4.params.toList → Try.prog.readableRec t = true ∧ t < Try.prog.types.size := by
  intro t ht
  rw [Try.params4] at ht
  have hm : t = 3 ∨ t = 40 := by simp at ht; omega
  rcases hm with rfl | rfl
  all_goals exact ⟨by kernel_rfl, of_decide_eq_true (by kernel_rfl)⟩
theorem laid_met (os : Os) : laidMet Try.prog Rows.bufferApartRow.laid ((laidWorld os).forCall (fun _ _ => 0) ⟨#[], #[.int .i64 0, .int .i64 0, .slice none 0 0], []⟩).memory :=
  ⟨[], rfl, List.nodup_nil, fun _ _ h => by cases h⟩
theorem reads (os : Os) {H : Type} (enc : TypeId × Value → H) : ∃ places, DataW.whole enc Try.prog ((laidWorld os).forCall (fun _ _ => 0) ⟨#[], #[.int .i64 0, .int .i64 0, .slice none 0 0], []⟩).memory Try.f4.params.toList Rows.bufferApartSpec.vars false (#[.int .i64 0, .int .i64 0, .slice none 0 0] : Array Value).toList 8 = some ([.lit (.int .i64 0), .lit (.int .i64 0), .nil], [], places) :=
  ⟨[], by kernel_rfl⟩
theorem spec {H : Type} : ∀ ds : List (DataW H), ds.length = Try.f4.params.toList.length → Rows.bufferApartSpec.fn H (ds ++ []) = { results := [.lit (.bool true)], args := ds, vars := [] } := by
  intro ds h
  rw [Try.params4] at h
  simp only [List.append_nil]
  match ds, h with
  | [_, _, _], _ => rfl

set_option maxRecDepth 100000 in
theorem lifted (os : Os) (started : os.Started) (H : Type) (enc : TypeId × Value → H) (F : Stop.Interp) :
    ReturnsInHanded {} Try.checked os 4 .any ((OpenSpec.ofChange Rows.bufferApartSpec).preRow enc Try.prog Try.f4 Rows.bufferApartRow.domain false Rows.bufferApartRow.laid) (((OpenSpec.ofChange Rows.bufferApartSpec).at F).post enc Try.prog Try.f4 false true false false) := by
  obtain ⟨places, hx⟩ := reads os enc
  refine returnsInHanded_of_row (C := Try.checked) (s := OpenSpec.ofChange Rows.bufferApartSpec) own started (by kernel_rfl) Try.func4
    (witness_row_at (enc := enc) (C := Try.checked) false (laidWorld os) #[.int .i64 0, .int .i64 0, .slice none 0 0] rfl (by kernel_rfl) (by kernel_rfl) (by kernel_rfl)
      (OpenSpec.preRow_of_cond 8 hx (by kernel_rfl) (fun k hk => by cases hk) (by kernel_rfl) (laid_met os))) ?_
  intro W base args ds gs before hval hW _ _ _ hL _ _
  have hW' : DataW.Whole enc Try.prog Try.f4.params.toList Rows.bufferApartSpec.vars false W args.toList ds gs before := hW
  exact law_close (s := Rows.bufferApartSpec) rfl rfl Try.underlying4 spec laidOut readable hW' (by
    obtain ⟨p, q, hA, _⟩ := hW'
    exact holds hval hA)

theorem said : Rows.BufferApartSaid :=
  OpenClaim.holds_of_cond 4 Try.f4 rfl rfl rfl rfl rfl rfl rfl ⟨rfl, rfl, rfl, rfl, rfl⟩ rfl rfl rfl rfl rfl (by kernel_rfl) Try.func4 (by kernel_rfl)
    (of_decide_eq_true (by kernel_rfl)) (by unfold Func.isWrapper; first | (rw [if_pos (by decide +kernel)]; kernel_rfl) | (rw [if_neg (by decide +kernel)]; exact ⟨rfl, rfl⟩))
    (fun os started H enc _ F => by rw [OpenClaim.pre_eq_preRow]; exact lifted os started H enc F)
end Go.Proofs.Ytndfeniiiioigaa.BufferApart
