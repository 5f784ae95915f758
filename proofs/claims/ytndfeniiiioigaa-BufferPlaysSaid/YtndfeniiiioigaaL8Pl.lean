/- BufferPlays: a buffer gives its words just as the document says, call by call, whatever comes in. Conditions: none but the row's own. -/
import Derived.Test.YtndfeniiiioigaaL8
import Derived.Test.YtndfeniiiioigaaCard0
namespace Go.Proofs.Ytndfeniiiioigaa.BufferPlays
set_option linter.unusedVariables false
open Go.RowKit Go.Gl Go.ChangeShapes Go.WideShapes Go.ChangeAt Go.Deep

set_option maxRecDepth 100000 in
set_option maxHeartbeats 3200000 in
theorem walk (W : World) (a b : Int) (P : Option Addr) (na ca : Nat) (zs : List Int) (hA : Sl W P na (fun k => .int .i64 (zs.getD k 0))) (hna : na ≤ 9223372036854775807) : Holds Try.prog 3 #[.int .i64 a, .int .i64 b, .slice P na ca] W := by
  have HA := hide hA
  clear hA
  have B1 := hide (bnew_any a b)
  have R1 := hide (r8new_any a b)
  obtain ⟨o0, o1, o2⟩ := nu_ok a b
  unfold nuV at B1 R1
  generalize nuX a b = X0 at *
  generalize nuY a b = Y0 at *
  generalize nuE a b = E0 at *
  have HO : Hid (0 ≤ X0 ∧ X0 ≤ Y0 ∧ Y0 ≤ 4194304) := ⟨o0, o1, o2⟩
  clear o0 o1 o2
  unfold Holds
  go_enter Try.func3, Try.ntmps3
  go_wp2_with fail
  refine (awake8_any _).mono ?_
  rintro e w0 ⟨rfl, hf⟩
  have HF0 := hide hf
  clear hf
  go_wp2_with fail
  refine (B1.out _).mono ?_
  rintro e w1 ⟨rfl, hf⟩
  have HF1 : Hid (Fr [] W w1) := HF0.out.trans_same hf
  clear hf
  have HB : Hid (Bu (w1.alloc (.cells #[.int .i64 X0, .int .i64 Y0] 25)) w1.heap.size 25 X0 Y0) := Bu.made _ _ HO.out.1 HO.out.2.1 HO.out.2.2
  obtain ⟨bb, hbb⟩ : ∃ bb, bb = w1.heap.size := ⟨_, rfl⟩
  have HBB := hide hbb
  go_wp2_with fail
  refine (R1.out _).mono ?_
  rintro e w2 ⟨rfl, hf⟩
  have HB2 : Hid (Bu (w2.alloc (.cells #[.int .i64 X0, .int .i64 Y0] 30)) bb 25 X0 Y0) := hbb ▸ (HB.out.fr0 hf).fr0 ((Fr.refl _ _).alloc _)
  have HM2 : Hid (Bu (w2.alloc (.cells #[.int .i64 X0, .int .i64 Y0] 30)) w2.heap.size 30 X0 Y0) := Bu.made _ _ HO.out.1 HO.out.2.1 HO.out.2.2
  have HF2 : Hid (Fr [] W (w2.alloc (.cells #[.int .i64 X0, .int .i64 Y0] 30))) := ((HF1.out.alloc _).trans_same hf).alloc _
  have HL : Hid (W.heap.size ≤ bb ∧ W.heap.size ≤ w2.heap.size) := by
    have h1 := HF1.out.size
    have h2 := ((HF1.out.alloc (.cells #[.int .i64 X0, .int .i64 Y0] 25)).trans_same hf).size
    exact ⟨by omega, by omega⟩
  rw [← hbb]
  clear hf hbb
  go_wp2_with fail
  obtain ⟨mb, hmb⟩ : ∃ mb, mb = w2.heap.size := ⟨_, rfl⟩
  rw [← hmb]
  rw [← hmb] at HM2 HL
  clear hmb
  have HN : Hid (bb ≠ mb) := HB2.out.blk.apart HM2.out.blk (by decide)
  go_loopw [11] (fun i wr => ∃ (k : Nat) (x y : Int), i = .int .i64 k ∧ k ≤ na ∧ k ≤ 200 ∧ Bu wr bb 25 x y ∧ Bu wr mb 30 x y ∧ Fr [] W wr) (fun i _ => na - (intOf i).toNat)
  case atStart => exact ⟨0, _, _, rfl, Nat.zero_le _, by omega, HB2.out, HM2.out, HF2.out⟩
  case round =>
    obtain ⟨k, x, y, rfl, hk, hk2, hb, hm, hfr⟩ := hrel
    have HB := hide hb
    have HM := hide hm
    have HF := hide hfr
    clear hb hm hfr
    by_cases hlt : k < na ∧ k < 200
    · obtain ⟨hlt1, hlt2⟩ := hlt
      have hlt3 : (k : Int) < (na : Int) := by omega
      have hlt4 : (k : Int) < 200 := by omega
      obtain ⟨b0, off, rfl, hb0, hc⟩ := HA.out (by omega)
      have c0 : wr.cell? ⟨b0, off + k, none⟩ = some (.int .i64 (zs.getD k 0)) := (HF.out.cell (p := ⟨b0, off + k, none⟩) hb0 (by simp)).trans (hc k hlt1)
      clear hc
      generalize zs.getD k 0 = n at *
      by_cases hn : n = 0
      · subst hn
        go_wp2_with fail
        refine (bdrop_any HB.out).mono ?_
        rintro e w3 ⟨rfl, hb, hf⟩
        have HB3 := hide hb
        have HM3 := hide (HM.out.fr hf (by simpa using HN.out.symm))
        have HF3 : Hid (Fr [] W w3) := HF.out.trans hf (fun z hz => by have := HL.out; simp at hz; omega)
        clear hb hf
        go_wp2_with fail
        refine (r8drop_any HM3.out).mono ?_
        rintro e w4 ⟨rfl, hm, hf⟩
        have HM4 := hide hm
        have HB4 := hide (HB3.out.fr hf (by simpa using HN.out))
        have HF4 : Hid (Fr [] W w4) := HF3.out.trans hf (fun z hz => by have := HL.out; simp at hz; omega)
        clear hm hf
        go_wp2_with fail
        go_roundw
        case rel => exact ⟨k + 1, _, _, by go_num, by omega, by omega, HB4.out, HM4.out, HF4.out⟩
        case measure => simp [intOf]; omega
      · have c0b : ∀ {u : World}, Fr [bb] wr u → u.cell? ⟨b0, off + k, none⟩ = some (.int .i64 n) := fun hu => (hu.cell (p := ⟨b0, off + k, none⟩) (lt_of_cell c0) (by have := HL.out; simp; omega)).trans c0
        have C0 : Hid (∀ u : World, Fr [bb] wr u → u.cell? ⟨b0, off + k, none⟩ = some (.int .i64 n)) := fun _ hu => c0b hu
        have T1 := hide (btake_any HB.out n)
        have HT : Hid (∀ {u : World}, Bu u mb 30 x y → Calls Try.prog 12 #[.pointer (some ⟨mb, 0, none⟩), .int .i64 n] u fun e w' => e = .returned (tkV x y n) ∧ Bu w' mb 30 (tkX x y n) y ∧ Fr [mb] u w') := fun h => r8take_any h n
        clear c0b
        unfold tkV at T1 HT
        generalize tkX x y n = x' at *
        generalize tkA x y n = A0 at *
        generalize tkE x y n = E1 at *
        go_wp2_with fail
        refine T1.out.mono ?_
        rintro e w3 ⟨rfl, hb, hf⟩
        have HB3 := hide hb
        have HM3 := hide (HM.out.fr hf (by simpa using HN.out.symm))
        have HF3 : Hid (Fr [] W w3) := HF.out.trans hf (fun z hz => by have := HL.out; simp at hz; omega)
        have d0 := C0.out _ hf
        clear hb hf c0
        go_wp2_with fail
        refine (HT.out HM3.out).mono ?_
        rintro e w4 ⟨rfl, hm, hf⟩
        have HM4 := hide hm
        have HB4 := hide (HB3.out.fr hf (by simpa using HN.out))
        have HF4 : Hid (Fr [] W w4) := HF3.out.trans hf (fun z hz => by have := HL.out; simp at hz; omega)
        clear hm hf d0
        go_wp2_with fail
        refine (brest_any HB4.out).mono ?_
        rintro e w5 ⟨rfl, q, hq⟩
        have HB5 : Hid (Bu w5 bb 25 x' y) := hq ▸ HB4.out.drewN q
        have HM5 : Hid (Bu w5 mb 30 x' y) := hq ▸ HM4.out.drewN q
        have HF5 : Hid (Fr [] W w5) := hq ▸ HF4.out.drewN q
        clear hq
        have m0 := HM5.out.c0
        have m1 := HM5.out.c1
        have e0 : IntKind.i64.wrap (y - x') = y - x' := IntWalk.i64_in _ ⟨by have := HM4.out.ord; omega, by have := HM4.out.low; have := HM4.out.max; omega⟩
        have LE : Hid (∀ i, Calls Try.prog 14 #[.pointer (some ⟨bb, 0, none⟩)] (w5.drewN i) fun e w' => e = .returned (.int .i64 (y - x')) ∧ ∃ k, w' = (w5.drewN i).drewN k) := fun i => bleft_any (HB5.out.drewN i)
        go_wp2_with fail
        go_quiet ((go_at_call 14; exact Calls.quiet_of (LE.out _)))
        go_wp2_with fail
        go_roundw
        case rel => exact ⟨k + 1, _, _, by go_num, by omega, by omega, HB5.out.drewN _, HM5.out.drewN _, HF5.out.drewN _⟩
        case measure => simp [intOf]; omega
    · have hway : ¬ (k : Int) < (na : Int) ∨ ((k : Int) < (na : Int) ∧ ¬ (k : Int) < 200) := by omega
      have T0 := hide (btake_any HB.out 0)
      unfold tkV at T0
      rw [show tkA x y 0 = 0 from by unfold tkA; rw [if_neg (by omega)], show tkE x y 0 = 2 from by unfold tkE; rw [if_pos (by omega)]] at T0
      clear hlt
      rcases hway with w1 | ⟨w1, w2⟩
      all_goals
        go_wp2_with fail
        refine T0.out.mono ?_
        rintro e w3 ⟨rfl, _, hf⟩
        have HF3 : Hid (Fr [] W w3) := HF.out.trans hf (fun z hz => by have := HL.out; simp at hz; omega)
        clear hf
        go_wp2_with fail
        go_ret
        exact ⟨rfl, HF3.out.below_nil⟩

theorem holds {H : Type} {enc : TypeId × Value → H} {W : World} {base : Nat} {args : Array Value} {ds : List (DataW H)} {p : List MemPlace}
    (hval : ∀ (j : Nat) t v, Try.f3.params[j]? = some t → args[j]? = some v → Value.okWide Try.prog W .any base t v)
    (hA : DataW.TrodAll enc Try.prog W 0 (fun _ => true) true Try.f3.params.toList args.toList ds p) : Holds Try.prog 3 args W := by
  rw [Try.params3] at hA hval
  obtain ⟨v0, vs0, d0, ds0, p0, q0, hargs, rfl, rfl, h0, r0⟩ := trodAll_cons hA
  obtain ⟨v1, vs1, d1, ds1, p1, q1, rfl, rfl, rfl, h1, r1⟩ := trodAll_cons r0
  obtain ⟨v2, vs2, d2, ds2, p2, q2, rfl, rfl, rfl, h2, r2⟩ := trodAll_cons r1
  obtain ⟨rfl, rfl, rfl⟩ := trodAll_nil r2
  obtain rfl : args = #[v0, v1, v2] := by cases args; simp_all
  obtain ⟨x0, rfl, rfl, rfl, _⟩ := open_int Try.underlying3 (hval 0 3 v0 rfl rfl) h0
  obtain ⟨x1, rfl, rfl, rfl, _⟩ := open_int Try.underlying3 (hval 1 3 v1 rfl rfl) h1
  obtain ⟨A, na, ca, zs, rfl, hna, hA2, hw⟩ := open_sl Try.underlying22 Try.underlying3 (by kernel_rfl) (hval 2 22 v2 rfl rfl) h2
  exact walk W x0 x1 A na ca zs hA2 (by unfold maxLen at hna; omega)
theorem readable : ∀ t, t ∈ Try.f3.params.toList → Try.prog.readableRec t = true ∧ t < Try.prog.types.size := by
  intro t ht
  rw [Try.params3] at ht
  have hm : t = 3 ∨ t = 22 := by simp at ht; omega
  rcases hm with rfl | rfl
  all_goals exact ⟨by kernel_rfl, of_decide_eq_true (by kernel_rfl)⟩
theorem laid_met (os : Os) : laidMet Try.prog Rows.bufferPlaysRow.laid ((laidWorld os).forCall (fun _ _ => 0) ⟨#[], #[.int .i64 0, .int .i64 0, .slice none 0 0], []⟩).memory :=
  ⟨[], rfl, List.nodup_nil, fun _ _ h => by cases h⟩
theorem reads (os : Os) {H : Type} (enc : TypeId × Value → H) : ∃ places, DataW.whole enc Try.prog ((laidWorld os).forCall (fun _ _ => 0) ⟨#[], #[.int .i64 0, .int .i64 0, .slice none 0 0], []⟩).memory Try.f3.params.toList Rows.bufferPlaysSpec.vars false (#[.int .i64 0, .int .i64 0, .slice none 0 0] : Array Value).toList 8 = some ([.lit (.int .i64 0), .lit (.int .i64 0), .nil], [], places) :=
  ⟨[], by kernel_rfl⟩
theorem spec {H : Type} : ∀ ds : List (DataW H), ds.length = Try.f3.params.toList.length → Rows.bufferPlaysSpec.fn H (ds ++ []) = { results := [.lit (.bool true)], args := ds, vars := [] } := by
  intro ds h
  rw [Try.params3] at h
  simp only [List.append_nil]
  match ds, h with
  | [_, _, _], _ => rfl

set_option maxRecDepth 100000 in
theorem lifted (os : Os) (started : os.Started) (H : Type) (enc : TypeId × Value → H) (F : Stop.Interp) :
    ReturnsInHanded {} Try.checked os 3 .any ((OpenSpec.ofChange Rows.bufferPlaysSpec).preRow enc Try.prog Try.f3 Rows.bufferPlaysRow.domain false Rows.bufferPlaysRow.laid) (((OpenSpec.ofChange Rows.bufferPlaysSpec).at F).post enc Try.prog Try.f3 false true false false) := by
  obtain ⟨places, hx⟩ := reads os enc
  refine returnsInHanded_of_row (C := Try.checked) (s := OpenSpec.ofChange Rows.bufferPlaysSpec) own started (by kernel_rfl) Try.func3
    (witness_row_at (enc := enc) (C := Try.checked) false (laidWorld os) #[.int .i64 0, .int .i64 0, .slice none 0 0] rfl (by kernel_rfl) (by kernel_rfl) (by kernel_rfl)
      (OpenSpec.preRow_of_cond 8 hx (by kernel_rfl) (fun k hk => by cases hk) (by kernel_rfl) (laid_met os))) ?_
  intro W base args ds gs before hval hW _ _ _ hL _ _
  have hW' : DataW.Whole enc Try.prog Try.f3.params.toList Rows.bufferPlaysSpec.vars false W args.toList ds gs before := hW
  exact law_close (s := Rows.bufferPlaysSpec) rfl rfl Try.underlying4 spec laidOut readable hW' (by
    obtain ⟨p, q, hA, _⟩ := hW'
    exact holds hval hA)

theorem said : Rows.BufferPlaysSaid :=
  OpenClaim.holds_of_cond 3 Try.f3 rfl rfl rfl rfl rfl rfl rfl ⟨rfl, rfl, rfl, rfl, rfl⟩ rfl rfl rfl rfl rfl (by kernel_rfl) Try.func3 (by kernel_rfl)
    (of_decide_eq_true (by kernel_rfl)) (by unfold Func.isWrapper; first | (rw [if_pos (by decide +kernel)]; kernel_rfl) | (rw [if_neg (by decide +kernel)]; exact ⟨rfl, rfl⟩))
    (fun os started H enc _ F => by rw [OpenClaim.pre_eq_preRow]; exact lifted os started H enc F)
end Go.Proofs.Ytndfeniiiioigaa.BufferPlays
