/- RootsBack: what is pushed is popped, the last one first, whatever comes in. Conditions: none but the row's own. -/
import Derived.Test.YtamjlkcoipgfgaaL12
import Derived.Test.YtamjlkcoipgfgaaCard0
namespace Go.Proofs.Ytamjlkcoipgfgaa.RootsBack
set_option linter.unusedVariables false
open Go.RowKit Go.Gl Go.ChangeShapes Go.WideShapes Go.ChangeAt Go.Deep

/-- The first k of them. -/
def pre (f : Nat → Int) (k : Nat) : List Int := (List.range k).map f
theorem pre_len (f : Nat → Int) (k : Nat) : (pre f k).length = k := by simp [pre]
theorem pre_push (f : Nat → Int) {k : Nat} (h : k < 64) : hkPush 64 (pre f k) (f k) = pre f (k + 1) := by
  unfold hkPush
  rw [if_pos (by rw [pre_len]; exact h)]
  simp [pre, List.range_succ]
theorem pre_full (f : Nat → Int) (x : Int) : hkPush 64 (pre f 64) x = pre f 64 := by
  unfold hkPush
  rw [if_neg (by rw [pre_len]; omega)]
theorem pre_pushE (f : Nat → Int) (k : Nat) : hkPushE 64 (pre f k) = if k < 64 then 0 else 15 := by unfold hkPushE; rw [pre_len]
theorem pre_pop (f : Nat → Int) (k : Nat) : hkPop (pre f (k + 1)) = pre f k := by
  unfold hkPop
  rw [pre_len, Nat.add_sub_cancel]
  simp only [pre, ← List.map_take, List.take_range]
  rw [Nat.min_eq_left (by omega)]
theorem pre_popV (f : Nat → Int) (k : Nat) : hkPopV (pre f (k + 1)) = f k := by
  unfold hkPopV
  rw [pre_len, Nat.add_sub_cancel]
  simp [pre]
theorem pre_popE (f : Nat → Int) (k : Nat) : hkPopE (pre f (k + 1)) = 0 := by
  unfold hkPopE
  rw [pre_len, if_neg (by omega)]

set_option maxRecDepth 100000 in
set_option maxHeartbeats 1600000 in
theorem walk (W : World) (P : Option Addr) (na ca : Nat) (f : Nat → Int) (hA : Sl W P na (fun k => .int .u64 (f k))) (hna : na ≤ 9223372036854775807) : Holds Try.prog 4 #[.slice P na ca] W := by
  have HA := hide hA
  clear hA
  unfold Holds
  go_enter Try.func4, Try.ntmps4
  go_wp2_with fail
  refine (awake12_any _).mono ?_
  rintro e w0 ⟨rfl, hf⟩
  have HF0 := hide hf
  clear hf
  go_wp2_with fail
  refine (hnew_ok 64 (by decide) (by decide) _).mono ?_
  rintro e w1 ⟨s, F1, rfl, hq, hf, hn⟩
  have HQ1 : Hid (HkP w1 s F1 64 (pre f 0)) := hq
  have HF1 : Hid (Fr [] W w1) := HF0.out.trans_same hf
  have HP1 : Hid (∀ x, x ∈ F1 → W.heap.size ≤ x) := fun x hx => Nat.le_trans HF0.out.size (hn x hx)
  clear hq hf hn HF0
  go_wp2_with fail
  go_loopw [5, 6] (fun n i wr => ∃ (k m : Nat) (F : List Nat), i = .int .i64 k ∧ k ≤ na ∧ n = .int .i64 m ∧ m = min k 64 ∧ HkP wr s F 64 (pre f m) ∧ (∀ x, x ∈ F → W.heap.size ≤ x) ∧ Fr [] W wr) (fun _ i _ => na - (intOf i).toNat)
  case atStart => exact ⟨0, 0, F1, rfl, Nat.zero_le _, rfl, rfl, HQ1.out, HP1.out, HF1.out⟩
  case round =>
    obtain ⟨k, m, F, rfl, hk, rfl, hm, hq, hp, hf⟩ := hrel
    have HQ := hide hq
    have HP := hide hp
    have HF := hide hf
    have HM := hide hm
    clear hq hp hf
    by_cases hlt : k < na
    · have hlt1 : (k : Int) < (na : Int) := by omega
      obtain ⟨b0, off, rfl, hb0, hc⟩ := HA.out (by omega)
      have c0 : wr.cell? ⟨b0, off + k, none⟩ = some (.int .u64 (f k)) := (HF.out.cell (p := ⟨b0, off + k, none⟩) hb0 (by simp)).trans (hc k hlt)
      have T := hide (hpush_any HQ.out (by rw [pre_len]; omega) (by decide) (f k))
      rw [pre_pushE] at T
      clear hc hm
      by_cases h64 : k < 64
      · have hm : m = k := by have := HM.out; omega
        subst hm
        have h1 : (m : Int) < 64 := by omega
        have h2 : ¬ ((64 : Int) < (m : Int) + 1) := by omega
        have HX : Hid (hkPush 64 (pre f m) (f m) = pre f (m + 1)) := pre_push f h64
        rw [if_pos h64] at T
        generalize f m = x at *
        go_wp2_with fail
        refine T.out.mono ?_
        rintro e w2 ⟨F2, rfl, hq, hf, hn⟩
        rw [HX.out] at hq
        have HQ2 := hide hq
        have HF2 := hide (Fr.inside HF.out hf HP.out)
        have HP2 : Hid (∀ x, x ∈ F2 → W.heap.size ≤ x) := apartOf HP.out hn (fun x hx => Nat.le_trans HF.out.size hx)
        clear hq hf hn c0
        go_wp2_with fail
        go_roundw
        case rel => exact ⟨m + 1, m + 1, F2, by go_num, by omega, by go_num, by omega, HQ2.out, HP2.out, HF2.out⟩
        case measure => simp [intOf]; omega
      · have hm : m = 64 := by have := HM.out; omega
        subst hm
        have h1 : ¬ ((k : Int) < 64) := by omega
        have h2 : (64 : Int) < (k : Int) + 1 := by omega
        have HX : Hid (hkPush 64 (pre f 64) (f k) = pre f 64) := pre_full f _
        rw [if_neg (by decide)] at T
        generalize f k = x at *
        go_wp2_with fail
        refine T.out.mono ?_
        rintro e w2 ⟨F2, rfl, hq, hf, hn⟩
        rw [HX.out] at hq
        have HQ2 := hide hq
        have HF2 := hide (Fr.inside HF.out hf HP.out)
        have HP2 : Hid (∀ x, x ∈ F2 → W.heap.size ≤ x) := apartOf HP.out hn (fun x hx => Nat.le_trans HF.out.size hx)
        clear hq hf hn c0
        go_wp2_with fail
        go_roundw
        case rel => exact ⟨k + 1, 64, F2, by go_num, by omega, by go_num, by omega, HQ2.out, HP2.out, HF2.out⟩
        case measure => simp [intOf]; omega
    · have hm2 : m ≤ 64 ∧ m ≤ na := by omega
      have hm3 := hm2.1
      have HM2 := hide hm2
      clear hm hm2
      go_wp2_with fail
      clear hlt hk
      go_loopw [7] (fun i wr => ∃ (j : Nat) (T : Int) (F : List Nat), i = .int .i64 T ∧ T = (j : Int) - 1 ∧ j ≤ m ∧ HkP wr s F 64 (pre f j) ∧ (∀ x, x ∈ F → W.heap.size ≤ x) ∧ Fr [] W wr) (fun i _ => (intOf i + 1).toNat)
      case atStart => exact ⟨m, _, F, rfl, rfl, Nat.le_refl _, HQ.out, HP.out, HF.out⟩
      clear HQ HP HF
      obtain ⟨j, T, F', rfl, hT, hj, hq, hp, hf⟩ := hrel
      have HQ := hide hq
      have HP := hide hp
      have HF := hide hf
      clear hq hp hf
      rcases Nat.eq_zero_or_pos j with h0 | h0
      · subst h0
        obtain rfl : T = -1 := by omega
        have T1 : Hid (Calls Try.prog 9 #[.pointer (some ⟨s, 0, none⟩)] wr (HkPost wr F' (fun w' F'' => HkP w' s F'' 64 []) (.tuple #[.int .u64 0, .int .i64 14]))) := hpop_any (l := []) HQ.out (by decide) (by decide)
        clear hT
        go_wp2_with fail
        refine T1.out.mono ?_
        rintro e w2 ⟨F2, rfl, hq, hf, hn⟩
        have HQ2 := hide hq
        have HF2 := hide (Fr.inside HF.out hf HP.out)
        have T2 : Hid (Calls Try.prog 19 #[.pointer (some ⟨s, 0, none⟩)] w2 fun e w' => e = .returned (.int .i64 0) ∧ w2 = w') := hlen_any HQ2.out
        clear hq hf hn
        go_wp2_with fail
        refine T2.out.mono ?_
        rintro e w3 ⟨rfl, rfl⟩
        go_wp2_with fail
        go_ret
        exact ⟨rfl, HF2.out.below_nil⟩
      · obtain ⟨i, rfl⟩ : ∃ i, j = i + 1 := ⟨j - 1, by omega⟩
        obtain rfl : T = (i : Int) := by omega
        have hna2 : i < na := by have := HM2.out; omega
        have hna3 : (i : Int) < (na : Int) := by omega
        obtain ⟨b0, off, rfl, hb0, hc⟩ := HA.out (by omega)
        have c0 : wr.cell? ⟨b0, off + i, none⟩ = some (.int .u64 (f i)) := (HF.out.cell (p := ⟨b0, off + i, none⟩) hb0 (by simp)).trans (hc i hna2)
        have TF : Hid (∀ w2, Fr F' wr w2 → w2.cell? ⟨b0, off + i, none⟩ = some (.int .u64 (f i))) := fun w2 hf => (hf.cell (p := ⟨b0, off + i, none⟩) (lt_of_cell c0) (fun h => by have h1 : W.heap.size ≤ b0 := HP.out _ h; omega)).trans c0
        have T1 : Hid (Calls Try.prog 9 #[.pointer (some ⟨s, 0, none⟩)] wr (HkPost wr F' (fun w' F'' => HkP w' s F'' 64 (pre f i)) (.tuple #[.int .u64 (f i), .int .i64 0]))) := by
          have h := hpop_any HQ.out (by rw [pre_len]; omega) (by decide)
          rw [pre_pop, pre_popV, pre_popE] at h
          exact h
        clear hc hT c0 h0
        generalize f i = x at *
        go_wp2_with fail
        refine T1.out.mono ?_
        rintro e w2 ⟨F2, rfl, hq, hf, hn⟩
        have HQ2 := hide hq
        have HF2 := hide (Fr.inside HF.out hf HP.out)
        have HP2 : Hid (∀ x, x ∈ F2 → W.heap.size ≤ x) := apartOf HP.out hn (fun x hx => Nat.le_trans HF.out.size hx)
        have c0 := TF.out _ hf
        clear hq hf hn
        go_wp2_with fail
        go_roundw
        case rel => exact ⟨i, _, F2, rfl, by go_num, by omega, HQ2.out, HP2.out, HF2.out⟩
        case measure => simp [intOf]

theorem holds {H : Type} {enc : TypeId × Value → H} {W : World} {base : Nat} {args : Array Value} {ds : List (DataW H)} {p : List MemPlace}
    (hval : ∀ (j : Nat) t v, Try.f4.params[j]? = some t → args[j]? = some v → Value.okWide Try.prog W .any base t v)
    (hA : DataW.TrodAll enc Try.prog W 0 (fun _ => true) true Try.f4.params.toList args.toList ds p) : Holds Try.prog 4 args W := by
  rw [Try.params4] at hA hval
  obtain ⟨v0, vs0, d0, ds0, p0, q0, hargs, rfl, rfl, h0, r0⟩ := trodAll_cons hA
  obtain ⟨rfl, rfl, rfl⟩ := trodAll_nil r0
  obtain rfl : args = #[v0] := by cases args; simp_all
  obtain ⟨A, na, ca, zs, rfl, hna, hA2, hw⟩ := open_sl Try.underlying45 Try.underlying32 (by kernel_rfl) (hval 0 45 v0 rfl rfl) h0
  exact walk W A na ca (fun k => zs.getD k 0) hA2 (by unfold maxLen at hna; omega)
theorem readable : ∀ t, t ∈ Try.f4.params.toList → Try.prog.readableRec t = true ∧ t < Try.prog.types.size := by
  intro t ht
  rw [Try.params4] at ht
  have hm : t = 45 := by simp at ht; omega
  rcases hm with rfl
  all_goals exact ⟨by kernel_rfl, of_decide_eq_true (by kernel_rfl)⟩
theorem laid_met (os : Os) : laidMet Try.prog Rows.rootsBackRow.laid ((laidWorld os).forCall (fun _ _ => 0) ⟨#[], #[.slice none 0 0], []⟩).memory :=
  ⟨[], rfl, List.nodup_nil, fun _ _ h => by cases h⟩
theorem reads (os : Os) {H : Type} (enc : TypeId × Value → H) : ∃ places, DataW.whole enc Try.prog ((laidWorld os).forCall (fun _ _ => 0) ⟨#[], #[.slice none 0 0], []⟩).memory Try.f4.params.toList Rows.rootsBackSpec.vars false (#[.slice none 0 0] : Array Value).toList 8 = some ([.nil], [], places) :=
  ⟨[], by kernel_rfl⟩
theorem spec {H : Type} : ∀ ds : List (DataW H), ds.length = Try.f4.params.toList.length → Rows.rootsBackSpec.fn H (ds ++ []) = { results := [.lit (.bool true)], args := ds, vars := [] } := by
  intro ds h
  rw [Try.params4] at h
  simp only [List.append_nil]
  match ds, h with
  | [_], _ => rfl

set_option maxRecDepth 100000 in
theorem lifted (os : Os) (started : os.Started) (H : Type) (enc : TypeId × Value → H) (F : Stop.Interp) :
    ReturnsInHanded {} Try.checked os 4 .any ((OpenSpec.ofChange Rows.rootsBackSpec).preRow enc Try.prog Try.f4 Rows.rootsBackRow.domain false Rows.rootsBackRow.laid) (((OpenSpec.ofChange Rows.rootsBackSpec).at F).post enc Try.prog Try.f4 false true false false) := by
  obtain ⟨places, hx⟩ := reads os enc
  refine returnsInHanded_of_row (C := Try.checked) (s := OpenSpec.ofChange Rows.rootsBackSpec) own started (by kernel_rfl) Try.func4
    (witness_row_at (enc := enc) (C := Try.checked) false (laidWorld os) #[.slice none 0 0] rfl (by kernel_rfl) (by kernel_rfl) (by kernel_rfl)
      (OpenSpec.preRow_of_cond 8 hx (by kernel_rfl) (fun k hk => by cases hk) (by kernel_rfl) (laid_met os))) ?_
  intro W base args ds gs before hval hW _ _ _ hL _ _
  have hW' : DataW.Whole enc Try.prog Try.f4.params.toList Rows.rootsBackSpec.vars false W args.toList ds gs before := hW
  exact law_close (s := Rows.rootsBackSpec) rfl rfl Try.underlying4 spec laidOut readable hW' (by
    obtain ⟨p, q, hA, _⟩ := hW'
    exact holds hval hA)

theorem said : Rows.RootsBackSaid :=
  OpenClaim.holds_of_cond 4 Try.f4 rfl rfl rfl rfl rfl rfl rfl ⟨rfl, rfl, rfl, rfl, rfl⟩ rfl rfl rfl rfl rfl (by kernel_rfl) Try.func4 (by kernel_rfl)
    (of_decide_eq_true (by kernel_rfl)) (by unfold Func.isWrapper; first | (rw [if_pos (by decide +kernel)]; kernel_rfl) | (rw [if_neg (by decide +kernel)]; exact ⟨rfl, rfl⟩))
    (fun os started H enc _ F => by rw [OpenClaim.pre_eq_preRow]; exact lifted os started H enc F)
end Go.Proofs.Ytamjlkcoipgfgaa.RootsBack
