/- ParseFills: however many words are filled, the fillers are a row, and their sizes come to all, whatever comes in. Conditions: none but the row's own. -/
import Derived.Test.YtjnnegbcijmclaaL5
import Derived.Test.YtjnnegbcijmclaaCard0
namespace Go.Proofs.Ytjnnegbcijmclaa.ParseFills
set_option linter.unusedVariables false
open Go.RowKit Go.Gl Go.ChangeShapes Go.WideShapes Go.ChangeAt Go.Deep

theorem into (x : Int) : ∃ F : Nat, x.tmod 4097 % 4097 = (F : Int) ∧ -4097 < x.tmod 4097 ∧ x.tmod 4097 < 4097 ∧ (F : Int) < 4097 := by
  have h1 := Int.lt_tmod_of_pos x (show (0 : Int) < 4097 by decide)
  have h2 := Int.tmod_lt_of_pos x (show (0 : Int) < 4097 by decide)
  obtain ⟨F, hF⟩ := Int.eq_ofNat_of_zero_le (Int.emod_nonneg (x.tmod 4097) (show (4097 : Int) ≠ 0 by decide))
  have h3 := Int.emod_lt_of_pos (x.tmod 4097) (show (0 : Int) < 4097 by decide)
  exact ⟨F, hF, h1, h2, by omega⟩
theorem own_one {base : Nat} {w : World} {A : Option Addr} {x : Int} (h : Own base w A [x]) : ∃ b off, A = some ⟨b, off, none⟩ ∧ base ≤ b ∧ b < w.heap.size ∧ w.cell? ⟨b, off, none⟩ = some (.int .i64 x) := by
  obtain ⟨b, off, h1, h2, h3, h4⟩ := h (by simp)
  exact ⟨b, off, h1, h2, h3, h4 0 (by simp)⟩
set_option maxRecDepth 100000 in
set_option maxHeartbeats 3200000 in
theorem walk (p q : Int) (W : World) : Calls Try.prog 5 #[.int .i64 p, .int .i64 q] W fun e w' => e = .returned (.bool true) ∧ Fr [] W w' := by
  have hn := hide (anew_any 4096 (by decide))
  obtain ⟨A, E1, f1, f2, f3⟩ := into p
  obtain ⟨B, E2, n1, n2, n3⟩ := into q
  go_enter Try.func5, Try.ntmps5
  go_wp2_with fail
  refine (awake_any W).mono ?_
  rintro e w0 ⟨rfl, hf0⟩
  go_wp2_with fail
  refine (hn.out _).mono ?_
  rintro e w1 ⟨ab, aw, rfl, hs, hf, hlb, hlw⟩
  have HS := hide hs
  have HF : Hid (Fr [] W w1) := hf0.trans_nil hf
  have HL : Hid (W.heap.size ≤ ab ∧ W.heap.size ≤ aw) := ⟨by have := hf0.size; omega, by have := hf0.size; omega⟩
  clear hs hf hf0 hlb hlw
  have HP := hide (pfill_any HS.out (A : Int) (B : Int))
  rcases (show B < A ∨ B = A ∨ A < B by omega) with hlt | rfl | hlt
  · have hb : bndE 4096 (A : Int) (B : Int) = 2 := by unfold bndE; rw [if_neg (by omega)]
    rw [hb] at HP
    clear hb
    have hlt' : (B : Int) < (A : Int) := by omega
    go_wp2_with fail
    refine HP.out.mono ?_
    rintro e w2 ⟨c2, rfl, ha2, hf2⟩
    have HF2 : Hid (Fr [] W w2) := HF.out.trans hf2 (fun x hx => by have := HL.out; simp at hx; omega)
    clear ha2 hf2
    go_wp2_with fail
    go_ret
    exact ⟨rfl, HF2.out⟩
  · have hb : bndE 4096 (B : Int) (B : Int) = 0 := bndE_in (Nat.le_refl _) (by omega)
    obtain ⟨s1, s2⟩ := IsRow.ans (n := 4096) (f := fillN 4096 (fun _ => 0) (B : Int) (B : Int)) (A := B) (B := B) (l := []) (by omega) rfl
    rw [hb] at HP
    generalize fillN 4096 (fun _ => 0) (B : Int) (B : Int) = f2 at *
    have HS2 : Hid (startsL 4096 f2 (B : Int) (B : Int) = [] ∧ startsE 4096 f2 (B : Int) (B : Int) = 0) := ⟨s1, s2⟩
    clear hb s1 s2
    go_wp2_with fail
    refine HP.out.mono ?_
    rintro e w2 ⟨c2, rfl, ha2, hf2⟩
    have HA2 := hide ha2
    have HF2 : Hid (Fr [] W w2) := HF.out.trans hf2 (fun x hx => by have := HL.out; simp at hx; omega)
    clear ha2 hf2
    go_wp2_with fail
    refine (pstarts_any HA2.out (B : Int) (B : Int)).mono ?_
    rintro e w3 ⟨A3, p3, c3, rfl, ho3, ha3, hf3⟩
    rw [HS2.out.1, HS2.out.2]
    have HF3 : Hid (Fr [] W w3) := HF2.out.trans hf3 (fun x hx => by have := HL.out; simp at hx; omega)
    clear ho3 ha3 hf3
    simp only [List.length_nil]
    go_wp2_with fail
    go_loopw [11, 10] (fun i s wr => i = .int .i64 0 ∧ s = .int .i64 0 ∧ Fr [] W wr) (fun _ _ _ => 0)
    case atStart => exact ⟨rfl, rfl, HF3.out⟩
    case round =>
      obtain ⟨rfl, rfl, hf4⟩ := hrel
      have HF4 := hide hf4
      clear hf4
      go_wp2_with fail
      go_ret
      exact ⟨rfl, HF4.out⟩
  · have hb : bndE 4096 (A : Int) (B : Int) = 0 := bndE_in (by omega) (by omega)
    have hfi := fill_in (n := 4096) (A := A) (B := B) (fun _ => 0) hlt (by omega) (by omega)
    obtain ⟨S, hS⟩ : ∃ S : Nat, S = B - A := ⟨_, rfl⟩
    rw [hfi, hb, ← hS] at HP
    have e0 : (upd (fun _ => 0) A (fillW S)) A = fillW S := by unfold upd; rw [if_pos rfl]
    have o0 := of_fillW (s := S) (by omega)
    have hrow : IsRow (upd (fun _ => 0) A (fillW S)) A [(A : Int)] B := ⟨rfl, S, by omega, by rw [e0, o0]; rfl, by rw [e0, o0]; exact .inr rfl, by omega, by show A + S = B; omega⟩
    obtain ⟨s1, s2⟩ := hrow.ans (n := 4096) (by omega)
    obtain ⟨a1, a2⟩ := at_in (n := 4096) (f := upd (fun _ => 0) A (fillW S)) (k := A) (by omega)
    rw [e0, o0] at a1 a2
    have a2' : atE 4096 (upd (fun _ => 0) A (fillW S)) (A : Int) = 0 := a2
    generalize upd (fun _ => 0) A (fillW S) = f2 at *
    have HS2 : Hid (startsL 4096 f2 (A : Int) (B : Int) = [(A : Int)] ∧ startsE 4096 f2 (A : Int) (B : Int) = 0) := ⟨s1, s2⟩
    have HA0 : Hid (atH 4096 f2 (A : Int) = fillH S ∧ atE 4096 f2 (A : Int) = 0) := ⟨a1, a2'⟩
    have hlt1 : ¬ (B : Int) < (A : Int) := by omega
    have hne : ((A : Int) == (B : Int)) = false := by rw [beq_eq_false_iff_ne]; omega
    have hSB : (B : Int) - (A : Int) = (S : Int) := by omega
    have hSm : S ≤ 4096 := by omega
    clear hb s1 s2 hrow e0 o0 a1 a2 a2' hfi
    go_wp2_with fail
    refine HP.out.mono ?_
    rintro e w2 ⟨c2, rfl, ha2, hf2⟩
    have HA2 := hide ha2
    have HF2 : Hid (Fr [] W w2) := HF.out.trans hf2 (fun x hx => by have := HL.out; simp at hx; omega)
    clear ha2 hf2
    go_wp2_with fail
    refine (pstarts_any HA2.out (A : Int) (B : Int)).mono ?_
    rintro e w3 ⟨A3, p3, c3, rfl, ho3, ha3, hf3⟩
    rw [HS2.out.1] at ho3
    rw [HS2.out.1, HS2.out.2]
    obtain ⟨b3, off3, rfl, l3, l3', k3⟩ := own_one ho3
    have HA3 := hide ha3
    have HF3 : Hid (Fr [] W w3) := HF2.out.trans hf3 (fun x hx => by have := HL.out; simp at hx; omega)
    have HQ : Hid (ab < w3.heap.size) := ha3.set.lt
    clear ho3 ha3 hf3
    simp only [List.length_singleton]
    go_wp2_with fail
    go_loopw [11, 10] (fun i s wr => (i = .int .i64 0 ∧ s = .int .i64 0 ∧ wr = w3) ∨ (i = .int .i64 1 ∧ s = .int .i64 (S : Int) ∧ Fr [] W wr)) (fun i _ _ => 1 - (intOf i).toNat)
    case atStart => exact .inl ⟨rfl, rfl, rfl⟩
    case round =>
      rcases hrel with ⟨rfl, rfl, rfl⟩ | ⟨rfl, rfl, hf4⟩
      · go_wp2_with fail
        refine (pat_any HA3.out (A : Int)).mono ?_
        rintro e w4 ⟨c4, rfl, ha4, hf4⟩
        rw [HA0.out.1, HA0.out.2]
        unfold fillH Hd.val
        simp only
        have HF4 : Hid (Fr [] W w4) := HF3.out.trans hf4 (fun x hx => by have := HL.out; simp at hx; omega)
        clear ha4 hf4
        go_wp2_with fail
        go_roundw
        case rel => exact .inr ⟨by go_num, by go_num, HF4.out.alloc _⟩
        case measure => simp [intOf]
      · have HF4 := hide hf4
        clear hf4
        go_wp2_with fail
        go_ret
        exact ⟨rfl, HF4.out⟩
theorem holds {H : Type} {enc : TypeId × Value → H} {W : World} {base : Nat} {args : Array Value} {ds : List (DataW H)} {p : List MemPlace}
    (hval : ∀ (j : Nat) t v, Try.f5.params[j]? = some t → args[j]? = some v → Value.okWide Try.prog W .any base t v)
    (hA : DataW.TrodAll enc Try.prog W 0 (fun _ => true) true Try.f5.params.toList args.toList ds p) : Holds Try.prog 5 args W := by
  rw [Try.params5] at hA hval
  obtain ⟨v0, vs0, d0, ds0, p0, q0, hargs, rfl, rfl, h0, r0⟩ := trodAll_cons hA
  obtain ⟨v1, vs1, d1, ds1, p1, q1, rfl, rfl, rfl, h1, r1⟩ := trodAll_cons r0
  obtain ⟨rfl, rfl, rfl⟩ := trodAll_nil r1
  obtain rfl : args = #[v0, v1] := by cases args; simp_all
  obtain ⟨x0, rfl, rfl, rfl, w0⟩ := open_int Try.underlying3 (hval 0 3 v0 rfl rfl) h0
  obtain ⟨x1, rfl, rfl, rfl, w1⟩ := open_int Try.underlying3 (hval 1 3 v1 rfl rfl) h1
  exact (walk x0 x1 W).mono fun e W' ⟨he, hf⟩ => ⟨he, hf.below_nil⟩
theorem readable : ∀ t, t ∈ Try.f5.params.toList → Try.prog.readableRec t = true ∧ t < Try.prog.types.size := by
  intro t ht
  rw [Try.params5] at ht
  have hm : t = 3 := by simp at ht; omega
  rcases hm with rfl
  all_goals exact ⟨by kernel_rfl, of_decide_eq_true (by kernel_rfl)⟩
theorem laid_met (os : Os) : laidMet Try.prog Rows.parseFillsRow.laid ((laidWorld os).forCall (fun _ _ => 0) ⟨#[], #[.int .i64 0, .int .i64 0], []⟩).memory :=
  ⟨[], rfl, List.nodup_nil, fun _ _ h => by cases h⟩
theorem reads (os : Os) {H : Type} (enc : TypeId × Value → H) : ∃ places, DataW.whole enc Try.prog ((laidWorld os).forCall (fun _ _ => 0) ⟨#[], #[.int .i64 0, .int .i64 0], []⟩).memory Try.f5.params.toList Rows.parseFillsSpec.vars false (#[.int .i64 0, .int .i64 0] : Array Value).toList 8 = some ([.lit (.int .i64 0), .lit (.int .i64 0)], [], places) :=
  ⟨[], by kernel_rfl⟩
theorem spec {H : Type} : ∀ ds : List (DataW H), ds.length = Try.f5.params.toList.length → Rows.parseFillsSpec.fn H (ds ++ []) = { results := [.lit (.bool true)], args := ds, vars := [] } := by
  intro ds h
  rw [Try.params5] at h
  simp only [List.append_nil]
  match ds, h with
  | [_, _], _ => rfl

set_option maxRecDepth 100000 in
theorem lifted (os : Os) (started : os.Started) (H : Type) (enc : TypeId × Value → H) (F : Stop.Interp) :
    ReturnsInHanded {} Try.checked os 5 .any ((OpenSpec.ofChange Rows.parseFillsSpec).preRow enc Try.prog Try.f5 Rows.parseFillsRow.domain false Rows.parseFillsRow.laid) (((OpenSpec.ofChange Rows.parseFillsSpec).at F).post enc Try.prog Try.f5 false true false false) := by
  obtain ⟨places, hx⟩ := reads os enc
  refine returnsInHanded_of_row (C := Try.checked) (s := OpenSpec.ofChange Rows.parseFillsSpec) own started (by kernel_rfl) Try.func5
    (witness_row_at (enc := enc) (C := Try.checked) false (laidWorld os) #[.int .i64 0, .int .i64 0] rfl (by kernel_rfl) (by kernel_rfl) (by kernel_rfl)
      (OpenSpec.preRow_of_cond 8 hx (by kernel_rfl) (fun k hk => by cases hk) (by kernel_rfl) (laid_met os))) ?_
  intro W base args ds gs before hval hW _ _ _ hL _ _
  have hW' : DataW.Whole enc Try.prog Try.f5.params.toList Rows.parseFillsSpec.vars false W args.toList ds gs before := hW
  exact law_close (s := Rows.parseFillsSpec) rfl rfl Try.underlying4 spec laidOut readable hW' (by
    obtain ⟨p, q, hA, _⟩ := hW'
    exact holds hval hA)

theorem said : Rows.ParseFillsSaid :=
  OpenClaim.holds_of_cond 5 Try.f5 rfl rfl rfl rfl rfl rfl rfl ⟨rfl, rfl, rfl, rfl, rfl⟩ rfl rfl rfl rfl rfl (by kernel_rfl) Try.func5 (by kernel_rfl)
    (of_decide_eq_true (by kernel_rfl)) (by unfold Func.isWrapper; first | (rw [if_pos (by decide +kernel)]; kernel_rfl) | (rw [if_neg (by decide +kernel)]; exact ⟨rfl, rfl⟩))
    (fun os started H enc _ F => by rw [OpenClaim.pre_eq_preRow]; exact lifted os started H enc F)
end Go.Proofs.Ytjnnegbcijmclaa.ParseFills
