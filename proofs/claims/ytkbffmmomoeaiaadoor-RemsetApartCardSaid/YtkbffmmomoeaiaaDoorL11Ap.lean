/- RemsetApart: what is done to one home's set changes no other's. Conditions: none but the row's own (the library's table lies as its text lays it). -/
import Derived.Test.YtkbffmmomoeaiaaDoorL11b
import Derived.Test.YtkbffmmomoeaiaaDoorCard
namespace Go.Proofs.YtkbffmmomoeaiaaDoor.RemsetApart
set_option linter.unusedVariables false
open Go.RowKit Go.Gl Go.ChangeShapes Go.WideShapes Go.ChangeAt Go.Deep

theorem zs_u8 {zs : List Int} (h : ∀ z ∈ zs, (Lit.int .u8 z).wf = true) (k : Nat) : 0 ≤ zs.getD k 0 ∧ zs.getD k 0 ≤ 255 := by
  rw [List.getD_eq_getElem?_getD]
  rcases Nat.lt_or_ge k zs.length with hk | hk
  · rw [List.getElem?_eq_getElem hk]
    have := h _ (List.getElem_mem hk)
    simpa [Lit.wf, IntKind.min, IntKind.max, IntKind.signed, IntKind.bits] using this
  · rw [List.getElem?_eq_none hk]; simp
theorem mod_at (x : Int) (h0 : 0 ≤ x) (m : Nat) (hm : 0 < m) : ∃ C : Nat, x % (m : Int) = (C : Int) ∧ x.tmod (m : Int) = (C : Int) ∧ C < m := by
  obtain ⟨C, hC⟩ := Int.eq_ofNat_of_zero_le (Int.emod_nonneg x (show (m : Int) ≠ 0 by omega))
  have h3 := Int.emod_lt_of_pos x (show (0 : Int) < m by omega)
  exact ⟨C, hC, by rw [Int.tmod_eq_emod_of_nonneg h0]; exact hC, by omega⟩
set_option maxRecDepth 100000 in
set_option maxHeartbeats 3200000 in
theorem walk (W : World) (hT : Tab W) (A B : Option Addr) (na nb ca cb : Nat) (zs ys : List Int) (hA : Sl W A na (fun k => .int .u8 (zs.getD k 0))) (hB : Sl W B nb (fun k => .int .u8 (ys.getD k 0)))
    (hz : ∀ k, 0 ≤ zs.getD k 0 ∧ zs.getD k 0 ≤ 255) (hy : ∀ k, 0 ≤ ys.getD k 0 ∧ ys.getD k 0 ≤ 255) (hna : na ≤ 9223372036854775807) (hnb : nb ≤ 9223372036854775807) :
    Holds Tryd.prog 5 #[.slice A na ca, .slice B nb cb] W := by
  have HT := hide hT
  have HA := hide hA
  have HB := hide hB
  have Hz := hide hz
  have Hy := hide hy
  have HN : Hid (∀ w' : World, Calls Tryd.prog 8 #[.agg #[.int .i64 512, .int .i64 64, .int .i64 8, .int .i64 8, .int .i64 64, .int .i64 448]] w' fun e w'' => ∃ sb tg, e = .returned (.tuple #[.pointer (some ⟨sb, 0, none⟩), .int .i64 0]) ∧ SAt w'' tg sb 8 8 freshS ∧ Fr [] w' w'' ∧ Old w'.heap.size tg) := new_small
  have HSm : Hid (∀ w' : World, Calls Tryd.prog 16 #[] w' fun e w'' => e = .returned (.agg #[.int .i64 512, .int .i64 64, .int .i64 8, .int .i64 8, .int .i64 64, .int .i64 448]) ∧ Fr [] w' w'') := small_any
  clear hT hA hB hz hy
  unfold Holds
  go_enter Tryd.func5, Tryd.ntmps5
  go_wp2_with fail
  refine (awake11_any _ HT.out).mono ?_
  rintro e w0 ⟨rfl, hf⟩
  have HF0 := hide hf
  clear hf
  go_wp2_with fail
  refine (HSm.out _).mono ?_
  rintro e w1 ⟨rfl, hf⟩
  have HF1 := hide (HF0.out.trans_same hf)
  clear hf
  go_wp2_with fail
  refine (HN.out _).mono ?_
  rintro e w2 ⟨s, tgS, rfl, hs, hf, ho⟩
  have HF2 := hide (HF1.out.trans_same hf)
  have HS2 := hide hs
  have HO2 : Hid (Old W.heap.size tgS) := fun b hb => ho b (by have := HF1.out.size; omega)
  clear hs hf ho
  go_wp2_with fail
  refine (HSm.out _).mono ?_
  rintro e w3 ⟨rfl, hf⟩
  have HF3 := hide (HF2.out.trans_same hf)
  have HS3 := hide (HS2.out.fr0 hf)
  clear hf
  go_wp2_with fail
  refine (HN.out _).mono ?_
  rintro e w4 ⟨t, tgT, rfl, hs, hf, ho⟩
  have HW4 : Hid (Two W w4 s t 8 8 freshS freshS) := Two.made HF3.out HS3.out HO2.out hf hs ho
  clear hs hf ho
  go_wp2_with fail
  go_loopw [9] (fun i wr => ∃ (k : Nat) (σ : RS), i = .int .i64 k ∧ k ≤ na ∧ Two W wr s t 8 8 σ σ ∧ ∀ a b, a ≠ 0 → σ.way a b = 0) (fun i _ => na - (intOf i).toNat)
  case atStart => exact ⟨0, freshS, rfl, Nat.zero_le _, HW4.out, fun _ _ _ => rfl⟩
  case round =>
    obtain ⟨k, σ, rfl, hk, hw, hσ⟩ := hrel
    have HW := hide hw
    have HSig := hide hσ
    clear hw hσ
    by_cases hlt : k < na
    · have hlt1 : (k : Int) < (na : Int) := by omega
      obtain ⟨b, off, rfl, hb1, hc1⟩ := HA.out (by omega)
      have hcell : wr.cell? ⟨b, off + k, none⟩ = some (.int .u8 (zs.getD k 0)) := (HW.out.1.cell (p := ⟨b, off + k, none⟩) hb1 (by simp)).trans (hc1 k hlt)
      obtain ⟨x1, x2⟩ := Hz.out k
      have HC1 := hide hc1
      clear hc1
      generalize zs.getD k 0 = x at hcell x1 x2
      obtain ⟨C, e1, e2, hC⟩ := mod_at x x1 64 (by decide)
      rw [show ((64 : Nat) : Int) = 64 from rfl] at e1 e2
      have T1 := hide (HW.out.left fun tg h => h.add 0 (C : Int))
      go_wp2_with fail
      refine T1.out.mono ?_
      rintro e w5 ⟨rfl, hw5⟩
      have T2 := hide (hw5.right fun tg h => h.add 0 (C : Int))
      have hcell5 := (hw5.1.cell (p := ⟨b, off + k, none⟩) hb1 (by simp)).trans ((HW.out.1.cell (p := ⟨b, off + k, none⟩) hb1 (by simp)).symm.trans hcell)
      clear hw5
      go_wp2_with fail
      refine T2.out.mono ?_
      rintro e w6 ⟨rfl, hw6⟩
      have HW6 := hide hw6
      clear hw6
      go_wp2_with fail
      go_roundw
      case rel => exact ⟨k + 1, _, by go_num, by omega, HW6.out, fun a b ha => ((addR_else (h := 0) ha).1 b).trans (HSig.out a b ha)⟩
      case measure => simp [intOf]; omega
    · have hlt1 : ¬ (k : Int) < (na : Int) := by omega
      obtain rfl : k = na := by omega
      go_wp2_with fail
      obtain ⟨wz, hwz⟩ : ∃ wz, wz = wr := ⟨_, rfl⟩
      rw [← hwz] at HW ⊢
      clear hwz
      go_loopw [10] (fun i wr => ∃ (j : Nat) (τ : RS), i = .int .i64 j ∧ j ≤ nb ∧ Two W wr s t 8 8 σ τ ∧ (∀ b, τ.way 0 b = σ.way 0 b) ∧ ∀ c, τ.has 0 c = σ.has 0 c) (fun i _ => nb - (intOf i).toNat)
      case atStart => exact ⟨0, σ, rfl, Nat.zero_le _, HW.out, fun _ => rfl, fun _ => rfl⟩
      case round =>
        obtain ⟨j, τ, rfl, hj, hw, h1, h2⟩ := hrel
        have HW2 := hide hw
        have HE1 := hide h1
        have HE2 := hide h2
        clear hw h1 h2
        by_cases hlt2 : j < nb
        · have hlt3 : (j : Int) < (nb : Int) := by omega
          obtain ⟨b, off, rfl, hb1, hc1⟩ := HB.out (by omega)
          have hcell : wr.cell? ⟨b, off + j, none⟩ = some (.int .u8 (ys.getD j 0)) := (HW2.out.1.cell (p := ⟨b, off + j, none⟩) hb1 (by simp)).trans (hc1 j hlt2)
          obtain ⟨x1, x2⟩ := Hy.out j
          clear hc1
          generalize ys.getD j 0 = x at hcell x1 x2
          obtain ⟨C, e1, e2, hC⟩ := mod_at x x1 64 (by decide)
          rw [show ((64 : Nat) : Int) = 64 from rfl] at e1 e2
          obtain ⟨D, e3, e4, hD⟩ := mod_at x x1 7 (by decide)
          rw [show ((7 : Nat) : Int) = 7 from rfl] at e3 e4
          have T1 : Hid (Calls Tryd.prog 19 #[.pointer (some ⟨t, 0, none⟩), .int .i64 (1 + (D : Int)), .int .i64 (C : Int)] wr.drew fun e w' => ∃ v, e = .returned v ∧ ∃ τ', Two W w' s t 8 8 σ τ' ∧ (∀ b, τ'.way 0 b = σ.way 0 b) ∧ ∀ c, τ'.has 0 c = σ.has 0 c) := by
            have h := ((HW2.out.fr0 ((Fr.refl _ _).drew)).right fun tg h => h.add (((1 + D : Nat)) : Int) (C : Int))
            have e : ((1 + D : Nat) : Int) = 1 + (D : Int) := by omega
            rw [e] at h
            refine h.mono fun e' w' hw => ⟨_, hw.1, _, hw.2, fun b => ?_, fun c => ?_⟩
            · rw [← e]; exact ((addR_else (h := 1 + D) (a := 0) (by omega)).1 b).trans (HE1.out b)
            · rw [← e]; exact ((addR_else (h := 1 + D) (a := 0) (by omega)).2 c).trans (HE2.out c)
          rw [← e1, ← e3] at T1
          go_wp2_with fail
          refine region_tail 14 (by kernel_rfl) (by kernel_rfl) ?_
          simp only [List.take_succ_cons, List.take_zero, List.drop_succ_cons, List.drop_zero]
          repeat still_step
          refine wpStill_nil ?_
          go_wp2_with fail
          refine T1.out.mono ?_
          rintro e w6 ⟨v, rfl, τ', hw6, h1, h2⟩
          have HW6 := hide hw6
          have HE3 := hide h1
          have HE4 := hide h2
          clear hw6 h1 h2
          go_wp2_with fail
          go_roundw
          case rel => exact ⟨j + 1, τ', by go_num, by omega, HW6.out, HE3.out, HE4.out⟩
          case measure => simp [intOf]; omega
        · have hlt3 : ¬ (j : Int) < (nb : Int) := by omega
          obtain rfl : j = nb := by omega
          have T1 := hide (HW2.out.right fun tg h => h.clear (a := 3) (by decide))
          go_wp2_with fail
          refine T1.out.mono ?_
          rintro e w6 ⟨rfl, hw6⟩
          have HW6 := hide hw6
          have T2 := hide (hw6.cardsL HT.out (a := 0) (by decide))
          clear hw6
          obtain ⟨L, hL⟩ : ∃ L, allOf σ 8 8 0 = L := ⟨_, rfl⟩
          have hL2 : allOf (τ.clear 3) 8 8 0 = L := (allOf_congr (fun b => by show (if (0 : Nat) = 3 then 0 else τ.way 0 b) = _; rw [if_neg (by decide)]; exact HE1.out b) (fun c => by show (if (0 : Nat) = 3 then false else τ.has 0 c) = _; rw [if_neg (by decide)]; exact HE2.out c)).trans hL
          have HLn : Hid (L.length ≤ 64) := by rw [← hL]; exact part_len _ _ _ _
          have HL2 := hide hL2
          rw [hL] at T2
          clear hL hL2
          go_wp2_with fail
          refine T2.out.mono ?_
          rintro e w7 ⟨A7, c7, G7, rfl, hl7, hf7, hg7⟩
          have HL7 := hide hl7
          have HW7 := hide (HW6.out.fr0 hf7)
          have T3 := hide (HW7.out.swap.cardsL HT.out (a := 0) (by decide))
          rw [HL2.out] at T3
          clear hl7 hf7 hg7
          generalize hln : L.length = ln at *
          have HLn2 := hide hln
          clear hln
          go_wp2_with fail
          refine T3.out.mono ?_
          rintro e w8 ⟨A8, c8, G8, rfl, hl8, hf8, hg8⟩
          have HW8 := hide (HW7.out.fr0 hf8)
          have T4 : Hid (Calls Tryd.prog 12 #[.slice A7 ln c7, .slice A8 ln c8] w8 fun e w' => e = .returned (.bool true) ∧ ∃ k, w' = w8.drewN k) := by
            have h7 := HL7.out.fr0 hf8
            have h := same_any (ca := c7) (cb := c8) (xs := L) (ys := L) (by rw [HLn2.out]; exact h7.slz) hl8.slz (by rw [HLn2.out]; have := HLn.out; omega) (by rw [HLn2.out]; have := HLn.out; omega)
            rw [HLn2.out, show decide (L = L) = true by simp] at h
            exact h
          clear hl8 hf8 hg8
          rw [HLn2.out]
          go_wp2_with fail
          refine T4.out.mono ?_
          rintro e w9 ⟨rfl, k9, rfl⟩
          have HW9 := hide (HW8.out.fr0 ((Fr.refl _ _).drewN k9))
          have T5 := hide (HW9.out.cardsL HT.out (a := 1) (by decide))
          have hnil : allOf σ 8 8 1 = [] := by
            obtain ⟨_, _, _, h1, _⟩ := HW9.out
            exact allOf_none h1.ok fun b => HSig.out 1 b (by decide)
          rw [hnil] at T5
          clear hnil
          go_wp2_with fail
          refine T5.out.mono ?_
          rintro e w10 ⟨A10, c10, G10, rfl, hl10, hf10, hg10⟩
          have HF10 := hide (HW9.out.1.trans_same hf10)
          clear hl10 hf10 hg10
          go_wp2_with fail
          go_ret
          exact ⟨rfl, HF10.out.below_nil⟩
set_option maxRecDepth 100000 in
theorem holds {H : Type} {enc : TypeId × Value → H} {W : World} {base : Nat} {args : Array Value} {ds : List (DataW H)} {p : List MemPlace}
    (hval : ∀ (j : Nat) t v, Tryd.f5.params[j]? = some t → args[j]? = some v → Value.okWide Tryd.prog W .any base t v)
    (hA : DataW.TrodAll enc Tryd.prog W 0 (fun _ => true) true Tryd.f5.params.toList args.toList ds p) (hT : Tab W) : Holds Tryd.prog 5 args W := by
  rw [Tryd.params5] at hA hval
  obtain ⟨v0, vs0, d0, ds0, p0, q0, hargs, rfl, rfl, h0, r0⟩ := trodAll_cons hA
  obtain ⟨v1, vs1, d1, ds1, p1, q1, rfl, rfl, rfl, h1, r1⟩ := trodAll_cons r0
  obtain ⟨rfl, rfl, rfl⟩ := trodAll_nil r1
  obtain rfl : args = #[v0, v1] := by cases args; simp_all
  obtain ⟨A, na, ca, as_, rfl, hna, hA1, hw1⟩ := open_sl Tryd.underlying52 Tryd.underlying5 (by kernel_rfl) (hval 0 52 v0 rfl rfl) h0
  obtain ⟨B, nb, cb, bs_, rfl, hnb, hB1, hw2⟩ := open_sl Tryd.underlying52 Tryd.underlying5 (by kernel_rfl) (hval 1 52 v1 rfl rfl) h1
  exact walk W hT A B na nb ca cb as_ bs_ hA1 hB1 (zs_u8 hw1) (zs_u8 hw2) (by unfold maxLen at hna; omega) (by unfold maxLen at hnb; omega)
set_option maxRecDepth 100000 in
theorem readable : ∀ t, t ∈ Tryd.f5.params.toList → Tryd.prog.readableRec t = true ∧ t < Tryd.prog.types.size := by
  intro t ht
  rw [Tryd.params5] at ht
  have hm : t = 52 := by simp at ht; omega
  rcases hm with rfl
  all_goals exact ⟨by kernel_rfl, of_decide_eq_true (by kernel_rfl)⟩
set_option maxRecDepth 100000 in
theorem laid_met (os : Os) : laidMet Tryd.prog Rows.remsetApartRow.laid ((laidWorld os).forCall (fun _ _ => 0) ⟨#[], #[.slice none 0 0, .slice none 0 0], []⟩).memory :=
  laidMet_of_run' 8 (by kernel_rfl) (by kernel_rfl)
set_option maxRecDepth 100000 in
theorem reads (os : Os) {H : Type} (enc : TypeId × Value → H) : ∃ places, DataW.whole enc Tryd.prog ((laidWorld os).forCall (fun _ _ => 0) ⟨#[], #[.slice none 0 0, .slice none 0 0], []⟩).memory Tryd.f5.params.toList Rows.remsetApartSpec.vars false (#[.slice none 0 0, .slice none 0 0] : Array Value).toList 8 = some ([.nil, .nil], [], places) :=
  ⟨[], by kernel_rfl⟩
theorem spec {H : Type} : ∀ ds : List (DataW H), ds.length = Tryd.f5.params.toList.length → Rows.remsetApartSpec.fn H (ds ++ []) = { results := [.lit (.bool true)], args := ds, vars := [] } := by
  intro ds h
  rw [Tryd.params5] at h
  simp only [List.append_nil]
  match ds, h with
  | [_, _], _ => rfl

set_option maxRecDepth 100000 in
theorem lifted (os : Os) (started : os.Started) (H : Type) (enc : TypeId × Value → H) (F : Stop.Interp) :
    ReturnsInHanded {} Tryd.checked os 5 .any ((OpenSpec.ofChange Rows.remsetApartSpec).preRow enc Tryd.prog Tryd.f5 Rows.remsetApartRow.domain false Rows.remsetApartRow.laid) (((OpenSpec.ofChange Rows.remsetApartSpec).at F).post enc Tryd.prog Tryd.f5 false true false false) := by
  obtain ⟨places, hx⟩ := reads os enc
  refine returnsInHanded_of_row (C := Tryd.checked) (s := OpenSpec.ofChange Rows.remsetApartSpec) own started (by kernel_rfl) Tryd.func5
    (witness_row_at (enc := enc) (C := Tryd.checked) false (laidWorld os) #[.slice none 0 0, .slice none 0 0] rfl (by kernel_rfl) (by kernel_rfl) (by kernel_rfl)
      (OpenSpec.preRow_of_cond 8 hx (by kernel_rfl) (fun k hk => by cases hk) (by kernel_rfl) (laid_met os))) ?_
  intro W base args ds gs before hval hW _ _ _ hL _ _
  have hW' : DataW.Whole enc Tryd.prog Tryd.f5.params.toList Rows.remsetApartSpec.vars false W args.toList ds gs before := hW
  exact law_close (s := Rows.remsetApartSpec) rfl rfl Tryd.underlying4 spec laidOut readable hW' (by
    obtain ⟨p, q, hA, _⟩ := hW'
    exact holds hval hA (table hL))

theorem said : Rows.RemsetApartSaid :=
  OpenClaim.holds_of_cond 5 Tryd.f5 rfl rfl rfl rfl rfl rfl rfl ⟨rfl, rfl, rfl, rfl, rfl⟩ rfl rfl rfl rfl rfl (by kernel_rfl) Tryd.func5 (by kernel_rfl)
    (of_decide_eq_true (by kernel_rfl)) (by unfold Func.isWrapper; first | (rw [if_pos (by decide +kernel)]; kernel_rfl) | (rw [if_neg (by decide +kernel)]; exact ⟨rfl, rfl⟩))
    (fun os started H enc _ F => by rw [OpenClaim.pre_eq_preRow]; exact lifted os started H enc F)

/-- No parameter wants a stand-in; the program's own looks are off. -/
theorem plain (f : FuncId) (fn : Func) (hf : Tryd.pinned.checked.prog.funcNamed "gleaner/gleanerlaw11.RemsetApart" = some f) (hfn : Tryd.pinned.checked.prog.funcs[f]? = some fn) :
    false = Tryd.pinned.checked.prog.looks [] ∧ ∀ (j : Nat) t, fn.params[j]? = some t → Tryd.pinned.checked.prog.wantsStandIn t = false := by
  obtain rfl : f = 5 := Option.some.inj ((show Tryd.prog.funcNamed "gleaner/gleanerlaw11.RemsetApart" = some 5 by kernel_rfl).symm.trans hf) |>.symm
  obtain rfl : fn = Tryd.f5 := (Option.some.inj (Tryd.func5.symm.trans hfn)).symm
  refine ⟨by kernel_rfl, fun j t ht => ?_⟩
  rw [Tryd.params5] at ht
  have hm : t = 52 := by have := Array.mem_of_getElem? ht; simp at this; omega
  rcases hm with rfl
  · exact (show Tryd.prog.wantsStandIn 52 = false by kernel_rfl)

/-- The card. -/
theorem card : Rows.RemsetApartCardSaid :=
  Claim7.holds_tied_plain_at .later [] _ _ _ _ said (fun _ h => by cases h) (by kernel_rfl) (fun _ h => by cases h) remsetApart_row_tie rfl ⟨rfl, rfl⟩ (by kernel_rfl) rfl plain (by kernel_rfl)
end Go.Proofs.YtkbffmmomoeaiaaDoor.RemsetApart
