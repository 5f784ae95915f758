/- CsetAll: just the regions that the document says are taken, and the others wait, whatever comes in. Conditions: none but the row's own. -/
import Derived.Test.YteggdpcfeljphaaL18
import Derived.Test.YteggdpcfeljphaaCard0
namespace Go.Proofs.Yteggdpcfeljphaa.CsetAll
set_option linter.unusedVariables false
open Go.RowKit Go.Gl Go.ChangeShapes Go.WideShapes Go.ChangeAt Go.Deep

set_option maxRecDepth 100000 in
set_option maxHeartbeats 3200000 in
theorem walk (W : World) (A0 : Option Addr) (c0 : Nat) (Y : List Int) (hY : Sl W A0 Y.length (fun k => .int .i64 (Y.getD k 0))) (A : Option Addr) (n c : Nat) (f : Nat → Nat → Int) (h : Recs W A n 2 (fun _ => .i64) f) (b : Int)
    (hb : -9223372036854775808 ≤ b ∧ b ≤ 9223372036854775807) (hf : ∀ i, i < n → f i 1 ≤ 9223372036854775807) (hYm : Y.length ≤ maxLen) (hnm : n ≤ maxLen) : Holds Try.prog 3 #[.slice A0 Y.length c0, .slice A n c, .int .i64 b] W := by
  have HY := hide hY
  have H := hide h
  have HB := hide hb
  have HF1 := hide hf
  have HYM := hide hYm
  have HNM := hide hnm
  clear hY h hb hf hYm hnm
  unfold Holds
  go_enter Try.func3, Try.ntmps3
  go_wp2_with fail
  refine (awake18_any _).mono ?_
  rintro e w0 ⟨rfl, hf0⟩
  have HF0 := hide hf0
  clear hf0
  by_cases hy : 300 < Y.length
  · have hy1 : (300 : Int) < (Y.length : Int) := by omega
    go_wp2_with fail
    go_ret
    exact ⟨rfl, HF0.out.below_nil⟩
  · have hy1 : ¬ (300 : Int) < (Y.length : Int) := by omega
    by_cases hn : 300 < n
    · have hn1 : (300 : Int) < (n : Int) := by omega
      go_wp2_with fail
      go_ret
      exact ⟨rfl, HF0.out.below_nil⟩
    · have hn1 : ¬ (300 : Int) < (n : Int) := by omega
      have T1 := hide (choose_any (c0 := c0) (HY.out.fr HF0.out (fun _ hx => by cases hx)) (by omega) (c := c) (H.out.fr HF0.out) (by omega) b HB.out HF1.out)
      have HLL := hide (candL_len n f)
      go_wp2_with fail
      refine T1.out.mono ?_
      rintro e w1 ⟨A1, r, c1, G1, rfl, hs, hr, hf, hrl, _⟩
      have HS := hide hs
      have HR := hide hr
      have HFa : Hid (Fr [] W w1) := HF0.out.trans_same hf
      have HRL : Hid (r.length ≤ 600) := by have := HLL.out; show _ ≤ _; omega
      have T2 := hide (next_any (c0 := c1) hr.slz (by have := HRL.out; omega) (c := c) (H.out.fr HFa.out) (by omega))
      clear hs hr hf hrl T1
      go_wp2_with fail
      refine T2.out.mono ?_
      rintro e w2 ⟨vn, rfl, hn2, hf⟩
      have HN := hide hn2
      have HFb : Hid (Fr [] W w2) := HFa.out.trans_same hf
      have HRb : Hid (Lr w2 3 A1 r.length c1 G1 (zv r)) := HR.out.fr0 hf
      have T3 := hide (ref18_any (c := c) (H.out.fr HFb.out) (by omega))
      clear hn2 hf T2 HR
      go_wp2_with fail
      refine T3.out.mono ?_
      rintro e w3 ⟨v3, rfl, h3, hf⟩
      obtain ⟨A3, c3, rfl, _, hrec3, _⟩ := h3.recs
      have HN3 : Hid (Rw w3 w1.heap.size 33 vn (stay r (candL n f))) := HN.out.fr hf (fun _ _ => by simp)
      have HFc : Hid (Fr [] W w3) := HFb.out.trans_same hf
      have HRc : Hid (Lr w3 3 A1 r.length c1 G1 (zv r)) := HRb.out.fr0 hf
      have T4 := hide (r18next_any (c0 := c1) HRc.out.slz (by have := HRL.out; omega) (c := c3) hrec3 (by have := HLL.out; omega))
      rw [candL_of] at T4
      have hll : (candL n f).length = n := HLL.out
      rw [hll] at T4
      rw [hll]
      clear h3 hf hrec3 T3 HN HRb hll
      go_wp2_with fail
      refine T4.out.mono ?_
      rintro e w4 ⟨vm, rfl, hm4, hf⟩
      have HM4 := hide hm4
      have HN4 : Hid (Rw w4 w1.heap.size 33 vn (stay r (candL n f))) := HN3.out.fr hf (fun _ _ => by simp)
      have HFd : Hid (Fr [] W w4) := HFc.out.trans_same hf
      have HRd : Hid (Lr w4 3 A1 r.length c1 G1 (zv r)) := HRc.out.fr0 hf
      have T5 := hide (ref18_any (c := c) (H.out.fr HFd.out) (by omega))
      clear hm4 hf T4 HN3 HRc
      go_wp2_with fail
      refine T5.out.mono ?_
      rintro e w5 ⟨v5, rfl, h5, hf⟩
      obtain ⟨A5, c5, rfl, _, hrec5, _⟩ := h5.recs
      have HN5 : Hid (Rw w5 w1.heap.size 33 vn (stay r (candL n f))) := HN4.out.fr hf (fun _ _ => by simp)
      have HM5 : Hid (Rw w5 w3.heap.size 34 vm (stay r (candL n f))) := HM4.out.fr hf (fun _ _ => by simp)
      have HFe : Hid (Fr [] W w5) := HFd.out.trans_same hf
      have HRe : Hid (Lr w5 3 A1 r.length c1 G1 (zv r)) := HRd.out.fr0 hf
      have T6 := hide (r18choose_any (c0 := c0) (HY.out.fr HFe.out (fun _ hx => by cases hx)) (by omega) (c := c5) hrec5 (by have := HLL.out; omega) b HB.out (fun i hi => by
        have hin : i < n := by have := HLL.out; omega
        have := HF1.out i hin
        have e := candL_get f hin
        simp only [e]; exact this))
      rw [candL_of] at T6
      have hll : (candL n f).length = n := HLL.out
      rw [hll] at T6
      rw [hll]
      clear h5 hf hrec5 T5 HN4 HM4 HRd hll
      go_wp2_with fail
      refine T6.out.mono ?_
      rintro e w6 ⟨A6, r', c6, G6, rfl, hs, hr, hf, hrl⟩
      obtain rfl : r' = r := hs.eq HS.out (fun x => Iff.rfl)
      have TS := hide (same_any (ca := c1) (cb := c6) (HRe.out.fr0 hf).slz hr.slz (by have := HRL.out; omega) (by have := HRL.out; omega))
      have HFf : Hid (Fr [] W w6) := HFe.out.trans_same hf
      have HN6 : Hid (Rw w6 w1.heap.size 33 vn (stay r' (candL n f))) := HN5.out.fr hf (fun _ _ => by simp)
      have HM6 : Hid (Rw w6 w3.heap.size 34 vm (stay r' (candL n f))) := HM5.out.fr hf (fun _ _ => by simp)
      have HSN : Hid ((stay r' (candL n f)).length ≤ 300) := by
        have h1 := stay_len r' (candL n f)
        have h2 := HLL.out
        show _ ≤ _
        omega
      clear hs hr hf hrl T6 HN5 HM5 HRe
      generalize stay r' (candL n f) = S at *
      obtain ⟨An, cn, rfl, _, hrn, _⟩ := HN6.out.recs
      obtain ⟨Am, cm, rfl, _, hrm, _⟩ := HM6.out.recs
      have HRN := hide hrn
      have HRM := hide hrm
      have hs0 : S.length ≤ 300 := HSN.out
      have hd : decide (r' = r') = true := by simp
      rw [hd] at TS
      clear hrn hrm HN6 HM6 hd
      go_wp2_with fail
      refine TS.out.mono ?_
      rintro e w7 ⟨rfl, q7, rfl⟩
      go_wp2_with fail
      go_loopw [10] (fun i wr => ∃ k q : Nat, i = .int .i64 k ∧ k ≤ S.length ∧ wr = w6.drewN q) (fun i _ => S.length - (intOf i).toNat)
      case atStart => exact ⟨0, q7, rfl, Nat.zero_le _, rfl⟩
      case round =>
        obtain ⟨k, q, rfl, hk, rfl⟩ := hrel
        by_cases hlt : k < S.length
        · have hlt1 : (k : Int) < (S.length : Int) := by omega
          obtain ⟨bn, on, rfl, _, hcn⟩ := HRN.out (by omega)
          obtain ⟨bm, om, rfl, _, hcm⟩ := HRM.out (by omega)
          have k0 : w6.cell? ⟨bn, on + k * 2, none⟩ = some (.int .i64 (S.getD k (0, 0)).1) := by simpa using hcn k hlt 0 (by omega)
          have k1 : w6.cell? ⟨bn, on + k * 2 + 1, none⟩ = some (.int .i64 (S.getD k (0, 0)).2) := by simpa [Nat.add_assoc] using hcn k hlt 1 (by omega)
          have k2 : w6.cell? ⟨bm, om + k * 2, none⟩ = some (.int .i64 (S.getD k (0, 0)).1) := by simpa using hcm k hlt 0 (by omega)
          have k3 : w6.cell? ⟨bm, om + k * 2 + 1, none⟩ = some (.int .i64 (S.getD k (0, 0)).2) := by simpa [Nat.add_assoc] using hcm k hlt 1 (by omega)
          clear hcn hcm
          generalize (S.getD k (0, 0)).1 = x at *
          generalize (S.getD k (0, 0)).2 = y at *
          go_wp2_with fail
          go_quiet (fail)
          go_wp2
          go_roundw
          case rel => exact ⟨k + 1, q + nq, by go_num, by omega, rfl⟩
          case measure => simp [intOf]; omega
        · obtain rfl : k = S.length := by omega
          clear hlt hk
          go_wp2_with fail
          go_ret
          exact ⟨rfl, (HFf.out.drewN _).below_nil⟩

theorem holds {H : Type} {enc : TypeId × Value → H} {W : World} {base : Nat} {args : Array Value} {ds : List (DataW H)} {p : List MemPlace}
    (hval : ∀ (j : Nat) t v, Try.f3.params[j]? = some t → args[j]? = some v → Value.okWide Try.prog W .any base t v)
    (hA : DataW.TrodAll enc Try.prog W 0 (fun _ => true) true Try.f3.params.toList args.toList ds p) : Holds Try.prog 3 args W := by
  rw [Try.params3] at hA hval
  obtain ⟨v0, vs0, d0, ds0, p0, q0, hargs, rfl, rfl, h0, r0⟩ := trodAll_cons hA
  obtain ⟨v1, vs1, d1, ds1, p1, q1, rfl, rfl, rfl, h1, r1⟩ := trodAll_cons r0
  obtain ⟨v2, vs2, d2, ds2, p2, q2, rfl, rfl, rfl, h2, r2⟩ := trodAll_cons r1
  obtain ⟨rfl, rfl, rfl⟩ := trodAll_nil r2
  obtain rfl : args = #[v0, v1, v2] := by cases args; simp_all
  obtain ⟨A, na, ca, zs, rfl, hna, hA2, hw⟩ := open_sl Try.underlying22 Try.underlying3 (by kernel_rfl) (hval 0 22 v0 rfl rfl) h0
  obtain ⟨B, n, c, f, rfl, hn, hR, hwf⟩ := open_recs (ks := fun _ => .i64) Try.underlying23 Try.underlying33 (by kernel_rfl) (by kernel_rfl) (by decide)
    (fun j f hj => by
      match j, hj with
      | 0, hj => cases hj; exact Try.underlying3
      | 1, hj => cases hj; exact Try.underlying3) (hval 1 23 v1 rfl rfl) h1
  obtain ⟨z, rfl, rfl, rfl, hz⟩ := open_int Try.underlying3 (hval 2 3 v2 rfl rfl) h2
  have e : ((List.range na).map fun j => zs.getD j 0).length = na := by simp
  have := walk W A ca ((List.range na).map fun j => zs.getD j 0) (by
    rw [e]
    intro h
    obtain ⟨b2, o2, q1, q2, q3⟩ := hA2 h
    exact ⟨b2, o2, q1, q2, fun k hk => by rw [q3 k hk]; simp [hk]⟩) B n c f hR z (int_bounds hz) (fun i hi => (int_bounds (hwf i 1 hi (by decide))).2) (by rw [e]; exact hna) hn
  rwa [e] at this
theorem readable : ∀ t, t ∈ Try.f3.params.toList → Try.prog.readableRec t = true ∧ t < Try.prog.types.size := by
  intro t ht
  rw [Try.params3] at ht
  have hm : t = 22 ∨ t = 23 ∨ t = 3 := by simp at ht; omega
  rcases hm with rfl | rfl | rfl
  all_goals exact ⟨by kernel_rfl, of_decide_eq_true (by kernel_rfl)⟩
theorem laid_met (os : Os) : laidMet Try.prog Rows.csetAllRow.laid ((laidWorld os).forCall (fun _ _ => 0) ⟨#[], #[.slice none 0 0, .slice none 0 0, .int .i64 0], []⟩).memory :=
  ⟨[], rfl, List.nodup_nil, fun _ _ h => by cases h⟩
theorem reads (os : Os) {H : Type} (enc : TypeId × Value → H) : ∃ places, DataW.whole enc Try.prog ((laidWorld os).forCall (fun _ _ => 0) ⟨#[], #[.slice none 0 0, .slice none 0 0, .int .i64 0], []⟩).memory Try.f3.params.toList Rows.csetAllSpec.vars false (#[.slice none 0 0, .slice none 0 0, .int .i64 0] : Array Value).toList 8 = some ([.nil, .nil, .lit (.int .i64 0)], [], places) :=
  ⟨[], by kernel_rfl⟩
theorem spec {H : Type} : ∀ ds : List (DataW H), ds.length = Try.f3.params.toList.length → Rows.csetAllSpec.fn H (ds ++ []) = { results := [.lit (.bool true)], args := ds, vars := [] } := by
  intro ds h
  rw [Try.params3] at h
  simp only [List.append_nil]
  match ds, h with
  | [_, _, _], _ => rfl

set_option maxRecDepth 100000 in
theorem lifted (os : Os) (started : os.Started) (H : Type) (enc : TypeId × Value → H) (F : Stop.Interp) :
    ReturnsInHanded {} Try.checked os 3 .any ((OpenSpec.ofChange Rows.csetAllSpec).preRow enc Try.prog Try.f3 Rows.csetAllRow.domain false Rows.csetAllRow.laid) (((OpenSpec.ofChange Rows.csetAllSpec).at F).post enc Try.prog Try.f3 false true false false) := by
  obtain ⟨places, hx⟩ := reads os enc
  refine returnsInHanded_of_row (C := Try.checked) (s := OpenSpec.ofChange Rows.csetAllSpec) own started (by kernel_rfl) Try.func3
    (witness_row_at (enc := enc) (C := Try.checked) false (laidWorld os) #[.slice none 0 0, .slice none 0 0, .int .i64 0] rfl (by kernel_rfl) (by kernel_rfl) (by kernel_rfl)
      (OpenSpec.preRow_of_cond 8 hx (by kernel_rfl) (fun k hk => by cases hk) (by kernel_rfl) (laid_met os))) ?_
  intro W base args ds gs before hval hW _ _ _ hL _ _
  have hW' : DataW.Whole enc Try.prog Try.f3.params.toList Rows.csetAllSpec.vars false W args.toList ds gs before := hW
  exact law_close (s := Rows.csetAllSpec) rfl rfl Try.underlying4 spec laidOut readable hW' (by
    obtain ⟨p, q, hA, _⟩ := hW'
    exact holds hval hA)

theorem said : Rows.CsetAllSaid :=
  OpenClaim.holds_of_cond 3 Try.f3 rfl rfl rfl rfl rfl rfl rfl ⟨rfl, rfl, rfl, rfl, rfl⟩ rfl rfl rfl rfl rfl (by kernel_rfl) Try.func3 (by kernel_rfl)
    (of_decide_eq_true (by kernel_rfl)) (by unfold Func.isWrapper; first | (rw [if_pos (by decide +kernel)]; kernel_rfl) | (rw [if_neg (by decide +kernel)]; exact ⟨rfl, rfl⟩))
    (fun os started H enc _ F => by rw [OpenClaim.pre_eq_preRow]; exact lifted os started H enc F)
end Go.Proofs.Yteggdpcfeljphaa.CsetAll
