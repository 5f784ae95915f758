/- CsetKeeps: what is handed in isn't changed, and the order of candidates makes no difference, whatever comes in. Conditions: none but the row's own. -/
import Derived.Test.YteggdpcfeljphaaL18
import Derived.Test.YteggdpcfeljphaaCard0
namespace Go.Proofs.Yteggdpcfeljphaa.CsetKeeps
set_option linter.unusedVariables false
open Go.RowKit Go.Gl Go.ChangeShapes Go.WideShapes Go.ChangeAt Go.Deep

theorem getD_mem {l : List (Int × Int)} {i : Nat} (h : i < l.length) : l.getD i (0, 0) ∈ l := by simp [h]
set_option maxRecDepth 100000 in
set_option maxHeartbeats 3200000 in
theorem walk (W : World) (A0 : Option Addr) (c0 : Nat) (Y : List Int) (hY : Sl W A0 Y.length (fun k => .int .i64 (Y.getD k 0))) (A : Option Addr) (n c : Nat) (f : Nat → Nat → Int) (h : Recs W A n 2 (fun _ => .i64) f) (b : Int)
    (hb : -9223372036854775808 ≤ b ∧ b ≤ 9223372036854775807) (hf : ∀ i, i < n → f i 1 ≤ 9223372036854775807) (hYm : Y.length ≤ maxLen) (hnm : n ≤ maxLen) : Holds Try.prog 5 #[.slice A0 Y.length c0, .slice A n c, .int .i64 b] W := by
  obtain ⟨i0, hi, hz0, hz1, hz2⟩ := info_parts Try.info_cand
  obtain ⟨j0, hj, hjz, hj1, hj2⟩ := info_parts Try.info_int
  have HY := hide hY
  have H := hide h
  have HB := hide hb
  have HF1 := hide hf
  have HYM := hide hYm
  have HNM := hide hnm
  clear hY h hb hf hYm hnm
  unfold Holds
  go_enter Try.func5, Try.ntmps5
  go_wp2_with fail
  refine (awake18_any _).mono ?_
  rintro e w0 ⟨rfl, hf0⟩
  have HF0 := hide hf0
  clear hf0
  by_cases hy : 300 < Y.length
  · have hy1 : (300 : Int) < (Y.length : Int) := by omega
    go_wp2_with fail
    go_ret
    exact ⟨rfl, HF0.out.below_nil⟩
  · have hy1 : ¬ (300 : Int) < (Y.length : Int) := by omega
    by_cases hn : 300 < n
    · have hn1 : (300 : Int) < (n : Int) := by omega
      go_wp2_with fail
      go_ret
      exact ⟨rfl, HF0.out.below_nil⟩
    · have hn1 : ¬ (300 : Int) < (n : Int) := by omega
      have HLL := hide (candL_len n f)
      have HN := hide (show (zv Y).length = Y.length ∧ (∀ u ∈ zv Y, u.oneCell' = true) ∧ 0 + Y.length ≤ maxLen ∧ (0 + Y.length) * 8 ≤ 140737488355328 from ⟨zv_len _, zv_one _, by unfold maxLen; omega, by omega⟩)
      have HNR : Hid (∀ w', Fr [] W w' → 0 < Y.length → ∃ ad, A0 = some ad ∧ ∀ j u, (zv Y)[j]? = some u → w'.cell? (ad.add j) = some u) := fun w' hf hn => by
        obtain ⟨b, off, h1, h2, h3⟩ := HY.out hn
        refine ⟨_, h1, fun j u hu => ?_⟩
        have hj : j < Y.length := by have := (List.getElem?_eq_some_iff.1 hu).1; rwa [zv_len] at this
        rw [zv_get _ hj] at hu
        rw [show (⟨b, off, none⟩ : Addr).add j = ⟨b, off + j, none⟩ from Go.WideShapes.add_plain _ _ _, hf.cell h2 (by simp), h3 j hj, hu]
      have HM := hide (show (pv (candL n f)).length = n * 2 ∧ (∀ u ∈ pv (candL n f), u.oneCell' = true) ∧ 0 + n ≤ maxLen ∧ (0 + n) * 16 ≤ 140737488355328 from ⟨by rw [pv_len, candL_len], pv_one _, by unfold maxLen; omega, by omega⟩)
      have HMR : Hid (∀ w', Fr [] W w' → 0 < n → ∃ ad, A = some ad ∧ ∀ j u, (pv (candL n f))[j]? = some u → w'.cell? (ad.add j) = some u) := fun w' hf => (H.out.fr hf).read
      have hn3 : n ≤ 300 := by omega
      go_wp2_with (first
        | (at_builtin; refine wpList_append_lr rfl _ _ 22 rfl 3 j0 (.int .i64 0) 8 Try.underlying22 hj hjz hj1 hj2 rfl rfl (lrNone _ _ _) rfl HN.out.1 (HNR.out _ (HF0.out.alloc _)) HN.out.2.1 HN.out.2.2.1 HN.out.2.2.2 ?_; intro A1 c1 G1 w1 HLn HFn HGn; have HFw1 := hide ((HF0.out.alloc (.cells #[] 3)).trans_same HFn.out); have HSZ1 := hide HFn.out.size)
        | (at_builtin; go_loud (refine wpList_append_rows rfl _ _ 23 rfl w1.heap.size 33 i0 (.agg #[.int .i64 0, .int .i64 0]) 2 16 Try.underlying23 hi hz0 hz1 hz2 rfl (by decide) _ 0 [] rfl (Rw.made w1 33) rfl HM.out.1 (HMR.out _ (HFw1.out.alloc _)) HM.out.2.1 HM.out.2.2.1 HM.out.2.2.2 (by simp) ?_; intro vl w2 HLl HFl HGl)))
      have HLy : Hid (Lr w1 3 A1 Y.length c1 G1 (zv Y)) := by
        have h1 := HLn.out
        rw [Nat.zero_add, List.nil_append] at h1
        exact h1
      have HGy : Hid (∀ g, g ∈ G1 → W.heap.size ≤ g) := fun g hg => by
        have := HF0.out.size
        rcases HGn.out g hg with h2 | ⟨h2, _⟩
        · cases h2
        · simp at h2; omega
      have hsw : W.heap.size ≤ w1.heap.size := HFw1.out.size
      have HFw2 : Hid (Fr [] W w2) := (HFw1.out.alloc (.cells #[] 33)).grown HFl.out fun k hk => by injection hk with hk; subst hk; exact .inr hsw
      have HF12 : Hid (Fr [] w1 w2) := ((Fr.refl [] w1).alloc (.cells #[] 33)).grown HFl.out fun k hk => by injection hk with hk; subst hk; exact .inr (Nat.le_refl _)
      have HLy2 : Hid (Lr w2 3 A1 Y.length c1 G1 (zv Y)) := HLy.out.fr0 HF12.out
      have HLl2 : Hid (Rw w2 w1.heap.size 33 vl (candL n f)) := by
        have h1 := HLl.out
        rw [Nat.zero_add, List.nil_append] at h1
        unfold Rw
        rw [candL_len]
        exact h1
      obtain ⟨Al, cl, rfl, hcl, hrec, hlb⟩ := HLl2.out.recs
      have hll : (candL n f).length = n := HLL.out
      rw [hll]
      rw [hll] at hrec
      have hcd := candL_of (candL n f)
      rw [hll] at hcd
      have T1 := hide (choose_any (c0 := c1) HLy2.out.slz (by omega) (c := cl) hrec (by omega) b HB.out (fun i hi => by
        have := HF1.out i hi
        have e := candL_get f hi
        simp only [e]; exact this))
      rw [hcd] at T1
      have HREC := hide hrec
      have HLB : Hid (∀ g o, Al = some ⟨g, o, none⟩ → W.heap.size ≤ g) := fun g o h => by
        have := (hlb g (by rw [h]; rfl)).1
        omega
      clear HLn HFn HGn HSZ1 HLl HFl HGl HLy HF12 hcl hrec hlb hll hcd hsw HLl2
      go_wp2_with fail
      refine T1.out.mono ?_
      rintro e w3 ⟨Aa, r, ca, Ga, rfl, hs, hr, hf, hrl, hg⟩
      have HS := hide hs
      have HR := hide hr
      have HFa : Hid (Fr [] W w3) := HFw2.out.trans_same hf
      have HLy3 : Hid (Lr w3 3 A1 Y.length c1 G1 (zv Y)) := HLy2.out.fr0 hf
      have HREC3 : Hid (Recs w3 Al n 2 (fun _ => .i64) (fun i j => if j = 0 then ((candL n f).getD i (0, 0)).1 else ((candL n f).getD i (0, 0)).2)) := HREC.out.fr hf
      have HRL : Hid (r.length ≤ 600) := by have := HLL.out; show _ ≤ _; omega
      have HGa : Hid (∀ g, g ∈ Ga → w2.heap.size ≤ g) := hg
      have HGY : Hid (∀ g, g ∈ G1 → g < w2.heap.size) := HLy2.out.lt
      clear hs hr hf hrl hg T1 HREC HLy2
      have HALL : Hid (∀ x, x ∈ candL n f → x.2 ≤ 9223372036854775807) := fun x hx => by
        obtain ⟨i, hi, rfl⟩ := List.mem_map.1 hx
        exact HF1.out i (by simpa using hi)
      go_wp2_with fail
      go_loopw [11, 10] (fun (x : Value) (y : Value) wr => ∃ (j : Nat) (T : Int) (v : Value), x = .int .i64 T ∧ T = (j : Int) - 1 ∧ j ≤ n ∧ y = v ∧ wr.ownsRow w3.heap.size 33 2 v (n - j) (pv ((candL n f).drop j).reverse) ∧ Fr [] w3 wr) (fun x _ _ => (intOf x + 1).toNat)
      case atStart => exact ⟨n, _, _, rfl, rfl, Nat.le_refl _, rfl, by
        have e : (candL n f).drop n = [] := List.drop_eq_nil_of_le (by rw [HLL.out]; exact Nat.le_refl _)
        rw [e, Nat.sub_self]; exact Rw.none _ _ _, Fr.refl _ _⟩
      case round =>
        obtain ⟨j, T, v, rfl, hT, hjn, rfl, hrw, hfr⟩ := hrel
        have HRW := hide hrw
        have HFR := hide hfr
        clear hrw hfr
        rcases Nat.eq_zero_or_pos j with h0 | h0
        · subst h0
          obtain rfl : T = -1 := by omega
          have hrow : Rw wr w3.heap.size 33 u10 (candL n f).reverse := by
            have := HRW.out
            rw [List.drop_zero, Nat.sub_zero] at this
            unfold Rw
            rw [List.length_reverse, HLL.out]; exact this
          obtain ⟨Ab, cb, rfl, -, hrec, -⟩ := hrow.recs
          have hrl : (candL n f).reverse.length = n := by rw [List.length_reverse]; exact HLL.out
          have hcd := candL_of (candL n f).reverse
          rw [hrl] at hrec hcd
          rw [hrl]
          have TS1 := hide (same_any (ca := c1) (cb := c0) ((HLy3.out.fr0 HFR.out).slz) (HY.out.fr (HFa.out.trans_same HFR.out) (fun _ hx => by cases hx)) (by omega) (by omega))
          have hd : decide (Y = Y) = true := by simp
          rw [hd] at TS1
          have TC : Hid (∀ w', Fr [] wr w' → Calls Try.prog 7 #[.slice A0 Y.length c0, .slice Ab n cb, .int .i64 b] w' (ChooseP w' Y (candL n f).reverse b)) := fun w' hf' => by
            have := choose_any (c0 := c0) (HY.out.fr ((HFa.out.trans_same HFR.out).trans_same hf') (fun _ hx => by cases hx)) (by omega) (c := cb) (hrec.fr hf') (by omega) b HB.out (fun i hi => by
              have hm : ((candL n f).reverse.getD i (0, 0)) ∈ (candL n f).reverse := by
                have : i < (candL n f).reverse.length := by rw [hrl]; exact hi
                exact getD_mem this
              exact HALL.out _ (List.mem_reverse.1 hm))
            rw [hcd] at this
            exact this
          clear hrow hrec hcd hrl hT hjn hd
          go_wp2_with fail
          refine TS1.out.mono ?_
          rintro e w4 ⟨rfl, q4, rfl⟩
          go_wp2_with fail
          refine (TC.out _ ((Fr.refl _ _).drewN q4)).mono ?_
          rintro e w5 ⟨Ac, r', cc, Gc, rfl, hs, hr, hf, -, -⟩
          obtain rfl : r' = r := hs.eq HS.out (fun x => chosen_perm (List.reverse_perm _))
          have HF35 : Hid (Fr [] w3 w5) := (HFR.out.drewN q4).trans_same hf
          have TS2 := hide (same_any (ca := ca) (cb := cc) (HR.out.fr0 HF35.out).slz hr.slz (by have := HRL.out; omega) (by have := HRL.out; omega))
          have hd : decide (r' = r') = true := by simp
          rw [hd] at TS2
          clear hs hr hf TC TS1 hd
          go_wp2_with fail
          refine TS2.out.mono ?_
          rintro e w6 ⟨rfl, q6, rfl⟩
          have HF36 : Hid (Fr [] w3 (w5.drewN q6)) := HF35.out.drewN q6
          clear TS2
          have hrl3 : r'.length ≤ 600 := HRL.out
          obtain ⟨w6, hw6⟩ : ∃ w6, w5.drewN q6 = w6 := ⟨_, rfl⟩
          rw [hw6] at HF36
          go_wp2_with fail
          have HC2 : Hid (∀ k, k < n → ∀ w', Fr [] w3 w' → ∃ gl ol, Al = some ⟨gl, ol, none⟩ ∧ w'.cell? ⟨gl, ol + k * 2, none⟩ = some (.int .i64 (f k 0)) ∧ w'.cell? ⟨gl, ol + k * 2 + 1, none⟩ = some (.int .i64 (f k 1))) := fun k hk w' hf => by
            obtain ⟨gl, ol, e1, e2, e3⟩ := HREC3.out (by omega)
            have e5 := candL_get f hk
            have h0 := e3 k hk 0 (by decide)
            have h1 := e3 k hk 1 (by decide)
            simp only [e5, if_true, Nat.one_ne_zero, if_false] at h0 h1
            exact ⟨gl, ol, e1, (hf.cell (p := ⟨gl, ol + k * 2, none⟩) e2 (by simp)).trans (by simpa using h0), (hf.cell (p := ⟨gl, ol + k * 2 + 1, none⟩) e2 (by simp)).trans (by simpa [Nat.add_assoc] using h1)⟩
          have HLy6 : Hid (Lr w6 3 A1 Y.length c1 G1 (zv Y)) := HLy3.out.fr0 HF36.out
          have HR6 : Hid (Lr w6 3 Aa r'.length ca Ga (zv r')) := HR.out.fr0 HF36.out
          clear hw6
          go_loopw [12] (fun x wr => ∃ k q : Nat, x = .int .i64 k ∧ k ≤ n ∧ wr = w6.drewN q) (fun x _ => n - (intOf x).toNat)
          case atStart => exact ⟨0, 0, rfl, Nat.zero_le _, rfl⟩
          case round =>
            obtain ⟨k, q, rfl, hk, rfl⟩ := hrel
            by_cases hlt : k < n
            · have hlt1 : (k : Int) < (n : Int) := by omega
              obtain ⟨gl, ol, rfl, k0, k1⟩ := HC2.out k hlt w6 HF36.out
              obtain ⟨bb, off, rfl, hbb, hc⟩ := H.out (by omega)
              have HFw : Hid (Fr [] W w6) := HFa.out.trans_same HF36.out
              have k2 : w6.cell? ⟨bb, off + k * 2, none⟩ = some (.int .i64 (f k 0)) := (HFw.out.cell (p := ⟨bb, off + k * 2, none⟩) hbb (by simp)).trans (by simpa using hc k hlt 0 (by omega))
              have k3 : w6.cell? ⟨bb, off + k * 2 + 1, none⟩ = some (.int .i64 (f k 1)) := (HFw.out.cell (p := ⟨bb, off + k * 2 + 1, none⟩) hbb (by simp)).trans (by simpa [Nat.add_assoc] using hc k hlt 1 (by omega))
              clear hc
              generalize f k 0 = x at *
              generalize f k 1 = y at *
              go_wp2_with fail
              go_quiet (fail)
              go_wp2
              go_roundw
              case rel => exact ⟨k + 1, q + nq, by go_num, by omega, rfl⟩
              case measure => simp [intOf]; omega
            · obtain rfl : k = n := by omega
              clear hlt hk
              have HF37 : Hid (Fr [] w3 (w6.drewN q)) := HF36.out.drewN q
              have HLy7 : Hid (Lr (w6.drewN q) 3 A1 Y.length c1 G1 (zv Y)) := HLy6.out.drewN q
              have HR7 : Hid (Lr (w6.drewN q) 3 Aa r'.length ca Ga (zv r')) := HR6.out.drewN q
              have HSZW := hide HFw2.out.size
              obtain ⟨w7, hw7⟩ : ∃ w7, w6.drewN q = w7 := ⟨_, rfl⟩
              rw [hw7] at HF37 HLy7 HR7
              go_wp2_with fail
              clear hw7
              go_loopw [13] (fun x wr => ∃ (i : Nat) (l' : List Int), x = .int .i64 i ∧ i ≤ r'.length ∧ Lr wr 3 Aa r'.length ca Ga (zv l') ∧ Fr Ga w7 wr) (fun x _ => r'.length - (intOf x).toNat)
              case atStart => exact ⟨0, r', rfl, Nat.zero_le _, HR7.out, Fr.refl _ _⟩
              case round =>
                obtain ⟨i, l', rfl, hir, hlr, hfg⟩ := hrel
                have HLR := hide hlr
                have HFG := hide hfg
                clear hlr hfg
                by_cases hit : i < r'.length
                · have hit1 : (i : Int) < (r'.length : Int) := by omega
                  obtain ⟨ga, oa, rfl, hGa2, _, hca, hfz, -⟩ := HLR.out.pos (by omega)
                  have hl' : l'.length = r'.length := by have := HLR.out.len; rwa [zv_len] at this
                  have a0 : wr.cell? ⟨ga, oa + i, none⟩ = some (.int .i64 (l'.getD i 0)) := by rw [hca i hit, zv_get _ (by omega)]
                  have f0 := hfz (oa + i)
                  have HGG := hide hGa2
                  have HLP : Hid (Lr (wr.setCell ⟨ga, oa + i, none⟩ (.int .i64 (-1))) 3 (some ⟨ga, oa, none⟩) r'.length ca Ga (zv (l'.set i (-1)))) := by
                    have := HLR.out.put (k := i) hit (.int .i64 (-1))
                    have e : (zv l').set i (.int .i64 (-1)) = zv (l'.set i (-1)) := by simp [zv, List.map_set]
                    rwa [e] at this
                  clear hca hfz hGa2 hl'
                  generalize l'.getD i 0 = x at *
                  go_wp2_with fail
                  go_roundw
                  case rel => exact ⟨i + 1, _, by go_num, by omega, HLP.out, HFG.out.setCell (.inl (by rw [HGG.out]; simp)) _⟩
                  case measure => simp [intOf]; omega
                · obtain rfl : i = r'.length := by omega
                  have HLy8 : Hid (Lr wr 3 A1 Y.length c1 G1 (zv Y)) := HLy7.out.fr HFG.out (fun g hg hm => by have h1 := HGa.out g hm; have h2 := HGY.out g hg; omega)
                  have HFW8 : Hid (Fr [] W wr) := (HFa.out.trans_same HF37.out).trans HFG.out (fun g hg => .inr (Nat.le_trans HSZW.out (HGa.out g hg)))
                  have TS3 := hide (same_any (ca := c1) (cb := c0) HLy8.out.slz (HY.out.fr HFW8.out (fun _ hx => by cases hx)) (by omega) (by omega))
                  have hd : decide (Y = Y) = true := by simp
                  rw [hd] at TS3
                  clear hit hir hd
                  go_wp2_with fail
                  refine TS3.out.mono ?_
                  rintro e w9 ⟨rfl, q9, rfl⟩
                  go_wp2_with fail
                  go_ret
                  exact ⟨rfl, (HFW8.out.drewN q9).below_nil⟩
        · obtain ⟨m, rfl⟩ : ∃ m, j = m + 1 := ⟨j - 1, by omega⟩
          obtain rfl : T = (m : Int) := by omega
          have hm1 : (m : Int) < (n : Int) := by omega
          obtain ⟨bb, off, rfl, hbb, hc⟩ := H.out (by omega)
          have HFw : Hid (Fr [] W wr) := HFa.out.trans_same HFR.out
          have k0 : wr.cell? ⟨bb, off + m * 2, none⟩ = some (.int .i64 (f m 0)) := (HFw.out.cell (p := ⟨bb, off + m * 2, none⟩) hbb (by simp)).trans (by simpa using hc m (by omega) 0 (by omega))
          have k1 : wr.cell? ⟨bb, off + m * 2 + 1, none⟩ = some (.int .i64 (f m 1)) := (HFw.out.cell (p := ⟨bb, off + m * 2 + 1, none⟩) hbb (by simp)).trans (by simpa [Nat.add_assoc] using hc m (by omega) 1 (by omega))
          have HST : Hid (((candL n f).drop m).reverse = ((candL n f).drop (m + 1)).reverse ++ [(f m 0, f m 1)]) := by
            have hml : m < (candL n f).length := by rw [HLL.out]; omega
            show _ = _
            rw [List.drop_eq_getElem_cons hml, List.reverse_cons]
            simp [candL]
          have HB1 := hide (show n - (m + 1) + 1 ≤ maxLen ∧ (n - (m + 1) + 1) * 16 ≤ 140737488355328 by unfold maxLen; exact ⟨by omega, by omega⟩)
          have HNM1 := hide (show n - m = n - (m + 1) + 1 by omega)
          clear hc hT
          generalize hsx : ((candL n f).drop (m + 1)).reverse = S at *
          generalize hsn : n - (m + 1) = nm at *
          have HSX := hide hsx
          have HSN := hide hsn
          clear hsx hsn
          generalize f m 0 = x at *
          generalize f m 1 = y at *
          go_wp2_with (first
              | (at_builtin; go_loud (refine wpList_append_rows rfl _ _ 23 rfl w3.heap.size 33 i0 (.agg #[.int .i64 0, .int .i64 0]) 2 16 Try.underlying23 hi hz0 hz1 hz2 rfl (by decide) _ nm (pv S) rfl (own_fr HRW.out ((Fr.refl [] wr).alloc _) (fun _ _ => by simp)) rfl (news := [.int .i64 x, .int .i64 y]) rfl (fun _ => ⟨_, rfl, two_in (Blk.new wr 33 _)⟩) (by intro u hu; simp at hu; rcases hu with rfl | rfl <;> rfl) HB1.out.1 HB1.out.2 (by have h4 := HFR.out.size; simp; omega) ?_; intro v' w' HLn HFn HGn)))
          go_roundw
          case rel =>
            refine ⟨m, _, v', rfl, by go_num, by omega, rfl, ?_, ?_⟩
            · rw [HNM1.out, HST.out, pv_app]
              exact HLn.out
            · refine (HFR.out.alloc _).grown HFn.out fun g hg => .inr ?_
              rcases HRW.out.2 with ⟨h1, _⟩ | ⟨g', cap, cur, h1, h2, _⟩
              · rw [h1] at hg; cases hg
              · rw [h1] at hg; injection hg with hg; subst hg; exact h2
          case measure => simp [intOf]

theorem holds {H : Type} {enc : TypeId × Value → H} {W : World} {base : Nat} {args : Array Value} {ds : List (DataW H)} {p : List MemPlace}
    (hval : ∀ (j : Nat) t v, Try.f5.params[j]? = some t → args[j]? = some v → Value.okWide Try.prog W .any base t v)
    (hA : DataW.TrodAll enc Try.prog W 0 (fun _ => true) true Try.f5.params.toList args.toList ds p) : Holds Try.prog 5 args W := by
  rw [Try.params5] at hA hval
  obtain ⟨v0, vs0, d0, ds0, p0, q0, hargs, rfl, rfl, h0, r0⟩ := trodAll_cons hA
  obtain ⟨v1, vs1, d1, ds1, p1, q1, rfl, rfl, rfl, h1, r1⟩ := trodAll_cons r0
  obtain ⟨v2, vs2, d2, ds2, p2, q2, rfl, rfl, rfl, h2, r2⟩ := trodAll_cons r1
  obtain ⟨rfl, rfl, rfl⟩ := trodAll_nil r2
  obtain rfl : args = #[v0, v1, v2] := by cases args; simp_all
  obtain ⟨A, na, ca, zs, rfl, hna, hA2, hw⟩ := open_sl Try.underlying22 Try.underlying3 (by kernel_rfl) (hval 0 22 v0 rfl rfl) h0
  obtain ⟨B, n, c, f, rfl, hn, hR, hwf⟩ := open_recs (ks := fun _ => .i64) Try.underlying23 Try.underlying33 (by kernel_rfl) (by kernel_rfl) (by decide)
    (fun j f hj => by
      match j, hj with
      | 0, hj => cases hj; exact Try.underlying3
      | 1, hj => cases hj; exact Try.underlying3) (hval 1 23 v1 rfl rfl) h1
  obtain ⟨z, rfl, rfl, rfl, hz⟩ := open_int Try.underlying3 (hval 2 3 v2 rfl rfl) h2
  have e : ((List.range na).map fun j => zs.getD j 0).length = na := by simp
  have := walk W A ca ((List.range na).map fun j => zs.getD j 0) (by
    rw [e]
    intro h
    obtain ⟨b2, o2, q1, q2, q3⟩ := hA2 h
    exact ⟨b2, o2, q1, q2, fun k hk => by rw [q3 k hk]; simp [hk]⟩) B n c f hR z (int_bounds hz) (fun i hi => (int_bounds (hwf i 1 hi (by decide))).2) (by rw [e]; exact hna) hn
  rwa [e] at this
theorem readable : ∀ t, t ∈ Try.f5.params.toList → Try.prog.readableRec t = true ∧ t < Try.prog.types.size := by
  intro t ht
  rw [Try.params5] at ht
  have hm : t = 22 ∨ t = 23 ∨ t = 3 := by simp at ht; omega
  rcases hm with rfl | rfl | rfl
  all_goals exact ⟨by kernel_rfl, of_decide_eq_true (by kernel_rfl)⟩
theorem laid_met (os : Os) : laidMet Try.prog Rows.csetKeepsRow.laid ((laidWorld os).forCall (fun _ _ => 0) ⟨#[], #[.slice none 0 0, .slice none 0 0, .int .i64 0], []⟩).memory :=
  ⟨[], rfl, List.nodup_nil, fun _ _ h => by cases h⟩
theorem reads (os : Os) {H : Type} (enc : TypeId × Value → H) : ∃ places, DataW.whole enc Try.prog ((laidWorld os).forCall (fun _ _ => 0) ⟨#[], #[.slice none 0 0, .slice none 0 0, .int .i64 0], []⟩).memory Try.f5.params.toList Rows.csetKeepsSpec.vars false (#[.slice none 0 0, .slice none 0 0, .int .i64 0] : Array Value).toList 8 = some ([.nil, .nil, .lit (.int .i64 0)], [], places) :=
  ⟨[], by kernel_rfl⟩
theorem spec {H : Type} : ∀ ds : List (DataW H), ds.length = Try.f5.params.toList.length → Rows.csetKeepsSpec.fn H (ds ++ []) = { results := [.lit (.bool true)], args := ds, vars := [] } := by
  intro ds h
  rw [Try.params5] at h
  simp only [List.append_nil]
  match ds, h with
  | [_, _, _], _ => rfl

set_option maxRecDepth 100000 in
theorem lifted (os : Os) (started : os.Started) (H : Type) (enc : TypeId × Value → H) (F : Stop.Interp) :
    ReturnsInHanded {} Try.checked os 5 .any ((OpenSpec.ofChange Rows.csetKeepsSpec).preRow enc Try.prog Try.f5 Rows.csetKeepsRow.domain false Rows.csetKeepsRow.laid) (((OpenSpec.ofChange Rows.csetKeepsSpec).at F).post enc Try.prog Try.f5 false true false false) := by
  obtain ⟨places, hx⟩ := reads os enc
  refine returnsInHanded_of_row (C := Try.checked) (s := OpenSpec.ofChange Rows.csetKeepsSpec) own started (by kernel_rfl) Try.func5
    (witness_row_at (enc := enc) (C := Try.checked) false (laidWorld os) #[.slice none 0 0, .slice none 0 0, .int .i64 0] rfl (by kernel_rfl) (by kernel_rfl) (by kernel_rfl)
      (OpenSpec.preRow_of_cond 8 hx (by kernel_rfl) (fun k hk => by cases hk) (by kernel_rfl) (laid_met os))) ?_
  intro W base args ds gs before hval hW _ _ _ hL _ _
  have hW' : DataW.Whole enc Try.prog Try.f5.params.toList Rows.csetKeepsSpec.vars false W args.toList ds gs before := hW
  exact law_close (s := Rows.csetKeepsSpec) rfl rfl Try.underlying4 spec laidOut readable hW' (by
    obtain ⟨p, q, hA, _⟩ := hW'
    exact holds hval hA)

theorem said : Rows.CsetKeepsSaid :=
  OpenClaim.holds_of_cond 5 Try.f5 rfl rfl rfl rfl rfl rfl rfl ⟨rfl, rfl, rfl, rfl, rfl⟩ rfl rfl rfl rfl rfl (by kernel_rfl) Try.func5 (by kernel_rfl)
    (of_decide_eq_true (by kernel_rfl)) (by unfold Func.isWrapper; first | (rw [if_pos (by decide +kernel)]; kernel_rfl) | (rw [if_neg (by decide +kernel)]; exact ⟨rfl, rfl⟩))
    (fun os started H enc _ F => by rw [OpenClaim.pre_eq_preRow]; exact lifted os started H enc F)
end Go.Proofs.Yteggdpcfeljphaa.CsetKeeps
