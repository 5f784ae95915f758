/- CsetBudget: what is taken lies within the budget, is cheaper than what isn't, and more of it would be too much, whatever comes in. Conditions: none but the row's own. -/
import Derived.Test.YteggdpcfeljphaaKi
import Derived.Test.YteggdpcfeljphaaCard0
namespace Go.Proofs.Yteggdpcfeljphaa.CsetBudget
set_option linter.unusedVariables false
open Go.RowKit Go.Gl Go.ChangeShapes Go.WideShapes Go.ChangeAt Go.Deep

def cf (F : Nat → Int) : Nat → Nat → Int := fun i j => if j = 0 then (i : Int) else F i
theorem cf_list (n : Nat) (F : Nat → Int) : candL n (cf F) = candN n F := by
  unfold candL candN cf
  simp
set_option maxRecDepth 100000 in
set_option maxHeartbeats 3200000 in
theorem walk (W : World) (A : Option Addr) (n c : Nat) (F : Nat → Int) (hA : Sl W A n (fun k => .int .u16 (F k))) (hF : ∀ i, 0 ≤ F i ∧ F i ≤ 65535) (b0 : Int) (hn : n ≤ maxLen) : Holds Try.prog 4 #[.slice A n c, .int .i64 b0] W := by
  obtain ⟨i0, hi, hz0, hz1, hz2⟩ := info_parts Try.info_cand
  obtain ⟨j0, hj, hjz, hj1, hj2⟩ := info_parts Try.info_bool
  have HA := hide hA
  have HF := hide hF
  clear hA hF
  unfold Holds
  go_enter Try.func4, Try.ntmps4
  go_wp2_with fail
  refine (awake18_any _).mono ?_
  rintro e w0 ⟨rfl, hf0⟩
  have HF0 := hide hf0
  clear hf0
  by_cases hy : 300 < n
  · have hy1 : (300 : Int) < (n : Int) := by omega
    go_wp2_with fail
    go_ret
    exact ⟨rfl, HF0.out.below_nil⟩
  · have hy1 : ¬ (300 : Int) < (n : Int) := by omega
    obtain ⟨b, hb⟩ : ∃ b, b0.tmod 1000000 = b := ⟨_, rfl⟩
    have HB : Hid (-1000000 < b ∧ b < 1000000) := by rw [← hb]; exact ⟨Int.lt_tmod_of_pos b0 (by decide), Int.tmod_lt_of_pos _ (by decide)⟩
    have hn3 : n ≤ 300 := by omega
    go_wp2_with fail
    go_loopw [6, 5] (fun (x : Value) (y : Value) wr => ∃ (k : Nat) (v : Value), x = .int .i64 k ∧ k ≤ n ∧ y = v ∧ wr.ownsRow W.heap.size 33 2 v k (pv (candL k (cf F))) ∧ Fr [] W wr) (fun x _ _ => n - (intOf x).toNat)
    case atStart => exact ⟨0, _, rfl, Nat.zero_le _, rfl, Rw.none _ _ _, HF0.out⟩
    case round =>
      obtain ⟨k, v, rfl, hk, rfl, hrw, hf⟩ := hrel
      have HRW := hide hrw
      have HFr := hide hf
      have HSZ : Hid (W.heap.size ≤ wr.heap.size) := hf.size
      clear hrw hf
      by_cases hlt : k < n
      · have hlt1 : (k : Int) < (n : Int) := by omega
        obtain ⟨bb, off, rfl, hbb, hc⟩ := HA.out (by omega)
        have c0 : wr.cell? ⟨bb, off + k, none⟩ = some (.int .u16 (F k)) := (HFr.out.cell (p := ⟨bb, off + k, none⟩) hbb (by simp)).trans (hc k hlt)
        have HST : Hid (pv (candL (k + 1) (cf F)) = pv (candL k (cf F)) ++ [.int .i64 (k : Int), .int .i64 (F k)]) := by
          show _ = _
          rw [candL_succ, pv_app]; rfl
        have HB1 := hide (show k + 1 ≤ maxLen ∧ (k + 1) * 16 ≤ 140737488355328 by unfold maxLen; exact ⟨by omega, by omega⟩)
        obtain ⟨hx0, hx1⟩ := HF.out k
        clear hc
        generalize pv (candL k (cf F)) = S at *
        generalize hsy : pv (candL (k + 1) (cf F)) = S' at *
        have HSY := hide hsy
        clear hsy
        generalize F k = x at *
        have hwr1 : IntKind.i64.wrap x = x := by simp [IntKind.wrap, IntKind.bits, IntKind.signed]; omega
        go_wp2_with (first
            | (at_builtin; go_loud (refine wpList_append_rows rfl _ _ 23 rfl W.heap.size 33 i0 (.agg #[.int .i64 0, .int .i64 0]) 2 16 Try.underlying23 hi hz0 hz1 hz2 rfl (by decide) _ k S rfl (own_fr HRW.out ((Fr.refl [] wr).alloc _) (fun _ _ => by simp)) rfl (news := [.int .i64 (k : Int), .int .i64 x]) rfl (fun _ => ⟨_, rfl, two_in (Blk.new wr 33 _)⟩) (by intro u hu; simp at hu; rcases hu with rfl | rfl <;> rfl) HB1.out.1 HB1.out.2 (by have h4 := HSZ.out; simp; omega) ?_; intro v' w' HLn HFn HGn)))
        go_roundw
        case rel =>
          refine ⟨k + 1, v', by go_num, by omega, rfl, ?_, ?_⟩
          · rw [HSY.out, HST.out]
            exact HLn.out
          · refine (HFr.out.alloc _).grown HFn.out fun g hg => .inr ?_
            rcases HRW.out.2 with ⟨h1, _⟩ | ⟨g', cap, cur, h1, h2, _⟩
            · rw [h1] at hg; cases hg
            · rw [h1] at hg; injection hg with hg; subst hg; exact h2
        case measure => simp [intOf]; omega
      · obtain rfl : k = n := by omega
        have hrw : Rw wr W.heap.size 33 u5 (candL k (cf F)) := by unfold Rw; rw [candL_len]; exact HRW.out
        obtain ⟨Al, cl, rfl, hcl, hrec, _⟩ := hrw.recs
        rw [candL_len] at hrec hcl
        rw [candL_len]
        have T1 := hide (choose_any (w := wr) (A0 := none) (c0 := 0) (Y := []) (fun h => absurd h (by decide)) (by decide) (c := cl) hrec (by omega) b (by have := HB.out; omega) (fun i hi => by
          have := (HF.out i).2
          rw [candL_get _ hi]
          simp [cf]; omega))
        have e : candL k (fun i j => if j = 0 then ((candL k (cf F)).getD i (0, 0)).1 else ((candL k (cf F)).getD i (0, 0)).2) = candN k F := by
          have := candL_of (candL k (cf F))
          rw [candL_len] at this
          rw [this, cf_list]
        rw [e] at T1
        have HREC : Hid (∀ w', Fr [] wr w' → ∀ i, i < k → ∃ g o, Al = some ⟨g, o, none⟩ ∧ w'.cell? ⟨g, o + i * 2 + 1, none⟩ = some (.int .i64 (F i))) := fun w' hf i hi => by
          obtain ⟨g, o, e1, e2, e3⟩ := hrec (by omega)
          refine ⟨g, o, e1, (hf.cell (p := ⟨g, o + i * 2 + 1, none⟩) e2 (by simp)).trans ?_⟩
          have e5 : ((candL k (cf F)).getD i (0, 0)).2 = F i := by rw [candL_get _ hi]; rfl
          have e4 := e3 i hi 1 (by decide)
          simp only [Nat.one_ne_zero, if_false, e5] at e4
          rw [Nat.add_assoc]; exact e4
        clear hrw hrec hcl e HRW hlt hk
        generalize wr = wo at *
        go_wp2_with fail
        refine T1.out.mono ?_
        rintro e w1 ⟨A1, r, c1, G1, rfl, hs, hr, hf, hrl, hg⟩
        obtain ⟨p1, p2, p3, p4⟩ := budget_facts (fun i => (HF.out i).1) hs
        have HUP := hide hs.up
        have P1 := hide p1
        have P2 := hide p2
        have P3 := hide p3
        have P4 := hide p4
        have HR := hide hr
        have HO1 := hide hf
        have HRL : Hid (r.length ≤ 300) := by
          have h := hrl
          unfold candN at h
          simp at h
          show _ ≤ _
          omega
        clear hs hr hf hrl hg p1 p2 p3 p4 T1
        go_wp2_with (first | (at_make; go_loud (refine wpList_make_full _ rfl _ _ 38 rfl w1.heap.size 4 j0 (.bool false) 1 Try.underlying38 hj hjz hj1 _ _ _ _ k rfl rfl rfl rfl (by rw [hj2]; omega) (by unfold maxLen; omega) (Nat.le_refl _) ?_; intro w2 hown hgr)))
        have HD0 : Hid (Blk w2 w1.heap.size 4 (rowF k fun _ => .bool false)) := by
          have h := own_full hown
          rw [Nat.mul_one, made_one _ rfl] at h
          show Blk _ _ _ _
          rw [rowF_const]
          exact h
        have HO2 : Hid (Fr [] wo w2) := HO1.out.grown hgr fun k hk => by cases hk
        have HR2 : Hid (Lr w2 3 A1 r.length c1 G1 (zv r)) := HR.out.fr0 ((Fr.refl [] w1).grown hgr fun k hk => by cases hk)
        have HSZ1 : Hid (wo.heap.size ≤ w1.heap.size) := HO1.out.size
        clear hown hgr HR HO1
        generalize hdb : w1.heap.size = db at *
        clear hdb
        go_wp2_with fail
        go_loopw [11, 9, 10] (fun (x : Value) (y : Value) (z : Value) wr => ∃ (i : Nat) (D : Nat → Bool), x = .int .i64 i ∧ i ≤ r.length ∧ y = .int .i64 (sumF F r i) ∧ z = .int .i64 (mostF F r i) ∧ Blk wr db 4 (rowF k fun j => .bool (D j)) ∧ (∀ j : Nat, D j = decide ((j : Int) ∈ r.take i)) ∧ Fr [] wo wr ∧ Lr wr 3 A1 r.length c1 G1 (zv r)) (fun x _ _ _ => r.length - (intOf x).toNat)
        case atStart => exact ⟨0, fun _ => false, rfl, Nat.zero_le _, rfl, rfl, HD0.out, fun j => by simp, HO2.out, HR2.out⟩
        case round =>
          obtain ⟨i, D, rfl, hir, rfl, rfl, hbd, hD, hfo, hlr⟩ := hrel
          have HBD := hide hbd
          have HD := hide hD
          have HFO := hide hfo
          have HLR := hide hlr
          have hr3 : r.length ≤ 300 := HRL.out
          clear hbd hD hfo hlr HD0 HO2 HR2
          by_cases hit : i < r.length
          · have hit1 : (i : Int) < (r.length : Int) := by omega
            obtain ⟨xn, hxn, hxe⟩ := P1.out (r.getD i 0) (by simp [hit])
            obtain ⟨ga, oa, rfl, hGa, _, hca, _, _⟩ := HLR.out.pos (by omega)
            have hgd : ga ≠ db := fun e => HLR.out.apart HBD.out (by decide) (by rw [hGa]; simp [e])
            have hgd' : db ≠ ga := fun e => hgd e.symm
            have a0 : wr.cell? ⟨ga, oa + i, none⟩ = some (.int .i64 (xn : Int)) := by rw [hca i hit, zv_get _ hit, hxe]
            obtain ⟨gl, ol, rfl, l0⟩ := HREC.out wr HFO.out xn hxn
            have hld : gl ≠ db := fun e => by
              obtain ⟨g2, o2, e2, h2⟩ := HREC.out wo (Fr.refl _ _) xn hxn
              injection e2 with e2
              injection e2 with e2 _
              have := lt_of_cell h2
              have := HSZ1.out
              simp at *; omega
            have hld' : db ≠ gl := fun e => hld e.symm
            have hDx : D xn = false := by
              rw [HD.out, decide_eq_false_iff_not, ← hxe]
              intro hm
              obtain ⟨j, hj, e⟩ := List.getElem_of_mem hm
              rw [List.length_take] at hj
              have h2 := List.pairwise_iff_getElem.1 HUP.out j i (by omega) hit (by omega)
              simp [hit] at e
              omega
            have b0' : wr.cell? ⟨db, xn, none⟩ = some (.bool false) := by rw [HBD.out.cell, rowF_at hxn, hDx]
            have f0 := HBD.out.frozen xn
            have HNX : Hid (sumF F r (i + 1) = sumF F r i + F xn ∧ mostF F r (i + 1) = max (mostF F r i) (F xn)) := by
              refine ⟨?_, ?_⟩
              · rw [sumF_succ F hit, hxe]; rfl
              · rw [mostF_succ F hit, hxe]; rfl
            have HDN : Hid (∀ j : Nat, putF D xn true j = decide ((j : Int) ∈ r.take (i + 1))) := fun j => by
              have e : r.take (i + 1) = r.take i ++ [(xn : Int)] := by rw [← hxe, List.take_add_one]; simp [hit]
              rw [e]
              unfold putF
              by_cases hjx : j = xn
              · subst hjx; simp
              · rw [if_neg hjx, HD.out]
                simp [List.mem_append, show ¬ (j : Int) = (xn : Int) by omega]
            obtain ⟨s1, s2⟩ := sumF_bounds HF.out (r := r) i hir
            obtain ⟨m1, m2⟩ := mostF_bounds HF.out (r := r) i hir
            obtain ⟨t1, t2⟩ := HF.out xn
            have HBP : Hid (∀ wq, Fr [] wr wq → Blk (wq.setCell ⟨db, xn, none⟩ (.bool true)) db 4 (rowF k fun j => .bool (putF D xn true j))) := fun wq hf => by
              have := (HBD.out.fr hf (by simp)).put xn (.bool true)
              rw [rowF_set] at this
              have e : putF (fun j => Value.bool (D j)) xn (.bool true) = fun j => Value.bool (putF D xn true j) := by
                funext j; unfold putF; split <;> rfl
              rwa [e] at this
            have HLP : Hid (∀ wq, Fr [] wr wq → Lr (wq.setCell ⟨db, xn, none⟩ (.bool true)) 3 (some ⟨ga, oa, none⟩) r.length c1 G1 (zv r)) := fun wq hf =>
              (HLR.out.fr0 hf).fr (F := [db]) ((Fr.refl [db] wq).setCell (.inl (by simp)) _) (fun g hg hm => by rw [hGa] at hg; simp at hg hm; exact hgd (by omega))
            have HFP : Hid (∀ wq, Fr [] wr wq → Fr [] wo (wq.setCell ⟨db, xn, none⟩ (.bool true))) := fun wq hf => (HFO.out.trans_same hf).setCell (.inr HSZ1.out) _
            have hx1 : (xn : Int) < (k : Int) := by omega
            have hx0 : decide ((xn : Int) < 0) = false := by simp
            have hx2 : decide ((xn : Int) ≥ (k : Int)) = false := by simp; omega
            have hx4 : decide (k ≤ xn) = false := by simp; omega
            have hx3 : decide ((k : Int) ≤ (xn : Int)) = false := by simp; omega
            have HPREV : Hid (∀ m, i = m + 1 → wr.cell? ⟨ga, oa + m, none⟩ = some (.int .i64 (r.getD m 0)) ∧ r.getD m 0 < (xn : Int)) := fun m hm => by
              subst hm
              refine ⟨by rw [hca m (by omega), zv_get _ (by omega)], ?_⟩
              rw [← hxe]
              have h2 := List.pairwise_iff_getElem.1 HUP.out m (m + 1) (by omega) hit (by omega)
              have hm3 : m < r.length := by omega
              simpa [hit, hm3] using h2
            have hs3 : sumF F r i ≤ 65535 * 300 := by omega
            clear hca hDx hxe HBD HD HLR
            generalize sumF F r i = S at *
            generalize mostF F r i = M at *
            generalize F xn = lx at *
            rcases Nat.eq_zero_or_pos i with h0 | h0
            · subst h0
              have a00 : wr.cell? ⟨ga, oa, none⟩ = some (.int .i64 (xn : Int)) := by simpa using a0
              have hz : decide ((0 : Int) > 0) = false := by decide
              go_wp2_with fail
              go_quiet (fail)
              go_wp2
              go_roundw
              case rel => exact ⟨0 + 1, putF D xn true, by go_num, by omega, by rw [HNX.out.1], by rw [HNX.out.2], HBP.out _ ((Fr.refl _ _).drewN _), HDN.out, HFP.out _ ((Fr.refl _ _).drewN _), HLP.out _ ((Fr.refl _ _).drewN _)⟩
              case measure => simp [intOf]; omega
            · obtain ⟨m, rfl⟩ : ∃ m, i = m + 1 := ⟨i - 1, by omega⟩
              obtain ⟨a1, hlt2⟩ := HPREV.out m rfl
              generalize r.getD m 0 = y at *
              have hz : decide (((m + 1 : Nat) : Int) > 0) = true := by simp
              have hz2 : decide ((m : Int) + 1 > 0) = true := by simp
              have hm5 : ((m + 1 : Nat) : Int) - 1 = (m : Int) := by omega
              have hm6 : IntKind.i64.wrap (m : Int) = (m : Int) := by simp [IntKind.wrap, IntKind.bits, IntKind.signed]; omega
              have hm7 : (m : Int) + 1 - 1 = (m : Int) := by omega
              have hxy : decide ((xn : Int) ≤ y) = false := by simp; omega
              have hm4 : (m : Int) < (r.length : Int) := by omega
              go_wp2_with fail
              go_quiet (fail)
              go_wp2
              go_roundw
              case rel => exact ⟨m + 1 + 1, putF D xn true, by go_num, by omega, by rw [HNX.out.1], by rw [HNX.out.2], HBP.out _ ((Fr.refl _ _).drewN _), HDN.out, HFP.out _ ((Fr.refl _ _).drewN _), HLP.out _ ((Fr.refl _ _).drewN _)⟩
              case measure => simp [intOf]; omega
          · obtain rfl : i = r.length := by omega
            have HDR : Hid (∀ j : Nat, D j = decide ((j : Int) ∈ r)) := fun j => by rw [HD.out, List.take_length]
            have HSM := hide (sumF_all F r)
            obtain ⟨s1, s2⟩ := sumF_bounds HF.out (r := r) r.length (Nat.le_refl _)
            obtain ⟨m1, m2⟩ := mostF_bounds HF.out (r := r) r.length (Nat.le_refl _)
            have HMO : Hid (∀ j : Nat, j < k → D j = false → mostF F r r.length ≤ F j ∧ b < sumF F r r.length + F j) := fun j hj hd => by
              rw [HDR.out, decide_eq_false_iff_not] at hd
              exact ⟨mostF_le (by have := (HF.out j).1; omega) _ (Nat.le_refl _) (P4.out j hj hd), by rw [HSM.out]; exact P3.out j hj hd⟩
            have HSB : Hid (0 < r.length → sumF F r r.length ≤ b) := fun h => by
              rw [HSM.out]
              exact P2.out (fun e => by rw [e] at h; simp at h)
            have hs3 : sumF F r r.length ≤ 65535 * 300 := by omega
            have hb3 := HB.out
            obtain ⟨hb4, hb5⟩ := hb3
            clear hit hir HD
            generalize sumF F r r.length = S at *
            generalize mostF F r r.length = M at *
            generalize r.length = rl at *
            have hcase : (rl > 0 ∧ ¬ (b < S)) ∨ rl = 0 := by
              rcases Nat.eq_zero_or_pos rl with h0 | h0
              · exact .inr h0
              · exact .inl ⟨h0, by have := HSB.out h0; omega⟩
            have HRLP := hide HLR.out
            have HFW : Hid (Fr [] W wr) := HFr.out.trans_same HFO.out
            generalize wr = wp at *
            rcases hcase with ⟨h1, h2⟩ | h1
            · have h3 : (0 : Int) < (rl : Int) := by omega
              go_wp2_with fail
              go_loopw [12] (fun x wq => ∃ i q : Nat, x = .int .i64 i ∧ i ≤ k ∧ wq = wp.drewN q) (fun x _ => k - (intOf x).toNat)
              case atStart => exact ⟨0, 0, rfl, Nat.zero_le _, rfl⟩
              case round =>
                obtain ⟨i, q, rfl, hik, rfl⟩ := hrel
                by_cases hit : i < k
                · have hit1 : (i : Int) < (k : Int) := by omega
                  obtain ⟨gl, ol, rfl, l0⟩ := HREC.out wp HFO.out i hit
                  have b0' : wp.cell? ⟨db, i, none⟩ = some (.bool (D i)) := by rw [HBD.out.cell, rowF_at hit]
                  rcases (show D i = true ∨ D i = false by cases D i <;> simp) with hd | hd
                  · rw [hd] at b0'
                    clear hd
                    go_wp2_with fail
                    go_roundw
                    case rel => exact ⟨i + 1, q, by go_num, by omega, rfl⟩
                    case measure => simp [intOf]; omega
                  · obtain ⟨q1, q2⟩ := HMO.out i hit hd
                    obtain ⟨t1, t2⟩ := HF.out i
                    rw [hd] at b0'
                    generalize F i = lx at *
                    have q3 : ¬ lx < M := by omega
                    have q4 : ¬ (S + lx ≤ b) := by omega
                    clear hd
                    go_wp2_with fail
                    go_roundw
                    case rel => exact ⟨i + 1, q, by go_num, by omega, rfl⟩
                    case measure => simp [intOf]; omega
                · obtain rfl : i = k := by omega
                  clear hit hik
                  go_wp2_with fail
                  go_ret
                  exact ⟨rfl, (HFW.out.drewN _).below_nil⟩
            · subst h1
              go_wp2_with fail
              go_loopw [12] (fun x wq => ∃ i q : Nat, x = .int .i64 i ∧ i ≤ k ∧ wq = wp.drewN q) (fun x _ => k - (intOf x).toNat)
              case atStart => exact ⟨0, 0, rfl, Nat.zero_le _, rfl⟩
              case round =>
                obtain ⟨i, q, rfl, hik, rfl⟩ := hrel
                by_cases hit : i < k
                · have hit1 : (i : Int) < (k : Int) := by omega
                  obtain ⟨gl, ol, rfl, l0⟩ := HREC.out wp HFO.out i hit
                  have b0' : wp.cell? ⟨db, i, none⟩ = some (.bool (D i)) := by rw [HBD.out.cell, rowF_at hit]
                  rcases (show D i = true ∨ D i = false by cases D i <;> simp) with hd | hd
                  · rw [hd] at b0'
                    clear hd
                    go_wp2_with fail
                    go_roundw
                    case rel => exact ⟨i + 1, q, by go_num, by omega, rfl⟩
                    case measure => simp [intOf]; omega
                  · obtain ⟨q1, q2⟩ := HMO.out i hit hd
                    obtain ⟨t1, t2⟩ := HF.out i
                    rw [hd] at b0'
                    generalize F i = lx at *
                    have q3 : ¬ lx < M := by omega
                    have q4 : ¬ (S + lx ≤ b) := by omega
                    clear hd
                    go_wp2_with fail
                    go_roundw
                    case rel => exact ⟨i + 1, q, by go_num, by omega, rfl⟩
                    case measure => simp [intOf]; omega
                · obtain rfl : i = k := by omega
                  clear hit hik
                  go_wp2_with fail
                  go_ret
                  exact ⟨rfl, (HFW.out.drewN _).below_nil⟩

theorem holds {H : Type} {enc : TypeId × Value → H} {W : World} {base : Nat} {args : Array Value} {ds : List (DataW H)} {p : List MemPlace}
    (hval : ∀ (j : Nat) t v, Try.f4.params[j]? = some t → args[j]? = some v → Value.okWide Try.prog W .any base t v)
    (hA : DataW.TrodAll enc Try.prog W 0 (fun _ => true) true Try.f4.params.toList args.toList ds p) : Holds Try.prog 4 args W := by
  rw [Try.params4] at hA hval
  obtain ⟨v0, vs0, d0, ds0, p0, q0, hargs, rfl, rfl, h0, r0⟩ := trodAll_cons hA
  obtain ⟨v1, vs1, d1, ds1, p1, q1, rfl, rfl, rfl, h1, r1⟩ := trodAll_cons r0
  obtain ⟨rfl, rfl, rfl⟩ := trodAll_nil r1
  obtain rfl : args = #[v0, v1] := by cases args; simp_all
  obtain ⟨A, na, ca, zs, rfl, hna, hA2, hw⟩ := open_sl Try.underlying36 Try.underlying37 (by kernel_rfl) (hval 0 36 v0 rfl rfl) h0
  obtain ⟨z, rfl, rfl, rfl, hz⟩ := open_int Try.underlying3 (hval 1 3 v1 rfl rfl) h1
  refine walk W A na ca (fun k => zs.getD k 0) hA2 (fun k => ?_) z hna
  by_cases hk : k < zs.length
  · have := hw (zs.getD k 0) (by simp [hk])
    have hb : 0 ≤ zs.getD k 0 ∧ zs.getD k 0 ≤ 65535 := by simpa [Lit.wf, IntKind.min, IntKind.max, IntKind.signed, IntKind.bits] using this
    exact hb
  · simp [hk]
theorem readable : ∀ t, t ∈ Try.f4.params.toList → Try.prog.readableRec t = true ∧ t < Try.prog.types.size := by
  intro t ht
  rw [Try.params4] at ht
  have hm : t = 36 ∨ t = 3 := by simp at ht; omega
  rcases hm with rfl | rfl
  all_goals exact ⟨by kernel_rfl, of_decide_eq_true (by kernel_rfl)⟩
theorem laid_met (os : Os) : laidMet Try.prog Rows.csetBudgetRow.laid ((laidWorld os).forCall (fun _ _ => 0) ⟨#[], #[.slice none 0 0, .int .i64 0], []⟩).memory :=
  ⟨[], rfl, List.nodup_nil, fun _ _ h => by cases h⟩
theorem reads (os : Os) {H : Type} (enc : TypeId × Value → H) : ∃ places, DataW.whole enc Try.prog ((laidWorld os).forCall (fun _ _ => 0) ⟨#[], #[.slice none 0 0, .int .i64 0], []⟩).memory Try.f4.params.toList Rows.csetBudgetSpec.vars false (#[.slice none 0 0, .int .i64 0] : Array Value).toList 8 = some ([.nil, .lit (.int .i64 0)], [], places) :=
  ⟨[], by kernel_rfl⟩
theorem spec {H : Type} : ∀ ds : List (DataW H), ds.length = Try.f4.params.toList.length → Rows.csetBudgetSpec.fn H (ds ++ []) = { results := [.lit (.bool true)], args := ds, vars := [] } := by
  intro ds h
  rw [Try.params4] at h
  simp only [List.append_nil]
  match ds, h with
  | [_, _], _ => rfl

set_option maxRecDepth 100000 in
theorem lifted (os : Os) (started : os.Started) (H : Type) (enc : TypeId × Value → H) (F : Stop.Interp) :
    ReturnsInHanded {} Try.checked os 4 .any ((OpenSpec.ofChange Rows.csetBudgetSpec).preRow enc Try.prog Try.f4 Rows.csetBudgetRow.domain false Rows.csetBudgetRow.laid) (((OpenSpec.ofChange Rows.csetBudgetSpec).at F).post enc Try.prog Try.f4 false true false false) := by
  obtain ⟨places, hx⟩ := reads os enc
  refine returnsInHanded_of_row (C := Try.checked) (s := OpenSpec.ofChange Rows.csetBudgetSpec) own started (by kernel_rfl) Try.func4
    (witness_row_at (enc := enc) (C := Try.checked) false (laidWorld os) #[.slice none 0 0, .int .i64 0] rfl (by kernel_rfl) (by kernel_rfl) (by kernel_rfl)
      (OpenSpec.preRow_of_cond 8 hx (by kernel_rfl) (fun k hk => by cases hk) (by kernel_rfl) (laid_met os))) ?_
  intro W base args ds gs before hval hW _ _ _ hL _ _
  have hW' : DataW.Whole enc Try.prog Try.f4.params.toList Rows.csetBudgetSpec.vars false W args.toList ds gs before := hW
  exact law_close (s := Rows.csetBudgetSpec) rfl rfl Try.underlying4 spec laidOut readable hW' (by
    obtain ⟨p, q, hA, _⟩ := hW'
    exact holds hval hA)

theorem said : Rows.CsetBudgetSaid :=
  OpenClaim.holds_of_cond 4 Try.f4 rfl rfl rfl rfl rfl rfl rfl ⟨rfl, rfl, rfl, rfl, rfl⟩ rfl rfl rfl rfl rfl (by kernel_rfl) Try.func4 (by kernel_rfl)
    (of_decide_eq_true (by kernel_rfl)) (by unfold Func.isWrapper; first | (rw [if_pos (by decide +kernel)]; kernel_rfl) | (rw [if_neg (by decide +kernel)]; exact ⟨rfl, rfl⟩))
    (fun os started H enc _ F => by rw [OpenClaim.pre_eq_preRow]; exact lifted os started H enc F)
end Go.Proofs.Yteggdpcfeljphaa.CsetBudget
