/- Package remset: remember. -/
import Derived.Test.YtkbffmmomoeaiaaDoorSo
import Derived.Deep.CutRange
namespace Go.Proofs.YtkbffmmomoeaiaaDoor
set_option linter.unusedVariables false
set_option linter.unusedSimpArgs false
open Go.RowKit Go.Gl

theorem Bet.total (σ : RS) (per h a b : Nat) : Bet σ per h a b ∨ Bet σ per h b a := by unfold Bet; omega
theorem best_ex {σ : RS} {per h : Nat} : ∀ N : Nat, (∃ x, x < N ∧ σ.way h x = 2) → ∃ m, BestOf σ per N h m
  | 0, ⟨x, hx, _⟩ => absurd hx (by omega)
  | N + 1, ⟨x, hx, hw⟩ => by
    by_cases hN : σ.way h N = 2
    · by_cases hex : ∃ x, x < N ∧ σ.way h x = 2
      · obtain ⟨m, h1, h2, h3⟩ := best_ex (per := per) N hex
        rcases Bet.total σ per h m N with hb | hb
        · refine ⟨m, by omega, h2, fun y hy hy2 => ?_⟩
          rcases Nat.lt_or_ge y N with h4 | h4
          · exact h3 y h4 hy2
          · obtain rfl : y = N := by omega
            exact hb
        · refine ⟨N, by omega, hN, fun y hy hy2 => ?_⟩
          rcases Nat.lt_or_ge y N with h4 | h4
          · exact hb.trans (h3 y h4 hy2)
          · obtain rfl : y = N := by omega
            exact Bet.refl _ _ _ _
      · refine ⟨N, by omega, hN, fun y hy hy2 => ?_⟩
        rcases Nat.lt_or_ge y N with h4 | h4
        · exact absurd ⟨y, h4, hy2⟩ hex
        · obtain rfl : y = N := by omega
          exact Bet.refl _ _ _ _
    · have hxN : x < N := by
        rcases Nat.lt_or_ge x N with h4 | h4
        · exact h4
        · obtain rfl : x = N := by omega
          exact absurd hw hN
      obtain ⟨m, h1, h2, h3⟩ := best_ex (per := per) N ⟨x, hxN, hw⟩
      refine ⟨m, by omega, h2, fun y hy hy2 => ?_⟩
      rcases Nat.lt_or_ge y N with h4 | h4
      · exact h3 y h4 hy2
      · obtain rfl : y = N := by omega
        exact absurd hy2 hN
theorem nFine_ex {σ : RS} {n h : Nat} (h0 : 0 < nFine σ n h) : ∃ x, x < n ∧ σ.way h x = 2 := by
  rcases Classical.em (∃ x, x < n ∧ σ.way h x = 2) with h1 | h1
  · exact h1
  · exfalso
    have : nFine σ n h = 0 := cnt_none fun j hj => by
      rw [Nat.zero_add]
      simp
      exact fun e => h1 ⟨j, hj, e⟩
    omega
theorem bestOf_spec {σ : RS} {per n h : Nat} (h0 : 4 < nFine σ n h) : BestOf σ per n h (bestOf σ per n h) := by
  obtain ⟨m, hm⟩ := best_ex (per := per) n (nFine_ex (σ := σ) (h := h) (by omega))
  rw [bestOf_eq hm]; exact hm
theorem coarsen_way (σ : RS) (per n h a b : Nat) : (coarsen σ per n h).way a b ≠ 0 ↔ σ.way a b ≠ 0 := by
  unfold coarsen
  split
  · rename_i h0
    by_cases e : a = h ∧ b = bestOf σ per n h
    · obtain ⟨rfl, rfl⟩ := e
      rw [RS.way_at, (bestOf_spec h0).2.1]; simp
    · rw [RS.way_ne _ _ _ _ e]
  · exact Iff.rfl
theorem coarsen_ok {σ : RS} {per n h : Nat} (ok : SOk per n σ) : SOk per n (coarsen σ per n h) := by
  unfold coarsen
  split
  · rename_i h0
    obtain ⟨h1, h2, _⟩ := bestOf_spec (per := per) h0
    have h3 := ok.rng h _ (by rw [h2]; decide)
    exact ok.put (fun _ => ⟨h3.1, h3.2.1, h3.2.2.1, by decide⟩) (fun c _ h => by cases h)
  · exact ok
def RemPost (w : World) (tg : Tg) (sb kb sB hB fB per n : Nat) (σ' : RS) (e : Ending) (w' : World) : Prop :=
  ∃ tg' fk' Vs' Vh' Vf' F, e = .returned (.tuple #[]) ∧ Rs w' tg' sb kb sB hB fB per n σ' fk' Vs' Vh' Vf' ∧ Fr F w w' ∧ (∀ b, b ∈ F → (tg b).1 ≠ 0) ∧ TgUp w tg tg'
/-- What is known of a source that isn't coarse. -/
theorem known {w : World} {tg : Tg} {kb per n : Nat} {σ : RS} {fk : Value → Option Value} (hk : Kn w tg kb per n σ fk) (ok : SOk per n σ) {h s : Nat} (hh : h < n) (hs : s < n) (h3 : σ.way h s ≠ 3) :
    (σ.way h s = 2 ∧ ∃ bs bw ws, fk (pairV h s) = some (memOf 2 (.slice none 0 0) (.pointer (some ⟨bs, 0, none⟩))) ∧ BSet w bs bw per ws ∧ tg bs = (10, h, s) ∧ tg bw = (10, h, s) ∧ ∀ i, i < per → wbit ws i = σ.has h (s * per + i)) ∨
    (σ.way h s ≤ 1 ∧ ∃ A c G, ∃ l : List Int, (fk (pairV h s)).getD (memOf 0 (.slice none 0 0) (.pointer none)) = memOf (σ.way h s : Nat) (.slice A l.length c) (.pointer none) ∧ Lr w 3 A l.length c G (zv l) ∧ (∀ g, g ∈ G → tg g = (9, h, s)) ∧ l.Pairwise (· < ·) ∧ (∀ x, x ∈ l ↔ ∃ c : Nat, x = (c : Int) ∧ c / per = s ∧ σ.has h c = true) ∧ l.length ≤ 4 ∧ (σ.way h s = 0 → l = [])) := by
  by_cases hw : σ.way h s = 0
  · refine .inr ⟨by omega, none, 0, [], [], ?_, Lr.nil _ _, (fun _ hg => by cases hg), List.Pairwise.nil, fun x => ?_, by decide, fun _ => rfl⟩
    · have : fk (pairV h s) = none := by
        cases hf : fk (pairV h s) with
        | none => rfl
        | some v =>
          obtain ⟨a, b, _, _, e1, e2⟩ := hk.key _ _ hf
          obtain ⟨e3, e4⟩ := pairV_inj e1
          obtain rfl : h = a := by omega
          obtain rfl : s = b := by omega
          exact absurd hw e2
      rw [this, hw]; rfl
    · constructor
      · intro hx; cases hx
      · rintro ⟨c, _, hc, hb⟩
        have := (ok.can h c hb).2
        rw [hc] at this; omega
  · obtain ⟨v, hv, hm⟩ := hk.mem h s hh hs hw
    rcases hm with ⟨e, A, c, G, l, rfl, e2, e3, e4⟩ | ⟨e, bs, bw, ws, rfl, e2, e3, e4, e5⟩ | ⟨e, _⟩
    · exact .inr ⟨by omega, A, c, G, l, by rw [hv, e]; rfl, e2, e3, e4.up, e4.mem, e4.len, fun h0 => absurd h0 hw⟩
    · exact .inl ⟨e, bs, bw, ws, hv, e2, e3, e4, e5⟩
    · exact absurd e h3
set_option maxRecDepth 100000 in
set_option maxHeartbeats 3200000 in
theorem remember_any {w : World} {tg : Tg} {sb kb sB hB fB per n : Nat} {σ : RS} {fk : Value → Option Value} {Vs Vh Vf : Nat → Value} (H : Rs w tg sb kb sB hB fB per n σ fk Vs Vh Vf) {h s c : Nat} (hh : h < n) (hc : c < n * per) (hcs : c / per = s) (hne : h ≠ s) (hno : hasN σ per h c = false) :
    Calls Tryd.prog 35 #[.pointer (some ⟨sb, 0, none⟩), .agg #[.int .i64 (h : Int), .int .i64 (s : Int)], .int .i64 (c : Int)] w (RemPost w tg sb kb sB hB fB per n (addS σ per n h c)) := by
  have hd := H.ok.dim
  have hn := hd.n2
  have hs : s < n := hcs ▸ hd.div hc
  have hw3 : σ.way h s ≠ 3 := fun e => by unfold hasN at hno; rw [hcs, e] at hno; simp at hno
  have hhc : σ.has h c = false := by
    unfold hasN at hno
    simpa using (Bool.or_eq_false_iff.1 hno).2
  obtain ⟨lt, hlt⟩ := pairKey (h : Int) (s : Int) (wf_nat (by omega)) (wf_nat (by omega))
  have c2 := H.st.c2
  have N0 : sb < w.heap.size := Blk.lt H.st
  have HL : Hid (∀ w' v, Fr [] w w' → (fk (pairV h s)).getD (memOf 0 (.slice none 0 0) (.pointer none)) = v → (Instr.lookup 55 (.map (some kb)) (.agg #[.int .i64 (h : Int), .int .i64 (s : Int)]) false).run Tryd.prog w' = .ok v w') := fun w' v hf hv => by
    rw [← hv]; exact (H.kn.mp.fr0 hf).look Tryd.pairLaw Tryd.underlying55 (zeroMem w') hlt
  have hkn := known H.kn H.ok hh hs hw3
  obtain ⟨W, A, ln, ca, k, hget⟩ : ∃ (W : Nat) (A : Option Addr) (ln ca : Nat) (k : Option Addr), (fk (pairV h s)).getD (memOf 0 (.slice none 0 0) (.pointer none)) = .agg #[.int .i64 (W : Int), .slice A ln ca, .pointer k] := by
    rcases hkn with ⟨e, bs, bw, ws, e1, _⟩ | ⟨e, A, c, G, l, e1, _⟩
    · exact ⟨2, none, 0, 0, _, by rw [e1]; rfl⟩
    · exact ⟨_, A, _, c, none, e1⟩
  have K1 := HL.out (w.alloc (.cells #[.int .i64 (h : Int), .int .i64 (s : Int)] 76)).drew _ (((Fr.refl _ _).alloc _).drew) hget
  have K2 := fun o => HL.out ((w.alloc (.cells #[.int .i64 (h : Int), .int .i64 (s : Int)] 76)).alloc o).drew _ ((((Fr.refl _ _).alloc _).alloc o).drew) hget
  have HR := hide H
  have HKn := hide hkn
  have HGet := hide hget
  have HD := hide hd
  have HCs := hide hcs
  have HHc := hide hhc
  have HKy := hide hlt
  clear H hkn hget HL hlt hd hcs hno hhc
  go_enter Tryd.func35, Tryd.ntmps35
  go_wp2_with fail
  go_cut [6] from 9 to 14 (fun p wx => p = .pointer (some ⟨w.heap.size + 1, 0, none⟩) ∧ wx = ((w.alloc (.cells #[.int .i64 (h : Int), .int .i64 (s : Int)] 76)).alloc (.cells #[.int .i64 (W : Int), .slice A ln ca, .pointer k] 82)).drew)
  case first =>
    go_region_with (fail)
    all_goals
      go_wp2_with fail
      go_meet
      case rel => exact ⟨rfl, rfl⟩
  case rest =>
    obtain ⟨rfl, rfl⟩ := hcut
    obtain ⟨w1, hw1⟩ : ∃ w1, w1 = ((w.alloc (.cells #[.int .i64 (h : Int), .int .i64 (s : Int)] 76)).alloc (.cells #[.int .i64 (W : Int), .slice A ln ca, .pointer k] 82)).drew := ⟨_, rfl⟩
    have hF : Fr [] w w1 := hw1 ▸ (((Fr.refl _ _).alloc _).alloc _).drew
    have hpb : Blk w1 w.heap.size 76 #[.int .i64 (h : Int), .int .i64 (s : Int)] := by rw [hw1]; exact ((Blk.new w _ _).alloc _).drew
    have hmb : Blk w1 (w.heap.size + 1) 82 #[.int .i64 (W : Int), .slice A ln ca, .pointer k] := by rw [hw1]; exact (Blk.new_at _ _ (by simp)).drew
    have hsz : w1.heap.size = w.heap.size + 2 := by rw [hw1]; simp
    rw [← hw1]
    have HF := hide hF
    have HPb := hide hpb
    have HMb := hide hmb
    have HSz := hide hsz
    clear hw1 hF hpb hmb hsz K1 K2 c2
    rcases HKn.out with ⟨e, bs, bw, ws, e1, hset, ht1, ht2, hws⟩ | ⟨e, A0, c0, G, l, e1, hl, hG, hup, hmem, hlen, h0l⟩
    · have hg2 := HGet.out
      rw [e1] at hg2
      obtain ⟨rfl, rfl, rfl, rfl, rfl⟩ : W = 2 ∧ A = none ∧ ln = 0 ∧ ca = 0 ∧ k = some ⟨bs, 0, none⟩ := by
        simp [memOf] at hg2
        obtain ⟨h1, ⟨h2, h3, h4⟩, h5⟩ := hg2
        exact ⟨by omega, h2.symm, h3.symm, h4.symm, h5.symm⟩
      have HSet := hide hset
      have HW := hide (fun w' (hf : Fr [] w1 w') => within_any (HR.out.st.fr (HF.out.trans_nil hf) (by simp)) HD.out hc)
      have HP := hide (fun w' (hf : Fr [] w1 w') => put_any ((HSet.out.fr (HF.out.trans_nil hf) (by simp) (by simp))) ((c % per : Nat) : Int))
      have hS1 : w1.cell? ⟨w.heap.size + 1, 2, none⟩ = some (.pointer (some ⟨bs, 0, none⟩)) := by rw [HMb.out.cell]; rfl
      have hS0 : w1.cell? ⟨w.heap.size + 1, 0, none⟩ = some (.int .i64 2) := by rw [HMb.out.cell]; rfl
      have HS : Hid (∀ w' w'', Fr [] w1 w' → Fr [bw] w' w'' → w''.cell? ⟨w.heap.size + 1, 2, none⟩ = some (.pointer (some ⟨bs, 0, none⟩))) := fun w' w'' hf hf2 => by
        have h1 := HSet.out.row.lt
        exact ((hf2.cell (Nat.lt_of_lt_of_le HMb.out.lt hf.size) (by simp; omega)).trans (hf.cell HMb.out.lt (by simp))).trans hS1
      have HE1 := hide e1
      have HE := hide e
      have HT1 := hide ht1
      have HT2 := hide ht2
      have HWs := hide hws
      clear hset e1 e ht1 ht2 hws hg2
      generalize hr : c % per = r at *
      have HRr := hide hr
      clear hr
      go_wp2_with fail
      go_region_held3 (fun w' => w'.cell? ⟨w.heap.size + 1, 2, none⟩ = some (.pointer (some ⟨bs, 0, none⟩)))
        (first | exact HS.out _ _ (Fr.refl _ _) ((Fr.refl _ _).drew) | exact HS.out _ _ ((Fr.refl _ _).drew) (by assumption))
        (first | (go_at_call 38; refine (HW.out _ ((Fr.refl _ _).drew)).mono ?_; rintro e w' ⟨rfl, rfl⟩) | (go_at_call 46; refine (HP.out _ ((Fr.refl _ _).drew)).mono ?_; rintro e w3 ⟨cb, er, ws', rfl, hb3, hF3, hT3⟩; have HB3 := hide hb3; have HT3 := hide hT3; clear hb3 hT3))
      all_goals
        go_wp2_with fail
        go_end0
        have hfw3 : Fr [bw] w w3 := ((HF.out.mono (G := [bw]) (fun _ hx => by cases hx)).drew).trans_same hF3
        have hbwt : (tg bw).1 = 10 := by rw [HT2.out]
        have hadd : addS σ per n h c = σ.put per h s 2 (plus σ h c) := by unfold addS; rw [HCs.out, if_pos HE.out]
        rw [hadd]
        have hbk := HD.out.back (c := c)
        rw [HCs.out, HRr.out] at hbk
        have hbits : ∀ i, i < per → wbit ws' i = plus σ h c (s * per + i) := fun i hi => by
          rcases HT3.out with ⟨_, _, _, _, h3⟩ | ⟨h1, _⟩
          · rw [h3 i, Int.toNat_natCast, HWs.out i hi]
            unfold plus
            by_cases e : i = r
            · subst e; rw [if_pos rfl, hbk.1]; simp
            · rw [if_neg e]
              have : ¬ (s * per + i = c) := by omega
              simp [this]
          · exact absurd ⟨Int.natCast_nonneg _, by have := hbk.2; omega⟩ h1
        have hkn3 := HR.out.kn.keep (k := 2) (g := plus σ h c) (tg' := tg) (by decide) (by rw [HE.out]; decide) HE1.out hfw3 (fun b hb => by simp at hb; subst hb; rw [HT2.out]; simp) (TgUp.refl _ _) (.inr (.inl ⟨rfl, bs, bw, ws', rfl, HB3.out, HT1.out, HT2.out, hbits⟩))
        have hw2 : ∀ a b, (σ.put per h s 2 (plus σ h c)).way a b = σ.way a b := fun a b => by
          by_cases e : a = h ∧ b = s
          · obtain ⟨rfl, rfl⟩ := e; rw [RS.way_at, HE.out]
          · rw [RS.way_ne _ _ _ _ e]
        refine ⟨tg, fk, Vs, Vh, Vf, [bw], rfl, ⟨HR.out.ok.put (fun _ => ⟨hh, hs, hne, by decide⟩) (fun x hx hp => ?_), HR.out.st.fr hfw3 (fun hb => by simp at hb; subst hb; rw [HR.out.tst] at hbwt; simp at hbwt), HR.out.tst, fun b hb => Nat.lt_of_lt_of_le (HR.out.tok b hb) hfw3.size, hkn3,
          (HR.out.src.fr hfw3 (fun b hb => by simp at hb; subst hb; rw [hbwt]; decide) (TgUp.refl _ _)).congr (fun a _ b _ => by rw [hw2]), (HR.out.hom.fr hfw3 (fun b hb => by simp at hb; subst hb; rw [hbwt]; decide) (TgUp.refl _ _)).congr (fun a _ b _ => by rw [hw2]),
          (HR.out.fin.fr hfw3 (fun b hb => by simp at hb; subst hb; rw [hbwt]; decide) (TgUp.refl _ _)).congr (fun a _ b _ => by rw [hw2])⟩, hfw3, fun b hb => by simp at hb; subst hb; rw [hbwt]; decide, TgUp.refl _ _⟩
        unfold plus at hp
        rcases Bool.or_eq_true_iff.1 hp with h1 | h1
        · exact ⟨(HR.out.ok.can h x h1).1, .inr rfl⟩
        · have : x = c := by simpa using h1
          subst this
          exact ⟨hc, .inr rfl⟩
    · have hg2 := HGet.out
      rw [e1] at hg2
      obtain ⟨rfl, rfl, rfl, rfl, rfl⟩ : W = σ.way h s ∧ A = A0 ∧ ln = l.length ∧ ca = c0 ∧ k = none := by
        simp [memOf] at hg2
        obtain ⟨h1, ⟨h2, h3, h4⟩, h5⟩ := hg2
        exact ⟨by omega, h2.symm, h3.symm, h4.symm, h5.symm⟩
      have hxl : (c : Int) ∉ l := fun h0 => by
        obtain ⟨c', h1, h2, h3⟩ := (hmem _).1 h0
        obtain rfl : c = c' := by omega
        rw [HHc.out] at h3; cases h3
      obtain ⟨D, hD⟩ : ∃ D, D = insAt l (c : Int) := ⟨_, rfl⟩
      have hDl : D.length = l.length + 1 := by rw [hD, insAt_len]
      have hDup : D.Pairwise (· < ·) := by rw [hD]; exact insAt_up hup hxl
      have hDm : ∀ x, x ∈ D ↔ ∃ c' : Nat, x = (c' : Int) ∧ c' / per = s ∧ plus σ h c c' = true := fun x => by
        rw [hD, insAt_mem, hmem x]
        unfold plus
        constructor
        · rintro (rfl | ⟨c', h1, h2, h3⟩)
          · exact ⟨c, rfl, HCs.out, by simp⟩
          · exact ⟨c', h1, h2, by rw [h3]; rfl⟩
        · rintro ⟨c', h1, h2, h3⟩
          rcases Bool.or_eq_true_iff.1 h3 with h4 | h4
          · exact .inr ⟨c', h1, h2, h4⟩
          · have : c' = c := by simpa using h4
            subst this
            exact .inl h1
      have hcnt : D.length = cntS (σ.put per h s 1 (plus σ h c)) per h s := few_cnt HD.out.p1 hDup hDm
      have hws0 : l.Pairwise (· ≤ ·) := hup.imp fun h => by omega
      have hsl := (hl.fr0 HF.out).slz
      have HBin := hide (binary_sl (c := ca) hsl (by omega) hws0 (c : Int))
      have hmbG : w.heap.size + 1 ∉ G := fun h0 => by have := hl.lt _ h0; omega
      have hpbG : w.heap.size ∉ G := fun h0 => by have := hl.lt _ h0; omega
      have HI : Hid (∀ q, Calls Tryd.prog 48 #[.slice A l.length ca, .int .i64 ((l.countP (· < (c : Int)) : Nat) : Int), .slice (some ⟨(w1.drewN q).heap.size, 0, none⟩) 1 1] ((w1.drewN q).alloc (.cells #[.int .i64 (c : Int)] 3)) (InsPost ((w1.drewN q).alloc (.cells #[.int .i64 (c : Int)] 3)) G D)) := fun q => by
        rw [hD]
        exact insert_lr ((hl.fr0 (HF.out.drewN q)).alloc _) (List.countP_le_length) (Blk.new _ _ _) (fun h0 => by have h1 := hl.lt _ h0; have h2 := HSz.out; have h3 : (w1.drewN q).heap.size = w1.heap.size := rfl; omega) (by omega)
      have HMem := hide hmem
      have HDm := hide hDm
      have HDup := hide hDup
      have HCnt := hide hcnt
      have HLl := hide hlen
      have HDl := hide hDl
      have HE := hide e
      have HG := hide hG
      have H0l := hide h0l
      have HLf := hide hl
      have HMbG := hide hmbG
      have HPbG := hide hpbG
      have hS1 : w1.cell? ⟨w.heap.size + 1, 1, none⟩ = some (.slice A l.length ca) := by rw [HMb.out.cell]; rfl
      have hS0 : w1.cell? ⟨w.heap.size + 1, 0, none⟩ = some (.int .i64 ((σ.way h s : Nat) : Int)) := by rw [HMb.out.cell]; rfl
      have hwn2 : (((σ.way h s : Nat) : Int) == 2) = false := by
        have := HE.out
        simp
        omega
      have HCB : Hid (∀ q w3, Fr G ((w1.drewN q).alloc (.cells #[.int .i64 (c : Int)] 3)) w3 → Fr G w w3 ∧ Blk w3 (w.heap.size + 1) 82 #[.int .i64 ((σ.way h s : Nat) : Int), .slice A l.length ca, .pointer none] ∧ Blk w3 w.heap.size 76 #[.int .i64 (h : Int), .int .i64 (s : Int)]) := fun q w3 hf => by
        refine ⟨(((HF.out.drewN q).alloc (.cells #[.int .i64 (c : Int)] 3)).mono (G := G) (fun _ hx => by cases hx)).trans_same hf, ((HMb.out.drewN q).alloc _).fr hf HMbG.out, ((HPb.out.drewN q).alloc _).fr hf HPbG.out⟩
      clear hxl hD hDup hDm hcnt hws0 hsl hl hG hup hmem hlen e h0l hg2 e1 hmbG hpbG hDl
      generalize hdl : D.length = dl at *
      have HDL := hide hdl
      clear hdl
      unfold InsPost at HI
      have hdle : dl ≤ 5 := by have := HDl.out; have := HLl.out; omega
      generalize hll : l.length = ll at *
      generalize hat : l.countP (· < (c : Int)) = atp at *
      generalize decide ((c : Int) ∈ l) = fnd at *
      clear hat
      have HLL := hide hll
      clear hll
      generalize hWY : σ.way h s = W at *
      have HWY := hide hWY
      clear hWY
      rw [HDL.out] at HI
      by_cases hgt : 4 < dl
      · have hgt1 : ((dl : Int) > 4) := by omega
        have HMF : Hid (∀ q w3 A' c' G', Lr w3 3 A' dl c' G' (zv D) → Fr G ((w1.drewN q).alloc (.cells #[.int .i64 (c : Int)] 3)) w3 → (∀ g, g ∈ G' → g ∈ G ∨ g = ((w1.drewN q).alloc (.cells #[.int .i64 (c : Int)] 3)).heap.size) →
            Fr G w (w3.setCell ⟨w.heap.size + 1, 1, none⟩ (.slice A' dl c')) ∧ Calls Tryd.prog 49 #[.pointer (some ⟨sb, 0, none⟩), .agg #[.int .i64 (h : Int), .int .i64 (s : Int)], .slice A' dl c'] (w3.setCell ⟨w.heap.size + 1, 1, none⟩ (.slice A' dl c')) (MfPost (w3.setCell ⟨w.heap.size + 1, 1, none⟩ (.slice A' dl c')) tg kb fB per n (coarsen (σ.put per h s 2 (fun x => decide ((x : Int) ∈ D))) per n h))) := fun q w3 A' c' G' hl3 hf3 hg3 => by
          have hfw3 := (HCB.out q w3 hf3).1
          have hfw4 : Fr G w (w3.setCell ⟨w.heap.size + 1, 1, none⟩ (.slice A' dl c')) := hfw3.setCell (p := ⟨w.heap.size + 1, 1, none⟩) (.inr (by simp)) _
          have hf34 : Fr [w.heap.size + 1] w3 (w3.setCell ⟨w.heap.size + 1, 1, none⟩ (.slice A' dl c')) := (Fr.refl _ _).setCell (p := ⟨w.heap.size + 1, 1, none⟩) (.inl (by simp)) _
          have hmG' : ∀ g, g ∈ G' → g ∉ [w.heap.size + 1] := fun g hg h0 => by
            simp at h0
            subst h0
            rcases hg3 _ hg with h1 | h1
            · exact HMbG.out h1
            · have h2 := HSz.out
              simp at h1
              have h3 : (w1.drewN q).heap.size = w1.heap.size := rfl
              omega
          have hk0 : ∀ b, b ∈ G → (tg b).1 = 9 := fun b hb => by rw [HG.out b hb]
          refine ⟨hfw4, ?_⟩
          have hl4 := hl3.fr hf34 hmG'
          rw [← HDL.out] at hl4 ⊢
          rw [← HDL.out] at hfw4
          exact makeFine_any (F0 := G) (HR.out.st.fr hfw4 (fun hb => by have := hk0 _ hb; rw [HR.out.tst] at this; simp at this)) HR.out.tst (fun b hb => Nat.lt_of_lt_of_le (HR.out.tok b hb) hfw4.size) HD.out HR.out.kn hfw4 HG.out
            (HR.out.fin.fr hfw4 (fun b hb => by rw [hk0 b hb]; decide) (TgUp.refl _ _)) hh hs (by rw [HWY.out]; have := HE.out; omega) hl4 (by rw [HDL.out]; omega) (fun x hx => by
              obtain ⟨c', h1, h2, h3⟩ := (HDm.out x).1 hx
              refine ⟨c', h1, ?_, h2⟩
              unfold plus at h3
              rcases Bool.or_eq_true_iff.1 h3 with h4 | h4
              · exact (HR.out.ok.can h c' h4).1
              · have : c' = c := by simpa using h4
                subst this; exact hc)
        go_wp2_with (first
          | (go_at_call 47; refine HBin.out.mono ?_; rintro e w2 ⟨rfl, q, rfl⟩)
          | (go_at_call 48; refine (HI.out q).mono ?_; rintro e w3 ⟨A', c', G', rfl, hl3, hf3, hg3⟩; have hcb := (HCB.out q w3 hf3).2; have m1 := hcb.1.cell 1; have m0 := hcb.1.cell 0; have mf := hcb.1.frozen 1; have p0 := hcb.2.cell 0; have p1 := hcb.2.cell 1; simp only [List.getElem?_toArray, List.getElem?_cons_zero, List.getElem?_cons_succ] at m0 m1 p0 p1; have HM := hide (HMF.out q w3 A' c' G' hl3 hf3 hg3); clear hl3 hf3 hg3 hcb)
          | (go_at_call 49; refine HM.out.2.mono ?_; rintro e w5 ⟨tg', fk', V', F, rfl, hkn5, hfi5, hf5, hF5, hu5, ht5⟩))
        go_end0
        have hw1 : W ≠ 0 := fun e => by
          have h1 := H0l.out e
          have h2 := HLL.out
          have h3 := HDl.out
          rw [h1] at h2
          simp at h2
          omega
        have hway1 : σ.way h s = 1 := by have h1 := HWY.out; have h2 := HE.out; omega
        have hadd : addS σ per n h c = coarsen (σ.put per h s 2 (fun x => decide ((x : Int) ∈ D))) per n h := by
          unfold addS
          rw [HCs.out, if_neg (by rw [hway1]; decide), if_neg (by rw [← HCnt.out]; omega)]
          congr 1
          refine RS.put_congr fun x hx => ?_
          cases hp : plus σ h c x with
          | true => exact (decide_eq_true ((HDm.out _).2 ⟨x, rfl, hx, hp⟩)).symm
          | false => exact (decide_eq_false (fun h0 => by
              obtain ⟨x', h1, _, h3⟩ := (HDm.out _).1 h0
              obtain rfl : x = x' := by omega
              rw [hp] at h3; cases h3)).symm
        rw [hadd]
        have hfw4 := HM.out.1
        have hk0 : ∀ b, b ∈ G → (tg b).1 = 9 := fun b hb => by rw [HG.out b hb]
        have hfw5 : Fr (G ++ F) w w5 := (hfw4.mono (G := G ++ F) (fun x hx => .inl (List.mem_append_left _ hx))).trans hf5 (fun x hx => .inl (List.mem_append_right _ hx))
        have hkF : ∀ b, b ∈ G ++ F → (tg b).1 = 9 ∨ (tg b).1 = 2 ∨ (tg b).1 = 5 ∨ (tg b).1 = 8 := fun b hb => by
          rcases List.mem_append.1 hb with hb | hb
          · exact .inl (hk0 b hb)
          · exact .inr (hF5 b hb)
        have huw : TgUp w tg tg' := fun b hb => hu5 b (Nat.lt_of_lt_of_le hb hfw4.size)
        have hokp : SOk per n (σ.put per h s 2 (fun x => decide ((x : Int) ∈ D))) := HR.out.ok.put (fun _ => ⟨hh, hs, hne, by decide⟩) (fun x hx hp => by
          obtain ⟨x', h1, _, h3⟩ := (HDm.out _).1 (of_decide_eq_true hp)
          obtain rfl : x = x' := by omega
          unfold plus at h3
          rcases Bool.or_eq_true_iff.1 h3 with h4 | h4
          · exact ⟨(HR.out.ok.can h x h4).1, .inr rfl⟩
          · have : x = c := by simpa using h4
            subst this; exact ⟨hc, .inr rfl⟩)
        have hwp : ∀ a b, (σ.put per h s 2 (fun x => decide ((x : Int) ∈ D))).way a b ≠ 0 ↔ σ.way a b ≠ 0 := fun a b => by
          by_cases e : a = h ∧ b = s
          · obtain ⟨rfl, rfl⟩ := e; rw [RS.way_at, hway1]; decide
          · rw [RS.way_ne _ _ _ _ e]
        refine ⟨tg', fk', Vs, Vh, V', G ++ F, rfl, ⟨coarsen_ok hokp, HR.out.st.fr hfw5 (fun hb => by have := hkF _ hb; rw [HR.out.tst] at this; omega), (huw _ N0).trans HR.out.tst, ht5, hkn5,
          (HR.out.src.fr hfw5 (fun b hb => by have := hkF b hb; omega) huw).congr (fun a _ b _ => by rw [coarsen_way, hwp]), (HR.out.hom.fr hfw5 (fun b hb => by have := hkF b hb; omega) huw).congr (fun a _ b _ => by rw [coarsen_way, hwp]), hfi5⟩, hfw5, fun b hb => by have := hkF b hb; omega, huw⟩
      · have hgt1 : ¬ ((dl : Int) > 4) := by omega
        have HAft : Hid (∀ q w3 A' c' G', Lr w3 3 A' dl c' G' (zv D) → Fr G ((w1.drewN q).alloc (.cells #[.int .i64 (c : Int)] 3)) w3 → (∀ g, g ∈ G' → g ∈ G ∨ g = ((w1.drewN q).alloc (.cells #[.int .i64 (c : Int)] 3)).heap.size) →
            Fr G w (w3.setCell ⟨w.heap.size + 1, 1, none⟩ (.slice A' dl c')) ∧ Lr (w3.setCell ⟨w.heap.size + 1, 1, none⟩ (.slice A' dl c')) 3 A' dl c' G' (zv D) ∧ (∀ g, g ∈ G' → g ∈ G ∨ g = w1.heap.size + 1) ∧ Blk (w3.setCell ⟨w.heap.size + 1, 1, none⟩ (.slice A' dl c')) w.heap.size 76 #[.int .i64 (h : Int), .int .i64 (s : Int)] ∧
            (w3.setCell ⟨w.heap.size + 1, 1, none⟩ (.slice A' dl c')).cell? ⟨w.heap.size + 1, 1, none⟩ = some (.slice A' dl c')) := fun q w3 A' c' G' hl3 hf3 hg3 => by
          have hcb := HCB.out q w3 hf3
          have hf34 : Fr [w.heap.size + 1] w3 (w3.setCell ⟨w.heap.size + 1, 1, none⟩ (.slice A' dl c')) := (Fr.refl _ _).setCell (p := ⟨w.heap.size + 1, 1, none⟩) (.inl (by simp)) _
          have hs3 : ((w1.drewN q).alloc (.cells #[.int .i64 (c : Int)] 3)).heap.size = w1.heap.size + 1 := by simp [World.drewN]
          have hmG' : ∀ g, g ∈ G' → g ∉ [w.heap.size + 1] := fun g hg h0 => by
            simp at h0
            subst h0
            rcases hg3 _ hg with h1 | h1
            · exact HMbG.out h1
            · have h2 := HSz.out
              rw [hs3] at h1
              omega
          refine ⟨hcb.1.setCell (p := ⟨w.heap.size + 1, 1, none⟩) (.inr (by simp)) _, hl3.fr hf34 hmG', fun g hg => (hg3 g hg).imp id (fun h0 => by rw [h0, hs3]), hcb.2.2.far (p := ⟨w.heap.size + 1, 1, none⟩) (by simp) _, ?_⟩
          rw [(hcb.2.1.put 1 (.slice A' dl c')).cell]; rfl
        go_wp2_with (first
          | (go_at_call 47; refine HBin.out.mono ?_; rintro e w2 ⟨rfl, q, rfl⟩)
          | (go_at_call 48; refine (HI.out q).mono ?_; rintro e w3 ⟨A', c', G', rfl, hl3, hf3, hg3⟩; have hcb := (HCB.out q w3 hf3).2; have m1 := hcb.1.cell 1; have m0 := hcb.1.cell 0; have mf := hcb.1.frozen 1; simp only [List.getElem?_toArray, List.getElem?_cons_zero, List.getElem?_cons_succ] at m0 m1; have HM := hide (HAft.out q w3 A' c' G' hl3 hf3 hg3); clear hl3 hf3 hg3 hcb))
        clear m0 m1 mf hS1 hS0 HI HBin HAft HCB
        generalize w3.setCell ⟨w.heap.size + 1, 1, none⟩ (.slice A' dl c') = w4 at *
        obtain ⟨hfw4, hl4, hg4, hpb4, hm4⟩ := HM.out
        have hk0 : ∀ b, b ∈ G → (tg b).1 = 9 := fun b hb => by rw [HG.out b hb]
        have hnG : ∀ b, (tg b).1 ≠ 9 → b ∉ G := fun b hb h0 => hb (hk0 b h0)
        have hst4 : St w4 sb kb sB hB fB per n := HR.out.st.fr hfw4 (hnG _ (by rw [HR.out.tst]; decide))
        have hc2 := hst4.c2
        have hp0 : w4.cell? ⟨w.heap.size, 0, none⟩ = some (.int .i64 (h : Int)) := by rw [hpb4.cell]; rfl
        have hp1 : w4.cell? ⟨w.heap.size, 1, none⟩ = some (.int .i64 (s : Int)) := by rw [hpb4.cell]; rfl
        have HMp : Hid (Mp Tryd.prog 76 w4 kb fk) := HR.out.kn.mp.fr hfw4 (hnG _ (by rw [HR.out.kn.tag]; decide))
        have HSt4 := hide hst4
        have HPb4 := hide hpb4
        have HFw4 := hide hfw4
        have HL4 := hide hl4
        have HG4 := hide hg4
        have HNG := hide hnG
        have HK0 := hide hk0
        clear hst4 hpb4 hfw4 hl4 hg4 hnG hk0 HM
        refine region_tail 8 (by kernel_rfl) (by kernel_rfl) ?_
        simp only [List.take_succ_cons, List.take_zero, List.drop_succ_cons, List.drop_zero]
        repeat still_step
        refine wpStill_nil ?_
        go_wp2_with (at_mapUpdate; refine list_of rfl fun K hK => wp_update (key := pairV h s) (v := memOf 1 (.slice A' dl c') (.pointer none)) _ _ _ 55 rfl Tryd.pairLaw Tryd.underlying55 HMp.out ((Fr.refl _ _).drew) rfl rfl HKy.out rfl ?_; intro w5 hM5 hF5; refine hK _ _ ?_)
        clear hc2 hp0 hp1 hm4
        have hkb5 : ∀ b, (tg b).1 ≠ 2 → b ∉ [kb] := fun b hb h0 => by simp at h0; subst h0; rw [HR.out.kn.tag] at hb; exact hb rfl
        have hst5 : St w5 sb kb sB hB fB per n := St.fr (St.fr HSt4.out ((Fr.refl [] w4).drew) (by simp)) hF5.out (hkb5 _ (by rw [HR.out.tst]; decide))
        have hpb5 : Blk w5 w.heap.size 76 #[.int .i64 (h : Int), .int .i64 (s : Int)] := (HPb4.out.drew).fr hF5.out (hkb5 _ (fun e => absurd (HR.out.tok _ (by omega)) (Nat.lt_irrefl _)))
        have hc3 := hst5.c3
        have hp0 : w5.cell? ⟨w.heap.size, 0, none⟩ = some (.int .i64 (h : Int)) := by rw [hpb5.cell]; rfl
        have hp1 : w5.cell? ⟨w.heap.size, 1, none⟩ = some (.int .i64 (s : Int)) := by rw [hpb5.cell]; rfl
        obtain ⟨tg1, htg1⟩ : ∃ tg1 : Tg, tg1 = if w1.heap.size + 1 ∈ G' then setTg tg (w1.heap.size + 1) (9, h, s) else tg := ⟨_, rfl⟩
        have hu1 : TgUp w tg tg1 := fun b hb => by
          rw [htg1]
          split
          · exact setTg_ne _ _ (by have := HSz.out; omega)
          · rfl
        have hG1 : ∀ g, g ∈ G' → tg1 g = (9, h, s) := fun g hg => by
          rcases HG4.out g hg with h1 | h1
          · rw [hu1 g (HLf.out.lt g h1), HG.out g h1]
          · subst h1; rw [htg1, if_pos hg, setTg_at]
        have hk1 : TgOk w5.drew tg1 := fun b hb => by
          have h45 : w4.heap.size ≤ w5.heap.size := hF5.out.size
          show b < w5.heap.size
          rw [htg1] at hb
          split at hb
          · rename_i hin
            by_cases e : b = w1.heap.size + 1
            · have := HL4.out.lt _ hin; omega
            · rw [setTg_ne _ _ e] at hb
              have := HR.out.tok b hb
              have := HFw4.out.size
              omega
          · have := HR.out.tok b hb
            have := HFw4.out.size
            omega
        have hfw5 : Fr (kb :: G) w w5 := ((HFw4.out.drew).mono (G := kb :: G) (fun x hx => .inl (List.mem_cons_of_mem _ hx))).trans hF5.out (fun x hx => .inl (by simp at hx; simp [hx]))
        have hk5 : ∀ b, b ∈ kb :: G → (tg b).1 = 2 ∨ (tg b).1 = 9 := fun b hb => by
          rcases List.mem_cons.1 hb with rfl | hb
          · left; rw [HR.out.kn.tag]
          · right; exact HK0.out b hb
        have hkn5 : Kn w5 tg1 kb per n (σ.put per h s 1 (plus σ h c)) _ := HR.out.kn.up (k := 1) (g := plus σ h c) (tg' := tg1) hh hs (by decide) (HFw4.out.drew) (fun b hb => by rw [HG.out b hb]; simp) hu1 hM5.out hF5.out
          (.inl ⟨rfl, A', c', G', D, by rw [HDL.out], by rw [HDL.out]; exact HL4.out.drew, hG1, HDup.out, HDm.out, by rw [HDL.out]; omega⟩)
        have hX5 : Ix w5.drew tg1 6 sB n (fun h s => σ.way h s ≠ 0) Vs := (HR.out.src.fr hfw5 (fun b hb => by have := hk5 b hb; omega) hu1).fr ((Fr.refl [] w5).drew) (fun _ hb => by cases hb) (TgUp.refl _ _)
        have hY5 : Ix w5.drew tg1 7 hB n (fun s h => σ.way h s ≠ 0) Vh := (HR.out.hom.fr hfw5 (fun b hb => by have := hk5 b hb; omega) hu1).fr ((Fr.refl [] w5).drew) (fun _ hb => by cases hb) (TgUp.refl _ _)
        have hZ5 : Fi w5.drew tg1 fB n (fun h s => σ.way h s = 2) Vf := (HR.out.fin.fr hfw5 (fun b hb => by have := hk5 b hb; omega) hu1).fr ((Fr.refl [] w5).drew) (fun _ hb => by cases hb) (TgUp.refl _ _)
        have HP1 := hide (rput_any hX5 (by decide) hh hs hn)
        have HKn5 := hide (hkn5.fr ((Fr.refl [] w5).drew) (fun _ hb => by cases hb) (TgUp.refl _ _))
        have HY5 := hide hY5
        have HZ5 := hide hZ5
        have HU1 := hide hu1
        have HK1 := hide hk1
        have HSt5 := hide hst5
        have HPb5 := hide hpb5
        have HFw5 := hide hfw5
        have HKk5 := hide hk5
        have htp1 : (tg1 w.heap.size).1 = 0 ∧ tg1 sb = (1, 0, 0) := by
          refine ⟨?_, (hu1 _ N0).trans HR.out.tst⟩
          have e : tg1 w.heap.size = tg w.heap.size := by
            rw [htg1]
            split
            · exact setTg_ne _ _ (by have := HSz.out; omega)
            · rfl
          rw [e]
          rcases Nat.eq_zero_or_pos (tg w.heap.size).1 with h0 | h0
          · exact h0
          · exact absurd (HR.out.tok _ (by omega)) (Nat.lt_irrefl _)
        have HTp1 := hide htp1
        have N5 : sb < w5.heap.size := Blk.lt hst5
        clear hkb5 hst5 hpb5 htg1 hu1 hG1 hk1 hfw5 hk5 hkn5 hX5 hY5 hZ5 htp1
        refine region_tail 8 (by kernel_rfl) (by kernel_rfl) ?_
        simp only [List.take_succ_cons, List.take_zero, List.drop_succ_cons, List.drop_zero]
        repeat still_step
        refine wpStill_nil ?_
        go_wp2_with (go_at_call 50; refine HP1.out.mono ?_; rintro e w6 ⟨V1, tg2, F1, rfl, hix6, hf6, hk6, hu6, ht6⟩)
        clear hc3 hp0 hp1
        have hst6 : St w6 sb kb sB hB fB per n := St.fr (St.fr HSt5.out ((Fr.refl [] w5).drew) (by simp)) hf6 (fun hb => by have := hk6 _ hb; rw [HTp1.out.2] at this; simp at this)
        have hpb6 : Blk w6 w.heap.size 76 #[.int .i64 (h : Int), .int .i64 (s : Int)] := (HPb5.out.drew).fr hf6 (fun hb => by have := hk6 _ hb; rw [HTp1.out.1] at this; simp at this)
        have hc4 := hst6.c4
        have hp0 : w6.cell? ⟨w.heap.size, 0, none⟩ = some (.int .i64 (h : Int)) := by rw [hpb6.cell]; rfl
        have hp1 : w6.cell? ⟨w.heap.size, 1, none⟩ = some (.int .i64 (s : Int)) := by rw [hpb6.cell]; rfl
        have hY6 : Ix w6.drew tg2 7 hB n (fun s h => σ.way h s ≠ 0) Vh := (HY5.out.fr hf6 (fun b hb => by have := hk6 b hb; omega) hu6).fr ((Fr.refl [] w6).drew) (fun _ hb => by cases hb) (TgUp.refl _ _)
        have HP2 := hide (rput_any hY6 (by decide) hs hh hn)
        have HKn6 := hide ((HKn5.out.fr hf6 (fun b hb => by have := hk6 b hb; omega) hu6).fr ((Fr.refl [] w6).drew) (fun _ hb => by cases hb) (TgUp.refl _ _))
        have HZ6 := hide ((HZ5.out.fr hf6 (fun b hb => by have := hk6 b hb; omega) hu6).fr ((Fr.refl [] w6).drew) (fun _ hb => by cases hb) (TgUp.refl _ _))
        have HX6 := hide (hix6.fr ((Fr.refl [] w6).drew) (fun _ hb => by cases hb) (TgUp.refl _ _))
        have HF6 := hide hf6
        have HK6 := hide hk6
        have HU6 := hide hu6
        have HT6 := hide ht6
        clear hix6 hf6 hk6 hu6 ht6 hst6 hpb6 hY6
        refine region_tail 8 (by kernel_rfl) (by kernel_rfl) ?_
        simp only [List.take_succ_cons, List.take_zero, List.drop_succ_cons, List.drop_zero]
        repeat still_step
        refine wpStill_nil ?_
        go_wp2_with (go_at_call 50; refine HP2.out.mono ?_; rintro e w7 ⟨V2, tg3, F2, rfl, hix7, hf7, hk7, hu7, ht7⟩)
        go_end0
        have hwW := HWY.out
        have hWl := HE.out
        have hadd : addS σ per n h c = σ.put per h s 1 (plus σ h c) := by
          unfold addS
          rw [HCs.out, if_neg (by rw [hwW]; omega), if_pos (by rw [← HCnt.out]; omega)]
        rw [hadd]
        have hF7 : Fr ((kb :: G) ++ F1 ++ F2) w w7 := (((HFw5.out.drew).mono (G := (kb :: G) ++ F1 ++ F2) (fun x hx => .inl (List.mem_append_left _ (List.mem_append_left _ hx)))).trans HF6.out (fun x hx => .inl (by simp [hx]))).drew.trans hf7 (fun x hx => .inl (by simp [hx]))
        have hu13 : TgUp w tg tg3 := (HU1.out.trans HU6.out HFw5.out.size).trans hu7 (Nat.le_trans HFw5.out.size (show w5.drew.heap.size ≤ w6.drew.heap.size from HF6.out.size))
        have hu12 : TgUp w tg tg2 := HU1.out.trans HU6.out HFw5.out.size
        have hkall : ∀ b, b ∈ ((kb :: G) ++ F1 ++ F2).filter (· < w.heap.size) → (tg b).1 ≠ 0 ∧ (tg b).1 ≠ 1 := fun b hb => by
          obtain ⟨h1, h2⟩ := List.mem_filter.1 hb
          have hbl : b < w.heap.size := by simpa using h2
          rcases List.mem_append.1 h1 with h3 | h3
          · rcases List.mem_append.1 h3 with h4 | h4
            · have := HKk5.out b h4; omega
            · have := HK6.out b h4; rw [HU1.out b hbl] at this; omega
          · have := hk7 b h3; rw [hu12 b hbl] at this; omega
        refine ⟨tg3, _, V1, V2, Vf, _, rfl, ⟨HR.out.ok.put (fun _ => ⟨hh, hs, hne, by decide⟩) (fun x hx hp => ?_), HR.out.st.fr (Fr_old hF7) (fun hb => by have := (hkall _ hb).2; rw [HR.out.tst] at this; simp at this), (hu13 _ N0).trans HR.out.tst, ht7 (HT6.out HK1.out), HKn6.out.fr hf7 (fun b hb => by have := hk7 b hb; omega) hu7,
          (HX6.out.fr hf7 (fun b hb => by have := hk7 b hb; omega) hu7).congr (fun a _ b _ => ?_), hix7.congr (fun a _ b _ => ?_), (HZ6.out.fr hf7 (fun b hb => by have := hk7 b hb; omega) hu7).congr (fun a _ b _ => ?_)⟩, Fr_old hF7, fun b hb => (hkall b hb).1, hu13⟩
        · unfold plus at hp
          rcases Bool.or_eq_true_iff.1 hp with h4 | h4
          · exact ⟨(HR.out.ok.can h x h4).1, .inl rfl⟩
          · have : x = c := by simpa using h4
            subst this; exact ⟨hc, .inl rfl⟩
        · by_cases e : a = h ∧ b = s
          · obtain ⟨rfl, rfl⟩ := e; simp [RS.way_at]
          · rw [RS.way_ne _ _ _ _ e]; simp [e]
        · by_cases e : b = h ∧ a = s
          · obtain ⟨rfl, rfl⟩ := e; simp [RS.way_at]
          · rw [RS.way_ne _ _ _ _ e]
            constructor
            · rintro (h1 | ⟨h1, h2⟩)
              · exact h1
              · exact absurd ⟨h2, h1⟩ e
            · exact fun h1 => .inl h1
        · by_cases e : a = h ∧ b = s
          · obtain ⟨rfl, rfl⟩ := e; rw [RS.way_at, hwW]; omega
          · rw [RS.way_ne _ _ _ _ e]
end Go.Proofs.YtkbffmmomoeaiaaDoor
