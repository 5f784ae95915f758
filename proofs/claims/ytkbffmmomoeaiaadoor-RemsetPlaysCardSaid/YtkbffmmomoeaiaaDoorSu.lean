/- Package remset: how many cards, which source has the most. -/
import Derived.Test.YtkbffmmomoeaiaaDoorSx
import Derived.Test.YtkbffmmomoeaiaaDoorSk
import Derived.Test.YtkbffmmomoeaiaaDoorSb
import Derived.Deep.RegionHeld3
namespace Go.Proofs.YtkbffmmomoeaiaaDoor
set_option linter.unusedVariables false
set_option linter.unusedSimpArgs false
open Go.RowKit Go.Gl

def cntS (σ : RS) (per h s : Nat) : Nat := cnt (fun i => σ.has h (s * per + i)) 0 per
theorem cntS_le (σ : RS) (per h s : Nat) : cntS σ per h s ≤ per := cnt_le _ _ _
theorem cntR_cntS {ws : List Nat} {per h s : Nat} {σ : RS} (hlen : ws.length = (per + 63) / 64) (hw : ∀ i, i < per → wbit ws i = σ.has h (s * per + i)) : cntR ws 0 (per : Int) = cntS σ per h s := by
  unfold cntR cntS
  rw [show ws.length * 64 = per + (ws.length * 64 - per) by omega, cnt_add, cnt_none (p := fun j => wbit ws j && decide ((0 : Int) ≤ (j : Int) ∧ (j : Int) < (per : Int))) (a := 0 + per) (by intro j hj; simp; intro _; omega), Nat.add_zero]
  refine cnt_congr fun j hj => ?_
  rw [Nat.zero_add, hw j hj]
  have : decide ((0 : Int) ≤ (j : Int) ∧ (j : Int) < (per : Int)) = true := decide_eq_true (by omega)
  rw [this, Bool.and_true]
section
variable {w : World} {tg : Tg} {sb kb sB hB fB per n : Nat} {σ : RS} {fk : Value → Option Value}
set_option maxRecDepth 100000 in
set_option maxHeartbeats 1600000 in
theorem count_fine (hst : St w sb kb sB hB fB per n) (hd : Dim per n) (hk : Kn w tg kb per n σ fk) {h s : Nat} (hh : h < n) (hs : s < n) (hw : σ.way h s = 2) :
    Calls Tryd.prog 86 #[.pointer (some ⟨sb, 0, none⟩), .int .i64 (h : Int), .int .i64 (s : Int)] w fun e w' => e = .returned (.int .i64 (cntS σ per h s : Int)) ∧ ∃ q, w' = w.drewN q := by
  have hn := hd.n2
  have hp3 := hd.p3
  obtain ⟨v, hv, hm⟩ := hk.mem h s hh hs (by omega)
  rcases hm with ⟨e, _⟩ | ⟨_, bs, bw, ws, rfl, hset, _, _, hws⟩ | ⟨e, _⟩
  · omega
  · have hcnt := cntR_cntS hset.len hws
    obtain ⟨lt, hlt⟩ := pairKey (h : Int) (s : Int) (wf_nat (by omega)) (wf_nat (by omega))
    have c2 := hst.c2
    have c1 := hst.c1
    have hlk : ∀ i, (Instr.lookup 55 (.map (some kb)) (.agg #[.int .i64 (h : Int), .int .i64 (s : Int)]) false).run Tryd.prog (w.drewN i) = .ok (.agg #[.int .i64 2, .slice none 0 0, .pointer (some ⟨bs, 0, none⟩)]) (w.drewN i) := fun i => by
      have := (hk.mp.fr0 ((Fr.refl [] w).drewN i)).look Tryd.pairLaw Tryd.underlying55 (zeroMem _) hlt
      rw [hv] at this; exact this
    have hfd : ∀ i, (Instr.field 82 (.agg #[.int .i64 2, .slice none 0 0, .pointer (some ⟨bs, 0, none⟩)]) 2).run Tryd.prog (w.drewN i) = .ok (.pointer (some ⟨bs, 0, none⟩)) (w.drewN i) := fun i => field_many _ _ _ _
    have HQ : Hid (∀ i, Calls Tryd.prog 93 #[.pointer (some ⟨bs, 0, none⟩), .int .i64 0, .int .i64 (per : Int)] (w.drewN i) fun e w'' => e = .returned (.int .i64 (cntS σ per h s : Int)) ∧ ∃ m, w'' = w.drewN m) := fun i => (count_any (hset.drewN i) 0 (per : Int) (by omega) (by omega) (by omega) (by omega)).mono fun e w' h => ⟨by rw [h.1, hcnt], by obtain ⟨q, hq⟩ := h.2; exact ⟨i + q, by rw [hq, drewN_two]⟩⟩
    clear hst hk hset hws hcnt hlt hv hd
    generalize cntS σ per h s = C at *
    go_enter Tryd.func86, Tryd.ntmps86
    go_wp2_with fail
    go_quiet ((go_at_call 93; exact HQ.out _))
    go_wp2
    go_ret
    exact ⟨rfl, _, rfl⟩
  · omega
end
theorem or_two {w : World} {ab : Nat} {x y : Int} {t : TypeId} (h : Blk w ab t #[.int .i64 x, .int .i64 y]) : Calls Tryd.prog 84 #[.slice (some ⟨ab, 0, none⟩) 2 2] w fun e w' => e = .returned (.int .i64 (if x ≠ 0 then x else y)) ∧ w = w' := by
  have c0 := h.cell 0
  have c1 := h.cell 1
  simp only [List.getElem?_toArray, List.getElem?_cons_zero, List.getElem?_cons_succ] at c0 c1
  clear h
  by_cases hx : x = 0
  · subst hx
    by_cases hy : y = 0
    · subst hy
      go_enter Tryd.func84, Tryd.ntmps84
      go_wp2
      refine wp_loop_rounds 3 ?_
      rw [rounds_succ]
      go_wp2
      rw [rounds_succ]
      go_wp2
      rw [rounds_succ]
      go_wp2
      go_ret
      exact ⟨rfl, rfl⟩
    · have hy1 : (y != 0) = true := by simp [hy]
      go_enter Tryd.func84, Tryd.ntmps84
      go_wp2
      refine wp_loop_rounds 3 ?_
      rw [rounds_succ]
      go_wp2
      rw [rounds_succ]
      go_wp2
      go_ret
      exact ⟨rfl, rfl⟩
  · have hx1 : (x != 0) = true := by simp [hx]
    rw [if_pos hx]
    go_enter Tryd.func84, Tryd.ntmps84
    go_wp2
    refine wp_loop_rounds 3 ?_
    rw [rounds_succ]
    go_wp2
    go_ret
    exact ⟨rfl, rfl⟩
def cmp3 (x y : Int) : Int := if x < y then -1 else if x > y then 1 else 0
/-- How two sources compare: by the number of cards, then the lower one is the greater. -/
def cmpV (σ : RS) (per h a b : Nat) : Int := if cmp3 (cntS σ per h a) (cntS σ per h b) ≠ 0 then cmp3 (cntS σ per h a) (cntS σ per h b) else cmp3 (b : Int) (a : Int)
theorem cmpV_pos (σ : RS) (per h a b : Nat) : 0 < cmpV σ per h a b ↔ cntS σ per h b < cntS σ per h a ∨ (cntS σ per h b = cntS σ per h a ∧ a < b) := by
  unfold cmpV cmp3
  generalize cntS σ per h a = ca
  generalize cntS σ per h b = cb
  by_cases h1 : (ca : Int) < (cb : Int)
  · rw [if_pos h1]
    simp
    omega
  · rw [if_neg h1]
    by_cases h2 : (ca : Int) > (cb : Int)
    · rw [if_pos h2]
      simp
      omega
    · rw [if_neg h2]
      simp only [ne_eq, not_true_eq_false, if_false]
      by_cases h3 : (b : Int) < (a : Int)
      · rw [if_pos h3]; omega
      · rw [if_neg h3]
        by_cases h4 : (b : Int) > (a : Int)
        · rw [if_pos h4]; omega
        · rw [if_neg h4]; omega
section
variable {w : World} {tg : Tg} {sb kb sB hB fB per n : Nat} {σ : RS} {fk : Value → Option Value}
set_option maxRecDepth 100000 in
set_option maxHeartbeats 1600000 in
theorem mostCmp_any (hst : St w sb kb sB hB fB per n) (hd : Dim per n) (hk : Kn w tg kb per n σ fk) {h a b cs ch : Nat} (hh : h < n) (ha : a < n) (hb : b < n) (hwa : σ.way h a = 2) (hwb : σ.way h b = 2) (k0 : w.cell? ⟨cs, 0, none⟩ = some (.pointer (some ⟨sb, 0, none⟩))) (k1 : w.cell? ⟨ch, 0, none⟩ = some (.int .i64 (h : Int))) :
    Calls Tryd.prog 83 #[.int .i64 (a : Int), .int .i64 (b : Int), .pointer (some ⟨cs, 0, none⟩), .pointer (some ⟨ch, 0, none⟩)] w fun e w' => e = .returned (.int .i64 (cmpV σ per h a b)) ∧ Fr [] w w' := by
  have HS : Hid (∀ w', Fr [] w w' → w'.cell? ⟨cs, 0, none⟩ = some (.pointer (some ⟨sb, 0, none⟩)) ∧ w'.cell? ⟨ch, 0, none⟩ = some (.int .i64 (h : Int))) := fun w' hf => ⟨(hf.cell (lt_of_cell k0) (by simp)).trans k0, (hf.cell (lt_of_cell k1) (by simp)).trans k1⟩
  have HA : Hid (∀ w', Fr [] w w' → Calls Tryd.prog 86 #[.pointer (some ⟨sb, 0, none⟩), .int .i64 (h : Int), .int .i64 (a : Int)] w' fun e w'' => e = .returned (.int .i64 (cntS σ per h a : Int)) ∧ Fr [] w w'') := fun w' hf => (count_fine (hst.fr hf (by simp)) hd (hk.fr hf (fun _ hb => by cases hb) (TgUp.refl _ _)) hh ha hwa).mono fun e w'' h => ⟨h.1, by obtain ⟨q, rfl⟩ := h.2; exact hf.drewN q⟩
  have HB : Hid (∀ w', Fr [] w w' → Calls Tryd.prog 86 #[.pointer (some ⟨sb, 0, none⟩), .int .i64 (h : Int), .int .i64 (b : Int)] w' fun e w'' => e = .returned (.int .i64 (cntS σ per h b : Int)) ∧ Fr [] w w'') := fun w' hf => (count_fine (hst.fr hf (by simp)) hd (hk.fr hf (fun _ hb => by cases hb) (TgUp.refl _ _)) hh hb hwb).mono fun e w'' h => ⟨h.1, by obtain ⟨q, rfl⟩ := h.2; exact hf.drewN q⟩
  have HP : Hid (∀ (x y : Int) (w' : World), Calls Tryd.prog 85 #[.int .i64 x, .int .i64 y] w' fun e w'' => e = .returned (.int .i64 (cmp3 x y)) ∧ w' = w'') := fun x y w' => compare_any x y w'
  have HV : Hid (cmpV σ per h a b = if cmp3 (cntS σ per h a) (cntS σ per h b) ≠ 0 then cmp3 (cntS σ per h a) (cntS σ per h b) else cmp3 (b : Int) (a : Int)) := rfl
  generalize cmpV σ per h a b = R at *
  generalize cntS σ per h a = ca at *
  generalize cntS σ per h b = cb at *
  have HO : Hid (∀ (w' : World), Calls Tryd.prog 84 #[.slice (some ⟨w'.heap.size, 0, none⟩) 2 2] (w'.alloc (.cells #[.int .i64 (cmp3 (ca : Int) (cb : Int)), .int .i64 (cmp3 (b : Int) (a : Int))] 3)) fun e w'' => e = .returned (.int .i64 R) ∧ w'.alloc (.cells #[.int .i64 (cmp3 (ca : Int) (cb : Int)), .int .i64 (cmp3 (b : Int) (a : Int))] 3) = w'') := fun w' => by
    have := or_two (Blk.new w' 3 #[.int .i64 (cmp3 (ca : Int) (cb : Int)), .int .i64 (cmp3 (b : Int) (a : Int))])
    rw [← HV.out] at this; exact this
  clear hst hd hk hh ha hb hwa hwb
  go_enter Tryd.func83, Tryd.ntmps83
  go_wp2_with fail
  go_region_held3 (fun w' => w'.cell? ⟨cs, 0, none⟩ = some (.pointer (some ⟨sb, 0, none⟩)) ∧ w'.cell? ⟨ch, 0, none⟩ = some (.int .i64 (h : Int)))
    (first | exact HS.out _ (by assumption) | exact HS.out _ ((Fr.refl _ _).drew) | exact HS.out _ (Fr.alloc (by assumption) _) | exact HS.out _ (Fr.alloc ((Fr.refl _ _).drew) _))
    (first
      | (go_at_call 86; first | ((with_reducible refine Calls.mono (HA.out _ (by first | assumption | exact (Fr.refl _ _).drew)) ?_); rintro e w1 ⟨rfl, hf⟩) | ((with_reducible refine Calls.mono (HB.out _ (by first | assumption | exact (Fr.refl _ _).drew)) ?_); rintro e w1 ⟨rfl, hf⟩))
      | (go_at_call 85; refine (HP.out _ _ _).mono ?_; rintro e w' ⟨rfl, rfl⟩)
      | (go_at_call 84; refine (HO.out _).mono ?_; rintro e w' ⟨rfl, rfl⟩))
  all_goals
    go_wp2_with fail
    go_ret
    exact ⟨rfl, by first | (exact Fr.alloc (by assumption) _) | assumption⟩
/-- Is a source at least as good as another one? -/
def Bet (σ : RS) (per h a b : Nat) : Prop := cntS σ per h b < cntS σ per h a ∨ (cntS σ per h b = cntS σ per h a ∧ a ≤ b)
theorem Bet.refl (σ : RS) (per h a : Nat) : Bet σ per h a a := .inr ⟨rfl, Nat.le_refl _⟩
theorem Bet.trans {σ : RS} {per h a b c : Nat} (h1 : Bet σ per h a b) (h2 : Bet σ per h b c) : Bet σ per h a c := by unfold Bet at *; omega
theorem Bet.antisymm {σ : RS} {per h a b : Nat} (h1 : Bet σ per h a b) (h2 : Bet σ per h b a) : a = b := by unfold Bet at *; omega
theorem Bet.of_not {σ : RS} {per h a b : Nat} (h1 : ¬ 0 < cmpV σ per h a b) : Bet σ per h b a := by rw [cmpV_pos] at h1; unfold Bet; omega
theorem Bet.of_pos {σ : RS} {per h a b : Nat} (h1 : 0 < cmpV σ per h a b) : Bet σ per h a b := by rw [cmpV_pos] at h1; unfold Bet; omega
/-- Of these the best. -/
def IsBest (σ : RS) (per h : Nat) (l : List Nat) (m : Nat) : Prop := m ∈ l ∧ ∀ x, x ∈ l → Bet σ per h m x
theorem IsBest.uniq {σ : RS} {per h : Nat} {l : List Nat} {m m' : Nat} (h1 : IsBest σ per h l m) (h2 : IsBest σ per h l m') : m = m' := (h1.2 _ h2.1).antisymm (h2.2 _ h1.1)
set_option maxRecDepth 100000 in
set_option maxHeartbeats 1600000 in
theorem maxFunc_any (hst : St w sb kb sB hB fB per n) (hd : Dim per n) (hk : Kn w tg kb per n σ fk) {h cs ch : Nat} (hh : h < n) (k0 : w.cell? ⟨cs, 0, none⟩ = some (.pointer (some ⟨sb, 0, none⟩))) (k1 : w.cell? ⟨ch, 0, none⟩ = some (.int .i64 (h : Int)))
    {A : Option Addr} {c : Nat} {l : List Nat} (hsl : Sl w A l.length (fun k => .int .i64 ((ints l).getD k 0))) (hl : l.length ≤ 65536) (h0 : 0 < l.length) (hfine : ∀ s, s ∈ l → s < n ∧ σ.way h s = 2) :
    Calls Tryd.prog 82 #[.slice A l.length c, .func (.func 83) #[] #[.pointer (some ⟨cs, 0, none⟩), .pointer (some ⟨ch, 0, none⟩)]] w fun e w' => ∃ m : Nat, e = .returned (.int .i64 (m : Int)) ∧ IsBest σ per h l m ∧ Fr [] w w' := by
  have HM : Hid (∀ w' (a b : Nat), Fr [] w w' → a ∈ l → b ∈ l → Calls Tryd.prog 83 #[.int .i64 (a : Int), .int .i64 (b : Int), .pointer (some ⟨cs, 0, none⟩), .pointer (some ⟨ch, 0, none⟩)] w' fun e w'' => e = .returned (.int .i64 (cmpV σ per h a b)) ∧ Fr [] w' w'') := fun w' a b hf ha hb =>
    mostCmp_any (hst.fr hf (by simp)) hd (hk.fr hf (fun _ hb => by cases hb) (TgUp.refl _ _)) hh (hfine a ha).1 (hfine b hb).1 (hfine a ha).2 (hfine b hb).2 ((hf.cell (lt_of_cell k0) (by simp)).trans k0) ((hf.cell (lt_of_cell k1) (by simp)).trans k1)
  have hlI : (1 : Int) ≤ (l.length : Int) := by omega
  have hneg : ¬ ((l.length : Int) < 1) := by omega
  obtain ⟨b, off, rfl, hbl, hcell⟩ := hsl h0
  have HC : Hid (∀ w' k, Fr [] w w' → k < l.length → w'.cell? ⟨b, off + k, none⟩ = some (.int .i64 ((l.getD k 0 : Nat) : Int))) := fun w' k hf hk => by
    rw [hf.cell (by exact hbl) (by simp), hcell k hk]
    simp [ints, hk]
  have c00 := HC.out w 0 (Fr.refl _ _) h0
  rw [Nat.add_zero] at c00
  have hm0 : l.getD 0 0 ∈ l := by rw [List.getD_eq_getElem?_getD, List.getElem?_eq_getElem h0]; exact List.getElem_mem h0
  have HM0 := hide hm0
  have h00 : (0 : Int) < (l.length : Int) := by omega
  clear hst hk hfine hsl hcell k0 k1 hm0
  go_enter Tryd.func82, Tryd.ntmps82
  go_wp2
  go_loopw [5, 6] (fun m i wr => ∃ (k m' : Nat), i = .int .i64 k ∧ 1 ≤ k ∧ k ≤ l.length ∧ m = .int .i64 (m' : Int) ∧ m' ∈ l ∧ (∀ j, j < k → Bet σ per h m' (l.getD j 0)) ∧ Fr [] w wr) (fun _ i _ => l.length - (intOf i).toNat)
  case atStart =>
    refine ⟨1, l.getD 0 0, rfl, Nat.le_refl _, h0, by simp [h0], HM0.out, fun j hj => ?_, Fr.refl _ _⟩
    obtain rfl : j = 0 := by omega
    exact Bet.refl _ _ _ _
  case round =>
    obtain ⟨k, m', rfl, hk1, hkl, rfl, hmem, hbet, hF⟩ := hrel
    have HF := hide hF
    have HMem := hide hmem
    have HBet := hide hbet
    clear hF hmem hbet
    by_cases hlt : k < l.length
    · have hlt1 : (k : Int) < (l.length : Int) := by omega
      have ck := HC.out wr k HF.out hlt
      have hmk : l.getD k 0 ∈ l := by rw [List.getD_eq_getElem?_getD, List.getElem?_eq_getElem hlt]; exact List.getElem_mem hlt
      have HC1 := hide (HM.out wr (l.getD k 0) m' HF.out hmk HMem.out)
      have HMk := hide hmk
      have HCk : Hid (∀ w', Fr [] wr w' → w'.cell? ⟨b, off + k, none⟩ = some (.int .i64 ((l.getD k 0 : Nat) : Int))) := fun w' hf => HC.out w' k (HF.out.trans_nil hf) hlt
      have HB1 : Hid (0 < cmpV σ per h (l.getD k 0) m' → ∀ j, j < k + 1 → Bet σ per h (l.getD k 0) (l.getD j 0)) := fun hp j hj => by
        rcases Nat.lt_or_ge j k with h2 | h2
        · exact (Bet.of_pos hp).trans (HBet.out j h2)
        · obtain rfl : j = k := by omega
          exact Bet.refl _ _ _ _
      have HB2 : Hid (¬ 0 < cmpV σ per h (l.getD k 0) m' → ∀ j, j < k + 1 → Bet σ per h m' (l.getD j 0)) := fun hp j hj => by
        rcases Nat.lt_or_ge j k with h2 | h2
        · exact HBet.out j h2
        · obtain rfl : j = k := by omega
          exact Bet.of_not hp
      clear hmk
      generalize cmpV σ per h (l.getD k 0) m' = R at *
      generalize hX : l.getD k 0 = X at *
      have EX := hide hX
      clear hX
      go_wp2_with (go_at_call 83; refine HC1.out.mono ?_; rintro e w2 ⟨rfl, hf2⟩; have ck2 := HCk.out w2 hf2; have HF2 := hide hf2; clear hf2)
      all_goals first
        | exact ⟨⟨k + 1, X, by go_num, by omega, by omega, rfl, HMk.out, HB1.out (by omega), HF.out.trans_nil HF2.out⟩, by simp [intOf]; omega⟩
        | exact ⟨⟨k + 1, m', by go_num, by omega, by omega, rfl, HMem.out, HB2.out (by omega), HF.out.trans_nil HF2.out⟩, by simp [intOf]; omega⟩
    · obtain rfl : l.length = k := by omega
      go_wp2
      go_ret
      refine ⟨m', rfl, ⟨HMem.out, fun x hx => ?_⟩, HF.out⟩
      obtain ⟨j, hj, rfl⟩ := List.getElem_of_mem hx
      have := HBet.out j hj
      simpa [hj] using this
set_option maxRecDepth 100000 in
set_option maxHeartbeats 1600000 in
theorem mostCards_any (hst : St w sb kb sB hB fB per n) (hd : Dim per n) (hk : Kn w tg kb per n σ fk) {h : Nat} (hh : h < n) {p : Nat → Nat → Prop} {V : Nat → Value} (hfi : Fi w tg fB n p V) (hp : ∀ s, s < n → p h s → σ.way h s = 2) (hne : ∃ s, s < n ∧ p h s) :
    Calls Tryd.prog 67 #[.pointer (some ⟨sb, 0, none⟩), .int .i64 (h : Int)] w fun e w' => ∃ m : Nat, e = .returned (.int .i64 (m : Int)) ∧ m < n ∧ p h m ∧ (∀ x, x < n → p h x → Bet σ per h m x) ∧ Fr [] w w' := by
  obtain ⟨A, c, G, l, hv, hl, hG, hnd, hmem⟩ := hfi.own h hh
  have hn := hd.n2
  have hh1 : (h : Int) < (n : Int) := by omega
  have hll : l.length ≤ 65536 := Nat.le_trans (nodup_below n l hnd (fun x hx => ((hmem x).1 hx).1)) hn
  have hpos : 0 < l.length := by
    obtain ⟨s, h1, h2⟩ := hne
    exact List.length_pos_of_mem ((hmem s).2 ⟨h1, h2⟩)
  have c5 := hst.c5
  have cf : w.cell? ⟨fB, h, none⟩ = some (V h) := by rw [hfi.row.cell, rowF_at hh]
  rw [hv] at cf
  have N0 : sb < w.heap.size := Blk.lt hst
  have N1 : fB < w.heap.size := hfi.row.lt
  obtain ⟨w2, hw2⟩ : ∃ w2, w2 = ((w.alloc (.cells #[.pointer (some ⟨sb, 0, none⟩)] 26)).alloc (.cells #[.int .i64 (h : Int)] 3)).drew := ⟨_, rfl⟩
  have hF2 : Fr [] w w2 := hw2 ▸ (((Fr.refl _ _).alloc _).alloc _).drew
  have k0 : w2.cell? ⟨w.heap.size, 0, none⟩ = some (.pointer (some ⟨sb, 0, none⟩)) := by
    rw [hw2]
    have := (((Blk.new w 26 #[.pointer (some ⟨sb, 0, none⟩)]).alloc (.cells #[.int .i64 (h : Int)] 3)).drew).cell 0
    exact this
  have k1 : w2.cell? ⟨w.heap.size + 1, 0, none⟩ = some (.int .i64 (h : Int)) := by
    rw [hw2]
    have := ((Blk.new_at (w := w.alloc (.cells #[.pointer (some ⟨sb, 0, none⟩)] 26)) (n := w.heap.size + 1) 3 #[.int .i64 (h : Int)] (by simp)).drew).cell 0
    exact this
  have HM : Hid (Calls Tryd.prog 82 #[.slice A l.length c, .func (.func 83) #[] #[.pointer (some ⟨w.heap.size, 0, none⟩), .pointer (some ⟨w.heap.size + 1, 0, none⟩)]] w2 fun e w' => ∃ m : Nat, e = .returned (.int .i64 (m : Int)) ∧ IsBest σ per h l m ∧ Fr [] w2 w') :=
    maxFunc_any (hst.fr hF2 (by simp)) hd (hk.fr hF2 (fun _ hb => by cases hb) (TgUp.refl _ _)) hh k0 k1 (by rw [← ints_len] at hl ⊢; exact (hl.fr0 hF2).slz) hll hpos (fun s hs => ⟨((hmem s).1 hs).1, hp s ((hmem s).1 hs).1 ((hmem s).1 hs).2⟩)
  have HS : Hid (∀ w', Fr [] w2 w' → w'.cell? ⟨w.heap.size, 0, none⟩ = some (.pointer (some ⟨sb, 0, none⟩)) ∧ w'.cell? ⟨w.heap.size + 1, 0, none⟩ = some (.int .i64 (h : Int)) ∧ w'.cell? ⟨sb, 5, none⟩ = some (.slice (some ⟨fB, 0, none⟩) n n) ∧ w'.cell? ⟨fB, h, none⟩ = some (.slice A l.length c)) := fun w' hf => ⟨(hf.cell (lt_of_cell k0) (by simp)).trans k0, (hf.cell (lt_of_cell k1) (by simp)).trans k1, (hF2.trans_nil hf).cell (lt_of_cell c5) (by simp) |>.trans c5, (hF2.trans_nil hf).cell (lt_of_cell cf) (by simp) |>.trans cf⟩
  have HF2 := hide hF2
  have HMem := hide hmem
  have K0 := hide (HS.out w2 (Fr.refl _ _))
  clear hst hk hfi hp hne hv hl hG hnd hmem hF2 k0 k1 hd
  subst hw2
  go_enter Tryd.func67, Tryd.ntmps67
  go_wp2_with fail
  go_region_held3 (fun w' => w'.cell? ⟨w.heap.size, 0, none⟩ = some (.pointer (some ⟨sb, 0, none⟩)) ∧ w'.cell? ⟨w.heap.size + 1, 0, none⟩ = some (.int .i64 (h : Int)) ∧ w'.cell? ⟨sb, 5, none⟩ = some (.slice (some ⟨fB, 0, none⟩) n n) ∧ w'.cell? ⟨fB, h, none⟩ = some (.slice A l.length c))
    (first | exact K0.out | exact HS.out _ (by assumption))
    (first | (go_at_call 82; (with_reducible refine Calls.mono HM.out ?_); rintro e w3 ⟨m, rfl, hb, hf⟩; have HBst := hide hb; clear hb))
  all_goals
    go_wp2_with fail
    go_ret
    exact ⟨m, rfl, ((HMem.out m).1 HBst.out.1).1, ((HMem.out m).1 HBst.out.1).2, fun x hx hpx => HBst.out.2 x ((HMem.out x).2 ⟨hx, hpx⟩), HF2.out.trans_nil (by assumption)⟩
end
end Go.Proofs.YtkbffmmomoeaiaaDoor
