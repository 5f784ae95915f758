/- Package remset: Has. -/
import Derived.Test.YtkbffmmomoeaiaaDoorSa
namespace Go.Proofs.YtkbffmmomoeaiaaDoor
set_option linter.unusedVariables false
open Go.RowKit Go.Gl

theorem drewN_two (w : World) (i q : Nat) : (w.drewN i).drewN q = w.drewN (i + q) := by simp [World.drewN, Nat.add_assoc]
/-- What Has answers. -/
def hasI (σ : RS) (per n : Nat) (a c : Int) : Bool := decide (0 ≤ c ∧ c < ((n * per : Nat) : Int)) && decide (0 ≤ a) && (σ.way a.toNat (c.toNat / per) == 3 || σ.has a.toNat c.toNat)
def hasN (σ : RS) (per h c : Nat) : Bool := σ.way h (c / per) == 3 || σ.has h c
theorem hasI_at (σ : RS) (per n h c : Nat) (hc : c < n * per) : hasI σ per n (h : Int) (c : Int) = hasN σ per h c := by
  have h1 : (c : Int) < ((n * per : Nat) : Int) := by omega
  simp [hasI, hasN, -Int.natCast_mul, h1]
theorem hasI_no {σ : RS} {per n : Nat} {a c : Int} (h : ¬ (0 ≤ c ∧ c < ((n * per : Nat) : Int))) : hasI σ per n a c = false := by unfold hasI; rw [decide_eq_false h]; rfl
theorem rhas_nil (a c : Int) (w : World) : Calls Tryd.prog 20 #[.pointer none, .int .i64 a, .int .i64 c] w fun e w' => e = .returned (.bool false) ∧ w = w' := by
  go_enter Tryd.func20, Tryd.ntmps20
  go_wp2
  go_ret
  exact ⟨rfl, rfl⟩
section
variable {w : World} {tg : Tg} {sb kb sB hB fB per n : Nat} {σ : RS} {fk : Value → Option Value} {Vs Vh Vf : Nat → Value}
set_option maxRecDepth 100000 in
set_option maxHeartbeats 1600000 in
theorem rhas_any (h : Rs w tg sb kb sB hB fB per n σ fk Vs Vh Vf) (a c : Int) (wa : (Lit.int .i64 a).wf = true) :
    Calls Tryd.prog 20 #[.pointer (some ⟨sb, 0, none⟩), .int .i64 a, .int .i64 c] w fun e w' => e = .returned (.bool (hasI σ per n a c)) ∧ Fr [] w w' := by
  have HC : Hid (∀ c, Calls Tryd.prog 33 #[.pointer (some ⟨sb, 0, none⟩), .int .i64 c] w fun e w' => e = .returned (.bool (decide (0 ≤ c ∧ c < ((n * per : Nat) : Int)))) ∧ w = w') := fun c => isCard_any h.st h.ok.dim c
  by_cases hc : 0 ≤ c ∧ c < ((n * per : Nat) : Int)
  case neg =>
    have hI := hasI_no (σ := σ) (a := a) hc
    have hdec : decide (0 ≤ c ∧ c < ((n * per : Nat) : Int)) = false := by simp only [hc]; rfl
    have HC1 := HC.out c
    rw [hdec] at HC1
    rw [hI]
    clear hdec hI HC h
    go_enter Tryd.func20, Tryd.ntmps20
    go_wp2_with (go_at_call 33; refine HC1.mono ?_; rintro e w' ⟨rfl, rfl⟩)
    go_ret
    exact ⟨rfl, Fr.refl _ _⟩
  case pos =>
    have hdec : decide (0 ≤ c ∧ c < ((n * per : Nat) : Int)) = true := by simp only [hc]; rfl
    have HC1 := HC.out c
    rw [hdec] at HC1
    obtain ⟨hc0, hc1⟩ := hc
    obtain ⟨m, rfl⟩ := Int.eq_ofNat_of_zero_le hc0
    have hm : m < n * per := by omega
    have hd := h.ok.dim
    have hb := hd.back (c := m)
    have hsn := hd.div hm
    have HS : Hid (∀ w', Fr [] w w' → Calls Tryd.prog 34 #[.pointer (some ⟨sb, 0, none⟩), .int .i64 (m : Int)] w' fun e w'' => e = .returned (.int .i64 ((m / per : Nat) : Int)) ∧ w' = w'') := fun w' hf => sourceOf_any (h.st.fr hf (by simp)) hd hm
    have HW : Hid (∀ w', Fr [] w w' → Calls Tryd.prog 38 #[.pointer (some ⟨sb, 0, none⟩), .int .i64 (m : Int)] w' fun e w'' => e = .returned (.int .i64 ((m % per : Nat) : Int)) ∧ w' = w'') := fun w' hf => within_any (h.st.fr hf (by simp)) hd hm
    obtain ⟨l, hl⟩ := pairKey a ((m / per : Nat) : Int) wa (wf_nat (by have := hd.p2; have := Nat.div_le_self m per; omega))
    have c2 := h.st.c2
    have N0 : sb < w.heap.size := Blk.lt h.st
    have HL : Hid (∀ w' v, Fr [] w w' → (fk (pairV a ((m / per : Nat) : Int))).getD (memOf 0 (.slice none 0 0) (.pointer none)) = v → (Instr.lookup 55 (.map (some kb)) (.agg #[.int .i64 a, .int .i64 ((m / per : Nat) : Int)]) false).run Tryd.prog w' = .ok v w') := fun w' v hf hv => by
      rw [← hv]; exact (h.kn.mp.fr0 hf).look Tryd.pairLaw Tryd.underlying55 (zeroMem w') hl
    have hat := h.kn.at h.ok a ((m / per : Nat) : Int)
    have HI : hasI σ per n a (m : Int) = (decide (0 ≤ a) && hasN σ per a.toNat m) := by unfold hasI hasN; rw [hdec]; simp
    rw [HI]
    have HA : Hid (∃ (W : Nat) (A : Option Addr) (ln c : Nat) (k : Option Addr), (fk (pairV a ((m / per : Nat) : Int))).getD (memOf 0 (.slice none 0 0) (.pointer none)) = .agg #[.int .i64 (W : Int), .slice A ln c, .pointer k] ∧
        ((W = 1 ∧ k = none ∧ ∃ l : List Int, ln = l.length ∧ Sl w A l.length (fun k => .int .i64 (l.getD k 0)) ∧ l.length ≤ 4 ∧ (decide (0 ≤ a) && hasN σ per a.toNat m) = decide ((m : Int) ∈ l)) ∨
         (W = 2 ∧ ∃ bs bw ws, k = some ⟨bs, 0, none⟩ ∧ BSet w bs bw per ws ∧ (decide (0 ≤ a) && hasN σ per a.toNat m) = inB ws ((m % per : Nat) : Int)) ∨
         (W = 3 ∧ (decide (0 ≤ a) && hasN σ per a.toNat m) = true) ∨
         (W = 0 ∧ (decide (0 ≤ a) && hasN σ per a.toNat m) = false))) := by
      rcases hat with ⟨x, s, rfl, es, hx, hs, hw, v, e1, e2⟩ | ⟨e1, e2⟩
      · obtain rfl : m / per = s := by exact_mod_cast es
        have EA : (decide (0 ≤ (x : Int)) && hasN σ per (x : Int).toNat m) = hasN σ per x m := by simp
        rw [EA, e1]
        rcases e2 with ⟨e, A, k, G, l', rfl, hl1, _, hl2⟩ | ⟨e, bs, bw, ws, rfl, hl1, _, _, hl2⟩ | ⟨e, rfl⟩
        · refine ⟨1, _, _, _, _, rfl, .inl ⟨rfl, rfl, l', rfl, hl1.slz, hl2.len, ?_⟩⟩
          unfold hasN
          rw [e]
          have := hl2.mem (m : Int)
          cases hh : σ.has x m with
          | true => have h2 : (m : Int) ∈ l' := this.2 ⟨m, rfl, rfl, hh⟩
                    simp [h2]
          | false =>
            have h2 : (m : Int) ∉ l' := fun h2 => by
              obtain ⟨c, hc, _, hc2⟩ := this.1 h2
              obtain rfl : m = c := by omega
              rw [hh] at hc2; cases hc2
            simp [h2]
        · refine ⟨2, _, _, _, _, rfl, .inr (.inl ⟨rfl, bs, bw, ws, rfl, hl1, ?_⟩)⟩
          unfold hasN inB
          rw [e]
          have := hl2 (m % per) hb.2
          rw [hb.1] at this
          have e3 : decide ((0 : Int) ≤ ((m % per : Nat) : Int)) = true := decide_eq_true (Int.natCast_nonneg _)
          rw [e3, Int.toNat_natCast, this]
          simp
        · exact ⟨3, _, _, _, _, rfl, .inr (.inr (.inl ⟨rfl, by unfold hasN; rw [e]; simp⟩))⟩
      · refine ⟨0, none, 0, 0, none, by rw [e1]; rfl, .inr (.inr (.inr ⟨rfl, ?_⟩))⟩
        by_cases ha : 0 ≤ a
        · obtain ⟨x, rfl⟩ := Int.eq_ofNat_of_zero_le ha
          have hw0 : σ.way x (m / per) = 0 := by
            rcases Nat.eq_zero_or_pos (σ.way x (m / per)) with h0 | h0
            · exact h0
            · exact absurd ⟨x, m / per, rfl, rfl, by omega⟩ e2
          have hh : σ.has x m = false := by
            cases hh : σ.has x m with
            | false => rfl
            | true => rcases (h.ok.can x m hh).2 with h1 | h1 <;> omega
          simp [hasN, hw0, hh]
        · simp [ha]
    obtain ⟨W, A, ln, ca, k, hget, HX⟩ := HA.out
    have HX1 := hide HX
    have K1 := HL.out w.drew _ ((Fr.refl _ _).drew) hget
    have K2 := fun o => HL.out (w.alloc o).drew _ (((Fr.refl _ _).alloc o).drew) hget
    generalize (decide (0 ≤ a) && hasN σ per a.toNat m) = B at *
    generalize m / per = q at *
    generalize m % per = r at *
    clear HL HA HX hget hat hdec HI HC h hl hd hb
    go_enter Tryd.func20, Tryd.ntmps20
    go_wp2_with (go_at_call 33; refine HC1.mono ?_; rintro e w' ⟨rfl, rfl⟩)
    go_cut [7] from 16 to 25 (fun p wx => p = .pointer (some ⟨w.heap.size, 0, none⟩) ∧ wx = (w.alloc (.cells #[.int .i64 (W : Int), .slice A ln ca, .pointer k] 82)).drew)
    case first =>
      go_region_with (go_at_call 34; first | (refine (HS.out _ ((Fr.refl _ _).drew)).mono ?_; rintro e w' ⟨rfl, rfl⟩) | (refine (HS.out _ (((Fr.refl _ _).alloc _).drew)).mono ?_; rintro e w' ⟨rfl, rfl⟩))
      all_goals
        go_wp2_with fail
        go_meet
        case rel => exact ⟨rfl, rfl⟩
    case rest =>
      obtain ⟨rfl, rfl⟩ := hcut
      have hF : Fr [] w (w.alloc (.cells #[.int .i64 (W : Int), .slice A ln ca, .pointer k] 82)).drew := ((Fr.refl _ _).alloc _).drew
      have hb := (Blk.new w 82 #[.int .i64 (W : Int), .slice A ln ca, .pointer k]).drew
      have HF := hide hF
      rcases HX1.out with ⟨rfl, rfl, l', rfl, hsl, hlen, rfl⟩ | ⟨rfl, bs, bw, ws, rfl, hset, rfl⟩ | ⟨rfl, rfl⟩ | ⟨rfl, rfl⟩
      · have HQ := hide (contains_sl (c := ca) (hsl.fr hF (by simp)) (by omega) (m : Int))
        clear HX1 K1 K2 hF hsl
        have hb0 := hb.cell 0
        have hb1 := hb.cell 1
        simp only [List.getElem?_toArray, List.getElem?_cons_zero, List.getElem?_cons_succ] at hb0 hb1
        generalize (w.alloc (.cells #[.int .i64 ((1 : Nat) : Int), .slice A l'.length ca, .pointer none] 82)).drew = w2 at *
        go_wp2_with (go_at_call 36; refine HQ.out.mono ?_; rintro e w' ⟨rfl, rfl⟩)
        go_ret
        exact ⟨rfl, HF.out⟩
      · have HW1 : Hid (∀ i, Calls Tryd.prog 38 #[.pointer (some ⟨sb, 0, none⟩), .int .i64 (m : Int)] (((w.alloc (.cells #[.int .i64 ((2 : Nat) : Int), .slice A ln ca, .pointer (some ⟨bs, 0, none⟩)] 82)).drew).drewN i) fun e w'' => e = .returned (.int .i64 (r : Int)) ∧ ((w.alloc (.cells #[.int .i64 ((2 : Nat) : Int), .slice A ln ca, .pointer (some ⟨bs, 0, none⟩)] 82)).drew).drewN i = w'') := fun i => HW.out _ (hF.drewN i)
        have HQ : Hid (∀ i, Calls Tryd.prog 37 #[.pointer (some ⟨bs, 0, none⟩), .int .i64 (r : Int)] (((w.alloc (.cells #[.int .i64 ((2 : Nat) : Int), .slice A ln ca, .pointer (some ⟨bs, 0, none⟩)] 82)).drew).drewN i) fun e w'' => e = .returned (.bool (inB ws (r : Int))) ∧ ∃ m, w'' = ((w.alloc (.cells #[.int .i64 ((2 : Nat) : Int), .slice A ln ca, .pointer (some ⟨bs, 0, none⟩)] 82)).drew).drewN m) := fun i => (has_any ((hset.fr hF (by simp) (by simp)).drewN i) (r : Int)).mono fun e w' h => ⟨h.1, by obtain ⟨q, hq⟩ := h.2; exact ⟨i + q, by rw [hq, drewN_two]⟩⟩
        clear HX1 K1 K2 hF hset HW
        have hb0 := hb.cell 0
        have hb2 := hb.cell 2
        simp only [List.getElem?_toArray, List.getElem?_cons_zero, List.getElem?_cons_succ] at hb0 hb2
        generalize (w.alloc (.cells #[.int .i64 ((2 : Nat) : Int), .slice A ln ca, .pointer (some ⟨bs, 0, none⟩)] 82)).drew = w2 at *
        go_wp2_with fail
        go_quiet ((first | (go_at_call 38; exact quiet_left (HW1.out _)) | (go_at_call 37; exact HQ.out _)))
        go_wp2
        go_ret
        exact ⟨rfl, HF.out.drewN _⟩
      · clear HX1 K1 K2 hF HW
        have hb0 := hb.cell 0
        simp only [List.getElem?_toArray, List.getElem?_cons_zero] at hb0
        generalize (w.alloc (.cells #[.int .i64 ((3 : Nat) : Int), .slice A ln ca, .pointer k] 82)).drew = w2 at *
        go_wp2_with fail
        go_ret
        exact ⟨rfl, HF.out⟩
      · clear HX1 K1 K2 hF HW
        have hb0 := hb.cell 0
        simp only [List.getElem?_toArray, List.getElem?_cons_zero] at hb0
        generalize (w.alloc (.cells #[.int .i64 ((0 : Nat) : Int), .slice A ln ca, .pointer k] 82)).drew = w2 at *
        go_wp2_with fail
        go_ret
        exact ⟨rfl, HF.out⟩
end
end Go.Proofs.YtkbffmmomoeaiaaDoor
