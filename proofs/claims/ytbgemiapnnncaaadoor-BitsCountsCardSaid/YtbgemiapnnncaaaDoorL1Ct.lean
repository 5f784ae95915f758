/- BitsCounts: what is counted in two parts comes to the whole, and the list is what Next goes through, whatever comes in. Conditions: none but the row's own (the library's table lies as its text lays it). -/
import Derived.Test.YtbgemiapnnncaaaDoorL1
import Derived.Test.YtbgemiapnnncaaaDoorR1c
import Derived.Test.YtbgemiapnnncaaaDoorL1Ap
import Derived.Test.YtbgemiapnnncaaaDoorCard
namespace Go.Proofs.YtbgemiapnnncaaaDoor.BitsCounts
set_option linter.unusedVariables false
open Go.RowKit Go.Gl Go.ChangeShapes Go.WideShapes Go.ChangeAt

theorem cntS_put {S S' : Nat → Bool} {f t : Int} {k : Nat} (hS : ∀ j, S' j = if j = k then true else S j) (hk : S k = false) (hf : f ≤ (k : Int)) (ht : (k : Int) < t) :
    ∀ n, cntS S' f t n = cntS S f t n + (if k < n then 1 else 0) := by
  intro n
  induction n with
  | zero => rfl
  | succ n ih =>
    rw [cntS_succ, cntS_succ, ih, hS n]
    by_cases hn : n = k
    · subst hn
      rw [if_pos rfl, hk, if_neg (show ¬ n < n by omega), if_pos (show n < n + 1 by omega), show decide (f ≤ (n : Int) ∧ (n : Int) < t) = true by simp; omega]
      simp
    · rw [if_neg hn]
      by_cases h : k < n
      · rw [if_pos h, if_pos (show k < n + 1 by omega)]; omega
      · rw [if_neg h, if_neg (show ¬ k < n + 1 by omega)]; omega
theorem cntS_parts (S : Nat → Bool) {a b c : Int} (hab : a ≤ b) (hbc : b ≤ c) : ∀ n, cntS S a c n = cntS S a b n + cntS S b c n := by
  intro n
  induction n with
  | zero => rfl
  | succ n ih =>
    rw [cntS_succ, cntS_succ, cntS_succ, ih]
    cases S n
    · simp
    · simp only [Bool.true_and, decide_eq_true_eq]
      split <;> split <;> split <;> omega
theorem cntS_back (S : Nat → Bool) {a b : Int} (h : b ≤ a) (n : Nat) : cntS S a b n = 0 := by
  refine cnt_none fun j _ => ?_
  rw [Bool.and_eq_false_iff]
  right
  rw [decide_eq_false_iff_not]
  omega
theorem cntS_all (S : Nat → Bool) {f t : Int} {n : Nat} (hf : f ≤ 0) (ht : (n : Int) ≤ t) : cntS S f t n = (belowS S n).length := by
  rw [← BitsApart.count_list]
  refine cnt_congr fun j hj => ?_
  congr 1
  rw [decide_eq_decide]
  omega

/-- The list's numbers are what the next ones are. -/
theorem belowS_mem (S : Nat → Bool) (n j : Nat) : j ∈ belowS S n ↔ j < n ∧ S j = true := by
  unfold belowS
  rw [List.mem_filter, List.mem_range]
theorem belowS_rise (S : Nat → Bool) (n : Nat) : ∀ i j, (hi : i < (belowS S n).length) → (hj : j < (belowS S n).length) → i < j → (belowS S n)[i] < (belowS S n)[j] := by
  have h : (belowS S n).Pairwise (· < ·) := List.Pairwise.filter _ List.pairwise_lt_range
  exact fun i j hi hj hij => List.pairwise_iff_getElem.1 h i j hi hj hij
def nth (S : Nat → Bool) (n i : Nat) : Int := if i < (belowS S n).length then (((belowS S n).getD i 0 : Nat) : Int) else -1
theorem next_of {S : Nat → Bool} {n i : Nat} (hS : ∀ j, n ≤ j → S j = false) {a : Int} (hi : i ≤ (belowS S n).length) (ha : ∀ j : Nat, a ≤ j ↔ ∀ m, m < i → (belowS S n).getD m 0 < j) : NextS S a (nth S n i) := by
  have hmem : ∀ j, S j = true → ∃ m, ∃ hm : m < (belowS S n).length, (belowS S n)[m] = j := by
    intro j hj
    have hlt : j < n := by
      rcases Nat.lt_or_ge j n with h | h
      · exact h
      · rw [hS j h] at hj; cases hj
    exact List.getElem_of_mem ((belowS_mem S n j).2 ⟨hlt, hj⟩)
  have hr := belowS_rise S n
  unfold nth
  by_cases h : i < (belowS S n).length
  · rw [if_pos h]
    have e : (belowS S n).getD i 0 = (belowS S n)[i] := by simp [h]
    rw [e]
    refine .inr ⟨_, rfl, ?_, ((belowS_mem S n _).1 (List.getElem_mem h)).2, fun j h1 h2 => ?_⟩
    · refine (ha _).2 fun m hm => ?_
      have hml : m < (belowS S n).length := by omega
      have : (belowS S n).getD m 0 = (belowS S n)[m] := by simp [hml]
      rw [this]
      exact hr m i _ _ hm
    · cases hj : S j
      · rfl
      · obtain ⟨m, hm, hme⟩ := hmem j hj
        rcases Nat.lt_trichotomy m i with hmi | hmi | hmi
        · have := (ha j).1 h1 m hmi
          have e2 : (belowS S n).getD m 0 = (belowS S n)[m] := by simp [hm]
          omega
        · subst hmi; omega
        · have := hr i m h hm hmi; omega
  · rw [if_neg h]
    refine .inl ⟨rfl, fun j h1 => ?_⟩
    cases hj : S j
    · rfl
    · obtain ⟨m, hm, hme⟩ := hmem j hj
      have := (ha j).1 h1 m (by omega)
      have e2 : (belowS S n).getD m 0 = (belowS S n)[m] := by simp [hm]
      omega
theorem next_first {S : Nat → Bool} {n : Nat} (hS : ∀ j, n ≤ j → S j = false) : NextS S 0 (nth S n 0) :=
  next_of hS (Nat.zero_le _) fun j => ⟨fun _ m hm => absurd hm (by omega), fun _ => by omega⟩
theorem next_then {S : Nat → Bool} {n i : Nat} (hS : ∀ j, n ≤ j → S j = false) (hi : i < (belowS S n).length) : NextS S (((belowS S n).getD i 0 : Nat) + 1) (nth S n (i + 1)) := by
  refine next_of hS (by omega) fun j => ⟨fun h m hm => ?_, fun h => ?_⟩
  · have hml : m < (belowS S n).length := by omega
    have e1 : (belowS S n).getD i 0 = (belowS S n)[i] := by simp [hi]
    have e2 : (belowS S n).getD m 0 = (belowS S n)[m] := by simp [hml]
    rcases Nat.lt_or_ge m i with hmi | hmi
    · have := belowS_rise S n m i hml hi hmi; omega
    · obtain rfl : m = i := by omega
      omega
  · have := h i (by omega); omega

/-- What holds of the loop that puts: n numbers are in. -/
def Cnt (ws : List Nat) (n : Nat) : Prop := cntR ws (-5) 2000 = n
theorem cnt_new {ws ws' : List Nat} {n k : Nat} {c : Bool} (hl : ws.length = 16) (hl' : ws'.length = 16) (h : Cnt ws n) (hk : k < 1000) (hc : c = (wbit ws k != true)) (hS : ∀ j, wbit ws' j = if j = k then true else wbit ws j) :
    Cnt ws' (n + if c then 1 else 0) := by
  unfold Cnt at *
  cases hb : wbit ws k
  · have := cntS_put (f := -5) (t := 2000) hS hb (by omega) (by omega) (16 * 64)
    rw [if_pos (by omega)] at this
    rw [hb] at hc
    subst hc
    have h1 : cntR ws' (-5) 2000 = cntS (wbit ws') (-5) 2000 (16 * 64) := by unfold cntR cntS; rw [hl']
    have h2 : cntR ws (-5) 2000 = cntS (wbit ws) (-5) 2000 (16 * 64) := by unfold cntR cntS; rw [hl]
    rw [h1, this, ← h2, h]; rfl
  · rw [hb] at hc
    subst hc
    have e : cntR ws' (-5) 2000 = cntR ws (-5) 2000 := by
      unfold cntR
      rw [hl, hl']
      refine cnt_congr fun j _ => ?_
      rw [hS]
      by_cases hj : 0 + j = k
      · rw [if_pos hj, hj, hb]
      · rw [if_neg hj]
    rw [e, h]; rfl
set_option maxRecDepth 100000 in
set_option maxHeartbeats 3200000 in
theorem walk (W : World) (hT : Tab W) (A : Option Addr) (na ca : Nat) (zs : List Int) (hA : Sl W A na (fun k => .int .u16 (zs.getD k 0))) (hz : ∀ k, 0 ≤ zs.getD k 0 ∧ zs.getD k 0 ≤ 65535) (hna : na ≤ 9223372036854775807)
    (a b c : Int) (ha1 : -1000 ≤ a.tmod 1001) (ha2 : a.tmod 1001 ≤ 1000) (hb1 : -1000 ≤ b.tmod 1001) (hb2 : b.tmod 1001 ≤ 1000) (hc1 : -1000 ≤ c.tmod 1001) (hc2 : c.tmod 1001 ≤ 1000) :
    Holds Tryd.prog 4 #[.slice A na ca, .int .i64 a, .int .i64 b, .int .i64 c] W := by
  have HT := hide hT
  have HA := hide hA
  have Hz := hide hz
  clear hT hA hz
  have hn := hide (new_any 1000 (by decide))
  unfold Holds
  go_enter Tryd.func4, Tryd.ntmps4
  go_wp2_with fail
  refine (awake_any W HT.out).mono ?_
  rintro e w0 ⟨rfl, hf0⟩
  go_wp2_with fail
  refine (hn.out _).mono ?_
  rintro e w1 ⟨bs, bw, rfl, hs1, hf1, hl1, hl2⟩
  have HS1 := hide hs1
  have HF1 : Hid (Fr [] W w1) := hf0.trans_nil hf1
  have z1 : W.heap.size ≤ bw := Nat.le_trans hf0.size hl2
  have HC1 : Hid (Cnt (List.replicate ((1000 + 63) / 64) 0) 0) := by
    show cntR _ _ _ = _
    exact cnt_none fun j _ => by rw [wbit_zero]; rfl
  clear hs1 hf0 hf1 hl1 hl2
  go_wp2_with fail
  go_loopw [11, 12] (fun v i wr => ∃ (k n : Nat) (ws : List Nat), i = .int .i64 k ∧ v = .int .i64 n ∧ n ≤ k ∧ k ≤ na ∧ k ≤ 2000 ∧ BSet wr bs bw 1000 ws ∧ Fr [bw] w1 wr ∧ Cnt ws n) (fun _ i _ => na - (intOf i).toNat)
  case atStart => exact ⟨0, 0, _, rfl, rfl, Nat.le_refl _, Nat.zero_le _, by omega, HS1.out, Fr.refl _ _, HC1.out⟩
  case round =>
    obtain ⟨k, n, ws, rfl, rfl, hnk, hk, hk2, hs, hfr, hcn⟩ := hrel
    have HS := hide hs
    have HF := hide hfr
    have HW : Hid (Fr [bw] W wr) := (HF1.out.mono (fun x hx => by cases hx)).trans_same hfr
    have HN := hide hcn
    clear hs hfr hcn
    by_cases hlt : k < na ∧ k < 2000
    · obtain ⟨hlt1, hlt2⟩ := hlt
      have hlt3 : (k : Int) < (na : Int) := by omega
      have hlt4 : (k : Int) < 2000 := by omega
      obtain ⟨b0, off, rfl, hb0, hcl⟩ := HA.out (by omega)
      have hc : wr.cell? ⟨b0, off + k, none⟩ = some (.int .u16 (zs.getD k 0)) := (HW.out.cell (p := ⟨b0, off + k, none⟩) hb0 (by simp; omega)).trans (hcl k hlt1)
      obtain ⟨x1, x2⟩ := Hz.out k
      clear hcl
      generalize zs.getD k 0 = x at *
      obtain ⟨y, hy⟩ : ∃ y : Nat, (y : Int) = x % 1000 := ⟨(x % 1000).toNat, by omega⟩
      have hy1 : y < 1000 := by omega
      have EY := hide hy
      clear hy
      go_wp2_with fail
      rw [← EY.out]
      refine (has_any HS.out _).mono ?_
      rintro e w2 ⟨rfl, k2, rfl⟩
      go_wp2_with fail
      refine (put_any (HS.out.drewN _) _).mono ?_
      rintro e w3 ⟨cc, er, ws', rfl, hb3, hf3, ht3⟩
      obtain ⟨rfl, hcc, hS3⟩ : er = 0 ∧ cc = (wbit ws y != true) ∧ ∀ j, wbit ws' j = if j = y then true else wbit ws j := by
        rcases ht3 with ⟨_, _, h1, h2, h3⟩ | ⟨h1, _⟩
        · exact ⟨h1, h2, h3⟩
        · exact absurd ⟨by omega, by omega⟩ h1
      have HN3 := hide (cnt_new HS.out.len hb3.len HN.out hy1 hcc hS3)
      have HB3 := hide hb3
      have HF3 : Hid (Fr [bw] w1 w3) := HF.out.trans_same hf3.from_drewN
      have e1 : inB ws (y : Int) = wbit ws y := by simp [inB]
      have e2 : inB ws' (y : Int) = true := by simp [inB, hS3]
      rw [e1]
      clear hb3 hf3 ht3 hS3 e1
      have hle : n + 1 ≤ 2000 := by omega
      cases hw : wbit ws y
      · rw [hw] at hcc
        subst hcc
        clear hw
        go_wp2_with (go_at_call 16; refine (has_any HB3.out _).mono ?_; rintro e w4 ⟨rfl, k4, rfl⟩)
        go_roundw
        case rel => exact ⟨k + 1, n + 1, ws', by go_num, by go_num, by omega, by omega, by omega, HB3.out.drewN _, HF3.out.drewN _, HN3.out⟩
        case measure => simp [intOf]; omega
      · rw [hw] at hcc
        subst hcc
        clear hw
        go_wp2_with (go_at_call 16; refine (has_any HB3.out _).mono ?_; rintro e w4 ⟨rfl, k4, rfl⟩)
        go_roundw
        case rel => exact ⟨k + 1, n, ws', by go_num, by go_num, by omega, by omega, by omega, HB3.out.drewN _, HF3.out.drewN _, HN3.out⟩
        case measure => simp [intOf]; omega
    · have hway : ¬ (k : Int) < (na : Int) ∨ ((k : Int) < (na : Int) ∧ ¬ (k : Int) < 2000) := by omega
      have HTr : Hid (Tab wr) := HT.out.fr HW.out (by have := HT.out.lt; simp; omega)
      have htop := HS.out.top
      have hlen := HS.out.len
      have Hn : Hid (n = (belowS (wbit ws) 1000).length) := by
        have := cntS_all (wbit ws) (f := -5) (t := 2000) (n := 1000) (by decide) (by decide)
        show n = _
        rw [← this, ← BitsApart.cntR_S htop (by omega)]
        exact HN.out.symm
      have HP : Hid (∀ x y z : Int, x ≤ y → y ≤ z → cntR ws x z = cntR ws x y + cntR ws y z) := fun x y z h1 h2 => by
        rw [BitsApart.cntR_S htop (by omega) x z, BitsApart.cntR_S htop (by omega) x y, BitsApart.cntR_S htop (by omega) y z]
        exact cntS_parts _ h1 h2 _
      have HZ : Hid (∀ x y : Int, y ≤ x → cntR ws x y = 0) := fun x y h => by
        rw [BitsApart.cntR_S htop (by omega) x y]
        exact cntS_back _ h _
      have HU : Hid (∀ x y : Int, cntR ws x y ≤ 1024) := fun x y => by
        have := cntTo_len ws x y ws.length
        unfold cntR
        unfold cntTo at this
        omega
      have Htop := hide htop
      clear hlt htop hlen
      rcases hway with w1 | ⟨w1, w2⟩
      all_goals
        go_wp2_with (first | (with_reducible refine wpList_min3 _ rfl (.tmp 84) (.tmp 85) (.tmp 86) _ rfl .i64 _ _ _ rfl rfl rfl ?_; intro lo l1 l2 l3 l4) | (with_reducible refine wpList_max3 _ rfl (.tmp 88) (.tmp 89) (.tmp 90) _ rfl .i64 _ _ _ rfl rfl rfl ?_; intro up u1 u2 u3 u4))
        obtain ⟨mid, hmid⟩ : ∃ mid : Int, mid = a.tmod 1001 % 1001 + b.tmod 1001 % 1001 + c.tmod 1001 % 1001 - lo - up := ⟨_, rfl⟩
        have m1 : lo ≤ mid := by omega
        have m2 : mid ≤ up := by omega
        have m3 : 0 ≤ lo := by omega
        have m4 : up ≤ 1000 := by omega
        have HM := hide hmid
        clear l4 u4 hmid
        refine (count_any HS.out lo up (by omega) (by omega) (by omega) (by omega)).mono ?_
        rintro e w2 ⟨rfl, k2, rfl⟩
        go_wp2_with fail
        rw [← HM.out]
        refine (count_any (HS.out.drewN _) lo mid (by omega) (by omega) (by omega) (by omega)).mono ?_
        rintro e w2 ⟨rfl, k2, rfl⟩
        go_wp2_with fail
        refine (count_any (HS.out.drewN _) mid up (by omega) (by omega) (by omega) (by omega)).mono ?_
        rintro e w2 ⟨rfl, k2, rfl⟩
        have p1 := HP.out lo mid up m1 m2
        have p2 := HU.out lo mid
        have p3 := HU.out mid up
        have p4 := HZ.out up lo (by omega)
        rw [p1]
        generalize cntR ws lo mid = q1 at *
        generalize cntR ws mid up = q2 at *
        clear p1
        have tq : ((((q1 + q2 : Nat) : Int)) != ((q1 : Int) + (q2 : Int))) = false := by rw [bne_eq_false_iff_eq]; omega
        go_wp2_with fail
        refine (count_any (HS.out.drewN _) (-5) 2000 (by decide) (by decide) (by decide) (by decide)).mono ?_
        rintro e w3 ⟨rfl, k3, rfl⟩
        rw [show cntR ws (-5) 2000 = n from HN.out]
        go_wp2_with fail
        refine (count_any (HS.out.drewN _) up lo (by omega) (by omega) (by omega) (by omega)).mono ?_
        rintro e w3 ⟨rfl, k4, rfl⟩
        rw [p4]
        clear p2 p3 p4 tq
        go_wp2_with fail
        refine (list_any (HS.out.drewN _) (HTr.out.drewN _)).mono ?_
        rintro e w4 ⟨v, rfl, hv, hf4⟩
        have hf4' := hf4.from_drewN
        obtain ⟨A2, c2, rfl, hsl⟩ := sl_nums hv
        have HL := hide hsl
        have HS4 : Hid (BSet w4 bs bw 1000 ws) := HS.out.fr hf4' (by simp) (by simp)
        have HT4 : Hid (Tab w4) := HTr.out.fr hf4' (by simp)
        have HW4 : Hid (Fr [bw] W w4) := HW.out.trans_nil hf4'
        have hlen : (ints (below ws 1000)).length = n := by rw [ints_len]; exact Hn.out.symm
        have HD : Hid (∀ i : Nat, i < n → nth (wbit ws) 1000 i = (ints (below ws 1000)).getD i 0 ∧ 0 ≤ nth (wbit ws) 1000 i ∧ nth (wbit ws) 1000 i ≤ 1000 ∧ wbit ws (nth (wbit ws) 1000 i).toNat = true ∧ NextS (wbit ws) (nth (wbit ws) 1000 i + 1) (nth (wbit ws) 1000 (i + 1))) := fun i hi => by
          have hi' : i < (belowS (wbit ws) 1000).length := by rw [← Hn.out]; exact hi
          have hm := (belowS_mem (wbit ws) 1000 _).1 (List.getElem_mem hi')
          have e1 : (belowS (wbit ws) 1000).getD i 0 = (belowS (wbit ws) 1000)[i] := by simp [hi']
          have e2 : nth (wbit ws) 1000 i = (((belowS (wbit ws) 1000)[i] : Nat) : Int) := by unfold nth; rw [if_pos hi', e1]
          have e3 : (ints (below ws 1000)).getD i 0 = (((belowS (wbit ws) 1000)[i] : Nat) : Int) := by
            show (ints (belowS (wbit ws) 1000)).getD i 0 = _
            simp [ints, hi']
          refine ⟨by rw [e2, e3], by rw [e2]; omega, by rw [e2]; omega, by rw [e2]; exact hm.2, ?_⟩
          have := next_then Htop.out hi'
          rw [e1, ← e2] at this
          exact this
        have HE : Hid (nth (wbit ws) 1000 n = -1) := by
          show nth _ _ _ = _
          unfold nth
          rw [if_neg (by rw [← Hn.out]; omega)]
        have H0 : Hid (NextS (wbit ws) 0 (nth (wbit ws) 1000 0)) := next_first Htop.out
        rw [hlen] at hsl ⊢
        have HL2 := hide hsl
        clear hv hf4 hf4' hsl hlen HL m1 m2 m3 m4 l1 l2 l3 u1 u2 u3
        go_wp2_with fail
        refine (next_any HS4.out HT4.out 0).mono ?_
        rintro e w5 ⟨r, rfl, rfl, hr⟩
        obtain rfl := nextS_one hr H0.out
        clear hr
        go_wp2_with fail
        obtain ⟨wo, hwo⟩ : ∃ wo : World, wo = wr := ⟨_, rfl⟩
        clear hwo
        go_loopw [21, 22] (fun x i wq => ∃ (k q : Nat), i = .int .i64 k ∧ x = .int .i64 (nth (wbit ws) 1000 k) ∧ k ≤ n ∧ wq = w4.drewN q) (fun _ i _ => n - (intOf i).toNat)
        case atStart => exact ⟨0, 0, rfl, rfl, Nat.zero_le _, rfl⟩
        case round =>
          obtain ⟨k, q, rfl, rfl, hk, rfl⟩ := hrel
          by_cases hlt : k < n
          · have hlt1 : (k : Int) < (n : Int) := by omega
            obtain ⟨d1, d2, d3, d4, d5⟩ := HD.out k hlt
            have D5 := hide d5
            obtain ⟨b0, off, rfl, hb0, hcl⟩ := HL2.out (by omega)
            have hc : w4.cell? ⟨b0, off + k, none⟩ = some (.int .i64 (nth (wbit ws) 1000 k)) := by rw [d1]; exact hcl k hlt
            have e1 : inB ws (nth (wbit ws) 1000 k) = true := by unfold inB; rw [d4]; simp [d2]
            clear hcl d1 d4 d5
            generalize nth (wbit ws) 1000 k = x at *
            go_wp2_with fail
            refine (has_any (HS4.out.drewN _) _).mono ?_
            rintro e w6 ⟨rfl, k6, rfl⟩
            rw [e1]
            go_wp2_with fail
            refine (next_any (HS4.out.drewN _) (HT4.out.drewN _) _).mono ?_
            rintro e w7 ⟨r, rfl, rfl, hr⟩
            obtain rfl := nextS_one hr D5.out
            clear hr
            go_wp2_with fail
            go_roundw
            case rel => exact ⟨k + 1, q + k6, by go_num, rfl, by omega, rfl⟩
            case measure => simp [intOf]; omega
          · obtain rfl : k = n := by omega
            rw [HE.out]
            go_wp2_with fail
            go_ret
            exact ⟨rfl, (HW4.out.drewN _).below (Nat.le_refl _) (fun x hx => by simp at hx; omega)⟩

theorem tmod_bd (a : Int) : -1000 ≤ a.tmod 1001 ∧ a.tmod 1001 ≤ 1000 := by
  have h1 := Int.tmod_lt_of_pos a (show (0 : Int) < 1001 by decide)
  have h2 := Int.lt_tmod_of_pos a (show (0 : Int) < 1001 by decide)
  omega

theorem holds {H : Type} {enc : TypeId × Value → H} {W : World} {base : Nat} {args : Array Value} {ds : List (DataW H)} {p : List MemPlace}
    (hval : ∀ (j : Nat) t v, Tryd.f4.params[j]? = some t → args[j]? = some v → Value.okWide Tryd.prog W .any base t v)
    (hA : DataW.TrodAll enc Tryd.prog W 0 (fun _ => true) true Tryd.f4.params.toList args.toList ds p) (hT : Tab W) : Holds Tryd.prog 4 args W := by
  rw [Tryd.params4] at hA hval
  obtain ⟨v0, vs0, d0, ds0, p0, q0, hargs, rfl, rfl, h0, r0⟩ := trodAll_cons hA
  obtain ⟨v1, vs1, d1, ds1, p1, q1, rfl, rfl, rfl, h1, r1⟩ := trodAll_cons r0
  obtain ⟨v2, vs2, d2, ds2, p2, q2, rfl, rfl, rfl, h2, r2⟩ := trodAll_cons r1
  obtain ⟨v3, vs3, d3, ds3, p3, q3, rfl, rfl, rfl, h3, r3⟩ := trodAll_cons r2
  obtain ⟨rfl, rfl, rfl⟩ := trodAll_nil r3
  obtain rfl : args = #[v0, v1, v2, v3] := by cases args; simp_all
  obtain ⟨A, na, ca, zs, rfl, hna, hA1, hw1⟩ := open_sl Tryd.underlying50 Tryd.underlying51 (by kernel_rfl) (hval 0 50 v0 rfl rfl) h0
  obtain ⟨x1, rfl, rfl, rfl, w1⟩ := open_int Tryd.underlying3 (hval 1 3 v1 rfl rfl) h1
  obtain ⟨x2, rfl, rfl, rfl, w2⟩ := open_int Tryd.underlying3 (hval 2 3 v2 rfl rfl) h2
  obtain ⟨x3, rfl, rfl, rfl, w3⟩ := open_int Tryd.underlying3 (hval 3 3 v3 rfl rfl) h3
  exact walk W hT A na ca zs hA1 (BitsApart.zs_u16 hw1) (by unfold maxLen at hna; omega) x1 x2 x3 (tmod_bd _).1 (tmod_bd _).2 (tmod_bd _).1 (tmod_bd _).2 (tmod_bd _).1 (tmod_bd _).2
theorem readable : ∀ t, t ∈ Tryd.f4.params.toList → Tryd.prog.readableRec t = true ∧ t < Tryd.prog.types.size := by
  intro t ht
  rw [Tryd.params4] at ht
  have hm : t = 50 ∨ t = 3 := by simp at ht; omega
  rcases hm with rfl | rfl
  all_goals exact ⟨by kernel_rfl, of_decide_eq_true (by kernel_rfl)⟩
theorem laid_met (os : Os) : laidMet Tryd.prog Rows.bitsCountsRow.laid ((laidWorld os).forCall (fun _ _ => 0) ⟨#[], #[.slice none 0 0, .int .i64 0, .int .i64 0, .int .i64 0], []⟩).memory :=
  laidMet_of_run' 8 (by kernel_rfl) (by kernel_rfl)
theorem reads (os : Os) {H : Type} (enc : TypeId × Value → H) : ∃ places, DataW.whole enc Tryd.prog ((laidWorld os).forCall (fun _ _ => 0) ⟨#[], #[.slice none 0 0, .int .i64 0, .int .i64 0, .int .i64 0], []⟩).memory Tryd.f4.params.toList Rows.bitsCountsSpec.vars false (#[.slice none 0 0, .int .i64 0, .int .i64 0, .int .i64 0] : Array Value).toList 8 = some ([.nil, .lit (.int .i64 0), .lit (.int .i64 0), .lit (.int .i64 0)], [], places) :=
  ⟨[], by kernel_rfl⟩
theorem spec {H : Type} : ∀ ds : List (DataW H), ds.length = Tryd.f4.params.toList.length → Rows.bitsCountsSpec.fn H (ds ++ []) = { results := [.lit (.bool true)], args := ds, vars := [] } := by
  intro ds h
  rw [Tryd.params4] at h
  simp only [List.append_nil]
  match ds, h with
  | [_, _, _, _], _ => rfl

set_option maxRecDepth 100000 in
theorem lifted (os : Os) (started : os.Started) (H : Type) (enc : TypeId × Value → H) (F : Stop.Interp) :
    ReturnsInHanded {} Tryd.checked os 4 .any ((OpenSpec.ofChange Rows.bitsCountsSpec).preRow enc Tryd.prog Tryd.f4 Rows.bitsCountsRow.domain false Rows.bitsCountsRow.laid) (((OpenSpec.ofChange Rows.bitsCountsSpec).at F).post enc Tryd.prog Tryd.f4 false true false false) := by
  obtain ⟨places, hx⟩ := reads os enc
  refine returnsInHanded_of_row (C := Tryd.checked) (s := OpenSpec.ofChange Rows.bitsCountsSpec) own started (by kernel_rfl) Tryd.func4
    (witness_row_at (enc := enc) (C := Tryd.checked) false (laidWorld os) #[.slice none 0 0, .int .i64 0, .int .i64 0, .int .i64 0] rfl (by kernel_rfl) (by kernel_rfl) (by kernel_rfl)
      (OpenSpec.preRow_of_cond 8 hx (by kernel_rfl) (fun k hk => by cases hk) (by kernel_rfl) (laid_met os))) ?_
  intro W base args ds gs before hval hW _ _ _ hL _ _
  have hW' : DataW.Whole enc Tryd.prog Tryd.f4.params.toList Rows.bitsCountsSpec.vars false W args.toList ds gs before := hW
  exact law_close (s := Rows.bitsCountsSpec) rfl rfl Tryd.underlying4 spec laidOut readable hW' (by
    obtain ⟨p, q, hA, _⟩ := hW'
    exact holds hval hA (table hL))

theorem said : Rows.BitsCountsSaid :=
  OpenClaim.holds_of_cond 4 Tryd.f4 rfl rfl rfl rfl rfl rfl rfl ⟨rfl, rfl, rfl, rfl, rfl⟩ rfl rfl rfl rfl rfl (by kernel_rfl) Tryd.func4 (by kernel_rfl)
    (of_decide_eq_true (by kernel_rfl)) (by unfold Func.isWrapper; first | (rw [if_pos (by decide +kernel)]; kernel_rfl) | (rw [if_neg (by decide +kernel)]; exact ⟨rfl, rfl⟩))
    (fun os started H enc _ F => by rw [OpenClaim.pre_eq_preRow]; exact lifted os started H enc F)

/-- No parameter wants a stand-in; the program's own looks are off. -/
theorem plain (f : FuncId) (fn : Func) (hf : Tryd.pinned.checked.prog.funcNamed "gleaner/gleanerlaw01.BitsCounts" = some f) (hfn : Tryd.pinned.checked.prog.funcs[f]? = some fn) :
    false = Tryd.pinned.checked.prog.looks [] ∧ ∀ (j : Nat) t, fn.params[j]? = some t → Tryd.pinned.checked.prog.wantsStandIn t = false := by
  obtain rfl : f = 4 := Option.some.inj ((show Tryd.prog.funcNamed "gleaner/gleanerlaw01.BitsCounts" = some 4 by kernel_rfl).symm.trans hf) |>.symm
  obtain rfl : fn = Tryd.f4 := (Option.some.inj (Tryd.func4.symm.trans hfn)).symm
  refine ⟨by kernel_rfl, fun j t ht => ?_⟩
  rw [Tryd.params4] at ht
  have hm : t = 50 ∨ t = 3 := by have := Array.mem_of_getElem? ht; simp at this; omega
  rcases hm with rfl | rfl
  · exact (show Tryd.prog.wantsStandIn 50 = false by kernel_rfl)
  · exact (show Tryd.prog.wantsStandIn 3 = false by kernel_rfl)

/-- The card. -/
theorem card : Rows.BitsCountsCardSaid :=
  Claim7.holds_tied_plain_at .later [] _ _ _ _ said (fun _ h => by cases h) (by kernel_rfl) (fun _ h => by cases h) bitsCounts_row_tie rfl ⟨rfl, rfl⟩ (by kernel_rfl) rfl plain (by kernel_rfl)
end Go.Proofs.YtbgemiapnnncaaaDoor.BitsCounts
