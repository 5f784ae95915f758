/- Sets of numbers, more: Put, Drop, Len, Next, Count. -/
import Derived.Test.YtkbffmmomoeaiaaDoorB2
namespace Go.Proofs.YtkbffmmomoeaiaaDoor
set_option linter.unusedVariables false
open Go.RowKit Go.Gl

theorem put_any {w : World} {bs bw n : Nat} {ws : List Nat} (h : BSet w bs bw n ws) (i : Int) :
    Calls Tryd.prog 46 #[.pointer (some ⟨bs, 0, none⟩), .int .i64 i] w (TurnPost w bs bw n ws i true) := by
  have H := hide h
  clear h
  go_enter Tryd.func46, Tryd.ntmps46
  go_wp2_with (go_at_call 60; refine (turn_any H.out i true).mono ?_; rintro e w' ⟨c, er, ws', rfl, hb, hf, ht⟩)
  go_ret2
  exact ⟨c, er, ws', rfl, hb, hf, ht⟩
theorem len_nil (w : World) : Calls Tryd.prog 95 #[.pointer none] w fun e w' => e = .returned (.int .i64 0) ∧ w = w' := by
  go_enter Tryd.func95, Tryd.ntmps95
  go_wp2
  go_ret
  exact ⟨rfl, rfl⟩
theorem len_any {w : World} {bs bw n : Nat} {ws : List Nat} (h : BSet w bs bw n ws) : Calls Tryd.prog 95 #[.pointer (some ⟨bs, 0, none⟩)] w fun e w' => e = .returned (.int .i64 (n : Int)) ∧ w = w' := by
  have h0 := h.c0
  clear h
  go_enter Tryd.func95, Tryd.ntmps95
  go_wp2
  go_ret
  exact ⟨rfl, rfl⟩

/-- The least number in it from i on, or -1. -/
def NextIs (ws : List Nat) (i r : Int) : Prop :=
  (r = -1 ∧ ∀ j : Nat, i ≤ j → wbit ws j = false) ∨ ∃ R : Nat, r = (R : Int) ∧ i ≤ R ∧ wbit ws R = true ∧ ∀ j : Nat, i ≤ j → j < R → wbit ws j = false
def NextPost (ws : List Nat) (i : Int) (w : World) (e : Ending) (w' : World) : Prop := ∃ r : Int, e = .returned (.int .i64 r) ∧ w = w' ∧ NextIs ws i r
theorem next_nil (i : Int) (w : World) : Calls Tryd.prog 44 #[.pointer none, .int .i64 i] w fun e w' => e = .returned (.int .i64 (-1)) ∧ w = w' := by
  by_cases h : 0 ≤ i
  all_goals
    go_enter Tryd.func44, Tryd.ntmps44
    go_wp2_with (go_at_call 52; refine (may_nil _ _).mono ?_; rintro e w' ⟨rfl, rfl⟩)
    go_ret
    exact ⟨rfl, rfl⟩
/-- What holds at the head of Next's loop. -/
def NextInv (ws : List Nat) (F A X : Nat) : Prop :=
  A < ws.length ∧ X < 18446744073709551616 ∧ (∀ j, j < 64 → X.testBit j = (wbit ws (A * 64 + j) && decide (F ≤ A * 64 + j))) ∧ (∀ j, F ≤ j → j < A * 64 → wbit ws j = false) ∧ F < A * 64 + 64
theorem wbit_at (ws : List Nat) (A j : Nat) (hj : j < 64) : wbit ws (A * 64 + j) = (ws.getD A 0).testBit j := by
  unfold wbit
  rw [show (A * 64 + j) / 64 = A by omega, show (A * 64 + j) % 64 = j by omega]
theorem next_start {ws : List Nat} (hok : Words ws) {F : Nat} (hF : F / 64 < ws.length) : NextInv ws F (F / 64) (ws.getD (F / 64) 0 &&& hi (F % 64)) := by
  refine ⟨hF, Nat.lt_of_le_of_lt Nat.and_le_left (hok _), fun j hj => ?_, fun j h1 h2 => by omega, by omega⟩
  rw [Nat.testBit_and, hi_bit, wbit_at _ _ _ hj]
  congr 1
  by_cases h : F ≤ F / 64 * 64 + j <;> simp [h, hj] <;> omega
theorem next_more {ws : List Nat} {F A : Nat} (h : NextInv ws F A 0) (hx : ws.getD (A + 1) 0 < 18446744073709551616) (hA : A + 1 < ws.length) : NextInv ws F (A + 1) (ws.getD (A + 1) 0) := by
  obtain ⟨_, _, h3, h4, hF⟩ := h
  refine ⟨hA, hx, fun j hj => ?_, fun j h1 h2 => ?_, by omega⟩
  · rw [wbit_at _ _ _ hj, show decide (F ≤ (A + 1) * 64 + j) = true by simp; omega, Bool.and_true]
  · rcases Nat.lt_or_ge j (A * 64) with hj | hj
    · exact h4 j h1 hj
    · have := h3 (j - A * 64) (by omega)
      rw [show A * 64 + (j - A * 64) = j by omega, Nat.zero_testBit] at this
      simpa [h1] using this.symm
theorem next_out {ws : List Nat} {F A : Nat} (h : NextInv ws F A 0) (hA : A + 1 = ws.length) (htop : ∀ j, ws.length * 64 ≤ j → wbit ws j = false) : NextIs ws F (-1) := by
  obtain ⟨_, _, h3, h4, _⟩ := h
  refine .inl ⟨rfl, fun j hj => ?_⟩
  have hj' : F ≤ j := by omega
  rcases Nat.lt_or_ge j (A * 64) with h1 | h1
  · exact h4 j hj' h1
  · rcases Nat.lt_or_ge j (ws.length * 64) with h2 | h2
    · have := h3 (j - A * 64) (by omega)
      rw [show A * 64 + (j - A * 64) = j by omega, Nat.zero_testBit] at this
      simpa [hj'] using this.symm
    · exact htop j h2
theorem next_hit {ws : List Nat} {F A X : Nat} (h : NextInv ws F A X) (h0 : 0 < X) : NextIs ws F ((A : Int) * 64 + (Lib.ctz 64 X : Nat)) := by
  obtain ⟨_, h2, h3, h4, _⟩ := h
  obtain ⟨c1, c2, c3⟩ := ctz_low X h0 h2
  have e := h3 _ c1
  rw [c2] at e
  have e' := e.symm
  rw [Bool.and_eq_true, decide_eq_true_eq] at e'
  refine .inr ⟨A * 64 + Lib.ctz 64 X, by omega, by omega, e'.1, fun j hj hlt => ?_⟩
  have hj' : F ≤ j := by omega
  rcases Nat.lt_or_ge j (A * 64) with h1 | h1
  · exact h4 j hj' h1
  · have := h3 (j - A * 64) (by omega)
    rw [show A * 64 + (j - A * 64) = j by omega, c3 _ (by omega)] at this
    simpa [hj'] using this.symm
theorem hi_wrap (F : Nat) : IntKind.u64.wrap (18446744073709551615 * 2 ^ min (IntKind.u64.wrap (bits BinOp.and IntKind.i64 (F : Int) 63)).toNat 64) = ((hi (F % 64) : Nat) : Int) := by
  rw [i64_and63, IntKind.wrap_u64 ((F : Int) % 64), show ((F : Int) % 64 % 18446744073709551616).toNat = F % 64 by omega, Nat.min_eq_left (by omega), u64_hi]
/-- The walk of Next from the number F on. -/
theorem next_from {w : World} {bs bw n : Nat} {ws : List Nat} (h : BSet w bs bw n ws) (hT : Tab w) (i : Int) (F : Nat) (hFi : (F : Int) = max i 0) :
    Calls Tryd.prog 44 #[.pointer (some ⟨bs, 0, none⟩), .int .i64 i] w (NextPost ws F w) := by
  have hmax := h.max
  have hlen := h.len
  have hlm : ws.length ≤ 65536 := by omega
  have HT := hide hT
  clear hT
  have hm := hide (may_any h (F : Int))
  by_cases hF : F < n
  · have hb : mayI n (F : Int) = true := by simp [mayI]; omega
    have hk : F / 64 < ws.length := by omega
    have h1 := h.c1
    have hw := h.cw hk
    have hx := h.ok (F / 64)
    have H := hide h
    have htop : Hid (∀ j, ws.length * 64 ≤ j → wbit ws j = false) := fun j hj => h.top j (by omega)
    have HI0 := next_start h.ok hk
    have E0 : Hid (bits BinOp.and IntKind.u64 ((ws.getD (F / 64) 0 : Nat) : Int) (IntKind.u64.wrap (18446744073709551615 * 2 ^ min (IntKind.u64.wrap (bits BinOp.and IntKind.i64 (F : Int) 63)).toNat 64)) = ((ws.getD (F / 64) 0 &&& hi (F % 64) : Nat) : Int)) := by
      rw [hi_wrap]; exact u64_and_nat _ _ hx (hi_lt _)
    have HI0' := hide HI0
    generalize ws.getD (F / 64) 0 = x at *
    by_cases h0 : 0 ≤ i
    · obtain rfl : i = (F : Int) := by omega
      clear h hlen hFi HI0
      go_enter Tryd.func44, Tryd.ntmps44
      go_wp2_with (go_at_call 52; refine (hm.out).mono ?_; rintro e w' ⟨rfl, rfl⟩)
      go_loop [6, 7] (fun a x => ∃ A X : Nat, a = .int .i64 A ∧ x = .int .u64 X ∧ NextInv ws F A X) (fun a _ => ws.length - (intOf a).toNat)
      case atStart => exact ⟨F / 64, _, by go_num, congrArg (Value.int .u64) E0.out, HI0'.out⟩
      case round =>
        obtain ⟨A, X, rfl, rfl, hinv⟩ := hrel
        have hA := hinv.1
        have hX := hinv.2.1
        have HV := hide hinv
        clear hinv
        by_cases hx0 : X = 0
        · subst hx0
          by_cases hl : A + 1 = ws.length
          · have hl' : ((A : Int) + 1 == (ws.length : Int)) = true := by rw [beq_iff_eq]; omega
            have HN : Hid (NextIs ws F (-1)) := next_out HV.out hl htop.out
            go_wp2
            go_ret
            exact ⟨-1, rfl, rfl, HN⟩
          · have hl' : ((A : Int) + 1 == (ws.length : Int)) = false := by rw [beq_eq_false_iff_ne]; omega
            have hA1 : A + 1 < ws.length := by omega
            have hw1 := H.out.cw hA1
            have HV1 := hide (next_more HV.out (H.out.ok (A + 1)) hA1)
            generalize ws.getD (A + 1) 0 = y at *
            clear hl
            go_wp2
            go_round
            case rel => exact ⟨A + 1, y, by go_num, rfl, HV1.out⟩
            case measure => simp [intOf]; omega
        · have hx0' : ((X : Int) == 0) = false := by rw [beq_eq_false_iff_ne]; omega
          have hx1 : 0 < X := by omega
          have HN := hide (next_hit HV.out hx1)
          have hc : Lib.ctz 64 X < 64 := (ctz_low X hx1 hX).1
          have ht := hide (tz_any X hX hx1 w HT.out)
          clear hx0
          generalize Lib.ctz 64 X = c at *
          go_wp2_with (go_at_call 57; refine (ht.out).mono ?_; rintro e w' ⟨rfl, rfl⟩)
          go_ret
          exact ⟨_, rfl, rfl, HN.out⟩
    · obtain rfl : F = 0 := by omega
      have hb' : mayI n 0 = true := hb
      have hw' : w.cell? ⟨bw, 0, none⟩ = some (.int .u64 (x : Int)) := hw
      clear h hlen hFi hb hw HI0
      go_enter Tryd.func44, Tryd.ntmps44
      go_wp2_with (go_at_call 52; refine (hm.out).mono ?_; rintro e w' ⟨rfl, rfl⟩)
      go_loop [6, 7] (fun a x => ∃ A X : Nat, a = .int .i64 A ∧ x = .int .u64 X ∧ NextInv ws 0 A X) (fun a _ => ws.length - (intOf a).toNat)
      case atStart => exact ⟨0, _, rfl, congrArg (Value.int .u64) E0.out, HI0'.out⟩
      case round =>
        obtain ⟨A, X, rfl, rfl, hinv⟩ := hrel
        have hA := hinv.1
        have hX := hinv.2.1
        have HV := hide hinv
        clear hinv
        by_cases hx0 : X = 0
        · subst hx0
          by_cases hl : A + 1 = ws.length
          · have hl' : ((A : Int) + 1 == (ws.length : Int)) = true := by rw [beq_iff_eq]; omega
            have HN : Hid (NextIs ws 0 (-1)) := next_out HV.out hl htop.out
            go_wp2
            go_ret
            exact ⟨-1, rfl, rfl, HN⟩
          · have hl' : ((A : Int) + 1 == (ws.length : Int)) = false := by rw [beq_eq_false_iff_ne]; omega
            have hA1 : A + 1 < ws.length := by omega
            have hw1 := H.out.cw hA1
            have HV1 := hide (next_more HV.out (H.out.ok (A + 1)) hA1)
            generalize ws.getD (A + 1) 0 = y at *
            clear hl
            go_wp2
            go_round
            case rel => exact ⟨A + 1, y, by go_num, rfl, HV1.out⟩
            case measure => simp [intOf]; omega
        · have hx0' : ((X : Int) == 0) = false := by rw [beq_eq_false_iff_ne]; omega
          have hx1 : 0 < X := by omega
          have HN := hide (next_hit HV.out hx1)
          have hc : Lib.ctz 64 X < 64 := (ctz_low X hx1 hX).1
          have ht := hide (tz_any X hX hx1 w HT.out)
          clear hx0
          generalize Lib.ctz 64 X = c at *
          go_wp2_with (go_at_call 57; refine (ht.out).mono ?_; rintro e w' ⟨rfl, rfl⟩)
          go_ret
          exact ⟨_, rfl, rfl, HN.out⟩
  · have hb : mayI n (F : Int) = false := by simp [mayI]; omega
    have HN : Hid (NextIs ws F (-1)) := .inl ⟨rfl, fun j hj => h.top j (by omega)⟩
    by_cases h0 : 0 ≤ i
    · obtain rfl : i = (F : Int) := by omega
      clear h hlen hFi
      go_enter Tryd.func44, Tryd.ntmps44
      go_wp2_with (go_at_call 52; refine (hm.out).mono ?_; rintro e w' ⟨rfl, rfl⟩)
      go_ret
      exact ⟨-1, rfl, rfl, HN⟩
    · obtain rfl : F = 0 := by omega
      have hb' : mayI n 0 = false := hb
      clear h hlen hFi hb
      go_enter Tryd.func44, Tryd.ntmps44
      go_wp2_with (go_at_call 52; refine (hm.out).mono ?_; rintro e w' ⟨rfl, rfl⟩)
      go_ret
      exact ⟨-1, rfl, rfl, HN⟩
theorem next_any {w : World} {bs bw n : Nat} {ws : List Nat} (h : BSet w bs bw n ws) (hT : Tab w) (i : Int) :
    Calls Tryd.prog 44 #[.pointer (some ⟨bs, 0, none⟩), .int .i64 i] w (NextPost ws i w) := by
  refine (next_from h hT i (max i 0).toNat (by omega)).mono ?_
  rintro e w' ⟨r, rfl, rfl, hr⟩
  refine ⟨r, rfl, rfl, ?_⟩
  rcases hr with ⟨rfl, hr⟩ | ⟨R, rfl, h1, h2, h3⟩
  · exact .inl ⟨rfl, fun j hj => hr j (by omega)⟩
  · exact .inr ⟨R, rfl, by omega, h2, fun j a b => h3 j (by omega) b⟩

/-- How many numbers in it are from f on and below t. -/
def cntR (ws : List Nat) (f t : Int) : Nat := cnt (fun j => wbit ws j && decide (f ≤ (j : Int) ∧ (j : Int) < t)) 0 (ws.length * 64)
def cntTo (ws : List Nat) (f t : Int) (A : Nat) : Nat := cnt (fun j => wbit ws j && decide (f ≤ (j : Int) ∧ (j : Int) < t)) 0 (A * 64)
theorem cnt_step (ws : List Nat) (f t : Int) (A : Nat) : cntTo ws f t (A + 1) = cntTo ws f t A + pc (ws.getD A 0 &&& msk A f t) := by
  unfold cntTo
  rw [show (A + 1) * 64 = A * 64 + 64 by omega, cnt_add]
  congr 1
  refine cnt_congr fun j hj => ?_
  rw [Nat.testBit_and, Nat.zero_add, Nat.zero_add, (msk_is A f t).2 j hj, wbit_at _ _ _ hj]
  congr 1
theorem cntTo_zero {ws : List Nat} {f t : Int} {A : Nat} (h : (A : Int) * 64 ≤ f ∨ t ≤ 0) : cntTo ws f t A = 0 := by
  refine cnt_none fun j hj => ?_
  rw [Nat.zero_add, Bool.and_eq_false_iff]
  right
  rw [decide_eq_false_iff_not]
  omega
theorem cntTo_far {ws : List Nat} {f t : Int} {A d : Nat} (h : ∀ j : Nat, A * 64 ≤ j → wbit ws j = false ∨ t ≤ j) : cntTo ws f t (A + d) = cntTo ws f t A := by
  unfold cntTo
  rw [show (A + d) * 64 = A * 64 + d * 64 by omega, cnt_add, cnt_none (a := 0 + A * 64) (n := d * 64)]
  · rfl
  · intro j hj
    rcases h (0 + A * 64 + j) (by omega) with h | h
    · rw [h]; rfl
    · rw [Bool.and_eq_false_iff]
      right
      rw [decide_eq_false_iff_not]
      omega
theorem wbit_far {ws : List Nat} {j : Nat} (h : ws.length * 64 ≤ j) : wbit ws j = false := by
  unfold wbit
  rw [List.getD_eq_getElem?_getD, List.getElem?_eq_none (by omega)]
  exact Nat.zero_testBit _
theorem cntTo_end {ws : List Nat} {f t : Int} {A : Nat} (h : t ≤ (A : Int) * 64) : cntTo ws f t A = cntR ws f t := by
  show _ = cntTo ws f t ws.length
  rcases Nat.le_total A ws.length with hA | hA
  · obtain ⟨d, hd⟩ : ∃ d, ws.length = A + d := ⟨ws.length - A, by omega⟩
    rw [hd]
    exact (cntTo_far fun j hj => .inr (by omega)).symm
  · obtain ⟨d, hd⟩ : ∃ d, A = ws.length + d := ⟨A - ws.length, by omega⟩
    rw [hd]
    exact cntTo_far fun j hj => .inl (wbit_far hj)
theorem cntTo_len (ws : List Nat) (f t : Int) (A : Nat) : cntTo ws f t A ≤ ws.length * 64 := by
  rcases Nat.le_total A ws.length with hA | hA
  · exact Nat.le_trans (cnt_le _ _ _) (by omega)
  · obtain ⟨d, rfl⟩ : ∃ d, A = ws.length + d := ⟨A - ws.length, by omega⟩
    rw [cntTo_far fun j hj => .inl (wbit_far hj)]
    exact cnt_le _ _ _
theorem pc_le (x : Nat) : pc x ≤ 64 := cnt_le _ _ _
theorem count_nil (f t : Int) (hf0 : -9223372036854775808 ≤ f) (hf1 : f ≤ 9223372036854775807) (ht0 : -9223372036854775808 ≤ t) (ht1 : t ≤ 9223372036854775807) (w : World) :
    Calls Tryd.prog 93 #[.pointer none, .int .i64 f, .int .i64 t] w fun e w' => e = .returned (.int .i64 0) ∧ w = w' := by
  by_cases h1 : 0 ≤ f <;> rcases (show t ≤ 0 ∨ 0 < t by omega) with h2 | h2
  all_goals
    go_enter Tryd.func93, Tryd.ntmps93
    go_wp2_with (first | (go_at_call 95; refine (len_nil _).mono ?_; rintro e w' ⟨rfl, rfl⟩))
    refine wp_loop_rounds 1 ?_
    rw [rounds_succ]
    go_wp2_with (first | (go_at_call 81; refine (wordsBelow_any _ (by omega) (by omega) _).mono ?_; rintro e w' ⟨rfl, rfl⟩))
    go_ret
    exact ⟨rfl, rfl⟩
def CountPost (ws : List Nat) (f t : Int) (w : World) (e : Ending) (w' : World) : Prop := e = .returned (.int .i64 ((cntR ws f t : Nat) : Int)) ∧ ∃ k, w' = w.drewN k
theorem count_ft {w : World} {bs bw n : Nat} {ws : List Nat} (h : BSet w bs bw n ws) (f t : Int) (hf0 : -9223372036854775808 ≤ f) (hf1 : f ≤ 9223372036854775807) (ht0 : -9223372036854775808 ≤ t) (ht1 : t ≤ 9223372036854775807)
    (hf : 0 ≤ f) (ht : t ≤ (n : Int)) : Calls Tryd.prog 93 #[.pointer (some ⟨bs, 0, none⟩), .int .i64 f, .int .i64 t] w (CountPost ws f t w) := by
  have hmax := h.max
  have hlen := h.len
  have hlm : ws.length ≤ 65536 := by omega
  have hl1 := hide (show n ≤ ws.length * 64 by omega)
  have H := hide h
  have h1 := h.c1
  clear h hlen
  go_enter Tryd.func93, Tryd.ntmps93
  go_wp2_with (first | (go_at_call 95; refine (len_any H.out).mono ?_; rintro e w' ⟨rfl, rfl⟩))
  go_loopw [7, 8] (fun T a wr => ∃ A k : Nat, a = .int .i64 A ∧ T = .int .u32 ((cntTo ws f t A : Nat) : Int) ∧ f < A * 64 + 64 ∧ (A : Int) ≤ 144115188075855872 ∧ wr = w.drewN k) (fun _ a _ => ((t + 63) / 64 - intOf a).toNat)
  case atStart => exact ⟨(f / 64).toNat, 0, by go_num, by rw [cntTo_zero (by omega)]; rfl, by omega, by omega, rfl⟩
  case round =>
    obtain ⟨A, k, rfl, rfl, hfA, hA, rfl⟩ := hrel
    by_cases hc : (A : Int) < (t + 63) / 64
    · have hA1 : A < ws.length := by have := hl1.out; omega
      have hA2 : (A : Int) < (ws.length : Int) := by omega
      have hw := H.out.cw hA1
      have hx := H.out.ok A
      have ST := hide (cnt_step ws f t A)
      have hm := hide (between_any A f t (by omega) (by omega) (by omega) (by omega) (by omega) (by omega))
      have hml := (msk_is A f t).1
      have hcl := cntTo_len ws f t A
      have hcl2 : cntTo ws f t A ≤ 4194304 := by omega
      generalize cntTo ws f t A = T at *
      generalize msk (A : Int) f t = m at *
      generalize ws.getD A 0 = x at *
      have e1 := u64_and_nat x m hx hml
      have hyl : x &&& m < 18446744073709551616 := Nat.lt_of_le_of_lt Nat.and_le_left hx
      have hp := pc_le (x &&& m)
      have ho := hide (ones_any (x &&& m) hyl)
      generalize x &&& m = y at *
      generalize pc y = q at *
      clear hcl
      go_wp2_with (first | (go_at_call 81; refine (wordsBelow_any _ (by omega) (by omega) _).mono ?_; rintro e w' ⟨rfl, rfl⟩))
      go_quiet ((first | (go_at_call 97; exact quiet_add_left (hm.out _)) | (go_at_call 96; exact quiet_add_left (ho.out _))))
      go_wp2
      go_roundw
      case rel => exact ⟨A + 1, k + nq, by go_num, by rw [ST.out]; go_num, by omega, by omega, rfl⟩
      case measure => simp [intOf]; omega
    · have hcl := cntTo_len ws f t A
      have hcl2 : cntTo ws f t A ≤ 4194304 := by omega
      have HE := hide (cntTo_end (ws := ws) (f := f) (t := t) (A := A) (by omega))
      generalize cntTo ws f t A = T at *
      go_wp2_with (first | (go_at_call 81; refine (wordsBelow_any _ (by omega) (by omega) _).mono ?_; rintro e w' ⟨rfl, rfl⟩))
      go_ret
      exact ⟨ret_int (by rw [← HE.out]), k, rfl⟩
theorem count_zt {w : World} {bs bw n : Nat} {ws : List Nat} (h : BSet w bs bw n ws) (f t : Int) (hf0 : -9223372036854775808 ≤ f) (hf1 : f ≤ 9223372036854775807) (ht0 : -9223372036854775808 ≤ t) (ht1 : t ≤ 9223372036854775807)
    (hf : f < 0) (ht : t ≤ (n : Int)) : Calls Tryd.prog 93 #[.pointer (some ⟨bs, 0, none⟩), .int .i64 f, .int .i64 t] w (CountPost ws 0 t w) := by
  have hmax := h.max
  have hlen := h.len
  have hlm : ws.length ≤ 65536 := by omega
  have hl1 := hide (show n ≤ ws.length * 64 by omega)
  have H := hide h
  have h1 := h.c1
  clear h hlen
  go_enter Tryd.func93, Tryd.ntmps93
  go_wp2_with (first | (go_at_call 95; refine (len_any H.out).mono ?_; rintro e w' ⟨rfl, rfl⟩))
  go_loopw [7, 8] (fun T a wr => ∃ A k : Nat, a = .int .i64 A ∧ T = .int .u32 ((cntTo ws 0 t A : Nat) : Int) ∧ (0 : Int) < A * 64 + 64 ∧ (A : Int) ≤ 144115188075855872 ∧ wr = w.drewN k) (fun _ a _ => ((t + 63) / 64 - intOf a).toNat)
  case atStart => exact ⟨0, 0, rfl, by rw [cntTo_zero (by omega)]; rfl, by omega, by omega, rfl⟩
  case round =>
    obtain ⟨A, k, rfl, rfl, hfA, hA, rfl⟩ := hrel
    by_cases hc : (A : Int) < (t + 63) / 64
    · have hA1 : A < ws.length := by have := hl1.out; omega
      have hA2 : (A : Int) < (ws.length : Int) := by omega
      have hw := H.out.cw hA1
      have hx := H.out.ok A
      have ST := hide (cnt_step ws 0 t A)
      have hm := hide (between_any A 0 t (by omega) (by omega) (by omega) (by omega) (by omega) (by omega))
      have hml := (msk_is A 0 t).1
      have hcl := cntTo_len ws 0 t A
      have hcl2 : cntTo ws 0 t A ≤ 4194304 := by omega
      generalize cntTo ws 0 t A = T at *
      generalize msk (A : Int) 0 t = m at *
      generalize ws.getD A 0 = x at *
      have e1 := u64_and_nat x m hx hml
      have hyl : x &&& m < 18446744073709551616 := Nat.lt_of_le_of_lt Nat.and_le_left hx
      have hp := pc_le (x &&& m)
      have ho := hide (ones_any (x &&& m) hyl)
      generalize x &&& m = y at *
      generalize pc y = q at *
      clear hcl
      go_wp2_with (first | (go_at_call 81; refine (wordsBelow_any _ (by omega) (by omega) _).mono ?_; rintro e w' ⟨rfl, rfl⟩))
      go_quiet ((first | (go_at_call 97; exact quiet_add_left (hm.out _)) | (go_at_call 96; exact quiet_add_left (ho.out _))))
      go_wp2
      go_roundw
      case rel => exact ⟨A + 1, k + nq, by go_num, by rw [ST.out]; go_num, by omega, by omega, rfl⟩
      case measure => simp [intOf]; omega
    · have hcl := cntTo_len ws 0 t A
      have hcl2 : cntTo ws 0 t A ≤ 4194304 := by omega
      have HE := hide (cntTo_end (ws := ws) (f := 0) (t := t) (A := A) (by omega))
      generalize cntTo ws 0 t A = T at *
      go_wp2_with (first | (go_at_call 81; refine (wordsBelow_any _ (by omega) (by omega) _).mono ?_; rintro e w' ⟨rfl, rfl⟩))
      go_ret
      exact ⟨ret_int (by rw [← HE.out]), k, rfl⟩
theorem count_fn {w : World} {bs bw n : Nat} {ws : List Nat} (h : BSet w bs bw n ws) (f t : Int) (hf0 : -9223372036854775808 ≤ f) (hf1 : f ≤ 9223372036854775807) (ht0 : -9223372036854775808 ≤ t) (ht1 : t ≤ 9223372036854775807)
    (hf : 0 ≤ f) (ht : (n : Int) < t) : Calls Tryd.prog 93 #[.pointer (some ⟨bs, 0, none⟩), .int .i64 f, .int .i64 t] w (CountPost ws f (n : Int) w) := by
  have hmax := h.max
  have hlen := h.len
  have hlm : ws.length ≤ 65536 := by omega
  have hl1 := hide (show n ≤ ws.length * 64 by omega)
  have H := hide h
  have h1 := h.c1
  clear h hlen
  go_enter Tryd.func93, Tryd.ntmps93
  go_wp2_with (first | (go_at_call 95; refine (len_any H.out).mono ?_; rintro e w' ⟨rfl, rfl⟩))
  go_loopw [7, 8] (fun T a wr => ∃ A k : Nat, a = .int .i64 A ∧ T = .int .u32 ((cntTo ws f (n : Int) A : Nat) : Int) ∧ f < A * 64 + 64 ∧ (A : Int) ≤ 144115188075855872 ∧ wr = w.drewN k) (fun _ a _ => (((n : Int) + 63) / 64 - intOf a).toNat)
  case atStart => exact ⟨(f / 64).toNat, 0, by go_num, by rw [cntTo_zero (by omega)]; rfl, by omega, by omega, rfl⟩
  case round =>
    obtain ⟨A, k, rfl, rfl, hfA, hA, rfl⟩ := hrel
    by_cases hc : (A : Int) < ((n : Int) + 63) / 64
    · have hA1 : A < ws.length := by have := hl1.out; omega
      have hA2 : (A : Int) < (ws.length : Int) := by omega
      have hw := H.out.cw hA1
      have hx := H.out.ok A
      have ST := hide (cnt_step ws f (n : Int) A)
      have hm := hide (between_any A f (n : Int) (by omega) (by omega) (by omega) (by omega) (by omega) (by omega))
      have hml := (msk_is A f (n : Int)).1
      have hcl := cntTo_len ws f (n : Int) A
      have hcl2 : cntTo ws f (n : Int) A ≤ 4194304 := by omega
      generalize cntTo ws f (n : Int) A = T at *
      generalize msk (A : Int) f (n : Int) = m at *
      generalize ws.getD A 0 = x at *
      have e1 := u64_and_nat x m hx hml
      have hyl : x &&& m < 18446744073709551616 := Nat.lt_of_le_of_lt Nat.and_le_left hx
      have hp := pc_le (x &&& m)
      have ho := hide (ones_any (x &&& m) hyl)
      generalize x &&& m = y at *
      generalize pc y = q at *
      clear hcl
      go_wp2_with (first | (go_at_call 81; refine (wordsBelow_any _ (by omega) (by omega) _).mono ?_; rintro e w' ⟨rfl, rfl⟩))
      go_quiet ((first | (go_at_call 97; exact quiet_add_left (hm.out _)) | (go_at_call 96; exact quiet_add_left (ho.out _))))
      go_wp2
      go_roundw
      case rel => exact ⟨A + 1, k + nq, by go_num, by rw [ST.out]; go_num, by omega, by omega, rfl⟩
      case measure => simp [intOf]; omega
    · have hcl := cntTo_len ws f (n : Int) A
      have hcl2 : cntTo ws f (n : Int) A ≤ 4194304 := by omega
      have HE := hide (cntTo_end (ws := ws) (f := f) (t := (n : Int)) (A := A) (by omega))
      generalize cntTo ws f (n : Int) A = T at *
      go_wp2_with (first | (go_at_call 81; refine (wordsBelow_any _ (by omega) (by omega) _).mono ?_; rintro e w' ⟨rfl, rfl⟩))
      go_ret
      exact ⟨ret_int (by rw [← HE.out]), k, rfl⟩
theorem count_zn {w : World} {bs bw n : Nat} {ws : List Nat} (h : BSet w bs bw n ws) (f t : Int) (hf0 : -9223372036854775808 ≤ f) (hf1 : f ≤ 9223372036854775807) (ht0 : -9223372036854775808 ≤ t) (ht1 : t ≤ 9223372036854775807)
    (hf : f < 0) (ht : (n : Int) < t) : Calls Tryd.prog 93 #[.pointer (some ⟨bs, 0, none⟩), .int .i64 f, .int .i64 t] w (CountPost ws 0 (n : Int) w) := by
  have hmax := h.max
  have hlen := h.len
  have hlm : ws.length ≤ 65536 := by omega
  have hl1 := hide (show n ≤ ws.length * 64 by omega)
  have H := hide h
  have h1 := h.c1
  clear h hlen
  go_enter Tryd.func93, Tryd.ntmps93
  go_wp2_with (first | (go_at_call 95; refine (len_any H.out).mono ?_; rintro e w' ⟨rfl, rfl⟩))
  go_loopw [7, 8] (fun T a wr => ∃ A k : Nat, a = .int .i64 A ∧ T = .int .u32 ((cntTo ws 0 (n : Int) A : Nat) : Int) ∧ (0 : Int) < A * 64 + 64 ∧ (A : Int) ≤ 144115188075855872 ∧ wr = w.drewN k) (fun _ a _ => (((n : Int) + 63) / 64 - intOf a).toNat)
  case atStart => exact ⟨0, 0, rfl, by rw [cntTo_zero (by omega)]; rfl, by omega, by omega, rfl⟩
  case round =>
    obtain ⟨A, k, rfl, rfl, hfA, hA, rfl⟩ := hrel
    by_cases hc : (A : Int) < ((n : Int) + 63) / 64
    · have hA1 : A < ws.length := by have := hl1.out; omega
      have hA2 : (A : Int) < (ws.length : Int) := by omega
      have hw := H.out.cw hA1
      have hx := H.out.ok A
      have ST := hide (cnt_step ws 0 (n : Int) A)
      have hm := hide (between_any A 0 (n : Int) (by omega) (by omega) (by omega) (by omega) (by omega) (by omega))
      have hml := (msk_is A 0 (n : Int)).1
      have hcl := cntTo_len ws 0 (n : Int) A
      have hcl2 : cntTo ws 0 (n : Int) A ≤ 4194304 := by omega
      generalize cntTo ws 0 (n : Int) A = T at *
      generalize msk (A : Int) 0 (n : Int) = m at *
      generalize ws.getD A 0 = x at *
      have e1 := u64_and_nat x m hx hml
      have hyl : x &&& m < 18446744073709551616 := Nat.lt_of_le_of_lt Nat.and_le_left hx
      have hp := pc_le (x &&& m)
      have ho := hide (ones_any (x &&& m) hyl)
      generalize x &&& m = y at *
      generalize pc y = q at *
      clear hcl
      go_wp2_with (first | (go_at_call 81; refine (wordsBelow_any _ (by omega) (by omega) _).mono ?_; rintro e w' ⟨rfl, rfl⟩))
      go_quiet ((first | (go_at_call 97; exact quiet_add_left (hm.out _)) | (go_at_call 96; exact quiet_add_left (ho.out _))))
      go_wp2
      go_roundw
      case rel => exact ⟨A + 1, k + nq, by go_num, by rw [ST.out]; go_num, by omega, by omega, rfl⟩
      case measure => simp [intOf]; omega
    · have hcl := cntTo_len ws 0 (n : Int) A
      have hcl2 : cntTo ws 0 (n : Int) A ≤ 4194304 := by omega
      have HE := hide (cntTo_end (ws := ws) (f := 0) (t := (n : Int)) (A := A) (by omega))
      generalize cntTo ws 0 (n : Int) A = T at *
      go_wp2_with (first | (go_at_call 81; refine (wordsBelow_any _ (by omega) (by omega) _).mono ?_; rintro e w' ⟨rfl, rfl⟩))
      go_ret
      exact ⟨ret_int (by rw [← HE.out]), k, rfl⟩
theorem cntR_clip {ws : List Nat} {n : Nat} (htop : ∀ j, n ≤ j → wbit ws j = false) {f t f' t' : Int} (hf : f' = f ∨ (f < 0 ∧ f' = 0)) (ht : t' = t ∨ ((n : Int) ≤ t ∧ t' = n)) : cntR ws f' t' = cntR ws f t := by
  refine cnt_congr fun j _ => ?_
  rw [Nat.zero_add]
  rcases Nat.lt_or_ge j n with hj | hj
  · congr 1
    rw [decide_eq_decide]
    omega
  · rw [htop j hj]; rfl
theorem count_any {w : World} {bs bw n : Nat} {ws : List Nat} (h : BSet w bs bw n ws) (f t : Int) (hf0 : -9223372036854775808 ≤ f) (hf1 : f ≤ 9223372036854775807) (ht0 : -9223372036854775808 ≤ t) (ht1 : t ≤ 9223372036854775807) :
    Calls Tryd.prog 93 #[.pointer (some ⟨bs, 0, none⟩), .int .i64 f, .int .i64 t] w (CountPost ws f t w) := by
  have key : ∀ {f' t' : Int}, (f' = f ∨ (f < 0 ∧ f' = 0)) → (t' = t ∨ ((n : Int) ≤ t ∧ t' = n)) → ∀ e w', CountPost ws f' t' w e w' → CountPost ws f t w e w' := by
    intro f' t' hf ht e w' hp
    unfold CountPost at *
    rw [← cntR_clip h.top hf ht]
    exact hp
  rcases (show 0 ≤ f ∨ f < 0 by omega) with hf | hf <;> rcases (show t ≤ (n : Int) ∨ (n : Int) < t by omega) with ht | ht
  · exact count_ft h f t hf0 hf1 ht0 ht1 hf ht
  · exact (count_fn h f t hf0 hf1 ht0 ht1 hf ht).mono (key (.inl rfl) (.inr ⟨by omega, rfl⟩))
  · exact (count_zt h f t hf0 hf1 ht0 ht1 hf ht).mono (key (.inr ⟨hf, rfl⟩) (.inl rfl))
  · exact (count_zn h f t hf0 hf1 ht0 ht1 hf ht).mono (key (.inr ⟨hf, rfl⟩) (.inr ⟨by omega, rfl⟩))
end Go.Proofs.YtkbffmmomoeaiaaDoor
