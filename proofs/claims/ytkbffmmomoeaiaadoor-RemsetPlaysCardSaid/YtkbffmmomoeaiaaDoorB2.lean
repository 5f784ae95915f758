/- Sets of numbers: what each call of the package bits answers of a set that lies in memory, and what it leaves there. -/
import Derived.Test.YtkbffmmomoeaiaaDoorB1
namespace Go.Proofs.YtkbffmmomoeaiaaDoor
set_option linter.unusedVariables false
open Go.RowKit Go.Gl

def wv (ws : List Nat) : Array Value := (ws.map fun (x : Nat) => Value.int .u64 (x : Int)).toArray
theorem wv_at (ws : List Nat) (k : Nat) (h : k < ws.length) : (wv ws)[k]? = some (.int .u64 ((ws.getD k 0 : Nat) : Int)) := by
  simp [wv, h]
theorem wv_set (ws : List Nat) (k x : Nat) : (wv ws).setIfInBounds k (.int .u64 (x : Int)) = wv (ws.set k x) := by
  simp [wv]

/-- A set lies at the block bs, its words at bw. -/
structure BSet (w : World) (bs bw n : Nat) (ws : List Nat) : Prop where
  set : Blk w bs 98 #[.int .i64 (n : Int), .slice (some ⟨bw, 0, none⟩) ws.length ws.length]
  row : Blk w bw 95 (wv ws)
  len : ws.length = (n + 63) / 64
  max : n ≤ 4194304
  ok : Words ws
  top : ∀ i, n ≤ i → wbit ws i = false

section
variable {w w' : World} {bs bw n : Nat} {ws : List Nat} {F : List Nat}
theorem BSet.fr (h : BSet w bs bw n ws) (hf : Fr F w w') (h1 : bs ∉ F) (h2 : bw ∉ F) : BSet w' bs bw n ws :=
  ⟨h.set.fr hf h1, h.row.fr hf h2, h.len, h.max, h.ok, h.top⟩
theorem BSet.drewN (h : BSet w bs bw n ws) (k : Nat) : BSet (w.drewN k) bs bw n ws := ⟨h.set, h.row, h.len, h.max, h.ok, h.top⟩
theorem BSet.drew (h : BSet w bs bw n ws) : BSet w.drew bs bw n ws := ⟨h.set, h.row, h.len, h.max, h.ok, h.top⟩
theorem BSet.c0 (h : BSet w bs bw n ws) : w.cell? ⟨bs, 0, none⟩ = some (.int .i64 (n : Int)) := by rw [h.set.cell]; rfl
theorem BSet.c1 (h : BSet w bs bw n ws) : w.cell? ⟨bs, 1, none⟩ = some (.slice (some ⟨bw, 0, none⟩) ws.length ws.length) := by rw [h.set.cell]; rfl
theorem BSet.cw (h : BSet w bs bw n ws) {k : Nat} (hk : k < ws.length) : w.cell? ⟨bw, k, none⟩ = some (.int .u64 ((ws.getD k 0 : Nat) : Int)) := by rw [h.row.cell, wv_at _ _ hk]
theorem BSet.ne (h : BSet w bs bw n ws) : bs ≠ bw := h.set.apart h.row (by decide)
end

/-- Whether any number i is in. -/
def inB (ws : List Nat) (i : Int) : Bool := decide (0 ≤ i) && wbit ws i.toNat

theorem natBne (m : Nat) : ((m : Int) != 0) = (m != 0) := by cases m <;> rfl
theorem u64_and_pow (x k : Nat) (hx : x < 18446744073709551616) (hk : k < 64) : bits .and .u64 (x : Int) ((2 : Int) ^ k) = ((x &&& 2 ^ k : Nat) : Int) := by
  have := u64_and_nat x (2 ^ k) hx (pow_lt64 hk)
  rw [Int.natCast_pow] at this
  exact this
theorem u64_xor_pow (x k : Nat) (hx : x < 18446744073709551616) (hk : k < 64) : bits .xor .u64 (x : Int) ((2 : Int) ^ k) = ((x ^^^ 2 ^ k : Nat) : Int) := by
  have := u64_xor_nat x (2 ^ k) hx (pow_lt64 hk)
  rw [Int.natCast_pow] at this
  exact this
theorem may_nil (i : Int) (w : World) : Calls Tryd.prog 52 #[.pointer none, .int .i64 i] w fun e w' => e = .returned (.bool false) ∧ w = w' := by
  go_enter Tryd.func52, Tryd.ntmps52
  go_wp2
  all_goals go_ret
  all_goals exact ⟨rfl, rfl⟩
def mayI (n : Nat) (i : Int) : Bool := decide (0 ≤ i ∧ i < (n : Int))
theorem may_any {w : World} {bs bw n : Nat} {ws : List Nat} (h : BSet w bs bw n ws) (i : Int) :
    Calls Tryd.prog 52 #[.pointer (some ⟨bs, 0, none⟩), .int .i64 i] w fun e w' => e = .returned (.bool (mayI n i)) ∧ w = w' := by
  have h0 := h.c0
  clear h
  go_enter Tryd.func52, Tryd.ntmps52
  go_wp2
  all_goals go_ret
  · rename_i hi
    refine ⟨ret_bool ?_, rfl⟩
    simp [mayI, hi]
  · rename_i hi
    refine ⟨ret_bool ?_, rfl⟩
    simp [mayI]; omega

theorem has_nil (i : Int) (w : World) : Calls Tryd.prog 37 #[.pointer none, .int .i64 i] w fun e w' => e = .returned (.bool false) ∧ ∃ k, w' = w.drewN k := by
  go_enter Tryd.func37, Tryd.ntmps37
  go_wp2_with fail
  go_quiet ((go_at_call 52; exact quiet_left (may_nil _ _)))
  go_wp2
  go_ret
  exact ⟨rfl, _, rfl⟩
theorem has_any {w : World} {bs bw n : Nat} {ws : List Nat} (h : BSet w bs bw n ws) (i : Int) :
    Calls Tryd.prog 37 #[.pointer (some ⟨bs, 0, none⟩), .int .i64 i] w fun e w' => e = .returned (.bool (inB ws i)) ∧ ∃ k, w' = w.drewN k := by
  by_cases hi : 0 ≤ i ∧ i < (n : Int)
  · obtain ⟨hi0, hi1⟩ := hi
    obtain ⟨I, rfl⟩ := Int.eq_ofNat_of_zero_le hi0
    have hlen := h.len
    have hmax := h.max
    have hk : I / 64 < ws.length := by omega
    have h1 := h.c1
    have hw := h.cw hk
    have hx := h.ok (I / 64)
    have hm : ∀ W, BSet W bs bw n ws → Calls Tryd.prog 52 #[.pointer (some ⟨bs, 0, none⟩), .int .i64 (I : Int)] W fun e w' => e = .returned (.bool true) ∧ W = w' := by
      intro W hW
      have := may_any hW (I : Int)
      rw [show mayI n (I : Int) = true by simp [mayI]; omega] at this
      exact this
    have hin : inB ws (I : Int) = ((ws.getD (I / 64) 0 &&& 2 ^ (I % 64)) != 0) := by
      rw [and_pow_ne]; simp [inB, wbit]
    rw [hin]
    generalize ws.getD (I / 64) 0 = x at *
    have HM := hide hm
    have HS := hide h
    clear hm h hin hlen
    have e1 := hide (u64_and_pow x (I % 64) hx (by omega))
    go_enter Tryd.func37, Tryd.ntmps37
    go_wp2_with fail
    go_quiet ((first | (go_at_call 52; exact quiet_left (HM.out _ (HS.out.drewN _))) | (go_at_call 53; exact quiet_left (bitOf_any _ _))))
    go_wp2
    go_ret
    refine ⟨ret_bool ?_, _, rfl⟩
    rw [e1.out]
    exact natBne _
  · have hout : inB ws i = false := by
      unfold inB
      by_cases h0 : 0 ≤ i
      · simp [h0, h.top i.toNat (by omega)]
      · simp [h0]
    rw [hout]
    have hm : ∀ W, BSet W bs bw n ws → Calls Tryd.prog 52 #[.pointer (some ⟨bs, 0, none⟩), .int .i64 i] W fun e w' => e = .returned (.bool false) ∧ W = w' := by
      intro W hW
      have := may_any hW i
      rw [show mayI n i = false by simp only [mayI, decide_eq_false_iff_not]; exact hi] at this
      exact this
    have HM := hide hm
    have HS := hide h
    clear hm h hout hi
    go_enter Tryd.func37, Tryd.ntmps37
    go_wp2_with fail
    go_quiet ((go_at_call 52; exact quiet_left (HM.out _ (HS.out.drewN _))))
    go_wp2
    go_ret
    exact ⟨rfl, _, rfl⟩

/-- What Put or Drop of i come to. -/
def Turned (ws : List Nat) (n : Nat) (i : Int) (on c : Bool) (er : Int) (ws' : List Nat) : Prop :=
  (0 ≤ i ∧ i < (n : Int) ∧ er = 0 ∧ c = (wbit ws i.toNat != on) ∧ ∀ j : Nat, wbit ws' j = if j = i.toNat then on else wbit ws j) ∨
  (¬ (0 ≤ i ∧ i < (n : Int)) ∧ er = 2 ∧ c = false ∧ ws' = ws)
def TurnPost (w : World) (bs bw n : Nat) (ws : List Nat) (i : Int) (on : Bool) (e : Ending) (w' : World) : Prop :=
  ∃ c er ws', e = .returned (.tuple #[.bool c, .int .i64 er]) ∧ BSet w' bs bw n ws' ∧ Fr [bw] w w' ∧ Turned ws n i on c er ws'

theorem turn_nil (i : Int) (on : Bool) (w : World) : Calls Tryd.prog 60 #[.pointer none, .int .i64 i, .bool on] w fun e w' => e = .returned (.tuple #[.bool false, .int .i64 1]) ∧ w = w' := by
  go_enter Tryd.func60, Tryd.ntmps60
  go_wp2
  go_ret2
  exact ⟨rfl, rfl⟩
theorem put_nil (i : Int) (w : World) : Calls Tryd.prog 46 #[.pointer none, .int .i64 i] w fun e w' => e = .returned (.tuple #[.bool false, .int .i64 1]) ∧ w = w' := by
  go_enter Tryd.func46, Tryd.ntmps46
  go_wp2_with (go_at_call 60; refine (turn_nil _ _ _).mono ?_; rintro e w' ⟨rfl, rfl⟩)
  go_ret2
  exact ⟨rfl, rfl⟩
theorem turned_ws {ws : List Nat} {n I : Nat} {on : Bool} (hI : I < n) (hl : ws.length = (n + 63) / 64) (hc : (wbit ws I == on) = false) (j : Nat) :
    wbit (ws.set (I / 64) (ws.getD (I / 64) 0 ^^^ 2 ^ (I % 64))) j = if j = I then on else wbit ws j := by
  rw [wbit_set (by omega)]
  have hon : (!(wbit ws I)) = on := by revert hc; cases wbit ws I <;> cases on <;> simp
  by_cases hj : j / 64 = I / 64
  · rw [if_pos hj, xor_pow_bit]
    by_cases hm : I % 64 = j % 64
    · have : j = I := by omega
      subst this
      rw [if_pos rfl, if_pos rfl, ← hon]; rfl
    · rw [if_neg hm, if_neg (by rintro rfl; exact hm rfl)]
      unfold wbit; rw [hj]
  · rw [if_neg hj, if_neg (by rintro rfl; exact hj rfl)]
theorem bset_turn {w : World} {bs bw n : Nat} {ws : List Nat} (h : BSet w bs bw n ws) {I : Nat} {on : Bool} (hI : I < n) (hc : (wbit ws I == on) = false) :
    BSet (w.setCell ⟨bw, I / 64, none⟩ (.int .u64 ((ws.getD (I / 64) 0 ^^^ 2 ^ (I % 64) : Nat) : Int))) bs bw n (ws.set (I / 64) (ws.getD (I / 64) 0 ^^^ 2 ^ (I % 64))) := by
  refine ⟨?_, ?_, ?_, h.max, words_set h.ok ?_, fun j hj => ?_⟩
  · rw [List.length_set]; exact h.set.far (p := ⟨bw, I / 64, none⟩) h.ne _
  · have := h.row.put (I / 64) (.int .u64 ((ws.getD (I / 64) 0 ^^^ 2 ^ (I % 64) : Nat) : Int))
    rw [wv_set] at this; exact this
  · rw [List.length_set]; exact h.len
  · exact Nat.xor_lt_two_pow (n := 64) (h.ok _) (pow_lt64 (by omega))
  · rw [turned_ws hI h.len hc, if_neg (by omega)]; exact h.top j hj

set_option maxRecDepth 100000 in
theorem turn_any {w : World} {bs bw n : Nat} {ws : List Nat} (h : BSet w bs bw n ws) (i : Int) (on : Bool) :
    Calls Tryd.prog 60 #[.pointer (some ⟨bs, 0, none⟩), .int .i64 i, .bool on] w (TurnPost w bs bw n ws i on) := by
  by_cases hi : 0 ≤ i ∧ i < (n : Int)
  · obtain ⟨hi0, hi1⟩ := hi
    obtain ⟨I, rfl⟩ := Int.eq_ofNat_of_zero_le hi0
    have hlen := h.len
    have hmax := h.max
    have hk : I / 64 < ws.length := by omega
    have hI' : I < n := by omega
    have hm := hide (may_any h (I : Int))
    have hb : mayI n (I : Int) = true := by simp [mayI]; omega
    have hin : inB ws (I : Int) = wbit ws I := by simp [inB]
    by_cases hc : (wbit ws I == on) = true
    · have HS := hide h
      clear h hlen
      go_enter Tryd.func60, Tryd.ntmps60
      go_wp2_with (first | (go_at_call 52; refine (hm.out).mono ?_; rintro e w' ⟨rfl, rfl⟩) | (go_at_call 37; refine (has_any HS.out _).mono ?_; rintro e w' ⟨rfl, nq, rfl⟩))
      go_ret2
      have hc' : wbit ws I = on := by simpa using hc
      refine ⟨false, 0, ws, rfl, HS.out.drewN _, (Fr.refl _ _).drewN _, .inl ⟨hi0, hi1, rfl, ?_, fun j => ?_⟩⟩
      · rw [Int.toNat_natCast, hc']; simp
      · rw [Int.toNat_natCast]
        split
        · rename_i hj; rw [hj, hc']
        · rfl
    · have hcf : (wbit ws I == on) = false := by simpa using hc
      have HB := hide (bset_turn (w := w) h hI' hcf)
      have HS := hide h
      have h1 := h.c1
      have hw := h.cw hk
      have hx := h.ok (I / 64)
      have hfz := h.row.frozen (I / 64)
      have HT := hide (turned_ws hI' hlen hcf)
      generalize hX : ws.getD (I / 64) 0 = x at *
      have e1 := hide (u64_xor_pow x (I % 64) hx (by omega))
      clear h hlen hc hX
      go_enter Tryd.func60, Tryd.ntmps60
      go_wp2_with (first | (go_at_call 52; refine (hm.out).mono ?_; rintro e w' ⟨rfl, rfl⟩) | (go_at_call 37; refine (has_any HS.out _).mono ?_; rintro e w' ⟨rfl, nq, rfl⟩))
      have hb1 : (0 : Int) ≤ (I : Int) / 64 := by omega
      have hb2 : (I : Int) / 64 < (ws.length : Int) := by omega
      have hb3 : ((I : Int) / 64).toNat = I / 64 := by omega
      refine region_tail 12 (by kernel_rfl) (by kernel_rfl) ?_
      simp only [List.take_succ_cons, List.take_zero, List.drop_succ_cons, List.drop_zero]
      repeat still_step
      still_call (call_right (bitOf_any _ _))
      repeat still_step
      refine wpStill_nil ?_
      go_wp2
      go_ret2
      rw [e1.out]
      exact ⟨true, 0, _, rfl, (HB.out).drewN _, ((Fr.refl _ _).setCell (p := ⟨bw, I / 64, none⟩) (.inl (by simp)) _).drewN _, .inl ⟨hi0, hi1, rfl, by rw [Int.toNat_natCast]; simpa using hcf, by rw [Int.toNat_natCast]; exact HT.out⟩⟩
  · have hm := hide (may_any h i)
    have hb : mayI n i = false := by simp only [mayI, decide_eq_false_iff_not]; exact hi
    have HS := hide h
    have HI := hide hi
    clear h hi
    go_enter Tryd.func60, Tryd.ntmps60
    go_wp2_with (first | (go_at_call 52; refine (hm.out).mono ?_; rintro e w' ⟨rfl, rfl⟩))
    go_ret2
    exact ⟨false, 2, ws, rfl, HS.out, Fr.refl _ _, .inr ⟨HI.out, rfl, rfl, rfl⟩⟩
end Go.Proofs.YtkbffmmomoeaiaaDoor
