import Derived.Test.YtkbffmmomoeaiaaDoorBm
import Derived.Laws.BitsAllLaws
import Derived.Laws.Bits128
import Derived.Lib.TrailingZeros
namespace Go.Gl
set_option linter.unusedVariables false

theorem i64_and63 (n : Int) : bits .and .i64 n 63 = n % 64 := by
  have h127 : (BitVec.ofInt 64 63).toNat = 2 ^ 6 - 1 := by decide
  have key : (BitVec.ofInt 64 n &&& BitVec.ofInt 64 63).toNat = (n % ((2 ^ 64 : Nat) : Int)).toNat % 2 ^ 6 := by
    rw [BitVec.toNat_and, BitVec.toNat_ofInt, h127, Nat.and_two_pow_sub_one_eq_mod]
  show IntKind.i64.wrap ((BitVec.ofInt 64 n &&& BitVec.ofInt 64 63).toNat : Nat) = n % 64
  rw [key, IntKind.wrap_i64]
  omega

theorem pow_lt64 {k : Nat} (h : k < 64) : 2 ^ k < 18446744073709551616 := Nat.pow_lt_pow_of_lt (a := 2) (n := k) (m := 64) (by decide) h

/-- The bits from s on of a word of ones. -/
def hi (s : Nat) : Nat := 18446744073709551615 * 2 ^ s % 18446744073709551616
/-- The bits below 64 - s of a word of ones. -/
def lo (s : Nat) : Nat := 18446744073709551615 / 2 ^ s
theorem hi_lt (s : Nat) : hi s < 18446744073709551616 := Nat.mod_lt _ (by decide)
theorem lo_lt (s : Nat) : lo s < 18446744073709551616 := Nat.lt_of_le_of_lt (Nat.div_le_self _ _) (by decide)
theorem hi_bit (s j : Nat) : (hi s).testBit j = (decide (s ≤ j) && decide (j < 64)) := by
  unfold hi
  rw [show (18446744073709551616 : Nat) = 2 ^ 64 from rfl, Nat.testBit_mod_two_pow, Nat.testBit_mul_two_pow, show (18446744073709551615 : Nat) = 2 ^ 64 - 1 from rfl, Nat.testBit_two_pow_sub_one]
  by_cases h1 : s ≤ j <;> by_cases h2 : j < 64 <;> simp [h1, h2]
  omega
theorem lo_bit (s j : Nat) : (lo s).testBit j = decide (j + s < 64) := by
  unfold lo
  rw [Nat.testBit_div_two_pow, show (18446744073709551615 : Nat) = 2 ^ 64 - 1 from rfl, Nat.testBit_two_pow_sub_one]

/-- The mask of the numbers from f on and below t in the word at a. -/
def IsMask (a f t : Int) (m : Nat) : Prop := m < 18446744073709551616 ∧ ∀ j : Nat, j < 64 → m.testBit j = decide (f ≤ a * 64 + j ∧ a * 64 + j < t)

theorem mask_hl {a f t : Int} (ht : t < (a + 1) * 64) : IsMask a f t (hi (f - a * 64).toNat &&& lo ((a + 1) * 64 - t).toNat) :=
  ⟨Nat.lt_of_le_of_lt Nat.and_le_left (hi_lt _), fun j hj => by
    rw [Nat.testBit_and, hi_bit, lo_bit]
    by_cases h1 : f ≤ a * 64 + j <;> by_cases h2 : a * 64 + j < t <;> simp [h1, h2, hj] <;> omega⟩
theorem mask_h {a f t : Int} (ht : (a + 1) * 64 ≤ t) : IsMask a f t (hi (f - a * 64).toNat) :=
  ⟨hi_lt _, fun j hj => by
    rw [hi_bit]
    by_cases h1 : f ≤ a * 64 + j <;> simp [h1, hj] <;> omega⟩
theorem mask_l {a f t : Int} (hf : f ≤ a * 64) (ht : t < (a + 1) * 64) : IsMask a f t (lo ((a + 1) * 64 - t).toNat) :=
  ⟨lo_lt _, fun j hj => by
    rw [lo_bit]
    by_cases h2 : a * 64 + j < t <;> simp [h2] <;> omega⟩
theorem mask_all {a f t : Int} (hf : f ≤ a * 64) (ht : (a + 1) * 64 ≤ t) : IsMask a f t 18446744073709551615 :=
  ⟨by decide, fun j hj => by
    rw [show (18446744073709551615 : Nat) = 2 ^ 64 - 1 from rfl, Nat.testBit_two_pow_sub_one]
    simp [hj]; omega⟩
theorem u64_hi (s : Nat) : IntKind.u64.wrap (18446744073709551615 * 2 ^ s) = ((hi s : Nat) : Int) := by
  rw [IntKind.wrap_u64]; unfold hi; simp
theorem u64_lo (s : Nat) : (18446744073709551615 : Int) / 2 ^ s = ((lo s : Nat) : Int) := by
  unfold lo; simp
theorem ones_and (m : Nat) (h : m < 18446744073709551616) : 18446744073709551615 &&& m = m := by
  rw [Nat.and_comm, show (18446744073709551615 : Nat) = 2 ^ 64 - 1 from rfl, Nat.and_two_pow_sub_one_eq_mod]
  exact Nat.mod_eq_of_lt h

/-- Whether number i is in, by its word's bit. -/
def wbit (ws : List Nat) (i : Nat) : Bool := (ws.getD (i / 64) 0).testBit (i % 64)
def Words (ws : List Nat) : Prop := ∀ k, ws.getD k 0 < 18446744073709551616

theorem words_set {ws : List Nat} (h : Words ws) {k x : Nat} (hx : x < 18446744073709551616) : Words (ws.set k x) := by
  intro j
  have hj := h j
  simp only [List.getD_eq_getElem?_getD, List.getElem?_set] at hj ⊢
  split
  · split <;> simp [hx]
  · exact hj
theorem wbit_set {ws : List Nat} {k x : Nat} (hk : k < ws.length) (i : Nat) : wbit (ws.set k x) i = if i / 64 = k then x.testBit (i % 64) else wbit ws i := by
  unfold wbit
  simp only [List.getD_eq_getElem?_getD, List.getElem?_set]
  by_cases h : k = i / 64
  · subst h; simp [hk]
  · rw [if_neg h, if_neg (fun e => h e.symm)]
theorem and_pow_ne {x i : Nat} : ((x &&& 2 ^ i) != 0) = x.testBit i := by
  rw [Nat.testBit, Nat.and_comm, Nat.shiftRight_eq_div_pow]
  rw [Nat.and_comm, nat_bit]
  have h2 : x / 2 ^ i % 2 = 0 ∨ x / 2 ^ i % 2 = 1 := by omega
  have hp : 0 < 2 ^ i := Nat.two_pow_pos _
  have e : 1 &&& (x / 2 ^ i) = x / 2 ^ i % 2 := by rw [Nat.and_comm]; exact Nat.and_two_pow_sub_one_eq_mod _ 1
  rw [e]
  rcases h2 with h2 | h2
  · simp [h2]
  · rw [h2]; simp
theorem xor_pow_bit (x i j : Nat) : (x ^^^ 2 ^ i).testBit j = if i = j then !(x.testBit j) else x.testBit j := by
  rw [Nat.testBit_xor, Nat.testBit_two_pow]
  by_cases h : i = j <;> simp [h]
theorem not_bit {m : Nat} (hm : m < 18446744073709551616) {j : Nat} (hj : j < 64) : (18446744073709551615 - m).testBit j = !(m.testBit j) := by
  rw [show 18446744073709551615 - m = 2 ^ 64 - (m + 1) by omega, Nat.testBit_two_pow_sub_succ (by omega)]
  simp [hj]
theorem bit_lt {x j : Nat} (h : x < 18446744073709551616) (hj : 64 ≤ j) : x.testBit j = false := by
  refine Nat.testBit_lt_two_pow (Nat.lt_of_lt_of_le h ?_)
  exact Nat.pow_le_pow_right (by decide : 2 > 0) hj
theorem ne_zero_bit {x : Nat} (h : x < 18446744073709551616) (h0 : ∀ j, j < 64 → x.testBit j = false) : x = 0 := by
  apply Nat.eq_of_testBit_eq
  intro j
  rw [Nat.zero_testBit]
  rcases Nat.lt_or_ge j 64 with hj | hj
  · exact h0 j hj
  · exact bit_lt h hj
/-- The lowest bit that is set. -/
theorem ctz_low (x : Nat) (h0 : 0 < x) (h : x < 18446744073709551616) : Lib.ctz 64 x < 64 ∧ x.testBit (Lib.ctz 64 x) = true ∧ ∀ j, j < Lib.ctz 64 x → x.testBit j = false := by
  obtain ⟨m, hm, hk⟩ := Lib.ctzFrom_spec 64 x h0 h
  have hc : Lib.ctz 64 x = Lib.ctzFrom 64 x := by unfold Lib.ctz; rw [if_neg (by omega)]
  rw [hc]
  generalize Lib.ctzFrom 64 x = k at *
  refine ⟨hk, ?_, fun j hj => ?_⟩
  · rw [hm, Nat.mul_comm, Nat.testBit_mul_two_pow]; simp
  · rw [hm, Nat.mul_comm, Nat.testBit_mul_two_pow]; simp; omega
/-- x & (x - 1): the lowest bit goes. -/
theorem and_pred_bit (x : Nat) (h0 : 0 < x) (h : x < 18446744073709551616) (j : Nat) : (x &&& (x - 1)).testBit j = (x.testBit j && decide (j ≠ Lib.ctz 64 x)) := by
  obtain ⟨m, hm, hk⟩ := Lib.ctzFrom_spec 64 x h0 h
  have hc : Lib.ctz 64 x = Lib.ctzFrom 64 x := by unfold Lib.ctz; rw [if_neg (by omega)]
  rw [hc]
  generalize Lib.ctzFrom 64 x = k at *
  have hp : 0 < 2 ^ k := Nat.two_pow_pos _
  have e : x - 1 = 2 ^ k * (2 * m) + (2 ^ k - 1) := by
    rw [hm, Nat.mul_add]; omega
  rw [Nat.testBit_and, e, Nat.testBit_two_pow_mul_add _ (by omega)]
  conv => lhs; rw [hm]
  conv => rhs; rw [hm]
  rw [Nat.mul_comm (2 ^ k) (2 * m + 1), Nat.testBit_mul_two_pow]
  by_cases h1 : j < k
  · simp [h1]; omega
  · by_cases h2 : j = k
    · subst h2; simp
    · obtain ⟨d, hd⟩ : ∃ d, j - k = d + 1 := ⟨j - k - 1, by omega⟩
      rw [if_neg h1, hd, Nat.testBit_succ, Nat.testBit_succ]
      have a1 : (2 * m + 1) / 2 = m := by omega
      have a2 : 2 * m / 2 = m := by omega
      rw [a1, a2]
      have : k ≤ j := by omega
      simp [h2, this]
end Go.Gl
