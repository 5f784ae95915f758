/- Words of bits: what the package bits' small functions answer. -/
import Derived.Test.YtkbffmmomoeaiaaDoorProg
import Derived.Test.YtkbffmmomoeaiaaDoorKit
import Derived.Test.YtkbffmmomoeaiaaDoorTz
import Derived.WalkKit
import Derived.BigQuiet

namespace Go.Proofs.YtkbffmmomoeaiaaDoor
set_option linter.unusedVariables false
open Go.RowKit Go.Gl

theorem wordsBelow_any (n : Int) (h0 : -9223372036854775808 ≤ n) (h1 : n ≤ 4611686018427387904) (w : World) :
    Calls Tryd.prog 81 #[.int .i64 n] w fun e w' => e = .returned (.int .i64 ((n + 63) / 64)) ∧ w = w' := by
  go_enter Tryd.func81, Tryd.ntmps81
  go_wp2
  go_ret
  exact ⟨rfl, rfl⟩

theorem bit_wrap (I : Nat) : IntKind.u64.wrap (2 ^ min (IntKind.u64.wrap (bits BinOp.and IntKind.i64 I 63)).toNat 64) = ((2 ^ (I % 64) : Nat) : Int) := by
  rw [i64_and63, IntKind.wrap_u64, IntKind.wrap_u64]
  have e1 : ((I : Int) % 64 % 18446744073709551616).toNat = I % 64 := by omega
  rw [e1, Nat.min_eq_left (by omega)]
  have := pow_lt64 (show I % 64 < 64 by omega)
  rw [show (2 : Int) ^ (I % 64) = ((2 ^ (I % 64) : Nat) : Int) from (Int.natCast_pow 2 _).symm]
  exact Int.emod_eq_of_lt (Int.natCast_nonneg _) (Int.ofNat_lt.2 this)
theorem bitOf_any (I : Nat) (w : World) :
    Calls Tryd.prog 53 #[.int .i64 (I : Int)] w fun e w' => e = .returned (.int .u64 ((2 ^ (I % 64) : Nat) : Int)) ∧ w = w' := by
  have H' := hide (bit_wrap I)
  go_enter Tryd.func53, Tryd.ntmps53
  go_wp2
  go_ret
  exact ⟨ret_int H'.out, rfl⟩

/-- The mask that the package makes. -/
def msk (a f t : Int) : Nat :=
  if a * 64 < f then (if t < (a + 1) * 64 then hi (f - a * 64).toNat &&& lo ((a + 1) * 64 - t).toNat else hi (f - a * 64).toNat)
  else if t < (a + 1) * 64 then lo ((a + 1) * 64 - t).toNat else 18446744073709551615
theorem msk_is (a f t : Int) : IsMask a f t (msk a f t) := by
  unfold msk
  split
  · split
    · exact mask_hl (by assumption)
    · exact mask_h (by omega)
  · split
    · exact mask_l (by omega) (by assumption)
    · exact mask_all (by omega) (by omega)
theorem u64_and_ones (m : Nat) (h : m < 18446744073709551616) : bits .and .u64 18446744073709551615 (m : Int) = (m : Int) := by
  have := u64_and_nat 18446744073709551615 m (by decide) h
  rw [ones_and m h] at this
  exact this
theorem between_any (a f t : Int) (h0 : 0 ≤ a) (h1 : a ≤ 65536) (_hf0 : -9223372036854775808 ≤ f) (hf : f < a * 64 + 64) (_ht1 : t ≤ 4611686018427387904) (ht : a * 64 < t) (w : World) :
    Calls Tryd.prog 97 #[.int .i64 a, .int .i64 f, .int .i64 t] w fun e w' => e = .returned (.int .u64 ((msk a f t : Nat) : Int)) ∧ w = w' := by
  by_cases c1 : a * 64 < f <;> by_cases c2 : t < (a + 1) * 64
  all_goals
    go_enter Tryd.func97, Tryd.ntmps97
    go_wp2
    go_ret
    refine ⟨ret_int ?_, rfl⟩
    unfold msk
  · rw [if_pos c1, if_pos c2, u64_hi, u64_lo, u64_and_ones _ (hi_lt _), u64_and_nat _ _ (hi_lt _) (lo_lt _)]
  · rw [if_pos c1, if_neg (by omega), u64_hi, u64_and_ones _ (hi_lt _)]
  · rw [if_neg (by omega), if_pos c2, u64_lo, u64_and_ones _ (lo_lt _)]
  · rw [if_neg (by omega), if_neg (by omega)]; rfl

theorem u64_sum (a b : Nat) (h : a + b < 18446744073709551616) : IntKind.u64.wrap ((a : Int) + (b : Int)) = ((a + b : Nat) : Int) := by
  rw [IntKind.wrap_u64]; omega
theorem swar_int (x : Nat) (hx : x < 18446744073709551616) : ∃ A B C D E F : Nat,
    IntKind.u64.wrap (bits BinOp.and IntKind.u64 (↑x / 2) 6148914691236517205 + bits BinOp.and IntKind.u64 (↑x) 6148914691236517205) = (A : Int) ∧
    IntKind.u64.wrap (bits BinOp.and IntKind.u64 (↑A / 4) 3689348814741910323 + bits BinOp.and IntKind.u64 (↑A) 3689348814741910323) = (B : Int) ∧
    bits BinOp.and IntKind.u64 (IntKind.u64.wrap (↑B / 16 + ↑B)) 1085102592571150095 = (C : Int) ∧
    IntKind.u64.wrap (↑C + ↑C / 256) = (D : Int) ∧ IntKind.u64.wrap (↑D + ↑D / 65536) = (E : Int) ∧ IntKind.u64.wrap (↑E + ↑E / 4294967296) = (F : Int) ∧
    bits BinOp.and IntKind.i64 (wrap64 ↑F) 127 = ((pc x : Nat) : Int) := by
  obtain ⟨hs, hc⟩ := swar x _ _ _ _ _ _ rfl rfl rfl rfl rfl rfl
  have a1 : x / 2 &&& 6148914691236517205 ≤ 6148914691236517205 := Nat.and_le_right
  have a2 : x &&& 6148914691236517205 ≤ 6148914691236517205 := Nat.and_le_right
  obtain ⟨A, hA⟩ : ∃ A, A = (x / 2 &&& 6148914691236517205) + (x &&& 6148914691236517205) := ⟨_, rfl⟩
  have eA : IntKind.u64.wrap (bits BinOp.and IntKind.u64 (↑x / 2) 6148914691236517205 + bits BinOp.and IntKind.u64 (↑x) 6148914691236517205) = (A : Int) := by
    have e1 := u64_and_nat (x / 2) 6148914691236517205 (by omega) (by decide)
    have e2 := u64_and_nat x 6148914691236517205 hx (by decide)
    rw [Int.natCast_ediv] at e1
    erw [e1, e2, u64_sum _ _ (by omega), hA]
  rw [← hA] at hs hc
  have b1 : A / 4 &&& 3689348814741910323 ≤ 3689348814741910323 := Nat.and_le_right
  have b2 : A &&& 3689348814741910323 ≤ 3689348814741910323 := Nat.and_le_right
  obtain ⟨B, hB⟩ : ∃ B, B = (A / 4 &&& 3689348814741910323) + (A &&& 3689348814741910323) := ⟨_, rfl⟩
  have eB : IntKind.u64.wrap (bits BinOp.and IntKind.u64 (↑A / 4) 3689348814741910323 + bits BinOp.and IntKind.u64 (↑A) 3689348814741910323) = (B : Int) := by
    have e1 := u64_and_nat (A / 4) 3689348814741910323 (by omega) (by decide)
    have e2 := u64_and_nat A 3689348814741910323 (by omega) (by decide)
    rw [Int.natCast_ediv] at e1
    erw [e1, e2, u64_sum _ _ (by omega), hB]
  rw [← hB] at hs hc
  obtain ⟨C, hC⟩ : ∃ C, C = (B / 16 + B) &&& 1085102592571150095 := ⟨_, rfl⟩
  have eC : bits BinOp.and IntKind.u64 (IntKind.u64.wrap (↑B / 16 + ↑B)) 1085102592571150095 = (C : Int) := by
    have e1 := u64_sum (B / 16) B (by omega)
    rw [Int.natCast_ediv] at e1
    have e2 := u64_and_nat (B / 16 + B) 1085102592571150095 (by omega) (by decide)
    erw [e1, e2, hC]
  rw [← hC] at hs hc
  refine ⟨A, B, C, C + C / 256, C + C / 256 + (C + C / 256) / 65536, C + C / 256 + (C + C / 256) / 65536 + (C + C / 256 + (C + C / 256) / 65536) / 4294967296, eA, eB, eC, ?_, ?_, ?_, ?_⟩
  · exact u64_sum C (C / 256) (by omega)
  · exact u64_sum (C + C / 256) ((C + C / 256) / 65536) (by omega)
  · exact u64_sum _ (_ / 4294967296) (by omega)
  · rw [IntWalk.wrap64_in _ ⟨by omega, by omega⟩, i64_and127, ← hs]
    rfl
theorem ones_any (x : Nat) (hx : x < 18446744073709551616) (w : World) :
    Calls Tryd.prog 96 #[.int .u64 (x : Int)] w fun e w' => e = .returned (.int .i64 ((pc x : Nat) : Int)) ∧ w = w' := by
  obtain ⟨A, B, C, D, E, F, h1, h2, h3, h4, h5, h6, h7⟩ := swar_int x hx
  have H1 := hide h1
  have H2 := hide h2
  have H3 := hide h3
  have H4 := hide h4
  have H5 := hide h5
  have H6 := hide h6
  have H7 := hide h7
  clear h1 h2 h3 h4 h5 h6 h7
  go_enter Tryd.func96, Tryd.ntmps96
  go_wp2
  go_ret
  exact ⟨ret_int (by rw [H1.out, H2.out, H3.out, H4.out, H5.out, H6.out, H7.out]), rfl⟩

end Go.Proofs.YtkbffmmomoeaiaaDoor
