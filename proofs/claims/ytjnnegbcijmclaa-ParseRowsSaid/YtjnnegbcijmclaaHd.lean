/- Headers as plain numbers, and their words. -/
import Derived.Test.YtjnnegbcijmclaaKit
import Derived.IntWalk
import Derived.Laws.BitsAllLaws
namespace Go.Gl
open Go.RowKit Go.IntWalk
set_option linter.unusedVariables false

/-- A header's numbers. -/
structure Hd where
  (kind size ptrs age to : Int)
def Hd.val (h : Hd) : Value := .agg #[.int .i64 h.kind, .int .i64 h.size, .int .i64 h.ptrs, .int .i64 h.age, .int .i64 h.to]
def Hd.cells (h : Hd) : Array Value := #[.int .i64 h.kind, .int .i64 h.size, .int .i64 h.ptrs, .int .i64 h.age, .int .i64 h.to]
def Hd.zero : Hd := ⟨0, 0, 0, 0, 0⟩
/-- From the one to the other? -/
def inB (n lo hi : Int) : Bool := decide (lo ≤ n) && decide (n ≤ hi)
theorem inB_iff {n lo hi : Int} : inB n lo hi = true ↔ lo ≤ n ∧ n ≤ hi := by unfold inB; simp
theorem inB_no {n lo hi : Int} : inB n lo hi = false ↔ ¬ (lo ≤ n ∧ n ≤ hi) := by rw [← inB_iff]; simp
/-- A header that has a word. -/
structure Hd.Right (h : Hd) : Prop where
  ways : (h.kind = 0 ∧ h.size = 0 ∧ h.ptrs = 0 ∧ h.age = 0 ∧ h.to = 0) ∨
    (h.kind = 1 ∧ (1 ≤ h.size ∧ h.size ≤ 1048576) ∧ (0 ≤ h.ptrs ∧ h.ptrs < h.size) ∧ (0 ≤ h.age ∧ h.age ≤ 7) ∧ h.to = 0) ∨
    (h.kind = 2 ∧ (1 ≤ h.size ∧ h.size ≤ 1048576) ∧ h.ptrs = 0 ∧ h.age = 0 ∧ h.to = 0) ∨
    (h.kind = 3 ∧ (1 ≤ h.size ∧ h.size ≤ 1048576) ∧ h.ptrs = 0 ∧ h.age = 0 ∧ (0 ≤ h.to ∧ h.to < 4194304))
open Classical in
noncomputable def Hd.rightB (h : Hd) : Bool := decide h.Right
theorem Hd.rightB_iff {h : Hd} : h.rightB = true ↔ h.Right := by unfold Hd.rightB; simp
theorem Hd.rightB_no {h : Hd} : h.rightB = false ↔ ¬ h.Right := by rw [← Hd.rightB_iff]; simp
/-- The word of a right header. -/
def Hd.word (h : Hd) : Int := h.kind + 4 * h.size + 8388608 * (h.ptrs + h.to) + 17592186044416 * h.age
theorem Hd.Right.word_lt {h : Hd} (r : h.Right) : 0 ≤ h.word ∧ h.word < 18446744073709551616 := by
  unfold Hd.word
  rcases r.ways with ⟨_, _, _, _, _⟩ | ⟨_, _, _, _, _⟩ | ⟨_, _, _, _, _⟩ | ⟨_, _, _, _, _⟩ <;> omega
/-- The parts that a word's kind has. -/
def Hd.split (w : Int) : Hd :=
  ⟨w % 4, w / 4 % 2097152, if w % 4 = 1 then w / 8388608 % 2097152 else 0, if w % 4 = 1 then w / 17592186044416 % 8 else 0, if w % 4 = 3 then w / 8388608 % 4194304 else 0⟩
theorem Hd.Right.back {h : Hd} (r : h.Right) : Hd.split h.word = h := by
  obtain ⟨k, s, p, a, t⟩ := h
  have := r.ways
  simp only at this
  unfold Hd.split Hd.word
  simp only [Hd.mk.injEq]
  rcases this with ⟨_, _, _, _, _⟩ | ⟨_, _, _, _, _⟩ | ⟨_, _, _, _, _⟩ | ⟨_, _, _, _, _⟩
  all_goals
    have e : (k + 4 * s + 8388608 * (p + t) + 17592186044416 * a) % 4 = k := by omega
    rw [e]
    refine ⟨rfl, by omega, ?_, ?_, ?_⟩ <;> split <;> omega
/-- What a word is the word of: the zero header, if of none. -/
noncomputable def Hd.of (w : Int) : Hd := if (Hd.split w).rightB = true ∧ (Hd.split w).word = w then Hd.split w else Hd.zero
noncomputable def Hd.ofErr (w : Int) : Int := if (Hd.split w).rightB = true ∧ (Hd.split w).word = w then 0 else 30
noncomputable def Hd.ans (h : Hd) : Int := if h.rightB = true then h.word else 0
noncomputable def Hd.err (h : Hd) : Int := if h.rightB = true then 0 else 3
theorem Hd.Right.of {h : Hd} (r : h.Right) : Hd.of h.word = h ∧ Hd.ofErr h.word = 0 := by
  unfold Hd.of Hd.ofErr
  have e := r.back
  have hc : (Hd.split h.word).rightB = true ∧ (Hd.split h.word).word = h.word := by rw [e]; exact ⟨Hd.rightB_iff.2 r, rfl⟩
  rw [if_pos hc, if_pos hc]
  exact ⟨e, rfl⟩
theorem Hd.of_ways (w : Int) : (Hd.ofErr w = 0 ∧ (Hd.of w).Right ∧ (Hd.of w).word = w) ∨ (Hd.ofErr w = 30 ∧ Hd.of w = Hd.zero) := by
  unfold Hd.of Hd.ofErr
  by_cases hc : (Hd.split w).rightB = true ∧ (Hd.split w).word = w
  · rw [if_pos hc, if_pos hc]; exact .inl ⟨rfl, Hd.rightB_iff.1 hc.1, hc.2⟩
  · rw [if_neg hc, if_neg hc]; exact .inr ⟨rfl, rfl⟩
theorem Hd.err_ways (h : Hd) : (h.err = 0 ∧ h.Right ∧ h.ans = h.word) ∨ (h.err = 3 ∧ ¬ h.Right ∧ h.ans = 0) := by
  unfold Hd.err Hd.ans
  by_cases hc : h.rightB = true
  · rw [if_pos hc, if_pos hc]; exact .inl ⟨rfl, Hd.rightB_iff.1 hc, rfl⟩
  · rw [if_neg hc, if_neg hc]; exact .inr ⟨rfl, fun r => hc (Hd.rightB_iff.2 r), rfl⟩
/-- Block b holds a header: its cells. -/
structure HdAt (w : World) (b : Nat) (h : Hd) : Prop where
  c0 : w.cell? ⟨b, 0, none⟩ = some (.int .i64 h.kind)
  c1 : w.cell? ⟨b, 1, none⟩ = some (.int .i64 h.size)
  c2 : w.cell? ⟨b, 2, none⟩ = some (.int .i64 h.ptrs)
  c3 : w.cell? ⟨b, 3, none⟩ = some (.int .i64 h.age)
  c4 : w.cell? ⟨b, 4, none⟩ = some (.int .i64 h.to)
theorem HdAt.of {w : World} {b : Nat} {t : TypeId} {h : Hd} (hb : Blk w b t h.cells) : HdAt w b h := ⟨hb.cell 0, hb.cell 1, hb.cell 2, hb.cell 3, hb.cell 4⟩
theorem HdAt.fr {w w' : World} {b : Nat} {h : Hd} {F : List Nat} (hb : HdAt w b h) (hf : Fr F w w') (hF : b ∉ F) : HdAt w' b h :=
  ⟨(hf.cell (lt_of_cell hb.c0) hF).trans hb.c0, (hf.cell (lt_of_cell hb.c1) hF).trans hb.c1, (hf.cell (lt_of_cell hb.c2) hF).trans hb.c2, (hf.cell (lt_of_cell hb.c3) hF).trans hb.c3, (hf.cell (lt_of_cell hb.c4) hF).trans hb.c4⟩
theorem Hd.zero_cells {w : World} {b : Nat} {t : TypeId} (h : Blk w b t Hd.zero.cells) :
    (w.cell? ⟨b, 0, none⟩ = some (.int .i64 0) ∧ w.cell? ⟨b, 1, none⟩ = some (.int .i64 0) ∧ w.cell? ⟨b, 2, none⟩ = some (.int .i64 0) ∧ w.cell? ⟨b, 3, none⟩ = some (.int .i64 0) ∧ w.cell? ⟨b, 4, none⟩ = some (.int .i64 0)) ∧
    w.frozen? ⟨b, 0, none⟩ = false ∧ w.frozen? ⟨b, 1, none⟩ = false ∧ w.frozen? ⟨b, 2, none⟩ = false ∧ w.frozen? ⟨b, 3, none⟩ = false ∧ w.frozen? ⟨b, 4, none⟩ = false :=
  ⟨⟨h.cell 0, h.cell 1, h.cell 2, h.cell 3, h.cell 4⟩, h.frozen 0, h.frozen 1, h.frozen 2, h.frozen 3, h.frozen 4⟩
/-- A part of a word. -/
theorem part_bits (x s k : Nat) (hx : x < 18446744073709551616) (hk : k < 63) :
    wrap64 (bits BinOp.and IntKind.u64 ((x : Int) / 2 ^ s) (IntKind.u64.wrap (IntKind.u64.wrap (2 ^ k) - 1))) = ((x / 2 ^ s % 2 ^ k : Nat) : Int) := by
  have hp : 2 ^ k < 9223372036854775808 := Nat.pow_lt_pow_of_lt (a := 2) (n := k) (m := 63) (by decide) hk
  have hp0 : 0 < 2 ^ k := Nat.two_pow_pos _
  have e0 : (2 : Int) ^ k = ((2 ^ k : Nat) : Int) := (Int.natCast_pow 2 _).symm
  have e2 : (x : Int) / 2 ^ s = ((x / 2 ^ s : Nat) : Int) := by push_cast; rfl
  have e1 : IntKind.u64.wrap (IntKind.u64.wrap (2 ^ k) - 1) = ((2 ^ k - 1 : Nat) : Int) := by
    rw [e0, IntKind.wrap_u64, IntKind.wrap_u64]
    generalize 2 ^ k = p at *
    omega
  have h1 : x / 2 ^ s < 18446744073709551616 := Nat.lt_of_le_of_lt (Nat.div_le_self _ _) hx
  rw [e1, e2, u64_and_nat _ _ h1 (by omega), Nat.and_two_pow_sub_one_eq_mod]
  have h2 : x / 2 ^ s % 2 ^ k < 2 ^ k := Nat.mod_lt _ hp0
  exact IntWalk.wrap64_in _ ⟨by omega, by omega⟩
theorem or_add {x y i : Nat} (hx : x < 2 ^ i) : x ||| 2 ^ i * y = x + 2 ^ i * y := by
  rw [Nat.or_comm, Nat.add_comm, Nat.two_pow_add_eq_or_of_lt hx]
theorem u64_or_add (i : Nat) {x y : Nat} (hx : x < 2 ^ i) (hi : 2 ^ i ≤ 18446744073709551616) (hy : 2 ^ i * y < 18446744073709551616) :
    bits .or .u64 (x : Int) ((2 ^ i * y : Nat) : Int) = ((x + 2 ^ i * y : Nat) : Int) := by
  rw [u64_or_nat _ _ (by omega) hy, or_add hx]
/-- Parts laid over one another, from the lowest bit on. -/
theorem u64_or_mul (i : Nat) {x y M : Int} (hM : M = ((2 ^ i : Nat) : Int)) (x0 : 0 ≤ x) (x1 : x < M) (hm : M ≤ 18446744073709551616) (y0 : 0 ≤ y) (y1 : y * M < 18446744073709551616) :
    bits .or .u64 x (y * M) = x + y * M := by
  obtain ⟨X, rfl⟩ := Int.eq_ofNat_of_zero_le x0
  obtain ⟨Y, rfl⟩ := Int.eq_ofNat_of_zero_le y0
  subst hM
  have e : (Y : Int) * ((2 ^ i : Nat) : Int) = ((2 ^ i * Y : Nat) : Int) := by rw [Int.natCast_mul, Int.mul_comm]
  rw [e] at y1 ⊢
  rw [u64_or_add i (by omega) (by omega) (by omega), Int.natCast_add]
theorem u64_or_zero {x : Int} (x0 : 0 ≤ x) (hx : x < 18446744073709551616) : bits .or .u64 x 0 = x := by
  obtain ⟨X, rfl⟩ := Int.eq_ofNat_of_zero_le x0
  have := u64_or_nat X 0 (by omega) (by decide)
  simpa using this
theorem Hd.Right.join {k s p a t : Int} (r : (Hd.mk k s p a t).Right) :
    bits .or .u64 (bits .or .u64 (bits .or .u64 (bits .or .u64 k (s * 4)) (p * 8388608)) (a * 17592186044416)) (t * 8388608) = (Hd.mk k s p a t).word := by
  have hw := r.ways
  simp only at hw
  have hb : (0 ≤ k ∧ k ≤ 3) ∧ (0 ≤ s ∧ s ≤ 1048576) ∧ (0 ≤ p ∧ p < 1048576) ∧ (0 ≤ a ∧ a ≤ 7) ∧ (0 ≤ t ∧ t < 4194304) ∧ ((p = 0 ∧ a = 0) ∨ t = 0) := by omega
  obtain ⟨⟨k0, k1⟩, ⟨s0, s1⟩, ⟨p0, p1⟩, ⟨a0, a1⟩, ⟨t0, t1⟩, ht⟩ := hb
  unfold Hd.word
  simp only
  rw [u64_or_mul 2 (M := 4) (by decide) k0 (by omega) (by decide) s0 (by omega)]
  rcases ht with ⟨rfl, rfl⟩ | rfl
  · rw [Int.zero_mul, Int.zero_mul, u64_or_zero (x := k + s * 4) (by omega) (by omega), u64_or_zero (x := k + s * 4) (by omega) (by omega), u64_or_mul 23 (M := 8388608) (by decide) (by omega) (by omega) (by decide) t0 (by omega)]
    omega
  · rw [u64_or_mul 23 (M := 8388608) (by decide) (by omega) (by omega) (by decide) p0 (by omega), u64_or_mul 44 (M := 17592186044416) (by decide) (by omega) (by omega) (by decide) a0 (by omega), Int.zero_mul, u64_or_zero (by omega) (by omega)]
    omega
theorem b_true {b : Bool} (h : ¬ b = true) : b = false := by simpa using h
/-- Which way isRight goes. -/
theorem Hd.ways (h : Hd) :
    (h.kind = 0 ∧ h.size = 0 ∧ h.ptrs = 0 ∧ h.age = 0 ∧ h.to = 0 ∧ Hid (h.rightB = true)) ∨ (h.kind = 0 ∧ ¬ h.size = 0 ∧ Hid (h.rightB = false)) ∨ (h.kind = 0 ∧ h.size = 0 ∧ ¬ h.ptrs = 0 ∧ Hid (h.rightB = false)) ∨ (h.kind = 0 ∧ h.size = 0 ∧ h.ptrs = 0 ∧ ¬ h.age = 0 ∧ Hid (h.rightB = false)) ∨ (h.kind = 0 ∧ h.size = 0 ∧ h.ptrs = 0 ∧ h.age = 0 ∧ ¬ h.to = 0 ∧ Hid (h.rightB = false)) ∨
    (h.kind = 1 ∧ inB h.size 1 1048576 = true ∧ inB h.ptrs 0 (h.size - 1) = true ∧ inB h.age 0 7 = true ∧ h.to = 0 ∧ Hid (h.rightB = true)) ∨ (h.kind = 1 ∧ inB h.size 1 1048576 = false ∧ Hid (h.rightB = false)) ∨ (h.kind = 1 ∧ inB h.size 1 1048576 = true ∧ inB h.ptrs 0 (h.size - 1) = false ∧ Hid (h.rightB = false)) ∨ (h.kind = 1 ∧ inB h.size 1 1048576 = true ∧ inB h.ptrs 0 (h.size - 1) = true ∧ inB h.age 0 7 = false ∧ Hid (h.rightB = false)) ∨ (h.kind = 1 ∧ inB h.size 1 1048576 = true ∧ inB h.ptrs 0 (h.size - 1) = true ∧ inB h.age 0 7 = true ∧ ¬ h.to = 0 ∧ Hid (h.rightB = false)) ∨
    (h.kind = 2 ∧ inB h.size 1 1048576 = true ∧ h.ptrs = 0 ∧ h.age = 0 ∧ h.to = 0 ∧ Hid (h.rightB = true)) ∨ (h.kind = 2 ∧ inB h.size 1 1048576 = false ∧ Hid (h.rightB = false)) ∨ (h.kind = 2 ∧ inB h.size 1 1048576 = true ∧ ¬ h.ptrs = 0 ∧ Hid (h.rightB = false)) ∨ (h.kind = 2 ∧ inB h.size 1 1048576 = true ∧ h.ptrs = 0 ∧ ¬ h.age = 0 ∧ Hid (h.rightB = false)) ∨ (h.kind = 2 ∧ inB h.size 1 1048576 = true ∧ h.ptrs = 0 ∧ h.age = 0 ∧ ¬ h.to = 0 ∧ Hid (h.rightB = false)) ∨
    (h.kind = 3 ∧ inB h.size 1 1048576 = true ∧ inB h.to 0 4194303 = true ∧ h.ptrs = 0 ∧ h.age = 0 ∧ Hid (h.rightB = true)) ∨ (h.kind = 3 ∧ inB h.size 1 1048576 = false ∧ Hid (h.rightB = false)) ∨ (h.kind = 3 ∧ inB h.size 1 1048576 = true ∧ inB h.to 0 4194303 = false ∧ Hid (h.rightB = false)) ∨ (h.kind = 3 ∧ inB h.size 1 1048576 = true ∧ inB h.to 0 4194303 = true ∧ ¬ h.ptrs = 0 ∧ Hid (h.rightB = false)) ∨ (h.kind = 3 ∧ inB h.size 1 1048576 = true ∧ inB h.to 0 4194303 = true ∧ h.ptrs = 0 ∧ ¬ h.age = 0 ∧ Hid (h.rightB = false)) ∨
    (¬ h.kind = 0 ∧ ¬ h.kind = 1 ∧ ¬ h.kind = 2 ∧ ¬ h.kind = 3 ∧ Hid (h.rightB = false)) := by
  unfold Hid
  have H : h.Right ↔ _ := ⟨fun r => r.ways, fun r => ⟨r⟩⟩
  simp only [Hd.rightB_iff, Hd.rightB_no]
  by_cases k0 : h.kind = 0
  · simp only [k0, true_and, not_true, false_and, or_false, show ¬ (0 : Int) = 1 by decide, show ¬ (0 : Int) = 2 by decide, show ¬ (0 : Int) = 3 by decide] at H ⊢
    rw [H]
    clear H
    omega
  · by_cases k1 : h.kind = 1
    · simp only [k1, true_and, not_true, false_and, or_false, false_or, show ¬ (1 : Int) = 0 by decide, show ¬ (1 : Int) = 2 by decide, show ¬ (1 : Int) = 3 by decide, inB_iff, inB_no] at H ⊢
      rw [H]
      clear H
      omega
    · by_cases k2 : h.kind = 2
      · simp only [k2, true_and, not_true, false_and, or_false, false_or, show ¬ (2 : Int) = 0 by decide, show ¬ (2 : Int) = 1 by decide, show ¬ (2 : Int) = 3 by decide, inB_iff, inB_no] at H ⊢
        rw [H]
        clear H
        omega
      · by_cases k3 : h.kind = 3
        · simp only [k3, true_and, not_true, false_and, false_or, show ¬ (3 : Int) = 0 by decide, show ¬ (3 : Int) = 1 by decide, show ¬ (3 : Int) = 2 by decide, inB_iff, inB_no] at H ⊢
          rw [H]
          clear H
          omega
        · simp only [k0, k1, k2, k3, false_and, or_false, false_or, not_false_eq_true, true_and] at H ⊢
          exact fun h => H.1 h
end Go.Gl
