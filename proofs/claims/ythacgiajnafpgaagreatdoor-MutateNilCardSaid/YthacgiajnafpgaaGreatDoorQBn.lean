import Derived.Laws.BitsAllLaws
import Derived.Laws.Bits128
import Derived.Lib.TrailingZeros
namespace Go.Gl
set_option linter.unusedVariables false

/-- How many of the n numbers from a on have p. -/
def cnt (p : Nat → Bool) (a : Nat) : Nat → Nat
  | 0 => 0
  | n + 1 => cnt p a n + (if p (a + n) then 1 else 0)
theorem cnt_le (p : Nat → Bool) (a n : Nat) : cnt p a n ≤ n := by
  induction n with
  | zero => simp [cnt]
  | succ n ih => simp only [cnt]; split <;> omega
theorem cnt_congr {p q : Nat → Bool} {a b n : Nat} (h : ∀ j, j < n → p (a + j) = q (b + j)) : cnt p a n = cnt q b n := by
  induction n with
  | zero => rfl
  | succ n ih => simp only [cnt]; rw [ih (fun j hj => h j (by omega)), h n (by omega)]
theorem cnt_add (p : Nat → Bool) (a m n : Nat) : cnt p a (m + n) = cnt p a m + cnt p (a + m) n := by
  induction n with
  | zero => rfl
  | succ n ih => rw [← Nat.add_assoc]; simp only [cnt]; rw [ih, Nat.add_assoc a m n]; omega
theorem cnt_none {p : Nat → Bool} {a n : Nat} (h : ∀ j, j < n → p (a + j) = false) : cnt p a n = 0 := by
  induction n with
  | zero => rfl
  | succ n ih => simp only [cnt]; rw [ih (fun j hj => h j (by omega)), h n (by omega)]; rfl

/-- The bits that are set of a word. -/
def pc (x : Nat) : Nat := cnt x.testBit 0 64

def rep (c : Nat) : Nat → Nat
  | 0 => 0
  | n + 1 => c + 256 * rep c n
def mapb (g : Nat → Nat) : Nat → Nat → Nat
  | 0, _ => 0
  | n + 1, x => g (x % 256) + 256 * mapb g n (x / 256)

theorem tb_cons (a q j : Nat) (ha : a < 256) : (a + 256 * q).testBit j = if j < 8 then a.testBit j else q.testBit (j - 8) := by
  rw [Nat.add_comm]
  exact Nat.testBit_two_pow_mul_add q (i := 8) ha j
theorem and_cons (a q c d : Nat) (ha : a < 256) (hc : c < 256) : (a + 256 * q) &&& (c + 256 * d) = (a &&& c) + 256 * (q &&& d) := by
  have hac : a &&& c < 256 := Nat.lt_of_le_of_lt Nat.and_le_left ha
  apply Nat.eq_of_testBit_eq
  intro j
  rw [Nat.testBit_and, tb_cons a q j ha, tb_cons c d j hc, tb_cons _ _ j hac, Nat.testBit_and, Nat.testBit_and]
  split <;> rfl

def g1 (a : Nat) : Nat := (a / 2 &&& 85) + (a &&& 85)
def g2 (a : Nat) : Nat := (a / 4 &&& 51) + (a &&& 51)
def g3 (a : Nat) : Nat := (a / 16 + a) % 16
def pcb (a : Nat) : Nat := cnt a.testBit 0 8
theorem g1_mask : ∀ (a : Fin 256) (r : Fin 2), (a.val / 2 + 128 * r.val) &&& 85 = a.val / 2 &&& 85 := by decide +kernel
theorem g2_mask : ∀ (a : Fin 256) (r : Fin 4), (a.val / 4 + 64 * r.val) &&& 51 = a.val / 4 &&& 51 := by decide +kernel
theorem g123 : ∀ a : Fin 256, g3 (g2 (g1 a.val)) = pcb a.val ∧ g2 (g1 a.val) ≤ 68 ∧ g2 (g1 a.val) % 16 ≤ 4 ∧ g1 a.val < 256 ∧ pcb a.val ≤ 8 := by decide +kernel

theorem s1_eq (n : Nat) : ∀ x, (x / 2 &&& rep 85 n) + (x &&& rep 85 n) = mapb g1 n x := by
  induction n with
  | zero => intro x; simp [rep, mapb]
  | succ n ih =>
    intro x
    have hm := g1_mask ⟨x % 256, by omega⟩ ⟨x / 256 % 2, by omega⟩
    simp only at hm
    have e1 : x / 2 = (x % 256 / 2 + 128 * (x / 256 % 2)) + 256 * (x / 256 / 2) := by omega
    have e2 : x &&& rep 85 (n + 1) = (x % 256 &&& 85) + 256 * (x / 256 &&& rep 85 n) := by
      rw [rep, ← and_cons _ _ _ _ (by omega) (by omega)]
      congr 1; omega
    rw [e2, e1, rep, and_cons _ _ _ _ (by omega) (by omega), hm, mapb, ← ih (x / 256), g1]
    omega
theorem s2_eq (n : Nat) : ∀ x, (x / 4 &&& rep 51 n) + (x &&& rep 51 n) = mapb g2 n x := by
  induction n with
  | zero => intro x; simp [rep, mapb]
  | succ n ih =>
    intro x
    have hm := g2_mask ⟨x % 256, by omega⟩ ⟨x / 256 % 4, by omega⟩
    simp only at hm
    have e1 : x / 4 = (x % 256 / 4 + 64 * (x / 256 % 4)) + 256 * (x / 256 / 4) := by omega
    have e2 : x &&& rep 51 (n + 1) = (x % 256 &&& 51) + 256 * (x / 256 &&& rep 51 n) := by
      rw [rep, ← and_cons _ _ _ _ (by omega) (by omega)]
      congr 1; omega
    rw [e2, e1, rep, and_cons _ _ _ _ (by omega) (by omega), hm, mapb, ← ih (x / 256), g2]
    omega
theorem mapb_mapb (g h : Nat → Nat) (hg : ∀ a, a < 256 → g a < 256) (n : Nat) : ∀ x, mapb h n (mapb g n x) = mapb (fun a => h (g a)) n x := by
  induction n with
  | zero => intro x; rfl
  | succ n ih =>
    intro x
    have hlt := hg (x % 256) (by omega)
    simp only [mapb]
    rw [show (g (x % 256) + 256 * mapb g n (x / 256)) % 256 = g (x % 256) by omega, show (g (x % 256) + 256 * mapb g n (x / 256)) / 256 = mapb g n (x / 256) by omega, ih]
theorem mapb_congr (g h : Nat → Nat) (hg : ∀ a, a < 256 → g a = h a) (n : Nat) : ∀ x, mapb g n x = mapb h n x := by
  induction n with
  | zero => intro x; rfl
  | succ n ih => intro x; simp only [mapb]; rw [hg _ (by omega), ih]
theorem and15 (u : Nat) : u &&& 15 = u % 16 := Nat.and_two_pow_sub_one_eq_mod u 4
theorem s3_eq (g : Nat → Nat) (hg : ∀ a, a < 256 → g a ≤ 68 ∧ g a % 16 ≤ 4) (n : Nat) : ∀ x, (mapb g n x / 16 + mapb g n x) &&& rep 15 n = mapb (fun a => g3 (g a)) n x := by
  induction n with
  | zero => intro x; simp [rep, mapb]
  | succ n ih =>
    intro x
    have ha := hg (x % 256) (by omega)
    have hq : mapb g n (x / 256) % 16 ≤ 4 := by
      cases n with
      | zero => simp [mapb]
      | succ n => have := hg (x / 256 % 256) (by omega); simp only [mapb]; omega
    have e : mapb g (n + 1) x / 16 + mapb g (n + 1) x = (g (x % 256) / 16 + g (x % 256) + 16 * (mapb g n (x / 256) % 16)) + 256 * (mapb g n (x / 256) / 16 + mapb g n (x / 256)) := by
      simp only [mapb]; omega
    rw [e, rep, and_cons _ _ _ _ (by omega) (by omega), ih, mapb, and15, g3]
    omega
theorem cnt_mapb (n : Nat) : ∀ x, cnt x.testBit 0 (8 * n) = (match n with | 0 => 0 | n + 1 => pcb (x % 256) + cnt (x / 256).testBit 0 (8 * n)) := by
  intro x
  cases n with
  | zero => rfl
  | succ n =>
    have hx : x = x % 256 + 256 * (x / 256) := by omega
    rw [show 8 * (n + 1) = 8 + 8 * n by omega, cnt_add]
    congr 1
    · refine cnt_congr fun j hj => ?_
      simp only [Nat.zero_add]
      conv => lhs; rw [hx]
      rw [tb_cons _ _ _ (by omega), if_pos hj]
    · refine cnt_congr fun j hj => ?_
      simp only [Nat.zero_add]
      conv => lhs; rw [hx]
      rw [tb_cons _ _ _ (by omega), if_neg (by omega), show 8 + j - 8 = j by omega]
/-- The steps of the library's count of bits come to the count. -/
theorem swar (x a b c d e f : Nat) (ha : a = (x / 2 &&& 6148914691236517205) + (x &&& 6148914691236517205)) (hb : b = (a / 4 &&& 3689348814741910323) + (a &&& 3689348814741910323))
    (hc : c = (b / 16 + b) &&& 1085102592571150095) (hd : d = c + c / 256) (he : e = d + d / 65536) (hf : f = e + e / 4294967296) :
    f % 128 = pc x ∧ c ≤ 578721382704613384 := by
  have r1 : (6148914691236517205 : Nat) = rep 85 8 := by decide +kernel
  have r2 : (3689348814741910323 : Nat) = rep 51 8 := by decide +kernel
  have r3 : (1085102592571150095 : Nat) = rep 15 8 := by decide +kernel
  rw [r1, s1_eq] at ha
  rw [r2, s2_eq, ha, mapb_mapb _ _ (fun a h => (g123 ⟨a, h⟩).2.2.2.1)] at hb
  rw [r3, hb, s3_eq _ (fun a h => ⟨(g123 ⟨a, h⟩).2.1, (g123 ⟨a, h⟩).2.2.1⟩), mapb_congr _ pcb (fun a h => (g123 ⟨a, h⟩).1)] at hc
  have hp : pc x = pcb (x % 256) + (pcb (x / 256 % 256) + (pcb (x / 256 / 256 % 256) + (pcb (x / 256 / 256 / 256 % 256) + (pcb (x / 256 / 256 / 256 / 256 % 256) + (pcb (x / 256 / 256 / 256 / 256 / 256 % 256) + (pcb (x / 256 / 256 / 256 / 256 / 256 / 256 % 256) + pcb (x / 256 / 256 / 256 / 256 / 256 / 256 / 256 % 256))))))) := by
    unfold pc
    rw [show 64 = 8 * 8 from rfl]
    iterate 8 (rw [cnt_mapb]; dsimp only)
    rfl
  simp only [mapb, Nat.mul_zero, Nat.add_zero] at hc
  rw [hp]
  have k0 := (g123 ⟨x % 256, by omega⟩).2.2.2.2
  have k1 := (g123 ⟨x / 256 % 256, by omega⟩).2.2.2.2
  have k2 := (g123 ⟨x / 256 / 256 % 256, by omega⟩).2.2.2.2
  have k3 := (g123 ⟨x / 256 / 256 / 256 % 256, by omega⟩).2.2.2.2
  have k4 := (g123 ⟨x / 256 / 256 / 256 / 256 % 256, by omega⟩).2.2.2.2
  have k5 := (g123 ⟨x / 256 / 256 / 256 / 256 / 256 % 256, by omega⟩).2.2.2.2
  have k6 := (g123 ⟨x / 256 / 256 / 256 / 256 / 256 / 256 % 256, by omega⟩).2.2.2.2
  have k7 := (g123 ⟨x / 256 / 256 / 256 / 256 / 256 / 256 / 256 % 256, by omega⟩).2.2.2.2
  simp only at k0 k1 k2 k3 k4 k5 k6 k7
  generalize pcb (x % 256) = c0 at *
  generalize pcb (x / 256 % 256) = c1 at *
  generalize pcb (x / 256 / 256 % 256) = c2 at *
  generalize pcb (x / 256 / 256 / 256 % 256) = c3 at *
  generalize pcb (x / 256 / 256 / 256 / 256 % 256) = c4 at *
  generalize pcb (x / 256 / 256 / 256 / 256 / 256 % 256) = c5 at *
  generalize pcb (x / 256 / 256 / 256 / 256 / 256 / 256 % 256) = c6 at *
  generalize pcb (x / 256 / 256 / 256 / 256 / 256 / 256 / 256 % 256) = c7 at *
  clear hp ha hb r1 r2 r3
  have hd' : d = (c0 + c1) + 256 * (c1 + c2) + 65536 * (c2 + c3) + 16777216 * (c3 + c4) + 4294967296 * (c4 + c5) + 1099511627776 * (c5 + c6) + 281474976710656 * (c6 + c7) + 72057594037927936 * c7 := by omega
  clear hd
  refine ⟨?_, by omega⟩
  clear hc
  have he' : e = (c0 + c1 + c2 + c3) + 256 * (c1 + c2 + c3 + c4) + 65536 * (c2 + c3 + c4 + c5) + 16777216 * (c3 + c4 + c5 + c6) + 4294967296 * (c4 + c5 + c6 + c7) + 1099511627776 * (c5 + c6 + c7) + 281474976710656 * (c6 + c7) + 72057594037927936 * c7 := by omega
  clear he hd'
  have hq : e / 4294967296 = (c4 + c5 + c6 + c7) + 256 * (c5 + c6 + c7) + 65536 * (c6 + c7) + 16777216 * c7 := by omega
  rw [hq] at hf
  clear hq
  have hf' : f = (c0 + c1 + c2 + c3 + c4 + c5 + c6 + c7) + 128 * (2 * ((c1 + c2 + c3 + c4) + (c5 + c6 + c7)) + 512 * ((c2 + c3 + c4 + c5) + (c6 + c7)) + 131072 * ((c3 + c4 + c5 + c6) + c7) + 33554432 * (c4 + c5 + c6 + c7) + 8589934592 * (c5 + c6 + c7) + 2199023255552 * (c6 + c7) + 562949953421312 * c7) := by omega
  clear hf he'
  omega
end Go.Gl
namespace Go.Gl
set_option linter.unusedVariables false

theorem i64_and63 (n : Int) : bits .and .i64 n 63 = n % 64 := by
  have h127 : (BitVec.ofInt 64 63).toNat = 2 ^ 6 - 1 := by decide
  have key : (BitVec.ofInt 64 n &&& BitVec.ofInt 64 63).toNat = (n % ((2 ^ 64 : Nat) : Int)).toNat % 2 ^ 6 := by
    rw [BitVec.toNat_and, BitVec.toNat_ofInt, h127, Nat.and_two_pow_sub_one_eq_mod]
  show IntKind.i64.wrap ((BitVec.ofInt 64 n &&& BitVec.ofInt 64 63).toNat : Nat) = n % 64
  rw [key, IntKind.wrap_i64]
  omega

theorem pow_lt64 {k : Nat} (h : k < 64) : 2 ^ k < 18446744073709551616 := Nat.pow_lt_pow_of_lt (a := 2) (n := k) (m := 64) (by decide) h

/-- The bits from s on of a word of ones. -/
def hi (s : Nat) : Nat := 18446744073709551615 * 2 ^ s % 18446744073709551616
/-- The bits below 64 - s of a word of ones. -/
def lo (s : Nat) : Nat := 18446744073709551615 / 2 ^ s
theorem hi_lt (s : Nat) : hi s < 18446744073709551616 := Nat.mod_lt _ (by decide)
theorem lo_lt (s : Nat) : lo s < 18446744073709551616 := Nat.lt_of_le_of_lt (Nat.div_le_self _ _) (by decide)
theorem hi_bit (s j : Nat) : (hi s).testBit j = (decide (s ≤ j) && decide (j < 64)) := by
  unfold hi
  rw [show (18446744073709551616 : Nat) = 2 ^ 64 from rfl, Nat.testBit_mod_two_pow, Nat.testBit_mul_two_pow, show (18446744073709551615 : Nat) = 2 ^ 64 - 1 from rfl, Nat.testBit_two_pow_sub_one]
  by_cases h1 : s ≤ j <;> by_cases h2 : j < 64 <;> simp [h1, h2]
  omega
theorem lo_bit (s j : Nat) : (lo s).testBit j = decide (j + s < 64) := by
  unfold lo
  rw [Nat.testBit_div_two_pow, show (18446744073709551615 : Nat) = 2 ^ 64 - 1 from rfl, Nat.testBit_two_pow_sub_one]

/-- The mask of the numbers from f on and below t in the word at a. -/
def IsMask (a f t : Int) (m : Nat) : Prop := m < 18446744073709551616 ∧ ∀ j : Nat, j < 64 → m.testBit j = decide (f ≤ a * 64 + j ∧ a * 64 + j < t)

theorem mask_hl {a f t : Int} (ht : t < (a + 1) * 64) : IsMask a f t (hi (f - a * 64).toNat &&& lo ((a + 1) * 64 - t).toNat) :=
  ⟨Nat.lt_of_le_of_lt Nat.and_le_left (hi_lt _), fun j hj => by
    rw [Nat.testBit_and, hi_bit, lo_bit]
    by_cases h1 : f ≤ a * 64 + j <;> by_cases h2 : a * 64 + j < t <;> simp [h1, h2, hj] <;> omega⟩
theorem mask_h {a f t : Int} (ht : (a + 1) * 64 ≤ t) : IsMask a f t (hi (f - a * 64).toNat) :=
  ⟨hi_lt _, fun j hj => by
    rw [hi_bit]
    by_cases h1 : f ≤ a * 64 + j <;> simp [h1, hj] <;> omega⟩
theorem mask_l {a f t : Int} (hf : f ≤ a * 64) (ht : t < (a + 1) * 64) : IsMask a f t (lo ((a + 1) * 64 - t).toNat) :=
  ⟨lo_lt _, fun j hj => by
    rw [lo_bit]
    by_cases h2 : a * 64 + j < t <;> simp [h2] <;> omega⟩
theorem mask_all {a f t : Int} (hf : f ≤ a * 64) (ht : (a + 1) * 64 ≤ t) : IsMask a f t 18446744073709551615 :=
  ⟨by decide, fun j hj => by
    rw [show (18446744073709551615 : Nat) = 2 ^ 64 - 1 from rfl, Nat.testBit_two_pow_sub_one]
    simp [hj]; omega⟩
theorem u64_hi (s : Nat) : IntKind.u64.wrap (18446744073709551615 * 2 ^ s) = ((hi s : Nat) : Int) := by
  rw [IntKind.wrap_u64]; unfold hi; simp
theorem u64_lo (s : Nat) : (18446744073709551615 : Int) / 2 ^ s = ((lo s : Nat) : Int) := by
  unfold lo; simp
theorem ones_and (m : Nat) (h : m < 18446744073709551616) : 18446744073709551615 &&& m = m := by
  rw [Nat.and_comm, show (18446744073709551615 : Nat) = 2 ^ 64 - 1 from rfl, Nat.and_two_pow_sub_one_eq_mod]
  exact Nat.mod_eq_of_lt h

/-- Whether number i is in, by its word's bit. -/
def wbit (ws : List Nat) (i : Nat) : Bool := (ws.getD (i / 64) 0).testBit (i % 64)
def Words (ws : List Nat) : Prop := ∀ k, ws.getD k 0 < 18446744073709551616

theorem words_set {ws : List Nat} (h : Words ws) {k x : Nat} (hx : x < 18446744073709551616) : Words (ws.set k x) := by
  intro j
  have hj := h j
  simp only [List.getD_eq_getElem?_getD, List.getElem?_set] at hj ⊢
  split
  · split <;> simp [hx]
  · exact hj
theorem wbit_set {ws : List Nat} {k x : Nat} (hk : k < ws.length) (i : Nat) : wbit (ws.set k x) i = if i / 64 = k then x.testBit (i % 64) else wbit ws i := by
  unfold wbit
  simp only [List.getD_eq_getElem?_getD, List.getElem?_set]
  by_cases h : k = i / 64
  · subst h; simp [hk]
  · rw [if_neg h, if_neg (fun e => h e.symm)]
theorem and_pow_ne {x i : Nat} : ((x &&& 2 ^ i) != 0) = x.testBit i := by
  rw [Nat.testBit, Nat.and_comm, Nat.shiftRight_eq_div_pow]
  rw [Nat.and_comm, nat_bit]
  have h2 : x / 2 ^ i % 2 = 0 ∨ x / 2 ^ i % 2 = 1 := by omega
  have hp : 0 < 2 ^ i := Nat.two_pow_pos _
  have e : 1 &&& (x / 2 ^ i) = x / 2 ^ i % 2 := by rw [Nat.and_comm]; exact Nat.and_two_pow_sub_one_eq_mod _ 1
  rw [e]
  rcases h2 with h2 | h2
  · simp [h2]
  · rw [h2]; simp
theorem xor_pow_bit (x i j : Nat) : (x ^^^ 2 ^ i).testBit j = if i = j then !(x.testBit j) else x.testBit j := by
  rw [Nat.testBit_xor, Nat.testBit_two_pow]
  by_cases h : i = j <;> simp [h]
/-- The lowest bit that is set. -/
theorem ctz_low (x : Nat) (h0 : 0 < x) (h : x < 18446744073709551616) : Lib.ctz 64 x < 64 ∧ x.testBit (Lib.ctz 64 x) = true ∧ ∀ j, j < Lib.ctz 64 x → x.testBit j = false := by
  obtain ⟨m, hm, hk⟩ := Lib.ctzFrom_spec 64 x h0 h
  have hc : Lib.ctz 64 x = Lib.ctzFrom 64 x := by unfold Lib.ctz; rw [if_neg (by omega)]
  rw [hc]
  generalize Lib.ctzFrom 64 x = k at *
  refine ⟨hk, ?_, fun j hj => ?_⟩
  · rw [hm, Nat.mul_comm, Nat.testBit_mul_two_pow]; simp
  · rw [hm, Nat.mul_comm, Nat.testBit_mul_two_pow]; simp; omega
end Go.Gl
