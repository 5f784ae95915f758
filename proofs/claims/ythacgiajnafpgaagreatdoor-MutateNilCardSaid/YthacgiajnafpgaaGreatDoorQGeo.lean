/- Configurations and geometries as plain numbers, and what shifts by them come to. -/
import Derived.Test.YthacgiajnafpgaaGreatDoorQKit
import Derived.Test.YthacgiajnafpgaaGreatDoorQBn
import Derived.IntWalk
namespace Go.Gl
open Go.RowKit Go.IntWalk
set_option linter.unusedVariables false

/-- A configuration's numbers. -/
structure Cfg where
  (shift regions cardShift threads roots refiners markers young tenure queue stack budget percent fail : Int)
/-- A geometry's numbers. -/
structure Geo where
  (words rw cw regions cards max : Int)
def Cfg.val (c : Cfg) : Value := .agg #[.int .i64 c.shift, .int .i64 c.regions, .int .i64 c.cardShift, .int .i64 c.threads, .int .i64 c.roots, .int .i64 c.refiners, .int .i64 c.markers, .int .i64 c.young, .int .i64 c.tenure, .int .i64 c.queue, .int .i64 c.stack, .int .i64 c.budget, .int .i64 c.percent, .int .i64 c.fail]
def Geo.val (g : Geo) : Value := .agg #[.int .i64 g.words, .int .i64 g.rw, .int .i64 g.cw, .int .i64 g.regions, .int .i64 g.cards, .int .i64 g.max]
def Geo.cells (g : Geo) : Array Value := #[.int .i64 g.words, .int .i64 g.rw, .int .i64 g.cw, .int .i64 g.regions, .int .i64 g.cards, .int .i64 g.max]
def Cfg.cells (c : Cfg) : Array Value := #[.int .i64 c.shift, .int .i64 c.regions, .int .i64 c.cardShift, .int .i64 c.threads, .int .i64 c.roots, .int .i64 c.refiners, .int .i64 c.markers, .int .i64 c.young, .int .i64 c.tenure, .int .i64 c.queue, .int .i64 c.stack, .int .i64 c.budget, .int .i64 c.percent, .int .i64 c.fail]
/-- Block b holds a geometry, a configuration: its cells. -/
structure GeoAt (w : World) (b : Nat) (g : Geo) : Prop where
  c0 : w.cell? ⟨b, 0, none⟩ = some (.int .i64 g.words)
  c1 : w.cell? ⟨b, 1, none⟩ = some (.int .i64 g.rw)
  c2 : w.cell? ⟨b, 2, none⟩ = some (.int .i64 g.cw)
  c3 : w.cell? ⟨b, 3, none⟩ = some (.int .i64 g.regions)
  c4 : w.cell? ⟨b, 4, none⟩ = some (.int .i64 g.cards)
  c5 : w.cell? ⟨b, 5, none⟩ = some (.int .i64 g.max)
theorem GeoAt.of {w : World} {b : Nat} {t : TypeId} {g : Geo} (h : Blk w b t g.cells) : GeoAt w b g := ⟨h.cell 0, h.cell 1, h.cell 2, h.cell 3, h.cell 4, h.cell 5⟩
theorem GeoAt.fr {w w' : World} {b : Nat} {g : Geo} {F : List Nat} (h : GeoAt w b g) (hf : Fr F w w') (hF : b ∉ F) : GeoAt w' b g :=
  ⟨(hf.cell (lt_of_cell h.c0) hF).trans h.c0, (hf.cell (lt_of_cell h.c1) hF).trans h.c1, (hf.cell (lt_of_cell h.c2) hF).trans h.c2, (hf.cell (lt_of_cell h.c3) hF).trans h.c3, (hf.cell (lt_of_cell h.c4) hF).trans h.c4, (hf.cell (lt_of_cell h.c5) hF).trans h.c5⟩
structure CfgAt (w : World) (b : Nat) (c : Cfg) : Prop where
  c0 : w.cell? ⟨b, 0, none⟩ = some (.int .i64 c.shift)
  c1 : w.cell? ⟨b, 1, none⟩ = some (.int .i64 c.regions)
  c2 : w.cell? ⟨b, 2, none⟩ = some (.int .i64 c.cardShift)
  c3 : w.cell? ⟨b, 3, none⟩ = some (.int .i64 c.threads)
  c4 : w.cell? ⟨b, 4, none⟩ = some (.int .i64 c.roots)
  c5 : w.cell? ⟨b, 5, none⟩ = some (.int .i64 c.refiners)
  c6 : w.cell? ⟨b, 6, none⟩ = some (.int .i64 c.markers)
  c7 : w.cell? ⟨b, 7, none⟩ = some (.int .i64 c.young)
  c8 : w.cell? ⟨b, 8, none⟩ = some (.int .i64 c.tenure)
  c9 : w.cell? ⟨b, 9, none⟩ = some (.int .i64 c.queue)
  c10 : w.cell? ⟨b, 10, none⟩ = some (.int .i64 c.stack)
  c11 : w.cell? ⟨b, 11, none⟩ = some (.int .i64 c.budget)
  c12 : w.cell? ⟨b, 12, none⟩ = some (.int .i64 c.percent)
  c13 : w.cell? ⟨b, 13, none⟩ = some (.int .i64 c.fail)
theorem CfgAt.of {w : World} {b : Nat} {t : TypeId} {c : Cfg} (h : Blk w b t c.cells) : CfgAt w b c := ⟨h.cell 0, h.cell 1, h.cell 2, h.cell 3, h.cell 4, h.cell 5, h.cell 6, h.cell 7, h.cell 8, h.cell 9, h.cell 10, h.cell 11, h.cell 12, h.cell 13⟩
/-- From the one to the other? -/
def wiB (n lo hi : Int) : Bool := decide (lo ≤ n) && decide (n ≤ hi)
theorem wiB_iff {n lo hi : Int} : wiB n lo hi = true ↔ lo ≤ n ∧ n ≤ hi := by unfold wiB; simp
/-- 2 to the n. -/
def pw (n : Int) : Int := ((2 ^ n.toNat : Nat) : Int)
theorem pw_pos (n : Int) : 0 < pw n := by unfold pw; exact Int.natCast_pos.2 (Nat.two_pow_pos _)
theorem pw_nat (k : Nat) : pw (k : Int) = ((2 ^ k : Nat) : Int) := rfl
theorem pw_pow (k : Nat) : (2 : Int) ^ k = pw (k : Int) := by rw [pw_nat, Int.natCast_pow]; rfl
theorem pw_le {a b : Int} (h : a ≤ b) : pw a ≤ pw b := by unfold pw; exact Int.ofNat_le.2 (Nat.pow_le_pow_right (by decide) (by omega))
theorem pw_add {a b : Int} (ha : 0 ≤ a) (hb : 0 ≤ b) : pw (a + b) = pw a * pw b := by
  unfold pw; rw [Int.toNat_add ha hb, Nat.pow_add]; push_cast; rfl
/-- May a configuration lie so? -/
def lieB (c : Cfg) : Bool := wiB c.shift 6 20 && (wiB c.regions 2 65536 && (decide (c.regions ≤ 4194304 / pw c.shift) && wiB c.cardShift 3 c.shift))
def mayB (c : Cfg) : Bool :=
  lieB c && (wiB c.threads 1 64 && (wiB c.roots 1 64 && (wiB c.refiners 0 8 && (wiB c.markers 0 8 && (wiB c.young 1 c.regions && (wiB c.tenure 0 7 && (wiB c.queue 0 65536 && (wiB c.stack 0 65536 && (wiB c.budget 0 4194304 && (wiB c.percent 0 100 && wiB c.fail 0 65536))))))))))
theorem lieB_iff {c : Cfg} : lieB c = true ↔ (6 ≤ c.shift ∧ c.shift ≤ 20) ∧ (2 ≤ c.regions ∧ c.regions ≤ 65536) ∧ c.regions ≤ 4194304 / pw c.shift ∧ 3 ≤ c.cardShift ∧ c.cardShift ≤ c.shift := by
  unfold lieB; simp only [Bool.and_eq_true, wiB_iff, decide_eq_true_eq]
theorem mayB_lie {c : Cfg} (h : mayB c = true) : lieB c = true := by
  unfold mayB at h; rw [Bool.and_eq_true] at h; exact h.1
def Cfg.geo (c : Cfg) : Geo := ⟨c.regions * pw c.shift, pw c.shift, pw c.cardShift, c.regions, c.regions * pw c.shift / pw c.cardShift, min 1048576 ((c.regions - 1) * pw c.shift)⟩
def Geo.zero : Geo := ⟨0, 0, 0, 0, 0, 0⟩
def Cfg.ans (c : Cfg) : Geo := if mayB c = true then c.geo else Geo.zero
def Cfg.err (c : Cfg) : Int := if mayB c = true then 0 else 20

/-- A geometry that a configuration has: its numbers' bounds. -/
structure Geo.Ok (g : Geo) (s k : Nat) : Prop where
  s6 : 6 ≤ s
  s20 : s ≤ 20
  k3 : 3 ≤ k
  ks : k ≤ s
  rw : g.rw = pw s
  cw : g.cw = pw k
  r2 : 2 ≤ g.regions
  r65536 : g.regions ≤ 65536
  words : g.words = g.regions * pw s
  cards : g.cards * pw k = g.words
  wmax : g.words ≤ 4194304
  max : g.max = min 1048576 ((g.regions - 1) * pw s)
theorem Geo.Ok.k20 {g : Geo} {s k : Nat} (h : g.Ok s k) : k ≤ 20 := Nat.le_trans h.ks h.s20
theorem Geo.Ok.base_max {g : Geo} {s k : Nat} (h : g.Ok s k) {r : Int} (h0 : 0 ≤ r) (h1 : r < g.regions) : 0 ≤ r * g.rw ∧ r * g.rw ≤ 4194304 := by
  rw [h.rw]
  have hp := pw_pos s
  refine ⟨Int.mul_nonneg h0 (Int.le_of_lt hp), Int.le_trans (Int.mul_le_mul_of_nonneg_right (Int.le_of_lt h1) (Int.le_of_lt hp)) ?_⟩
  rw [← h.words]
  exact h.wmax
theorem Geo.Ok.regions0 {g : Geo} {s k : Nat} (h : g.Ok s k) : 0 ≤ g.regions := by have := h.r2; omega
theorem Cfg.geo_ok {c : Cfg} (h : lieB c = true) : c.geo.Ok c.shift.toNat c.cardShift.toNat := by
  obtain ⟨⟨h1, h2⟩, ⟨h3, h4⟩, h5, h6, h7⟩ := lieB_iff.1 h
  have e1 : ((c.shift.toNat : Nat) : Int) = c.shift := Int.toNat_of_nonneg (by omega)
  have e2 : ((c.cardShift.toNat : Nat) : Int) = c.cardShift := Int.toNat_of_nonneg (by omega)
  refine ⟨by omega, by omega, by omega, by omega, ?_, ?_, h3, h4, ?_, ?_, ?_, ?_⟩
  · rw [e1]; rfl
  · rw [e2]; rfl
  · rw [e1]; rfl
  · rw [e2]
    show c.regions * pw c.shift / pw c.cardShift * pw c.cardShift = c.regions * pw c.shift
    have : pw c.shift = pw (c.shift - c.cardShift) * pw c.cardShift := by rw [← pw_add (by omega) (by omega)]; congr 1; omega
    refine Int.ediv_mul_cancel ?_
    rw [this, ← Int.mul_assoc]
    exact Int.dvd_mul_left _ _
  · show c.regions * pw c.shift ≤ 4194304
    have := Int.mul_le_mul_of_nonneg_right h5 (Int.le_of_lt (pw_pos c.shift))
    exact Int.le_trans this (Int.ediv_mul_le _ (Int.ne_of_gt (pw_pos _)))
  · rw [e1]; rfl

theorem Cfg.wraps {c : Cfg} {s k : Nat} (hl : lieB c = true) (hs : c.shift = s) (hk : c.cardShift = k) :
    wrap64 (c.regions * 2 ^ s) = c.regions * pw s ∧ wrap64 (2 ^ s) = pw s ∧ wrap64 (2 ^ k) = pw k ∧ wrap64 ((c.regions - 1) * 2 ^ s) = (c.regions - 1) * pw s := by
  have ok := Cfg.geo_ok hl
  have l := lieB_iff.1 hl
  rw [hs, hk] at ok
  have hw := ok.wmax
  rw [ok.words] at hw
  have e : c.geo.regions = c.regions := rfl
  simp only [Int.toNat_natCast, e] at hw
  have p1 := pw_pos (s : Int)
  have p2 := pw_pos (k : Int)
  have l1 : pw (s : Int) ≤ pw 20 := pw_le (by omega)
  have l2 : pw (k : Int) ≤ pw 20 := pw_le (by omega)
  have l3 : pw 20 = 1048576 := by decide
  have h1 : 0 ≤ c.regions * pw s := Int.mul_nonneg (by omega) (by omega)
  have h2 : 0 ≤ (c.regions - 1) * pw s := Int.mul_nonneg (by omega) (by omega)
  have h3 : (c.regions - 1) * pw s = c.regions * pw s - pw s := by rw [Int.sub_mul, Int.one_mul]
  rw [pw_pow, pw_pow]
  exact ⟨IntWalk.wrap64_in _ ⟨by omega, by omega⟩, IntWalk.wrap64_in _ ⟨by omega, by omega⟩, IntWalk.wrap64_in _ ⟨by omega, by omega⟩, IntWalk.wrap64_in _ ⟨by omega, by omega⟩⟩
theorem Cfg.geo_val {c : Cfg} {s k : Nat} (hl : lieB c = true) (hs : c.shift = s) (hk : c.cardShift = k) (m : Int) (hm : m = if wrap64 ((c.regions - 1) * 2 ^ s) < 1048576 then wrap64 ((c.regions - 1) * 2 ^ s) else 1048576) :
    (.agg #[.int .i64 (wrap64 (c.regions * 2 ^ s)), .int .i64 (wrap64 (2 ^ s)), .int .i64 (wrap64 (2 ^ k)), .int .i64 c.regions, .int .i64 (wrap64 (c.regions * 2 ^ s) / 2 ^ k), .int .i64 m] : Value) = c.geo.val := by
  obtain ⟨e1, e2, e3, e4⟩ := Cfg.wraps hl hs hk
  rw [e4] at hm
  rw [e1, e2, e3, hm, pw_pow, ← hs, ← hk]
  unfold Cfg.geo Geo.val
  have : min 1048576 ((c.regions - 1) * pw c.shift) = if (c.regions - 1) * pw c.shift < 1048576 then (c.regions - 1) * pw c.shift else 1048576 := by
    split <;> omega
  rw [this]

def Geo.regionOf (g : Geo) (a : Int) : Int := if 0 ≤ a ∧ a < g.words then a / g.rw else -1
def Geo.cardOf (g : Geo) (a : Int) : Int := if 0 ≤ a ∧ a < g.words then a / g.cw else -1
def Geo.crossB (g : Geo) (a b : Int) : Bool := (decide (0 ≤ a) && decide (a < g.words)) && ((decide (0 ≤ b) && decide (b < g.words)) && decide (a / g.rw ≠ b / g.rw))
def Geo.bigB (g : Geo) (n : Int) : Bool := decide (g.rw / 2 < n)
def Geo.spanOf (g : Geo) (n : Int) : Int := if n < 1 then 0 else (n - 1) / g.rw + 1

theorem ctz_pow (k : Nat) (h : k < 64) : Lib.ctz 64 (2 ^ k) = k := by
  obtain ⟨_, h2, _⟩ := ctz_low (2 ^ k) (Nat.two_pow_pos k) (pow_lt64 h)
  rw [Nat.testBit_two_pow, decide_eq_true_eq] at h2
  exact h2.symm
theorem CfgAt.fr {w w' : World} {b : Nat} {c : Cfg} (h : CfgAt w b c) (hf : Fr [] w w') : CfgAt w' b c :=
  ⟨(hf.cell (lt_of_cell h.c0) (by simp)).trans h.c0, (hf.cell (lt_of_cell h.c1) (by simp)).trans h.c1, (hf.cell (lt_of_cell h.c2) (by simp)).trans h.c2, (hf.cell (lt_of_cell h.c3) (by simp)).trans h.c3, (hf.cell (lt_of_cell h.c4) (by simp)).trans h.c4, (hf.cell (lt_of_cell h.c5) (by simp)).trans h.c5, (hf.cell (lt_of_cell h.c6) (by simp)).trans h.c6, (hf.cell (lt_of_cell h.c7) (by simp)).trans h.c7, (hf.cell (lt_of_cell h.c8) (by simp)).trans h.c8, (hf.cell (lt_of_cell h.c9) (by simp)).trans h.c9, (hf.cell (lt_of_cell h.c10) (by simp)).trans h.c10, (hf.cell (lt_of_cell h.c11) (by simp)).trans h.c11, (hf.cell (lt_of_cell h.c12) (by simp)).trans h.c12, (hf.cell (lt_of_cell h.c13) (by simp)).trans h.c13⟩
end Go.Gl
