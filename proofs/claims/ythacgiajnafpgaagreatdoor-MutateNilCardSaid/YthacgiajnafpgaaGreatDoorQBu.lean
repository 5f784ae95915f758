/- Buffers: what each call of the package buffer answers of a buffer that lies in memory, and what it leaves there; the document's buffer beside it. -/
import Derived.Test.YthacgiajnafpgaaGreatDoorProg
import Derived.Test.YthacgiajnafpgaaGreatDoorQKit
import Derived.WalkKit
import Derived.BigQuiet
namespace Go.Proofs.YthacgiajnafpgaaGreatDoor
set_option linter.unusedVariables false
open Go.RowKit Go.Gl

/-- In the block g of the type t lie two numbers: words from x on and below y. -/
structure Bu (w : World) (g : Nat) (t : TypeId) (x y : Int) : Prop where
  blk : Blk w g t #[.int .i64 x, .int .i64 y]
  low : 0 ≤ x
  ord : x ≤ y
  max : y ≤ 4194304
section
variable {w w' : World} {g : Nat} {t : TypeId} {x y : Int} {F : List Nat}
theorem Bu.fr (h : Bu w g t x y) (hf : Fr F w w') (h1 : g ∉ F) : Bu w' g t x y := ⟨h.blk.fr hf h1, h.low, h.ord, h.max⟩
theorem Bu.fr0 (h : Bu w g t x y) (hf : Fr [] w w') : Bu w' g t x y := h.fr hf (by simp)
theorem Bu.drewN (h : Bu w g t x y) (k : Nat) : Bu (w.drewN k) g t x y := ⟨h.blk, h.low, h.ord, h.max⟩
theorem Bu.drew (h : Bu w g t x y) : Bu w.drew g t x y := ⟨h.blk, h.low, h.ord, h.max⟩
theorem Bu.c0 (h : Bu w g t x y) : w.cell? ⟨g, 0, none⟩ = some (.int .i64 x) := by rw [h.blk.cell]; rfl
theorem Bu.c1 (h : Bu w g t x y) : w.cell? ⟨g, 1, none⟩ = some (.int .i64 y) := by rw [h.blk.cell]; rfl
theorem Bu.clear (h : Bu w g t x y) : Bu ((w.setCell ⟨g, 0, none⟩ (.int .i64 0)).setCell ⟨g, 1, none⟩ (.int .i64 0)) g t 0 0 :=
  ⟨(h.blk.put 0 (.int .i64 0)).put 1 (.int .i64 0), by decide, by decide, by decide⟩
theorem Bu.made (w : World) (t : TypeId) {x y : Int} (h0 : 0 ≤ x) (h1 : x ≤ y) (h2 : y ≤ 4194304) : Bu (w.alloc (.cells #[.int .i64 x, .int .i64 y] t)) w.heap.size t x y := ⟨Blk.new _ _ _, h0, h1, h2⟩
end

/-- What New makes: from where, to where, the error. -/
def nuB (a b : Int) : Bool := decide (0 ≤ a ∧ a ≤ b ∧ b ≤ 4194304)
def nuX (a b : Int) : Int := if 0 ≤ a ∧ a < b ∧ b ≤ 4194304 then a else 0
def nuY (a b : Int) : Int := if 0 ≤ a ∧ a < b ∧ b ≤ 4194304 then b else 0
def nuE (a b : Int) : Int := if 0 ≤ a ∧ a ≤ b ∧ b ≤ 4194304 then 0 else 2
theorem nu_ways (a b : Int) : (a < 0 ∧ Hid (nuX a b = 0 ∧ nuY a b = 0 ∧ nuE a b = 2)) ∨ (¬ a < 0 ∧ b < a ∧ Hid (nuX a b = 0 ∧ nuY a b = 0 ∧ nuE a b = 2)) ∨ (¬ a < 0 ∧ ¬ b < a ∧ 4194304 < b ∧ Hid (nuX a b = 0 ∧ nuY a b = 0 ∧ nuE a b = 2)) ∨
    (¬ a < 0 ∧ ¬ b < a ∧ ¬ 4194304 < b ∧ a = b ∧ Hid (nuX a b = 0 ∧ nuY a b = 0 ∧ nuE a b = 0)) ∨ (¬ a < 0 ∧ ¬ b < a ∧ ¬ 4194304 < b ∧ ¬ a = b ∧ Hid (nuX a b = a ∧ nuY a b = b ∧ nuE a b = 0)) := by
  unfold Hid nuX nuY nuE
  by_cases h1 : a < 0
  · refine .inl ⟨h1, ?_⟩; rw [if_neg (by omega), if_neg (by omega), if_neg (by omega)]; exact ⟨rfl, rfl, rfl⟩
  by_cases h2 : b < a
  · refine .inr (.inl ⟨h1, h2, ?_⟩); rw [if_neg (by omega), if_neg (by omega), if_neg (by omega)]; exact ⟨rfl, rfl, rfl⟩
  by_cases h3 : 4194304 < b
  · refine .inr (.inr (.inl ⟨h1, h2, h3, ?_⟩)); rw [if_neg (by omega), if_neg (by omega), if_neg (by omega)]; exact ⟨rfl, rfl, rfl⟩
  by_cases h4 : a = b
  · refine .inr (.inr (.inr (.inl ⟨h1, h2, h3, h4, ?_⟩))); rw [if_neg (by omega), if_neg (by omega), if_pos (by omega)]; exact ⟨rfl, rfl, rfl⟩
  · refine .inr (.inr (.inr (.inr ⟨h1, h2, h3, h4, ?_⟩))); rw [if_pos (by omega), if_pos (by omega), if_pos (by omega)]; exact ⟨rfl, rfl, rfl⟩
def nuV (a b : Int) : Value := .tuple #[.agg #[.int .i64 (nuX a b), .int .i64 (nuY a b)], .int .i64 (nuE a b)]
theorem bnew_any (a b : Int) (w : World) : Calls Tryz.prog 262 #[.int .i64 a, .int .i64 b] w fun e w' => e = .returned (nuV a b) ∧ Fr [] w w' := by
  unfold nuV
  rcases nu_ways a b with ⟨c1, hv⟩ | ⟨c1, c2, hv⟩ | ⟨c1, c2, c3, hv⟩ | ⟨c1, c2, c3, rfl, hv⟩ | ⟨c1, c2, c3, c4, hv⟩
  all_goals
    rw [hv.out.1, hv.out.2.1, hv.out.2.2]
    clear hv
    go_enter Tryz.func262, Tryz.ntmps262
    go_wp2
  · refine bodyPost_ret (v := .tuple #[.agg #[.int .i64 0, .int .i64 0], .int .i64 2]) (by simp [results, Tryz.results262, go_sem, *]) rfl ⟨rfl, (Fr.refl _ _).alloc _⟩
  · refine bodyPost_ret (v := .tuple #[.agg #[.int .i64 0, .int .i64 0], .int .i64 2]) (by simp [results, Tryz.results262, go_sem, *]) rfl ⟨rfl, (Fr.refl _ _).alloc _⟩
  · refine bodyPost_ret (v := .tuple #[.agg #[.int .i64 0, .int .i64 0], .int .i64 2]) (by simp [results, Tryz.results262, go_sem, *]) rfl ⟨rfl, (Fr.refl _ _).alloc _⟩
  · refine bodyPost_ret (v := .tuple #[.agg #[.int .i64 0, .int .i64 0], .int .i64 0]) (by simp [results, Tryz.results262, go_sem, *]) rfl ⟨rfl, (Fr.refl _ _).alloc _⟩
  · refine bodyPost_ret (v := .tuple #[.agg #[.int .i64 a, .int .i64 b], .int .i64 0]) (by simp [results, Tryz.results262, go_sem, *]) rfl ⟨rfl, (Fr.refl _ _).alloc _⟩

/-! A buffer that isn't there. -/
/-! A buffer that lies in memory. -/
theorem brest_any {w : World} {g : Nat} {x y : Int} (h : Bu w g 295 x y) : Calls Tryz.prog 196 #[.pointer (some ⟨g, 0, none⟩)] w fun e w' => e = .returned (.tuple #[.int .i64 x, .int .i64 y]) ∧ ∃ k, w' = w.drewN k := by
  have c0 := h.c0
  have c1 := h.c1
  clear h
  go_enter Tryz.func196, Tryz.ntmps196
  go_wp2_with fail
  go_quiet (fail)
  go_wp2
  go_ret2
  exact ⟨rfl, _, rfl⟩
/-- What Take(n) answers of the words from x on and below y, and where they begin then. -/
def tkA (x y n : Int) : Int := if 1 ≤ n ∧ n ≤ y - x then x else 0
def tkE (x y n : Int) : Int := if n < 1 then 2 else if y - x < n then 6 else 0
def tkX (x y n : Int) : Int := if 1 ≤ n ∧ n ≤ y - x then x + n else x
def tkV (x y n : Int) : Value := .tuple #[.int .i64 (tkA x y n), .int .i64 (tkE x y n)]
end Go.Proofs.YthacgiajnafpgaaGreatDoor
