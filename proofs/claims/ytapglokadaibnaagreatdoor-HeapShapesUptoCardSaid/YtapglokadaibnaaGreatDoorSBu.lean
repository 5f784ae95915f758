/- Buffers: what each call of the package buffer answers of a buffer that lies in memory, and what it leaves there; the document's buffer beside it. -/
import Derived.Test.YtapglokadaibnaaGreatDoorProg
import Derived.Test.YtapglokadaibnaaGreatDoorSKit
import Derived.WalkKit
import Derived.BigQuiet
namespace Go.Proofs.YtapglokadaibnaaGreatDoor
set_option linter.unusedVariables false
open Go.RowKit Go.Gl

/-- In the block g of the type t lie two numbers: words from x on and below y. -/
structure Bu (w : World) (g : Nat) (t : TypeId) (x y : Int) : Prop where
  blk : Blk w g t #[.int .i64 x, .int .i64 y]
  low : 0 ≤ x
  ord : x ≤ y
  max : y ≤ 4194304
section
variable {w w' : World} {g : Nat} {t : TypeId} {x y : Int} {F : List Nat}
theorem Bu.c0 (h : Bu w g t x y) : w.cell? ⟨g, 0, none⟩ = some (.int .i64 x) := by rw [h.blk.cell]; rfl
theorem Bu.c1 (h : Bu w g t x y) : w.cell? ⟨g, 1, none⟩ = some (.int .i64 y) := by rw [h.blk.cell]; rfl
theorem Bu.made (w : World) (t : TypeId) {x y : Int} (h0 : 0 ≤ x) (h1 : x ≤ y) (h2 : y ≤ 4194304) : Bu (w.alloc (.cells #[.int .i64 x, .int .i64 y] t)) w.heap.size t x y := ⟨Blk.new _ _ _, h0, h1, h2⟩
end

/-- What New makes: from where, to where, the error. -/
def nuB (a b : Int) : Bool := decide (0 ≤ a ∧ a ≤ b ∧ b ≤ 4194304)
def nuX (a b : Int) : Int := if 0 ≤ a ∧ a < b ∧ b ≤ 4194304 then a else 0
def nuY (a b : Int) : Int := if 0 ≤ a ∧ a < b ∧ b ≤ 4194304 then b else 0
def nuE (a b : Int) : Int := if 0 ≤ a ∧ a ≤ b ∧ b ≤ 4194304 then 0 else 2
def nuV (a b : Int) : Value := .tuple #[.agg #[.int .i64 (nuX a b), .int .i64 (nuY a b)], .int .i64 (nuE a b)]
/-! A buffer that isn't there. -/
/-! A buffer that lies in memory. -/
theorem brest_any {w : World} {g : Nat} {x y : Int} (h : Bu w g 84 x y) : Calls Tryz.prog 105 #[.pointer (some ⟨g, 0, none⟩)] w fun e w' => e = .returned (.tuple #[.int .i64 x, .int .i64 y]) ∧ ∃ k, w' = w.drewN k := by
  have c0 := h.c0
  have c1 := h.c1
  clear h
  go_enter Tryz.func105, Tryz.ntmps105
  go_wp2_with fail
  go_quiet (fail)
  go_wp2
  go_ret2
  exact ⟨rfl, _, rfl⟩
/-- What Take(n) answers of the words from x on and below y, and where they begin then. -/
def tkA (x y n : Int) : Int := if 1 ≤ n ∧ n ≤ y - x then x else 0
def tkE (x y n : Int) : Int := if n < 1 then 2 else if y - x < n then 6 else 0
def tkX (x y n : Int) : Int := if 1 ≤ n ∧ n ≤ y - x then x + n else x
def tkV (x y n : Int) : Value := .tuple #[.int .i64 (tkA x y n), .int .i64 (tkE x y n)]
end Go.Proofs.YtapglokadaibnaaGreatDoor
