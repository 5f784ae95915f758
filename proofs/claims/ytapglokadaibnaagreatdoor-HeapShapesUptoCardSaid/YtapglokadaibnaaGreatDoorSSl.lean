/- Package remset: list. -/
import Derived.Test.YtapglokadaibnaaGreatDoorSSp
import Derived.Test.YtapglokadaibnaaGreatDoorSB1
import Derived.Test.YtapglokadaibnaaGreatDoorSTz
import Derived.Deep.RegionHeld3
import Derived.Deep.CutRange
namespace Go.Proofs.YtapglokadaibnaaGreatDoor
set_option maxRecDepth 100000
set_option linter.unusedVariables false
set_option linter.unusedSimpArgs false
open Go.RowKit Go.Gl

/-- The cards of a source below its k'th that p has. -/
def part (per s : Nat) (p : Nat → Bool) (k : Nat) : List Int := ((List.range k).filter p).map fun i => ((s * per + i : Nat) : Int)
/-- The cards that the home h has of the source s. -/
def cardsOf (σ : RS) (per h s : Nat) : List Int := part per s (fun i => hasN σ per h (s * per + i)) per
def ListPost (w : World) (G0 : List Nat) (xs : List Int) (e : Ending) (w' : World) : Prop :=
  ∃ A c G, e = .returned (.slice A xs.length c) ∧ Lr w' 3 A xs.length c G (zv xs) ∧ Fr G0 w w' ∧ ∀ g, g ∈ G → g ∈ G0 ∨ w.heap.size ≤ g
def toCome (per : Nat) (v : Value) : Nat := if intOf v < 0 then 0 else per - (intOf v).toNat
section
variable {w : World} {tg : Tg} {sb kb sB hB fB per n : Nat} {σ : RS} {fk : Value → Option Value} {Vs Vh Vf : Nat → Value}
end
end Go.Proofs.YtapglokadaibnaaGreatDoor
/- Package remset: Cards. -/
namespace Go.Proofs.YtapglokadaibnaaGreatDoor
set_option maxRecDepth 100000
set_option linter.unusedVariables false
set_option linter.unusedSimpArgs false
open Go.RowKit Go.Gl

/-- All sources that the home h has. -/
def srcs (σ : RS) (n h : Nat) : List Nat := (List.range n).filter fun s => decide (σ.way h s ≠ 0)
/-- All cards that the home h has. -/
def allOf (σ : RS) (per n h : Nat) : List Int := part (n * per) 0 (hasN σ per h) (n * per)
section
variable {w : World} {tg : Tg} {sb kb sB hB fB per n : Nat} {σ : RS} {fk : Value → Option Value} {Vs Vh Vf : Nat → Value}
end
end Go.Proofs.YtapglokadaibnaaGreatDoor
/- The statements of layer 11: what lies where, in one word; the questions that each of them asks first. -/
namespace Go.Proofs.YtapglokadaibnaaGreatDoor
set_option maxRecDepth 100000
set_option linter.unusedVariables false
set_option linter.unusedSimpArgs false
open Go.RowKit Go.Gl

def SAt (w : World) (tg : Tg) (sb per n : Nat) (σ : RS) : Prop := ∃ kb sB hB fB fk Vs Vh Vf, Rs w tg sb kb sB hB fB per n σ fk Vs Vh Vf
/-- No block below B is tagged. -/
def Old (B : Nat) (tg : Tg) : Prop := ∀ b, b < B → (tg b).1 = 0
def Upd (w : World) (tg : Tg) (sb per n : Nat) (v : Value) (σ : RS) (e : Ending) (w' : World) : Prop :=
  ∃ tg' F, e = .returned v ∧ SAt w' tg' sb per n σ ∧ Fr F w w' ∧ (∀ b, b ∈ F → (tg b).1 ≠ 0) ∧ TgUp w tg tg'
section
variable {w w' : World} {tg tg' : Tg} {F : List Nat} {sb per n B : Nat} {σ : RS}
theorem SAt.fr (h : SAt w tg sb per n σ) (hf : Fr F w w') (hF : ∀ b, b ∈ F → (tg b).1 = 0) : SAt w' tg sb per n σ := by
  obtain ⟨kb, sB, hB, fB, fk, Vs, Vh, Vf, h⟩ := h
  exact ⟨kb, sB, hB, fB, fk, Vs, Vh, Vf, h.fr hf hF⟩
theorem SAt.tok (h : SAt w tg sb per n σ) : TgOk w tg := by
  obtain ⟨kb, sB, hB, fB, fk, Vs, Vh, Vf, h⟩ := h
  exact h.tok
theorem SAt.add (h : SAt w tg sb per n σ) (a c : Int) : Calls Tryz.prog 141 #[.pointer (some ⟨sb, 0, none⟩), .int .i64 a, .int .i64 c] w (Upd w tg sb per n (.tuple #[.bool (addR σ per n a c).1, .int .i64 (addR σ per n a c).2.1]) (addR σ per n a c).2.2) := by
  obtain ⟨kb, sB, hB, fB, fk, Vs, Vh, Vf, h⟩ := h
  refine (radd_any h a c).mono ?_
  rintro e w' ⟨tg', fk', Vs', Vh', Vf', F, rfl, h1, h2, h3, h4⟩
  exact ⟨tg', F, rfl, ⟨_, _, _, _, _, _, _, _, h1⟩, h2, h3, h4⟩
end
/-- The sets are new since W, and nothing that was there has been touched. -/
def OwnS (W w : World) (sb per n : Nat) (σ : RS) : Prop := Fr [] W w ∧ ∃ tg, SAt w tg sb per n σ ∧ Old W.heap.size tg
section
variable {W w w' : World} {sb per n : Nat} {σ σ' : RS} {v : Value} {e : Ending}
end
def smallG : Geo := ⟨512, 64, 8, 8, 64, 448⟩
/-- The sets when the cards from 8 on and below k were added to the home 0. -/
def tau (k : Nat) : RS := ⟨fun a b => if a = 0 ∧ b = 1 then (if k ≤ 8 then 0 else if k ≤ 12 then 1 else 2) else 0, fun a c => decide (a = 0 ∧ 8 ≤ c ∧ c < k)⟩
end Go.Proofs.YtapglokadaibnaaGreatDoor
