/- The library's table of math/bits, and TrailingZeros64. -/
import Derived.Test.YthacgiajnafpgaaGreatDoorProg
import Derived.Test.YthacgiajnafpgaaGreatDoorQKit
import Derived.Test.YthacgiajnafpgaaGreatDoorQBn
import Derived.WalkKit
import Derived.BigQuiet

namespace Go.Proofs.YthacgiajnafpgaaGreatDoor
set_option linter.unusedVariables false
open Go.RowKit Go.Gl

/-- The library's table lies there. -/
def Tab (w : World) : Prop := ∀ k : Nat, k < 64 → w.cell? ⟨0, k, none⟩ = some (.int .u8 (Lib.deBruijn64tab.getD k 0 : Nat))
theorem tz_index (x : Nat) (hx : x < 18446744073709551616) (h0 : 0 < x) : ∃ i : Nat, i < 64 ∧ Lib.deBruijn64tab.getD i 0 = Lib.ctz 64 x ∧
    IntKind.u64.wrap (bits BinOp.and IntKind.u64 (↑x) (IntKind.u64.wrap (-↑x)) * 285870213051353865) / 288230376151711744 = (i : Int) := by
  obtain ⟨m, hm, hk⟩ := Lib.ctzFrom_spec 64 x h0 hx
  have hc : Lib.ctz 64 x = Lib.ctzFrom 64 x := by unfold Lib.ctz; rw [if_neg (by omega)]
  rw [hc]
  generalize Lib.ctzFrom 64 x = k at *
  obtain ⟨d1, d2⟩ := Lib.deBruijn64_at k hk
  refine ⟨_, d1, d2, ?_⟩
  have e1 : IntKind.u64.wrap (-(x : Int)) = ((18446744073709551616 - x : Nat) : Int) := by rw [IntKind.wrap_u64]; omega
  have e2 : x &&& (18446744073709551616 - x) = 2 ^ k := by
    have h := Lib.and_neg 64 k m (by rw [← hm]; exact hx)
    rw [← hm] at h
    exact h
  rw [e1, u64_and_nat _ _ hx (by omega), e2, IntKind.wrap_u64]
  rfl
theorem tz_any (x : Nat) (hx : x < 18446744073709551616) (h0 : 0 < x) (w : World) (hT : Tab w) :
    Calls Tryz.prog 134 #[.int .u64 (x : Int)] w fun e w' => e = .returned (.int .i64 ((Lib.ctz 64 x : Nat) : Int)) ∧ w = w' := by
  obtain ⟨i, hi, ht, he⟩ := tz_index x hx h0
  have hcell := hT i hi
  rw [ht] at hcell
  have hlt : Lib.ctz 64 x < 64 := (ctz_low x h0 hx).1
  clear hT ht
  generalize hX : IntKind.u64.wrap (bits BinOp.and IntKind.u64 (↑x) (IntKind.u64.wrap (-↑x)) * 285870213051353865) / 288230376151711744 = X at he
  subst he
  have hb : 0 ≤ IntKind.u64.wrap (bits BinOp.and IntKind.u64 (↑x) (IntKind.u64.wrap (-↑x)) * 285870213051353865) / 288230376151711744 ∧ IntKind.u64.wrap (bits BinOp.and IntKind.u64 (↑x) (IntKind.u64.wrap (-↑x)) * 285870213051353865) / 288230376151711744 < 64 := by rw [hX]; omega
  have hc : w.cell? ⟨0, (IntKind.u64.wrap (bits BinOp.and IntKind.u64 (↑x) (IntKind.u64.wrap (-↑x)) * 285870213051353865) / 288230376151711744).toNat, none⟩ = some (.int .u8 ((Lib.ctz 64 x : Nat) : Int)) := by
    rw [hX, Int.toNat_natCast]; exact hcell
  clear hX hcell
  generalize Lib.ctz 64 x = c at *
  go_enter Tryz.func134, Tryz.ntmps134
  go_wp2
  go_ret
  exact ⟨rfl, rfl⟩
theorem Tab.lt {w : World} (h : Tab w) : 0 < w.heap.size := lt_of_cell (h 0 (by decide))
theorem Tab.fr {w w' : World} {F : List Nat} (h : Tab w) (hf : Fr F w w') (h0 : 0 ∉ F) : Tab w' := fun k hk => (hf.cell (p := ⟨0, k, none⟩) h.lt h0).trans (h k hk)
theorem Tab.alloc {w : World} (h : Tab w) (o : Obj) : Tab (w.alloc o) := h.fr (F := []) ((Fr.refl _ _).alloc o) (by simp)
theorem Tab.drewN {w : World} (h : Tab w) (n : Nat) : Tab (w.drewN n) := h
end Go.Proofs.YthacgiajnafpgaaGreatDoor
