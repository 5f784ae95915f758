/- Card tables: what each call of the package cards answers of a table that lies in memory, and what it leaves there. -/
import Derived.Test.YthacgiajnafpgaaGreatDoorQB1
import Derived.Test.YthacgiajnafpgaaGreatDoorQG
namespace Go.Proofs.YthacgiajnafpgaaGreatDoor
set_option linter.unusedVariables false
set_option maxRecDepth 100000
open Go.RowKit Go.Gl

/-- At tb lies a table of n cards: it holds the set at bs, whose words lie at bw. -/
structure Ct (w : World) (tb bs bw n : Nat) (ws : List Nat) : Prop where
  tab : Blk w tb 247 #[.pointer (some ⟨bs, 0, none⟩)]
  set : BSet w bs bw n ws
section
variable {w w' : World} {tb bs bw n : Nat} {ws : List Nat} {F : List Nat}
theorem Ct.fr (h : Ct w tb bs bw n ws) (hf : Fr F w w') (h0 : tb ∉ F) (h1 : bs ∉ F) (h2 : bw ∉ F) : Ct w' tb bs bw n ws := ⟨h.tab.fr hf h0, h.set.fr hf h1 h2⟩
theorem Ct.fr0 (h : Ct w tb bs bw n ws) (hf : Fr [] w w') : Ct w' tb bs bw n ws := h.fr hf (by simp) (by simp) (by simp)
theorem Ct.drewN (h : Ct w tb bs bw n ws) (k : Nat) : Ct (w.drewN k) tb bs bw n ws := ⟨h.tab, h.set.drewN k⟩
theorem Ct.c0 (h : Ct w tb bs bw n ws) : w.cell? ⟨tb, 0, none⟩ = some (.pointer (some ⟨bs, 0, none⟩)) := by rw [h.tab.cell]; rfl
theorem Ct.ne (h : Ct w tb bs bw n ws) : tb ≠ bw := h.tab.apart h.set.row (by decide)
end
def CtPost (w : World) (tb bs bw n : Nat) (ws : List Nat) (i : Int) (on : Bool) (e : Ending) (w' : World) : Prop :=
  ∃ c er ws', e = .returned (.tuple #[.bool c, .int .i64 er]) ∧ Ct w' tb bs bw n ws' ∧ Fr [bw] w w' ∧ Turned ws n i on c er ws'

/-! A table that isn't there. -/
/-! A table that lies in memory. -/
def CtNew (w : World) (n : Nat) (e : Ending) (w' : World) : Prop :=
  ∃ tb bs bw, e = .returned (.tuple #[.pointer (some ⟨tb, 0, none⟩), .int .i64 0]) ∧ Ct w' tb bs bw n (List.replicate ((n + 63) / 64) 0) ∧ Fr [] w w' ∧ w.heap.size ≤ tb ∧ w.heap.size ≤ bs ∧ w.heap.size ≤ bw
theorem cnew_any (g : Geo) (n : Nat) (hn : n ≤ 4194304) (hg : g.cards = (n : Int)) (w : World) : Calls Tryz.prog 106 #[g.val] w (CtNew w n) := by
  have HN := hide (sNew_any n hn)
  obtain ⟨a, b, c, d, m, f⟩ := g
  obtain rfl : m = (n : Int) := hg
  unfold Geo.val
  go_enter Tryz.func106, Tryz.ntmps106
  go_wp2_with fail
  refine (HN.out _).mono ?_
  rintro e w1 ⟨bs, bw, rfl, hs, hf, h1, h2⟩
  have HS := hide hs
  have HF : Hid (Fr [] w w1) := ((Fr.refl _ _).alloc _).trans_same hf
  have H1 : Hid (w.heap.size ≤ bs ∧ w.heap.size ≤ bw) := by simp at h1 h2; exact ⟨by omega, by omega⟩
  clear hs hf h1 h2
  go_wp2_with fail
  go_ret2
  exact ⟨w1.heap.size, bs, bw, rfl, ⟨Blk.new _ _ _, HS.out.fr ((Fr.refl [] w1).alloc _) (by simp) (by simp)⟩, HF.out.alloc _, HF.out.size, H1.out.1, H1.out.2⟩
end Go.Proofs.YthacgiajnafpgaaGreatDoor
