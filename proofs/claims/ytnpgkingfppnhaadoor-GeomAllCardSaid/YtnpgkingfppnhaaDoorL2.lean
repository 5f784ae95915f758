/- The statements of layer 2: the questions that each of them asks first; the worlds that they walk through. -/
import Derived.Test.YtnpgkingfppnhaaDoorGn
namespace Go.Proofs.YtnpgkingfppnhaaDoor
set_option linter.unusedVariables false
open Go.RowKit Go.Gl

def smallC : Cfg := ⟨6, 4, 3, 1, 4, 0, 0, 1, 0, 0, 0, 0, 0, 0⟩
def smallG : Geo := ⟨256, 64, 8, 4, 32, 192⟩
theorem small_may : mayB smallC = true := by decide +kernel
theorem small_geo : smallC.geo = smallG := by
  show (⟨_, _, _, _, _, _⟩ : Geo) = _
  unfold smallG
  congr 1
theorem small_ok : smallG.Ok 6 3 := by
  have := Cfg.geo_ok (mayB_lie small_may)
  rw [small_geo] at this
  exact this
theorem small_any (w : World) : Calls Tryd.prog 23 #[] w fun e w' => e = .returned smallC.val ∧ Fr [] w w' := by
  go_enter Tryd.func23, Tryd.ntmps23
  go_wp2_with fail
  refine bodyPost_ret (v := smallC.val) (by simp [results, Tryd.results23, go_sem, *]; rfl) rfl ⟨rfl, ?_⟩
  exact (Fr.refl _ _).alloc _
/-- Worlds in which block b holds the geometry g, grown from w. -/
def OneC (w : World) (b : Nat) (g : Geo) : World → Prop := fun w' => GeoAt w' b g ∧ Tab w' ∧ Fr [] w w'
theorem OneC.stable (w : World) (b : Nat) (g : Geo) : Stable (OneC w b g) := fun _ _ ⟨h1, h2, h3⟩ hf => ⟨h1.fr hf (by simp), h2.fr hf (by simp), h3.trans_same hf⟩
theorem awake_any (w : World) (hT : Tab w) : Calls Tryd.prog 6 #[] w fun e w' => e = .returned (.bool true) ∧ Fr [] w w' := by
  have HT := hide hT
  have HN := hide (new_any smallC)
  have HE : Hid (smallC.ans = smallG ∧ smallC.err = 0) := ⟨by unfold Cfg.ans; rw [if_pos small_may, small_geo], by unfold Cfg.err; rw [if_pos small_may]⟩
  clear hT
  go_enter Tryd.func6, Tryd.ntmps6
  go_wp2_with fail
  refine (small_any _).mono ?_
  rintro e w1 ⟨rfl, hf1⟩
  have HF1 := hide hf1
  clear hf1
  go_wp2_with fail
  refine (HN.out _).mono ?_
  rintro e w2 ⟨rfl, hf2⟩
  rw [HE.out.1, HE.out.2]
  have HF2 : Hid (Fr [] w w2) := HF1.out.trans_same hf2
  clear hf2
  unfold smallG Geo.val
  go_wp2_with fail
  have hB : GeoAt (w2.alloc (.cells smallG.cells 26)) w2.heap.size smallG := GeoAt.of (Blk.new w2 26 smallG.cells)
  obtain ⟨u, hu⟩ : ∃ u : Cls (OneC w w2.heap.size smallG), u.w = w2.alloc (.cells smallG.cells 26) := ⟨⟨_, hB, (HT.out.fr HF2.out (by simp)).alloc _, HF2.out.alloc _⟩, rfl⟩
  unfold Geo.cells smallG at hu
  rw [← hu]
  clear hB hu
  generalize w2.heap.size = b at *
  have c0 : ∀ u : Cls (OneC w b smallG), u.w.cell? ⟨b, 0, none⟩ = some (.int .i64 256) := fun u => u.ok.1.c0
  have c1 : ∀ u : Cls (OneC w b smallG), u.w.cell? ⟨b, 1, none⟩ = some (.int .i64 64) := fun u => u.ok.1.c1
  have c2 : ∀ u : Cls (OneC w b smallG), u.w.cell? ⟨b, 2, none⟩ = some (.int .i64 8) := fun u => u.ok.1.c2
  have c3 : ∀ u : Cls (OneC w b smallG), u.w.cell? ⟨b, 3, none⟩ = some (.int .i64 4) := fun u => u.ok.1.c3
  have c4 : ∀ u : Cls (OneC w b smallG), u.w.cell? ⟨b, 4, none⟩ = some (.int .i64 32) := fun u => u.ok.1.c4
  have c5 : ∀ u : Cls (OneC w b smallG), u.w.cell? ⟨b, 5, none⟩ = some (.int .i64 192) := fun u => u.ok.1.c5
  have S := hide (OneC.stable w b smallG)
  go_wp2_with (first
    | (go_at_call 9; refine (Cls.grows S.out (base_any smallG small_ok _ _ u.ok.2.1)).mono ?_; rintro e w' ⟨rfl, u, rfl⟩)
    | (go_at_call 13; refine (Cls.grows S.out (region_any smallG small_ok _ _ u.ok.2.1)).mono ?_; rintro e w' ⟨rfl, u, rfl⟩)
    | (go_at_call 15; refine (Cls.grows S.out (card_any smallG small_ok _ _ u.ok.2.1)).mono ?_; rintro e w' ⟨rfl, u, rfl⟩)
    | (go_at_call 17; refine (Cls.grows S.out (cross_any smallG small_ok _ _ _ u.ok.2.1)).mono ?_; rintro e w' ⟨rfl, u, rfl⟩)
    | (go_at_call 19; refine (Cls.grows S.out (big_any smallG _ _ (by decide))).mono ?_; rintro e w' ⟨rfl, u, rfl⟩)
    | (go_at_call 21; refine (Cls.grows S.out (span_any smallG small_ok _ (by decide) _ u.ok.2.1)).mono ?_; rintro e w' ⟨rfl, u, rfl⟩))
  go_ret
  exact ⟨ret_bool (by decide), u.ok.2.2⟩
/-- Worlds in which block b holds the configuration c, grown from w. -/
def CfgC (w : World) (b : Nat) (c : Cfg) : World → Prop := fun w' => CfgAt w' b c ∧ Tab w' ∧ Fr [] w w'
theorem CfgC.stable (w : World) (b : Nat) (c : Cfg) : Stable (CfgC w b c) := fun _ _ ⟨h1, h2, h3⟩ hf => ⟨h1.fr hf, h2.fr hf (by simp), h3.trans_same hf⟩
end Go.Proofs.YtnpgkingfppnhaaDoor
