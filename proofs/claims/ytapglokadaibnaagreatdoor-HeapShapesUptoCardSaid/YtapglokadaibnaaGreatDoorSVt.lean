/- Package heap: the whole heap, more calls on its tables: a run of regions, words noted in Offs, no room. -/
import Derived.Test.YtapglokadaibnaaGreatDoorSVr
import Derived.Test.YtapglokadaibnaaGreatDoorSRt4
namespace Go.Proofs.YtapglokadaibnaaGreatDoor
set_option linter.unusedVariables false
set_option linter.unusedSimpArgs false
set_option maxRecDepth 100000
open Go.RowKit Go.Gl

section
variable {W w w' w'' : World} {L : HL} {X : HX} {own own' own'' : Nat → Nat} {h : HS} {x : HT} {s k : Nat} {F : List Nat}
theorem HpAt.run (H : HpAt W w L X own h x s k) {c f z : Nat} (hc : 1 ≤ c) (hz1 : (c - 1) * h.W < z) (hz2 : z ≤ c * h.W) (hl : LowRun h.s h.R c f) :
    Calls Tryz.prog 136 #[.pointer (some ⟨L.tb, 0, none⟩), .int .i64 (c : Int), .int .i64 (z : Int)] w
      (HpPost W w L X own { h with s := put1 (put2 h.s f (f + c) fun _ => 5) f 4, t := put2 h.t f (f + c) (runTop h.W f z) } x s k (.tuple #[.int .i64 (f : Int), .int .i64 0])) := by
  obtain ⟨tg, FS, H, h1, h2⟩ := H
  refine (run_at H.rg hc hz1 hz2 hl).mono ?_
  rintro e w' ⟨rfl, hr, hf⟩
  have hF : ∀ b, b ∈ [L.sb, L.pb, L.mb] → own b = 3 := fun b hb => by
    simp at hb
    rcases hb with rfl | rfl | rfl
    · exact H.o3.2.1
    · exact H.o3.2.2.1
    · exact H.o3.2.2.2
  exact ⟨own, rfl, ⟨tg, FS, H.regs hf hF hr, h1.trans hf (fun b hb => .inr (h2 b (by rw [hF b hb]; decide))), h2⟩, ⟨_, hf, fun b hb => by rw [hF b hb]; decide⟩, fun _ _ => rfl⟩
theorem HpAt.claim_no (H : HpAt W w L X own h x s k) {y : Int} (hy : Filled y) (hl : NoneFree h.s h.R) :
    Calls Tryz.prog 34 #[.pointer (some ⟨L.tb, 0, none⟩), .int .i64 y] w fun e w' => e = .returned (.tuple #[.int .i64 0, .int .i64 6]) ∧ w = w' := by
  obtain ⟨tg, FS, H, h1, h2⟩ := H
  exact claim_full H.rg hy hl
theorem HpAt.bump_no (H : HpAt W w L X own h x s k) {j : Nat} (hj : j < h.R) (hy : Filled (h.s j)) {c : Int} (hc : 1 ≤ c) (hfit : ¬ h.t j + c ≤ ((j * h.W + h.W : Nat) : Int)) :
    Calls Tryz.prog 59 #[.pointer (some ⟨L.tb, 0, none⟩), .int .i64 (j : Int), .int .i64 c] w fun e w' => e = .returned (.tuple #[.int .i64 0, .int .i64 6]) ∧ ∃ q, w' = w.drewN q := by
  obtain ⟨tg, FS, H, h1, h2⟩ := H
  exact bump_full H.rg hj hy hc hfit
theorem HpAt.run_no (H : HpAt W w L X own h x s k) {c : Nat} {z : Int} (hc : 1 ≤ c) (hcm : c ≤ 9223372036854775807) (hzm : z ≤ 9223372036854775807) (hz : ((c : Int) - 1) * (h.W : Int) < z ∧ z ≤ (c : Int) * (h.W : Int)) (hl : NoRun h.s h.R c) :
    Calls Tryz.prog 136 #[.pointer (some ⟨L.tb, 0, none⟩), .int .i64 (c : Int), .int .i64 z] w fun e w' => e = .returned (.tuple #[.int .i64 0, .int .i64 6]) ∧ w = w' := by
  obtain ⟨tg, FS, H, h1, h2⟩ := H
  exact run_full H.rg (by have := H.dim.r2; omega) hc hcm hzm hz hl
theorem HpAt.offsPut (H : HpAt W w L X own h x s k) {a z : Nat} (hz : 1 ≤ z) (hm : a + z ≤ h.n) :
    Calls Tryz.prog 66 #[.pointer (some ⟨X.ob, 0, none⟩), .int .i64 (a : Int), .int .i64 (z : Int)] w (HpPost W w L X own h { x with O := obj x.cw x.O a z } s k (.int .i64 0)) := by
  obtain ⟨tg, FS, H, h1, h2⟩ := H
  refine (oput_at H.of hz (by rw [H.dim.wcards]; have := H.ok.nn; omega)).mono ?_
  rintro e w' ⟨rfl, hr, hf⟩
  have hF : ∀ b, b ∈ [X.oo] → own b = 4 := fun b hb => by
    simp at hb
    subst hb
    exact H.o4.2
  exact ⟨own, rfl, ⟨tg, FS, H.offs hf hF hr, h1.trans hf (fun b hb => .inr (h2 b (by rw [hF b hb]; decide))), h2⟩, ⟨_, hf, fun b hb => by rw [hF b hb]; decide⟩, fun _ _ => rfl⟩
end
end Go.Proofs.YtapglokadaibnaaGreatDoor
