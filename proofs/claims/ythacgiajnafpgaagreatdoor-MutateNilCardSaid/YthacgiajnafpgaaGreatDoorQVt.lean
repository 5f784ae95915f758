/- Package heap: the whole heap, more calls on its tables: a run of regions, words noted in Offs, no room. -/
import Derived.Test.YthacgiajnafpgaaGreatDoorQVr
import Derived.Test.YthacgiajnafpgaaGreatDoorQRt4
namespace Go.Proofs.YthacgiajnafpgaaGreatDoor
set_option linter.unusedVariables false
set_option linter.unusedSimpArgs false
set_option maxRecDepth 100000
open Go.RowKit Go.Gl

section
variable {W w w' w'' : World} {L : HL} {X : HX} {own own' own'' : Nat → Nat} {h : HS} {x : HT} {s k : Nat} {F : List Nat}
theorem HpAt.run (H : HpAt W w L X own h x s k) {c f z : Nat} (hc : 1 ≤ c) (hz1 : (c - 1) * h.W < z) (hz2 : z ≤ c * h.W) (hl : LowRun h.s h.R c f) :
    Calls Tryz.prog 155 #[.pointer (some ⟨L.tb, 0, none⟩), .int .i64 (c : Int), .int .i64 (z : Int)] w
      (HpPost W w L X own { h with s := put1 (put2 h.s f (f + c) fun _ => 5) f 4, t := put2 h.t f (f + c) (runTop h.W f z) } x s k (.tuple #[.int .i64 (f : Int), .int .i64 0])) := by
  obtain ⟨tg, FS, H, h1, h2⟩ := H
  refine (run_at H.rg hc hz1 hz2 hl).mono ?_
  rintro e w' ⟨rfl, hr, hf⟩
  have hF : ∀ b, b ∈ [L.sb, L.pb, L.mb] → own b = 3 := fun b hb => by
    simp at hb
    rcases hb with rfl | rfl | rfl
    · exact H.o3.2.1
    · exact H.o3.2.2.1
    · exact H.o3.2.2.2
  exact ⟨own, rfl, ⟨tg, FS, H.regs hf hF hr, h1.trans hf (fun b hb => .inr (h2 b (by rw [hF b hb]; decide))), h2⟩, ⟨_, hf, fun b hb => by rw [hF b hb]; decide⟩, fun _ _ => rfl⟩
end
end Go.Proofs.YthacgiajnafpgaaGreatDoor
