/- The statements of layer 7: the questions that each of them asks first. -/
import Derived.Test.YtjgjcpafdhocfaaRt5
import Derived.Test.YtjgjcpafdhocfaaRt6
namespace Go.Proofs.Ytjgjcpafdhocfaa
set_option linter.unusedVariables false
open Go.RowKit Go.Gl

def small7 : Geo := ⟨256, 64, 8, 4, 32, 192⟩
theorem small7_ok : OkGeo7 small7 64 4 := ⟨by decide, by decide, by decide, by decide, rfl, rfl, rfl⟩
theorem small7_any (w : World) : Calls Try.prog 8 #[] w fun e w' => e = .returned small7.val ∧ Fr [] w w' := by
  go_enter Try.func8, Try.ntmps8
  go_wp2
  refine bodyPost_ret (v := small7.val) (by simp [results, Try.results8, go_sem, small7, Geo.val]) rfl ⟨rfl, ?_⟩
  exact (Fr.refl _ _).alloc _
/-- The table of four regions of 64 words, as New leaves it. -/
def t0 : Nat → Int := fun k => ((k * 64 : Nat) : Int)
def RNew7 (w : World) (e : Ending) (w' : World) : Prop :=
  ∃ tb sb pb mb, e = .returned (.tuple #[.pointer (some ⟨tb, 0, none⟩), .int .i64 0]) ∧ Rg w' tb sb pb mb 64 4 (fun _ => 0) t0 t0 ∧ Fr [] w w' ∧ w.heap.size ≤ tb ∧ w.heap.size ≤ sb ∧ w.heap.size ≤ pb ∧ w.heap.size ≤ mb
theorem new7_any (w : World) : Calls Try.prog 7 #[small7.val] w (RNew7 w) := rnew_ok small7 small7_ok w

theorem awake7_any (w : World) : Calls Try.prog 6 #[] w fun e w' => e = .returned (.bool true) ∧ Fr [] w w' := by
  go_enter Try.func6, Try.ntmps6
  go_wp2_with fail
  refine (small7_any _).mono ?_
  rintro e w1 ⟨rfl, hf⟩
  have HF1 := hide hf
  clear hf
  go_wp2_with fail
  refine (new7_any _).mono ?_
  rintro e w2 ⟨tb, sb, pb, mb, rfl, hr, hf, l1, l2, l3, l4⟩
  have HR2 := hide hr
  have HF2 : Hid (Fr [] w w2) := HF1.out.trans_same hf
  have HL : Hid (w.heap.size ≤ sb ∧ w.heap.size ≤ pb ∧ w.heap.size ≤ mb) := by have := HF1.out.size; exact ⟨by omega, by omega, by omega⟩
  clear hr hf l1 l2 l3 l4
  have A1 := hide (claim_at HR2.out (x := 1) (.inl rfl) (k := 0) ⟨by decide, rfl, fun j hj => by omega⟩)
  go_wp2_with fail
  refine A1.out.mono ?_
  rintro e w3 ⟨rfl, hr, hf⟩
  have HR3 := hide hr
  have HF3 := hide hf
  have A2 := hide (claim_at HR3.out (x := 3) (.inr (.inr rfl)) (k := 1) ⟨by decide, by decide, by decide⟩)
  clear hr hf A1
  go_wp2_with fail
  refine A2.out.mono ?_
  rintro e w4 ⟨rfl, hr, hf⟩
  have HR4 := hide hr
  have HF4 := hide (HF3.out.trans_same hf)
  have A3 := hide (bump_at HR4.out (k := 1) (by decide) (.inr (.inr (by decide))) (c := 60) (by decide) (by decide))
  clear hr hf A2
  go_wp2_with fail
  refine A3.out.mono ?_
  rintro e w5 ⟨rfl, hr, hf⟩
  have HR5 := hide hr
  have HF5 := hide (HF4.out.trans_same hf)
  have A4 := hide (run_at HR5.out (c := 2) (f := 2) (z := 100) (by decide) (by decide) (by decide) ⟨by decide, fun j h1 h2 => by
      obtain rfl | rfl : j = 2 ∨ j = 3 := by omega
      all_goals decide, fun g hg hr => by
      obtain rfl | rfl : g = 0 ∨ g = 1 := by omega
      all_goals exact absurd (hr 1 (by decide) (by decide)) (by decide)⟩)
  clear hr hf A3
  go_wp2_with fail
  refine A4.out.mono ?_
  rintro e w6 ⟨rfl, hr, hf⟩
  have HR6 := hide hr
  have HF6 := hide (HF5.out.trans_same hf)
  have A5 := hide (state_at HR6.out (k := 3) (by decide))
  have A6 := hide (top_at HR6.out (k := 3) (by decide))
  rw [show put1 (put2 (put1 (put1 (fun _ => 0) 0 1) 1 3) 2 (2 + 2) fun _ => 5) 2 4 3 = 5 from by decide] at A5
  rw [show put2 (put1 t0 1 (t0 1 + 60)) 2 (2 + 2) (runTop 64 2 100) 3 = 228 from by decide] at A6
  rw [show t0 1 = 64 from rfl]
  clear hr hf A4
  go_wp2_with (first | (go_at_call 12; refine A5.out.mono ?_; rintro e w' ⟨rfl, rfl⟩) | (go_at_call 11; refine A6.out.mono ?_; rintro e w' ⟨rfl, rfl⟩))
  go_ret
  exact ⟨rfl, HF2.out.trans HF6.out (fun x hx => by have := HL.out; simp at hx; omega)⟩
end Go.Proofs.Ytjgjcpafdhocfaa
