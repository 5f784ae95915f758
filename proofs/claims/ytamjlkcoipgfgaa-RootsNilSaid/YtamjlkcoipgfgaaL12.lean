/- The statements of layer 12: the questions that each of them asks first. -/
import Derived.Test.YtamjlkcoipgfgaaRo
import Derived.Test.YtamjlkcoipgfgaaRk
namespace Go.Proofs.Ytamjlkcoipgfgaa
set_option linter.unusedVariables false
open Go.RowKit Go.Gl

theorem apartOf {w : World} {F F' : List Nat} {P : Nat → Prop} (h : ∀ x, x ∈ F → P x) (hn : ∀ x, x ∈ F' → x ∈ F ∨ w.heap.size ≤ x) (hp : ∀ x, w.heap.size ≤ x → P x) : ∀ x, x ∈ F' → P x := fun x hx => by
  rcases hn x hx with h1 | h1
  · exact h x h1
  · exact hp x h1
theorem Fr.inside {W w w' : World} {F : List Nat} (h : Fr [] W w) (hf : Fr F w w') (hF : ∀ x, x ∈ F → W.heap.size ≤ x) : Fr [] W w' := h.trans hf fun x hx => .inr (hF x hx)
set_option maxHeartbeats 1600000 in
theorem awake12_any (w : World) : Calls Try.prog 6 #[] w fun e w' => e = .returned (.bool true) ∧ Fr [] w w' := by
  go_enter Try.func6, Try.ntmps6
  go_wp2_with fail
  refine (hnew_ok 2 (by decide) (by decide) _).mono ?_
  rintro e w1 ⟨s, F1, rfl, hq, hf, hn⟩
  have HQ1 := hide hq
  have HF1 := hide hf
  have HP1 := hide hn
  clear hq hf hn
  have T1 := hide (hpush_any HQ1.out (by decide) (by decide) 5)
  go_wp2_with fail
  refine T1.out.mono ?_
  rintro e w2 ⟨F2, rfl, hq, hf, hn⟩
  rw [show hkPushE 2 [] = 0 from rfl]
  have HQ2 : Hid (HkP w2 s F2 2 [5]) := hq
  have HF2 : Hid (Fr [] w w2) := Fr.inside HF1.out hf HP1.out
  have HP2 : Hid (∀ x, x ∈ F2 → w.heap.size ≤ x) := apartOf HP1.out hn (fun x hx => Nat.le_trans HF1.out.size hx)
  clear hq hf hn T1 HQ1 HF1 HP1
  have T1 := hide (hpush_any HQ2.out (by decide) (by decide) 0)
  go_wp2_with fail
  refine T1.out.mono ?_
  rintro e w3 ⟨F3, rfl, hq, hf, hn⟩
  rw [show hkPushE 2 [5] = 0 from rfl]
  have HQ3 : Hid (HkP w3 s F3 2 [5, 0]) := hq
  have HF3 : Hid (Fr [] w w3) := Fr.inside HF2.out hf HP2.out
  have HP3 : Hid (∀ x, x ∈ F3 → w.heap.size ≤ x) := apartOf HP2.out hn (fun x hx => Nat.le_trans HF2.out.size hx)
  clear hq hf hn T1 HQ2 HF2 HP2
  have T1 := hide (hpush_any HQ3.out (by decide) (by decide) 7)
  go_wp2_with fail
  refine T1.out.mono ?_
  rintro e w4 ⟨F4, rfl, hq, hf, hn⟩
  rw [show hkPushE 2 [5, 0] = 15 from rfl]
  have HQ4 : Hid (HkP w4 s F4 2 [5, 0]) := hq
  have HF4 : Hid (Fr [] w w4) := Fr.inside HF3.out hf HP3.out
  clear hq hf hn T1 HQ3 HF3 HP3
  have T1 : Hid (Calls Try.prog 11 #[.pointer (some ⟨s, 0, none⟩), .int .i64 0] w4 fun e w' => e = .returned (.tuple #[.int .u64 5, .int .i64 0]) ∧ w4 = w') := hat_any HQ4.out 0
  have T2 : Hid (Calls Try.prog 19 #[.pointer (some ⟨s, 0, none⟩)] w4 fun e w' => e = .returned (.int .i64 2) ∧ w4 = w') := hlen_any HQ4.out
  have T3 : Hid (Calls Try.prog 20 #[.pointer (some ⟨s, 0, none⟩)] w4 fun e w' => e = .returned (.int .i64 0) ∧ ∃ k, w' = w4.drewN k) := hroom_any HQ4.out (by decide) (by decide)
  clear HQ4
  go_wp2_with fail
  refine T1.out.mono ?_
  rintro e w5 ⟨rfl, rfl⟩
  go_wp2_with fail
  refine T2.out.mono ?_
  rintro e w5 ⟨rfl, rfl⟩
  go_wp2_with fail
  refine T3.out.mono ?_
  rintro e w5 ⟨rfl, q, rfl⟩
  go_wp2_with fail
  go_ret
  exact ⟨rfl, HF4.out.drewN q⟩
end Go.Proofs.Ytamjlkcoipgfgaa
