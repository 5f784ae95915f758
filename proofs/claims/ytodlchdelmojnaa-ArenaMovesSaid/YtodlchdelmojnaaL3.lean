/- The statements of layer 3: the questions that each of them asks first. -/
import Derived.Test.YtodlchdelmojnaaA2
namespace Go.Proofs.Ytodlchdelmojnaa
set_option linter.unusedVariables false
open Go.RowKit Go.Gl

theorem awake_any (w : World) : Calls Try.prog 5 #[] w fun e w' => e = .returned (.bool true) ∧ Fr [] w w' := by
  have hn := hide (anew_any 10 (by decide))
  go_enter Try.func5, Try.ntmps5
  go_wp2_with fail
  refine (hn.out _).mono ?_
  rintro e w1 ⟨ab, aw, rfl, hs, hf, hlb, hlw⟩
  have HS := hide hs
  have HF := hide hf
  have hlb' : Hid (w.heap.size ≤ ab) := hlb
  have hlw' : Hid (w.heap.size ≤ aw) := hlw
  clear hs hf hlb hlw
  go_wp2_with fail
  refine (store_any HS.out 9 7 (by decide)).mono ?_
  rintro e w2 ⟨er, f2, c2, rfl, hs2, hf2, ht2⟩
  obtain ⟨rfl, rfl, rfl⟩ : er = 0 ∧ f2 = upd (fun _ => 0) 9 7 ∧ c2 = 1 := by
    rcases ht2 with ⟨_, _, h1, h2, h3⟩ | ⟨h1, _⟩
    · exact ⟨h1, h2, h3.trans (IntWalk.wrap64_in _ ⟨by decide, by decide⟩)⟩
    · exact absurd ⟨by decide, by decide⟩ h1
  have HS2 := hide hs2
  have HF2 := hide hf2
  clear hs2 hf2 ht2
  go_wp2_with fail
  refine (swap_any HS2.out 9 7 1 (by decide)).mono ?_
  rintro e w3 ⟨b, er, f3, c3, rfl, hs3, hf3, ht3⟩
  obtain ⟨rfl, rfl, rfl, rfl⟩ : b = true ∧ er = 0 ∧ f3 = upd (upd (fun _ => 0) 9 7) 9 1 ∧ c3 = 2 := by
    rcases ht3 with ⟨_, _, h1, h2, h3, h4⟩ | ⟨h1, _⟩
    · exact ⟨h2, h1, h3, h4.trans (IntWalk.wrap64_in _ ⟨by decide, by decide⟩)⟩
    · exact absurd ⟨by decide, by decide⟩ h1
  have HS3 := hide hs3
  have HF3 := hide hf3
  clear hs3 hf3 ht3
  go_wp2_with fail
  refine (load_any HS3.out 9).mono ?_
  rintro e w4 ⟨v, er, c4, rfl, hs4, hf4, ht4⟩
  obtain ⟨rfl, rfl, rfl⟩ : v = 1 ∧ er = 0 ∧ c4 = 3 := by
    rcases ht4 with ⟨_, _, h1, h2, h3⟩ | ⟨h1, _⟩
    · exact ⟨h1, h2, h3.trans (IntWalk.wrap64_in _ ⟨by decide, by decide⟩)⟩
    · exact absurd ⟨by decide, by decide⟩ h1
  have HS4 := hide hs4
  have HF4 : Hid (Fr [] w w4) := by
    have a := hlb'.out
    have b := hlw'.out
    refine ((HF.out.trans (G := [ab, aw]) HF2.out ?_).trans (G := [ab, aw]) HF3.out ?_).trans (G := [ab]) hf4 ?_
    · intro x hx; simp at hx; omega
    · intro x hx; simp at hx; omega
    · intro x hx; simp at hx; omega
  clear hs4 hf4 ht4
  go_wp2_with fail
  refine (alen_any HS4.out).mono ?_
  rintro e w5 ⟨rfl, rfl⟩
  go_wp2_with fail
  refine (aacc_any HS4.out).mono ?_
  rintro e w6 ⟨rfl, rfl⟩
  go_wp2_with fail
  go_ret
  exact ⟨rfl, HF4.out⟩
end Go.Proofs.Ytodlchdelmojnaa
