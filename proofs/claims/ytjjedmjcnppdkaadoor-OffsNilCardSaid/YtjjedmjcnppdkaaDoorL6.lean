/- The statements of layer 6: the questions that each of them asks first. -/
import Derived.Test.YtjjedmjcnppdkaaDoorOf2
namespace Go.Proofs.YtjjedmjcnppdkaaDoor
set_option linter.unusedVariables false
open Go.RowKit Go.Gl

def small6 : Geo := ⟨256, 64, 8, 4, 32, 192⟩
theorem small6_ok : OkGeo small6 8 32 := ⟨by decide, by decide, by decide, rfl, rfl, rfl⟩
theorem small_any (w : World) : Calls Tryd.prog 7 #[] w fun e w' => e = .returned small6.val ∧ Fr [] w w' := by
  go_enter Tryd.func7, Tryd.ntmps7
  go_wp2
  refine bodyPost_ret (v := small6.val) (by simp [results, Tryd.results7, go_sem, small6, Geo.val]) rfl ⟨rfl, ?_⟩
  exact (Fr.refl _ _).alloc _
theorem new6_any (w : World) (hT : Tab w) : Calls Tryd.prog 6 #[small6.val] w (ONew w 8 32) := onew_ok small6 small6_ok w hT

theorem awake_any (w : World) (hT : Tab w) : Calls Tryd.prog 5 #[] w fun e w' => e = .returned (.bool true) ∧ Fr [] w w' := by
  have HT := hide hT
  clear hT
  go_enter Tryd.func5, Tryd.ntmps5
  go_wp2_with fail
  refine (small_any _).mono ?_
  rintro e w1 ⟨rfl, hf⟩
  have HF1 := hide hf
  have HT1 : Hid (Tab w1) := HT.out.fr hf (by simp)
  clear hf
  go_wp2_with fail
  refine (new6_any _ HT1.out).mono ?_
  rintro e w2 ⟨tb, rb, rfl, ho, hf, hl1, hl2⟩
  have HO := hide ho
  have HF2 : Hid (Fr [] w w2) := HF1.out.trans_same hf
  have HL : Hid (w.heap.size ≤ tb ∧ w.heap.size ≤ rb) := ⟨Nat.le_trans HF1.out.size hl1, Nat.le_trans HF1.out.size hl2⟩
  clear ho hf hl1 hl2
  go_wp2_with fail
  refine (oput_at HO.out (a := 0) (s := 5) (by decide) (by decide)).mono ?_
  rintro e w3 ⟨rfl, ho, hf⟩
  have HO3 := hide ho
  have HF3 := hide hf
  clear ho hf
  go_wp2_with fail
  refine (oput_at HO3.out (a := 5) (s := 20) (by decide) (by decide)).mono ?_
  rintro e w4 ⟨rfl, ho, hf⟩
  have HO4 := hide ho
  have HF4 : Hid (Fr [rb] w2 w4) := HF3.out.trans_same hf
  clear ho hf
  go_wp2_with fail
  refine (ofirst_at HO4.out (c := 3) (by decide)).mono ?_
  rintro e w' ⟨rfl, rfl⟩
  have e1 : obj 8 (obj 8 (fun _ => 0) 0 5) 5 20 3 = 6 := by decide
  have e2 : obj 8 (obj 8 (fun _ => 0) 0 5) 5 20 4 = 0 := by decide
  rw [e1]
  go_wp2_with fail
  refine (ofirst_at HO4.out (c := 4) (by decide)).mono ?_
  rintro e w' ⟨rfl, rfl⟩
  rw [e2]
  go_wp2_with fail
  go_ret
  exact ⟨rfl, HF2.out.trans HF4.out (fun x hx => by have := HL.out; simp at hx; omega)⟩
end Go.Proofs.YtjjedmjcnppdkaaDoor
