/- The statements of layer 1: the questions that each of them asks first. -/
import Derived.Test.YtbgemiapnnncaaaDoorB5
namespace Go.Proofs.YtbgemiapnnncaaaDoor
set_option linter.unusedVariables false
open Go.RowKit Go.Gl

def AwakeBits (ws : List Nat) : Prop := ∀ j : Nat, wbit ws j = (decide (60 ≤ j ∧ j < 70) || decide (j = 129))
theorem awake_count {ws : List Nat} (h : AwakeBits ws) (hl : ws.length = 3) : cntR ws 0 130 = 11 := by
  unfold cntR
  rw [hl, cnt_congr (q := fun j => (decide (60 ≤ j ∧ j < 70) || decide (j = 129)) && decide ((0 : Int) ≤ (j : Int) ∧ (j : Int) < 130)) (b := 0) (fun j _ => by rw [Nat.zero_add, h j])]
  decide +kernel
theorem awake_next {ws : List Nat} (h : AwakeBits ws) {r : Int} (hr : NextIs ws 70 r) : r = 129 := by
  rcases hr with ⟨rfl, hr⟩ | ⟨R, rfl, h1, h2, h3⟩
  · have := hr 129 (by omega)
    rw [h] at this; simp at this
  · rw [h] at h2
    rcases Nat.lt_trichotomy R 129 with hR | hR | hR
    · simp at h2; omega
    · omega
    · simp at h2; omega
theorem awake_any (w : World) (hT : Tab w) : Calls Tryd.prog 7 #[] w fun e w' => e = .returned (.bool true) ∧ Fr [] w w' := by
  have HT := hide hT
  clear hT
  have hn := hide (new_any 130 (by decide))
  go_enter Tryd.func7, Tryd.ntmps7
  go_wp2_with fail
  refine (hn.out _).mono ?_
  rintro e w1 ⟨bs, bw, rfl, hs, hf, hlb, hlw⟩
  have HS := hide hs
  have HF := hide hf
  clear hs hf hlb
  go_wp2_with fail
  refine (put_any HS.out _).mono ?_
  rintro e w2 ⟨c, er, ws2, rfl, hs2, hf2, ht2⟩
  obtain ⟨rfl, rfl, hb2⟩ : c = true ∧ er = 0 ∧ ∀ j, wbit ws2 j = decide (j = 129) := by
    rcases ht2 with ⟨_, _, h1, h2, h3⟩ | ⟨h1, _⟩
    · refine ⟨by rw [h2, wbit_zero]; rfl, h1, fun j => ?_⟩
      rw [h3 j, wbit_zero]
      by_cases hj : j = 129 <;> simp [hj]
    · exact absurd ⟨by decide, by decide⟩ h1
  have HS2 := hide hs2
  have HF2 := hide hf2
  have HB2 := hide hb2
  clear hs2 hf2 ht2 hb2
  go_wp2_with fail
  refine (fill_any HS2.out 60 70 true (by decide) (by decide) (by decide) (by decide)).mono ?_
  rintro e w3 ⟨er, ws3, rfl, hs3, hf3, ht3⟩
  obtain ⟨rfl, hb3⟩ : er = 0 ∧ AwakeBits ws3 := by
    rcases ht3 with ⟨_, _, _, h1, h2⟩ | ⟨h1, _⟩
    · refine ⟨h1, fun j => ?_⟩
      rw [h2 j, HB2.out]
      by_cases hj : 60 ≤ j ∧ j < 70
      · rw [if_pos (by omega)]; simp [hj]
      · rw [if_neg (by omega)]; simp [hj]
    · exact absurd ⟨by decide, by decide, by decide⟩ h1
  have HS3 := hide hs3
  have HF3 : Hid (Fr [] w w3) := (HF.out.trans HF2.out (by simpa using hlw)).trans hf3 (by simpa using hlw)
  have HT3 := hide (HT.out.fr HF3.out (by simp))
  have HB3 := hide hb3
  have HL : Hid (ws3.length = 3) := hs3.len
  clear hs3 hf3 ht3 hb3
  have i1 : inB ws3 129 = true := by unfold inB; rw [show (129 : Int).toNat = 129 from rfl, HB3.out]; rfl
  have i2 : inB ws3 0 = false := by unfold inB; rw [show (0 : Int).toNat = 0 from rfl, HB3.out]; rfl
  go_wp2_with fail
  refine (has_any HS3.out _).mono ?_
  rintro e w4 ⟨rfl, k4, rfl⟩
  go_wp2_with fail
  refine (has_any (HS3.out.drewN _) _).mono ?_
  rintro e w5 ⟨rfl, k5, rfl⟩
  go_wp2_with fail
  refine (next_any (HS3.out.drewN _) (HT3.out.drewN _) _).mono ?_
  rintro e w6 ⟨r, rfl, rfl, hr⟩
  obtain rfl := awake_next HB3.out hr
  clear hr
  go_wp2_with fail
  refine (count_any (HS3.out.drewN _) 0 130 (by decide) (by decide) (by decide) (by decide)).mono ?_
  rintro e w7 ⟨rfl, k7, rfl⟩
  have i3 := awake_count HB3.out HL.out
  rw [i3]
  go_wp2_with fail
  refine (len_any (HS3.out.drewN _)).mono ?_
  rintro e w8 ⟨rfl, rfl⟩
  go_wp2_with fail
  go_ret
  exact ⟨rfl, HF3.out.drewN _⟩
end Go.Proofs.YtbgemiapnnncaaaDoor
