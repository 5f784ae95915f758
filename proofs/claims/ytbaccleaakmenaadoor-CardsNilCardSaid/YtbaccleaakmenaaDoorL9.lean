/- The statements of layer 9: the questions that each of them asks first. -/
import Derived.Test.YtbaccleaakmenaaDoorCn
namespace Go.Proofs.YtbaccleaakmenaaDoor
set_option linter.unusedVariables false
open Go.RowKit Go.Gl

def small9 : Geo := ⟨256, 64, 8, 4, 32, 192⟩
theorem small9_ok : small9.Ok 6 3 := by
  refine ⟨by decide, by decide, by decide, by decide, ?_, ?_, by decide, by decide, ?_, ?_, by decide, ?_⟩ <;> decide +kernel
theorem small9_any (w : World) : Calls Tryd.prog 20 #[] w fun e w' => e = .returned small9.val ∧ Fr [] w w' := by
  go_enter Tryd.func20, Tryd.ntmps20
  go_wp2
  refine bodyPost_ret (v := small9.val) (by simp [results, Tryd.results20, go_sem, small9, Geo.val]) rfl ⟨rfl, ?_⟩
  exact (Fr.refl _ _).alloc _
theorem note9_yes : noteB small9 3 63 65 = true := by decide +kernel
theorem note9_no : noteB small9 3 63 64 = false := by decide +kernel

/-- Worlds in which a table of cards and the table of bits lie. -/
def CtC (w : World) (tb bs bw n : Nat) (ws : List Nat) : World → Prop := fun w' => Ct w' tb bs bw n ws ∧ Tab w' ∧ Fr [] w w'
theorem CtC.stable (w : World) (tb bs bw n : Nat) (ws : List Nat) : Stable (CtC w tb bs bw n ws) := fun _ _ ⟨h1, h2, h3⟩ hf => ⟨h1.fr0 hf, h2.fr hf (by simp), h3.trans_same hf⟩
set_option maxHeartbeats 1600000 in
theorem awake9_any (w : World) (hT : Tab w) : Calls Tryd.prog 6 #[] w fun e w' => e = .returned (.bool true) ∧ Fr [] w w' := by
  have HT := hide hT
  clear hT
  go_enter Tryd.func6, Tryd.ntmps6
  go_wp2_with fail
  refine (small9_any _).mono ?_
  rintro e w1 ⟨rfl, hf1⟩
  have HF1 := hide hf1
  clear hf1
  go_wp2_with fail
  refine (cnew_any small9 32 (by decide) rfl _).mono ?_
  rintro e w2 ⟨tb, bs, bw, rfl, hc, hf2, h0, h1, h2⟩
  have HC := hide hc
  have HF2 : Hid (Fr [] w w2) := HF1.out.trans_same hf2
  have HL : Hid (w.heap.size ≤ bw) := Nat.le_trans HF1.out.size h2
  clear hc hf2 h0 h1 h2
  go_wp2_with fail
  refine (cdirty_any HC.out 31).mono ?_
  rintro e w3 ⟨c, er, ws3, rfl, hc3, hf3, ht3⟩
  obtain ⟨rfl, rfl, hb3⟩ : c = true ∧ er = 0 ∧ ∀ j, wbit ws3 j = decide (j = 31) := by
    rcases ht3 with ⟨_, _, h1, h2, h3⟩ | ⟨h1, _⟩
    · refine ⟨by rw [h2, wbit_zero]; rfl, h1, fun j => ?_⟩
      rw [h3 j, wbit_zero]
      by_cases hj : j = 31 <;> simp [hj]
    · exact absurd ⟨by decide, by decide⟩ h1
  have HF3 : Hid (Fr [] w w3) := HF2.out.trans hf3 (by have := HL.out; simp; exact this)
  have i1 : inB ws3 31 = true := by unfold inB; rw [show (31 : Int).toNat = 31 from rfl, hb3]; rfl
  have i2 : inB ws3 30 = false := by unfold inB; rw [show (30 : Int).toNat = 30 from rfl, hb3]; rfl
  obtain ⟨u, hu⟩ : ∃ u : Cls (CtC w tb bs bw 32 ws3), u.w = w3 := ⟨⟨w3, hc3, HT.out.fr HF3.out (by simp), HF3.out⟩, rfl⟩
  have S := hide (CtC.stable w tb bs bw 32 ws3)
  rw [← hu]
  clear hf3 ht3 hb3 hc3 hu
  have I1 : Hid (∀ u : Cls (CtC w tb bs bw 32 ws3), Calls Tryd.prog 12 #[.pointer (some ⟨tb, 0, none⟩), .int .i64 31] u.w fun e w'' => e = .returned (.bool true) ∧ ∃ u' : Cls (CtC w tb bs bw 32 ws3), w'' = u'.w) := fun u =>
    Cls.grows S.out ((cis_any u.ok.1 31).mono fun e w' ⟨he, k, hk⟩ => ⟨by rw [he, i1], hk ▸ (Fr.refl _ _).drewN k⟩)
  have I2 : Hid (∀ u : Cls (CtC w tb bs bw 32 ws3), Calls Tryd.prog 12 #[.pointer (some ⟨tb, 0, none⟩), .int .i64 30] u.w fun e w'' => e = .returned (.bool false) ∧ ∃ u' : Cls (CtC w tb bs bw 32 ws3), w'' = u'.w) := fun u =>
    Cls.grows S.out ((cis_any u.ok.1 30).mono fun e w' ⟨he, k, hk⟩ => ⟨by rw [he, i2], hk ▸ (Fr.refl _ _).drewN k⟩)
  have N1 : Hid (∀ u : Cls (CtC w tb bs bw 32 ws3), Calls Tryd.prog 17 #[small9.val, .int .i64 3, .int .i64 63, .int .u64 65] u.w fun e w'' => e = .returned (.bool true) ∧ ∃ u' : Cls (CtC w tb bs bw 32 ws3), w'' = u'.w) := fun u =>
    Cls.grows S.out ((note_any small9 small9_ok 3 63 65 _ u.ok.2.1).mono fun e w' ⟨he, hk⟩ => ⟨by rw [he, note9_yes], hk⟩)
  have N2 : Hid (∀ u : Cls (CtC w tb bs bw 32 ws3), Calls Tryd.prog 17 #[small9.val, .int .i64 3, .int .i64 63, .int .u64 64] u.w fun e w'' => e = .returned (.bool false) ∧ ∃ u' : Cls (CtC w tb bs bw 32 ws3), w'' = u'.w) := fun u =>
    Cls.grows S.out ((note_any small9 small9_ok 3 63 64 _ u.ok.2.1).mono fun e w' ⟨he, hk⟩ => ⟨by rw [he, note9_no], hk⟩)
  have N0 : Hid (∀ u : Cls (CtC w tb bs bw 32 ws3), Calls Tryd.prog 20 #[] u.w fun e w'' => e = .returned small9.val ∧ ∃ u' : Cls (CtC w tb bs bw 32 ws3), w'' = u'.w) := fun u => Cls.grows S.out (small9_any _)
  clear i1 i2
  go_wp2_with (first
    | (go_at_call 12; first | (with_reducible refine (I1.out _).mono ?_; rintro e w' ⟨rfl, u, rfl⟩) | (with_reducible refine (I2.out _).mono ?_; rintro e w' ⟨rfl, u, rfl⟩))
    | (go_at_call 20; refine (N0.out _).mono ?_; rintro e w' ⟨rfl, u, rfl⟩)
    | (go_at_call 17; first | (with_reducible refine (N1.out _).mono ?_; rintro e w' ⟨rfl, u, rfl⟩) | (with_reducible refine (N2.out _).mono ?_; rintro e w' ⟨rfl, u, rfl⟩)))
  go_ret
  exact ⟨rfl, u.ok.2.2⟩
end Go.Proofs.YtbaccleaakmenaaDoor
