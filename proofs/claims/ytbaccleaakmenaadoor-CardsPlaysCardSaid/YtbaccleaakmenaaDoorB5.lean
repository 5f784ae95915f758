/- Sets of numbers: List. -/
import Derived.Test.YtbaccleaakmenaaDoorB4
import Derived.Test.YtbaccleaakmenaaDoorNm
namespace Go.Proofs.YtbaccleaakmenaaDoor
set_option linter.unusedVariables false
open Go.RowKit Go.Gl


def ListPost (w : World) (l : List Nat) (e : Ending) (w' : World) : Prop := ∃ v, e = .returned v ∧ w'.ownsRow w.heap.size 3 1 v l.length (nums l) ∧ Fr [] w w'
theorem list_nil (w : World) : Calls Tryd.prog 26 #[.pointer none] w fun e w' => e = .returned (.slice none 0 0) ∧ w = w' := by
  go_enter Tryd.func26, Tryd.ntmps26
  go_wp2
  go_ret
  exact ⟨rfl, rfl⟩
theorem list_any {w : World} {bs bw n : Nat} {ws : List Nat} (h : BSet w bs bw n ws) (hT : Tab w) :
    Calls Tryd.prog 26 #[.pointer (some ⟨bs, 0, none⟩)] w (ListPost w (below ws n)) := by
  have hmax := h.max
  have hlm : ws.length ≤ 65536 := by have := h.len; omega
  have h0 := h.c0
  have h1 := h.c1
  have hfin : Hid (below ws (ws.length * 64) = below ws n) := by
    have := h.len
    obtain ⟨d, hd⟩ : ∃ d, ws.length * 64 = n + d := ⟨ws.length * 64 - n, by omega⟩
    rw [hd]
    exact below_skip fun j a _ => h.top j a
  have H := hide h
  have HT := hide hT
  have HC := hide (count_any h 0 (n : Int) (by omega) (by omega) (by omega) (by omega))
  have hcr : cntR ws 0 (n : Int) ≤ 4194304 := by
    have := cntTo_len ws 0 (n : Int) ws.length
    unfold cntR
    unfold cntTo at this
    omega
  obtain ⟨i0, hi, hz0, hz1, hz2⟩ := info_parts Tryd.info_int
  clear h hT
  go_enter Tryd.func26, Tryd.ntmps26
  go_wp2_with (first | (go_at_call 37; refine (HC.out).mono ?_; rintro e w' ⟨rfl, nq, rfl⟩) | (at_make; refine wpList_make_own _ rfl _ _ 45 rfl w.heap.size 3 i0 (.int .i64 0) 1 Tryd.underlying45 hi hz0 hz1 _ _ _ (cntR ws 0 (n : Int)) rfl rfl rfl (by rw [hz2]; omega) (by unfold maxLen; omega) (Nat.le_refl _) ?_; intro w1 hown hgr; have HO := hide hown; have HG : Hid (Fr [] w w1) := Fr.from_drewN (Fr.grown (Fr.refl [] (w.drewN nq)) hgr (fun _ hk => by cases hk)); have h1' := (HG.out.cell (p := ⟨bs, 1, none⟩) H.out.set.lt (by simp)).trans h1; clear hown hgr))
  go_loopw [3, 20] (fun v i wr => ∃ k : Nat, i = .int .i64 k ∧ k ≤ ws.length ∧ wr.ownsRow w.heap.size 3 1 v (below ws (k * 64)).length (nums (below ws (k * 64))) ∧ Fr [] w wr) (fun _ i _ => ws.length - (intOf i).toNat)
  case atStart => exact ⟨0, rfl, Nat.zero_le _, HO.out, HG.out⟩
  case round =>
    obtain ⟨k, rfl, hk, hown, hfr⟩ := hrel
    have HO2 := hide hown
    have HF := hide hfr
    clear hown hfr
    by_cases hlt : k < ws.length
    · have hlt' : (k : Int) < (ws.length : Int) := by omega
      have hw := (HF.out.cell (p := ⟨bw, k, none⟩) H.out.row.lt (by simp)).trans (H.out.cw hlt)
      have HI := hide (list_start H.out.ok k)
      generalize ws.getD k 0 = x at *
      go_wp2_with fail
      obtain ⟨wo, rfl⟩ : ∃ wo : World, wo = wr := ⟨_, rfl⟩
      go_loopw [3, 5] (fun v y w2 => ∃ X p : Nat, y = .int .u64 X ∧ ListInv ws k X p ∧ w2.ownsRow w.heap.size 3 1 v (below ws (k * 64 + p)).length (nums (below ws (k * 64 + p))) ∧ Fr [] w w2) (fun _ y _ => (intOf y).toNat)
      case atStart => exact ⟨x, 0, rfl, HI.out, HO2.out, HF.out⟩
      case round =>
        obtain ⟨X, p, rfl, hinv, hown2, hfr2⟩ := hrel
        have HV := hide hinv
        have HO3 := hide hown2
        have HF2 := hide hfr2
        have hX := hinv.2.1
        clear hown2 hfr2 hinv
        by_cases hx0 : X = 0
        · subst hx0
          have HD := hide (list_done HV.out)
          go_wp2_with fail
          go_roundw
          case rel => exact ⟨k + 1, by go_num, by omega, by rw [← HD.out]; exact HO3.out, HF2.out⟩
          case measure => simp [intOf]; omega
        · have hx0' : ((X : Int) == 0) = false := by rw [beq_eq_false_iff_ne]; omega
          have hx1 : 0 < X := by omega
          have hc : Lib.ctz 64 X < 64 := (ctz_low X hx1 hX).1
          obtain ⟨s1, s2, s3⟩ := list_step HV.out hx1
          have S1 := hide s1
          have S2 := hide s2
          have ht := hide (tz_any X hX hx1 _ (HT.out.fr HF2.out (by simp)))
          have eX : bits BinOp.and IntKind.u64 (X : Int) ((X : Int) - 1) = ((X &&& (X - 1) : Nat) : Int) := by
            have := u64_and_nat X (X - 1) hX (by omega)
            rw [show ((X - 1 : Nat) : Int) = (X : Int) - 1 by omega] at this
            exact this
          have hbl := below_le ws (k * 64 + p)
          have hp := HV.out.1
          clear hx0 s1 s2
          generalize X &&& (X - 1) = Y at *
          generalize Lib.ctz 64 X = c at *
          go_wp2_with (first | (go_at_call 38; refine (ht.out).mono ?_; rintro e w' ⟨rfl, rfl⟩) | (at_builtin; refine wpList_append_own _ rfl _ _ 45 rfl w.heap.size 3 i0 (.int .i64 0) 1 8 Tryd.underlying45 hi hz0 hz1 hz2 rfl (by decide) _ _ _ rfl (HO3.out.alloc _) ⟨_, 0, none⟩ 1 1 [.int .i64 ((k : Int) * 64 + c)] rfl rfl (one_at _ _ _) ?c2 ?c3 ?c4 ?c5 ?_))
          case c2 => intro u hu; simp at hu; subst hu; rfl
          case c3 => unfold maxLen; omega
          case c4 => omega
          case c5 => have := HF2.out.size; simp; omega
          intro v' w3 hown3 hgr3 _
          have HO4 : Hid (w3.ownsRow w.heap.size 3 1 v' (below ws (k * 64 + (c + 1))).length (nums (below ws (k * 64 + (c + 1))))) := by
            rw [S2.out, nums_app, List.length_append]; exact hown3
          have HF3 : Hid (Fr [] w w3) := own_grown (HF2.out.alloc _) HO3.out hgr3
          clear hown3 hgr3
          go_wp2
          go_roundw
          case rel => exact ⟨Y, c + 1, rfl, S1.out, HO4.out, HF3.out⟩
          case measure => simp [intOf]; omega
    · have hke : k = ws.length := by omega
      subst hke
      have e := hfin.out
      go_wp2_with fail
      go_ret
      exact ⟨_, rfl, by rw [← e]; exact HO2.out, HF.out⟩
end Go.Proofs.YtbaccleaakmenaaDoor
