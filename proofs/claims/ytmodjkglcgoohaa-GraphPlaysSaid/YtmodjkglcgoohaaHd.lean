/- gleanerref13: step, the operations 2 to 8 and 13. -/
import Derived.Test.YtmodjkglcgoohaaHc
import Derived.Deep.CutRange
import Derived.WalkKit
import Derived.BigQuiet
namespace Go.Proofs.Ytmodjkglcgoohaa
set_option linter.unusedVariables false
set_option linter.unusedSimpArgs false
open Go.RowKit Go.Gl
section
variable {w w' : World} {tg tg' : TG} {F : List Nat} {Λ : ML} {T B M : Nat} {σ : GS} {t : Nat}
set_option maxRecDepth 100000 in
set_option maxHeartbeats 3200000 in
theorem mstep_2 (h : MG w tg Λ T T B M σ) (ok : GOk T B σ) (hd : GDim T B M) (ht : t < T) (a b c v : Int) {ab : Nat} {th dn : Int} (hab : Blk w ab 34 (ansC th dn ⟨0, 0, false⟩)) (htg : (tg ab).1 = 0) :
    Calls Try.prog 22 #[.pointer (some ⟨Λ.m, 0, none⟩), .pointer (some ⟨Λ.S t, 0, none⟩), opV ⟨2, a, b, c, v⟩, .pointer (some ⟨ab, 0, none⟩)] w (MActPost w tg Λ.m T B M (loadS B σ t a b) ab th dn ⟨loadE B σ t a b, 0, false⟩) := by
  have hf1 : Fr [] w (w.alloc (.cells #[.int .i64 2, .int .i64 a, .int .i64 b, .int .i64 c, .int .u64 v] 38)) := (Fr.refl _ _).alloc _
  obtain ⟨w1, hw1⟩ : ∃ w1, w1 = w.alloc (.cells #[.int .i64 2, .int .i64 a, .int .i64 b, .int .i64 c, .int .u64 v] 38) := ⟨_, rfl⟩
  have hbo : Blk w1 w.heap.size 38 #[.int .i64 2, .int .i64 a, .int .i64 b, .int .i64 c, .int .u64 v] := by rw [hw1]; exact Blk.new _ _ _
  rw [← hw1] at hf1
  have hp1 := h.fr0 hf1
  have HW1 := hide hw1
  have HF1 := hide hf1
  have HAB := hide hab
  have HTG := hide htg
  have HM := hide hp1.at
  have e0 : w1.cell? ⟨w.heap.size, 0, none⟩ = some (.int .i64 2) := by rw [hbo.cell]; rfl
  have e1 : w1.cell? ⟨w.heap.size, 1, none⟩ = some (.int .i64 a) := by rw [hbo.cell]; rfl
  have e2 : w1.cell? ⟨w.heap.size, 2, none⟩ = some (.int .i64 b) := by rw [hbo.cell]; rfl
  have e3 : w1.cell? ⟨w.heap.size, 3, none⟩ = some (.int .i64 c) := by rw [hbo.cell]; rfl
  have e4 : w1.cell? ⟨w.heap.size, 4, none⟩ = some (.int .u64 v) := by rw [hbo.cell]; rfl
  have NO : w.heap.size < w1.heap.size := lt_of_cell e0
  unfold opV
  clear hw1 hf1 hab htg h hbo
  have HA := hide (mobject_any hp1 ok ht a)
  unfold loadE loadS
  by_cases h0 : objE σ t a = 0
  · have hat := ok.at t a
    have hne := (objE_0.1 h0).2
    obtain ⟨o, oc, k, q1, q2, q3, q4, q5, cr, cd⟩ := hp1.ob (r := hkAt (σ.st t) a) (by omega) hat.2
    obtain ⟨A, rc, hv, hs⟩ := (hp1.refs _ (by omega) hat.2).sl
    rw [hv] at cr
    rw [kids_len] at hs cr
    have hnp := ok.np (hkAt (σ.st t) a)
    rw [h0, q4] at HA
    rw [if_neg (show ¬ (objE σ t a ≠ 0) from fun hx => hx h0)]
    rcases fieldIn_ways (σ.np (hkAt (σ.st t) a)) b with ⟨k1, k2⟩ | ⟨k1, k3, k2⟩ | ⟨k1, k3, k2⟩
    · rw [if_neg k2, if_neg (fun hx => k2 hx.2)]
      generalize σ.np (hkAt (σ.st t) a) = n at *
      clear hp1 hs k2 h0 hat hne q1 q2 q3 q4 hv cd ok hd ht
      go_enter Try.func22, Try.ntmps22
      go_upto_region 1 with fail
      rw [← HW1.out]
      go_wp2_with fail
      refine HA.out.mono ?_
      rintro e w' ⟨rfl, rfl⟩
      go_wp2_with fail
      go_quiet (fail)
      go_wp2_with fail
      go_ret
      exact MActPost.of0 HF1.out (GFr.refl _ _) HM.out HAB.out HTG.out ((Fr.refl _ _).drewN _)
    · rw [if_neg k2, if_neg (fun hx => k2 hx.2)]
      have k0 : ¬ b < 0 := by omega
      generalize σ.np (hkAt (σ.st t) a) = n at *
      clear hp1 hs k2 h0 hat hne q1 q2 q3 q4 hv cd ok hd ht
      go_enter Try.func22, Try.ntmps22
      go_upto_region 1 with fail
      rw [← HW1.out]
      go_wp2_with fail
      refine HA.out.mono ?_
      rintro e w' ⟨rfl, rfl⟩
      go_wp2_with fail
      go_quiet (fail)
      go_wp2_with fail
      go_ret
      exact MActPost.of0 HF1.out (GFr.refl _ _) HM.out HAB.out HTG.out ((Fr.refl _ _).drewN _)
    · rw [if_pos k2, if_pos ⟨h0, k2⟩]
      obtain ⟨j, rfl⟩ := Int.eq_ofNat_of_zero_le k1
      obtain ⟨g, off, rfl, hg, hcs⟩ := hs (by omega)
      have cj : w1.cell? ⟨g, off + j, none⟩ = some (.int .u64 (σ.ref (hkAt (σ.st t) a) (j : Int))) := by
        have := hcs j (by omega)
        dsimp only at this
        rwa [kids_get σ _ (by omega)] at this
      have HP : Hid (∀ w', Fr [] w1 w' → Calls Try.prog 42 #[.pointer (some ⟨Λ.S t, 0, none⟩), .int .u64 (σ.ref (hkAt (σ.st t) a) (j : Int))] w' (MSt w' tg Λ T T B M (σ.push B t (σ.ref (hkAt (σ.st t) a) (j : Int))) (.int .i64 (hkPushE B (σ.st t))))) := fun w' hf => mpush_any (hp1.fr0 hf) ok hd (by assumption) _
      have k0 : ¬ (j : Int) < 0 := by omega
      have hgs := hg
      generalize σ.push B t _ = σ' at *
      generalize σ.ref (hkAt (σ.st t) a) (j : Int) = y at *
      generalize σ.np (hkAt (σ.st t) a) = n at *
      generalize hkPushE B (σ.st t) = E at *
      clear hp1 hs hcs k2 h0 hat hne q1 q2 q3 q4 hv cd ok hd ht HM
      go_enter Try.func22, Try.ntmps22
      go_upto_region 1 with fail
      rw [← HW1.out]
      go_wp2_with fail
      refine HA.out.mono ?_
      rintro e w' ⟨rfl, rfl⟩
      go_wp2_with fail
      go_quiet (fail)
      go_wp2_with fail
      refine region_tail 9 (by kernel_rfl) (by kernel_rfl) ?_
      simp only [List.take_succ_cons, List.take_zero, List.drop_succ_cons, List.drop_zero]
      repeat still_step
      refine wpStill_nil ?_
      go_wp2_with fail
      refine (HP.out _ (((Fr.refl _ _).drewN _).drew)).mono ?_
      rintro e w2 ⟨rfl, tg2, hp2, hg2⟩
      have HP2 := hide hp2.at
      have HG2 := hide hg2
      clear hp2 hg2
      go_wp2_with fail
      go_ret
      exact MActPost.of0 HF1.out ((GFr.fr0 (((Fr.refl _ _).drewN _).drew)).trans HG2.out) HP2.out HAB.out HTG.out (Fr.refl _ _)
  · rw [if_pos h0, if_neg (fun hx => h0 hx.1)]
    rw [objE_bad h0, obP_0] at HA
    have hne : (objE σ t a != 0) = true := by simpa using h0
    generalize objE σ t a = E at *
    clear hp1 h0 ok hd ht
    go_enter Try.func22, Try.ntmps22
    go_upto_region 1 with fail
    rw [← HW1.out]
    go_wp2_with fail
    refine HA.out.mono ?_
    rintro e w' ⟨rfl, rfl⟩
    go_wp2_with fail
    go_ret
    exact MActPost.of0 HF1.out (GFr.refl _ _) HM.out HAB.out HTG.out (Fr.refl _ _)
end
end Go.Proofs.Ytmodjkglcgoohaa
