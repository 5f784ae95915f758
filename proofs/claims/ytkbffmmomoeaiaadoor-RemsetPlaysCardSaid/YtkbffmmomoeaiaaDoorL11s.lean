/- The statements of layer 11: one call on both sets. -/
import Derived.Test.YtkbffmmomoeaiaaDoorL11m
namespace Go.Proofs.YtkbffmmomoeaiaaDoor
set_option linter.unusedVariables false
set_option linter.unusedSimpArgs false
open Go.RowKit Go.Gl

set_option maxRecDepth 100000 in
set_option maxHeartbeats 3200000 in
theorem step11_any {P : List Nat} {W w : World} {sb mb per n : Nat} {σ : RS} (h : Both P W w sb mb per n σ σ) (K A B : Int) (wA : (Lit.int .i64 A).wf = true) (wB : (Lit.int .i64 B).wf = true) :
    Calls Tryd.prog 10 #[.pointer (some ⟨sb, 0, none⟩), .pointer (some ⟨mb, 0, none⟩), .agg #[.int .i64 K, .int .i64 A, .int .i64 B]] w (StepPost P W sb mb per n w) := by
  obtain ⟨q, q1, q2, q3, q4⟩ := mod7_of K
  have H1 := hide (h.box (.cells #[.int .i64 K, .int .i64 A, .int .i64 B] 36))
  have HXB : Hid (Blk (w.alloc (.cells #[.int .i64 K, .int .i64 A, .int .i64 B] 36)) w.heap.size 36 #[.int .i64 K, .int .i64 A, .int .i64 B]) := Blk.new _ _ _
  have HF1 : Hid (Fr [] w (w.alloc (.cells #[.int .i64 K, .int .i64 A, .int .i64 B] 36))) := (Fr.refl _ _).alloc _
  have HPl : Hid (∀ g, g ∈ P → g < w.heap.size) := fun g hg => by
    obtain ⟨_, _, _, _, _, _, _, _, h6⟩ := h
    exact (h6 g hg).1
  clear h
  rcases (show q = 4 ∨ q = 5 ∨ q = 6 ∨ (¬ q = 4 ∧ ¬ q = 5 ∧ ¬ q = 6) by omega) with rfl | rfl | rfl | ⟨n4, n5, n6⟩
  · have HS : Hid (∀ w' τ, Both (w.heap.size :: P) W w' sb mb per n σ τ → Calls Tryd.prog 17 #[.pointer (some ⟨sb, 0, none⟩), .int .i64 A] w' (CallB (w.heap.size :: P) W sb mb per n (.int .i64 (clearR σ n A).1) (clearR σ n A).2 τ w')) := fun w' τ hb => hb.s fun tg ht => ht.clearI A
    have HM : Hid (∀ w' τ, Both (w.heap.size :: P) W w' sb mb per n τ σ → Calls Tryd.prog 22 #[.pointer (some ⟨mb, 0, none⟩), .int .i64 A] w' (CallB (w.heap.size :: P) W sb mb per n (.int .i64 (clearR σ n A).1) τ (clearR σ n A).2 w')) := fun w' τ hb => hb.m fun tg ht => ht.clearI A
    generalize (clearR σ n A).1 = C at *
    generalize (clearR σ n A).2 = σ' at *
    go_enter Tryd.func10, Tryd.ntmps10
    go_wp2_with fail
    generalize w.alloc (.cells #[.int .i64 K, .int .i64 A, .int .i64 B] 36) = w1 at *
    obtain ⟨xb, hxb⟩ : ∃ xb, w.heap.size = xb := ⟨_, rfl⟩
    rw [hxb] at H1 HXB HS HM HPl ⊢
    clear hxb
    have X1 : w1.cell? ⟨xb, 1, none⟩ = some (.int .i64 A) := by rw [HXB.out.cell]; rfl
    have XL : xb < w1.heap.size := HXB.out.lt
    go_wp2_with fail
    go_region_held3 (fun w' => w'.cell? ⟨xb, 1, none⟩ = some (.int .i64 A))
      (first | exact X1 | exact X3 | exact X4 | go_keep)
      (first | (go_at_call 17; refine (HS.out _ _ (H1.out.fr0 ((Fr.refl _ _).drew))).mono ?_; rintro e w3 ⟨rfl, hb3, F3, hf3, hg3⟩; have HB3 := hide hb3; have HF3 := hide hf3.from_drew; have HG3 := hide hg3; have X3 := (HF3.out.cell (p := ⟨xb, 1, none⟩) XL (HG3.out xb (by simp))).trans X1; clear hb3 hf3 hg3) | (go_at_call 22; refine (HM.out _ _ HB3.out).mono ?_; rintro e w4 ⟨rfl, hb4, F4, hf4, hg4⟩; have HB4 := hide hb4; have HF4 := hide hf4; have HG4 := hide hg4; have X4 := (HF4.out.cell (p := ⟨xb, 1, none⟩) (lt_of_cell X3) (HG4.out xb (by simp))).trans X3; clear hb4 hf4 hg4))
    go_wp2_with fail
    go_ret
    exact ⟨by first | rfl | simp, ⟨σ', HB4.out.less fun g hg => by simp [hg]⟩, F3 ++ F4, ((HF1.out.mono (G := F3) (fun x hx => by cases hx)).trans_same HF3.out).mono (G := F3 ++ F4) (fun x hx => .inl (by simp [hx])) |>.trans HF4.out (fun x hx => .inl (by simp [hx])), fun g hg => by
      have h1 := HG3.out g (by simp [hg])
      have h2 := HG4.out g (by simp [hg])
      simp [h1, h2]⟩
  · have HS : Hid (∀ w' τ, Both (w.heap.size :: P) W w' sb mb per n σ τ → Calls Tryd.prog 18 #[.pointer (some ⟨sb, 0, none⟩), .int .i64 A] w' (CallB (w.heap.size :: P) W sb mb per n (.int .i64 (scrubR σ per n A).1) (scrubR σ per n A).2 τ w')) := fun w' τ hb => hb.s fun tg ht => ht.scrubI A
    have HM : Hid (∀ w' τ, Both (w.heap.size :: P) W w' sb mb per n τ σ → Calls Tryd.prog 23 #[.pointer (some ⟨mb, 0, none⟩), .int .i64 A] w' (CallB (w.heap.size :: P) W sb mb per n (.int .i64 (scrubR σ per n A).1) τ (scrubR σ per n A).2 w')) := fun w' τ hb => hb.m fun tg ht => ht.scrubI A
    generalize (scrubR σ per n A).1 = C at *
    generalize (scrubR σ per n A).2 = σ' at *
    go_enter Tryd.func10, Tryd.ntmps10
    go_wp2_with fail
    generalize w.alloc (.cells #[.int .i64 K, .int .i64 A, .int .i64 B] 36) = w1 at *
    obtain ⟨xb, hxb⟩ : ∃ xb, w.heap.size = xb := ⟨_, rfl⟩
    rw [hxb] at H1 HXB HS HM HPl ⊢
    clear hxb
    have X1 : w1.cell? ⟨xb, 1, none⟩ = some (.int .i64 A) := by rw [HXB.out.cell]; rfl
    have XL : xb < w1.heap.size := HXB.out.lt
    go_wp2_with fail
    go_region_held3 (fun w' => w'.cell? ⟨xb, 1, none⟩ = some (.int .i64 A))
      (first | exact X1 | exact X3 | exact X4 | go_keep)
      (first | (go_at_call 18; refine (HS.out _ _ (H1.out.fr0 ((Fr.refl _ _).drew))).mono ?_; rintro e w3 ⟨rfl, hb3, F3, hf3, hg3⟩; have HB3 := hide hb3; have HF3 := hide hf3.from_drew; have HG3 := hide hg3; have X3 := (HF3.out.cell (p := ⟨xb, 1, none⟩) XL (HG3.out xb (by simp))).trans X1; clear hb3 hf3 hg3) | (go_at_call 23; refine (HM.out _ _ HB3.out).mono ?_; rintro e w4 ⟨rfl, hb4, F4, hf4, hg4⟩; have HB4 := hide hb4; have HF4 := hide hf4; have HG4 := hide hg4; have X4 := (HF4.out.cell (p := ⟨xb, 1, none⟩) (lt_of_cell X3) (HG4.out xb (by simp))).trans X3; clear hb4 hf4 hg4))
    go_wp2_with fail
    go_ret
    exact ⟨by first | rfl | simp, ⟨σ', HB4.out.less fun g hg => by simp [hg]⟩, F3 ++ F4, ((HF1.out.mono (G := F3) (fun x hx => by cases hx)).trans_same HF3.out).mono (G := F3 ++ F4) (fun x hx => .inl (by simp [hx])) |>.trans HF4.out (fun x hx => .inl (by simp [hx])), fun g hg => by
      have h1 := HG3.out g (by simp [hg])
      have h2 := HG4.out g (by simp [hg])
      simp [h1, h2]⟩
  · have HWS := hide (fun w' hf => (H1.out.fr0 (w' := w') hf).sat)
    have HWM := hide (fun w' hf => (H1.out.fr0 (w' := w') hf).mat)
    go_enter Tryd.func10, Tryd.ntmps10
    go_wp2_with fail
    generalize w.alloc (.cells #[.int .i64 K, .int .i64 A, .int .i64 B] 36) = w1 at *
    obtain ⟨xb, hxb⟩ : ∃ xb, w.heap.size = xb := ⟨_, rfl⟩
    rw [hxb] at H1 HXB HPl ⊢
    clear hxb
    have T1 : Hid (∀ u : Cls (Fr [] w1), Calls Tryd.prog 14 #[.pointer (some ⟨sb, 0, none⟩), .int .i64 A, .int .i64 B] u.w fun e w' => e = .returned (.int .i64 (wayI σ A B : Int)) ∧ Fr [] u.w w') := fun u => by
      obtain ⟨tg, hs⟩ := HWS.out u.w u.ok
      exact (hs.way A B wA wB).mono fun e w' ⟨h1, h2⟩ => ⟨h1, h2 ▸ Fr.refl _ _⟩
    have T2 : Hid (∀ u : Cls (Fr [] w1), Calls Tryd.prog 15 #[.pointer (some ⟨mb, 0, none⟩), .int .i64 A, .int .i64 B] u.w fun e w' => e = .returned (.int .i64 (wayI σ A B : Int)) ∧ Fr [] u.w w') := fun u => by
      obtain ⟨tg, hs⟩ := HWM.out u.w u.ok
      exact (hs.way A B).mono fun e w' ⟨h1, k, h2⟩ => ⟨h1, h2 ▸ (Fr.refl _ _).drewN k⟩
    have T3 : Hid (∀ u : Cls (Fr [] w1), Calls Tryd.prog 20 #[.pointer (some ⟨sb, 0, none⟩), .int .i64 A, .int .i64 B] u.w fun e w' => e = .returned (.bool (hasI σ per n A B)) ∧ Fr [] u.w w') := fun u => by
      obtain ⟨tg, hs⟩ := HWS.out u.w u.ok
      exact hs.has A B wA
    have T4 : Hid (∀ u : Cls (Fr [] w1), Calls Tryd.prog 24 #[.pointer (some ⟨mb, 0, none⟩), .int .i64 A, .int .i64 B] u.w fun e w' => e = .returned (.bool (hasI σ per n A B)) ∧ Fr [] u.w w') := fun u => by
      obtain ⟨tg, hs⟩ := HWM.out u.w u.ok
      exact (hs.has A B).mono fun e w' ⟨h1, k, h2⟩ => ⟨h1, h2 ▸ (Fr.refl _ _).drewN k⟩
    have X1 : ∀ u : Cls (Fr [] w1), u.w.cell? ⟨xb, 1, none⟩ = some (.int .i64 A) := fun u => u.cell (by rw [HXB.out.cell]; rfl) (by simp)
    have X2 : ∀ u : Cls (Fr [] w1), u.w.cell? ⟨xb, 2, none⟩ = some (.int .i64 B) := fun u => u.cell (by rw [HXB.out.cell]; rfl) (by simp)
    have Y0 : w1.cell? ⟨xb, 0, none⟩ = some (.int .i64 K) := by rw [HXB.out.cell]; rfl
    have hww : ((wayI σ A B : Int) == (wayI σ A B : Int)) = true := by simp
    have hhh : (hasI σ per n A B == hasI σ per n A B) = true := by simp
    generalize (wayI σ A B : Int) = VW at *
    generalize hasI σ per n A B = VH at *
    go_wp2_with fail
    refine wp_region_cls (Fr [] w1) (by kernel_rfl) (by kernel_rfl) (Fr.refl _ _).drew ?_
    repeat (go_big_quiet_step (first | (go_at_call 14; exact Cls.grow (T1.out _)) | (go_at_call 15; exact Cls.grow (T2.out _)) | (go_at_call 20; exact Cls.grow (T3.out _)) | (go_at_call 24; exact Cls.grow (T4.out _))))
    refine wpQuiet_nil ?_
    rintro _ ⟨u, rfl⟩
    go_wp2_with fail
    go_ret
    exact ⟨by first | rfl | simp, ⟨σ, (H1.out.fr0 u.ok).less fun g hg => by simp [hg]⟩, [], HF1.out.trans_same u.ok, fun g hg => by simp⟩
  · have HS : Hid (∀ w' τ, Both (w.heap.size :: P) W w' sb mb per n σ τ → Calls Tryd.prog 19 #[.pointer (some ⟨sb, 0, none⟩), .int .i64 A, .int .i64 B] w' (CallB (w.heap.size :: P) W sb mb per n (.tuple #[.bool (addR σ per n A B).1, .int .i64 (addR σ per n A B).2.1]) (addR σ per n A B).2.2 τ w')) := fun w' τ hb => hb.s fun tg ht => ht.add A B
    have HM : Hid (∀ w' τ, Both (w.heap.size :: P) W w' sb mb per n τ σ → Calls Tryd.prog 25 #[.pointer (some ⟨mb, 0, none⟩), .int .i64 A, .int .i64 B] w' (CallB (w.heap.size :: P) W sb mb per n (.tuple #[.bool (addR σ per n A B).1, .int .i64 (addR σ per n A B).2.1]) τ (addR σ per n A B).2.2 w')) := fun w' τ hb => hb.m fun tg ht => ht.add A B
    generalize (addR σ per n A B).1 = C1 at *
    generalize (addR σ per n A B).2.1 = C2 at *
    generalize (addR σ per n A B).2.2 = σ' at *
    have e4 : ((q : Int) == 4) = false := by rw [beq_eq_false_iff_ne]; omega
    have e5 : ((q : Int) == 5) = false := by rw [beq_eq_false_iff_ne]; omega
    have e6 : ((q : Int) == 6) = false := by rw [beq_eq_false_iff_ne]; omega
    have e4' : ¬ (q : Int) = 4 := by omega
    have e5' : ¬ (q : Int) = 5 := by omega
    have e6' : ¬ (q : Int) = 6 := by omega
    clear n4 n5 n6
    go_enter Tryd.func10, Tryd.ntmps10
    go_wp2_with fail
    refine (HS.out _ _ H1.out).mono ?_
    rintro e w3 ⟨rfl, hb3, F3, hf3, hg3⟩
    have HB3 := hide hb3
    have HF3 := hide hf3
    have HG3 := hide hg3
    have X0 := (hf3.cell (p := ⟨w.heap.size, 0, none⟩) HXB.out.lt (hg3 w.heap.size (by simp))).trans (by rw [HXB.out.cell]; rfl : _ = some (.int .i64 K))
    have X1 := (hf3.cell (p := ⟨w.heap.size, 1, none⟩) HXB.out.lt (hg3 w.heap.size (by simp))).trans (by rw [HXB.out.cell]; rfl : _ = some (.int .i64 A))
    have X2 := (hf3.cell (p := ⟨w.heap.size, 2, none⟩) HXB.out.lt (hg3 w.heap.size (by simp))).trans (by rw [HXB.out.cell]; rfl : _ = some (.int .i64 B))
    clear hb3 hf3 hg3
    go_wp2_with fail
    refine (HM.out _ _ HB3.out).mono ?_
    rintro e w4 ⟨rfl, hb4, F4, hf4, hg4⟩
    have HB4 := hide hb4
    have HF4 := hide hf4
    have HG4 := hide hg4
    clear hb4 hf4 hg4 X0 X1 X2
    go_wp2_with fail
    go_ret
    exact ⟨by first | rfl | simp, ⟨σ', HB4.out.less fun g hg => by simp [hg]⟩, F3 ++ F4, ((HF1.out.mono (G := F3) (fun x hx => by cases hx)).trans_same HF3.out).mono (G := F3 ++ F4) (fun x hx => .inl (by simp [hx])) |>.trans HF4.out (fun x hx => .inl (by simp [hx])), fun g hg => by
      have h1 := HG3.out g (by simp [hg])
      have h2 := HG4.out g (by simp [hg])
      simp [h1, h2]⟩
end Go.Proofs.YtkbffmmomoeaiaaDoor
