/- The statements of layer 10: the questions that each of them asks first. -/
import Derived.Test.YtdiedfnlmkokhaaQw
namespace Go.Proofs.Ytdiedfnlmkokhaa
set_option linter.unusedVariables false
open Go.RowKit Go.Gl

theorem pushO_at (O : Nat → List Int) (t : Nat) (x : Int) : pushO O t x t = if (O t).length < 3 then O t ++ [x] else [] := by
  unfold pushO
  by_cases h : (O t).length < 3
  · rw [if_pos h, if_pos h, putF_at]
  · rw [if_neg h, if_neg h, putF_at]
theorem pushO_ne (O : Nat → List Int) {t i : Nat} (x : Int) (h : i ≠ t) : pushO O t x i = O i := by
  unfold pushO
  by_cases h3 : (O t).length < 3
  · rw [if_pos h3, putF_ne _ _ h]
  · rw [if_neg h3, putF_ne _ _ h]
theorem QOk.new {n B : Nat} (h1 : 1 ≤ n) (h2 : n ≤ 64) (h3 : B ≤ 65536) : QOk n B [] (fun _ => []) := ⟨h1, h2, h3, Nat.zero_le _, fun _ _ => Nat.zero_le _⟩
theorem QOk.pop {n B : Nat} {x : Int} {C : List Int} {O : Nat → List Int} (h : QOk n B (x :: C) O) : QOk n B C O := ⟨h.n1, h.n2, h.b, by have := h.c; rw [List.length_cons] at this; omega, h.o⟩
/-- What is new lies apart from what was there. -/
theorem later {w : World} {F F' : List Nat} {P : Nat → Prop} (h : ∀ x, x ∈ F → P x) (hn : ∀ x, x ∈ F' → x ∈ F ∨ w.heap.size ≤ x) (hp : ∀ x, w.heap.size ≤ x → P x) : ∀ x, x ∈ F' → P x := fun x hx => by
  rcases hn x hx with h1 | h1
  · exact h x h1
  · exact hp x h1
theorem Fr.within {W w w' : World} {F : List Nat} (h : Fr [] W w) (hf : Fr F w w') (hF : ∀ x, x ∈ F → W.heap.size ≤ x) : Fr [] W w' := h.trans hf fun x hx => .inr (hF x hx)

set_option maxRecDepth 100000 in
set_option maxHeartbeats 3200000 in
theorem awake10_any (W : World) : Calls Try.prog 6 #[] W fun e w' => e = .returned (.bool true) ∧ Fr [] W w' := by
  have B1 : Hid (∀ w : World, Calls Try.prog 7 #[.int .i64 2, .int .i64 3] w (QNew 2 3 w)) := fun w => qnew_ok 2 3 (by decide) (by decide) (by decide) w
  go_enter Try.func6, Try.ntmps6
  go_wp2_with fail
  refine (B1.out _).mono ?_
  rintro e w1 ⟨q, F, rfl, hq, hf, hF⟩
  have HQ := hide hq
  have HF := hide hf
  have HP := hide hF
  clear hq hf hF B1
  go_wp2_with fail
  go_loopw [3] (fun i wr => ∃ (k : Nat) (O : Nat → List Int) (F : List Nat), i = .int .i64 k ∧ 5 ≤ k ∧ k ≤ 8 ∧ Qq wr q F 2 3 [] O ∧ QOk 2 3 [] O ∧ O 0 = ([5, 6, 7] : List Int).take (k - 5) ∧ O 1 = [] ∧ Fr [] W wr ∧ ∀ x, x ∈ F → W.heap.size ≤ x) (fun i _ => 8 - (intOf i).toNat)
  case atStart => exact ⟨5, _, _, rfl, by decide, by decide, HQ.out, QOk.new (by decide) (by decide) (by decide), rfl, rfl, HF.out, HP.out⟩
  case round =>
    obtain ⟨k, O, F, rfl, hk5, hk, hq, hok, ho0, ho1, hf, hp⟩ := hrel
    have HQ := hide hq
    have HK := hide hok
    have HO := hide (show O 0 = ([5, 6, 7] : List Int).take (k - 5) ∧ O 1 = [] from ⟨ho0, ho1⟩)
    have HF := hide hf
    have HP := hide hp
    clear hq hok ho0 ho1 hf hp
    by_cases hlt : k < 8
    · have hlt1 : (k : Int) < 8 := by omega
      have T1 : Hid (Calls Try.prog 14 #[.pointer (some ⟨q, 0, none⟩), .int .i64 0, .int .i64 (k : Int)] wr (QRes wr F (fun w' F' => Qq w' q F' 2 3 (pushC 3 [] O 0 k) (pushO O 0 k)) (pushV 3 [] O 0 k) 0)) := qpush_in HQ.out HK.out 0 (by decide) k (by omega)
      have HL : Hid ((O 0).length = k - 5) := by show _ = _; rw [HO.out.1, List.length_take]; simp; omega
      have E1 : Hid (pushC 3 [] O 0 k = [] ∧ pushO O 0 k 0 = ([5, 6, 7] : List Int).take (k + 1 - 5) ∧ pushO O 0 k 1 = []) := by
        refine ⟨?_, ?_, ?_⟩
        · unfold pushC
          rw [if_pos (by rw [HL.out]; omega)]
        · rw [pushO_at, if_pos (by rw [HL.out]; omega), HO.out.1]
          obtain rfl | rfl | rfl : k = 5 ∨ k = 6 ∨ k = 7 := by omega
          all_goals rfl
        · rw [pushO_ne _ _ (by decide)]; exact HO.out.2
      have HK1 : Hid (QOk 2 3 (pushC 3 [] O 0 k) (pushO O 0 k)) := HK.out.push (by decide) k
      rw [E1.out.1] at T1 HK1
      go_wp2_with fail
      refine T1.out.mono ?_
      rintro e w2 ⟨F2, A2, c2, G2, rfl, hq, hl, hf, hn, hg⟩
      have HQ2 := hide hq
      have HF2 := hide (Fr.within HF.out hf HP.out)
      have HP2 := hide (later HP.out hn (P := fun x => W.heap.size ≤ x) (fun x hx => Nat.le_trans HF.out.size hx))
      clear hq hl hf hn hg T1
      go_wp2_with fail
      go_roundw
      case rel => exact ⟨k + 1, _, F2, by go_num, by omega, by omega, HQ2.out, HK1.out, E1.out.2.1, E1.out.2.2, HF2.out, HP2.out⟩
      case measure => simp [intOf]; omega
    · obtain rfl : k = 8 := by omega
      have T1 : Hid (Calls Try.prog 14 #[.pointer (some ⟨q, 0, none⟩), .int .i64 1, .int .i64 9] wr (QRes wr F (fun w' F' => Qq w' q F' 2 3 (pushC 3 [] O 1 9) (pushO O 1 9)) (pushV 3 [] O 1 9) 0)) := qpush_in HQ.out HK.out 1 (by decide) 9 (by decide)
      have HK1 : Hid (QOk 2 3 (pushC 3 [] O 1 9) (pushO O 1 9)) := HK.out.push (by decide) 9
      have E1 : Hid (pushC 3 [] O 1 9 = [] ∧ pushO O 1 9 0 = [5, 6, 7] ∧ pushO O 1 9 1 = [9]) := by
        refine ⟨?_, ?_, ?_⟩
        · unfold pushC
          rw [HO.out.2]; rfl
        · rw [pushO_ne _ _ (by decide)]; exact HO.out.1
        · rw [pushO_at, HO.out.2]; rfl
      rw [E1.out.1] at T1 HK1
      generalize pushO O 1 9 = O2 at *
      go_wp2_with fail
      refine T1.out.mono ?_
      rintro e w2 ⟨F2, A2, c2, G2, rfl, hq, hl, hf, hn, hg⟩
      have HQ2 := hide hq
      have HF2 := hide (Fr.within HF.out hf HP.out)
      have HP2 := hide (later HP.out hn (P := fun x => W.heap.size ≤ x) (fun x hx => Nat.le_trans HF.out.size hx))
      clear hq hl hf hn hg T1
      have T2 : Hid (Calls Try.prog 14 #[.pointer (some ⟨q, 0, none⟩), .int .i64 0, .int .i64 8] w2 (QRes w2 F2 (fun w' F' => Qq w' q F' 2 3 (pushC 3 [] O2 0 8) (pushO O2 0 8)) (pushV 3 [] O2 0 8) 0)) := qpush_in HQ2.out HK1.out 0 (by decide) 8 (by decide)
      have HK2 : Hid (QOk 2 3 (pushC 3 [] O2 0 8) (pushO O2 0 8)) := HK1.out.push (by decide) 8
      have E2 : Hid (pushC 3 [] O2 0 8 = [5, 6, 7] ∧ pushV 3 [] O2 0 8 = [8] ∧ catL (pushO O2 0 8) 2 = [9]) := by
        refine ⟨?_, ?_, ?_⟩
        · unfold pushC
          rw [E1.out.2.1]; rfl
        · unfold pushV
          rw [E1.out.2.1]; rfl
        · simp only [catL]
          rw [pushO_at, pushO_ne _ _ (by decide), E1.out.2.1, E1.out.2.2]; rfl
      rw [E2.out.1, E2.out.2.1] at T2
      rw [E2.out.1] at HK2
      go_wp2_with fail
      refine T2.out.mono ?_
      rintro e w3 ⟨F3, A3, c3, G3, rfl, hq, hl, hf, hn, hg⟩
      obtain ⟨g3, o3, rfl, _, _, h3, _⟩ := hl.pos (by decide)
      have l0 : w3.cell? ⟨g3, o3, none⟩ = some (.int .i64 8) := h3 0 (by decide)
      have HX : Hid (∀ w' F', Fr F' w3 w' → (∀ x, x ∈ F' → x ∈ F3) → w'.cell? ⟨g3, o3, none⟩ = some (.int .i64 8)) := fun w' F' hf' hs => (hf'.cell (p := ⟨g3, o3, none⟩) (lt_of_cell l0) (fun hx => by
        have h1 := hl.pos (by decide)
        obtain ⟨g4, o4, e4, e5, _⟩ := h1
        injection e4 with e4
        injection e4 with e4 _
        subst e4
        exact (hg g3 (by rw [e5]; simp)).1 (hs g3 hx))).trans l0
      have HQ3 := hide hq
      have HF3 := hide (Fr.within HF2.out hf HP2.out)
      have HP3 := hide (later HP2.out hn (P := fun x => W.heap.size ≤ x) (fun x hx => Nat.le_trans HF2.out.size hx))
      clear hq hl hf hn hg T2 h3
      have T3 := hide (qpop_some HQ3.out HK2.out)
      generalize pushO O2 0 8 = O3 at *
      go_wp2_with fail
      refine T3.out.mono ?_
      rintro e w4 ⟨F4, rfl, hq, hf, hn⟩
      have HQ4 := hide hq
      have HF4 := hide (Fr.within HF3.out hf HP3.out)
      have HP4 := hide (later HP3.out hn (P := fun x => W.heap.size ≤ x) (fun x hx => Nat.le_trans HF3.out.size hx))
      have l4 := HX.out w4 F3 hf (fun _ h => h)
      have HK4 := hide HK2.out.pop
      clear hq hf hn T3 l0 HX
      have T4 := hide (qdrain_any HQ4.out HK4.out)
      rw [E2.out.2.2] at T4
      go_wp2_with fail
      refine T4.out.mono ?_
      rintro e w5 ⟨F5, A5, c5, G5, rfl, hq, hl, hf, hn, hg⟩
      have HF5 := hide (Fr.within HF4.out hf HP4.out)
      have HS5 := hide (hl.alloc (.cells #[.int .i64 6, .int .i64 7, .int .i64 9] 3)).slz
      have HB5 := Blk.new w5 3 #[.int .i64 6, .int .i64 7, .int .i64 9]
      have HT5 : Hid (Sl (w5.alloc (.cells #[.int .i64 6, .int .i64 7, .int .i64 9] 3)) (some ⟨w5.heap.size, 0, none⟩) 3 (fun k => .int .i64 (([6, 7, 9] : List Int).getD k 0))) := fun _ => ⟨_, 0, rfl, HB5.lt, fun k hk => by
        rw [HB5.cell]
        obtain rfl | rfl | rfl : k = 0 ∨ k = 1 ∨ k = 2 := by omega
        all_goals rfl⟩
      clear hq hl hf hn hg T4 HB5
      go_wp2_with fail
      have T5 : Hid (Calls Try.prog 11 #[.slice A5 3 c5, .slice (some ⟨w5.heap.size, 0, none⟩) 3 3] (w5.alloc (.cells #[.int .i64 6, .int .i64 7, .int .i64 9] 3)) fun e w' => e = .returned (.bool true) ∧ ∃ k, w' = (w5.alloc (.cells #[.int .i64 6, .int .i64 7, .int .i64 9] 3)).drewN k) := by
        have h := same_any (ca := c5) (cb := 3) (xs := [6, 7, 9]) (ys := [6, 7, 9]) HS5.out HT5.out (by decide) (by decide)
        rw [show decide (([6, 7, 9] : List Int) = [6, 7, 9]) = true by decide] at h
        exact h
      refine T5.out.mono ?_
      rintro e w6 ⟨rfl, k, rfl⟩
      go_wp2_with fail
      go_ret
      exact ⟨rfl, (HF5.out.alloc _).drewN k⟩
end Go.Proofs.Ytdiedfnlmkokhaa
