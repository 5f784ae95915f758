/- QueuePlays: cards wait, are popped, drained and left over just as the document says, call by call, whatever number of threads, whatever bound and whatever script come in. Conditions: none but the row's own. -/
import Derived.Test.YtdiedfnlmkokhaaL10b
import Derived.Test.YtdiedfnlmkokhaaCard0
namespace Go.Proofs.Ytdiedfnlmkokhaa.QueuePlays
set_option linter.unusedVariables false
open Go.RowKit Go.Gl Go.ChangeShapes Go.WideShapes Go.ChangeAt Go.Deep

/-- The queue and the document's hold the same, apart from one another and from what was there. -/
def Two (W w : World) (q m n B : Nat) : Prop :=
  ∃ FQ FM C O, Qq w q FQ n B C O ∧ Mq w m FM n B C O ∧ QOk n B C O ∧ (∀ x, x ∈ FQ → W.heap.size ≤ x ∧ x ∉ FM) ∧ (∀ x, x ∈ FM → W.heap.size ≤ x) ∧ Fr [] W w
theorem Two.drewN {W w : World} {q m n B : Nat} (h : Two W w q m n B) (k : Nat) : Two W (w.drewN k) q m n B := by
  obtain ⟨FQ, FM, C, O, a1, a2, a3, a4, a5, a6⟩ := h
  exact ⟨FQ, FM, C, O, a1.drewN _, a2.drewN _, a3, a4, a5, a6.drewN _⟩
theorem walk_bad (W : World) (T b : Int) (h : T < 1 ∨ 64 < T ∨ b < 0 ∨ 65536 < b) (v : Value) : Holds Try.prog 3 #[.int .i64 T, .int .i64 b, v] W := by
  have HN := hide (qnew_bad T b h)
  have HR := hide (r10new_bad T b h)
  clear h
  unfold Holds
  go_enter Try.func3, Try.ntmps3
  go_wp2_with fail
  refine (awake10_any W).mono ?_
  rintro e w0 ⟨rfl, hf0⟩
  have HF := hide hf0
  clear hf0
  go_wp2_with fail
  refine (HN.out _).mono ?_
  rintro e w1 ⟨rfl, rfl⟩
  go_wp2_with fail
  refine (HR.out _).mono ?_
  rintro e w2 ⟨rfl, rfl⟩
  go_wp2_with fail
  go_ret
  exact ⟨rfl, HF.out.below_nil⟩
set_option maxRecDepth 100000 in
set_option maxHeartbeats 1600000 in
theorem walk (W : World) (n B : Nat) (h1 : 1 ≤ n) (h2 : n ≤ 64) (h3 : B ≤ 65536) (A : Option Addr) (na ca : Nat) (f : Nat → Nat → Int) (hA : Recs W A na 3 (fun _ => .i64) f) (hna : na ≤ 9223372036854775807) : Holds Try.prog 3 #[.int .i64 (n : Int), .int .i64 (B : Int), .slice A na ca] W := by
  have HA := hide hA
  have HN := hide (qnew_ok n B h1 h2 h3)
  have HR := hide (r10new_ok n B h1 h2 h3)
  have HK0 := hide (QOk.new h1 h2 h3)
  clear hA h1 h2 h3
  unfold Holds
  go_enter Try.func3, Try.ntmps3
  go_wp2_with fail
  refine (awake10_any W).mono ?_
  rintro e w0 ⟨rfl, hf0⟩
  have HF := hide hf0
  clear hf0
  go_wp2_with fail
  refine (HN.out _).mono ?_
  rintro e w1 ⟨q, FQ, rfl, hq, hf1, hn1⟩
  have HF1 : Hid (Fr [] W w1) := HF.out.trans_same hf1
  have HQ1 := hide hq
  have HP1 : Hid (∀ x, x ∈ FQ → W.heap.size ≤ x) := fun x hx => Nat.le_trans HF.out.size (hn1 x hx)
  clear hq hf1 hn1
  go_wp2_with fail
  refine (HR.out _).mono ?_
  rintro e w2 ⟨m, FM, rfl, hm, hf2, hn2⟩
  have HT2 : Hid (Two W w2 q m n B) := ⟨FQ, FM, [], _, HQ1.out.fr0 hf2, hm, HK0.out, fun x hx => ⟨HP1.out x hx, fun hx2 => by have h3 := HQ1.out.lt x hx; have h4 := hn2 x hx2; omega⟩, fun x hx => Nat.le_trans HF1.out.size (hn2 x hx), HF1.out.trans_same hf2⟩
  clear hm hf2 hn2
  go_wp2_with fail
  clear HQ1 HP1 HF1 HN HR HK0 HF
  go_loopw [11] (fun i wr => ∃ k : Nat, i = .int .i64 k ∧ k ≤ na ∧ k ≤ 400 ∧ Two W wr q m n B) (fun i _ => na - (intOf i).toNat)
  case atStart => exact ⟨0, rfl, Nat.zero_le _, by omega, HT2.out⟩
  case round =>
    obtain ⟨k, rfl, hk, hk2, ht⟩ := hrel
    have HT := hide ht
    clear ht HT2
    by_cases hlt : k < na ∧ k < 400
    · obtain ⟨hlt1, hlt2⟩ := hlt
      have hlt3 : (k : Int) < (na : Int) := by omega
      have hlt4 : (k : Int) < 400 := by omega
      obtain ⟨b0, off, rfl, hb0, hcl⟩ := HA.out (by omega)
      obtain ⟨FQ, FM, C, O, hq, hm, hok, hp, hpm, hf⟩ := HT.out
      have tr : ∀ j, wr.cell? ⟨b0, j, none⟩ = W.cell? ⟨b0, j, none⟩ := fun j => hf.cell (p := ⟨b0, j, none⟩) hb0 (by simp)
      have c0 := hcl k hlt1 0 (by decide)
      have c1 := hcl k hlt1 1 (by decide)
      have c2 := hcl k hlt1 2 (by decide)
      rw [← tr] at c0 c1 c2
      rw [Nat.add_zero] at c0
      rw [← Nat.add_assoc] at c1 c2
      generalize f k 0 = K at *
      generalize f k 1 = T at *
      generalize f k 2 = X at *
      clear tr hcl
      have HX : Hid (Fr [] wr (wr.alloc (.cells #[.int .i64 K, .int .i64 T, .int .i64 X] 32))) := (Fr.refl _ _).alloc _
      have HXB : Hid (Blk (wr.alloc (.cells #[.int .i64 K, .int .i64 T, .int .i64 X] 32)) wr.heap.size 32 #[.int .i64 K, .int .i64 T, .int .i64 X]) := Blk.new _ _ _
      have HQ := hide (hq.fr0 HX.out)
      have HM := hide (hm.fr0 HX.out)
      have HK := hide hok
      have HP := hide hp
      have HPM := hide hpm
      have HF : Hid (Fr [] W (wr.alloc (.cells #[.int .i64 K, .int .i64 T, .int .i64 X] 32))) := hf.trans_same HX.out
      have HLQ : Hid (∀ x, x ∈ FQ → x < wr.heap.size) := hq.lt
      clear hq hm hok hp hpm hf HT
      have kt1 : -4 ≤ K.tmod 5 := by have := Int.lt_tmod_of_pos K (show (0 : Int) < 5 by decide); omega
      have kt2 : K.tmod 5 ≤ 4 := by have := Int.tmod_lt_of_pos K (show (0 : Int) < 5 by decide); omega
      rcases (show K.tmod 5 % 5 = 3 ∨ K.tmod 5 % 5 = 4 ∨ (¬ K.tmod 5 % 5 = 3 ∧ ¬ K.tmod 5 % 5 = 4) by omega) with hk0 | hk0 | ⟨hk3, hk4⟩
      focus
        have T1 := hide (qpop_any HQ.out HK.out)
        go_wp2_with fail
        refine T1.out.mono ?_
        rintro e w4 ⟨FQ', rfl, hq, hf, hn⟩
        have HQ4 := hide hq
        have HM4 := hide (HM.out.fr hf (fun x hx hx2 => (HP.out x hx2).2 hx))
        have HF4 : Hid (Fr [] W w4) := Fr.within HF.out hf (fun x hx => (HP.out x hx).1)
        have HP4 : Hid (∀ x, x ∈ FQ' → W.heap.size ≤ x ∧ x ∉ FM) := later HP.out hn (P := fun x => W.heap.size ≤ x ∧ x ∉ FM) (fun x hx => ⟨Nat.le_trans HF.out.size hx, fun h => by have := HM.out.lt x h; omega⟩)
        clear hq hf hn T1
        have T2 := hide (r10pop_any HM4.out HK.out)
        go_wp2_with fail
        refine T2.out.mono ?_
        rintro e w5 ⟨FM', rfl, hm, hf, hn⟩
        have HB : Hid (Two W w5 q m n B) := by
          refine ⟨FQ', FM', popC C, O, HQ4.out.fr hf (fun x hx => (HP4.out x hx).2), hm, HK.out.popC, fun x hx => ⟨(HP4.out x hx).1, fun h => ?_⟩, later HPM.out hn (P := fun x => W.heap.size ≤ x) (fun x hx => Nat.le_trans HF4.out.size hx), Fr.within HF4.out hf HPM.out⟩
          rcases hn x h with h1 | h1
          · exact (HP4.out x hx).2 h1
          · have := HQ4.out.lt x hx; omega
        clear hm hf hn T2 HQ4 HM4 HF4 HP4
        have e1 : (popX C != popX C) = false := by simp
        have e2 : (popE C != popE C) = false := by simp
        generalize popX C = PX at *
        generalize popE C = PE at *
        go_wp2_with fail
        clear e1 e2
        obtain ⟨wz, hwz⟩ : ∃ wz, wz = w5 := ⟨_, rfl⟩
        subst hwz
      rotate_left
      focus
        have T1 := hide (qdrain_any HQ.out HK.out)
        have T2' : Hid (∀ w4, Mq w4 m FM n B C O → Calls Try.prog 13 #[.pointer (some ⟨m, 0, none⟩)] w4 (QLst w4 FM (fun w' F' => Mq w' m F' n B [] (fun _ => [])) (C ++ catL O n))) := fun w4 h => r10drain_any h HK.out
        have HLE : Hid ((C ++ catL O n).length ≤ 4611686018427387904) := by
          have h1 := HK.out.cat
          have h2 := HK.out.c
          have h3 := HK.out.b
          show _ ≤ _
          rw [List.length_append]; omega
        generalize C ++ catL O n = D at *
        go_wp2_with fail
        refine T1.out.mono ?_
        rintro e w4 ⟨FQ', A1, c1, G1, rfl, hq, hl, hf, hn, hg⟩
        have HQ4 := hide hq
        have HM4 := hide (HM.out.fr hf (fun x hx hx2 => (HP.out x hx2).2 hx))
        have HF4 : Hid (Fr [] W w4) := Fr.within HF.out hf (fun x hx => (HP.out x hx).1)
        have HP4 : Hid (∀ x, x ∈ FQ' → W.heap.size ≤ x ∧ x ∉ FM) := later HP.out hn (P := fun x => W.heap.size ≤ x ∧ x ∉ FM) (fun x hx => ⟨Nat.le_trans HF.out.size hx, fun h => by have := HM.out.lt x h; omega⟩)
        have HL4 := hide hl
        have HG4 : Hid (∀ x, x ∈ G1 → x ∉ FM) := fun x hx hx2 => by
          rcases (hg x hx).2 with h1 | h1
          · exact (HP.out x h1).2 hx2
          · have := HM.out.lt x hx2; omega
        clear hq hl hf hn hg T1
        have T2 := hide (T2'.out _ HM4.out)
        go_wp2_with fail
        refine T2.out.mono ?_
        rintro e w5 ⟨FM', A2, c2', G2, rfl, hm, hl, hf, hn, hg⟩
        have HB5 : Hid (Two W w5 q m n B) := by
          refine ⟨FQ', FM', [], fun _ => [], HQ4.out.fr hf (fun x hx => (HP4.out x hx).2), hm, QOk.new HK.out.n1 HK.out.n2 HK.out.b, fun x hx => ⟨(HP4.out x hx).1, fun h => ?_⟩, later HPM.out hn (P := fun x => W.heap.size ≤ x) (fun x hx => Nat.le_trans HF4.out.size hx), Fr.within HF4.out hf HPM.out⟩
          rcases hn x h with h1 | h1
          · exact (HP4.out x hx).2 h1
          · have := HQ4.out.lt x hx; omega
        have HS1 := hide (HL4.out.fr hf HG4.out).slz
        have HS2 := hide hl.slz
        have T3 : Hid (Calls Try.prog 11 #[.slice A1 D.length c1, .slice A2 D.length c2'] w5 fun e w' => e = .returned (.bool true) ∧ ∃ k, w' = w5.drewN k) := by
          have h := same_any (ca := c1) (cb := c2') HS1.out HS2.out HLE.out HLE.out
          rw [show decide (D = D) = true by simp] at h
          exact h
        clear hm hl hf hn hg T2 T2' HQ4 HM4 HF4 HP4 HL4 HG4 HS1 HS2 HLE
        generalize D.length = dl at *
        go_wp2_with fail
        refine T3.out.mono ?_
        rintro e w6 ⟨rfl, k6, hw6⟩
        have HB : Hid (Two W w6 q m n B) := by
          obtain ⟨FQ, FM, C, O, a1, a2, a3, a4, a5, a6⟩ := HB5.out
          subst hw6
          exact ⟨FQ, FM, C, O, a1.drewN _, a2.drewN _, a3, a4, a5, a6.drewN _⟩
        clear hw6 T3 HB5
        go_wp2_with fail
        obtain ⟨wz, hwz⟩ : ∃ wz, wz = w6 := ⟨_, rfl⟩
        subst hwz
      rotate_left
      focus
        have hk3' : (K.tmod 5 % 5 == 3) = false := by simpa using hk3
        have hk4' : (K.tmod 5 % 5 == 4) = false := by simpa using hk4
        have T1 := hide (qpush_any HQ.out HK.out T X)
        have T2' : Hid (∀ w4, Mq w4 m FM n B C O → Calls Try.prog 15 #[.pointer (some ⟨m, 0, none⟩), .int .i64 T, .int .i64 X] w4 (QRes w4 FM (fun w' F' => Mq w' m F' n B (pC n B C O T X) (pO n O T X)) (pV n B C O T X) (pE n T X))) := fun w4 h => r10push_any h HK.out T X
        have HK' := hide (HK.out.p T X)
        have HV := hide (pV_le HK.out T X)
        generalize pC n B C O T X = C' at *
        generalize pO n O T X = O' at *
        generalize pV n B C O T X = D at *
        generalize pE n T X = E at *
        go_wp2_with fail
        refine T1.out.mono ?_
        rintro e w4 ⟨FQ', A1, c1', G1, rfl, hq, hl, hf, hn, hg⟩
        have x1 : w4.cell? ⟨wr.heap.size, 1, none⟩ = some (.int .i64 T) := by
          rw [hf.cell (p := ⟨wr.heap.size, 1, none⟩) (by simp) (fun h => by have := HLQ.out _ h; simp at this), HXB.out.cell]; rfl
        have x2 : w4.cell? ⟨wr.heap.size, 2, none⟩ = some (.int .i64 X) := by
          rw [hf.cell (p := ⟨wr.heap.size, 2, none⟩) (by simp) (fun h => by have := HLQ.out _ h; simp at this), HXB.out.cell]; rfl
        have HQ4 := hide hq
        have HM4 := hide (HM.out.fr hf (fun x hx hx2 => (HP.out x hx2).2 hx))
        have HF4 : Hid (Fr [] W w4) := Fr.within HF.out hf (fun x hx => (HP.out x hx).1)
        have HP4 : Hid (∀ x, x ∈ FQ' → W.heap.size ≤ x ∧ x ∉ FM) := later HP.out hn (P := fun x => W.heap.size ≤ x ∧ x ∉ FM) (fun x hx => ⟨Nat.le_trans HF.out.size hx, fun h => by have := HM.out.lt x h; omega⟩)
        have HL4 := hide hl
        have HG4 : Hid (∀ x, x ∈ G1 → x ∉ FQ' ∧ x ∉ FM ∧ W.heap.size ≤ x) := fun x hx => by
          refine ⟨(hg x hx).1, fun hx2 => ?_, ?_⟩
          · rcases (hg x hx).2 with h1 | h1
            · exact (HP.out x h1).2 hx2
            · have := HM.out.lt x hx2; omega
          · rcases (hg x hx).2 with h1 | h1
            · exact (HP.out x h1).1
            · exact Nat.le_trans HF.out.size h1
        clear hq hl hf hn hg T1
        have T2 := hide (T2'.out _ HM4.out)
        go_wp2_with fail
        refine T2.out.mono ?_
        rintro e w5 ⟨FM', A2, c2', G2, rfl, hm, hl, hf, hn, hg⟩
        have HB5 : Hid (Qq w5 q FQ' n B C' O' ∧ Mq w5 m FM' n B C' O' ∧ (∀ x, x ∈ FQ' → W.heap.size ≤ x ∧ x ∉ FM') ∧ (∀ x, x ∈ FM' → W.heap.size ≤ x) ∧ Fr [] W w5 ∧ ∀ x, x ∈ G1 → x ∉ FQ' ∧ x ∉ FM' ∧ W.heap.size ≤ x) := by
          refine ⟨HQ4.out.fr hf (fun x hx => (HP4.out x hx).2), hm, fun x hx => ⟨(HP4.out x hx).1, fun h => ?_⟩, later HPM.out hn (P := fun x => W.heap.size ≤ x) (fun x hx => Nat.le_trans HF4.out.size hx), Fr.within HF4.out hf HPM.out, fun x hx => ⟨(HG4.out x hx).1, fun h => ?_, (HG4.out x hx).2.2⟩⟩
          · rcases hn x h with h1 | h1
            · exact (HP4.out x hx).2 h1
            · have := HQ4.out.lt x hx; omega
          · rcases hn x h with h1 | h1
            · exact (HG4.out x hx).2.1 h1
            · have := HL4.out.lt x hx; omega
        have HL5 := hide (HL4.out.fr hf (fun x hx => (HG4.out x hx).2.1))
        have HS2 := hide hl.slz
        have T3 : Hid (Calls Try.prog 11 #[.slice A1 D.length c1', .slice A2 D.length c2'] w5 fun e w' => e = .returned (.bool true) ∧ ∃ k, w' = w5.drewN k) := by
          have h := same_any (ca := c1') (cb := c2') HL5.out.slz HS2.out (by have := HV.out; omega) (by have := HV.out; omega)
          rw [show decide (D = D) = true by simp] at h
          exact h
        clear hm hl hf hn hg T2 T2' HQ4 HM4 HF4 HP4 HL4 HG4 HS2 x1 x2
        have e2 : (E != E) = false := by simp
        have HDL : Hid (D.length ≤ 4) := HV.out
        generalize D.length = dl at *
        go_wp2_with fail
        refine T3.out.mono ?_
        rintro e w6 ⟨rfl, k6, hw6⟩
        have HB6 : Hid (Qq w6 q FQ' n B C' O' ∧ Mq w6 m FM' n B C' O' ∧ Fr [] W w6 ∧ ∃ ys, Lr w6 3 A1 dl c1' G1 ys) := by
          subst hw6
          exact ⟨HB5.out.1.drewN _, HB5.out.2.1.drewN _, HB5.out.2.2.2.2.1.drewN _, _, HL5.out.drewN _⟩
        clear hw6 T3 HL5
        go_wp2_with fail
        clear e2 c0 c1 c2 HX HXB HQ HM HF HLQ HV
        go_loopw [21] (fun i wr => ∃ (j : Nat) (ys : List Value), i = .int .i64 j ∧ j ≤ dl ∧ Lr wr 3 A1 dl c1' G1 ys ∧ Qq wr q FQ' n B C' O' ∧ Mq wr m FM' n B C' O' ∧ Fr [] W wr) (fun i _ => dl - (intOf i).toNat)
        case atStart =>
          obtain ⟨a1, a2, a3, ys, a4⟩ := HB6.out
          exact ⟨0, ys, rfl, Nat.zero_le _, a4, a1, a2, a3⟩
        obtain ⟨j, ys, rfl, hj, hl, hq, hm, hf⟩ := hrel
        by_cases hlt5 : j < dl
        focus
          have hlt6 : (j : Int) < (dl : Int) := by omega
          have hdl4 : dl ≤ 4 := HDL.out
          obtain ⟨g, off5, rfl, rfl, hgl, hcell, hfz, _⟩ := hl.pos (by omega)
          have jc : wr.cell? ⟨g, off5 + j, none⟩ = some (ys.getD j undef) := by
            rw [hcell j hlt5]
            have : j < ys.length := by rw [hl.len]; exact hlt5
            simp [this]
          have jz := hfz (off5 + j)
          have hg5 := HB5.out.2.2.2.2.2 g (by simp)
          have HF7 : Hid (Fr [g] wr (wr.setCell ⟨g, off5 + j, none⟩ (.int .i64 (-1)))) := (Fr.refl _ _).setCell (p := ⟨g, off5 + j, none⟩) (.inl (by simp)) _
          have HL7 := hide (hl.put hlt5 (.int .i64 (-1)))
          have HQ7 := hide (hq.fr HF7.out (fun x hx h => by simp at h; exact hg5.1 (h ▸ hx)))
          have HM7 := hide (hm.fr HF7.out (fun x hx h => by simp at h; exact hg5.2.1 (h ▸ hx)))
          have HF8 := hide (Fr.within hf HF7.out (fun x hx => by simp at hx; rw [hx]; exact hg5.2.2))
          clear hl hq hm hf hcell hfz hg5
          go_wp2_with fail
          go_roundw
          case rel => exact ⟨j + 1, _, by go_num, by omega, HL7.out, HQ7.out, HM7.out, HF8.out⟩
          case measure => simp [intOf]; omega
        have HB : Hid (Two W wr q m n B) := ⟨FQ', FM', C', O', hq, hm, HK'.out, HB5.out.2.2.1, HB5.out.2.2.2.1, hf⟩
        obtain rfl : j = dl := by omega
        clear hl hq hm hf HB5 HB6
        go_wp2_with fail
        obtain ⟨wz, hwz⟩ : ∃ wz, wz = wr := ⟨_, rfl⟩
        subst hwz
      all_goals
        obtain ⟨FQ, FM, C, O, a1, a2, a3, _, _, _⟩ := HB.out
        have D1 : Hid (∀ i, Calls Try.prog 16 #[.pointer (some ⟨q, 0, none⟩)] (wz.drewN i) fun e w' => e = .returned (.int .i64 (C.length : Int)) ∧ ∃ k, w' = (wz.drewN i).drewN k) := fun i => (qlen_any (a1.drewN i)).mono fun _ _ ⟨he, hm⟩ => ⟨he, 0, hm.symm⟩
        have D2 : Hid (∀ i, Calls Try.prog 17 #[.pointer (some ⟨q, 0, none⟩)] (wz.drewN i) fun e w' => e = .returned (.int .i64 ((C.length + (catL O n).length : Nat) : Int)) ∧ ∃ k, w' = (wz.drewN i).drewN k) := fun i => (qwaiting_any (a1.drewN i) a3).mono fun _ _ ⟨he, hm⟩ => ⟨he, 0, hm.symm⟩
        have D3 : Hid (∀ i, Calls Try.prog 18 #[.pointer (some ⟨m, 0, none⟩)] (wz.drewN i) fun e w' => e = .returned (.int .i64 ((C.length + (catL O n).length : Nat) : Int)) ∧ ∃ k, w' = (wz.drewN i).drewN k) := fun i => (r10waiting_any (a2.drewN i) a3).mono fun _ _ ⟨he, hm⟩ => ⟨he, 0, hm.symm⟩
        obtain ⟨tb, A, c, G0, V, G, h, _⟩ := a2
        have mc := Mk.c1 h
        clear h a1 a3
        generalize C.length + (catL O n).length = wt at *
        generalize C.length = cl at *
        have e1 : ((cl : Int) != (cl : Int)) = false := by simp
        have e2 : ((wt : Int) != (wt : Int)) = false := by simp
        go_quiet (first | (go_at_call 16; exact Calls.quiet_of (D1.out _)) | (go_at_call 17; exact Calls.quiet_of (D2.out _)) | (go_at_call 18; exact Calls.quiet_of (D3.out _)))
        go_wp2_with fail
        go_roundw
        case rel => exact ⟨k + 1, by go_num, by omega, by omega, HB.out.drewN _⟩
        case measure => simp [intOf]; omega
    · have hway : ¬ (k : Int) < (na : Int) ∨ ((k : Int) < (na : Int) ∧ ¬ (k : Int) < 400) := by omega
      obtain ⟨FQ, FM, C, O, hq, hm, hok, hp, hpm, hf⟩ := HT.out
      have T1 := hide (qdrain_any hq hok)
      have T2' : Hid (∀ w4, Mq w4 m FM n B C O → Calls Try.prog 13 #[.pointer (some ⟨m, 0, none⟩)] w4 (QLst w4 FM (fun w' F' => Mq w' m F' n B [] (fun _ => [])) (C ++ catL O n))) := fun w4 h => r10drain_any h hok
      have HLE : Hid ((C ++ catL O n).length ≤ 4611686018427387904) := by
        have h1 := hok.cat
        have h2 := hok.c
        have h3 := hok.b
        show _ ≤ _
        rw [List.length_append]; omega
      have HM := hide hm
      have HP := hide hp
      have HPM := hide hpm
      have HF := hide hf
      have HK1 := hide (QOk.new hok.n1 hok.n2 hok.b)
      generalize C ++ catL O n = D at *
      clear hlt hq hm hok hp hpm hf
      rcases hway with w1 | ⟨w1, w2⟩
      all_goals
        go_wp2_with fail
        refine T1.out.mono ?_
        rintro e w4 ⟨FQ', A1, c1, G1, rfl, hq, hl, hf, hn, hg⟩
        have HQ4 := hide hq
        have HM4 := hide (HM.out.fr hf (fun x hx hx2 => (HP.out x hx2).2 hx))
        have HF4 : Hid (Fr [] W w4) := Fr.within HF.out hf (fun x hx => (HP.out x hx).1)
        have HP4 : Hid (∀ x, x ∈ FQ' → W.heap.size ≤ x ∧ x ∉ FM) := later HP.out hn (P := fun x => W.heap.size ≤ x ∧ x ∉ FM) (fun x hx => ⟨Nat.le_trans HF.out.size hx, fun h => by have := HM.out.lt x h; omega⟩)
        have HL4 := hide hl
        have HG4 : Hid (∀ x, x ∈ G1 → x ∉ FM) := fun x hx hx2 => by
          rcases (hg x hx).2 with h1 | h1
          · exact (HP.out x h1).2 hx2
          · have := HM.out.lt x hx2; omega
        clear hq hl hf hn hg
        have T2 := hide (T2'.out _ HM4.out)
        go_wp2_with fail
        refine T2.out.mono ?_
        rintro e w5 ⟨FM', A2, c2', G2, rfl, hm, hl, hf, hn, hg⟩
        have HQ5 := hide (HQ4.out.fr hf (fun x hx => (HP4.out x hx).2))
        have HF5 : Hid (Fr [] W w5) := Fr.within HF4.out hf HPM.out
        have HS1 := hide (HL4.out.fr hf HG4.out).slz
        have HS2 := hide hl.slz
        have T3 : Hid (Calls Try.prog 11 #[.slice A1 D.length c1, .slice A2 D.length c2'] w5 fun e w' => e = .returned (.bool true) ∧ ∃ k, w' = w5.drewN k) := by
          have h := same_any (ca := c1) (cb := c2') HS1.out HS2.out HLE.out HLE.out
          rw [show decide (D = D) = true by simp] at h
          exact h
        clear hm hl hf hn hg T2 HQ4 HM4 HF4 HP4 HL4 HG4 HS1 HS2
        generalize D.length = dl at *
        go_wp2_with fail
        refine T3.out.mono ?_
        rintro e w6 ⟨rfl, k6, rfl⟩
        have T4 : Hid (Calls Try.prog 17 #[.pointer (some ⟨q, 0, none⟩)] (w5.drewN k6) fun e w' => e = .returned (.int .i64 0) ∧ w5.drewN k6 = w') := by
          have h := qwaiting_any (HQ5.out.drewN k6) HK1.out
          rw [catL_none (fun _ _ => rfl)] at h
          exact h
        go_wp2_with fail
        refine T4.out.mono ?_
        rintro e w7 ⟨rfl, rfl⟩
        go_wp2_with fail
        go_ret
        exact ⟨rfl, (HF5.out.drewN _).below_nil⟩
theorem holds {H : Type} {enc : TypeId × Value → H} {W : World} {base : Nat} {args : Array Value} {ds : List (DataW H)} {p : List MemPlace}
    (hval : ∀ (j : Nat) t v, Try.f3.params[j]? = some t → args[j]? = some v → Value.okWide Try.prog W .any base t v)
    (hA : DataW.TrodAll enc Try.prog W 0 (fun _ => true) true Try.f3.params.toList args.toList ds p) : Holds Try.prog 3 args W := by
  rw [Try.params3] at hA hval
  obtain ⟨v0, vs0, d0, ds0, p0, q0, hargs, rfl, rfl, h0, r0⟩ := trodAll_cons hA
  obtain ⟨v1, vs1, d1, ds1, p1, q1, rfl, rfl, rfl, h1, r1⟩ := trodAll_cons r0
  obtain ⟨v2, vs2, d2, ds2, p2, q2, rfl, rfl, rfl, h2, r2⟩ := trodAll_cons r1
  obtain ⟨rfl, rfl, rfl⟩ := trodAll_nil r2
  obtain rfl : args = #[v0, v1, v2] := by cases args; simp_all
  obtain ⟨x0, rfl, rfl, rfl, _⟩ := open_int Try.underlying3 (hval 0 3 v0 rfl rfl) h0
  obtain ⟨x1, rfl, rfl, rfl, _⟩ := open_int Try.underlying3 (hval 1 3 v1 rfl rfl) h1
  obtain ⟨A, na, ca, f, rfl, hna, hA2⟩ := open_acts10 (hval 2 22 v2 rfl rfl) h2
  by_cases hb : x0 < 1 ∨ 64 < x0 ∨ x1 < 0 ∨ 65536 < x1
  · exact walk_bad W x0 x1 hb _
  · obtain ⟨n, rfl⟩ := Int.eq_ofNat_of_zero_le (show 0 ≤ x0 by omega)
    obtain ⟨B, rfl⟩ := Int.eq_ofNat_of_zero_le (show 0 ≤ x1 by omega)
    exact walk W n B (by omega) (by omega) (by omega) A na ca f hA2 (by unfold maxLen at hna; omega)
theorem readable : ∀ t, t ∈ Try.f3.params.toList → Try.prog.readableRec t = true ∧ t < Try.prog.types.size := by
  intro t ht
  rw [Try.params3] at ht
  have hm : t = 3 ∨ t = 22 := by simp at ht; omega
  rcases hm with rfl | rfl
  all_goals exact ⟨by kernel_rfl, of_decide_eq_true (by kernel_rfl)⟩
theorem laid_met (os : Os) : laidMet Try.prog Rows.queuePlaysRow.laid ((laidWorld os).forCall (fun _ _ => 0) ⟨#[], #[.int .i64 0, .int .i64 0, .slice none 0 0], []⟩).memory :=
  ⟨[], rfl, List.nodup_nil, fun _ _ h => by cases h⟩
theorem reads (os : Os) {H : Type} (enc : TypeId × Value → H) : ∃ places, DataW.whole enc Try.prog ((laidWorld os).forCall (fun _ _ => 0) ⟨#[], #[.int .i64 0, .int .i64 0, .slice none 0 0], []⟩).memory Try.f3.params.toList Rows.queuePlaysSpec.vars false (#[.int .i64 0, .int .i64 0, .slice none 0 0] : Array Value).toList 8 = some ([.lit (.int .i64 0), .lit (.int .i64 0), .nil], [], places) :=
  ⟨[], by kernel_rfl⟩
theorem spec {H : Type} : ∀ ds : List (DataW H), ds.length = Try.f3.params.toList.length → Rows.queuePlaysSpec.fn H (ds ++ []) = { results := [.lit (.bool true)], args := ds, vars := [] } := by
  intro ds h
  rw [Try.params3] at h
  simp only [List.append_nil]
  match ds, h with
  | [_, _, _], _ => rfl

set_option maxRecDepth 100000 in
theorem lifted (os : Os) (started : os.Started) (H : Type) (enc : TypeId × Value → H) (F : Stop.Interp) :
    ReturnsInHanded {} Try.checked os 3 .any ((OpenSpec.ofChange Rows.queuePlaysSpec).preRow enc Try.prog Try.f3 Rows.queuePlaysRow.domain false Rows.queuePlaysRow.laid) (((OpenSpec.ofChange Rows.queuePlaysSpec).at F).post enc Try.prog Try.f3 false true false false) := by
  obtain ⟨places, hx⟩ := reads os enc
  refine returnsInHanded_of_row (C := Try.checked) (s := OpenSpec.ofChange Rows.queuePlaysSpec) own started (by kernel_rfl) Try.func3
    (witness_row_at (enc := enc) (C := Try.checked) false (laidWorld os) #[.int .i64 0, .int .i64 0, .slice none 0 0] rfl (by kernel_rfl) (by kernel_rfl) (by kernel_rfl)
      (OpenSpec.preRow_of_cond 8 hx (by kernel_rfl) (fun k hk => by cases hk) (by kernel_rfl) (laid_met os))) ?_
  intro W base args ds gs before hval hW _ _ _ hL _ _
  have hW' : DataW.Whole enc Try.prog Try.f3.params.toList Rows.queuePlaysSpec.vars false W args.toList ds gs before := hW
  exact law_close (s := Rows.queuePlaysSpec) rfl rfl Try.underlying4 spec laidOut readable hW' (by
    obtain ⟨p, q, hA, _⟩ := hW'
    exact holds hval hA)

theorem said : Rows.QueuePlaysSaid :=
  OpenClaim.holds_of_cond 3 Try.f3 rfl rfl rfl rfl rfl rfl rfl ⟨rfl, rfl, rfl, rfl, rfl⟩ rfl rfl rfl rfl rfl (by kernel_rfl) Try.func3 (by kernel_rfl)
    (of_decide_eq_true (by kernel_rfl)) (by unfold Func.isWrapper; first | (rw [if_pos (by decide +kernel)]; kernel_rfl) | (rw [if_neg (by decide +kernel)]; exact ⟨rfl, rfl⟩))
    (fun os started H enc _ F => by rw [OpenClaim.pre_eq_preRow]; exact lifted os started H enc F)
end Go.Proofs.Ytdiedfnlmkokhaa.QueuePlays
