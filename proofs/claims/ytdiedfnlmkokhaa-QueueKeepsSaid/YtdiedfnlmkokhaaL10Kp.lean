/- QueueKeeps: no card gets lost or doubled, and the common list never has more than its bound, whatever bound and whatever script come in. Conditions: none but the row's own. -/
import Derived.Test.YtdiedfnlmkokhaaL10b
import Derived.Test.YtdiedfnlmkokhaaRn
import Derived.Test.YtdiedfnlmkokhaaCard0
namespace Go.Proofs.Ytdiedfnlmkokhaa.QueueKeeps
set_option linter.unusedVariables false
open Go.RowKit Go.Gl Go.ChangeShapes Go.WideShapes Go.ChangeAt Go.Deep

/-- How often a card waits. -/
def tot (C : List Int) (O : Nat → List Int) (v : Int) : Nat := C.count v + (catL O 3).count v
theorem catL_count (O : Nat → List Int) (t : Nat) (l : List Int) (v : Int) : ∀ n, t < n → (catL (putF O t l) n).count v + (O t).count v = (catL O n).count v + l.count v
  | 0, h => absurd h (by omega)
  | n + 1, h => by
    simp only [catL, List.count_append]
    by_cases htn : t = n
    · subst htn
      rw [putF_at, catL_congr (L' := O) (fun i hi => putF_ne _ _ (by omega))]
      omega
    · rw [putF_ne O l (show n ≠ t from fun h => htn h.symm)]
      have := catL_count O t l v n (by omega)
      omega
theorem tot_push {B : Nat} {C : List Int} {O : Nat → List Int} {t : Nat} (ht : t < 3) (x v : Int) : (pushV B C O t x).count v + tot (pushC B C O t x) (pushO O t x) v = tot C O v + [x].count v := by
  unfold tot pushV pushC pushO
  by_cases h3 : (O t).length < 3
  · rw [if_pos h3, if_pos h3, if_pos h3]
    have := catL_count O t (O t ++ [x]) v 3 ht
    rw [List.count_append] at this
    simp only [List.count_nil]
    omega
  · rw [if_neg h3, if_neg h3, if_neg h3]
    have h1 := catL_count O t [] v 3 ht
    have h2 : (O t ++ [x]).count v = ((O t ++ [x]).take (B - C.length)).count v + ((O t ++ [x]).drop (B - C.length)).count v := by rw [← List.count_append, List.take_append_drop]
    rw [List.count_append] at h2
    simp only [List.count_nil] at h1
    rw [List.count_append]
    omega
theorem tot_pop (x : Int) (C : List Int) (O : Nat → List Int) (v : Int) : tot (x :: C) O v = tot C O v + [x].count v := by
  unfold tot
  rw [← List.singleton_append, List.count_append]
  omega
theorem tot_le {B : Nat} {C : List Int} {O : Nat → List Int} (h : QOk 3 B C O) (v : Int) : tot C O v ≤ B + 192 := by
  unfold tot
  have h1 : C.count v ≤ C.length := List.count_le_length
  have h2 : (catL O 3).count v ≤ (catL O 3).length := List.count_le_length
  have := h.cat
  have := h.c
  omega
theorem one_count (x v : Int) : [x].count v = if v = x then 1 else 0 := by
  rw [List.count_singleton]
  by_cases h : v = x
  · subst h; simp
  · have : ¬ x = v := fun e => h e.symm
    simp [h, this]
/-- The counts are those of the cards that wait, and all cards are below 64. -/
structure Cnt (f : Nat → Int) (T : Int → Nat) : Prop where
  eq : ∀ k, k < 64 → f k = (T (k : Int) : Int)
  inr : ∀ v, 0 < T v → 0 ≤ v ∧ v ≤ 63
theorem Cnt.up {f : Nat → Int} {T : Int → Nat} (h : Cnt f T) {c : Nat} (hc : c < 64) : Cnt (put1 f c (f c + 1)) (fun v => T v + [(c : Int)].count v) := by
  refine ⟨fun k hk => ?_, fun v hv => ?_⟩
  · unfold put1
    show _ = ((T (k : Int) + _ : Nat) : Int)
    rw [one_count]
    by_cases hkc : k = c
    · subst hkc
      rw [if_pos rfl, if_pos rfl, h.eq k hk]; omega
    · rw [if_neg hkc, if_neg (by omega), h.eq k hk]; omega
  · by_cases hvc : v = (c : Int)
    · omega
    · have h1 : 0 < T v := by
        have h2 := one_count (c : Int) v
        rw [if_neg hvc] at h2
        have hv2 : 0 < T v + [(c : Int)].count v := hv
        omega
      exact h.inr v h1
theorem Cnt.down {f : Nat → Int} {T T' : Int → Nat} (h : Cnt f T) {c : Nat} (hc : c < 64) (ht : ∀ v, T v = T' v + [(c : Int)].count v) : Cnt (put1 f c (f c - 1)) T' := by
  refine ⟨fun k hk => ?_, fun v hv => h.inr v (by have := ht v; omega)⟩
  have h1 := ht (k : Int)
  rw [one_count] at h1
  unfold put1
  by_cases hkc : k = c
  · subst hkc
    rw [if_pos rfl] at h1
    rw [if_pos rfl, h.eq k hk, h1]; omega
  · rw [if_neg (by omega)] at h1
    rw [if_neg hkc, h.eq k hk, h1]; omega
/-- The queue and the counts. -/
def St (W w : World) (q cb B : Nat) : Prop :=
  ∃ F C O f, Qq w q F 3 B C O ∧ QOk 3 B C O ∧ Blk w cb 49 (rowV .i64 64 f) ∧ Cnt f (tot C O) ∧ (∀ x, x ∈ F → W.heap.size ≤ x) ∧ Fr [] W w
theorem foot_apart {w : World} {q cb : Nat} {F : List Nat} {n B : Nat} {C : List Int} {O : Nat → List Int} {cs : Array Value} (h : Qq w q F n B C O) (hb : Blk w cb 49 cs) : cb ∉ F := by
  obtain ⟨tb, A, c, G0, V, G, h, rfl⟩ := h
  intro hx
  rcases mem_foot.1 hx with rfl | rfl | hx | ⟨i, hi, hx⟩
  · exact h.st.apart hb (by decide) rfl
  · exact h.ls.tab.apart hb (by decide) rfl
  · exact h.com.apart hb (by decide) hx
  · obtain ⟨A', c', _, e2⟩ := h.ls.own i hi
    exact e2.apart hb (by decide) hx
/-- The first j of a list, without the rest. -/
theorem count_split (l : List Int) {j : Nat} (h : j < l.length) (v : Int) : (l.drop j).count v = [l.getD j 0].count v + (l.drop (j + 1)).count v := by
  rw [List.drop_eq_getElem_cons h, ← List.singleton_append, List.count_append]
  simp [h]
theorem Cnt.step {g : Nat → Int} {D : List Int} {j N : Nat} {R : Int → Nat} (h : Cnt g fun v => (D.drop j).count v + R v) (hj : j < D.length) (hR : ∀ v, R v ≤ N) :
    ∃ d : Nat, D.getD j 0 = (d : Int) ∧ d < 64 ∧ 0 ≤ g d ∧ g d ≤ ((D.length + N : Nat) : Int) ∧ Cnt (put1 g d (g d - 1)) fun v => (D.drop (j + 1)).count v + R v := by
  have hs := count_split D hj
  have h0 := h.inr (D.getD j 0) (by
    have := hs (D.getD j 0)
    rw [one_count, if_pos rfl] at this
    show 0 < (D.drop j).count (D.getD j 0) + R (D.getD j 0)
    omega)
  obtain ⟨d, hd⟩ := Int.eq_ofNat_of_zero_le h0.1
  have hd64 : d < 64 := by omega
  have he := h.eq d hd64
  have hc : (D.drop j).count (d : Int) ≤ (D.drop j).length := List.count_le_length
  have hr := hR (d : Int)
  rw [List.length_drop] at hc
  refine ⟨d, hd, hd64, by rw [he]; omega, by rw [he]; omega, h.down hd64 (fun v => ?_)⟩
  have := hs v
  rw [hd] at this
  omega
set_option maxRecDepth 100000 in
set_option maxHeartbeats 1600000 in
theorem walk (W : World) (b : Int) (A : Option Addr) (na ca : Nat) (f : Nat → Nat → Int) (hA : Recs W A na 3 (fun _ => .i64) f) (hna : na ≤ 9223372036854775807) : Holds Try.prog 4 #[.int .i64 b, .slice A na ca] W := by
  have HA := hide hA
  have bt1 : -19 ≤ b.tmod 20 := by have := Int.lt_tmod_of_pos b (show (0 : Int) < 20 by decide); omega
  have bt2 : b.tmod 20 ≤ 19 := by have := Int.tmod_lt_of_pos b (show (0 : Int) < 20 by decide); omega
  obtain ⟨B, hB⟩ : ∃ B : Nat, b.tmod 20 % 20 = (B : Int) := ⟨(b.tmod 20 % 20).toNat, by omega⟩
  have hB20 : B < 20 := by omega
  have HN : Hid (∀ w : World, Calls Try.prog 7 #[.int .i64 3, .int .i64 (B : Int)] w (QNew 3 B w)) := fun w => qnew_ok 3 B (by decide) (by decide) (by omega) w
  have HK0 := hide (QOk.new (n := 3) (B := B) (by decide) (by decide) (by omega))
  have HZ : ∀ w, (zeroValue 49).run Try.prog w = .ok (.agg (Array.replicate 64 (.int .i64 0))) w := fun w => by kernel_rfl
  clear hA
  unfold Holds
  go_enter Try.func4, Try.ntmps4
  go_wp2_with fail
  refine (awake10_any W).mono ?_
  rintro e w0 ⟨rfl, hf0⟩
  have HF := hide hf0
  clear hf0
  go_wp2_with fail
  refine (HN.out _).mono ?_
  rintro e w1 ⟨q, F, rfl, hq, hf1, hn1⟩
  have HS : Hid (St W (w1.alloc (.cells (Array.replicate 64 (.int .i64 0)) 49)) q w1.heap.size B) := by
    refine ⟨F, [], _, fun _ => 0, hq.fr0 ((Fr.refl _ _).alloc _), HK0.out, ?_, ⟨fun k hk => by simp [tot, catL], fun v hv => by simp [tot, catL] at hv⟩, fun x hx => Nat.le_trans HF.out.size (hn1 x hx), (HF.out.trans_same hf1).alloc _⟩
    have h := Blk.new w1 49 (Array.replicate 64 (Value.int .i64 0))
    rw [show rowV .i64 64 (fun _ => 0) = Array.replicate 64 (Value.int .i64 0) by rw [rowV_const]; rfl]
    exact h
  have HCB : Hid (W.heap.size ≤ w1.heap.size) := (HF.out.trans_same hf1).size
  clear hq hf1 hn1 HF HN HK0
  go_wp2_with fail
  clear HZ
  generalize w1.alloc (.cells (Array.replicate 64 (.int .i64 0)) 49) = w2 at *
  obtain ⟨cb, hcb⟩ : ∃ cb, cb = w1.heap.size := ⟨_, rfl⟩
  rw [← hcb] at HS HCB ⊢
  clear hcb
  go_loopw [8] (fun i wr => ∃ k : Nat, i = .int .i64 k ∧ k ≤ na ∧ k ≤ 400 ∧ St W wr q cb B) (fun i _ => na - (intOf i).toNat)
  case atStart => exact ⟨0, rfl, Nat.zero_le _, by omega, HS.out⟩
  case round =>
    obtain ⟨k, rfl, hk, hk2, hst⟩ := hrel
    have HST := hide hst
    clear hst HS
    by_cases hlt : k < na ∧ k < 400
    · obtain ⟨hlt1, hlt2⟩ := hlt
      have hlt3 : (k : Int) < (na : Int) := by omega
      have hlt4 : (k : Int) < 400 := by omega
      obtain ⟨b0, off, rfl, hb0, hcl⟩ := HA.out (by omega)
      obtain ⟨F, C, O, f1, hq, hok, hb, hc, hp, hf⟩ := HST.out
      have tr : ∀ j, wr.cell? ⟨b0, j, none⟩ = W.cell? ⟨b0, j, none⟩ := fun j => hf.cell (p := ⟨b0, j, none⟩) hb0 (by simp)
      have c0 := hcl k hlt1 0 (by decide)
      have c1 := hcl k hlt1 1 (by decide)
      have c2 := hcl k hlt1 2 (by decide)
      rw [← tr] at c0 c1 c2
      rw [Nat.add_zero] at c0
      rw [← Nat.add_assoc] at c1 c2
      generalize f k 0 = K at *
      generalize f k 1 = T at *
      generalize f k 2 = X at *
      clear tr hcl
      have HX : Hid (Fr [] wr (wr.alloc (.cells #[.int .i64 K, .int .i64 T, .int .i64 X] 32))) := (Fr.refl _ _).alloc _
      have HXB : Hid (Blk (wr.alloc (.cells #[.int .i64 K, .int .i64 T, .int .i64 X] 32)) wr.heap.size 32 #[.int .i64 K, .int .i64 T, .int .i64 X]) := Blk.new _ _ _
      have HQ := hide (hq.fr0 HX.out)
      have HK := hide hok
      have HC := hide hc
      have HP := hide hp
      have HB := hide (hb.fr HX.out (by simp))
      have HF : Hid (Fr [] W (wr.alloc (.cells #[.int .i64 K, .int .i64 T, .int .i64 X] 32))) := hf.trans_same HX.out
      clear hq hok hb hc hp hf HST
      have kt1 : -4 ≤ K.tmod 5 := by have := Int.lt_tmod_of_pos K (show (0 : Int) < 5 by decide); omega
      have kt2 : K.tmod 5 ≤ 4 := by have := Int.tmod_lt_of_pos K (show (0 : Int) < 5 by decide); omega
      have xt1 : -63 ≤ X.tmod 64 := by have := Int.lt_tmod_of_pos X (show (0 : Int) < 64 by decide); omega
      have xt2 : X.tmod 64 ≤ 63 := by have := Int.tmod_lt_of_pos X (show (0 : Int) < 64 by decide); omega
      have tt1 : -2 ≤ T.tmod 3 := by have := Int.lt_tmod_of_pos T (show (0 : Int) < 3 by decide); omega
      have tt2 : T.tmod 3 ≤ 2 := by have := Int.tmod_lt_of_pos T (show (0 : Int) < 3 by decide); omega
      obtain ⟨x, hx⟩ : ∃ x : Nat, X.tmod 64 % 64 = (x : Int) := ⟨(X.tmod 64 % 64).toNat, by omega⟩
      obtain ⟨t, ht⟩ : ∃ t : Nat, T.tmod 3 % 3 = (t : Int) := ⟨(T.tmod 3 % 3).toNat, by omega⟩
      have hx64 : x < 64 := by omega
      have ht3 : t < 3 := by omega
      have hx64' : (x : Int) < 64 := by omega
      rcases (show K.tmod 5 % 5 = 3 ∨ K.tmod 5 % 5 = 4 ∨ (¬ K.tmod 5 % 5 = 3 ∧ ¬ K.tmod 5 % 5 = 4) by omega) with hk0 | hk0 | ⟨hk3, hk4⟩
      focus
        rcases C with _ | ⟨y, C⟩
        focus
          have T1 := hide (qpop_none HQ.out)
          go_wp2_with fail
          refine T1.out.mono ?_
          rintro e w4 ⟨F', rfl, hq, hf, hn⟩
          have HB5 : Hid (St W w4 q cb B) := ⟨F', [], O, f1, hq, HK.out, HB.out.fr hf (foot_apart HQ.out HB.out), HC.out, later HP.out hn (P := fun x => W.heap.size ≤ x) (fun x hx => Nat.le_trans HF.out.size hx), Fr.within HF.out hf HP.out⟩
          clear hq hf hn T1
          go_wp2_with fail
          obtain ⟨wz, hwz⟩ : ∃ wz, wz = w4 := ⟨_, rfl⟩
          subst hwz
        rotate_left
        focus
          have T1 := hide (qpop_some HQ.out HK.out)
          have hy := HC.out.inr y (by rw [tot_pop, one_count, if_pos rfl]; omega)
          obtain ⟨d, rfl⟩ := Int.eq_ofNat_of_zero_le hy.1
          have hd64 : d < 64 := by omega
          have hd1 : ¬ ((d : Int) < 0) := by omega
          have hd2 : ¬ ((d : Int) > 63) := by omega
          have hd3 : (d : Int) < 64 := by omega
          have HD := hide (HC.out.down hd64 (T' := tot C O) (fun v => tot_pop _ _ _ _))
          have hfd : 0 ≤ f1 d ∧ f1 d ≤ 300 := by
            have h1 := tot_le HK.out (d : Int)
            rw [HC.out.eq d hd64]; omega
          obtain ⟨hf0, hf1⟩ := hfd
          go_wp2_with fail
          refine T1.out.mono ?_
          rintro e w4 ⟨F', rfl, hq, hf, hn⟩
          have hb4 := HB.out.fr hf (foot_apart HQ.out HB.out)
          have kc : w4.cell? ⟨cb, d, none⟩ = some (.int .i64 (f1 d)) := by rw [hb4.cell, rowV_at hd64]
          have kz := hb4.frozen d
          have HB4 := hide (hb4.putRow d (f1 d - 1))
          have HFC : Hid (Fr [cb] w4 (w4.setCell ⟨cb, d, none⟩ (.int .i64 (f1 d - 1)))) := (Fr.refl _ _).setCell (p := ⟨cb, d, none⟩) (.inl (by simp)) _
          have HB5 : Hid (St W (w4.setCell ⟨cb, d, none⟩ (.int .i64 (f1 d - 1))) q cb B) := ⟨F', C, O, _, hq.fr HFC.out (fun x hx h => by simp at h; exact foot_apart hq hb4 (h ▸ hx)), HK.out.pop, HB4.out, HD.out, later HP.out hn (P := fun x => W.heap.size ≤ x) (fun x hx => Nat.le_trans HF.out.size hx), Fr.within (Fr.within HF.out hf HP.out) HFC.out (fun x hx => by simp at hx; rw [hx]; exact HCB.out)⟩
          clear hq hf hn T1 hb4 HD HB4 HFC hy
          generalize f1 d = y at *
          go_wp2_with fail
          obtain ⟨wz, hwz⟩ : ∃ wz, wz = w4.setCell ⟨cb, d, none⟩ (.int .i64 (y - 1)) := ⟨_, rfl⟩
          rw [← hwz] at HB5 ⊢
          clear hwz
      rotate_left 2
      focus
        have T1 := hide (qlen_any HQ.out)
        have T2 := hide (qwaiting_any HQ.out HK.out)
        have hcl : C.length ≤ B := HK.out.c
        have HB5 : Hid (St W (wr.alloc (.cells #[.int .i64 K, .int .i64 T, .int .i64 X] 32)) q cb B) := ⟨F, C, O, f1, HQ.out, HK.out, HB.out, HC.out, HP.out, HF.out⟩
        obtain ⟨cl, hcl2⟩ : ∃ cl, cl = C.length := ⟨_, rfl⟩
        rw [← hcl2] at T1 T2 hcl
        clear hcl2
        have hwt : ¬ ((cl : Int) > ((cl + (catL O 3).length : Nat) : Int)) := by omega
        generalize cl + (catL O 3).length = wt at *
        go_wp2_with fail
        refine T1.out.mono ?_
        rintro e w4 ⟨rfl, rfl⟩
        go_wp2_with fail
        refine T2.out.mono ?_
        rintro e w4 ⟨rfl, rfl⟩
        go_wp2_with fail
        obtain ⟨wz, hwz⟩ : ∃ wz, wz = wr.alloc (.cells #[.int .i64 K, .int .i64 T, .int .i64 X] 32) := ⟨_, rfl⟩
        rw [← hwz] at HB5 ⊢
        clear hwz T1 T2 hwt hcl
      rotate_left
      focus
        have hk3' : (K.tmod 5 % 5 == 3) = false := by simpa using hk3
        have hk4' : (K.tmod 5 % 5 == 4) = false := by simpa using hk4
        have T1 := hide (qpush_in HQ.out HK.out t ht3 (x : Int) (by omega))
        have HK' := hide (HK.out.push ht3 (x : Int))
        have HTP : Hid (∀ v, tot C O v + [(x : Int)].count v = (pushV B C O t x).count v + tot (pushC B C O t x) (pushO O t x) v) := fun v => (tot_push ht3 _ v).symm
        have HU := hide (HC.out.up hx64)
        have hfd : 0 ≤ f1 x ∧ f1 x ≤ 300 := by
          have h1 := tot_le HK.out (x : Int)
          rw [HC.out.eq x hx64]; omega
        obtain ⟨hf0, hf1⟩ := hfd
        have HVL : Hid ((pushV B C O t x).length ≤ 4) := by
          show _ ≤ _
          unfold pushV
          by_cases h3 : (O t).length < 3
          · rw [if_pos h3]; simp
          · rw [if_neg h3, List.length_drop, List.length_append]
            have := HK.out.o t ht3
            simp; omega
        generalize pushC B C O t x = C' at *
        generalize pushO O t x = O' at *
        generalize pushV B C O t x = D at *
        go_wp2_with fail
        refine T1.out.mono ?_
        rintro e w4 ⟨F', A1, c1', G1, rfl, hq, hl, hf, hn, hg⟩
        have hb4 := HB.out.fr hf (foot_apart HQ.out HB.out)
        have kc : w4.cell? ⟨cb, x, none⟩ = some (.int .i64 (f1 x)) := by rw [hb4.cell, rowV_at hx64]
        have kz := hb4.frozen x
        have HFC : Hid (Fr [cb] w4 (w4.setCell ⟨cb, x, none⟩ (.int .i64 (f1 x + 1)))) := (Fr.refl _ _).setCell (p := ⟨cb, x, none⟩) (.inl (by simp)) _
        have HX5 : Hid (Qq (w4.setCell ⟨cb, x, none⟩ (.int .i64 (f1 x + 1))) q F' 3 B C' O' ∧ Blk (w4.setCell ⟨cb, x, none⟩ (.int .i64 (f1 x + 1))) cb 49 (rowV .i64 64 (put1 f1 x (f1 x + 1))) ∧ Lr (w4.setCell ⟨cb, x, none⟩ (.int .i64 (f1 x + 1))) 3 A1 D.length c1' G1 (zv D) ∧ (∀ y, y ∈ F' → W.heap.size ≤ y) ∧ Fr [] W (w4.setCell ⟨cb, x, none⟩ (.int .i64 (f1 x + 1))) ∧ Cnt (put1 f1 x (f1 x + 1)) (fun v => (D.drop 0).count v + tot C' O' v)) := by
          refine ⟨hq.fr HFC.out (fun y hy h => by simp at h; exact foot_apart hq hb4 (h ▸ hy)), hb4.putRow x (f1 x + 1), hl.fr HFC.out (fun y hy h => by simp at h; exact hl.apart hb4 (by decide) (h ▸ hy)), later HP.out hn (P := fun x => W.heap.size ≤ x) (fun x hx => Nat.le_trans HF.out.size hx), Fr.within (Fr.within HF.out hf HP.out) HFC.out (fun x hx => by simp at hx; rw [hx]; exact HCB.out), ?_⟩
          have h := HU.out
          rw [show (fun v => tot C O v + [(x : Int)].count v) = fun v => (D.drop 0).count v + tot C' O' v from funext fun v => by rw [HTP.out v, List.drop_zero]] at h
          exact h
        clear hq hl hf hn hg T1 hb4 HFC HU HTP
        generalize put1 f1 x (f1 x + 1) = f2 at *
        obtain ⟨y, hy⟩ : ∃ y, y = f1 x := ⟨_, rfl⟩
        rw [← hy] at kc hf0 hf1 HX5
        clear hy
        go_wp2_with fail
        obtain ⟨w5, hw5⟩ : ∃ w5, w5 = w4.setCell ⟨cb, x, none⟩ (.int .i64 (y + 1)) := ⟨_, rfl⟩
        rw [← hw5] at HX5 ⊢
        clear hw5 kc kz c0 c1 c2 HX HXB HQ HB HF
        obtain ⟨dl, hdl⟩ : ∃ dl, dl = D.length := ⟨_, rfl⟩
        have HDL : Hid (dl = D.length ∧ dl ≤ 4) := ⟨hdl, by rw [hdl]; exact HVL.out⟩
        rw [← hdl] at HX5 ⊢
        clear hdl
        go_loopw [15] (fun i wr => ∃ (j : Nat) (g : Nat → Int), i = .int .i64 j ∧ j ≤ dl ∧ Blk wr cb 49 (rowV .i64 64 g) ∧ (Cnt g fun v => (D.drop j).count v + tot C' O' v) ∧ Lr wr 3 A1 dl c1' G1 (zv D) ∧ Qq wr q F' 3 B C' O' ∧ Fr [] W wr) (fun i _ => dl - (intOf i).toNat)
        case atStart =>
          obtain ⟨a1, a2, a3, a4, a5, a6⟩ := HX5.out
          exact ⟨0, f2, rfl, Nat.zero_le _, a2, a6, a3, a1, a5⟩
        obtain ⟨j, g, rfl, hj, hb, hcn, hl, hq, hf⟩ := hrel
        by_cases hlt5 : j < dl
        focus
          have hlt6 : (j : Int) < (dl : Int) := by omega
          have hdl4 : dl ≤ 4 := HDL.out.2
          obtain ⟨g0, off5, rfl, rfl, hgl, hcell, _, _⟩ := hl.pos (by omega)
          have hjD : j < D.length := by have := HDL.out.1; omega
          obtain ⟨d, hd, hd64, hg0, hg1, hcn2⟩ := hcn.step hjD (N := B + 192) (fun v => tot_le HK'.out v)
          have jc : wr.cell? ⟨g0, off5 + j, none⟩ = some (.int .i64 (d : Int)) := by
            rw [hcell j hlt5, zv_get _ hjD, hd]
          have hg2 : g d ≤ 300 := by have := HDL.out; omega
          have hd1 : ¬ ((d : Int) < 0) := by omega
          have hd2 : ¬ ((d : Int) > 63) := by omega
          have hd3 : (d : Int) < 64 := by omega
          have kc : wr.cell? ⟨cb, d, none⟩ = some (.int .i64 (g d)) := by rw [hb.cell, rowV_at hd64]
          have kz := hb.frozen d
          have HB7 := hide (hb.putRow d (g d - 1))
          have HF7 : Hid (Fr [cb] wr (wr.setCell ⟨cb, d, none⟩ (.int .i64 (g d - 1)))) := (Fr.refl _ _).setCell (p := ⟨cb, d, none⟩) (.inl (by simp)) _
          have HQ7 := hide (hq.fr HF7.out (fun y hy h => by simp at h; exact foot_apart hq hb (h ▸ hy)))
          have HL7 := hide (hl.fr HF7.out (fun y hy h => by simp at h; exact hl.apart hb (by decide) (h ▸ hy)))
          have HF8 := hide (Fr.within hf HF7.out (fun x hx => by simp at hx; rw [hx]; exact HCB.out))
          have HC7 := hide hcn2
          clear hb hcn hl hq hf hcell hd hg1 hcn2
          generalize put1 g d (g d - 1) = g7 at *
          generalize g d = y7 at *
          go_wp2_with fail
          go_roundw
          case rel => exact ⟨j + 1, g7, by go_num, by omega, HB7.out, HC7.out, HL7.out, HQ7.out, HF8.out⟩
          case measure => simp [intOf]; omega
        have HB5 : Hid (St W wr q cb B) := by
          refine ⟨F', C', O', g, hq, HK'.out, hb, ?_, HX5.out.2.2.2.1, hf⟩
          have := hcn
          rw [List.drop_of_length_le (by have := HDL.out.1; omega)] at this
          simpa using this
        clear hb hcn hl hq hf HX5
        go_wp2_with fail
        obtain ⟨wz, hwz⟩ : ∃ wz, wz = wr := ⟨_, rfl⟩
        subst hwz
      all_goals
        obtain ⟨F, C, O, f1, hq, hok, hb, hc, hp, hf⟩ := HB5.out
        have T1 := hide (qlen_any hq)
        have hcl : ¬ ((C.length : Int) > (B : Int)) := by have := hok.c; omega
        clear hq hok hb hc hp hf
        generalize C.length = cl at *
        go_wp2_with fail
        refine T1.out.mono ?_
        rintro e w8 ⟨rfl, rfl⟩
        go_wp2_with fail
        go_roundw
        case rel => exact ⟨k + 1, by go_num, by omega, by omega, HB5.out⟩
        case measure => simp [intOf]; omega
    · have hway : ¬ (k : Int) < (na : Int) ∨ ((k : Int) < (na : Int) ∧ ¬ (k : Int) < 400) := by omega
      obtain ⟨F, C, O, f1, hq, hok, hb, hc, hp, hf⟩ := HST.out
      have T1 := hide (qdrain_any hq hok)
      have HDL0 : Hid ((C ++ catL O 3).length ≤ 300) := by
        have h1 := hok.cat
        have h2 := hok.c
        show _ ≤ _
        rw [List.length_append]; omega
      have HC0 : Hid (Cnt f1 fun v => ((C ++ catL O 3).drop 0).count v + 0) := by
        have h := hc
        rw [show tot C O = fun v => ((C ++ catL O 3).drop 0).count v + 0 from funext fun v => by rw [List.drop_zero, List.count_append]; rfl] at h
        exact h
      have HX0 : Hid (∀ w' F', Fr F' wr w' → F' = F → Blk w' cb 49 (rowV .i64 64 f1) ∧ Fr [] W w') := fun w' F' h1 h2 => by
        subst h2
        exact ⟨hb.fr h1 (foot_apart hq hb), Fr.within hf h1 hp⟩
      have HK1 := hide (QOk.new hok.n1 hok.n2 hok.b)
      generalize C ++ catL O 3 = D at *
      clear hlt hq hok hb hc hp hf
      rcases hway with w1 | ⟨w1, w2⟩
      all_goals
        go_wp2_with fail
        refine T1.out.mono ?_
        rintro e w4 ⟨F', A1, c1', G1, rfl, hq, hl, hf, hn, hg⟩
        obtain ⟨hb4, hf4⟩ := HX0.out _ _ hf rfl
        have HQ4 := hide hq
        have HL4 := hide hl
        have HB4 := hide hb4
        have HF4 := hide hf4
        clear hq hl hf hn hg hb4 hf4
        obtain ⟨dl, hdl⟩ : ∃ dl, dl = D.length := ⟨_, rfl⟩
        have HDL : Hid (dl = D.length ∧ dl ≤ 300) := ⟨hdl, by rw [hdl]; exact HDL0.out⟩
        rw [← hdl] at HL4 ⊢
        clear hdl
        go_wp2_with fail
        go_loopw [17] (fun i wr => ∃ (j : Nat) (g : Nat → Int), i = .int .i64 j ∧ j ≤ dl ∧ Blk wr cb 49 (rowV .i64 64 g) ∧ (Cnt g fun v => (D.drop j).count v + 0) ∧ Lr wr 3 A1 dl c1' G1 (zv D) ∧ Qq wr q F' 3 B [] (fun _ => []) ∧ Fr [] W wr) (fun i _ => dl - (intOf i).toNat)
        case atStart => exact ⟨0, f1, rfl, Nat.zero_le _, HB4.out, HC0.out, HL4.out, HQ4.out, HF4.out⟩
        obtain ⟨j, g, rfl, hj, hb, hcn, hl, hq, hf⟩ := hrel
        by_cases hlt5 : j < dl
        focus
          have hlt6 : (j : Int) < (dl : Int) := by omega
          have hdl4 : dl ≤ 300 := HDL.out.2
          obtain ⟨g0, off5, rfl, rfl, hgl, hcell, _, _⟩ := hl.pos (by omega)
          have hjD : j < D.length := by have := HDL.out.1; omega
          obtain ⟨d, hd, hd64, hg0, hg1, hcn2⟩ := hcn.step hjD (N := 0) (R := fun _ => 0) (fun v => Nat.le_refl _)
          have jc : wr.cell? ⟨g0, off5 + j, none⟩ = some (.int .i64 (d : Int)) := by
            rw [hcell j hlt5, zv_get _ hjD, hd]
          have hg2 : g d ≤ 300 := by have := HDL.out; omega
          have hd1 : ¬ ((d : Int) < 0) := by omega
          have hd2 : ¬ ((d : Int) > 63) := by omega
          have hd3 : (d : Int) < 64 := by omega
          have kc : wr.cell? ⟨cb, d, none⟩ = some (.int .i64 (g d)) := by rw [hb.cell, rowV_at hd64]
          have kz := hb.frozen d
          have HB7 := hide (hb.putRow d (g d - 1))
          have HF7 : Hid (Fr [cb] wr (wr.setCell ⟨cb, d, none⟩ (.int .i64 (g d - 1)))) := (Fr.refl _ _).setCell (p := ⟨cb, d, none⟩) (.inl (by simp)) _
          have HQ7 := hide (hq.fr HF7.out (fun y hy h => by simp at h; exact foot_apart hq hb (h ▸ hy)))
          have HL7 := hide (hl.fr HF7.out (fun y hy h => by simp at h; exact hl.apart hb (by decide) (h ▸ hy)))
          have HF8 := hide (Fr.within hf HF7.out (fun x hx => by simp at hx; rw [hx]; exact HCB.out))
          have HC7 := hide hcn2
          clear hb hcn hl hq hf hcell hd hg1 hcn2
          generalize put1 g d (g d - 1) = g7 at *
          generalize g d = y7 at *
          go_wp2_with fail
          go_roundw
          case rel => exact ⟨j + 1, g7, by go_num, by omega, HB7.out, HC7.out, HL7.out, HQ7.out, HF8.out⟩
          case measure => simp [intOf]; omega
        have HE : Hid (∀ c, c < 64 → g c = 0) := fun c hc => by
          have := hcn.eq c hc
          rw [List.drop_of_length_le (by have := HDL.out.1; omega)] at this
          simpa using this
        have HB9 := hide hb
        have HQ9 := hide hq
        have HF9 := hide hf
        clear hb hcn hl hq hf
        go_wp2_with fail
        go_loop [18] (fun i => ∃ c : Nat, i = .int .i64 c ∧ c ≤ 64) (fun i => 64 - (intOf i).toNat)
        case atStart => exact ⟨0, rfl, by decide⟩
        obtain ⟨c, rfl, hc⟩ := hrel
        by_cases hlt7 : c < 64
        focus
          have hlt8 : (c : Int) < 64 := by omega
          have kc : wr.cell? ⟨cb, c, none⟩ = some (.int .i64 0) := by rw [HB9.out.cell, rowV_at hlt7, HE.out c hlt7]
          go_wp2_with fail
          go_round
          case rel => exact ⟨c + 1, by go_num, by omega⟩
          case measure => simp [intOf]; omega
        obtain rfl : c = 64 := by omega
        have T4 : Hid (Calls Try.prog 16 #[.pointer (some ⟨q, 0, none⟩)] wr fun e w' => e = .returned (.int .i64 0) ∧ wr = w') := qlen_any HQ9.out
        have T5 : Hid (Calls Try.prog 17 #[.pointer (some ⟨q, 0, none⟩)] wr fun e w' => e = .returned (.int .i64 0) ∧ wr = w') := by
          have h := qwaiting_any HQ9.out HK1.out
          rw [catL_none (fun _ _ => rfl)] at h
          exact h
        go_wp2_with (first | (go_at_call 16; refine T4.out.mono ?_; rintro e w7 ⟨rfl, rfl⟩) | (go_at_call 17; refine T5.out.mono ?_; rintro e w7 ⟨rfl, rfl⟩))
        go_ret
        exact ⟨rfl, HF9.out.below_nil⟩
theorem holds {H : Type} {enc : TypeId × Value → H} {W : World} {base : Nat} {args : Array Value} {ds : List (DataW H)} {p : List MemPlace}
    (hval : ∀ (j : Nat) t v, Try.f4.params[j]? = some t → args[j]? = some v → Value.okWide Try.prog W .any base t v)
    (hA : DataW.TrodAll enc Try.prog W 0 (fun _ => true) true Try.f4.params.toList args.toList ds p) : Holds Try.prog 4 args W := by
  rw [Try.params4] at hA hval
  obtain ⟨v0, vs0, d0, ds0, p0, q0, hargs, rfl, rfl, h0, r0⟩ := trodAll_cons hA
  obtain ⟨v1, vs1, d1, ds1, p1, q1, rfl, rfl, rfl, h1, r1⟩ := trodAll_cons r0
  obtain ⟨rfl, rfl, rfl⟩ := trodAll_nil r1
  obtain rfl : args = #[v0, v1] := by cases args; simp_all
  obtain ⟨x0, rfl, rfl, rfl, _⟩ := open_int Try.underlying3 (hval 0 3 v0 rfl rfl) h0
  obtain ⟨A, na, ca, f, rfl, hna, hA2⟩ := open_acts10 (hval 1 22 v1 rfl rfl) h1
  exact walk W x0 A na ca f hA2 (by unfold maxLen at hna; omega)
theorem readable : ∀ t, t ∈ Try.f4.params.toList → Try.prog.readableRec t = true ∧ t < Try.prog.types.size := by
  intro t ht
  rw [Try.params4] at ht
  have hm : t = 3 ∨ t = 22 := by simp at ht; omega
  rcases hm with rfl | rfl
  all_goals exact ⟨by kernel_rfl, of_decide_eq_true (by kernel_rfl)⟩
theorem laid_met (os : Os) : laidMet Try.prog Rows.queueKeepsRow.laid ((laidWorld os).forCall (fun _ _ => 0) ⟨#[], #[.int .i64 0, .slice none 0 0], []⟩).memory :=
  ⟨[], rfl, List.nodup_nil, fun _ _ h => by cases h⟩
theorem reads (os : Os) {H : Type} (enc : TypeId × Value → H) : ∃ places, DataW.whole enc Try.prog ((laidWorld os).forCall (fun _ _ => 0) ⟨#[], #[.int .i64 0, .slice none 0 0], []⟩).memory Try.f4.params.toList Rows.queueKeepsSpec.vars false (#[.int .i64 0, .slice none 0 0] : Array Value).toList 8 = some ([.lit (.int .i64 0), .nil], [], places) :=
  ⟨[], by kernel_rfl⟩
theorem spec {H : Type} : ∀ ds : List (DataW H), ds.length = Try.f4.params.toList.length → Rows.queueKeepsSpec.fn H (ds ++ []) = { results := [.lit (.bool true)], args := ds, vars := [] } := by
  intro ds h
  rw [Try.params4] at h
  simp only [List.append_nil]
  match ds, h with
  | [_, _], _ => rfl

set_option maxRecDepth 100000 in
theorem lifted (os : Os) (started : os.Started) (H : Type) (enc : TypeId × Value → H) (F : Stop.Interp) :
    ReturnsInHanded {} Try.checked os 4 .any ((OpenSpec.ofChange Rows.queueKeepsSpec).preRow enc Try.prog Try.f4 Rows.queueKeepsRow.domain false Rows.queueKeepsRow.laid) (((OpenSpec.ofChange Rows.queueKeepsSpec).at F).post enc Try.prog Try.f4 false true false false) := by
  obtain ⟨places, hx⟩ := reads os enc
  refine returnsInHanded_of_row (C := Try.checked) (s := OpenSpec.ofChange Rows.queueKeepsSpec) own started (by kernel_rfl) Try.func4
    (witness_row_at (enc := enc) (C := Try.checked) false (laidWorld os) #[.int .i64 0, .slice none 0 0] rfl (by kernel_rfl) (by kernel_rfl) (by kernel_rfl)
      (OpenSpec.preRow_of_cond 8 hx (by kernel_rfl) (fun k hk => by cases hk) (by kernel_rfl) (laid_met os))) ?_
  intro W base args ds gs before hval hW _ _ _ hL _ _
  have hW' : DataW.Whole enc Try.prog Try.f4.params.toList Rows.queueKeepsSpec.vars false W args.toList ds gs before := hW
  exact law_close (s := Rows.queueKeepsSpec) rfl rfl Try.underlying4 spec laidOut readable hW' (by
    obtain ⟨p, q, hA, _⟩ := hW'
    exact holds hval hA)

theorem said : Rows.QueueKeepsSaid :=
  OpenClaim.holds_of_cond 4 Try.f4 rfl rfl rfl rfl rfl rfl rfl ⟨rfl, rfl, rfl, rfl, rfl⟩ rfl rfl rfl rfl rfl (by kernel_rfl) Try.func4 (by kernel_rfl)
    (of_decide_eq_true (by kernel_rfl)) (by unfold Func.isWrapper; first | (rw [if_pos (by decide +kernel)]; kernel_rfl) | (rw [if_neg (by decide +kernel)]; exact ⟨rfl, rfl⟩))
    (fun os started H enc _ F => by rw [OpenClaim.pre_eq_preRow]; exact lifted os started H enc F)
end Go.Proofs.Ytdiedfnlmkokhaa.QueueKeeps
