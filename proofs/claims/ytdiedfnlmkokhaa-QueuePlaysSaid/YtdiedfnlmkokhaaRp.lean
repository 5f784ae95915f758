/- The document's queue: Push. -/
import Derived.Test.YtdiedfnlmkokhaaRq
import Derived.Deep.RegionLaw
import Derived.Deep.CutRange
namespace Go.Proofs.Ytdiedfnlmkokhaa
set_option linter.unusedVariables false
open Go.RowKit Go.Gl

theorem r10push_out {w : World} {q : Nat} {F : List Nat} {n B : Nat} {C : List Int} {O : Nat → List Int} (h : Mq w q F n B C O) (hk : QOk n B C O) (t x : Int) (ht : ¬ (0 ≤ t ∧ t < (n : Int) ∧ 0 ≤ x)) :
    Calls Try.prog 15 #[.pointer (some ⟨q, 0, none⟩), .int .i64 t, .int .i64 x] w (QRes w F (fun w' F' => Mq w' q F' n B C O) [] 2) := by
  have H := hide h
  obtain ⟨tb, A, c, G0, V, G, h, rfl⟩ := h
  have c2 := Mk.c2 h
  have hn := hk.n2
  clear h hk
  have h' : t < 0 ∨ (¬ t < 0 ∧ t ≥ (n : Int)) ∨ (¬ t < 0 ∧ ¬ t ≥ (n : Int) ∧ x < 0) := by omega
  clear ht
  rcases h' with h1 | ⟨h1, h2⟩ | ⟨h1, h2, h3⟩
  all_goals
    go_enter Try.func15, Try.ntmps15
    go_wp2
    go_ret2
    exact ⟨_, none, 0, [], rfl, H.out, Lr.nil _ _, Fr.refl _ _, fun x hx => .inl hx, fun _ h => by cases h⟩

theorem take_next (l : List Int) {j : Nat} (h : j < l.length) : l.take (j + 1) = l.take j ++ [l.getD j 0] := by
  rw [List.take_add_one, List.getElem?_eq_getElem h]
  simp [h]
set_option maxRecDepth 100000 in
set_option maxHeartbeats 6400000 in
theorem r10push_in {w : World} {q : Nat} {F : List Nat} {n B : Nat} {C : List Int} {O : Nat → List Int} (h : Mq w q F n B C O) (hk : QOk n B C O) (t : Nat) (ht : t < n) (x : Int) (hx : 0 ≤ x) :
    Calls Try.prog 15 #[.pointer (some ⟨q, 0, none⟩), .int .i64 (t : Int), .int .i64 x] w (QRes w F (fun w' F' => Mq w' q F' n B (pushC B C O t x) (pushO O t x)) (pushV B C O t x) 0) := by
  obtain ⟨tb, A, c, G0, V, G, h, rfl⟩ := h
  obtain ⟨i0, hi, hz0, hz1, hz2⟩ := info_parts Try.info_int
  have hn := hk.n2
  have ho := hk.o t ht
  have HK := hide hk
  obtain ⟨A1, c1, e1, e2⟩ := h.ls.own t ht
  have ht1 : ¬ ((t : Int) < 0) := by omega
  have ht2 : ¬ ((t : Int) ≥ (n : Int)) := by omega
  have ht3 : (t : Int) < (n : Int) := by omega
  have hx1 : ¬ (x < 0) := by omega
  have hct := Mk.cw h ht
  rw [e1] at hct
  have c2 := Mk.c2 h
  have zt := h.ls.tab.frozen t
  have H := hide h
  have HL := hide e2
  have HN : Hid (([Value.int .i64 x]).length = 1 ∧ (∀ u ∈ [Value.int .i64 x], u.oneCell' = true) ∧ (O t).length + 1 ≤ maxLen ∧ ((O t).length + 1) * 8 ≤ 140737488355328) := ⟨rfl, by simp [Value.oneCell'], by unfold maxLen; omega, by omega⟩
  have HFZ : Hid (∀ w1 w', Fr [] w w1 → Fr (G t) w1 w' → w'.cell? ⟨q, 2, none⟩ = some (.slice (some ⟨tb, 0, none⟩) n n) ∧ w'.cell? ⟨tb, t, none⟩ = some (.slice A1 (O t).length c1) ∧ w'.frozen? ⟨tb, t, none⟩ = false) := fun w1 w' hf0 hf => by
    have hb := (h.st.fr hf0 (by simp)).fr hf (e2.apart h.st (by decide))
    have ht' := (h.ls.tab.fr hf0 (by simp)).fr hf (e2.apart h.ls.tab (by decide))
    exact ⟨by rw [hb.cell]; rfl, by rw [ht'.cell, rowF_at ht, e1], ht'.frozen t⟩
  have N0 : tb < w.heap.size := h.ls.tab.lt
  have N1 : q < w.heap.size := h.st.lt
  clear h e1 e2 hk
  go_enter Try.func15, Try.ntmps15
  go_wp2_with fail
  go_cut [] from 25 to 40 (fun wc => ∃ A' c' G', Mk wc q tb n B A c C G0 (putF V t (.slice A' ((O t).length + 1) c')) (putF G t G') (putF O t (O t ++ [x])) ∧ Fr (foot q tb n G0 G) w wc ∧ (∀ y, y ∈ foot q tb n G0 (putF G t G') → y ∈ foot q tb n G0 G ∨ w.heap.size ≤ y))
  case first =>
    go_region_law (first | (refine step_append_lr rfl _ _ 38 rfl 3 i0 (.int .i64 0) 8 Try.underlying38 hi hz0 hz1 hz2 rfl rfl (HL.out.fr0 ((Fr.refl _ _).alloc _).drew) rfl HN.out.1 (fun _ => one_of w _ 3 rfl _ ((Fr.refl _ _).drew)) HN.out.2.1 HN.out.2.2.1 HN.out.2.2.2 ?_; intro A' c' G' w' HLn HFn HGn; have d0 := (HFZ.out _ _ ((Fr.refl _ _).alloc _).drew HFn.out).1; have d1 := (HFZ.out _ _ ((Fr.refl _ _).alloc _).drew HFn.out).2.1; have dz := (HFZ.out _ _ ((Fr.refl _ _).alloc _).drew HFn.out).2.2))
    all_goals
      have hlen : (O t ++ [x]).length = (O t).length + 1 := by simp
      have HQ1 : Hid (Mk (w'.setCell ⟨tb, t, none⟩ (.slice A' ((O t).length + 1) c')) q tb n B A c C G0 (putF V t (.slice A' ((O t).length + 1) c')) (putF G t G') (putF O t (O t ++ [x]))) := by
        have h1 := (H.out.fr0 (((Fr.refl [] w).alloc (.cells #[.int .i64 x] 3)).drew)).own_put (by decide) (by decide) (by decide) ht HFn.out (l := O t ++ [x]) (A1 := A') (c1 := c') (G1 := G') (by rw [hlen, zv_app]; exact HLn.out) (fun y hy => (HGn.out y hy).imp id (fun h => by rw [h.1]; exact Nat.le_refl _))
        rw [hlen] at h1
        exact h1
      have HF1 : Hid (Fr (foot q tb n G0 G) w (w'.setCell ⟨tb, t, none⟩ (.slice A' ((O t).length + 1) c'))) := (((Fr.refl _ w).alloc (.cells #[.int .i64 x] 3)).drew).trans_same ((H.out.fr0 (((Fr.refl [] w).alloc (.cells #[.int .i64 x] 3)).drew)).own_fr ht HFn.out _)
      have HG1 : Hid (∀ y, y ∈ foot q tb n G0 (putF G t G') → y ∈ foot q tb n G0 G ∨ w.heap.size ≤ y) := Qc.own_foot ht (fun y hy => (HGn.out y hy).imp id (fun h => by rw [h.1]; simp))
      clear d0 d1 dz
      go_wp2_with fail
      go_meet
      case rel => exact ⟨A', c', G', HQ1.out, HF1.out, HG1.out⟩
  case rest =>
    obtain ⟨A2, c2', G', hq, hf, hg⟩ := hcut
    have hlen : (O t ++ [x]).length = (O t).length + 1 := by simp
    have HQ1 := hide hq
    have HF1 := hide hf
    have HG1 := hide hg
    have f2 := Mk.c2 hq
    have ft := Mk.cw hq ht
    rw [putF_at] at ft
    clear hq hf hg c2 hct zt
    by_cases h3 : (O t).length < 3
    · have h4 : ((O t).length : Int) + 1 < 4 := by omega
      have EC : Hid (pushC B C O t x = C ∧ pushO O t x = putF O t (O t ++ [x]) ∧ pushV B C O t x = []) := by
        unfold pushC pushO pushV
        rw [if_pos h3, if_pos h3, if_pos h3]
        exact ⟨rfl, rfl, rfl⟩
      go_wp2_with fail
      go_ret2
      rw [EC.out.1, EC.out.2.1, EC.out.2.2]
      exact ⟨_, none, 0, [], rfl, ⟨_, _, _, _, _, _, HQ1.out, rfl⟩, Lr.nil _ _, HF1.out, HG1.out, fun _ h => by cases h⟩
    · have h4 : (O t).length = 3 := by omega
      have EC : Hid (pushC B C O t x = C ++ (O t ++ [x]).take (B - C.length) ∧ pushO O t x = putF O t [] ∧ pushV B C O t x = (O t ++ [x]).drop (B - C.length)) := by
        unfold pushC pushO pushV
        rw [if_neg h3, if_neg h3, if_neg h3]
        exact ⟨rfl, rfl, rfl⟩
      have h31 : 3 + 1 = 4 := rfl
      rw [h4, h31] at ft
      obtain ⟨own, hown⟩ : ∃ own, own = O t ++ [x] := ⟨_, rfl⟩
      have HOW : Hid (own.length = 4) := by show _ = _; rw [hown, hlen]; omega
      rw [← hown] at EC
      rw [h4, h31, ← hown] at HQ1
      obtain ⟨R, hR⟩ : ∃ R : Nat, R = B - C.length := ⟨_, rfl⟩
      have HR : Hid (R = B - C.length ∧ C.length ≤ B ∧ B ≤ 65536) := ⟨hR, HK.out.c, HK.out.b⟩
      rw [← hR] at EC
      obtain ⟨Aw, cw, ew, lw⟩ := HQ1.out.ls.own t ht
      rw [putF_at, putF_at, HOW.out] at ew
      injection ew with ew1 ew0 ew2
      subst ew1 ew2
      clear ew0
      rw [putF_at, putF_at, HOW.out] at lw
      obtain ⟨g, off, rfl, rfl, hgl, _, _, _⟩ := lw.pos (by decide)
      obtain ⟨V1, hV1⟩ : ∃ V1, V1 = putF V t (.slice (some ⟨g, off, none⟩) 4 c2') := ⟨_, rfl⟩
      obtain ⟨G1, hG1⟩ : ∃ G1, G1 = putF G t [g] := ⟨_, rfl⟩
      obtain ⟨O1, hO1⟩ : ∃ O1, O1 = putF O t own := ⟨_, rfl⟩
      rw [← hV1, ← hG1, ← hO1] at HQ1
      rw [← hG1] at HG1
      have HT1 : Hid (V1 t = .slice (some ⟨g, off, none⟩) 4 c2' ∧ O1 t = own ∧ putF O1 t [] = putF O t []) := ⟨by rw [hV1, putF_at], by rw [hO1, putF_at], by rw [hO1, putF_twice]⟩
      have HLW : Hid (∀ w' A c C G0, Mk w' q tb n B A c C G0 V1 G1 O1 → w'.cell? ⟨tb, t, none⟩ = some (.slice (some ⟨g, off, none⟩) 4 c2') ∧ ∀ j, j < 4 → w'.cell? ⟨g, off + j, none⟩ = some (.int .i64 (own.getD j 0))) := fun w' A c C G0 hq => by
        obtain ⟨A', c', e1, e2⟩ := hq.ls.own t ht
        refine ⟨by rw [Mk.cw hq ht, HT1.out.1], fun j hj => ?_⟩
        rw [HT1.out.1] at e1
        injection e1 with e3 e4 e5
        subst e3 e5
        rw [HT1.out.2.1, HOW.out] at e2
        obtain ⟨g', off', e6, _, _, e7, _⟩ := e2.pos (by decide)
        injection e6 with e6
        injection e6 with e6 e8
        subst e6 e8
        rw [e7 j hj, zv_get _ (by rw [HOW.out]; exact hj)]
      have N2 : tb < wc.heap.size := HQ1.out.ls.tab.lt
      have N3 : q < wc.heap.size := HQ1.out.st.lt
      have HNN : Hid (tb < wc.heap.size ∧ q < wc.heap.size) := ⟨N2, N3⟩
      clear hown hR h3 lw hV1 hG1 hO1 hgl hlen h31 h4 ho N0 N1 N2 N3 HL HN HFZ H
      go_wp2_with fail
      clear ft f2
      go_loopw [8, 9] (fun v i wr => ∃ (j : Nat) (Aj : Option Addr) (cj : Nat) (G0j : List Nat) (Ao : Option Addr) (co : Nat) (Go : List Nat), i = .int .i64 j ∧ j ≤ 4 ∧ v = .slice Ao ((own.take j).drop R).length co ∧ Lr wr 3 Ao ((own.take j).drop R).length co Go (zv ((own.take j).drop R)) ∧ Mk wr q tb n B Aj cj (C ++ own.take (min j R)) G0j V1 G1 O1 ∧ Fr (foot q tb n G0 G1) wc wr ∧ (∀ y, y ∈ G0j → y ∈ G0 ∨ wc.heap.size ≤ y) ∧ (∀ y, y ∈ Go → wc.heap.size ≤ y) ∧ ∀ y, y ∈ Go → y ∉ G0j) (fun _ i _ => 4 - (intOf i).toNat)
      case atStart => exact ⟨0, A, c, G0, none, 0, [], rfl, by decide, by simp, by simpa [zv] using Lr.nil _ _, by simpa using HQ1.out, Fr.refl _ _, fun _ h => .inl h, fun _ h => (by cases h), fun _ h => (by cases h)⟩
      case round =>
        obtain ⟨j, Aj, cj, G0j, Ao, co, Go, rfl, hj, rfl, hl, hq, hf, hg0, hgo, hgd⟩ := hrel
        have HLj := hide hl
        have HQj := hide hq
        have HFj := hide hf
        have HG0j := hide hg0
        have HGoj := hide hgo
        have HGdj := hide hgd
        clear hl hq hf hg0 hgo hgd
        by_cases hlt : j < 4
        · have hlt1 : (j : Int) < 4 := by omega
          have HNX := hide (take_next own (show j < own.length by rw [HOW.out]; exact hlt))
          obtain ⟨Cj, hCj⟩ : ∃ Cj, Cj = C ++ own.take (min j R) := ⟨_, rfl⟩
          have HCl : Hid (Cj.length = C.length + min j R ∧ Cj.length ≤ 65536 ∧ (zv [own.getD j 0] = [.int .i64 (own.getD j 0)])) := by
            have h1 : Cj.length = C.length + min j R := by rw [hCj, List.length_append, List.length_take, HOW.out]; omega
            have := HR.out
            exact ⟨h1, by omega, rfl⟩
          have HCn : Hid ((j < R → C ++ own.take (min (j + 1) R) = Cj ++ [own.getD j 0] ∧ (own.take (j + 1)).drop R = (own.take j).drop R) ∧ (¬ j < R → C ++ own.take (min (j + 1) R) = Cj ∧ (own.take (j + 1)).drop R = (own.take j).drop R ++ [own.getD j 0])) := by
            refine ⟨fun h => ⟨?_, ?_⟩, fun h => ⟨?_, ?_⟩⟩
            · rw [hCj, show min (j + 1) R = j + 1 by omega, show min j R = j by omega, HNX.out, List.append_assoc]
            · rw [List.drop_of_length_le (by rw [List.length_take]; omega), List.drop_of_length_le (by rw [List.length_take]; omega)]
            · rw [hCj, show min (j + 1) R = R by omega, show min j R = R by omega]
            · rw [HNX.out, List.drop_append_of_le_length (by rw [List.length_take, HOW.out]; omega)]
          have HCB : Hid (j < R ↔ Cj.length < B) := by
            have h1 := HCl.out.1
            have h2 := HR.out
            show _ ↔ _
            omega
          rw [← hCj] at HQj
          clear hCj HNX
          obtain ⟨D, hD⟩ : ∃ D, D = (own.take j).drop R := ⟨_, rfl⟩
          rw [← hD] at HLj HCn ⊢
          have HDl : Hid (D.length ≤ 4) := by show _ ≤ _; rw [hD, List.length_drop, List.length_take]; omega
          clear hD
          have d0 := Mk.c0 HQj.out
          have d1 := Mk.c1 HQj.out
          have d2 := Mk.c2 HQj.out
          have dt := (HLW.out _ _ _ _ _ HQj.out).1
          have dj := (HLW.out _ _ _ _ _ HQj.out).2 j hlt
          have z1 := HQj.out.st.frozen 1
          obtain ⟨y, hy⟩ : ∃ y, y = own.getD j 0 := ⟨_, rfl⟩
          have EY := hide hy
          rw [← hy] at dj HCl HCn
          clear hy
          have HN1 : Hid (([Value.int .i64 y]).length = 1 ∧ (∀ u ∈ [Value.int .i64 y], u.oneCell' = true) ∧ Cj.length + 1 ≤ maxLen ∧ (Cj.length + 1) * 8 ≤ 140737488355328 ∧ D.length + 1 ≤ maxLen ∧ (D.length + 1) * 8 ≤ 140737488355328) := by
            have := HCl.out.2.1
            have := HDl.out
            exact ⟨rfl, by simp [Value.oneCell'], by unfold maxLen; omega, by omega, by unfold maxLen; omega, by omega⟩
          by_cases hjR : j < R
          · have hlt2 : (Cj.length : Int) < (B : Int) := by have := HCB.out.1 hjR; omega
            go_wp2_with fail
            go_quiet (fail)
            have HL5 : Hid (Lr (wr.drewN nq) 3 Ao D.length co Go (zv D)) := HLj.out.drewN nq
            have HQ5 : Hid (Mk (wr.drewN nq) q tb n B Aj cj Cj G0j V1 G1 O1) := HQj.out.fr0 ((Fr.refl _ _).drewN nq)
            have HF5 : Hid (Fr (foot q tb n G0 G1) wc (wr.drewN nq)) := HFj.out.drewN nq
            clear HLj HQj HFj d0 d1 d2 dt dj z1
            generalize wr.drewN nq = w5 at *
            have d0 := Mk.c0 HQ5.out
            have d1 := Mk.c1 HQ5.out
            have d2 := Mk.c2 HQ5.out
            have dt := (HLW.out _ _ _ _ _ HQ5.out).1
            have dj := (HLW.out _ _ _ _ _ HQ5.out).2 j hlt
            rw [← EY.out] at dj
            have N4 : tb < w5.heap.size := HQ5.out.ls.tab.lt
            have N5 : q < w5.heap.size := HQ5.out.st.lt
            have N6 : g < w5.heap.size := lt_of_cell dj
            have HS5 : Hid (wc.heap.size ≤ w5.heap.size) := HF5.out.size
            have HFZ : Hid (∀ w1 w', Fr [] w5 w1 → Fr G0j w1 w' → w'.cell? ⟨q, 1, none⟩ = some (.slice Aj Cj.length cj) ∧ w'.frozen? ⟨q, 1, none⟩ = false) := fun w1 w' hf0 hf => by
              have hb := (HQ5.out.st.fr hf0 (by simp)).fr hf (HQ5.out.com.apart HQ5.out.st (by decide))
              exact ⟨by rw [hb.cell]; rfl, hb.frozen 1⟩
            go_wp2_with fail
            go_region_law (first | (refine step_append_lr rfl _ _ 38 rfl 3 i0 (.int .i64 0) 8 Try.underlying38 hi hz0 hz1 hz2 rfl rfl (HQ5.out.com.fr0 ((Fr.refl _ _).alloc _).drew) rfl HN1.out.1 (fun _ => one_of w5 _ 3 rfl _ ((Fr.refl _ _).drew)) HN1.out.2.1 HN1.out.2.2.1 HN1.out.2.2.2.1 ?_; intro A' c' G' w' HLn HFn HGn; have d1 := (HFZ.out _ _ ((Fr.refl _ _).alloc _).drew HFn.out).1; have z1 := (HFZ.out _ _ ((Fr.refl _ _).alloc _).drew HFn.out).2))
            all_goals
              have hlen : (Cj ++ [y]).length = Cj.length + 1 := by simp
              have HQA := hide (HQ5.out.fr0 (((Fr.refl [] w5).alloc (.cells #[.int .i64 y] 3)).drew))
              have HQ7 : Hid (Mk (w'.setCell ⟨q, 1, none⟩ (.slice A' (Cj.length + 1) c')) q tb n B A' c' (C ++ own.take (min (j + 1) R)) G' V1 G1 O1) := by
                have h1 := HQA.out.com_put (by decide) (by decide) (by decide) (ci := 1) (fun _ _ _ => rfl) HFn.out (l := Cj ++ [y]) (A1 := A') (c1 := c') (G1 := G') (by rw [hlen, zv_app]; exact HLn.out) (fun z hz => (HGn.out z hz).imp id (fun h => by rw [h.1]; exact Nat.le_refl _))
                rw [hlen] at h1
                rw [(HCn.out.1 hjR).1]
                exact h1
              have HF7 : Hid (Fr (foot q tb n G0 G1) wc (w'.setCell ⟨q, 1, none⟩ (.slice A' (Cj.length + 1) c'))) := ((HF5.out.alloc (.cells #[.int .i64 y] 3)).drew).trans (HQA.out.com_fr HFn.out 1 _) (Qc.com_foot HG0j.out)
              have HL7 : Hid (Lr (w'.setCell ⟨q, 1, none⟩ (.slice A' (Cj.length + 1) c')) 3 Ao ((own.take (j + 1)).drop R).length co Go (zv ((own.take (j + 1)).drop R))) := by
                show Lr _ _ _ _ _ _ _
                rw [(HCn.out.1 hjR).2]
                exact ((HL5.out.fr0 (((Fr.refl [] w5).alloc (.cells #[.int .i64 y] 3)).drew)).fr HFn.out HGdj.out).fr (F := [q]) ((Fr.refl _ _).setCell (p := ⟨q, 1, none⟩) (.inl (by simp)) _) (fun z hz => by have := HGoj.out z hz; have := HNN.out.2; simp; omega)
              have HG7 : Hid ((∀ z, z ∈ G' → z ∈ G0 ∨ wc.heap.size ≤ z) ∧ ∀ z, z ∈ Go → z ∉ G') := by
                refine ⟨fun z hz => ?_, fun z hz hz2 => ?_⟩
                · rcases HGn.out z hz with h1 | ⟨h1, _⟩
                  · exact HG0j.out z h1
                  · right; have := HS5.out; rw [h1]; simp; omega
                · rcases HGn.out z hz2 with h1 | ⟨h1, _⟩
                  · exact HGdj.out z hz h1
                  · have h2 := HL5.out.lt z hz
                    rw [h1] at h2; simp at h2 <;> omega
              have HDD : Hid (((own.take (j + 1)).drop R).length = D.length) := by show _ = _; rw [(HCn.out.1 hjR).2]
              go_wp2_with fail
              go_roundw
              case rel => exact ⟨j + 1, A', c', G', Ao, co, Go, by go_num, by omega, by rw [HDD.out], HL7.out, HQ7.out, HF7.out, HG7.out.1, HGoj.out, HG7.out.2⟩
              case measure => simp [intOf]; omega
          · have hlt2 : ¬ (Cj.length : Int) < (B : Int) := by intro h; exact hjR (HCB.out.2 (by omega))
            go_wp2_with fail
            go_quiet (fail)
            have HL5 : Hid (Lr (wr.drewN nq) 3 Ao D.length co Go (zv D)) := HLj.out.drewN nq
            have HQ5 : Hid (Mk (wr.drewN nq) q tb n B Aj cj Cj G0j V1 G1 O1) := HQj.out.fr0 ((Fr.refl _ _).drewN nq)
            have HF5 : Hid (Fr (foot q tb n G0 G1) wc (wr.drewN nq)) := HFj.out.drewN nq
            clear HLj HQj HFj d0 d1 d2 dt dj z1
            generalize wr.drewN nq = w5 at *
            have d0 := Mk.c0 HQ5.out
            have d1 := Mk.c1 HQ5.out
            have d2 := Mk.c2 HQ5.out
            have dt := (HLW.out _ _ _ _ _ HQ5.out).1
            have dj := (HLW.out _ _ _ _ _ HQ5.out).2 j hlt
            rw [← EY.out] at dj
            have N4 : tb < w5.heap.size := HQ5.out.ls.tab.lt
            have N5 : q < w5.heap.size := HQ5.out.st.lt
            have N6 : g < w5.heap.size := lt_of_cell dj
            have HS5 : Hid (wc.heap.size ≤ w5.heap.size) := HF5.out.size
            have hDl : (D ++ [y]).length = D.length + 1 := by simp
            have HE7 : Hid (((own.take (j + 1)).drop R).length = D.length + 1 ∧ zv ((own.take (j + 1)).drop R) = zv D ++ [.int .i64 y]) := by
              rw [(HCn.out.2 hjR).2, hDl, zv_app]
              exact ⟨rfl, rfl⟩
            clear hDl
            go_wp2_with (first | (at_builtin; refine wpList_append_lr rfl _ _ 38 rfl 3 i0 (.int .i64 0) 8 Try.underlying38 hi hz0 hz1 hz2 rfl rfl (HL5.out.alloc _) rfl HN1.out.1 (fun _ => one_of w5 _ 3 rfl _ (Fr.refl _ _)) HN1.out.2.1 HN1.out.2.2.2.2.1 HN1.out.2.2.2.2.2 ?_; intro A' c' G' w' HLn HFn HGn))
            have HL7 : Hid (Lr w' 3 A' ((own.take (j + 1)).drop R).length c' G' (zv ((own.take (j + 1)).drop R))) := by
              show Lr _ _ _ _ _ _ _
              rw [HE7.out.1, HE7.out.2]; exact HLn.out
            have HQ7 : Hid (Mk w' q tb n B Aj cj (C ++ own.take (min (j + 1) R)) G0j V1 G1 O1) := by
              rw [(HCn.out.2 hjR).1]
              refine (HQ5.out.fr0 ((Fr.refl [] w5).alloc (.cells #[.int .i64 y] 3))).fr HFn.out (fun z hz hz2 => ?_)
              have h1 := HGoj.out z hz2
              rcases mem_foot.1 hz with rfl | rfl | h2 | ⟨i, hi, h2⟩
              · have := HNN.out.2; omega
              · have := HNN.out.1; omega
              · exact HGdj.out z hz2 h2
              · have := HQ1.out.ls.lt hi z h2
                omega
            have HF7 : Hid (Fr (foot q tb n G0 G1) wc w') := (HF5.out.alloc (.cells #[.int .i64 y] 3)).trans HFn.out (fun z hz => .inr (HGoj.out z hz))
            have HG7 : Hid ((∀ z, z ∈ G' → wc.heap.size ≤ z) ∧ ∀ z, z ∈ G' → z ∉ G0j) := by
              refine ⟨fun z hz => ?_, fun z hz hz2 => ?_⟩
              · rcases HGn.out z hz with h1 | ⟨h1, _⟩
                · exact HGoj.out z h1
                · have := HS5.out; rw [h1]; simp; omega
              · rcases HGn.out z hz with h1 | ⟨h1, _⟩
                · exact HGdj.out z h1 hz2
                · have h2 := HQ5.out.com.lt z hz2
                  rw [h1] at h2; simp at h2 <;> omega
            go_wp2_with fail
            go_roundw
            case rel => exact ⟨j + 1, Aj, cj, G0j, A', c', G', by go_num, by omega, by rw [HE7.out.1], HL7.out, HQ7.out, HF7.out, HG0j.out, HG7.out.1, HG7.out.2⟩
            case measure => simp [intOf]; omega
        · obtain rfl : j = 4 := by omega
          have d2 := Mk.c2 HQj.out
          have dt := (HLW.out _ _ _ _ _ HQj.out).1
          have zt := HQj.out.ls.tab.frozen t
          have hE : own.take 4 = own := List.take_of_length_le (by rw [HOW.out]; exact Nat.le_refl _)
          have hE2 : own.take (min 4 R) = own.take R := by
            rcases Nat.le_total R 4 with h | h
            · rw [Nat.min_eq_right h]
            · rw [Nat.min_eq_left h, hE, List.take_of_length_le (by rw [HOW.out]; exact h)]
          rw [hE] at HLj ⊢
          rw [hE2] at HQj
          have HQ6 : Hid (Mk (wr.setCell ⟨tb, t, none⟩ (.slice none 0 0)) q tb n B Aj cj (C ++ own.take R) G0j (putF V1 t (.slice none 0 0)) (putF G1 t []) (putF O t [])) := by
            have h1 : Mk (wr.setCell ⟨tb, t, none⟩ (.slice none 0 0)) q tb n B Aj cj (C ++ own.take R) G0j (putF V1 t (.slice none 0 0)) (putF G1 t []) (putF O1 t []) := HQj.out.own_put (by decide) (by decide) (by decide) ht (l := []) (Fr.refl _ _) (Lr.nil _ _) (fun _ h => by cases h)
            rw [HT1.out.2.2] at h1
            exact h1
          have HF6 : Hid (Fr (foot q tb n G0 G) w (wr.setCell ⟨tb, t, none⟩ (.slice none 0 0))) := (HF1.out.trans HFj.out HG1.out).setCell (p := ⟨tb, t, none⟩) (.inl (mem_foot.2 (.inr (.inl rfl)))) _
          have HL6 : Hid (Lr (wr.setCell ⟨tb, t, none⟩ (.slice none 0 0)) 3 Ao (own.drop R).length co Go (zv (own.drop R))) := HLj.out.fr (F := [tb]) ((Fr.refl _ _).setCell (p := ⟨tb, t, none⟩) (.inl (by simp)) _) (fun y hy => by have := HGoj.out y hy; have := HNN.out.1; simp; omega)
          have HS6 : Hid ((∀ y, y ∈ foot q tb n G0j (putF G1 t []) → y ∈ foot q tb n G0 G ∨ w.heap.size ≤ y) ∧ ∀ y, y ∈ Go → y ∉ foot q tb n G0j (putF G1 t []) ∧ (y ∈ foot q tb n G0 G ∨ w.heap.size ≤ y)) := by
            refine ⟨fun y hy => ?_, fun y hy => ⟨fun hy2 => ?_, .inr (Nat.le_trans HF1.out.size (HGoj.out y hy))⟩⟩
            · rcases Qc.own_foot ht (B := wc.heap.size) (fun _ h => by cases h) y hy with h1 | h1
              · rcases Qc.com_foot (B := wc.heap.size) HG0j.out y h1 with h2 | h2
                · exact HG1.out y h2
                · exact .inr (Nat.le_trans HF1.out.size h2)
              · exact .inr (Nat.le_trans HF1.out.size h1)
            · have h1 := HGoj.out y hy
              rcases mem_foot.1 hy2 with rfl | rfl | h2 | ⟨i, hi, h2⟩
              · have := HNN.out.2; omega
              · have := HNN.out.1; omega
              · exact HGdj.out y hy h2
              · by_cases hit : i = t
                · subst hit; rw [putF_at] at h2; cases h2
                · rw [putF_ne _ _ hit] at h2
                  have := HQ1.out.ls.lt hi y h2
                  omega
          clear hE hE2 HLj HQj HFj
          obtain ⟨D, hD⟩ : ∃ D, D = own.drop R := ⟨_, rfl⟩
          rw [← hD] at HL6 EC ⊢
          clear hD
          go_wp2_with fail
          go_ret2
          rw [EC.out.1, EC.out.2.1, EC.out.2.2]
          exact ⟨_, Ao, co, Go, rfl, ⟨_, _, _, _, _, _, HQ6.out, rfl⟩, HL6.out, HF6.out, HS6.out.1, HS6.out.2⟩
end Go.Proofs.Ytdiedfnlmkokhaa
