/- The document's queue: New, Waiting, Pop, Push, Drain. -/
import Derived.Test.YtdiedfnlmkokhaaQv
namespace Go.Proofs.Ytdiedfnlmkokhaa
set_option linter.unusedVariables false
open Go.RowKit Go.Gl

def layR (B : Nat) : Value → Value → Array Value := fun a b => #[.int .i64 (B : Int), a, b]
abbrev Mq (w : World) (q : Nat) (F : List Nat) (n B : Nat) (C : List Int) (O : Nat → List Int) : Prop := Qs 3 38 47 (layR B) w q F n C O
abbrev Mk (w : World) (q tb n B : Nat) (A : Option Addr) (c : Nat) (C : List Int) (G0 : List Nat) (V : Nat → Value) (G : Nat → List Nat) (O : Nat → List Int) : Prop := Qc 3 38 47 (layR B) w q tb n A c C G0 V G O
section
variable {w : World} {q tb n B : Nat} {A : Option Addr} {c : Nat} {C : List Int} {G0 : List Nat} {V : Nat → Value} {G : Nat → List Nat} {O : Nat → List Int} {F : List Nat}
theorem Mk.c0 (h : Mk w q tb n B A c C G0 V G O) : w.cell? ⟨q, 0, none⟩ = some (.int .i64 (B : Int)) := by rw [h.st.cell]; rfl
theorem Mk.c1 (h : Mk w q tb n B A c C G0 V G O) : w.cell? ⟨q, 1, none⟩ = some (.slice A C.length c) := by rw [h.st.cell]; rfl
theorem Mk.c2 (h : Mk w q tb n B A c C G0 V G O) : w.cell? ⟨q, 2, none⟩ = some (.slice (some ⟨tb, 0, none⟩) n n) := by rw [h.st.cell]; rfl
theorem Mk.cw (h : Mk w q tb n B A c C G0 V G O) {k : Nat} (hk : k < n) : w.cell? ⟨tb, k, none⟩ = some (V k) := h.ls.cw hk
end

def MNew10 (n B : Nat) (w : World) (e : Ending) (w' : World) : Prop :=
  ∃ q F, e = .returned (.tuple #[.pointer (some ⟨q, 0, none⟩), .int .i64 0]) ∧ Mq w' q F n B [] (fun _ => []) ∧ Fr [] w w' ∧ ∀ x, x ∈ F → w.heap.size ≤ x
theorem r10new_bad (t b : Int) (h : t < 1 ∨ 64 < t ∨ b < 0 ∨ 65536 < b) (w : World) : Calls Try.prog 8 #[.int .i64 t, .int .i64 b] w fun e w' => e = .returned (.tuple #[.pointer none, .int .i64 2]) ∧ w' = w := by
  have h' : t < 1 ∨ (¬ t < 1 ∧ t > 64) ∨ (¬ t < 1 ∧ ¬ t > 64 ∧ b < 0) ∨ (¬ t < 1 ∧ ¬ t > 64 ∧ ¬ b < 0 ∧ b > 65536) := by omega
  rcases h' with h1 | ⟨h1, h2⟩ | ⟨h1, h2, h3⟩ | ⟨h1, h2, h3, h4⟩
  all_goals
    go_enter Try.func8, Try.ntmps8
    go_wp2
    go_ret2
    exact ⟨rfl, rfl⟩
theorem r10new_ok (n B : Nat) (h1 : 1 ≤ n) (h2 : n ≤ 64) (h3 : B ≤ 65536) (w : World) : Calls Try.prog 8 #[.int .i64 (n : Int), .int .i64 (B : Int)] w (MNew10 n B w) := by
  obtain ⟨i0, hi, hz0, hz1, hz2⟩ := info_parts Try.info_ints
  have g1 : ¬ ((n : Int) < 1) := by omega
  have g2 : ¬ ((n : Int) > 64) := by omega
  have g3 : ¬ ((B : Int) < 0) := by omega
  have g4 : ¬ ((B : Int) > 65536) := by omega
  go_enter Try.func8, Try.ntmps8
  go_wp2_with (first | (at_make; refine wpList_make_full _ rfl _ _ 45 rfl w.heap.size 38 i0 (.slice none 0 0) 1 Try.underlying45 hi hz0 hz1 _ _ _ _ n rfl rfl rfl rfl (by rw [hz2]; omega) (by unfold maxLen; omega) (Nat.le_refl _) ?_; intro w1 hown hgr; have HO := hide hown; have HG := hide hgr; clear hown hgr))
  go_ret2
  have hown := HO.out
  rw [Nat.mul_one, made_one _ rfl] at hown
  have hb := own_full hown
  have HF : Fr [] w w1 := (Fr.refl [] w).grown HG.out (fun _ hk => by cases hk)
  refine ⟨w1.heap.size, _, rfl, ⟨w.heap.size, none, 0, [], fun _ => .slice none 0 0, fun _ => [], ⟨Blk.new _ _ _, Lr.nil _ _, ⟨?_, fun i hi => ⟨none, 0, rfl, Lr.nil _ _⟩, fun i j _ _ _ g hg => by cases hg⟩, fun i hi g hg => by cases hg⟩, rfl⟩, HF.alloc _, fun x hx => ?_⟩
  · rw [rowF_const]; exact hb.alloc _
  · rcases mem_foot.1 hx with rfl | rfl | hx | ⟨i, _, hx⟩
    · exact HF.size
    · exact Nat.le_refl _
    · cases hx
    · cases hx

theorem r10waiting_any {w : World} {q : Nat} {F : List Nat} {n B : Nat} {C : List Int} {O : Nat → List Int} (h : Mq w q F n B C O) (hk : QOk n B C O) : Calls Try.prog 18 #[.pointer (some ⟨q, 0, none⟩)] w fun e w' => e = .returned (.int .i64 ((C.length + (catL O n).length : Nat) : Int)) ∧ w = w' := by
  obtain ⟨tb, A, c, G0, V, G, h, rfl⟩ := h
  have c1 := Mk.c1 h
  have c2 := Mk.c2 h
  have H := hide h
  have HK := hide hk
  have hn := hk.n2
  clear h hk
  go_enter Try.func18, Try.ntmps18
  go_wp2
  go_loop [3, 4] (fun s i => ∃ j : Nat, i = .int .i64 j ∧ j ≤ n ∧ s = .int .i64 ((C.length + (catL O j).length : Nat) : Int)) (fun _ i => n - (intOf i).toNat)
  case atStart => exact ⟨0, rfl, Nat.zero_le _, rfl⟩
  case round =>
    obtain ⟨j, rfl, hj, rfl⟩ := hrel
    by_cases hlt : j < n
    · have hlt1 : (j : Int) < (n : Int) := by omega
      obtain ⟨Aj, cj, e1, e2⟩ := H.out.ls.own j hlt
      have hc := Mk.cw H.out hlt
      rw [e1] at hc
      have hm := catL_mono (L := O) (show j + 1 ≤ n from hlt)
      have hm2 := HK.out.cat
      have hm3 := HK.out.c
      have hm4 := HK.out.b
      have HE : Hid (C.length + (catL O (j + 1)).length = C.length + (catL O j).length + (O j).length) := by show _ = _; simp [catL]; omega
      have hs0 : C.length + (catL O j).length + (O j).length ≤ 66000 := by rw [← HE.out]; omega
      clear e1 e2
      generalize hS : C.length + (catL O (j + 1)).length = s1 at *
      generalize C.length + (catL O j).length = s0 at *
      generalize (O j).length = l0 at *
      clear hm hm2 hm3 hm4
      have ES := hide hS
      clear hS
      go_wp2
      go_round
      case rel => exact ⟨j + 1, by go_num, by omega, by rw [ES.out, HE.out]; go_num⟩
      case measure => simp [intOf]; omega
    · obtain rfl : n = j := by omega
      go_wp2
      go_ret
      exact ⟨rfl, rfl⟩

theorem r10pop_none {w : World} {q : Nat} {F : List Nat} {n B : Nat} {O : Nat → List Int} (h : Mq w q F n B [] O) : Calls Try.prog 10 #[.pointer (some ⟨q, 0, none⟩)] w (QPop w F (fun w' F' => Mq w' q F' n B [] O) 0 5) := by
  have H := hide h
  obtain ⟨tb, A, c, G0, V, G, h, rfl⟩ := h
  have c1 := Mk.c1 h
  clear h
  go_enter Try.func10, Try.ntmps10
  go_wp2
  go_ret2
  exact ⟨_, rfl, H.out, Fr.refl _ _, fun x hx => .inl hx⟩
theorem r10pop_some {w : World} {q : Nat} {F : List Nat} {n B : Nat} {x : Int} {C : List Int} {O : Nat → List Int} (h : Mq w q F n B (x :: C) O) (hk : QOk n B (x :: C) O) : Calls Try.prog 10 #[.pointer (some ⟨q, 0, none⟩)] w (QPop w F (fun w' F' => Mq w' q F' n B C O) x 0) := by
  obtain ⟨tb, A, c, G0, V, G, h, rfl⟩ := h
  have c1 := Mk.c1 h
  have hfz := h.st.frozen 1
  obtain ⟨g, off, rfl, rfl, hg, hx, _, _⟩ := h.com.pos (by simp)
  have hx0 : w.cell? ⟨g, off, none⟩ = some (.int .i64 x) := by have := hx 0 (by simp); simpa [zv] using this
  have hm1 := h.com.le
  have hm2 := h.com.max
  unfold maxLen at hm2
  have HC := hide (h.com.cut 1 (by simp))
  have H := hide h
  have hlen := hk.c
  have hb := hk.b
  rw [List.length_cons] at c1 hm1 hlen
  have hne : ¬ ((C.length : Int) + 1 = 0) := by omega
  clear h hx hk
  by_cases hc : c = 1
  · subst hc
    obtain rfl : C = [] := List.eq_nil_of_length_eq_zero (by omega)
    rw [if_pos rfl, if_pos rfl] at HC
    have HQ : Hid (Qc 3 38 47 (layR B) (w.setCell ⟨q, 1, none⟩ (.slice (some ⟨g, off, none⟩) 0 0)) q tb n (some ⟨g, off, none⟩) 0 [] [] V G O) :=
      H.out.com_put (by decide) (by decide) (by decide) (ci := 1) (l := []) (fun _ _ _ => rfl) (Fr.refl _ _) HC.out (fun _ h => by cases h)
    have HF := hide (H.out.com_fr (Fr.refl _ _) 1 (.slice (some ⟨g, off, none⟩) 0 0))
    go_enter Try.func10, Try.ntmps10
    go_wp2
    go_ret2
    exact ⟨_, rfl, ⟨_, _, _, _, _, _, HQ.out, rfl⟩, HF.out, Qc.com_foot (fun _ h => by cases h)⟩
  · rw [if_neg hc, if_neg hc] at HC
    have HC' : Lr w 3 (some ⟨g, off + 1, none⟩) C.length (c - 1) [g] (zv C) := by
      have := HC.out
      rw [show Option.map (fun x : Addr => x.add 1) (some ⟨g, off, none⟩) = some ⟨g, off + 1, none⟩ by simp [Go.WideShapes.add_plain]] at this
      simpa [zv] using this
    have HQ : Hid (Qc 3 38 47 (layR B) (w.setCell ⟨q, 1, none⟩ (.slice (some ⟨g, off + 1, none⟩) C.length (c - 1))) q tb n (some ⟨g, off + 1, none⟩) (c - 1) C [g] V G O) :=
      H.out.com_put (by decide) (by decide) (by decide) (ci := 1) (l := C) (fun _ _ _ => rfl) (Fr.refl _ _) HC' (fun _ h => .inl h)
    have HF := hide (H.out.com_fr (Fr.refl _ _) 1 (.slice (some ⟨g, off + 1, none⟩) C.length (c - 1)))
    clear HC'
    go_enter Try.func10, Try.ntmps10
    go_wp2
    go_ret2
    exact ⟨_, rfl, ⟨_, _, _, _, _, _, HQ.out, rfl⟩, HF.out, Qc.com_foot (fun _ h => .inl h)⟩

set_option maxHeartbeats 1600000 in
theorem r10drain_any {w : World} {q : Nat} {F : List Nat} {n B : Nat} {C : List Int} {O : Nat → List Int} (h : Mq w q F n B C O) (hk : QOk n B C O) :
    Calls Try.prog 13 #[.pointer (some ⟨q, 0, none⟩)] w (QLst w F (fun w' F' => Mq w' q F' n B [] (fun _ => [])) (C ++ catL O n)) := by
  obtain ⟨tb, A, c, G0, V, G, h, rfl⟩ := h
  obtain ⟨i0, hi, hz0, hz1, hz2⟩ := info_parts Try.info_int
  have c1 := Mk.c1 h
  have H := hide h
  have HK := hide hk
  have hn := hk.n2
  have HB : Hid (C.length ≤ 65536) := by have := hk.c; have := hk.b; show _ ≤ _; omega
  have HN : Hid ((zv C).length = C.length ∧ ∀ u ∈ zv C, u.oneCell' = true) := ⟨zv_len _, zv_one _⟩
  clear h hk
  go_enter Try.func13, Try.ntmps13
  go_wp2_with (first | (at_builtin; refine wpList_append_lr rfl _ _ 38 rfl 3 i0 (.int .i64 0) 8 Try.underlying38 hi hz0 hz1 hz2 rfl rfl (Lr.nil _ _) rfl HN.out.1 H.out.com.slz.src HN.out.2 (by have := HB.out; unfold maxLen; omega) (by have := HB.out; omega) ?_; intro A3 c3 G3 w3 HL3 HF3 HG3))
  have HL4 : Hid (Lr w3 3 A3 (C ++ catL O 0).length c3 G3 (zv (C ++ catL O 0))) := by
    have h1 := HL3.out
    rw [List.nil_append, Nat.zero_add] at h1
    rw [show C ++ catL O 0 = C from List.append_nil C]
    exact h1
  have HG4 : Hid (∀ g, g ∈ G3 → w.heap.size ≤ g) := fun g hg => by
    rcases HG3.out g hg with h | ⟨h, _⟩
    · cases h
    · omega
  have HQ4 := hide (H.out.fr0 HF3.out)
  have HF4 : Hid (Fr (foot q tb n G0 G) w w3) := HF3.out.mono (fun x hx => by cases hx)
  have HE : Hid (C.length = (C ++ catL O 0).length) := by show _ = _; rw [show C ++ catL O 0 = C from List.append_nil C]
  have hs0 : 0 + C.length = C.length := Nat.zero_add _
  clear c1
  go_wp2_with fail
  go_loopw [3, 4] (fun v i wr => ∃ (j : Nat) (A2 : Option Addr) (c2 : Nat) (G2 : List Nat) (V' : Nat → Value) (G' : Nat → List Nat), i = .int .i64 j ∧ j ≤ n ∧ v = .slice A2 (C ++ catL O j).length c2 ∧ Lr wr 3 A2 (C ++ catL O j).length c2 G2 (zv (C ++ catL O j)) ∧ Mk wr q tb n B A c C G0 V' G' (fun i => if i < j then [] else O i) ∧ (∀ i g, g ∈ G' i → g ∈ G i) ∧ Fr (foot q tb n G0 G) w wr ∧ ∀ g, g ∈ G2 → w.heap.size ≤ g) (fun _ i _ => n - (intOf i).toNat)
  case atStart => exact ⟨0, A3, c3, G3, V, G, rfl, Nat.zero_le _, by simp [catL], HL4.out, by simpa using HQ4.out, fun _ _ h => h, HF4.out, HG4.out⟩
  case round =>
    obtain ⟨j, A2, c2, G2, V', G', rfl, hj, rfl, hl, hq, hgg, hf, hg⟩ := hrel
    have HL := hide hl
    have HQ := hide hq
    have HGG := hide hgg
    have HF := hide hf
    have HG := hide hg
    have d2 := Mk.c2 hq
    clear hl hq hgg hf hg
    by_cases hlt : j < n
    · have hlt1 : (j : Int) < (n : Int) := by omega
      obtain ⟨Aj, cj, e1, e2⟩ := HQ.out.ls.own j hlt
      have hc := Mk.cw HQ.out hlt
      rw [e1] at hc
      simp only [Nat.lt_irrefl, if_false] at hc e2
      have HS := hide e2.slz.src
      have hz := HQ.out.ls.tab.frozen j
      have HNj : Hid ((zv (O j)).length = (O j).length ∧ ∀ u ∈ zv (O j), u.oneCell' = true) := ⟨zv_len _, zv_one _⟩
      have HM : Hid ((C ++ catL O j).length + (O j).length ≤ 70000) := by
        have h1 := catL_mono (L := O) (show j + 1 ≤ n from hlt)
        have h2 := HK.out.cat
        have h3 := HB.out
        show _ ≤ _
        rw [List.length_append]
        simp only [catL, List.length_append] at h1
        omega
      have HE1 : Hid ((C ++ catL O (j + 1)).length = (C ++ catL O j).length + (O j).length ∧ zv (C ++ catL O (j + 1)) = zv (C ++ catL O j) ++ zv (O j)) := by
        refine ⟨?_, ?_⟩
        · simp [catL]; omega
        · simp [catL, zv_app]
      have HJ : Hid (tb < w.heap.size ∧ q < w.heap.size) := ⟨H.out.ls.tab.lt, H.out.st.lt⟩
      have HPF : Hid (∀ w', Fr G2 wr w' → Mk (w'.setCell ⟨tb, j, none⟩ (.slice none 0 0)) q tb n B A c C G0 (putF V' j (.slice none 0 0)) (putF G' j []) (fun i => if i < j + 1 then [] else O i) ∧ w'.cell? ⟨q, 2, none⟩ = some (.slice (some ⟨tb, 0, none⟩) n n) ∧ w'.frozen? ⟨tb, j, none⟩ = false ∧ w'.cell? ⟨tb, j, none⟩ = some (.slice Aj (O j).length cj)) := fun w' hf => by
        have h1 : Mk w' q tb n B A c C G0 V' G' (fun i => if i < j then [] else O i) := HQ.out.fr hf (fun x hx hx2 => by
          have h2 := HG.out x hx2
          have h3 : x ∈ foot q tb n G0 G := by
            rcases mem_foot.1 hx with rfl | rfl | hx | ⟨i, hi, hx⟩
            · exact mem_foot.2 (.inl rfl)
            · exact mem_foot.2 (.inr (.inl rfl))
            · exact mem_foot.2 (.inr (.inr (.inl hx)))
            · exact mem_foot.2 (.inr (.inr (.inr ⟨i, hi, HGG.out i x hx⟩)))
          have := H.out.lt x h3
          omega)
        have h2 : Mk (w'.setCell ⟨tb, j, none⟩ (.slice none 0 0)) q tb n B A c C G0 (putF V' j (.slice none 0 0)) (putF G' j []) (putF (fun i => if i < j then [] else O i) j []) := h1.own_put (by decide) (by decide) (by decide) hlt (l := []) (Fr.refl _ _) (Lr.nil _ _) (fun _ h => by cases h)
        refine ⟨?_, Mk.c2 h1, h1.ls.tab.frozen j, by rw [Mk.cw h1 hlt, e1]; simp⟩
        have e : putF (fun i => if i < j then [] else O i) j [] = fun i => if i < j + 1 then [] else O i := by
          funext i
          unfold putF
          by_cases h3 : i = j
          · subst h3; simp
          · by_cases h4 : i < j
            · simp [h3, h4, show i < j + 1 by omega]
            · simp [h3, h4, show ¬ i < j + 1 by omega]
        rw [e] at h2
        exact h2
      clear e1 e2
      go_wp2_with (first | (at_builtin; refine wpList_append_lr rfl _ _ 38 rfl 3 i0 (.int .i64 0) 8 Try.underlying38 hi hz0 hz1 hz2 rfl rfl HL.out rfl HNj.out.1 HS.out HNj.out.2 (by have := HM.out; unfold maxLen; omega) (by have := HM.out; omega) ?_; intro A5 c5 G5 w5 HL5 HF5 HG5; have HP5 := hide (HPF.out _ HF5.out); have f2 := HP5.out.2.1; have fz := HP5.out.2.2.1; have fc := HP5.out.2.2.2))
      have HG6 : Hid (∀ g, g ∈ G5 → w.heap.size ≤ g) := fun g hg => by
        rcases HG5.out g hg with h | ⟨h, _⟩
        · exact HG.out g h
        · have := HF.out.size; omega
      have HL6 : Hid (Lr (w5.setCell ⟨tb, j, none⟩ (.slice none 0 0)) 3 A5 (C ++ catL O (j + 1)).length c5 G5 (zv (C ++ catL O (j + 1)))) := by
        have h1 : Lr w5 3 A5 (C ++ catL O (j + 1)).length c5 G5 (zv (C ++ catL O (j + 1))) := by rw [HE1.out.1, HE1.out.2]; exact HL5.out
        exact h1.fr (F := [tb]) ((Fr.refl _ _).setCell (p := ⟨tb, j, none⟩) (.inl (by simp)) _) (fun g hg => by have := HG6.out g hg; have := HJ.out.1; simp; omega)
      have HF6 : Hid (Fr (foot q tb n G0 G) w (w5.setCell ⟨tb, j, none⟩ (.slice none 0 0))) := (HF.out.trans HF5.out (fun x hx => .inr (HG.out x hx))).setCell (p := ⟨tb, j, none⟩) (.inl (mem_foot.2 (.inr (.inl rfl)))) _
      go_wp2_with fail
      go_roundw
      case rel => exact ⟨j + 1, A5, c5, G5, _, _, by go_num, by omega, by rw [HE1.out.1, List.length_append], HL6.out, HP5.out.1, fun i g hg => by
        by_cases hij : i = j
        · subst hij; rw [putF_at] at hg; cases hg
        · rw [putF_ne _ _ hij] at hg; exact HGG.out i g hg, HF6.out, HG6.out⟩
      case measure => simp [intOf]; omega
    · obtain rfl : n = j := by omega
      have HQ1 := hide (HQ.out.congr (O' := fun _ => []) (fun i hi => by simp [hi]))
      have z1 := HQ.out.st.frozen 1
      have d1 := Mk.c1 HQ.out
      have HQ2 : Hid (Mk (wr.setCell ⟨q, 1, none⟩ (.slice none 0 0)) q tb n B none 0 [] [] V' G' (fun _ => [])) := HQ1.out.com_put (by decide) (by decide) (by decide) (ci := 1) (l := []) (fun _ _ _ => rfl) (Fr.refl _ _) (Lr.nil _ _) (fun _ h => by cases h)
      have HF2 : Hid (Fr (foot q tb n G0 G) w (wr.setCell ⟨q, 1, none⟩ (.slice none 0 0))) := HF.out.setCell (p := ⟨q, 1, none⟩) (.inl (mem_foot.2 (.inl rfl))) _
      have HL2 : Hid (Lr (wr.setCell ⟨q, 1, none⟩ (.slice none 0 0)) 3 A2 (C ++ catL O n).length c2 G2 (zv (C ++ catL O n))) := HL.out.fr (F := [q]) ((Fr.refl _ _).setCell (p := ⟨q, 1, none⟩) (.inl (by simp)) _) (fun g hg => by have := HG.out g hg; have := H.out.st.lt; simp; omega)
      go_wp2_with fail
      go_ret
      have hsub : ∀ x, x ∈ foot q tb n [] G' → x ∈ foot q tb n G0 G := fun x hx => by
        rcases mem_foot.1 hx with rfl | rfl | hx | ⟨i, hi, hx⟩
        · exact mem_foot.2 (.inl rfl)
        · exact mem_foot.2 (.inr (.inl rfl))
        · cases hx
        · exact mem_foot.2 (.inr (.inr (.inr ⟨i, hi, HGG.out i x hx⟩)))
      exact ⟨_, A2, c2, G2, by first | rfl | (rw [List.length_append]; rfl), ⟨_, _, _, _, _, _, HQ2.out, rfl⟩, HL2.out, HF2.out, fun x hx => .inl (hsub x hx), fun g hg => ⟨fun hx => by have h1 := H.out.lt g (hsub g hx); have h2 := HG.out g hg; omega, .inr (HG.out g hg)⟩⟩
end Go.Proofs.Ytdiedfnlmkokhaa
