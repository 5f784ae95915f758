/- gleanerref13: New. -/
import Derived.Test.YtmodjkglcgoohaaHa
import Derived.Test.YtmodjkglcgoohaaGe
import Derived.Deep.OwnRows
import Derived.WalkKit
import Derived.BigQuiet
namespace Go.Proofs.Ytmodjkglcgoohaa
set_option linter.unusedVariables false
set_option linter.unusedSimpArgs false
open Go.RowKit Go.Gl

theorem made_rowH (n : Nat) (v : Value) (h : v.cells = #[v]) : madeCells #[v] n = rowF n fun _ => v := by
  have := made_one v h n
  rw [h] at this
  rw [rowF_const, ← this, Array.toArray_toList]
theorem make_rowH {P : Program} {t e : TypeId} {z : Value} (ht : P.underlying t = some (.slice e)) (hi : (P.info? e).map (fun i => (i.zero, i.size, i.bytes)) = some (some z, 1, 8)) (hz : z.cells = #[z]) {n : Nat} (hn : n ≤ 4194304) (w : World) :
    (Instr.makeSlice t (.int .i64 (n : Int)) (.int .i64 (n : Int))).run P w = .ok (.slice (some ⟨w.heap.size, 0, none⟩) n n) (w.alloc (.cells (rowF n fun _ => z) e)) := by
  rw [run_make_row' (P := P) t e z 8 ht hi hz .i64 .i64 n (by omega) (by omega) w, made_rowH n z hz]
theorem Try.info_iH : (Try.prog.info? 3).map (fun i => (i.zero, i.size, i.bytes)) = some (some (.int .i64 0), 1, 8) := by kernel_rfl
theorem Try.info_pR12 : (Try.prog.info? 60).map (fun i => (i.zero, i.size, i.bytes)) = some (some (.pointer none), 1, 8) := by kernel_rfl
theorem ptrs_succ (S : Nat → Nat) (k s : Nat) : ptrs (setF S k s) (k + 1) = ptrs S k ++ [.pointer (some ⟨s, 0, none⟩)] := by
  unfold ptrs
  rw [List.range_succ, List.map_append, List.map_singleton, setF_at]
  congr 1
  apply List.map_congr_left
  intro i hi
  rw [setF_ne _ _ (by have := List.mem_range.1 hi; omega)]
section
variable {w w' : World} {tg : TG} {Λ : ML} {k T B M : Nat}
theorem MG.addStack (h : MG w tg Λ k T B M G0) {w1 : World} {s : Nat} {F : List Nat} (hf1 : Fr [] w w1) (hs : HkR w1 s F B []) (hn : ∀ x, x ∈ F → w.heap.size ≤ x) {nv : Array Value} {t0 : TypeId} {A' : Option Addr} {c' : Nat} {G' : List Nat}
    (hL : Lr w' 60 A' (k + 1) c' G' (ptrs Λ.S k ++ [.pointer (some ⟨s, 0, none⟩)])) (hgr : Fr Λ.sG (w1.alloc (.cells nv t0)) w') (hG : ∀ g, g ∈ G' → g ∈ Λ.sG ∨ g = (w1.alloc (.cells nv t0)).heap.size) :
    ∃ tg', MG (w'.setCell ⟨Λ.m, 2, none⟩ (.slice A' (k + 1) c')) tg' { Λ with sA := A', sc := c', sG := G', S := setF Λ.S k s } (k + 1) T B M G0 ∧ GFr w tg (w'.setCell ⟨Λ.m, 2, none⟩ (.slice A' (k + 1) c')) tg' := by
  have hfa : Fr [] w (w1.alloc (.cells nv t0)) := hf1.alloc _
  have hf2 : Fr Λ.sG w w' := (hfa.mono (fun x hx => by cases hx)).trans hgr (fun x hx => .inl hx)
  have hf3 : Fr [Λ.m] w' (w'.setCell ⟨Λ.m, 2, none⟩ (.slice A' (k + 1) c')) := (Fr.refl _ _).setCell (p := ⟨Λ.m, 2, none⟩) (.inl (by simp)) _
  obtain ⟨w3, hw3⟩ : ∃ w3, w3 = w'.setCell ⟨Λ.m, 2, none⟩ (.slice A' (k + 1) c') := ⟨_, rfl⟩
  rw [← hw3] at hf3 ⊢
  have hf : Fr (Λ.m :: Λ.sG) w w3 := (hf2.mono (fun x hx => .inl (by simp [hx]))).trans hf3 (fun x hx => .inl (by simp at hx; simp [hx]))
  have hT : ∀ x, x ∈ Λ.m :: Λ.sG → tg x = (11, 0) ∨ tg x = (13, 0) := fun x hx => by
    rcases List.mem_cons.1 hx with rfl | hx
    · exact .inl h.t1
    · exact .inr (h.t3 x hx)
  have hk : ∀ n, n ≠ 11 → n ≠ 13 → ∀ x, x ∈ Λ.m :: Λ.sG → (tg x).1 ≠ n := fun n h1 h2 x hx e => by
    rcases hT x hx with e1 | e1
    · rw [e1] at e; exact h1 e.symm
    · rw [e1] at e; exact h2 e.symm
  have hs1 := hf1.size
  have hs2 : w1.heap.size < w'.heap.size := by
    have := hgr.size
    simp at this
    omega
  have hs3 : w'.heap.size = w3.heap.size := by rw [hw3]; simp
  have hGl : ∀ g, g ∈ G' → g < w'.heap.size := hL.lt
  obtain ⟨tg', htg⟩ : ∃ tg' : TG, tg' = fun x => if x ∈ G' then (13, 0) else if w.heap.size ≤ x ∧ x < w3.heap.size then (16, (k : Int)) else tg x := ⟨_, rfl⟩
  have tgg : ∀ g, g ∈ G' → tg' g = (13, 0) := fun g hg => by rw [htg]; exact if_pos hg
  have hu : GTgUp w tg tg' := fun x hx => by
    rw [htg]
    dsimp only
    by_cases e : x ∈ G'
    · rw [if_pos e]
      rcases hG x e with e1 | e1
      · rw [h.t3 x e1]
      · simp at e1; omega
    · rw [if_neg e, if_neg (by omega)]
  have hok : GTgOk w3 tg' := fun x hx => by
    by_cases e : x ∈ G'
    · rw [← hs3]; exact hGl x e
    · by_cases e2 : w.heap.size ≤ x ∧ x < w3.heap.size
      · exact e2.2
      · rw [htg] at hx
        dsimp only at hx
        rw [if_neg e, if_neg e2] at hx
        have := h.tok x hx
        omega
  have hgF : ∀ g, g ∈ F → g ∉ G' := fun g hg hx => by
    have := hs.lt g hg
    have h4 := hn g hg
    rcases hG g hx with e1 | e1
    · have := h.row.lt g e1
      omega
    · simp at e1; omega
  obtain ⟨a1, a2, a3, a4⟩ := h.tags hu
  have hb2 := h.st.fr hf2 (fun hx => by have := h.t3 _ hx; rw [h.t1] at this; cases this)
  have hmG : Λ.m ∉ G' := fun hx => by
    have := tgg _ hx
    rw [a1] at this
    cases this
  refine ⟨tg', ⟨?_, a1, h.obj' hf (hk 12 (by decide) (by decide)), a2, fun r h1 h2 => absurd h2 (by show ¬ r ≤ 0; omega), fun r h1 h2 => absurd h2 (by show ¬ r ≤ 0; omega), ?_, tgg, fun i hi => ?_, h.don' hf (hk 17 (by decide) (by decide)), a4, hok⟩, ⟨⟨_, hf, hk 0 (by decide) (by decide)⟩, hu⟩⟩
  · have := hb2.put 2 (.slice A' (k + 1) c')
    rw [hw3]
    simpa using this
  · rw [ptrs_succ]
    exact hL.fr hf3 (fun g hg hx => by simp at hx; exact hmG (hx ▸ hg))
  · by_cases e : i = k
    · subst e
      refine ⟨F, ?_, fun x hx => ?_⟩
      · show HkR w3 (setF Λ.S i s i) F B []
        rw [setF_at]
        have hsx : HkR w' s F B [] := (hs.fr0 ((Fr.refl _ _).alloc (.cells nv t0))).fr hgr (fun x hx hx' => by
          have := hn x hx
          have := h.row.lt x hx'
          omega)
        exact hsx.fr hf3 (fun x hx hx' => by simp at hx'; have := hn x hx; have := h.st.lt; omega)
      · have h3 := hn x hx
        have h4 := hs.lt x hx
        rw [htg]
        dsimp only
        rw [if_neg (hgF x hx), if_pos ⟨h3, by omega⟩]
    · obtain ⟨H, h3, h4⟩ := h.stk' hf (i := i) (by omega) (tagNe (hk 16 (by decide) (by decide))) hu
      refine ⟨H, ?_, h4⟩
      show HkR w3 (setF Λ.S k s i) H B (G0.st i)
      rw [setF_ne _ _ e]
      exact h3
end
theorem MG.zero (w : World) (T B M : Nat) : MG ((w.alloc (.cells (rowF T fun _ => .int .i64 0) 3)).alloc (.cells #[.int .i64 (M : Int), .slice none 0 0, .slice none 0 0, .slice (some ⟨w.heap.size, 0, none⟩) T T] 59)) (fun x => if x = w.heap.size then (17, 0) else if x = w.heap.size + 1 then (11, 0) else (0, 0))
    ⟨w.heap.size + 1, .slice none 0 0, none, 0, [], fun _ => 0, w.heap.size, fun _ => .slice none 0 0, fun _ => .slice none 0 0⟩ 0 T B M G0 := by
  refine ⟨Blk.new_at _ _ (by simp), by simp, R2.nil _ _ _ _, fun b hb => (by cases hb), fun r h1 h2 => absurd h2 (by show ¬ r ≤ 0; omega), fun r h1 h2 => absurd h2 (by show ¬ r ≤ 0; omega), Lr.nil _ _, fun g hg => (by cases hg), fun i hi => absurd hi (by omega), (Blk.new _ _ _).alloc _, by simp, fun b hb => ?_⟩
  by_cases e : b = w.heap.size
  · simp; omega
  · by_cases e2 : b = w.heap.size + 1
    · simp; omega
    · simp [e, e2] at hb
/-- The document's graph at m, its stacks at S. -/
def MAt (w : World) (tg : TG) (m T B M : Nat) (σ : GS) : Prop := ∃ Λ, MG w tg Λ T T B M σ ∧ Λ.m = m
def MNew (w : World) (T B M : Nat) (e : Ending) (w' : World) : Prop :=
  ∃ g tg, e = .returned (.tuple #[.pointer (some ⟨g, 0, none⟩), .int .i64 0]) ∧ MAt w' tg g T B M G0 ∧ Fr [] w w' ∧ ∀ b, (tg b).1 ≠ 0 → w.heap.size ≤ b
set_option maxRecDepth 100000 in
set_option maxHeartbeats 1600000 in
theorem mnew_ok (T B M : Nat) (hT : 1 ≤ T) (h1 : 1 ≤ B) (hd : GDim T B M) (w : World) : Calls Try.prog 10 #[.int .i64 (T : Int), .int .i64 (B : Int), .int .i64 (M : Int)] w (MNew w T B M) := by
  obtain ⟨i0, hi, hz0, hz1, hz2⟩ := info_parts Try.info_pR12
  have g1 : ¬ ((T : Int) < 1) := by omega
  have g2 : ¬ ((T : Int) > 64) := by have := hd.t; omega
  have g3 : ¬ ((M : Int) < 1) := by have := hd.m1; omega
  have g4 : ¬ ((M : Int) > 1048576) := by have := hd.m; omega
  have g5 : ¬ ((B : Int) < 1) := by omega
  have g6 : ¬ ((B : Int) > 64) := by have := hd.b; omega
  have hmk : ∀ w', (Instr.makeSlice 55 (.int .i64 (T : Int)) (.int .i64 (T : Int))).run Try.prog w' = .ok (.slice (some ⟨w'.heap.size, 0, none⟩) T T) (w'.alloc (.cells (rowF T fun _ => .int .i64 0) 3)) := make_rowH Try.underlying55 Try.info_iH rfl (by have := hd.t; omega)
  have HD := hide hd
  have HB1 := hide h1
  have HT0 := hide hT
  clear hd hT h1
  go_enter Try.func10, Try.ntmps10
  go_wp2_with fail
  have HZ := hide (MG.zero w T B M)
  have HF : Hid (Fr [] w ((w.alloc (.cells (rowF T fun _ => .int .i64 0) 3)).alloc (.cells #[.int .i64 (M : Int), .slice none 0 0, .slice none 0 0, .slice (some ⟨w.heap.size, 0, none⟩) T T] 59))) := ((Fr.refl _ _).alloc _).alloc _
  have HTG : Hid (∀ b : Nat, ((fun x => if x = w.heap.size then (17, 0) else if x = w.heap.size + 1 then (11, 0) else (0, 0) : TG) b).1 ≠ 0 → w.heap.size ≤ b) := fun b hb => by
    by_cases e : b = w.heap.size
    · omega
    · by_cases e2 : b = w.heap.size + 1
      · omega
      · simp [e, e2] at hb
  go_loopw [9] (fun i wr => ∃ (k : Nat) (tg : TG) (Λ : ML), i = .int .i64 k ∧ k ≤ T ∧ MG wr tg Λ k T B M G0 ∧ Λ.m = w.heap.size + 1 ∧ Fr [] w wr ∧ ∀ b, (tg b).1 ≠ 0 → w.heap.size ≤ b) (fun i _ => T - (intOf i).toNat)
  case atStart => exact ⟨0, _, _, rfl, Nat.zero_le _, HZ.out, rfl, HF.out, HTG.out⟩
  case round =>
    obtain ⟨k, tg, Λ, rfl, hk, hp, hg, hf, ht⟩ := hrel
    by_cases hlt : k < T
    · have hlt1 : (k : Int) < (T : Int) := by omega
      have HA := hide (r12new_ok B HB1.out HD.out.b wr)
      have HG := hide hg
      have HP := hide hp
      have HFr := hide hf
      have HTr := hide ht
      have HL := hide hlt
      clear hp hg hf ht HZ HF HTG
      go_wp2_with fail
      refine HA.out.mono ?_
      rintro e w1 ⟨s, F, rfl, hq, hf1, hn⟩
      have hp1 := HP.out.fr0 hf1
      have c2 : w1.cell? ⟨w.heap.size + 1, 2, none⟩ = some (.slice Λ.sA k Λ.sc) := by rw [← HG.out]; exact hp1.c2
      have NG : w.heap.size + 1 < w1.heap.size := lt_of_cell c2
      have HQ := hide hq
      have HF1 := hide hf1
      have HNN := hide hn
      have HP1 := hide hp1
      have HFZ : Hid (∀ w', Fr Λ.sG (w1.alloc (.cells #[.pointer (some ⟨s, 0, none⟩)] 60)) w' → w'.cell? ⟨w.heap.size + 1, 2, none⟩ = some (.slice Λ.sA k Λ.sc) ∧ w'.frozen? ⟨w.heap.size + 1, 2, none⟩ = false) := fun w' hg => by
        have hb := ((hp1.st.fr ((Fr.refl [] w1).alloc (.cells #[.pointer (some ⟨s, 0, none⟩)] 60)) (by simp)).fr hg (fun hx => by have := hp1.t3 _ hx; rw [hp1.t1] at this; cases this))
        rw [HG.out] at hb
        exact ⟨by rw [hb.cell]; rfl, hb.frozen 2⟩
      have HLR : Hid (Lr (w1.alloc (.cells #[.pointer (some ⟨s, 0, none⟩)] 60)) 60 Λ.sA k Λ.sc Λ.sG (ptrs Λ.S k)) := hp1.row.alloc _
      have HN : Hid (k + 1 ≤ maxLen ∧ (k + 1) * 8 ≤ 140737488355328) := by have := HD.out.t; exact ⟨by unfold maxLen; omega, by omega⟩
      clear hq hf1 hn hp1
      go_wp2_with (first | (at_builtin; refine wpList_append_lr rfl _ _ 57 rfl 60 i0 (.pointer none) 8 Try.underlying57 hi hz0 hz1 hz2 rfl rfl HLR.out rfl rfl (fun _ => one_of w1 _ 60 rfl _ (Fr.refl _ _)) (by intro u hu; simp at hu; rw [hu]; rfl) HN.out.1 HN.out.2 ?_; intro A' c' G' w2 HLn HFn HGn; have d0 := (HFZ.out _ HFn.out).1; have dz := (HFZ.out _ HFn.out).2))
      have HR : Hid (∃ tg' Λ', MG (w2.setCell ⟨w.heap.size + 1, 2, none⟩ (.slice A' (k + 1) c')) tg' Λ' (k + 1) T B M G0 ∧ Λ'.m = w.heap.size + 1 ∧ Fr [] w (w2.setCell ⟨w.heap.size + 1, 2, none⟩ (.slice A' (k + 1) c')) ∧ ∀ b, (tg' b).1 ≠ 0 → w.heap.size ≤ b) := by
        obtain ⟨tg', k1, k2⟩ := HP.out.addStack HF1.out HQ.out HNN.out HLn.out HFn.out (fun g hg => (HGn.out g hg).imp id (fun h => h.1))
        rw [HG.out] at k1 k2
        exact ⟨tg', _, k1, rfl, GFr.inside HFr.out HTr.out k2, GFr.new HFr.out HTr.out k2⟩
      go_roundw
      case rel =>
        obtain ⟨tg', Λ', r1, r2, r3, r4⟩ := HR.out
        exact ⟨k + 1, tg', Λ', by go_num, by have := HL.out; omega, r1, r2, r3, r4⟩
      case measure => simp [intOf]; have := HL.out; omega
    · obtain rfl : k = T := by omega
      have HR : Hid (∃ tg, MAt wr tg (w.heap.size + 1) k B M G0 ∧ Fr [] w wr ∧ ∀ b, (tg b).1 ≠ 0 → w.heap.size ≤ b) := ⟨tg, ⟨Λ, hp, hg⟩, hf, ht⟩
      clear hp hg hf ht HZ HF HTG
      go_wp2_with fail
      go_ret2
      obtain ⟨tg', r1, r2, r3⟩ := HR.out
      exact ⟨w.heap.size + 1, tg', rfl, r1, r2, r3⟩
/-- New, of whatever. -/
theorem mnew_bad (t b m : Int) (h : ¬ (1 ≤ t ∧ t ≤ 64 ∧ 1 ≤ b ∧ b ≤ 64 ∧ 1 ≤ m ∧ m ≤ 1048576)) (w : World) : Calls Try.prog 10 #[.int .i64 t, .int .i64 b, .int .i64 m] w fun e w' => e = .returned (.tuple #[.pointer none, .int .i64 2]) ∧ Fr [] w w' := by
  rcases (show t < 1 ∨ (¬ t < 1 ∧ t > 64) ∨ (¬ t < 1 ∧ ¬ t > 64 ∧ b < 1) ∨ (¬ t < 1 ∧ ¬ t > 64 ∧ ¬ b < 1 ∧ b > 64) ∨ (¬ t < 1 ∧ ¬ t > 64 ∧ ¬ b < 1 ∧ ¬ b > 64 ∧ m < 1) ∨ (¬ t < 1 ∧ ¬ t > 64 ∧ ¬ b < 1 ∧ ¬ b > 64 ∧ ¬ m < 1 ∧ m > 1048576) by omega) with h1 | ⟨h1, h2⟩ | ⟨h1, h2, h3⟩ | ⟨h1, h2, h3, h4⟩ | ⟨h1, h2, h3, h4, h5⟩ | ⟨h1, h2, h3, h4, h5, h6⟩
  all_goals
    clear h
    go_enter Try.func10, Try.ntmps10
    go_wp2
    go_ret2
    exact ⟨rfl, Fr.refl _ _⟩
end Go.Proofs.Ytmodjkglcgoohaa
