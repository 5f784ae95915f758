/- gleanerref13: Do. -/
import Derived.Test.YtmodjkglcgoohaaHf
import Derived.Test.YtmodjkglcgoohaaGs
import Derived.WalkKit
import Derived.BigQuiet
namespace Go.Proofs.Ytmodjkglcgoohaa
set_option linter.unusedVariables false
set_option linter.unusedSimpArgs false
open Go.RowKit Go.Gl
section
variable {w w' : World} {tg tg' : TG} {F : List Nat} {Λ : ML} {T B M : Nat} {σ : GS} {t : Nat}
set_option maxRecDepth 100000 in
theorem mdo_in (h : MG w tg Λ T T B M σ) (ok : GOk T B σ) (hd : GDim T B M) (hN : σ.N + 1 ≤ 4096) (ht : t < T) (hdn : σ.done t ≤ 1000000) (o : Po) (ho : PoOk o) :
    Calls Try.prog 12 #[.pointer (some ⟨Λ.m, 0, none⟩), .int .i64 (t : Int), opV o] w (GPost w tg (fun w' tg' => MAt w' tg' Λ.m T B M (actS B M T (σ.tick t) t o)) (ansV (t : Int) (σ.done t : Int) (actA B M T σ t o))) := by
  have hT := hd.t
  have ht' : (t : Int) < (T : Int) := by omega
  have g0 : ¬ ((t : Int) < 0) := by omega
  have g1 : ¬ ((t : Int) ≥ (T : Int)) := by omega
  have hw1 : IntKind.i64.wrap ((σ.done t : Int) + 1) = (σ.done t : Int) + 1 := IntWalk.i64_in _ ⟨by omega, by omega⟩
  obtain ⟨w0, hw0⟩ : ∃ w0, w0 = w.setCell ⟨Λ.db, t, none⟩ (.int .i64 ((σ.done t : Int) + 1)) := ⟨_, rfl⟩
  have hs0 : w0.heap.size = w.heap.size := by rw [hw0]; simp
  obtain ⟨w2, hw2⟩ : ∃ w2, w2 = ((w0.alloc (.cells #[.int .i64 o.k, .int .i64 o.a, .int .i64 o.b, .int .i64 o.c, .int .u64 o.v] 38)).alloc (.cells #[.int .i64 0, .int .i64 0, .int .i64 0, .int .u64 0, .bool false] 34)).alloc (.cells #[.int .i64 (t : Int), .int .i64 (σ.done t : Int), .int .i64 0, .int .u64 0, .bool false] 34) := ⟨_, rfl⟩
  have hf2 : Fr [] w0 w2 := by rw [hw2]; exact (((Fr.refl _ _).alloc _).alloc _).alloc _
  have hsz : w2.heap.size = w.heap.size + 3 := by rw [hw2]; simp [hs0]
  have hbo : Blk w2 w.heap.size 38 #[.int .i64 o.k, .int .i64 o.a, .int .i64 o.b, .int .i64 o.c, .int .u64 o.v] := by rw [hw2]; exact ((Blk.new_at _ _ hs0).alloc _).alloc _
  have hbr : Blk w2 (w.heap.size + 1) 34 (ansC 0 0 ⟨0, 0, false⟩) := by rw [hw2]; exact (Blk.new_at _ _ (by simp [hs0])).alloc _
  have hba : Blk w2 (w.heap.size + 2) 34 (ansC (t : Int) (σ.done t : Int) ⟨0, 0, false⟩) := by rw [hw2]; exact Blk.new_at _ _ (by simp [hs0])
  have hdl : Λ.db < w.heap.size := h.don.lt
  obtain ⟨hp0, hg02⟩ := h.done ht
  rw [show ((σ.done t + 1 : Nat) : Int) = (σ.done t : Int) + 1 by omega, ← hw0] at hp0 hg02
  have hp2 := hp0.fr0 hf2
  have u1 : ∀ x, w.heap.size ≤ x → (tg x).1 = 0 := fun x hx => by
    rcases Nat.eq_zero_or_pos (tg x).1 with e | e
    · exact e
    · have := h.tok x (by omega); omega
  have hg2 : GFr w tg w2 tg := hg02.trans0 hf2
  have HACT := hide (mstep_any (σ := σ.tick t) (hp2.fr0 ((Fr.refl [] w2).drew)) (ok.tick t) hd hN ht o ho (hab := hba.drew) (htg := u1 _ (by omega)))
  rw [actA_tick] at HACT
  have HEND : Hid (∀ w3, MActPost w2.drew tg Λ.m T B M (actS B M T (σ.tick t) t o) (w.heap.size + 2) (t : Int) (σ.done t : Int) (actA B M T σ t o) (.returned (.int .i64 (actA B M T σ t o).code)) w3 →
      Blk w3 (w.heap.size + 2) 34 (ansC (t : Int) (σ.done t : Int) ⟨0, (actA B M T σ t o).word, (actA B M T σ t o).bit⟩) ∧ Blk w3 (w.heap.size + 1) 34 (ansC 0 0 ⟨0, 0, false⟩) ∧
      ∀ w4, Fr [w.heap.size + 1, w.heap.size + 2] w3 w4 → ∃ tg', MAt w4 tg' Λ.m T B M (actS B M T (σ.tick t) t o) ∧ GFr w tg w4 tg') := fun w3 hq => by
    obtain ⟨_, tg3, k1, k2, ⟨F, k3, k4⟩, k5⟩ := hq
    have n1 : w.heap.size + 1 ∉ F := fun hx => by
      rcases k4 _ hx with e | e
      · omega
      · exact e (u1 _ (by omega))
    refine ⟨k2, hbr.drew.fr k3 n1, fun w4 hf4 => ⟨tg3, k1.fr hf4 (fun z hz => ?_), ?_⟩⟩
    · simp at hz
      rw [k5 _ (by show _ < w2.heap.size; omega)]
      exact u1 _ (by omega)
    · obtain ⟨G, g1, g2⟩ := hg2.fr
      refine ⟨⟨G ++ F.filter (fun x => decide (x < w.heap.size)), ?_, fun z hz => ?_⟩, fun b hb => (k5 b (by show _ < w2.heap.size; omega)).trans (hg2.up b hb)⟩
      · have s1 : Fr (G ++ F.filter (fun x => decide (x < w.heap.size))) w w3 := ((g1.mono (fun x hx => .inl (by simp [hx]))).drew).trans k3 (fun x hx => by
          rcases Nat.lt_or_ge x w.heap.size with h3 | h3
          · exact .inl (by simp [hx, h3])
          · exact .inr h3)
        exact s1.trans hf4 (fun x hx => .inr (by simp at hx; omega))
      · rcases List.mem_append.1 hz with h3 | h3
        · exact g2 z h3
        · rw [List.mem_filter] at h3
          have h4 : z < w.heap.size := by simpa using h3.2
          rcases k4 z h3.1 with e | e
          · omega
          · exact e
  have HE0 : Hid (w2.cell? ⟨w.heap.size, 0, none⟩ = some (.int .i64 o.k) ∧ w2.cell? ⟨w.heap.size, 1, none⟩ = some (.int .i64 o.a) ∧ w2.cell? ⟨w.heap.size, 2, none⟩ = some (.int .i64 o.b) ∧ w2.cell? ⟨w.heap.size, 3, none⟩ = some (.int .i64 o.c) ∧ w2.cell? ⟨w.heap.size, 4, none⟩ = some (.int .u64 o.v)) :=
    ⟨by rw [hbo.cell]; rfl, by rw [hbo.cell]; rfl, by rw [hbo.cell]; rfl, by rw [hbo.cell]; rfl, by rw [hbo.cell]; rfl⟩
  obtain ⟨g, off, hsA, _, hgl, hcl, _, _⟩ := hp2.row.pos (by omega)
  have HF0 : Hid (w2.cell? ⟨Λ.m, 2, none⟩ = some (.slice (some ⟨g, off, none⟩) T Λ.sc) ∧ w2.cell? ⟨g, off + t, none⟩ = some (.pointer (some ⟨Λ.S t, 0, none⟩))) := ⟨by rw [← hsA]; exact hp2.c2, by rw [hcl t ht]; exact ptrs_at _ ht⟩
  have c2 : w.cell? ⟨Λ.m, 2, none⟩ = some (.slice Λ.sA T Λ.sc) := h.c2
  have c3 : w.cell? ⟨Λ.m, 3, none⟩ = some (.slice (some ⟨Λ.db, 0, none⟩) T T) := h.c3
  have cd : w.cell? ⟨Λ.db, t, none⟩ = some (.int .i64 (σ.done t : Int)) := by rw [h.don.cell, rowF_at ht]
  have z1 := h.don.frozen t
  have NG : Λ.m < w.heap.size := h.st.lt
  have NG1 : Λ.m < w.heap.size + 1 := by omega
  have NG2 : Λ.m < w.heap.size + 1 + 1 := by omega
  have NP : Λ.db < w.heap.size := hdl
  have NP1 : Λ.db < w.heap.size + 1 := by omega
  have NP2 : Λ.db < w.heap.size + 1 + 1 := by omega
  rw [hw0] at hw2
  have HW2 := hide hw2
  unfold opV at HACT ⊢
  unfold ansV
  clear h hp0 hp2 hbo hbr hba u1 hsz hs0 hf2 hcl hgl hsA hd ok ho hN hdn hw0 hw2 hg2 hg02 hdl
  generalize σ.done t = dn at *
  generalize actA B M T σ t o = x at *
  go_enter Try.func12, Try.ntmps12
  go_wp2_with fail
  rw [← HW2.out, show w.heap.size + 1 + 1 = w.heap.size + 2 from rfl]
  clear HW2 c2 c3 cd z1 hw1 NP NP1 NP2 NG NG1 NG2 g0 g1
  obtain ⟨e0, e1, e2, e3, e4⟩ := HE0.out
  obtain ⟨f0, f1⟩ := HF0.out
  have NB0 := lt_of_cell e0
  have NM := lt_of_cell f0
  refine region_tail 9 (by kernel_rfl) (by kernel_rfl) ?_
  simp only [List.take_succ_cons, List.take_zero, List.drop_succ_cons, List.drop_zero]
  repeat still_step
  refine wpStill_nil ?_
  go_wp2_with fail
  refine HACT.out.mono ?_
  rintro e w3 ⟨rfl, hrest⟩
  obtain ⟨x1, x2, x4⟩ := HEND.out w3 ⟨rfl, hrest⟩
  have X4 := hide x4
  have a0 : w3.cell? ⟨w.heap.size + 2, 0, none⟩ = some (.int .i64 (t : Int)) := by rw [x1.cell]; rfl
  have a1 : w3.cell? ⟨w.heap.size + 2, 1, none⟩ = some (.int .i64 (dn : Int)) := by rw [x1.cell]; rfl
  have a2 : w3.cell? ⟨w.heap.size + 2, 2, none⟩ = some (.int .i64 0) := by rw [x1.cell]; rfl
  have a3 : w3.cell? ⟨w.heap.size + 2, 3, none⟩ = some (.int .u64 x.word) := by rw [x1.cell]; rfl
  have a4 : w3.cell? ⟨w.heap.size + 2, 4, none⟩ = some (.bool x.bit) := by rw [x1.cell]; rfl
  have b0 : w3.cell? ⟨w.heap.size + 1, 0, none⟩ = some (.int .i64 0) := by rw [x2.cell]; rfl
  have b1 : w3.cell? ⟨w.heap.size + 1, 1, none⟩ = some (.int .i64 0) := by rw [x2.cell]; rfl
  have b2 : w3.cell? ⟨w.heap.size + 1, 2, none⟩ = some (.int .i64 0) := by rw [x2.cell]; rfl
  have b3 : w3.cell? ⟨w.heap.size + 1, 3, none⟩ = some (.int .u64 0) := by rw [x2.cell]; rfl
  have b4 : w3.cell? ⟨w.heap.size + 1, 4, none⟩ = some (.bool false) := by rw [x2.cell]; rfl
  have z0 := x2.frozen 0
  have z1 := x2.frozen 1
  have z2 := x2.frozen 2
  have z3 := x2.frozen 3
  have z4 := x2.frozen 4
  have y2 := x1.frozen 2
  have N0 : w.heap.size + 1 < w3.heap.size := lt_of_cell b0
  have N2 : w.heap.size + 2 < w3.heap.size := lt_of_cell a0
  clear hrest x1 x2 x4 HEND HACT e0 e1 e2 e3 e4 f0 f1 NB0 NM HE0 HF0
  go_wp2_with fail
  refine bodyPost_ret (v := .agg #[.int .i64 (t : Int), .int .i64 (dn : Int), .int .i64 x.code, .int .u64 x.word, .bool x.bit]) (by simp [results, Try.results12, go_sem, *]) rfl ⟨rfl, ?_⟩
  refine X4.out _ ?_
  iterate 6 (refine Fr.setCell ?_ (.inl (by simp)) _)
  exact Fr.refl _ _
set_option maxRecDepth 100000 in
theorem mdo_out (h : MG w tg Λ T T B M σ) (hd : GDim T B M) (th : Int) (hth : ¬ fieldIn T th) (o : Po) :
    Calls Try.prog 12 #[.pointer (some ⟨Λ.m, 0, none⟩), .int .i64 th, opV o] w (GPost w tg (fun w' tg' => MAt w' tg' Λ.m T B M σ) (ansV 0 0 ⟨2, 0, false⟩)) := by
  have hT := hd.t
  have HP := hide h.at
  have c2 : w.cell? ⟨Λ.m, 2, none⟩ = some (.slice Λ.sA T Λ.sc) := h.c2
  have NG : Λ.m < w.heap.size := h.st.lt
  have NG1 : Λ.m < w.heap.size + 1 := by omega
  unfold opV ansV
  rcases fieldIn_ways T th with ⟨k1, k2⟩ | ⟨k1, k3, k2⟩ | ⟨k1, k3, k2⟩
  · clear h hth k2 hd
    go_enter Try.func12, Try.ntmps12
    go_wp2_with fail
    refine bodyPost_ret (v := .agg #[.int .i64 0, .int .i64 0, .int .i64 2, .int .u64 0, .bool false]) (by simp [results, Try.results12, go_sem, *]) rfl ⟨rfl, tg, HP.out.fr0 ?_, GFr.fr0 ?_⟩
    · exact ((Fr.refl _ _).alloc _).alloc _
    · exact ((Fr.refl _ _).alloc _).alloc _
  · have g0 : ¬ th < 0 := by omega
    clear h hth k2 hd
    go_enter Try.func12, Try.ntmps12
    go_wp2_with fail
    refine bodyPost_ret (v := .agg #[.int .i64 0, .int .i64 0, .int .i64 2, .int .u64 0, .bool false]) (by simp [results, Try.results12, go_sem, *]) rfl ⟨rfl, tg, HP.out.fr0 ?_, GFr.fr0 ?_⟩
    · exact ((Fr.refl _ _).alloc _).alloc _
    · exact ((Fr.refl _ _).alloc _).alloc _
  · exact absurd k2 hth
/-- Do, of the document's graph. -/
theorem mdo_any (h : MG w tg Λ T T B M σ) (ok : GOk T B σ) (hd : GDim T B M) (hN : σ.N + 1 ≤ 4096) (hdn : ∀ t, σ.done t ≤ 1000000) (th : Int) (o : Po) (ho : PoOk o) :
    Calls Try.prog 12 #[.pointer (some ⟨Λ.m, 0, none⟩), .int .i64 th, opV o] w (GPost w tg (fun w' tg' => MAt w' tg' Λ.m T B M (doS B M T σ th o)) (doV B M T σ th o)) := by
  unfold doS doV
  by_cases hf : fieldIn T th
  · rw [if_pos hf, if_pos hf]
    have hf' := hf
    unfold fieldIn at hf'
    obtain ⟨t, rfl⟩ := Int.eq_ofNat_of_zero_le hf'.1
    rw [Int.toNat_natCast]
    exact mdo_in h ok hd hN (by omega) (hdn t) o ho
  · rw [if_neg hf, if_neg hf]
    exact mdo_out h hd th hf o
end
theorem stabM (m T B M : Nat) (σ : GS) : Stab (fun w tg => MAt w tg m T B M σ) := fun _ _ _ _ h hf hF => h.fr hf hF
section
variable {I1 I2 : World → TG → Prop} {W w : World} {tg1 tg2 : TG} {m T B M k : Nat} {σ : GS}
/-- Do, of the second of two, the document's. -/
theorem Pr.mdo (h : Pr I1 (fun w tg => MAt w tg m T B M σ) W w tg1 tg2) (s1 : Stab I1) (hg : GGo T B M (k + 1) σ) (th : Int) (o : Po) (ho : PoOk o) :
    Calls Try.prog 12 #[.pointer (some ⟨m, 0, none⟩), .int .i64 th, opV o] w fun e w' => e = .returned (doV B M T σ th o) ∧ ∃ tg2', Pr I1 (fun w tg => MAt w tg m T B M (doS B M T σ th o)) W w' tg1 tg2' ∧ Kept w tg1 tg2 w' tg1 tg2' := by
  obtain ⟨Λ, h1, rfl⟩ := h.two
  refine (mdo_any h1 hg.ok hg.dim (by have := hg.n; omega) (fun t => by have := hg.done t; omega) th o ho).mono ?_
  rintro e w' ⟨rfl, tg', k1, k2⟩
  exact ⟨rfl, tg', h.step2 s1 k1 k1.tok k2⟩
end
end Go.Proofs.Ytmodjkglcgoohaa
