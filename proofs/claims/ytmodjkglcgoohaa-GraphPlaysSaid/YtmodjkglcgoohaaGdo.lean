/- Package graph: Do. -/
import Derived.Test.YtmodjkglcgoohaaGd
import Derived.WalkKit
import Derived.BigQuiet
namespace Go.Proofs.Ytmodjkglcgoohaa
set_option linter.unusedVariables false
set_option linter.unusedSimpArgs false
open Go.RowKit Go.Gl
section
variable {w w' : World} {tg tg' : TG} {F : List Nat} {Λ : GL} {T B M : Nat} {nn : Int} {σ : GS} {t : Nat}

theorem actA_tick (B M T : Nat) (σ : GS) (t : Nat) (o : Po) : actA B M T (σ.tick t) t o = actA B M T σ t o := rfl
set_option maxRecDepth 100000 in
theorem gdo_in (h : PGm w tg Λ T B M (σ.N : Int) σ) (ok : GOk T B σ) (hd : GDim T B M) (hN : σ.N + 1 ≤ 4096) (ht : t < T) (hdn : σ.done t ≤ 1000000) (o : Po) (ho : PoOk o) :
    Calls Try.prog 11 #[.pointer (some ⟨Λ.g, 0, none⟩), .int .i64 (t : Int), opV o] w (GPost w tg (fun w' tg' => GAt w' tg' Λ.g Λ.S T B M (actS B M T (σ.tick t) t o)) (ansV (t : Int) (σ.done t : Int) (actA B M T σ t o))) := by
  have hfi : fieldIn T (t : Int) := ⟨by omega, by omega⟩
  obtain ⟨p, cp, hv, hpl, hfz, hcl⟩ := h.row.pos (by omega)
  have hT := hd.t
  have ht' : (t : Int) < (T : Int) := by omega
  have hw1 : IntKind.i64.wrap ((σ.done t : Int) + 1) = (σ.done t : Int) + 1 := IntWalk.i64_in _ ⟨by omega, by omega⟩
  obtain ⟨w0, hw0⟩ : ∃ w0, w0 = w.setCell ⟨p, t * 2 + 1, none⟩ (.int .i64 ((σ.done t : Int) + 1)) := ⟨_, rfl⟩
  have hs0 : w0.heap.size = w.heap.size := by rw [hw0]; simp
  obtain ⟨w2, hw2⟩ : ∃ w2, w2 = ((w0.alloc (.cells #[.int .i64 o.k, .int .i64 o.a, .int .i64 o.b, .int .i64 o.c, .int .u64 o.v] 38)).alloc (.cells #[.int .i64 0, .int .i64 0, .int .i64 0, .int .u64 0, .bool false] 34)).alloc (.cells #[.int .i64 (t : Int), .int .i64 (σ.done t : Int), .int .i64 0, .int .u64 0, .bool false] 34) := ⟨_, rfl⟩
  have htb : tg p = (2, 0) := h.t2 p (by rw [hv]; rfl)
  have hf0 : Fr [p] w w0 := by rw [hw0]; exact (Fr.refl _ _).setCell (p := ⟨p, t * 2 + 1, none⟩) (.inl (by simp)) _
  have hf2 : Fr [] w0 w2 := by rw [hw2]; exact (((Fr.refl _ _).alloc _).alloc _).alloc _
  have hsz : w2.heap.size = w.heap.size + 3 := by rw [hw2]; simp [hs0]
  have hbo : Blk w2 w.heap.size 38 #[.int .i64 o.k, .int .i64 o.a, .int .i64 o.b, .int .i64 o.c, .int .u64 o.v] := by rw [hw2]; exact ((Blk.new_at _ _ hs0).alloc _).alloc _
  have hbr : Blk w2 (w.heap.size + 1) 34 (ansC 0 0 ⟨0, 0, false⟩) := by rw [hw2]; exact (Blk.new_at _ _ (by simp [hs0])).alloc _
  have hba : Blk w2 (w.heap.size + 2) 34 (ansC (t : Int) (σ.done t : Int) ⟨0, 0, false⟩) := by rw [hw2]; exact Blk.new_at _ _ (by simp [hs0])
  have hp0 := h.done hv ht
  rw [show ((σ.done t + 1 : Nat) : Int) = (σ.done t : Int) + 1 by omega, ← hw0] at hp0
  have hp2 := hp0.fr0 hf2
  have u1 : ∀ x, w.heap.size ≤ x → (tg x).1 = 0 := fun x hx => by
    rcases Nat.eq_zero_or_pos (tg x).1 with e | e
    · exact e
    · have := h.tok x (by omega); omega
  have hg2 : GFr w tg w2 tg := (GFr.of hf0 (fun z hz => by simp at hz; rw [hz, htb]; simp)).trans0 hf2
  have HACT := hide (gact_any (σ := σ.tick t) (hp2.fr0 ((Fr.refl [] w2).drew)) (ok.tick t) hd hN ht o ho (hab := hba.drew) (htg := u1 _ (by omega)))
  rw [actA_tick] at HACT
  have HEND : Hid (∀ w3, ActPost w2.drew tg Λ.g Λ.S T B M (actS B M T (σ.tick t) t o) (w.heap.size + 2) (t : Int) (σ.done t : Int) (actA B M T σ t o) (.returned (.tuple #[])) w3 →
      Blk w3 (w.heap.size + 2) 34 (ansC (t : Int) (σ.done t : Int) (actA B M T σ t o)) ∧ Blk w3 (w.heap.size + 1) 34 (ansC 0 0 ⟨0, 0, false⟩) ∧ (∀ k, w3.frozen? ⟨w.heap.size + 1, k, none⟩ = false) ∧
      ∀ w4, Fr [w.heap.size + 1] w3 w4 → ∃ tg', GAt w4 tg' Λ.g Λ.S T B M (actS B M T (σ.tick t) t o) ∧ GFr w tg w4 tg') := fun w3 hq => by
    obtain ⟨_, tg3, k1, k2, ⟨F, k3, k4⟩, k5⟩ := hq
    have n1 : w.heap.size + 1 ∉ F := fun hx => by
      rcases k4 _ hx with e | e
      · omega
      · exact e (u1 _ (by omega))
    refine ⟨k2, hbr.drew.fr k3 n1, fun k => (hbr.drew.fr k3 n1).frozen k, fun w4 hf4 => ⟨tg3, k1.fr hf4 (fun z hz => ?_), ?_⟩⟩
    · simp at hz
      rw [hz, k5 _ (by show _ < w2.heap.size; omega)]
      exact u1 _ (by omega)
    · obtain ⟨G, g1, g2⟩ := hg2.fr
      refine ⟨⟨G ++ F.filter (fun x => decide (x < w.heap.size)), ?_, fun z hz => ?_⟩, fun b hb => (k5 b (by show _ < w2.heap.size; omega)).trans (hg2.up b hb)⟩
      · have s1 : Fr (G ++ F.filter (fun x => decide (x < w.heap.size))) w w3 := ((g1.mono (fun x hx => .inl (by simp [hx]))).drew).trans k3 (fun x hx => by
          rcases Nat.lt_or_ge x w.heap.size with h3 | h3
          · exact .inl (by simp [hx, h3])
          · exact .inr h3)
        exact s1.trans hf4 (fun x hx => .inr (by simp at hx; omega))
      · rcases List.mem_append.1 hz with h3 | h3
        · exact g2 z h3
        · rw [List.mem_filter] at h3
          have h4 : z < w.heap.size := by simpa using h3.2
          rcases k4 z h3.1 with e | e
          · omega
          · exact e
  have HBO := hide hbo
  have e0 : w2.cell? ⟨w.heap.size, 0, none⟩ = some (.int .i64 o.k) := by rw [HBO.out.cell]; rfl
  have e1 : w2.cell? ⟨w.heap.size, 1, none⟩ = some (.int .i64 o.a) := by rw [HBO.out.cell]; rfl
  have e2 : w2.cell? ⟨w.heap.size, 2, none⟩ = some (.int .i64 o.b) := by rw [HBO.out.cell]; rfl
  have e3 : w2.cell? ⟨w.heap.size, 3, none⟩ = some (.int .i64 o.c) := by rw [HBO.out.cell]; rfl
  have e4 : w2.cell? ⟨w.heap.size, 4, none⟩ = some (.int .u64 o.v) := by rw [HBO.out.cell]; rfl
  have f0 : w2.cell? ⟨p, t * 2, none⟩ = some (.pointer (some ⟨Λ.S t, 0, none⟩)) := by
    have hr := hp2.row
    rw [hv] at hr
    obtain ⟨p', cp', hv', _, _, hcl'⟩ := hr.pos (by omega)
    injection hv' with q1 q2 q3
    injection q1 with q1
    injection q1 with q1
    subst q1
    exact (hcl' t ht).1
  have HE0 := hide e0
  have HE1 := hide e1
  have HE2 := hide e2
  have HE3 := hide e3
  have HE4 := hide e4
  have HF0 := hide f0
  have c0 : w.cell? ⟨Λ.g, 0, none⟩ = some (.slice (some ⟨p, 0, none⟩) T cp) := by rw [h.st.cell, ← hv]; rfl
  have c1 := (hcl t ht).2
  have z1 := hfz (t * 2 + 1)
  have NG : Λ.g < w.heap.size := h.st.lt
  have NP1 : p < w.heap.size + 1 := by omega
  have NP2 : p < w.heap.size + 1 + 1 := by omega
  have HX := ghas_any (h.fr0 (((Fr.refl [] w).alloc (.cells #[.int .i64 o.k, .int .i64 o.a, .int .i64 o.b, .int .i64 o.c, .int .u64 o.v] 38)).alloc (.cells #[.int .i64 0, .int .i64 0, .int .i64 0, .int .u64 0, .bool false] 34))) hd.t (t : Int)
  rw [show decide (fieldIn T (t : Int)) = true by simpa using hfi] at HX
  have HH := hide HX
  rw [hw0] at hw2
  have HW2 := hide hw2
  unfold opV at HACT ⊢
  unfold ansV
  clear h hp0 hp2 HX hbo hbr hba u1 htb hsz hs0 hf0 hf2 hfi hcl hfz hv hd ok ho hN hdn hw0 hw2 hg2 e0 e1 e2 e3 e4 f0 HBO
  generalize σ.done t = dn at *
  generalize actA B M T σ t o = x at *
  go_enter Try.func11, Try.ntmps11
  go_wp2_with fail
  refine HH.out.mono ?_
  rintro e w' ⟨rfl, rfl⟩
  go_wp2_with fail
  rw [← HW2.out, show w.heap.size + 1 + 1 = w.heap.size + 2 from rfl]
  clear HW2 HH c0 c1 z1 hw1 NP1 NP2 NG hT ht'
  have NB0 := lt_of_cell HE0.out
  have e0 := HE0.out
  have e1 := HE1.out
  have e2 := HE2.out
  have e3 := HE3.out
  have e4 := HE4.out
  have f0 := HF0.out
  refine region_tail 6 (by kernel_rfl) (by kernel_rfl) ?_
  simp only [List.take_succ_cons, List.take_zero, List.drop_succ_cons, List.drop_zero]
  repeat still_step
  refine wpStill_nil ?_
  go_wp2_with fail
  refine HACT.out.mono ?_
  rintro e w3 ⟨rfl, hrest⟩
  obtain ⟨x1, x2, x3, x4⟩ := HEND.out w3 ⟨rfl, hrest⟩
  have X4 := hide x4
  have a0 : w3.cell? ⟨w.heap.size + 2, 0, none⟩ = some (.int .i64 (t : Int)) := by rw [x1.cell]; rfl
  have a1 : w3.cell? ⟨w.heap.size + 2, 1, none⟩ = some (.int .i64 (dn : Int)) := by rw [x1.cell]; rfl
  have a2 : w3.cell? ⟨w.heap.size + 2, 2, none⟩ = some (.int .i64 x.code) := by rw [x1.cell]; rfl
  have a3 : w3.cell? ⟨w.heap.size + 2, 3, none⟩ = some (.int .u64 x.word) := by rw [x1.cell]; rfl
  have a4 : w3.cell? ⟨w.heap.size + 2, 4, none⟩ = some (.bool x.bit) := by rw [x1.cell]; rfl
  have b0 : w3.cell? ⟨w.heap.size + 1, 0, none⟩ = some (.int .i64 0) := by rw [x2.cell]; rfl
  have b1 : w3.cell? ⟨w.heap.size + 1, 1, none⟩ = some (.int .i64 0) := by rw [x2.cell]; rfl
  have b2 : w3.cell? ⟨w.heap.size + 1, 2, none⟩ = some (.int .i64 0) := by rw [x2.cell]; rfl
  have b3 : w3.cell? ⟨w.heap.size + 1, 3, none⟩ = some (.int .u64 0) := by rw [x2.cell]; rfl
  have b4 : w3.cell? ⟨w.heap.size + 1, 4, none⟩ = some (.bool false) := by rw [x2.cell]; rfl
  have z0 := x3 0
  have z1 := x3 1
  have z2 := x3 2
  have z3 := x3 3
  have z4 := x3 4
  have N0 : w.heap.size + 1 < w3.heap.size := lt_of_cell b0
  clear hrest x1 x2 x3 x4 HEND HACT e0 e1 e2 e3 e4 f0 NB0 HE0 HE1 HE2 HE3 HE4 HF0
  go_wp2_with fail
  refine bodyPost_ret (v := .agg #[.int .i64 (t : Int), .int .i64 (dn : Int), .int .i64 x.code, .int .u64 x.word, .bool x.bit]) (by simp [results, Try.results11, go_sem, *]) rfl ⟨rfl, ?_⟩
  refine X4.out _ ?_
  iterate 5 (refine Fr.setCell ?_ (.inl (by simp)) _)
  exact Fr.refl _ _
set_option maxRecDepth 100000 in
theorem gdo_out (h : PGm w tg Λ T B M (σ.N : Int) σ) (hd : GDim T B M) (th : Int) (hth : ¬ fieldIn T th) (o : Po) :
    Calls Try.prog 11 #[.pointer (some ⟨Λ.g, 0, none⟩), .int .i64 th, opV o] w (GPost w tg (fun w' tg' => GAt w' tg' Λ.g Λ.S T B M σ) (ansV 0 0 ⟨2, 0, false⟩)) := by
  have HX := ghas_any (h.fr0 (((Fr.refl [] w).alloc (.cells #[.int .i64 o.k, .int .i64 o.a, .int .i64 o.b, .int .i64 o.c, .int .u64 o.v] 38)).alloc (.cells #[.int .i64 0, .int .i64 0, .int .i64 0, .int .u64 0, .bool false] 34))) hd.t th
  rw [show decide (fieldIn T th) = false by simpa using hth] at HX
  have HH := hide HX
  have HP := hide h.at
  unfold opV ansV
  clear h hth HX
  go_enter Try.func11, Try.ntmps11
  go_wp2_with fail
  refine HH.out.mono ?_
  rintro e w' ⟨rfl, rfl⟩
  go_wp2_with fail
  refine bodyPost_ret (v := .agg #[.int .i64 0, .int .i64 0, .int .i64 2, .int .u64 0, .bool false]) (by simp [results, Try.results11, go_sem, *]) rfl ⟨rfl, tg, HP.out.fr0 ?_, GFr.fr0 ?_⟩
  · exact ((Fr.refl _ _).alloc _).alloc _
  · exact ((Fr.refl _ _).alloc _).alloc _
/-- Do, of a graph that is there. -/
theorem gdo_any (h : PGm w tg Λ T B M (σ.N : Int) σ) (ok : GOk T B σ) (hd : GDim T B M) (hN : σ.N + 1 ≤ 4096) (hdn : ∀ t, σ.done t ≤ 1000000) (th : Int) (o : Po) (ho : PoOk o) :
    Calls Try.prog 11 #[.pointer (some ⟨Λ.g, 0, none⟩), .int .i64 th, opV o] w (GPost w tg (fun w' tg' => GAt w' tg' Λ.g Λ.S T B M (doS B M T σ th o)) (doV B M T σ th o)) := by
  unfold doS doV
  by_cases hf : fieldIn T th
  · rw [if_pos hf, if_pos hf]
    have hf' := hf
    unfold fieldIn at hf'
    obtain ⟨t, rfl⟩ := Int.eq_ofNat_of_zero_le hf'.1
    rw [Int.toNat_natCast]
    exact gdo_in h ok hd hN (by omega) (hdn t) o ho
  · rw [if_neg hf, if_neg hf]
    exact gdo_out h hd th hf o
theorem gdo_nil (th : Int) (o : Po) (w : World) : Calls Try.prog 11 #[.pointer none, .int .i64 th, opV o] w fun e w' => e = .returned (ansV 0 0 ⟨1, 0, false⟩) ∧ Fr [] w w' := by
  unfold opV ansV
  go_enter Try.func11, Try.ntmps11
  go_wp2_with fail
  refine bodyPost_ret (v := .agg #[.int .i64 0, .int .i64 0, .int .i64 1, .int .u64 0, .bool false]) (by simp [results, Try.results11, go_sem, *]) rfl ⟨rfl, ?_⟩
  exact ((Fr.refl _ _).alloc _).alloc _
theorem gshape_nil (w : World) : Calls Try.prog 14 #[.pointer none] w fun e w' => e = .returned (.slice none 0 0) ∧ w = w' := by
  go_enter Try.func14, Try.ntmps14
  go_wp2
  go_ret
  exact ⟨rfl, rfl⟩
theorem gwords_nil (w : World) : Calls Try.prog 16 #[.pointer none] w fun e w' => e = .returned (.int .i64 0) ∧ w = w' := by
  go_enter Try.func16, Try.ntmps16
  go_wp2
  go_ret
  exact ⟨rfl, rfl⟩
end
end Go.Proofs.Ytmodjkglcgoohaa
