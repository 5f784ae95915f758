/- Package graph: the numbers that objects get as they are come to. -/
import Derived.Test.YtmodjkglcgoohaaGc
import Derived.Test.YtmodjkglcgoohaaRk
import Derived.WalkKit
import Derived.BigQuiet
namespace Go.Proofs.Ytmodjkglcgoohaa
set_option linter.unusedVariables false
set_option linter.unusedSimpArgs false
open Go.RowKit Go.Gl

theorem Try.info_pob : (Try.prog.info? 79).map (fun i => (i.zero, i.size, i.bytes)) = some (some (.pointer none), 1, 8) := by kernel_rfl
theorem Try.info_u64 : (Try.prog.info? 32).map (fun i => (i.zero, i.size, i.bytes)) = some (some (.int .u64 0), 1, 8) := by kernel_rfl
/-- A tour at tp with the list L, its map at mb, its list's block in G. -/
def TourAt (w : World) (tp mb : Nat) (G : List Nat) (ob : Int → Nat) (L : List Int) : Prop :=
  ∃ A c, Blk w tp 75 #[.slice A L.length c, .map (some mb)] ∧ Lr w 79 A L.length c G (L.map (ptrV ob)) ∧
    ∃ f, Mp Try.prog 51 w mb f ∧ ∀ r, (f (.int .u64 r)).getD (.int .u64 0) = .int .u64 (num L r)
def NumPost (w : World) (tp mb : Nat) (G : List Nat) (ob : Int → Nat) (L : List Int) (v : Value) (e : Ending) (w' : World) : Prop :=
  e = .returned v ∧ ∃ G', TourAt w' tp mb G' ob L ∧ Fr (tp :: mb :: G) w w' ∧ ∀ g, g ∈ G' → g ∈ G ∨ w.heap.size ≤ g
section
variable {w w' : World} {tp mb : Nat} {F G : List Nat} {ob : Int → Nat} {L : List Int}
theorem TourAt.fr (h : TourAt w tp mb G ob L) (hf : Fr F w w') (h1 : tp ∉ F) (h2 : mb ∉ F) (h3 : ∀ g, g ∈ G → g ∉ F) : TourAt w' tp mb G ob L := by
  obtain ⟨A, c, k1, k2, f, k3, k4⟩ := h
  exact ⟨A, c, k1.fr hf h1, k2.fr hf h3, f, k3.fr hf h2, k4⟩
theorem TourAt.fr0 (h : TourAt w tp mb G ob L) (hf : Fr [] w w') : TourAt w' tp mb G ob L := h.fr hf (by simp) (by simp) (fun _ _ => by simp)
theorem TourAt.lt (h : TourAt w tp mb G ob L) : ∀ x, x ∈ tp :: mb :: G → x < w.heap.size := by
  obtain ⟨A, c, k1, k2, f, k3, k4⟩ := h
  intro x hx
  simp only [List.mem_cons] at hx
  rcases hx with rfl | rfl | hx
  · exact k1.lt
  · exact k3.lt
  · exact k2.lt x hx
theorem TourAt.new (w : World) (ob : Int → Nat) : TourAt ((w.alloc (.map #[] 0)).alloc (.cells #[.slice none 0 0, .map (some w.heap.size)] 75)) (w.heap.size + 1) w.heap.size [] ob [] :=
  ⟨none, 0, Blk.new_at _ _ (by simp), Lr.nil _ _, fun _ => none, (Mp.made w).fr0 ((Fr.refl _ _).alloc _), fun r => rfl⟩
theorem num_wf {L : List Int} (h : L.length ≤ 4096) (r : Int) : 0 ≤ num L r ∧ num L r ≤ 4096 := by
  have := num_bounds L r
  omega
set_option maxRecDepth 100000 in
set_option maxHeartbeats 1600000 in
theorem gnumber_any (h : TourAt w tp mb G ob L) {r : Int} (h1 : 0 ≤ r) (h2 : r ≤ 4096) (ho : r ≠ 0 → ∃ cs, Blk w (ob r) 90 cs ∧ cs[0]? = some (.int .u64 r)) (hl : L.length < 4096) (h0 : (0 : Int) ∉ L) :
    Calls Try.prog 24 #[.pointer (some ⟨tp, 0, none⟩), ptrV ob r] w (NumPost w tp mb G ob (visit L r) (.int .u64 (num (visit L r) r))) := by
  by_cases e0 : r = 0
  · subst e0
    have e1 : visit L 0 = L := by unfold visit; rw [if_pos (.inl rfl)]
    have e2 : num L 0 = 0 := by unfold num; rw [if_neg h0]
    rw [e1, e2, ptrV_0]
    have H := hide h
    clear h ho h0
    go_enter Try.func24, Try.ntmps24
    go_wp2_with fail
    go_ret
    exact ⟨rfl, G, H.out, Fr.refl _ _, fun g hg => .inl hg⟩
  · obtain ⟨cs, hb, hcs⟩ := ho e0
    have H := hide h
    obtain ⟨A, c, k1, k2, f, k3, k4⟩ := h
    have hkey := refKey r (wf_u64_of ⟨by omega, by omega⟩)
    have c1 : w.cell? ⟨tp, 1, none⟩ = some (.map (some mb)) := by rw [k1.cell]; rfl
    have co : w.cell? ⟨ob r, 0, none⟩ = some (.int .u64 r) := by rw [hb.cell]; exact hcs
    have hlk : ∀ i, (Instr.lookup 72 (.map (some mb)) (.int .u64 r) false).run Try.prog (w.drewN i) = .ok (.int .u64 (num L r)) (w.drewN i) := fun i => by
      rw [(k3.fr0 ((Fr.refl [] w).drewN i)).look Try.refLaw Try.underlying72 (zeroU _) hkey, k4 r]
    rw [ptrV_pos _ e0]
    have hnb := num_wf (Nat.le_of_lt hl) r
    by_cases hm : r ∈ L
    · have e1 : visit L r = L := by unfold visit; rw [if_pos (.inr hm)]
      have e2 : (num L r != 0) = true := by simp; exact num_pos.2 hm
      rw [e1]
      generalize num L r = x at *
      clear k1 k2 k3 k4 hb hcs hkey hm h0
      go_enter Try.func24, Try.ntmps24
      go_wp2_with fail
      go_quiet (fail)
      go_wp2_with fail
      go_ret
      exact ⟨rfl, G, H.out.fr0 ((Fr.refl _ _).drewN nq), (Fr.refl _ _).drewN nq, fun g hg => .inl hg⟩
    · have e1 : visit L r = L ++ [r] := by unfold visit; rw [if_neg (by simp [e0, hm])]
      have e2 : num L r = 0 := by unfold num; rw [if_neg hm]
      rw [e1, num_last hm, show ((L.length + 1 : Nat) : Int) = (L.length : Int) + 1 by omega]
      rw [e2] at hlk
      obtain ⟨i0, hi, hz0, hz1, hz2⟩ := info_parts Try.info_pob
      obtain ⟨n, hn0⟩ : ∃ n, n = L.length := ⟨_, rfl⟩
      have HN : Hid (([Value.pointer (some ⟨ob r, 0, none⟩)]).length = 1 ∧ (∀ u ∈ [Value.pointer (some ⟨ob r, 0, none⟩)], u.oneCell' = true) ∧ n + 1 ≤ maxLen ∧ (n + 1) * 8 ≤ 140737488355328) := ⟨rfl, by simp [Value.oneCell'], by unfold maxLen; omega, by omega⟩
      have hnl : n < 4096 := by omega
      rw [← hn0] at k1 k2 ⊢
      have HN0 := hide hn0
      have HK := hide hkey
      have H4 := hide k4
      have HM := hide hm
      have HE0 := hide e0
      have hneq : tp ∉ G := k2.apart k1 (by decide)
      have hne1 : mb ∉ G := fun hg => by
        rcases Nat.eq_zero_or_pos c with hc | hc
        · rw [k2.zero hc] at hg; cases hg
        · obtain ⟨g, off, cur, _, q2, q3, _⟩ := k2.blk hc
          rw [q2] at hg
          simp at hg
          exact k3.blk_ne q3 hg
      have hne2 : mb ≠ tp := k3.blk_ne k1
      have hne3 : ob r ∉ G := k2.apart hb (by decide)
      have hne4 : ob r ≠ tp := Blk.apart hb k1 (by decide)
      have hne5 : mb ≠ ob r := k3.blk_ne hb
      have K1 := hide k1
      have K2 := hide k2
      have K3 := hide k3
      have KB := hide hb
      have HCS := hide hcs
      have HNE : Hid (tp ∉ G ∧ mb ∉ G ∧ mb ≠ tp ∧ ob r ∉ G ∧ ob r ≠ tp ∧ mb ≠ ob r) := ⟨hneq, hne1, hne2, hne3, hne4, hne5⟩
      clear k1 k2 k3 k4 hb hcs hkey hm h0 hn0 hl e0 hneq hne1 hne2 hne3 hne4 hne5 e1 e2 ho
      go_enter Try.func24, Try.ntmps24
      go_wp2_with fail
      go_quiet (fail)
      clear c1 co hlk
      obtain ⟨w1, hw1⟩ : ∃ w1, w1 = w.drewN nq := ⟨_, rfl⟩
      rw [← hw1]
      have K11 : Hid (Blk w1 tp 75 #[.slice A n c, .map (some mb)]) := hw1 ▸ K1.out.drewN nq
      have K21 : Hid (Lr w1 79 A n c G (L.map (ptrV ob))) := hw1 ▸ K2.out.drewN nq
      have K31 : Hid (Mp Try.prog 51 w1 mb f) := hw1 ▸ K3.out.fr0 ((Fr.refl [] w).drewN nq)
      have KB1 : Hid (Blk w1 (ob r) 90 cs) := hw1 ▸ KB.out.drewN nq
      have HF1 : Hid (Fr [] w w1) := hw1 ▸ (Fr.refl [] w).drewN nq
      clear hw1 K1 K2 K3 KB
      have c0 : w1.cell? ⟨tp, 0, none⟩ = some (.slice A n c) := by rw [K11.out.cell]; rfl
      have N0 : tp < w1.heap.size := K11.out.lt
      have HFZ : Hid (∀ w2 w', Fr [] w1 w2 → Fr G w2 w' → w'.cell? ⟨tp, 0, none⟩ = some (.slice A n c) ∧ w'.frozen? ⟨tp, 0, none⟩ = false) := fun w2 w' hf0 hf => by
        have hb := (K11.out.fr hf0 (by simp)).fr hf HNE.out.1
        exact ⟨by rw [hb.cell]; rfl, hb.frozen 0⟩
      have HLR : Hid (Lr (w1.alloc (.cells #[.pointer (some ⟨ob r, 0, none⟩)] 79)) 79 A n c G (L.map (ptrV ob))) := K21.out.alloc _
      go_wp2_with (first | (at_builtin; refine wpList_append_lr rfl _ _ 73 rfl 79 i0 (.pointer none) 8 Try.underlying73 hi hz0 hz1 hz2 rfl rfl HLR.out rfl HN.out.1 (fun _ => one_of w1 _ 79 rfl _ (Fr.refl _ _)) HN.out.2.1 HN.out.2.2.1 HN.out.2.2.2 ?_; intro A' c' G' w2 HLn HFn HGn; have d0 := (HFZ.out _ _ ((Fr.refl _ _).alloc _) HFn.out).1; have dz := (HFZ.out _ _ ((Fr.refl _ _).alloc _) HFn.out).2))
      have HF2 : Hid (Fr G w w2) := ((HF1.out.alloc (.cells #[.pointer (some ⟨ob r, 0, none⟩)] 79)).mono (fun _ h => by cases h)).trans_same HFn.out
      have HA1 : Hid (Fr [] w1 (w1.alloc (.cells #[.pointer (some ⟨ob r, 0, none⟩)] 79))) := (Fr.refl _ _).alloc _
      have K12 : Hid (Blk w2 tp 75 #[.slice A n c, .map (some mb)]) := (K11.out.fr HA1.out (by simp)).fr HFn.out HNE.out.1
      have K32 : Hid (Mp Try.prog 51 w2 mb f) := (K31.out.fr0 HA1.out).fr HFn.out HNE.out.2.1
      have KB2 : Hid (Blk w2 (ob r) 90 cs) := (KB1.out.fr HA1.out (by simp)).fr HFn.out HNE.out.2.2.2.1
      obtain ⟨w3, hw3⟩ : ∃ w3, w3 = w2.setCell ⟨tp, 0, none⟩ (.slice A' (n + 1) c') := ⟨_, rfl⟩
      rw [← hw3]
      have HF3 : Hid (Fr [tp] w2 w3) := hw3 ▸ (Fr.refl _ _).setCell (p := ⟨tp, 0, none⟩) (.inl (by simp)) _
      have K13 : Hid (Blk w3 tp 75 #[.slice A' (n + 1) c', .map (some mb)]) := by
        show Blk w3 tp 75 _
        have := K12.out.put 0 (.slice A' (n + 1) c')
        rw [← hw3] at this
        simpa using this
      have K33 : Hid (Mp Try.prog 51 w3 mb f) := K32.out.fr HF3.out (by simpa using HNE.out.2.2.1)
      have KB3 : Hid (Blk w3 (ob r) 90 cs) := KB2.out.fr HF3.out (by simpa using HNE.out.2.2.2.2.1)
      have hGt : tp ∉ G' := HLn.out.apart K12.out (by decide)
      have K23 : Hid (Lr w3 79 A' (n + 1) c' G' (L.map (ptrV ob) ++ [.pointer (some ⟨ob r, 0, none⟩)])) := HLn.out.fr HF3.out (fun g hg hx => hGt (by simp at hx; rw [← hx]; exact hg))
      clear hw3 d0 dz c0 hGt
      have x0 : w3.cell? ⟨tp, 0, none⟩ = some (.slice A' (n + 1) c') := by rw [K13.out.cell]; rfl
      have x1 : w3.cell? ⟨tp, 1, none⟩ = some (.map (some mb)) := by rw [K13.out.cell]; rfl
      have xo : w3.cell? ⟨ob r, 0, none⟩ = some (.int .u64 r) := by rw [KB3.out.cell]; exact HCS.out
      go_wp2_with fail
      refine region_tail 9 (by kernel_rfl) (by kernel_rfl) ?_
      simp only [List.take_succ_cons, List.take_zero, List.drop_succ_cons, List.drop_zero]
      repeat still_step
      refine wpStill_nil ?_
      go_wp2_with (at_mapUpdate; refine list_of rfl fun K hK => wp_update (key := .int .u64 r) (v := .int .u64 ((n : Int) + 1)) _ _ _ 72 rfl Try.refLaw Try.underlying72 K33.out ((Fr.refl _ _).drew) rfl rfl HK.out rfl ?_; intro w4 hM hF; refine hK _ _ ?_)
      go_ret
      have hF4 : Fr [mb] w3 w4 := hF.out.from_drew
      have hGm : mb ∉ G' := fun hg => by
        rcases Nat.eq_zero_or_pos c' with hc | hc
        · rw [K23.out.zero hc] at hg; cases hg
        · obtain ⟨g, off, cur, _, q2, q3, _⟩ := K23.out.blk hc
          rw [q2] at hg
          simp at hg
          exact K33.out.blk_ne q3 hg
      refine ⟨rfl, G', ⟨A', c', ?_, ?_, upF f (.int .u64 r) (.int .u64 ((n : Int) + 1)), hM.out, fun x => ?_⟩, ?_, fun g hg => ?_⟩
      · have : (L ++ [r]).length = n + 1 := by rw [HN0.out]; simp
        rw [this]
        exact K13.out.fr hF4 (by simpa using Ne.symm HNE.out.2.2.1)
      · have : (L ++ [r]).length = n + 1 := by rw [HN0.out]; simp
        rw [this, List.map_append, show [r].map (ptrV ob) = [.pointer (some ⟨ob r, 0, none⟩)] by simp [ptrV_pos _ HE0.out]]
        exact K23.out.fr hF4 (fun g hg hx => hGm (by simp at hx; rw [← hx]; exact hg))
      · by_cases e : x = r
        · subst e
          rw [upF_at, num_last HM.out, ← HN0.out]
          rfl
        · rw [upF_ne _ _ (by simpa using e), H4.out x]
          congr 1
          unfold num
          by_cases hx : x ∈ L
          · rw [if_pos hx, if_pos (by simp [hx]), List.idxOf_append, if_pos hx]
          · rw [if_neg hx, if_neg (by simp [hx, e])]
      · have f1 : Fr (tp :: mb :: G) w w2 := HF2.out.mono (fun x hx => .inl (by simp [hx]))
        exact (f1.trans HF3.out (fun x hx => .inl (by simp at hx; simp [hx]))).trans hF4 (fun x hx => .inl (by simp at hx; simp [hx]))
      · rcases HGn.out g hg with h1 | ⟨h1, _⟩
        · exact .inl h1
        · have := HF1.out.size
          right
          rw [h1]
          simp
          omega
end
end Go.Proofs.Ytmodjkglcgoohaa
