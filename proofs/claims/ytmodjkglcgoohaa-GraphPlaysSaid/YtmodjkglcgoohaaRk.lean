/- The document's stack of handles, the comparison of two lists of references, and a list that is handed out. -/
import Derived.Test.YtmodjkglcgoohaaRo
import Derived.WalkKit
import Derived.BigQuiet
namespace Go.Proofs.Ytmodjkglcgoohaa
set_option linter.unusedVariables false
open Go.RowKit Go.Gl

theorem Try.nil_refs (w : World) : (binOp BinOp.eql 76 (Value.slice none 0 0) (Value.slice none 0 0)).run Try.prog w = .ok (.bool true) w := by kernel_rfl
theorem Try.some_refs (a : Addr) (n c : Nat) (w : World) : (binOp BinOp.eql 76 (Value.slice (some a) n c) (Value.slice none 0 0)).run Try.prog w = .ok (.bool false) w := by kernel_rfl
def ClonePost (w : World) (l : List Int) (e : Ending) (w' : World) : Prop := ∃ A c G, e = .returned (.slice A l.length c) ∧ Lr w' 51 A l.length c G (refV l) ∧ Fr [] w w' ∧ ∀ g, g ∈ G → w.heap.size ≤ g
set_option maxRecDepth 100000 in
theorem clone_any {w : World} {A : Option Addr} {c : Nat} {G : List Nat} {l : List Int} (h : Lr w 51 A l.length c G (refV l)) (hl : l.length ≤ 65536) : Calls Try.prog 47 #[.slice A l.length c] w (ClonePost w l) := by
  obtain ⟨i0, hi, hz0, hz1, hz2⟩ := info_parts Try.info_ref
  rcases h.form with ⟨rfl, rfl⟩ | ⟨a, rfl⟩
  · have h0 : l.length = 0 := by have := h.le; omega
    obtain rfl : l = [] := List.eq_nil_of_length_eq_zero h0
    clear h
    have b0 := Try.nil_refs
    go_enter Try.func47, Try.ntmps47
    go_wp2
    go_ret
    exact ⟨none, 0, [], rfl, Lr.nil _ _, Fr.refl _ _, fun _ h => by cases h⟩
  · have HN : Hid ((refV l).length = l.length ∧ (∀ u ∈ refV l, u.oneCell' = true) ∧ 0 + l.length ≤ maxLen ∧ (0 + l.length) * 8 ≤ 140737488355328) := ⟨refV_len _, refV_one _, by unfold maxLen; omega, by omega⟩
    have H := hide h
    have HR : Hid (∀ w', Fr [] w w' → 0 < l.length → ∃ ad, some a = some ad ∧ ∀ j u, (refV l)[j]? = some u → w'.cell? (ad.add j) = some u) := fun w' hf => (h.fr0 hf).read
    have b0 := Try.some_refs a
    clear h hl
    go_enter Try.func47, Try.ntmps47
    go_wp2_with (first | (at_builtin; go_loud (refine wpList_append_lr rfl _ _ 76 rfl 51 i0 (.int .u64 0) 8 Try.underlying76 hi hz0 hz1 hz2 rfl rfl (lrNone _ _ _) rfl HN.out.1 (HR.out _ ((Fr.refl _ _).alloc _)) HN.out.2.1 HN.out.2.2.1 HN.out.2.2.2 ?_; intro A' c' G' w' HLn HFn HGn)))
    go_ret
    have h1 := HLn.out
    rw [Nat.zero_add, List.nil_append] at h1
    exact ⟨A', c', G', rfl, h1, ((Fr.refl _ _).alloc _).trans_same HFn.out, fun g hg => by
      rcases HGn.out g hg with h2 | ⟨h2, _⟩
      · cases h2
      · rw [h2]; simp⟩
theorem hlist_any {w : World} {s B : Nat} {F : List Nat} {l : List Int} (h : HkP w s F B l) (hl : l.length ≤ 65536) : Calls Try.prog 23 #[.pointer (some ⟨s, 0, none⟩)] w (ClonePost w l) := by
  obtain ⟨A, c, G, h, rfl⟩ := h
  have HC := hide (clone_any h.row hl)
  have c0 : w.cell? ⟨s, 0, none⟩ = some (.slice A l.length c) := by rw [h.st.cell]; rfl
  clear h hl
  go_enter Try.func23, Try.ntmps23
  go_wp2_with fail
  refine HC.out.mono ?_
  rintro e w' ⟨A', c', G', rfl, h1, h2, h3⟩
  have H1 := hide h1
  have H2 := hide h2
  have H3 := hide h3
  clear h1 h2 h3
  go_wp2_with fail
  go_ret
  exact ⟨A', c', G', rfl, H1.out, H2.out, H3.out⟩

/-! The document's stack. -/
abbrev HkR (w : World) (s : Nat) (F : List Nat) (B : Nat) (l : List Int) : Prop := ∃ A c G, Hk (layR12 B) 84 w s A c G l ∧ F = s :: G
section
variable {w w' : World} {s c B : Nat} {A : Option Addr} {F F' G : List Nat} {l : List Int}
theorem HkR.fr (h : HkR w s F B l) (hf : Fr F' w w') (hd : ∀ g, g ∈ F → g ∉ F') : HkR w' s F B l := by
  obtain ⟨A, c, G, h, rfl⟩ := h
  exact ⟨A, c, G, h.fr hf (hd s (by simp)) (fun g hg => hd g (by simp [hg])), rfl⟩
theorem HkR.fr0 (h : HkR w s F B l) (hf : Fr [] w w') : HkR w' s F B l := h.fr hf (fun _ _ => by simp)
theorem HkR.drewN (h : HkR w s F B l) (k : Nat) : HkR (w.drewN k) s F B l := h.fr0 ((Fr.refl _ _).drewN k)
theorem HkR.lt (h : HkR w s F B l) : ∀ g, g ∈ F → g < w.heap.size := by
  obtain ⟨A, c, G, h, rfl⟩ := h
  intro g hg
  rcases List.mem_cons.1 hg with rfl | hg
  · exact h.st.lt
  · exact h.row.lt g hg
theorem HkR.sl (h : HkR w s F B l) : ∃ A c, w.cell? ⟨s, 1, none⟩ = some (.slice A l.length c) ∧ w.cell? ⟨s, 0, none⟩ = some (.int .i64 (B : Int)) ∧ Sl w A l.length (fun k => .int .u64 (l.getD k 0)) := by
  obtain ⟨A, c, G, h, rfl⟩ := h
  exact ⟨A, c, by rw [h.st.cell]; rfl, by rw [h.st.cell]; rfl, refSl h.row⟩
end
theorem r12new_bad (b : Int) (h : b < 1 ∨ 64 < b) (w : World) : Calls Try.prog 19 #[.int .i64 b] w fun e w' => e = .returned (.tuple #[.pointer none, .int .i64 2]) ∧ w = w' := by
  have h' : b < 1 ∨ (¬ b < 1 ∧ b > 64) := by omega
  rcases h' with h1 | ⟨h1, h2⟩
  all_goals
    go_enter Try.func19, Try.ntmps19
    go_wp2
    go_ret2
    exact ⟨rfl, rfl⟩
theorem r12new_ok (B : Nat) (h1 : 1 ≤ B) (h2 : B ≤ 64) (w : World) : Calls Try.prog 19 #[.int .i64 (B : Int)] w (HkNew (fun w' s F => HkR w' s F B []) w) := by
  have g1 : ¬ ((B : Int) < 1) := by omega
  have g2 : ¬ ((B : Int) > 64) := by omega
  go_enter Try.func19, Try.ntmps19
  go_wp2
  go_ret2
  exact ⟨_, _, rfl, ⟨none, 0, [], ⟨Blk.new _ _ _, Lr.nil _ _⟩, rfl⟩, (Fr.refl _ _).alloc _, fun x hx => by simp at hx; omega⟩
section
variable {w : World} {s B : Nat} {F : List Nat} {l : List Int}
theorem r12at_any (h : HkR w s F B l) (i : Int) : Calls Try.prog 44 #[.pointer (some ⟨s, 0, none⟩), .int .i64 i] w fun e w' => e = .returned (.tuple #[.int .u64 (hkAt l i), .int .i64 (hkAtE l i)]) ∧ w = w' := by
  obtain ⟨A, c, G, h, rfl⟩ := h
  have c0 : w.cell? ⟨s, 1, none⟩ = some (.slice A l.length c) := by rw [h.st.cell]; rfl
  unfold hkAt hkAtE
  rcases hkIn_ways l i with ⟨h1, h2⟩ | ⟨h1, h3, h2⟩ | ⟨k, rfl, h3, h2⟩
  · rw [if_neg h2, if_neg h2]
    clear h2 h
    go_enter Try.func44, Try.ntmps44
    go_wp2
    go_ret2
    exact ⟨rfl, rfl⟩
  · rw [if_neg h2, if_neg h2]
    clear h2 h
    go_enter Try.func44, Try.ntmps44
    go_wp2
    go_ret2
    exact ⟨rfl, rfl⟩
  · rw [if_pos h2, if_pos h2]
    clear h2
    have h4 : (k : Int) < (l.length : Int) := by omega
    obtain ⟨g, off, rfl, _, _, hx, _, _⟩ := h.row.pos (by omega)
    have c1 : w.cell? ⟨g, off + k, none⟩ = some (.int .u64 (l.getD k 0)) := by rw [hx k h3, refV_get l h3]
    rw [Int.toNat_natCast]
    clear h hx
    generalize l.getD k 0 = x at *
    generalize l.length = n at *
    go_enter Try.func44, Try.ntmps44
    go_wp2
    go_ret2
    exact ⟨rfl, rfl⟩
set_option maxRecDepth 100000 in
theorem r12pop_any (h : HkR w s F B l) (hl : l.length ≤ B) (hB : B ≤ 64) : Calls Try.prog 45 #[.pointer (some ⟨s, 0, none⟩)] w (HkPost w F (fun w' F' => HkR w' s F' B (hkPop l)) (.tuple #[.int .u64 (hkPopV l), .int .i64 (hkPopE l)])) := by
  have HH := hide h
  obtain ⟨A, c, G, h, rfl⟩ := h
  rcases Nat.eq_zero_or_pos l.length with h0 | h0
  · obtain rfl : l = [] := List.eq_nil_of_length_eq_zero h0
    have c0 : w.cell? ⟨s, 1, none⟩ = some (.slice A 0 c) := by rw [h.st.cell]; rfl
    clear h
    go_enter Try.func45, Try.ntmps45
    go_wp2
    go_ret2
    exact ⟨_, rfl, HH.out, Fr.refl _ _, fun x hx => .inl hx⟩
  · obtain ⟨k, hk⟩ : ∃ k, l.length = k + 1 := ⟨l.length - 1, by omega⟩
    obtain ⟨g, off, rfl, rfl, _, hx, _, _⟩ := h.row.pos (by omega)
    have c0 : w.cell? ⟨s, 1, none⟩ = some (.slice (some ⟨g, off, none⟩) (k + 1) c) := by rw [h.st.cell, ← hk]; rfl
    have c1 : w.cell? ⟨g, off + k, none⟩ = some (.int .u64 (l.getD k 0)) := by rw [hx k (by omega), refV_get l (by omega)]
    have z0 := h.st.frozen 1
    have hkc : k + 1 ≤ c := by have := h.row.le; omega
    have hcm := h.row.max
    unfold maxLen at hcm
    have e1 : hkPop l = l.take k := by unfold hkPop; rw [hk]; rfl
    have e2 : hkPopV l = l.getD k 0 := by unfold hkPopV; rw [hk]; rfl
    have e3 : hkPopE l = 0 := by unfold hkPopE; rw [if_neg (by omega)]
    have hlen : (l.take k).length = k := by rw [List.length_take]; omega
    have HQ : Hid (HkR (w.setCell ⟨s, 1, none⟩ (.slice (some ⟨g, off, none⟩) k c)) s (s :: [g]) B (l.take k)) := by
      have h1 := h.row.keep k (by omega)
      rw [← refV_take] at h1
      have h2 := h.put (by decide) (ci := 1) (fun _ _ => rfl) (l' := l.take k) (Fr.refl _ _) (by rw [hlen]; exact h1)
      rw [hlen] at h2
      exact ⟨_, c, [g], h2, rfl⟩
    rw [e1, e2, e3]
    clear h hx e1 e2 e3 hlen hk HH h0 hl hB
    generalize l.getD k 0 = x at *
    generalize l.take k = l' at *
    go_enter Try.func45, Try.ntmps45
    go_wp2
    go_ret2
    exact ⟨_, rfl, HQ.out, (Fr.refl _ _).setCell (p := ⟨s, 1, none⟩) (.inl (by simp)) _, fun x hx => .inl hx⟩
set_option maxRecDepth 100000 in
theorem r12push_any (h : HkR w s F B l) (hl : l.length ≤ B) (hB : B ≤ 64) (r : Int) : Calls Try.prog 42 #[.pointer (some ⟨s, 0, none⟩), .int .u64 r] w (HkPost w F (fun w' F' => HkR w' s F' B (hkPush B l r)) (.int .i64 (hkPushE B l))) := by
  obtain ⟨i0, hi, hz0, hz1, hz2⟩ := info_parts Try.info_ref
  have HH := hide h
  obtain ⟨A, c, G, h, rfl⟩ := h
  have c0 : w.cell? ⟨s, 1, none⟩ = some (.slice A l.length c) := by rw [h.st.cell]; rfl
  have c1 : w.cell? ⟨s, 0, none⟩ = some (.int .i64 (B : Int)) := by rw [h.st.cell]; rfl
  by_cases hlt : l.length < B
  · have e1 : hkPush B l r = l ++ [r] := by unfold hkPush; rw [if_pos hlt]
    have e2 : hkPushE B l = 0 := by unfold hkPushE; rw [if_pos hlt]
    have hn : ¬ ((l.length : Int) ≥ (B : Int)) := by omega
    rw [e1, e2]
    clear e1 e2
    have HL := hide h
    have HN : Hid (([Value.int .u64 r]).length = 1 ∧ (∀ u ∈ [Value.int .u64 r], u.oneCell' = true) ∧ l.length + 1 ≤ maxLen ∧ (l.length + 1) * 8 ≤ 140737488355328) := ⟨rfl, by simp [Value.oneCell'], by unfold maxLen; omega, by omega⟩
    obtain ⟨n, hn0⟩ : ∃ n, n = l.length := ⟨_, rfl⟩
    have hlen : (l ++ [r]).length = n + 1 := by simp [hn0]
    rw [← hn0] at c0 HN hn
    have HN0 := hide hn0
    have HLN := hide hlen
    clear h hl hB hlt hn0 hlen
    go_enter Try.func42, Try.ntmps42
    go_wp2_with fail
    go_quiet (fail)
    have HL1 : Hid (Hk (layR12 B) 84 (w.drewN nq) s A c G l) := HL.out.fr ((Fr.refl [] w).drewN nq) (by simp) (fun _ _ => by simp)
    have HF1 : Hid (Fr [] w (w.drewN nq)) := (Fr.refl [] w).drewN nq
    clear c0 c1
    generalize w.drewN nq = w1 at *
    have c0 : w1.cell? ⟨s, 1, none⟩ = some (.slice A n c) := by rw [HL1.out.st.cell, HN0.out]; rfl
    have N0 : s < w1.heap.size := HL1.out.st.lt
    have HFZ : Hid (∀ w2 w', Fr [] w1 w2 → Fr G w2 w' → w'.cell? ⟨s, 1, none⟩ = some (.slice A n c) ∧ w'.frozen? ⟨s, 1, none⟩ = false) := fun w2 w' hf0 hf => by
      have hb := (HL1.out.st.fr hf0 (by simp)).fr hf (HL1.out.far (by decide))
      exact ⟨by rw [hb.cell, HN0.out]; rfl, hb.frozen 1⟩
    have HL2 : Hid (Hk (layR12 B) 84 (w1.alloc (.cells #[.int .u64 r] 51)) s A c G l) := HL1.out.fr ((Fr.refl [] w1).alloc _) (by simp) (fun _ _ => by simp)
    have HLR : Hid (Lr (w1.alloc (.cells #[.int .u64 r] 51)) 51 A n c G (refV l)) := by rw [HN0.out]; exact HL2.out.row
    go_wp2_with (first | (at_builtin; refine wpList_append_lr rfl _ _ 76 rfl 51 i0 (.int .u64 0) 8 Try.underlying76 hi hz0 hz1 hz2 rfl rfl HLR.out rfl HN.out.1 (fun _ => one_of w1 _ 51 rfl _ (Fr.refl _ _)) HN.out.2.1 HN.out.2.2.1 HN.out.2.2.2 ?_; intro A' c' G' w' HLn HFn HGn; have d0 := (HFZ.out _ _ ((Fr.refl _ _).alloc _) HFn.out).1; have dz := (HFZ.out _ _ ((Fr.refl _ _).alloc _) HFn.out).2))
    have HQ : Hid (HkR (w'.setCell ⟨s, 1, none⟩ (.slice A' (n + 1) c')) s (s :: G') B (l ++ [r])) := by
      have h2 := HL2.out.put (by decide) (ci := 1) (fun _ _ => rfl) (l' := l ++ [r]) (A' := A') (c' := c') (G' := G') HFn.out (by rw [HLN.out, refV_app]; exact HLn.out)
      rw [HLN.out] at h2
      exact ⟨_, c', G', h2, rfl⟩
    have HF2 : Hid (Fr (s :: G) w (w'.setCell ⟨s, 1, none⟩ (.slice A' (n + 1) c'))) := ((HF1.out.alloc (.cells #[.int .u64 r] 51)).mono (G := s :: G) (fun _ h => by cases h)).trans_same (Hk.put_fr HFn.out 1 _)
    go_ret
    refine ⟨_, rfl, HQ.out, HF2.out, fun x hx => ?_⟩
    rcases List.mem_cons.1 hx with rfl | hx
    · exact .inl (by simp)
    · rcases HGn.out x hx with h1 | ⟨h1, _⟩
      · exact .inl (by simp [h1])
      · have := HF1.out.size
        right
        rw [h1]
        simp
        omega
  · have e1 : hkPush B l r = l := by unfold hkPush; rw [if_neg hlt]
    have e2 : hkPushE B l = 15 := by unfold hkPushE; rw [if_neg hlt]
    have hn : (l.length : Int) ≥ (B : Int) := by omega
    rw [e1, e2]
    clear e1 e2 h
    go_enter Try.func42, Try.ntmps42
    go_wp2_with fail
    go_quiet (fail)
    go_wp2_with fail
    go_ret
    exact ⟨_, rfl, HH.out.drewN nq, (Fr.refl _ _).drewN nq, fun x hx => .inl hx⟩
end
end Go.Proofs.Ytmodjkglcgoohaa
