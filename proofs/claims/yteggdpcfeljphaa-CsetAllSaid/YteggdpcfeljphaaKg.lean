/- gleanerref18: Next and Choose; the law's own ref. -/
import Derived.Test.YteggdpcfeljphaaKf
namespace Go.Proofs.Yteggdpcfeljphaa
set_option linter.unusedVariables false
set_option maxRecDepth 100000
open Go.RowKit Go.Gl Go.Shelf Go.Sort

theorem Try.info_rcand : (Try.prog.info? 34).map (fun i => (i.zero, i.size, i.bytes)) = some (some (.agg #[.int .i64 0, .int .i64 0]), 2, 16) := by kernel_rfl
theorem candL_succ (k : Nat) (f : Nat → Nat → Int) : candL (k + 1) f = candL k f ++ [(f k 0, f k 1)] := by
  unfold candL
  rw [List.range_succ, List.map_append]; rfl
set_option maxHeartbeats 1600000 in
theorem ref18_any {w : World} {A : Option Addr} {n c : Nat} {f : Nat → Nat → Int} (h : Recs w A n 2 (fun _ => .i64) f) (hl : n ≤ 65536) :
    Calls Try.prog 10 #[.slice A n c] w fun e w' => ∃ v, e = .returned v ∧ Rw w' w.heap.size 34 v (candL n f) ∧ Fr [] w w' := by
  obtain ⟨i0, hi, hz0, hz1, hz2⟩ := info_parts Try.info_rcand
  have H := hide h
  clear h
  go_enter Try.func10, Try.ntmps10
  go_wp2_with fail
  go_loopw [4, 3] (fun (x : Value) (y : Value) wr => ∃ (k : Nat) (v : Value), x = .int .i64 k ∧ k ≤ n ∧ y = v ∧ wr.ownsRow w.heap.size 34 2 v k (pv (candL k f)) ∧ Fr [] w wr) (fun x _ _ => n - (intOf x).toNat)
  case atStart => exact ⟨0, _, rfl, Nat.zero_le _, rfl, Rw.none _ _ _, Fr.refl _ _⟩
  case round =>
    obtain ⟨k, v, rfl, hk, rfl, hrw, hf⟩ := hrel
    have HRW := hide hrw
    have HF := hide hf
    have HSZ : Hid (w.heap.size ≤ wr.heap.size) := hf.size
    clear hrw hf
    by_cases hlt : k < n
    · have hlt1 : (k : Int) < (n : Int) := by omega
      obtain ⟨bb, off, rfl, hbb, hc⟩ := H.out (by omega)
      have c0 : wr.cell? ⟨bb, off + k * 2, none⟩ = some (.int .i64 (f k 0)) := (HF.out.cell (p := ⟨bb, off + k * 2, none⟩) hbb (by simp)).trans (by simpa using hc k hlt 0 (by omega))
      have c1 : wr.cell? ⟨bb, off + k * 2 + 1, none⟩ = some (.int .i64 (f k 1)) := (HF.out.cell (p := ⟨bb, off + k * 2 + 1, none⟩) hbb (by simp)).trans (by simpa [Nat.add_assoc] using hc k hlt 1 (by omega))
      have HST := hide (candL_succ k f)
      have HB1 := hide (show k + 1 ≤ maxLen ∧ (k + 1) * 16 ≤ 140737488355328 by unfold maxLen; exact ⟨by omega, by omega⟩)
      clear hc
      generalize hsx : candL k f = S at *
      generalize hsy : candL (k + 1) f = S' at *
      have HSX := hide hsx
      have HSY := hide hsy
      clear hsx hsy
      generalize f k 0 = x at *
      generalize f k 1 = y at *
      go_wp2_with (first
          | (at_builtin; go_loud (refine wpList_append_rows rfl _ _ 27 rfl w.heap.size 34 i0 (.agg #[.int .i64 0, .int .i64 0]) 2 16 Try.underlying27 hi hz0 hz1 hz2 rfl (by decide) _ k (pv S) rfl (own_fr HRW.out ((Fr.refl [] wr).alloc _) (fun _ _ => by simp)) rfl (news := [.int .i64 x, .int .i64 y]) rfl (fun _ => ⟨_, rfl, two_in (Blk.new wr 34 _)⟩) (by intro u hu; simp at hu; rcases hu with rfl | rfl <;> rfl) HB1.out.1 HB1.out.2 (by have h4 := HSZ.out; simp; omega) ?_; intro v' w' HLn HFn HGn)))
      go_roundw
      case rel =>
        refine ⟨k + 1, v', by go_num, by omega, rfl, ?_, ?_⟩
        · rw [HSY.out, HST.out, pv_app]
          exact HLn.out
        · refine (HF.out.alloc _).grown HFn.out fun g hg => .inr ?_
          rcases HRW.out.2 with ⟨h1, _⟩ | ⟨g', cap, cur, h1, h2, _⟩
          · rw [h1] at hg; cases hg
          · rw [h1] at hg; injection hg with hg; subst hg; exact h2
      case measure => simp [intOf]; omega
    · obtain rfl : k = n := by omega
      have HLN := hide (candL_len k f)
      clear hlt hk
      go_wp2_with fail
      go_ret
      exact ⟨_, rfl, by unfold Rw; rw [HLN.out]; exact HRW.out, HF.out⟩
set_option maxHeartbeats 1600000 in
theorem r18next_any {w : World} {A0 : Option Addr} {c0 : Nat} {T : List Int} (hT : Sl w A0 T.length (fun k => .int .i64 (T.getD k 0))) (hTl : T.length ≤ 131072) {A : Option Addr} {n c : Nat} {f : Nat → Nat → Int} (h : Recs w A n 2 (fun _ => .i64) f) (hl : n ≤ 65536) :
    Calls Try.prog 9 #[.slice A n c, .slice A0 T.length c0] w (NextP 34 w T (candL n f)) := by
  obtain ⟨i0, hi, hz0, hz1, hz2⟩ := info_parts Try.info_rcand
  have H := hide h
  have HT := hide hT
  clear h hT
  go_enter Try.func9, Try.ntmps9
  go_wp2_with fail
  go_loopw [6, 5] (fun (x : Value) (y : Value) wr => ∃ (k : Nat) (v : Value), x = .int .i64 k ∧ k ≤ n ∧ y = v ∧ Rw wr w.heap.size 34 v (stay T (candL k f)) ∧ Fr [] w wr) (fun x _ _ => n - (intOf x).toNat)
  case atStart => exact ⟨0, _, rfl, Nat.zero_le _, rfl, Rw.none _ _ _, Fr.refl _ _⟩
  case round =>
    obtain ⟨k, v, rfl, hk, rfl, hrw, hf⟩ := hrel
    have HRW := hide hrw
    have HF := hide hf
    have HSZ : Hid (w.heap.size ≤ wr.heap.size) := hf.size
    clear hrw hf
    by_cases hlt : k < n
    · have hlt1 : (k : Int) < (n : Int) := by omega
      obtain ⟨bb, off, rfl, hbb, hc⟩ := H.out (by omega)
      have HC0 : Hid (∀ w', Fr [] wr w' → w'.cell? ⟨bb, off + k * 2, none⟩ = some (.int .i64 (f k 0)) ∧ w'.cell? ⟨bb, off + k * 2 + 1, none⟩ = some (.int .i64 (f k 1))) := fun w' hf =>
        ⟨((HF.out.trans_same hf).cell (p := ⟨bb, off + k * 2, none⟩) hbb (by simp)).trans (by simpa using hc k hlt 0 (by omega)), ((HF.out.trans_same hf).cell (p := ⟨bb, off + k * 2 + 1, none⟩) hbb (by simp)).trans (by simpa [Nat.add_assoc] using hc k hlt 1 (by omega))⟩
      have HST := hide (stay_succ (T := T) (f := f) k)
      have HLN : Hid ((stay T (candL k f)).length ≤ k) := Nat.le_trans (stay_len _ _) (by rw [candL_len]; exact Nat.le_refl _)
      clear hc
      generalize hsx : stay T (candL k f) = S at *
      have HSX := hide hsx
      clear hsx
      generalize hsy : stay T (candL (k + 1) f) = S' at *
      have HSY := hide hsy
      clear hsy
      generalize f k 0 = x at *
      generalize f k 1 = y at *
      have HTW : Hid (∀ w', Fr [] wr w' → Sl w' A0 T.length (fun k => .int .i64 (T.getD k 0))) := fun w' hf => HT.out.fr (HF.out.trans_same hf) (fun _ hx => by cases hx)
      generalize wr = wo at *
      go_wp2_with fail
      go_loopw [8, 7] (fun (a : Value) (b : Value) wq => ∃ (j q : Nat) , a = .int .i64 j ∧ j ≤ T.length ∧ b = .bool (decide (x ∈ T.take j)) ∧ wq = wo.drewN q) (fun a _ _ => T.length - (intOf a).toNat)
      case atStart => exact ⟨0, 0, rfl, Nat.zero_le _, by simp, rfl⟩
      case round =>
        obtain ⟨j, q, rfl, hj, rfl, rfl⟩ := hrel
        by_cases hjt : j < T.length
        · have hjt1 : (j : Int) < (T.length : Int) := by omega
          obtain ⟨b2, o2, rfl, _, ht⟩ := HTW.out wo (Fr.refl _ _) (by omega)
          have ct : wo.cell? ⟨b2, o2 + j, none⟩ = some (.int .i64 (T.getD j 0)) := ht j hjt
          have cx := (HC0.out wo (Fr.refl _ _)).1
          have HD : Hid (decide (x ∈ T.take (j + 1)) = (decide (x ∈ T.take j) || (T.getD j 0 == x))) := by
            show _ = _
            have e : T.take (j + 1) = T.take j ++ [T.getD j 0] := by rw [List.take_add_one]; simp [hjt]
            rw [e]
            apply Bool.eq_iff_iff.2
            simp only [decide_eq_true_eq, Bool.or_eq_true, beq_iff_eq, List.mem_append, List.mem_singleton]
            constructor
            · rintro (h | h)
              · exact .inl h
              · exact .inr h.symm
            · rintro (h | h)
              · exact .inl h
              · exact .inr h.symm
          clear ht
          generalize hdj : decide (x ∈ T.take (j + 1)) = dj at *
          generalize decide (x ∈ T.take j) = d at *
          generalize T.getD j 0 = t at *
          have HDJ := hide hdj
          clear hdj
          rcases (show d = true ∨ d = false by cases d <;> simp) with rfl | rfl
          · go_wp2_with fail
            go_quiet (fail)
            go_wp2
            go_roundw
            case rel => exact ⟨j + 1, q + nq, by go_num, by omega, by rw [HDJ.out, HD.out]; rfl, rfl⟩
            case measure => simp [intOf]; omega
          · go_wp2_with fail
            go_quiet (fail)
            go_wp2
            go_roundw
            case rel => exact ⟨j + 1, q + nq, by go_num, by omega, by rw [HDJ.out, HD.out]; simp, rfl⟩
            case measure => simp [intOf]; omega
        · obtain rfl : j = T.length := by omega
          have hxt : decide (x ∈ T.take T.length) = decide (x ∈ T) := by rw [List.take_length]
          rw [hxt]
          clear hxt hjt hj
          generalize hwz : wo.drewN q = wz at *
          have HFZ : Hid (Fr [] wo wz) := hwz ▸ (Fr.refl _ _).drewN q
          clear hwz
          have cx := (HC0.out wz HFZ.out).1
          have cy := (HC0.out wz HFZ.out).2
          by_cases hx : x ∈ T
          · have hd : decide (x ∈ T) = true := by simpa using hx
            rw [hd]
            have HSS : Hid (S' = S) := by show _ = _; rw [HST.out, if_pos hx, List.append_nil]
            clear hd hx
            go_wp2_with fail
            go_roundw
            case rel => exact ⟨k + 1, _, by go_num, by omega, rfl, by rw [HSY.out, HSS.out]; exact Rw.fr HRW.out HFZ.out (fun _ _ => by simp), HF.out.trans_same HFZ.out⟩
            case measure => simp [intOf]; omega
          · have hd : decide (x ∈ T) = false := by simpa using hx
            rw [hd]
            have HSS : Hid (S' = S ++ [(x, y)]) := by show _ = _; rw [HST.out, if_neg hx]
            have HRO := hide (show World.ownsRow wz w.heap.size 34 2 _ S.length (pv S) from Rw.fr HRW.out HFZ.out (fun _ _ => by simp))
            have HB1 := hide (show S.length + 1 ≤ maxLen ∧ (S.length + 1) * 16 ≤ 140737488355328 by have := HLN.out; unfold maxLen; exact ⟨by omega, by omega⟩)
            clear hd hx
            generalize hsl : S.length = sl at *
            have HSLE := hide hsl
            clear hsl
            go_wp2_with (first
              | (at_builtin; go_loud (refine wpList_append_rows rfl _ _ 27 rfl w.heap.size 34 i0 (.agg #[.int .i64 0, .int .i64 0]) 2 16 Try.underlying27 hi hz0 hz1 hz2 rfl (by decide) _ sl (pv S) rfl (own_fr HRO.out ((Fr.refl [] wz).alloc _) (fun _ _ => by simp)) rfl (news := [.int .i64 x, .int .i64 y]) rfl (fun _ => ⟨_, rfl, two_in (Blk.new wz 34 _)⟩) (by intro u hu; simp at hu; rcases hu with rfl | rfl <;> rfl) HB1.out.1 HB1.out.2 (by have h3 := HFZ.out.size; have h4 := HSZ.out; simp; omega) ?_; intro v' w' HLn HFn HGn)))
            go_roundw
            case rel =>
              refine ⟨k + 1, v', by go_num, by omega, rfl, ?_, ?_⟩
              · rw [HSY.out, HSS.out]
                show World.ownsRow _ _ _ _ _ _ _
                rw [List.length_append, HSLE.out, pv_app]
                exact HLn.out
              · refine ((HF.out.trans_same HFZ.out).alloc _).grown HFn.out fun g hg => .inr ?_
                obtain ⟨_, _, _, _, _, h⟩ := HRW.out.recs
                exact (h g hg).1
            case measure => simp [intOf]; omega
    · obtain rfl : k = n := by omega
      clear hlt hk
      go_wp2_with fail
      go_ret
      exact ⟨_, rfl, HRW.out, HF.out⟩
end Go.Proofs.Yteggdpcfeljphaa
