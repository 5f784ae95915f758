/- Package cset: Next. -/
import Derived.Test.YteggdpcfeljphaaKd
namespace Go.Proofs.Yteggdpcfeljphaa
set_option linter.unusedVariables false
set_option maxRecDepth 100000
open Go.RowKit Go.Gl Go.Shelf Go.Sort

theorem two_in {w : World} {s : Nat} {x y : Value} {t : TypeId} (hb : Blk w s t #[x, y]) : ∀ (j : Nat) u, [x, y][j]? = some u → w.cell? (Addr.add ⟨s, 0, none⟩ j) = some u := by
  intro j u hj
  have e : Addr.add ⟨s, 0, none⟩ j = ⟨s, 0 + j, none⟩ := Go.WideShapes.add_plain _ _ _
  rw [e, Nat.zero_add, hb.cell]
  simpa using hj
/-- The candidates whose region isn't among these. -/
def stay (T : List Int) (L : List (Int × Int)) : List (Int × Int) := L.filter fun c => !decide (c.1 ∈ T)
theorem stay_succ {T : List Int} {f : Nat → Nat → Int} (k : Nat) : stay T (candL (k + 1) f) = stay T (candL k f) ++ (if f k 0 ∈ T then [] else [(f k 0, f k 1)]) := by
  unfold stay candL
  rw [List.range_succ, List.map_append, List.filter_append]
  by_cases h : f k 0 ∈ T <;> simp [h]
theorem stay_len (T : List Int) (L : List (Int × Int)) : (stay T L).length ≤ L.length := List.length_filter_le _ _
/-- What Next answers. -/
def NextP (t : TypeId) (w : World) (T : List Int) (L : List (Int × Int)) (e : Ending) (w' : World) : Prop := ∃ v, e = .returned v ∧ Rw w' w.heap.size t v (stay T L) ∧ Fr [] w w'
theorem Rw.tag {w : World} {base : Nat} {e : TypeId} {v : Value} {l : List (Int × Int)} (h : Rw w base e v l) {g : Nat} (hg : v.ownBlock = some g) : ∃ cur, Blk w g e cur := by
  rcases h.2 with ⟨rfl, _⟩ | ⟨g', cap, cur, rfl, _, hh, _⟩
  · cases hg
  · injection hg with hg
    subst hg
    exact ⟨cur, hh⟩
set_option maxHeartbeats 1600000 in
theorem next_any {w : World} {A0 : Option Addr} {c0 : Nat} {T : List Int} (hT : Sl w A0 T.length (fun k => .int .i64 (T.getD k 0))) (hTl : T.length ≤ 65536) {A : Option Addr} {n c : Nat} {f : Nat → Nat → Int} (h : Recs w A n 2 (fun _ => .i64) f) (hl : n ≤ 65536) :
    Calls Try.prog 8 #[.slice A n c, .slice A0 T.length c0] w (NextP 33 w T (candL n f)) := by
  obtain ⟨i0, hi, hz0, hz1, hz2⟩ := info_parts Try.info_cand
  have T1 := hide (clone_int (c := c0) hT hTl)
  have HN := hide hl
  have HTL := hide hTl
  have H := hide h
  clear h hT hTl
  go_enter Try.func8, Try.ntmps8
  go_wp2_with fail
  refine T1.out.mono ?_
  rintro e w1 ⟨A1, ca, G1, rfl, hr, hf1, hg1⟩
  have T2 := hide (sort_lr hr (by have := HTL.out; omega))
  have HF1 := hide hf1
  have HG1 := hide hg1
  clear hr hf1 hg1 T1
  go_wp2_with fail
  refine T2.out.mono ?_
  rintro e w2 ⟨rfl, l, hp, hs, hr, hf2⟩
  have HP : Hid (∀ x, decide (x ∈ l) = decide (x ∈ T)) := fun x => by rw [decide_eq_decide]; exact hp.mem_iff
  have HS := hide hs
  have HLL := hide hp.length_eq
  have HR := hide hr
  have HF2 : Hid (Fr [] w w2) := HF1.out.trans hf2 fun g hg => .inr (HG1.out g hg)
  clear hp hs hr hf2 T2
  have hn0 : n ≤ 65536 := hl
  go_wp2_with fail
  go_loopw [17, 6] (fun (x : Value) (y : Value) wr => ∃ (k : Nat) (v : Value), x = .int .i64 k ∧ k ≤ n ∧ y = v ∧ Rw wr w.heap.size 33 v (stay T (candL k f)) ∧ Fr [] w wr ∧ Lr wr 3 A1 T.length ca G1 (zv l)) (fun x _ _ => n - (intOf x).toNat)
  case atStart => exact ⟨0, _, rfl, Nat.zero_le _, rfl, Rw.none _ _ _, HF2.out, HR.out⟩
  case round =>
    obtain ⟨k, v, rfl, hk, rfl, hrw, hf, hr⟩ := hrel
    have HRW := hide hrw
    have HF := hide hf
    have HL := hide hr
    have HSZ : Hid (w.heap.size ≤ wr.heap.size) := hf.size
    clear hrw hf hr HR HF2
    by_cases hlt : k < n
    · have hlt1 : (k : Int) < (n : Int) := by omega
      obtain ⟨bb, off, rfl, hbb, hc⟩ := H.out (by omega)
      have c0 : wr.cell? ⟨bb, off + k * 2, none⟩ = some (.int .i64 (f k 0)) := (HF.out.cell (p := ⟨bb, off + k * 2, none⟩) hbb (by simp)).trans (by simpa using hc k hlt 0 (by omega))
      have c1 : wr.cell? ⟨bb, off + k * 2 + 1, none⟩ = some (.int .i64 (f k 1)) := (HF.out.cell (p := ⟨bb, off + k * 2 + 1, none⟩) hbb (by simp)).trans (by simpa [Nat.add_assoc] using hc k hlt 1 (by omega))
      have HST := hide (stay_succ (T := T) (f := f) k)
      have HLN : Hid ((stay T (candL k f)).length ≤ k) := Nat.le_trans (stay_len _ _) (by rw [candL_len]; exact Nat.le_refl _)
      have TB : Hid (∀ w' x, Fr [] wr w' → Calls Try.prog 17 #[.slice A1 T.length ca, .int .i64 x] w' fun e w'' => (∃ i, e = .returned (.tuple #[.int .i64 i, .bool (decide (x ∈ T))])) ∧ Gr w' w'') := fun w' x hf => by
        have := binary_lr (HL.out.fr0 hf) (by have := HTL.out; omega) HS.out x
        rwa [HP.out] at this
      clear hc
      generalize hsx : stay T (candL k f) = S at *
      have HSX := hide hsx
      clear hsx
      generalize hsy : stay T (candL (k + 1) f) = S' at *
      have HSY := hide hsy
      clear hsy
      generalize f k 0 = x at *
      generalize f k 1 = y at *
      have HDS : Hid ((decide (x ∈ T) = true → S' = S) ∧ (decide (x ∈ T) = false → S' = S ++ [(x, y)])) := by
        have := HST.out
        exact ⟨fun h => by rw [this, if_pos (by simpa using h), List.append_nil], fun h => by rw [this, if_neg (by simpa using h)]⟩
      clear HST
      have TB2 := fun w' hf => hide (TB.out w' x hf)
      generalize decide (x ∈ T) = d at *
      rcases (show d = true ∨ d = false by cases d <;> simp) with rfl | rfl
      · obtain rfl := HDS.out.1 rfl
        go_wp2_with (go_at_call 17; refine (TB2 _ ((Fr.refl _ _).alloc _)).out.mono ?_; rintro e w3 ⟨⟨i, rfl⟩, hg3⟩; have d0 := ((Blk.new wr 33 #[.int .i64 x, .int .i64 y]).fr hg3.fr (by simp)).cell 0; have d1 := ((Blk.new wr 33 #[.int .i64 x, .int .i64 y]).fr hg3.fr (by simp)).cell 1; have HG3 := hide hg3; have HSZ3 := hide hg3.fr.size; have HRW3 := hide (Rw.fr (Rw.fr HRW.out ((Fr.refl [] wr).alloc (.cells #[.int .i64 x, .int .i64 y] 33)) (fun _ _ => by simp)) hg3.fr (fun _ _ => by simp)); clear hg3)
        go_roundw
        case rel => exact ⟨k + 1, _, by go_num, by omega, rfl, by rw [HSY.out]; exact HRW.out.fr (((Fr.refl _ _).alloc _).trans_same HG3.out.fr) (fun _ _ => by simp), (HF.out.alloc _).trans_same HG3.out.fr, HL.out.fr0 (((Fr.refl _ _).alloc _).trans_same HG3.out.fr)⟩
        case measure => simp [intOf]; omega
      · obtain rfl := HDS.out.2 rfl
        have HB1 := hide (show S.length + 1 ≤ maxLen ∧ (S.length + 1) * 16 ≤ 140737488355328 by have := HLN.out; unfold maxLen; exact ⟨by omega, by omega⟩)
        have HRO := hide (show World.ownsRow wr w.heap.size 33 2 _ S.length (pv S) from HRW.out)
        generalize hsl : S.length = sl at *
        have HSLE := hide hsl
        clear hsl
        go_wp2_with (first
          | (go_at_call 17; refine (TB2 _ ((Fr.refl _ _).alloc _)).out.mono ?_; rintro e w3 ⟨⟨i, rfl⟩, hg3⟩; have d0 := ((Blk.new wr 33 #[.int .i64 x, .int .i64 y]).fr hg3.fr (by simp)).cell 0; have d1 := ((Blk.new wr 33 #[.int .i64 x, .int .i64 y]).fr hg3.fr (by simp)).cell 1; have HG3 := hide hg3; have HSZ3 := hide hg3.fr.size; have HRW3 := hide (own_fr (own_fr HRO.out ((Fr.refl [] wr).alloc (.cells #[.int .i64 x, .int .i64 y] 33)) (fun _ _ => by simp)) hg3.fr (fun _ _ => by simp)); clear hg3)
          | (at_builtin; go_loud (refine wpList_append_rows rfl _ _ 23 rfl w.heap.size 33 i0 (.agg #[.int .i64 0, .int .i64 0]) 2 16 Try.underlying23 hi hz0 hz1 hz2 rfl (by decide) _ sl (pv S) rfl (own_fr HRW3.out ((Fr.refl [] w3).alloc _) (fun _ _ => by simp)) rfl (news := [.int .i64 x, .int .i64 y]) rfl (fun _ => ⟨_, rfl, two_in (Blk.new w3 33 _)⟩) (by intro u hu; simp at hu; rcases hu with rfl | rfl <;> rfl) HB1.out.1 HB1.out.2 (by have h3 := HSZ3.out; have h4 := HSZ.out; simp at h3 ⊢; omega) ?_; intro v' w' HLn HFn HGn)))
        go_roundw
        case rel =>
          refine ⟨k + 1, v', by go_num, by omega, rfl, ?_, ?_, ?_⟩
          · rw [HSY.out]
            show World.ownsRow _ _ _ _ _ _ _
            rw [List.length_append, HSLE.out, pv_app]
            exact HLn.out
          · refine (((HF.out.alloc _).trans_same HG3.out.fr).alloc _).grown HFn.out fun g hg => .inr ?_
            obtain ⟨_, _, _, _, _, h⟩ := HRW.out.recs
            exact (h g hg).1
          · refine Lr.fr (HL.out.fr0 ((((Fr.refl [] wr).alloc _).trans_same HG3.out.fr).alloc _)) (grown_fr HFn.out) fun g hg hm => ?_
            obtain ⟨cur, hb⟩ := Rw.tag HRW.out (g := g) (Option.mem_toList.1 hm)
            exact HL.out.apart hb (by decide) hg
        case measure => simp [intOf]; omega
    · obtain rfl : k = n := by omega
      clear hlt hk
      go_wp2_with fail
      go_ret
      exact ⟨_, rfl, HRW.out, HF.out⟩
end Go.Proofs.Yteggdpcfeljphaa
