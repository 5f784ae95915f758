/- The laws of layer 18: awake. -/
import Derived.Test.YteggdpcfeljphaaKh
namespace Go.Proofs.Yteggdpcfeljphaa
set_option linter.unusedVariables false
set_option maxRecDepth 100000
open Go.RowKit Go.Gl Go.Shelf Go.Sort

theorem sl_lit {w : World} {b : Nat} {t : TypeId} (l : List Int) (h : Blk w b t (zv l).toArray) : Sl w (some ⟨b, 0, none⟩) l.length (fun k => .int .i64 (l.getD k 0)) := fun _ =>
  ⟨b, 0, rfl, h.lt, fun k hk => by rw [Nat.zero_add, h.cell, List.getElem?_toArray, zv_get l hk]⟩
theorem recs_lit {w : World} {b : Nat} {t : TypeId} (l : List (Int × Int)) (h : Blk w b t (pv l).toArray) : Recs w (some ⟨b, 0, none⟩) l.length 2 (fun _ => .i64) (fun i j => if j = 0 then (l.getD i (0, 0)).1 else (l.getD i (0, 0)).2) := fun _ =>
  ⟨b, 0, rfl, h.lt, fun i hi j hj => by
    rw [Nat.zero_add, h.cell, List.getElem?_toArray]
    rcases (show j = 0 ∨ j = 1 by omega) with rfl | rfl
    · exact (pv_get l i hi).1
    · exact (pv_get l i hi).2⟩
def awL : List (Int × Int) := [(9, 30), (1, 10), (4, 10)]
theorem awSrt : Srt (awL.map keyC) [(10, 1), (10, 4), (30, 9)] := ⟨by decide, by decide⟩
theorem awSet : IsSet (Chosen [5, 2] awL 25) [1, 2, 4, 5] := by
  refine ⟨by decide, fun x => ?_⟩
  rw [chosen_iff awSrt]
  have e : (takeB [(10, 1), (10, 4), (30, 9)] 25).map (·.2) = [1, 4] := by decide
  rw [e]
  simp
  omega
set_option maxHeartbeats 3200000 in
theorem awake18_any (w : World) : Calls Try.prog 6 #[] w fun e w' => e = .returned (.bool true) ∧ Fr [] w w' := by
  have TN : Hid (∀ w1 w2, Fr [] (w.alloc (.cells (pv awL).toArray 33)) w2 → Blk w2 w1 3 (zv [1]).toArray → Calls Try.prog 8 #[.slice (some ⟨w.heap.size, 0, none⟩) 3 3, .slice (some ⟨w1, 0, none⟩) 1 1] w2 fun e w' => ∃ v, e = .returned v ∧ Rw w' w2.heap.size 33 v [(9, 30), (4, 10)] ∧ Fr [] w2 w') := fun w1 w2 hf hb => by
    have h := next_any (c0 := 1) (sl_lit [1] hb) (by decide) (c := 3) (n := 3) (recs_lit (t := 33) awL ((Blk.new w 33 _).fr hf (by simp))) (by decide)
    exact h
  have TC : Hid (∀ w1 w2, Fr [] (w.alloc (.cells (pv awL).toArray 33)) w2 → Blk w2 w1 3 (zv [5, 2]).toArray → Calls Try.prog 7 #[.slice (some ⟨w1, 0, none⟩) 2 2, .slice (some ⟨w.heap.size, 0, none⟩) 3 3, .int .i64 25] w2 fun e w' => ∃ A c G, e = .returned (.slice A 4 c) ∧ Lr w' 3 A 4 c G (zv [1, 2, 4, 5]) ∧ Fr [] w2 w') := fun w1 w2 hf hb => by
    refine (choose_any (c0 := 2) (sl_lit [5, 2] hb) (by decide) (c := 3) (n := 3) (recs_lit (t := 33) awL ((Blk.new w 33 _).fr hf (by simp))) (by decide) 25 (by decide) (by decide)).mono ?_
    rintro e w' ⟨A, r, c, G, rfl, hs, hr, hf', _, _⟩
    obtain rfl : r = [1, 2, 4, 5] := hs.eq awSet (fun x => Iff.rfl)
    exact ⟨A, c, G, rfl, hr, hf'⟩
  go_enter Try.func6, Try.ntmps6
  go_wp2_with fail
  refine (TN.out _ _ ((Fr.refl _ _).alloc _) (Blk.new_at 3 _ (by simp))).mono ?_
  rintro e w1 ⟨v, rfl, hr, hf⟩
  have HF1 : Hid (Fr [] (w.alloc (.cells (pv awL).toArray 33)) w1) := ((Fr.refl _ _).alloc _).trans_same hf
  obtain ⟨An, cn, rfl, _, hrec, _⟩ := hr.recs
  obtain ⟨gn, on, rfl, hgn, hcn⟩ := hrec (by decide)
  have HC0 : Hid (∀ w', Fr [] w1 w' → w'.cell? ⟨gn, on + 2, none⟩ = some (.int .i64 4) ∧ w'.cell? ⟨gn, on + 3, none⟩ = some (.int .i64 10)) := fun w' hf =>
    ⟨(hf.cell (p := ⟨gn, on + 2, none⟩) hgn (by simp)).trans (hcn 1 (by decide) 0 (by decide)), (hf.cell (p := ⟨gn, on + 3, none⟩) hgn (by simp)).trans (hcn 1 (by decide) 1 (by decide))⟩
  have e2 : ([(9, 30), (4, 10)] : List (Int × Int)).length = 2 := rfl
  rw [e2]
  clear hr hf TN hrec hcn e2
  go_wp2_with fail
  refine (TC.out _ _ (HF1.out.alloc _) (Blk.new _ 3 _)).mono ?_
  rintro e w2 ⟨A2, c2, G2, rfl, hr2, hf2⟩
  have TS : Hid (∀ b w3, Fr [] w2 w3 → Blk w3 b 3 (zv [1, 2, 4, 5]).toArray → Calls Try.prog 11 #[.slice A2 4 c2, .slice (some ⟨b, 0, none⟩) 4 4] w3 fun e w' => e = .returned (.bool true) ∧ Fr [] w3 w') := fun b w3 hf hb => by
    have h := same_any (xs := [1, 2, 4, 5]) (ys := [1, 2, 4, 5]) (ca := c2) (cb := 4) (hr2.fr0 hf).slz (sl_lit [1, 2, 4, 5] hb) (by decide) (by decide)
    refine Calls.mono h ?_
    rintro e w' ⟨rfl, k, rfl⟩
    exact ⟨by simp, (Fr.refl _ _).drewN k⟩
  have HF2 : Hid (Fr [] w1 w2) := ((Fr.refl _ _).alloc _).trans_same hf2
  clear hr2 hf2 TC
  go_wp2_with fail
  refine (TS.out _ _ ((Fr.refl _ _).alloc _) (Blk.new _ 3 _)).mono ?_
  rintro e w3 ⟨rfl, hf3⟩
  have HF3 : Hid (Fr [] w1 w3) := HF2.out.trans_same (((Fr.refl _ _).alloc _).trans_same hf3)
  have k0 := (HC0.out w3 HF3.out).1
  have k1 := (HC0.out w3 HF3.out).2
  clear hf3 TS HF2
  go_wp2_with fail
  go_ret
  exact ⟨rfl, ((Fr.refl _ _).alloc _).trans_same (HF1.out.trans_same HF3.out)⟩
end Go.Proofs.Yteggdpcfeljphaa
