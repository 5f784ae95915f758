/- gleanerref07: New, of four regions of 64 words. -/
import Derived.Test.YtjgjcpafdhocfaaR7
import Derived.Test.YtjgjcpafdhocfaaL7
import Derived.Deep.AppendLies
import Derived.Deep.RegionLaw
import Derived.Deep.Slices
namespace Go.Proofs.Ytjgjcpafdhocfaa
set_option linter.unusedVariables false
open Go.RowKit Go.Gl

theorem Try.info_one : (Try.prog.info? 66).map (fun i => (i.zero, i.size, i.bytes)) = some (some (.agg #[.int .i64 0, .int .i64 0, .int .i64 0]), 3, 24) := by kernel_rfl
def oneRow (k : Nat) : List Value := [.int .i64 0, .int .i64 (64 * (k : Int)), .int .i64 (64 * (k : Int))]
def oneRows : Nat → List Value
  | 0 => []
  | k + 1 => oneRows k ++ oneRow k
theorem oneRows_len (k : Nat) : (oneRows k).length = k * 3 := by
  induction k with
  | zero => rfl
  | succ k ih => simp [oneRows, oneRow, ih]; omega
theorem three_at (w : World) (x y z : Value) (t : TypeId) : ∀ (j : Nat) u, [x, y, z][j]? = some u → (w.alloc (.cells #[x, y, z] t)).drew.cell? (Addr.add ⟨w.heap.size, 0, none⟩ j) = some u := by
  intro j u hj
  have hb : Blk (w.alloc (.cells #[x, y, z] t)).drew w.heap.size t #[x, y, z] := (Blk.new w t #[x, y, z]).drew
  have e : Addr.add ⟨w.heap.size, 0, none⟩ j = ⟨w.heap.size, 0 + j, none⟩ := Go.WideShapes.add_plain _ _ _
  rw [e, Nat.zero_add, hb.cell]
  simpa using hj
def MNew (w : World) (e : Ending) (w' : World) : Prop :=
  ∃ mb rb c f, e = .returned (.tuple #[.pointer (some ⟨mb, 0, none⟩), .int .i64 0]) ∧ Rm w' mb rb c f ∧ Fr [] w w' ∧ w.heap.size ≤ mb ∧ w.heap.size ≤ rb
set_option maxHeartbeats 3200000 in
theorem mnew_any (w : World) : Calls Try.prog 14 #[small7.val] w (MNew w) := by
  obtain ⟨i0, hi, hz0, hz1, hz2⟩ := info_parts Try.info_one
  unfold Geo.val small7
  go_enter Try.func14, Try.ntmps14
  go_wp2_with fail
  have HG : Hid (Blk ((w.alloc (.cells #[.int .i64 256, .int .i64 64, .int .i64 8, .int .i64 4, .int .i64 32, .int .i64 192] 45)).alloc (.cells #[.int .i64 64, .slice none 0 0] 64)) w.heap.size 45 #[.int .i64 256, .int .i64 64, .int .i64 8, .int .i64 4, .int .i64 32, .int .i64 192]) := (Blk.new _ _ _).alloc _
  have HM : Hid (Blk ((w.alloc (.cells #[.int .i64 256, .int .i64 64, .int .i64 8, .int .i64 4, .int .i64 32, .int .i64 192] 45)).alloc (.cells #[.int .i64 64, .slice none 0 0] 64)) (w.heap.size + 1) 64 #[.int .i64 64, .slice none 0 0]) := Blk.new_at _ _ (by simp)
  have HF : Hid (Fr [] w ((w.alloc (.cells #[.int .i64 256, .int .i64 64, .int .i64 8, .int .i64 4, .int .i64 32, .int .i64 192] 45)).alloc (.cells #[.int .i64 64, .slice none 0 0] 64))) := ((Fr.refl _ _).alloc _).alloc _
  have HS : Hid (((w.alloc (.cells #[.int .i64 256, .int .i64 64, .int .i64 8, .int .i64 4, .int .i64 32, .int .i64 192] 45)).alloc (.cells #[.int .i64 64, .slice none 0 0] 64)).heap.size = w.heap.size + 2) := by show _ = _; simp
  generalize (w.alloc (.cells #[.int .i64 256, .int .i64 64, .int .i64 8, .int .i64 4, .int .i64 32, .int .i64 192] 45)).alloc (.cells #[.int .i64 64, .slice none 0 0] 64) = w2 at *
  obtain ⟨gb, hgb⟩ : ∃ gb, gb = w.heap.size := ⟨_, rfl⟩
  obtain ⟨mb, hmb⟩ : ∃ mb, mb = w.heap.size + 1 := ⟨_, rfl⟩
  have HB : Hid (gb = w.heap.size ∧ mb = w.heap.size + 1 ∧ w2.heap.size = w.heap.size + 2) := ⟨hgb, hmb, HS.out⟩
  rw [← hmb] at HM ⊢
  rw [← hgb] at HG ⊢
  clear hgb hmb HS
  go_loopw [5] (fun i wr => ∃ (k : Nat) (v : Value), i = .int .i64 k ∧ k ≤ 4 ∧ Blk wr mb 64 #[.int .i64 64, v] ∧ wr.ownsRow w2.heap.size 66 3 v k (oneRows k) ∧ Fr [mb] w2 wr) (fun i _ => 4 - (intOf i).toNat)
  case atStart => exact ⟨0, _, rfl, by decide, HM.out, World.ownsRow_nil _ _ _ _, Fr.refl _ _⟩
  case round =>
    obtain ⟨k, v, rfl, hk, hm, hv, hfr⟩ := hrel
    have HMr := hide hm
    have HV := hide hv
    have HFr := hide hfr
    have hgk := HG.out.fr hfr (by have := HB.out; simp; omega)
    have HGr := hide hgk
    have g3 := hgk.cell 3
    clear hm hv hfr hgk
    by_cases hlt : k < 4
    · have hlt' : (k : Int) < 4 := by omega
      have m0 := HMr.out.cell 0
      have m1 := HMr.out.cell 1
      have mz := HMr.out.frozen 1
      go_wp2_with fail
      have HK : Hid (∀ X w', Fr [] wr X → X.grownBy w' v.ownBlock → Blk w' mb 64 #[.int .i64 64, v] ∧ Fr [mb] w2 w') := fun X w' hx hg => ⟨(HMr.out.fr hx (by simp)).fr (grown_fr hg) (own_far HV.out (by have := HB.out; omega)), own_grown (HFr.out.trans_nil hx) HV.out hg⟩
      have HX : Hid ((((k : Int) * 64 = 64 * (k : Int))) ∧ maxLen = 9223372036854775807) := ⟨Int.mul_comm _ _, rfl⟩
      have HB0 : Hid (w2.heap.size ≤ wr.heap.size) := HFr.out.size
      have hwk : IntKind.i64.wrap ((k : Int) * 64) = 64 * (k : Int) := by rw [HX.out.1]; exact IntWalk.i64_in _ ⟨by omega, by omega⟩
      have N0 : mb < wr.heap.size := HMr.out.lt
      have HC1 : Hid (k + 1 ≤ maxLen ∧ (k + 1) * 24 ≤ 140737488355328) := ⟨by rw [HX.out.2]; omega, by omega⟩
      go_region_law (first | (refine step_append_lies _ rfl _ _ 62 rfl w2.heap.size 66 i0 (.agg #[.int .i64 0, .int .i64 0, .int .i64 0]) 3 24 Try.underlying62 hi hz0 hz1 hz2 rfl (by decide) v k (oneRows k) rfl (own_fr HV.out (((Fr.refl [] _).alloc _).drew) (fun _ _ => by simp)) ⟨wr.heap.size, 0, none⟩ 1 1 (oneRow k) rfl rfl (three_at _ _ _ _ _) (by intro u hu; simp [oneRow] at hu; rcases hu with rfl | rfl <;> rfl) (by decide) HC1.out.1 HC1.out.2 (by simp; exact Nat.le_succ_of_le HB0.out) _ rfl ?_; intro g cap w' hown hgr hat hlt; have HKK := hide (HK.out _ _ ((Fr.refl [] _).alloc _).drew hgr); have HOW := hide hown; have m1 := HKK.out.1.cell 1; have mz := HKK.out.1.frozen 1; clear hown hgr hat hlt))
      all_goals
        have HKB := hide (HKK.out.1.put 1 (.slice (some ⟨g, 0, none⟩) (k + 1) cap))
        have HKF : Hid (Fr [mb] w' (w'.setCell ⟨mb, 1, none⟩ (.slice (some ⟨g, 0, none⟩) (k + 1) cap))) := (Fr.refl _ _).setCell (p := ⟨mb, 1, none⟩) (.inl (by simp)) _
        have HKO := hide (own_fr HOW.out HKF.out (fun x hx => by have := own_far HOW.out (g := mb) (by have := HB.out; omega); rw [hx] at this; simp at this; simp; omega))
        clear m1 mz hwk
        go_wp2_with fail
        go_roundw
        case rel => exact ⟨k + 1, _, by go_num, by omega, HKB.out, HKO.out, HKK.out.2.trans_same HKF.out⟩
        case measure => simp [intOf]; omega
    · obtain rfl : k = 4 := by omega
      rcases HV.out.2 with ⟨rfl, h0⟩ | ⟨g, cap, cur, rfl, hg1, hg2, hc1, hc2, hs, hx⟩
      · exact absurd h0 (by decide)
      · have HRm : Hid (Rm wr mb g cap (fun j => match j with | 1 => 0 | 2 => 0 | 4 => 64 | 5 => 64 | 7 => 128 | 8 => 128 | 10 => 192 | 11 => 192 | _ => 0)) := by
          refine ⟨HMr.out, ⟨cur, hg2, fun j hj => ?_⟩, hc1, fun j hj => ?_⟩
          · have h1 : (cur.toList.take (4 * 3))[j]? = (oneRows 4)[j]? := by rw [hx]
            rw [List.getElem?_take_of_lt (by omega), Array.getElem?_toList] at h1
            rw [h1]
            obtain rfl | rfl | rfl | rfl | rfl | rfl | rfl | rfl | rfl | rfl | rfl | rfl : j = 0 ∨ j = 1 ∨ j = 2 ∨ j = 3 ∨ j = 4 ∨ j = 5 ∨ j = 6 ∨ j = 7 ∨ j = 8 ∨ j = 9 ∨ j = 10 ∨ j = 11 := by omega
            all_goals rfl
          · obtain rfl | rfl | rfl | rfl : j = 0 ∨ j = 1 ∨ j = 2 ∨ j = 3 := by omega
            all_goals decide
        go_wp2_with fail
        go_ret2
        exact ⟨mb, g, cap, _, rfl, HRm.out, HF.out.trans HFr.out (fun x hx => by have := HB.out; simp at hx; omega), by have := HB.out; omega, by have := HB.out; omega⟩
end Go.Proofs.Ytjgjcpafdhocfaa
