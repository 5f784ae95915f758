/- slices.Grow of no slice, slices.Concat of lists of whole numbers. -/
import Derived.Test.YtdiedfnlmkokhaaQa
import Derived.Test.YtdiedfnlmkokhaaNm
import Derived.WalkKit
import Derived.BigQuiet
import Derived.Lib.AppendZerosOnto
namespace Go.Proofs.Ytdiedfnlmkokhaa
set_option linter.unusedVariables false
open Go.RowKit Go.Gl

def GrowPost (w : World) (e : Ending) (w' : World) : Prop := ∃ A c G, e = .returned (.slice A 0 c) ∧ Lr w' 3 A 0 c G [] ∧ Fr [] w w' ∧ ∀ g, g ∈ G → w.heap.size ≤ g
theorem grow_none (n : Nat) (hn : n ≤ 17592186044416) (w : World) : Calls Try.prog 21 #[.slice none 0 0, .int .i64 n] w (GrowPost w) := by
  obtain ⟨i0, hi, hz0, hz1, hz2⟩ := info_parts Try.info_int
  rcases Nat.eq_zero_or_pos n with h0 | h0
  · subst h0
    go_enter Try.func21, Try.ntmps21
    go_wp2
    go_ret
    exact ⟨none, 0, [], rfl, Lr.nil _ _, Fr.refl _ _, fun _ h => by cases h⟩
  · have hneg : ¬ ((n : Int) < 0) := by omega
    have hpos : (n : Int) > 0 := by omega
    have hGn : n ≤ grownCap w n 0 3 := grownCap_ge w _ _ _
    have hG63 : grownCap w n 0 3 ≤ maxLen := grownCap_le_maxLen w n 0 3 (by unfold maxLen; omega)
    have hrz : ∀ ty, (Builtin.append_ #[38, 3] ty #[.slice none 0 0, .int .i64 (n : Int)]).run Try.prog w = .ok (.slice (some ⟨w.heap.size, 0, none⟩) n (grownCap w n 0 3)) (w.drew.alloc (.cells (Builtin.zeroCells (Value.int .i64 0).cells n ++ Builtin.zeroCells (Value.int .i64 0).cells (grownCap w n 0 3 - n)) 3)) := fun ty =>
      Lib.run_append_nil_zeros w 38 3 ty 3 i0 (.int .i64 0) .i64 .i64 Try.underlying38 Try.underlying3 hi hz0 n h0 (by rw [hz1]; decide) (by omega) (by rw [hz2]; omega)
    obtain ⟨M, hM⟩ : ∃ M, M = grownCap w n 0 3 := ⟨_, rfl⟩
    rw [← hM] at hrz hGn hG63
    have HM := hide hG63
    have HL : Hid (Lr (w.drew.alloc (.cells (Builtin.zeroCells (Value.int .i64 0).cells n ++ Builtin.zeroCells (Value.int .i64 0).cells (M - n)) 3)) 3 (some ⟨w.heap.size, 0, none⟩) 0 M [w.heap.size] []) :=
      ⟨rfl, Nat.zero_le _, hG63, fun h => absurd h (by omega), fun _ => ⟨_, 0, _, rfl, rfl, Blk.new w.drew _ _, by simp [size_zeroCells, Value.cells]; omega, by simp⟩⟩
    unfold maxLen at hG63
    clear hM
    go_enter Try.func21, Try.ntmps21
    go_wp2_with (at_builtin; refine Lib.wpList_append_run _ rfl _ _ _ _ rfl _ _ rfl rfl _ _ (hrz _) ?_)
    all_goals
      go_ret
      exact ⟨_, _, _, rfl, HL.out, ((Fr.refl _ _).drew).alloc _, fun g hg => by simp at hg; omega⟩

def CatPost (w : World) (l : List Int) (e : Ending) (w' : World) : Prop := ∃ A c G, e = .returned (.slice A l.length c) ∧ Lr w' 3 A l.length c G (zv l) ∧ Fr [] w w' ∧ ∀ g, g ∈ G → w.heap.size ≤ g
set_option maxHeartbeats 1600000 in
theorem concat_any {w : World} {ab k kc : Nat} {A : Nat → Option Addr} {c : Nat → Nat} {L : Nat → List Int} (hk : k ≤ 4611686018427387904) (hrow : ∀ j, j < k → w.cell? ⟨ab, j, none⟩ = some (.slice (A j) (L j).length (c j)))
    (hsl : ∀ j, j < k → Sl w (A j) (L j).length (fun i => .int .i64 ((L j).getD i 0))) (hb : (catL L k).length ≤ 17592186044416) :
    Calls Try.prog 19 #[.slice (some ⟨ab, 0, none⟩) k kc] w (CatPost w (catL L k)) := by
  obtain ⟨i0, hi, hz0, hz1, hz2⟩ := info_parts Try.info_int
  have HR := hide hrow
  have HS := hide hsl
  have HB := hide hb
  clear hrow hsl hb
  go_enter Try.func19, Try.ntmps19
  go_wp2
  go_loop [3, 11] (fun s i => ∃ j : Nat, i = .int .i64 j ∧ j ≤ k ∧ s = .int .i64 (((catL L j).length : Nat) : Int)) (fun _ i => k - (intOf i).toNat)
  case atStart => exact ⟨0, rfl, Nat.zero_le _, rfl⟩
  case round =>
    obtain ⟨j, rfl, hj, rfl⟩ := hrel
    have hm := Nat.le_trans (catL_mono (L := L) hj) HB.out
    by_cases hlt : j < k
    · have hlt1 : (j : Int) < (k : Int) := by omega
      have hc := HR.out j hlt
      have hm1 := Nat.le_trans (catL_mono (L := L) (show j + 1 ≤ k from hlt)) HB.out
      have HE : Hid ((catL L (j + 1)).length = (catL L j).length + (L j).length) := by show _ = _; simp [catL]
      rw [HE.out] at hm1
      have HE0 : Hid (Value.int .i64 (((catL L (j + 1)).length : Nat) : Int) = .int .i64 (((catL L j).length : Int) + ((L j).length : Int))) := by show _ = _; rw [HE.out]; go_num
      clear HE
      generalize hS : (catL L (j + 1)).length = s1 at *
      have ES := hide hS
      clear hS
      generalize (catL L j).length = s0 at *
      generalize (L j).length = l0 at *
      have hneg : ¬ ((s0 : Int) + (l0 : Int) < 0) := by omega
      go_wp2
      go_round
      case rel => exact ⟨j + 1, by go_num, by omega, by rw [ES.out]; exact HE0.out.symm⟩
      case measure => simp [intOf]; omega
    · obtain rfl : k = j := by omega
      go_wp2_with fail
      refine (grow_none _ HB.out _).mono ?_
      rintro e w1 ⟨A1, c1, G1, rfl, hl, hf, hg⟩
      have HL : Hid (Lr w1 3 A1 0 c1 G1 (zv (catL L 0))) := hl
      have HF := hide hf
      have HG := hide hg
      clear hl hf hg
      go_wp2_with fail
      go_loopw [6, 27] (fun v i wr => ∃ (j : Nat) (A2 : Option Addr) (c2 : Nat) (G2 : List Nat), i = .int .i64 j ∧ j ≤ k ∧ v = .slice A2 (catL L j).length c2 ∧ Lr wr 3 A2 (catL L j).length c2 G2 (zv (catL L j)) ∧ Fr [] w wr ∧ ∀ g, g ∈ G2 → w.heap.size ≤ g) (fun _ i _ => k - (intOf i).toNat)
      case atStart => exact ⟨0, _, _, _, rfl, Nat.zero_le _, rfl, HL.out, HF.out, HG.out⟩
      case round =>
        obtain ⟨j, A2, c2, G2, rfl, hj2, rfl, hl, hf, hg⟩ := hrel
        have HL2 := hide hl
        have HF2 := hide hf
        have HG2 := hide hg
        clear hl hf hg
        by_cases hlt : j < k
        · have hlt1 : (j : Int) < (k : Int) := by omega
          have hc := (HF2.out.cell (p := ⟨ab, j, none⟩) (lt_of_cell (HR.out j hlt)) (by simp)).trans (HR.out j hlt)
          have hm1 := Nat.le_trans (catL_mono (L := L) (show j + 1 ≤ k from hlt)) HB.out
          have HE : Hid ((catL L (j + 1)).length = (catL L j).length + (L j).length ∧ zv (catL L (j + 1)) = zv (catL L j) ++ zv (L j)) := by
            refine ⟨?_, ?_⟩
            · simp [catL]
            · simp [catL, zv_app]
          rw [HE.out.1] at hm1
          have HX := hide (((HS.out j hlt).fr HF2.out (fun x hx => by cases hx)).src)
          have HN : Hid ((zv (L j)).length = (L j).length ∧ ∀ u ∈ zv (L j), u.oneCell' = true) := ⟨zv_len _, zv_one _⟩
          have HM1 := hide hm1
          clear hm1
          go_wp2_with (first | (at_builtin; go_loud (refine wpList_append_lr rfl _ _ 38 rfl 3 i0 (.int .i64 0) 8 Try.underlying38 hi hz0 hz1 hz2 rfl rfl HL2.out rfl HN.out.1 HX.out HN.out.2 (by have := HM1.out; unfold maxLen; omega) (by have := HM1.out; omega) ?_; intro A3 c3 G3 w3 HL3 HF3 HG3)))
          have HL4 : Hid (Lr w3 3 A3 (catL L (j + 1)).length c3 G3 (zv (catL L (j + 1)))) := by
            show Lr _ _ _ _ _ _ _
            rw [HE.out.1, HE.out.2]; exact HL3.out
          have HF4 : Hid (Fr [] w w3) := HF2.out.trans HF3.out (fun x hx => .inr (HG2.out x hx))
          have HG4 : Hid (∀ g, g ∈ G3 → w.heap.size ≤ g) := fun g hg => by
            rcases HG3.out g hg with h | ⟨h, _⟩
            · exact HG2.out g h
            · have := HF2.out.size; omega
          go_roundw
          case rel => exact ⟨j + 1, A3, c3, G3, by go_num, by omega, by rw [HE.out.1], HL4.out, HF4.out, HG4.out⟩
          case measure => simp [intOf]; omega
        · obtain rfl : k = j := by omega
          go_wp2_with fail
          go_ret
          exact ⟨A2, c2, G2, rfl, HL2.out, HF2.out, HG2.out⟩
end Go.Proofs.Ytdiedfnlmkokhaa
