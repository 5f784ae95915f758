/- RemsetPlays: cards are remembered, ever more coarsely, just as the document says, call by call. Conditions: none but the row's own (the library's table lies as its text lays it). -/
import Derived.Test.YtkbffmmomoeaiaaDoorL11s
import Derived.Test.YtkbffmmomoeaiaaDoorRc
import Derived.Test.YtkbffmmomoeaiaaDoorCard
namespace Go.Proofs.YtkbffmmomoeaiaaDoor.RemsetPlays
set_option linter.unusedVariables false
set_option linter.unusedSimpArgs false
open Go.RowKit Go.Gl Go.ChangeShapes Go.WideShapes Go.ChangeAt Go.Deep

def cardsL (σ : RS) (per n : Nat) (a : Int) : List Int := if 0 ≤ a ∧ a < (n : Int) then allOf σ per n a.toNat else []
theorem cardsL_len (σ : RS) (per n : Nat) (a : Int) : (cardsL σ per n a).length ≤ n * per := by
  unfold cardsL
  split
  · exact part_len _ _ _ _
  · exact Nat.zero_le _
theorem list_nil {w w' : World} {e : Ending} (h : e = .returned (.slice none 0 0) ∧ w = w') : ListPost w [] [] e w' := by
  obtain ⟨rfl, rfl⟩ := h
  exact ⟨none, 0, [], rfl, Lr.nil _ _, Fr.refl _ _, fun g hg => by cases hg⟩
section
variable {P : List Nat} {W w w' : World} {sb mb per n : Nat} {σ τ : RS}
theorem cardsS (h : Both P W w sb mb per n σ τ) (hT : Tab w) (a : Int) : Calls Tryd.prog 11 #[.pointer (some ⟨sb, 0, none⟩), .int .i64 a] w (ListPost w [] (cardsL σ per n a)) := by
  obtain ⟨tg, hs⟩ := h.sat
  unfold cardsL
  by_cases ha : 0 ≤ a ∧ a < (n : Int)
  · rw [if_pos ha]
    obtain ⟨k, rfl⟩ := Int.eq_ofNat_of_zero_le ha.1
    exact hs.cards hT (by omega)
  · rw [if_neg ha]
    exact (hs.cards_no ha).mono fun e w' => list_nil
theorem cardsM (h : Both P W w sb mb per n σ τ) (a : Int) : Calls Tryd.prog 13 #[.pointer (some ⟨mb, 0, none⟩), .int .i64 a] w (ListPost w [] (cardsL τ per n a)) := by
  obtain ⟨tg, hs⟩ := h.mat
  unfold cardsL
  by_cases ha : 0 ≤ a ∧ a < (n : Int)
  · rw [if_pos ha]
    obtain ⟨k, rfl⟩ := Int.eq_ofNat_of_zero_le ha.1
    exact hs.cards (by omega)
  · rw [if_neg ha]
    exact (hs.cards_no ha).mono fun e w' => list_nil
theorem Both.out {G : List Nat} (h : Both P W w sb mb per n σ τ) (hf : Fr [] w w') (hG : ∀ g, g ∈ G → w.heap.size ≤ g ∧ g < w'.heap.size) : Both G W w' sb mb per n σ τ := by
  obtain ⟨h0, tg, tm, h1, h2, h3, h4, h5, h6⟩ := h
  refine ⟨h0.trans_same hf, tg, tm, h1.fr0 hf, h2.fr0 hf, h3, h4, h5, fun g hg => ⟨(hG g hg).2, ?_, ?_⟩⟩
  · rcases Nat.eq_zero_or_pos (tg g).1 with h7 | h7
    · exact h7
    · have := h1.tok g (by omega); have := (hG g hg).1; omega
  · rcases Nat.eq_zero_or_pos (tm g).1 with h7 | h7
    · exact h7
    · have := h2.tok g (by omega); have := (hG g hg).1; omega
theorem Both.poke {F : List Nat} (h : Both P W w sb mb per n σ τ) (hf : Fr F w w') (hF : ∀ g, g ∈ F → g ∈ P ∧ W.heap.size ≤ g) : Both P W w' sb mb per n σ τ := by
  obtain ⟨h0, tg, tm, h1, h2, h3, h4, h5, h6⟩ := h
  exact ⟨h0.trans hf (fun x hx => .inr (hF x hx).2), tg, tm, h1.fr hf (fun b hb => (h6 b (hF b hb).1).2.1), h2.fr hf (fun b hb => (h6 b (hF b hb).1).2.2), h3, h4, h5, fun g hg => ⟨Nat.lt_of_lt_of_le (h6 g hg).1 hf.size, (h6 g hg).2⟩⟩
end
theorem wf_small {x : Int} (h1 : -1 ≤ x) (h2 : x ≤ 1000) : (Lit.int .i64 x).wf = true := WalkArith.wf_i64 (by omega)
section
variable (W : World) (wd rw0 cw rg cd mx : Int) (A : Option Addr) (na ca : Nat)
set_option maxRecDepth 100000 in
set_option maxHeartbeats 3200000 in
theorem walk_skip (hT : Tab W) (h : (rg > 60 ∧ rg ≤ 65536) ∨ (¬ (rg > 60 ∧ rg ≤ 65536) ∧ cd > 3000)) : Holds Tryd.prog 3 #[.agg #[.int .i64 wd, .int .i64 rw0, .int .i64 cw, .int .i64 rg, .int .i64 cd, .int .i64 mx], .slice A na ca] W := by
  have HB : Hid (Blk (W.alloc (.cells #[.int .i64 wd, .int .i64 rw0, .int .i64 cw, .int .i64 rg, .int .i64 cd, .int .i64 mx] 23)) W.heap.size 23 #[.int .i64 wd, .int .i64 rw0, .int .i64 cw, .int .i64 rg, .int .i64 cd, .int .i64 mx]) := Blk.new _ _ _
  have HF0 : Hid (Fr [] W (W.alloc (.cells #[.int .i64 wd, .int .i64 rw0, .int .i64 cw, .int .i64 rg, .int .i64 cd, .int .i64 mx] 23))) := (Fr.refl _ _).alloc _
  have HT0 := hide (hT.fr HF0.out (by simp))
  clear hT
  have hcase : (rg > 60 ∧ rg ≤ 65536) ∨ (¬ rg > 60 ∧ cd > 3000) ∨ (rg > 60 ∧ ¬ rg ≤ 65536 ∧ cd > 3000) := by omega
  clear h
  unfold Holds
  rcases hcase with ⟨h1, h2⟩ | ⟨h1, h2⟩ | ⟨h1, h2, h3⟩
  all_goals
    go_enter Tryd.func3, Tryd.ntmps3
    go_wp2_with fail
    refine (awake11_any _ HT0.out).mono ?_
    rintro e w1 ⟨rfl, hf⟩
    have HF1 := hide (HF0.out.trans_same hf)
    have hb := HB.out.fr hf (by simp)
    have c3 : w1.cell? ⟨W.heap.size, 3, none⟩ = some (.int .i64 rg) := by rw [hb.cell]; rfl
    have c4 : w1.cell? ⟨W.heap.size, 4, none⟩ = some (.int .i64 cd) := by rw [hb.cell]; rfl
    clear hf hb HB HF0 HT0
    go_wp2_with fail
    go_ret
    exact ⟨rfl, HF1.out.below_nil⟩
set_option maxRecDepth 100000 in
set_option maxHeartbeats 3200000 in
theorem walk_no (hT : Tab W) (h : ¬ (rg > 60 ∧ rg ≤ 65536) ∧ ¬ cd > 3000) (hno : ¬ GeoMay ⟨wd, rw0, cw, rg, cd, mx⟩) : Holds Tryd.prog 3 #[.agg #[.int .i64 wd, .int .i64 rw0, .int .i64 cw, .int .i64 rg, .int .i64 cd, .int .i64 mx], .slice A na ca] W := by
  have HB : Hid (Blk (W.alloc (.cells #[.int .i64 wd, .int .i64 rw0, .int .i64 cw, .int .i64 rg, .int .i64 cd, .int .i64 mx] 23)) W.heap.size 23 #[.int .i64 wd, .int .i64 rw0, .int .i64 cw, .int .i64 rg, .int .i64 cd, .int .i64 mx]) := Blk.new _ _ _
  have HF0 : Hid (Fr [] W (W.alloc (.cells #[.int .i64 wd, .int .i64 rw0, .int .i64 cw, .int .i64 rg, .int .i64 cd, .int .i64 mx] 23))) := (Fr.refl _ _).alloc _
  have HT0 := hide (hT.fr HF0.out (by simp))
  have HN1 : Hid (∀ w' : World, Calls Tryd.prog 8 #[.agg #[.int .i64 wd, .int .i64 rw0, .int .i64 cw, .int .i64 rg, .int .i64 cd, .int .i64 mx]] w' fun e w'' => e = .returned (.tuple #[.pointer none, .int .i64 20]) ∧ Fr [] w' w'') := fun w' => rnew_no ⟨wd, rw0, cw, rg, cd, mx⟩ hno w'
  have HN2 : Hid (∀ w' : World, Calls Tryd.prog 9 #[.agg #[.int .i64 wd, .int .i64 rw0, .int .i64 cw, .int .i64 rg, .int .i64 cd, .int .i64 mx]] w' fun e w'' => e = .returned (.tuple #[.pointer none, .int .i64 20]) ∧ Fr [] w' w'') := fun w' => mnew_no ⟨wd, rw0, cw, rg, cd, mx⟩ hno w'
  clear hT hno
  obtain ⟨h, h3⟩ := h
  have hcase : ¬ rg > 60 ∨ (rg > 60 ∧ ¬ rg ≤ 65536) := by omega
  clear h
  unfold Holds
  rcases hcase with h1 | ⟨h1, h2⟩
  all_goals
    go_enter Tryd.func3, Tryd.ntmps3
    go_wp2_with fail
    refine (awake11_any _ HT0.out).mono ?_
    rintro e w1 ⟨rfl, hf⟩
    have HF1 := hide (HF0.out.trans_same hf)
    have hb := HB.out.fr hf (by simp)
    have HB1 := hide hb
    have c0 : w1.cell? ⟨W.heap.size, 0, none⟩ = some (.int .i64 wd) := by rw [hb.cell]; rfl
    have c1 : w1.cell? ⟨W.heap.size, 1, none⟩ = some (.int .i64 rw0) := by rw [hb.cell]; rfl
    have c2 : w1.cell? ⟨W.heap.size, 2, none⟩ = some (.int .i64 cw) := by rw [hb.cell]; rfl
    have c3 : w1.cell? ⟨W.heap.size, 3, none⟩ = some (.int .i64 rg) := by rw [hb.cell]; rfl
    have c4 : w1.cell? ⟨W.heap.size, 4, none⟩ = some (.int .i64 cd) := by rw [hb.cell]; rfl
    have c5 : w1.cell? ⟨W.heap.size, 5, none⟩ = some (.int .i64 mx) := by rw [hb.cell]; rfl
    clear hf hb HB HF0 HT0
    go_wp2_with fail
    refine (HN1.out _).mono ?_
    rintro e w2 ⟨rfl, hf⟩
    have HF2 := hide (HF1.out.trans_same hf)
    have hb := HB1.out.fr hf (by simp)
    have c0 : w2.cell? ⟨W.heap.size, 0, none⟩ = some (.int .i64 wd) := by rw [hb.cell]; rfl
    have c1 : w2.cell? ⟨W.heap.size, 1, none⟩ = some (.int .i64 rw0) := by rw [hb.cell]; rfl
    have c2 : w2.cell? ⟨W.heap.size, 2, none⟩ = some (.int .i64 cw) := by rw [hb.cell]; rfl
    have c3 : w2.cell? ⟨W.heap.size, 3, none⟩ = some (.int .i64 rg) := by rw [hb.cell]; rfl
    have c4 : w2.cell? ⟨W.heap.size, 4, none⟩ = some (.int .i64 cd) := by rw [hb.cell]; rfl
    have c5 : w2.cell? ⟨W.heap.size, 5, none⟩ = some (.int .i64 mx) := by rw [hb.cell]; rfl
    clear hf hb
    go_wp2_with fail
    refine (HN2.out _).mono ?_
    rintro e w3 ⟨rfl, hf⟩
    have HF3 := hide (HF2.out.trans_same hf)
    clear hf
    go_wp2_with fail
    go_ret
    exact ⟨rfl, HF3.out.below_nil⟩
end
set_option maxRecDepth 100000 in
set_option maxHeartbeats 6400000 in
theorem walk_may (W : World) (hT : Tab W) (wd rw0 cw cd mx : Int) {per n : Nat} (A : Option Addr) (na ca : Nat) (f : Nat → Nat → Int) (hA : Recs W A na 3 (fun _ => .i64) f) (hw : ∀ i j, i < na → j < 3 → (Lit.int .i64 (f i j)).wf = true)
    (hn : n ≤ 60) (hcd : ¬ cd > 3000) (ok : OkG ⟨wd, rw0, cw, (n : Int), cd, mx⟩ per n) : Holds Tryd.prog 3 #[.agg #[.int .i64 wd, .int .i64 rw0, .int .i64 cw, .int .i64 (n : Int), .int .i64 cd, .int .i64 mx], .slice A na ca] W := by
  have HB : Hid (Blk (W.alloc (.cells #[.int .i64 wd, .int .i64 rw0, .int .i64 cw, .int .i64 (n : Int), .int .i64 cd, .int .i64 mx] 23)) W.heap.size 23 #[.int .i64 wd, .int .i64 rw0, .int .i64 cw, .int .i64 (n : Int), .int .i64 cd, .int .i64 mx]) := Blk.new _ _ _
  have HF0 : Hid (Fr [] W (W.alloc (.cells #[.int .i64 wd, .int .i64 rw0, .int .i64 cw, .int .i64 (n : Int), .int .i64 cd, .int .i64 mx] 23))) := (Fr.refl _ _).alloc _
  have HT0 := hide (hT.fr HF0.out (by simp))
  have HT := hide hT
  have HA := hide hA
  have HW := hide hw
  have HN1 : Hid (∀ w' : World, Calls Tryd.prog 8 #[.agg #[.int .i64 wd, .int .i64 rw0, .int .i64 cw, .int .i64 (n : Int), .int .i64 cd, .int .i64 mx]] w' (NewSets w' per n)) := fun w' => rnew_ok ⟨wd, rw0, cw, (n : Int), cd, mx⟩ ok w'
  have HN2 : Hid (∀ w' : World, Calls Tryd.prog 9 #[.agg #[.int .i64 wd, .int .i64 rw0, .int .i64 cw, .int .i64 (n : Int), .int .i64 cd, .int .i64 mx]] w' (MNew w' per n)) := fun w' => mnew_ok ⟨wd, rw0, cw, (n : Int), cd, mx⟩ ok w'
  have HNP : Hid (n * per ≤ 4194304) := ok.dim.p2
  have h1 : ¬ (n : Int) > 60 := by omega
  clear hT hA hw ok
  unfold Holds
  go_enter Tryd.func3, Tryd.ntmps3
  go_wp2_with fail
  refine (awake11_any _ HT0.out).mono ?_
  rintro e w1 ⟨rfl, hf⟩
  have HF1 := hide (HF0.out.trans_same hf)
  have hb := HB.out.fr hf (by simp)
  have HB1 := hide hb
  have c0 : w1.cell? ⟨W.heap.size, 0, none⟩ = some (.int .i64 wd) := by rw [hb.cell]; rfl
  have c1 : w1.cell? ⟨W.heap.size, 1, none⟩ = some (.int .i64 rw0) := by rw [hb.cell]; rfl
  have c2 : w1.cell? ⟨W.heap.size, 2, none⟩ = some (.int .i64 cw) := by rw [hb.cell]; rfl
  have c3 : w1.cell? ⟨W.heap.size, 3, none⟩ = some (.int .i64 (n : Int)) := by rw [hb.cell]; rfl
  have c4 : w1.cell? ⟨W.heap.size, 4, none⟩ = some (.int .i64 cd) := by rw [hb.cell]; rfl
  have c5 : w1.cell? ⟨W.heap.size, 5, none⟩ = some (.int .i64 mx) := by rw [hb.cell]; rfl
  clear hf hb HB HF0 HT0
  go_wp2_with fail
  refine (HN1.out _).mono ?_
  rintro e w2 ⟨tg, sb, kb, sB, hB, fB, fk, Vs, Vh, Vf, rfl, hs, hf, hold⟩
  have HSt : Hid (SAt w2 tg sb per n freshS) := ⟨kb, sB, hB, fB, fk, Vs, Vh, Vf, hs⟩
  have HOld : Hid (Old w1.heap.size tg) := hold
  have HF12 := hide hf
  have hb := HB1.out.fr hf (by simp)
  have c0 : w2.cell? ⟨W.heap.size, 0, none⟩ = some (.int .i64 wd) := by rw [hb.cell]; rfl
  have c1 : w2.cell? ⟨W.heap.size, 1, none⟩ = some (.int .i64 rw0) := by rw [hb.cell]; rfl
  have c2 : w2.cell? ⟨W.heap.size, 2, none⟩ = some (.int .i64 cw) := by rw [hb.cell]; rfl
  have c3 : w2.cell? ⟨W.heap.size, 3, none⟩ = some (.int .i64 (n : Int)) := by rw [hb.cell]; rfl
  have c4 : w2.cell? ⟨W.heap.size, 4, none⟩ = some (.int .i64 cd) := by rw [hb.cell]; rfl
  have c5 : w2.cell? ⟨W.heap.size, 5, none⟩ = some (.int .i64 mx) := by rw [hb.cell]; rfl
  clear hs hf hold hb
  go_wp2_with fail
  refine (HN2.out _).mono ?_
  rintro e w3 ⟨tm, mb, rfl, hm, hf, hold⟩
  have HBo : Hid (Both [] w1 w3 sb mb per n freshS freshS) := Both.made HF12.out HSt.out HOld.out hf hm hold
  clear hm hf hold c0 c1 c2 c3 c4 c5 HSt HOld HF12 HN1 HN2
  go_wp2_with fail
  go_loopw [9] (fun i wr => ∃ (k : Nat) (σ : RS), i = .int .i64 k ∧ k ≤ na ∧ k ≤ 300 ∧ Both [] w1 wr sb mb per n σ σ) (fun i _ => na - (intOf i).toNat)
  case atStart => exact ⟨0, freshS, rfl, Nat.zero_le _, by omega, HBo.out⟩
  case round =>
    obtain ⟨k, σ, rfl, hk, hk2, hbo⟩ := hrel
    have HBo1 := hide hbo
    clear hbo HBo
    by_cases hlt : k < na ∧ k < 300
    · obtain ⟨hlt1, hlt2⟩ := hlt
      have hlt3 : (k : Int) < (na : Int) := by omega
      have hlt4 : (k : Int) < 300 := by omega
      obtain ⟨b0, off, rfl, hb0, hcl⟩ := HA.out (by omega)
      have tr : ∀ j, wr.cell? ⟨b0, j, none⟩ = W.cell? ⟨b0, j, none⟩ := fun j => (HF1.out.trans_same HBo1.out.1).cell (p := ⟨b0, j, none⟩) hb0 (by simp)
      have d0 := hcl k hlt1 0 (by decide)
      have d1 := hcl k hlt1 1 (by decide)
      have d2 := hcl k hlt1 2 (by decide)
      rw [← tr] at d0 d1 d2
      rw [Nat.add_zero] at d0
      rw [← Nat.add_assoc] at d1 d2
      have w1' := HW.out k 1 hlt1 (by decide)
      have w2' := HW.out k 2 hlt1 (by decide)
      clear tr hcl
      generalize f k 0 = X at *
      generalize f k 1 = Y at *
      generalize f k 2 = Z at *
      have T1 := hide (step11_any HBo1.out X Y Z w1' w2')
      clear w1' w2'
      go_wp2_with fail
      refine T1.out.mono ?_
      rintro e w5 ⟨rfl, ⟨σ', hb5⟩, _⟩
      have HB5 := hide hb5
      clear hb5
      go_wp2_with fail
      go_roundw
      case rel => exact ⟨k + 1, σ', by go_num, by omega, by omega, HB5.out⟩
      case measure => simp [intOf]; omega
    · rcases (show ¬ k < na ∨ (k < na ∧ ¬ k < 300) by omega) with hno | ⟨hyes, hno⟩
      focus
        have hx1 : decide ((k : Int) < (na : Int)) = false := decide_eq_false (by omega)
        go_wp2_with fail
      rotate_left
      focus
        have hx1 : (k : Int) < (na : Int) := by omega
        have hx2 : decide ((k : Int) < 300) = false := decide_eq_false (by omega)
        go_wp2_with fail
      all_goals
        obtain ⟨wz, hwz⟩ : ∃ wz, wz = wr := ⟨_, rfl⟩
        subst hwz
        clear hk hk2 hlt HA HW
        go_loopw [10] (fun hv wr => ∃ H : Int, hv = .int .i64 H ∧ -1 ≤ H ∧ H ≤ (n : Int) + 1 ∧ Both [] w1 wr sb mb per n σ σ) (fun hv _ => ((n : Int) + 1 - intOf hv).toNat)
        case atStart => exact ⟨-1, rfl, by omega, by omega, HBo1.out⟩
        obtain ⟨H, rfl, hH1, hH2, hbo⟩ := hrel
        have HB4 := hide hbo
        have c3 : wr.cell? ⟨W.heap.size, 3, none⟩ = some (.int .i64 (n : Int)) := by rw [(HB1.out.fr hbo.1 (by simp)).cell]; rfl
        clear hbo HBo1
        obtain ⟨wy, hwy⟩ : ∃ wy, wy = wr := ⟨_, rfl⟩
        subst hwy
        by_cases hlt5 : H ≤ (n : Int)
        focus
          have HT4 := hide (HT.out.fr (HF1.out.trans_same HB4.out.1) (by simp))
          have T1 := hide (cardsS HB4.out HT4.out H)
          have hll := cardsL_len σ per n H
          have HLL : Hid (∀ P w', Both P w1 w' sb mb per n σ σ → Tab w' → Calls Tryd.prog 11 #[.pointer (some ⟨sb, 0, none⟩), .int .i64 H] w' (ListPost w' [] (cardsL σ per n H))) := fun P w' hb ht => cardsS hb ht H
          have HMM : Hid (∀ P w', Both P w1 w' sb mb per n σ σ → Calls Tryd.prog 13 #[.pointer (some ⟨mb, 0, none⟩), .int .i64 H] w' (ListPost w' [] (cardsL σ per n H))) := fun P w' hb => cardsM hb H
          generalize cardsL σ per n H = L at *
          unfold ListPost at T1 HLL HMM
          have HSame : Hid (∀ (w' : World) (A5 A6 : Option Addr) (c5 c6 : Nat), Sl w' A5 L.length (fun k => .int .i64 (L.getD k 0)) → Sl w' A6 L.length (fun k => .int .i64 (L.getD k 0)) → Calls Tryd.prog 12 #[.slice A5 L.length c5, .slice A6 L.length c6] w' fun e w'' => e = .returned (.bool true) ∧ ∃ k, w'' = w'.drewN k) := fun w' A5 A6 c5 c6 h5 h6 => by
            have h := same_any (ca := c5) (cb := c6) (xs := L) (ys := L) h5 h6 (by have := HNP.out; omega) (by have := HNP.out; omega)
            rw [show decide (L = L) = true by simp] at h
            exact h
          have HSlz : Hid (∀ (w' : World) (A5 : Option Addr) (c5 : Nat) (G5 : List Nat), Lr w' 3 A5 L.length c5 G5 (zv L) → Sl w' A5 L.length (fun k => .int .i64 (L.getD k 0))) := fun w' A5 c5 G5 h => h.slz
          generalize hln : L.length = ln at *
          have hlm : ln ≤ 4194304 := by have := HNP.out; omega
          clear hll hln
          go_wp2_with fail
          refine T1.out.mono ?_
          rintro e w5 ⟨A5, c5, G5, rfl, hl5, hf5, hg5⟩
          have HL5 := hide hl5
          have HB5 := hide (Both.out HB4.out hf5 (G := G5) (fun g hg => ⟨(hg5 g hg).resolve_left (by simp), hl5.lt g hg⟩))
          have HG5 : Hid (∀ g, g ∈ G5 → w1.heap.size ≤ g) := fun g hg => by
            have h1 := (hg5 g hg).resolve_left (by simp)
            have h2 := HB4.out.1.size
            omega
          have T2 := hide (HMM.out _ _ HB5.out)
          clear hl5 hf5 hg5 c3 T1
          go_wp2_with fail
          refine T2.out.mono ?_
          rintro e w6 ⟨A6, c6, G6, rfl, hl6, hf6, hg6⟩
          have HB6 := hide (HB5.out.fr0 hf6)
          have HL6 := hide (HL5.out.fr0 hf6)
          have T3 := hide (HSame.out w6 A5 A6 c5 c6 (HSlz.out _ _ _ _ HL6.out) (HSlz.out _ _ _ _ hl6))
          clear hl6 hf6 hg6 T2
          go_wp2_with fail
          refine T3.out.mono ?_
          rintro e w7 ⟨rfl, k7, hk7⟩
          have HB7 : Hid (Both G5 w1 w7 sb mb per n σ σ) := hk7 ▸ HB6.out.fr0 ((Fr.refl _ _).drewN k7)
          have HL7 : Hid (Lr w7 3 A5 ln c5 G5 (zv L)) := hk7 ▸ HL6.out.drewN k7
          clear hk7 T3 HB6 HL6 HB5 HL5
          go_wp2_with fail
          go_loopw [12] (fun rv wr => ∃ R : Int, rv = .int .i64 R ∧ -1 ≤ R ∧ R ≤ (n : Int) + 1 ∧ Fr [] w7 wr) (fun rv _ => ((n : Int) + 1 - intOf rv).toNat)
          case atStart => exact ⟨-1, rfl, by omega, by omega, Fr.refl _ _⟩
          obtain ⟨R, rfl, hR1, hR2, hf⟩ := hrel
          have HB8 := hide (HB7.out.fr0 hf)
          have HL8 := hide (HL7.out.fr0 hf)
          have HF8 := hide hf
          have c3 : wr.cell? ⟨W.heap.size, 3, none⟩ = some (.int .i64 (n : Int)) := by rw [(HB1.out.fr HB8.out.1 (by simp)).cell]; rfl
          clear hf
          by_cases hlt6 : R ≤ (n : Int)
          focus
            obtain ⟨tg8, hs8⟩ := HB8.out.sat
            obtain ⟨tm8, hm8⟩ := HB8.out.mat
            have T5 := hide (hs8.way H R (wf_small hH1 (by omega)) (wf_small hR1 (by omega)))
            have T6 := hide (hm8.way H R)
            have hne : ((wayI σ H R : Int) != (wayI σ H R : Int)) = false := by simp
            clear hs8 hm8
            generalize (wayI σ H R : Int) = VW at *
            go_wp2_with fail
            refine T5.out.mono ?_
            rintro e wu ⟨rfl, hu⟩
            subst hu
            go_wp2_with fail
            refine T6.out.mono ?_
            rintro e w9 ⟨rfl, q, rfl⟩
            go_wp2_with fail
            go_roundw
            case rel => exact ⟨R + 1, by go_num, by omega, by omega, HF8.out.drewN q⟩
            case measure => simp [intOf]; omega
          go_wp2_with fail
          clear c3 HF8 HB7 HL7
          obtain ⟨w8, hw8⟩ : ∃ w8, w8 = wr := ⟨_, rfl⟩
          subst hw8
          go_loopw [13] (fun iv wr => ∃ (i : Nat) (xs : List Value), iv = .int .i64 i ∧ i ≤ ln ∧ Both G5 w1 wr sb mb per n σ σ ∧ Lr wr 3 A5 ln c5 G5 xs) (fun iv _ => ln - (intOf iv).toNat)
          case atStart => exact ⟨0, _, rfl, Nat.zero_le _, HB8.out, HL8.out⟩
          obtain ⟨i, xs, rfl, hi, hbo, hlr⟩ := hrel
          have HB9 := hide hbo
          have HL9 := hide hlr
          clear hbo hlr
          by_cases hlt7 : i < ln
          focus
            have hlt8 : (i : Int) < (ln : Int) := by omega
            obtain ⟨g, off, rfl, hGe, hgl, hcell, hfz, _⟩ := HL9.out.pos (by omega)
            have hxl : i < xs.length := by rw [HL9.out.len]; exact hlt7
            have ci := hcell i hlt7
            rw [List.getElem?_eq_getElem hxl] at ci
            have zi := hfz (off + i)
            have HF9 : Hid (Fr [g] wr (wr.setCell ⟨g, off + i, none⟩ (.int .i64 (-1)))) := (Fr.refl _ _).setCell (p := ⟨g, off + i, none⟩) (.inl (by simp)) _
            have HB10 := hide (Both.poke HB9.out HF9.out (fun x hx => by simp at hx; rw [hx]; exact ⟨by rw [hGe]; simp, HG5.out g (by rw [hGe]; simp)⟩))
            have HL10 := hide (HL9.out.put hlt7 (.int .i64 (-1)))
            clear hcell hfz hGe
            generalize xs[i] = xv at *
            go_wp2_with fail
            go_roundw
            case rel => exact ⟨i + 1, _, by go_num, by omega, HB10.out, HL10.out⟩
            case measure => simp [intOf]; omega
          obtain rfl : i = ln := by omega
          have HT9 := hide (HT.out.fr (HF1.out.trans_same HB9.out.1) (by simp))
          have T7 := hide (HLL.out _ _ HB9.out HT9.out)
          go_wp2_with fail
          refine T7.out.mono ?_
          rintro e w10 ⟨A10, c10, G10, rfl, hl10, hf10, hg10⟩
          have HB10 := hide (HB9.out.fr0 hf10)
          have HL10 := hide hl10
          have T8 := hide (HMM.out _ _ HB10.out)
          clear hl10 hf10 hg10 T7
          go_wp2_with fail
          refine T8.out.mono ?_
          rintro e w11 ⟨A11, c11, G11, rfl, hl11, hf11, hg11⟩
          have HB11 := hide (HB10.out.fr0 hf11)
          have T9 := hide (HSame.out w11 A10 A11 c10 c11 (HSlz.out _ _ _ _ (HL10.out.fr0 hf11)) (HSlz.out _ _ _ _ hl11))
          clear hl11 hf11 hg11 T8
          go_wp2_with fail
          refine T9.out.mono ?_
          rintro e w12 ⟨rfl, k12, hk12⟩
          have HB12 : Hid (Both [] w1 w12 sb mb per n σ σ) := hk12 ▸ (HB11.out.fr0 ((Fr.refl _ _).drewN k12)).less (fun g hg => by cases hg)
          clear hk12 T9
          go_wp2_with fail
          go_roundw
          case rel => exact ⟨H + 1, by go_num, by omega, by omega, HB12.out⟩
          case measure => simp [intOf]; omega
        go_wp2_with fail
        go_ret
        exact ⟨rfl, (HF1.out.trans_same HB4.out.1).below_nil⟩
end Go.Proofs.YtkbffmmomoeaiaaDoor.RemsetPlays
/- RemsetPlays: cards are remembered, ever more coarsely, just as the document says, call by call, whatever geometry and whatever script come in. Conditions: none but the row's own (the library's table lies as its text lays it). -/
namespace Go.Proofs.YtkbffmmomoeaiaaDoor.RemsetPlays
set_option linter.unusedVariables false
set_option linter.unusedSimpArgs false
open Go.RowKit Go.Gl Go.ChangeShapes Go.WideShapes Go.ChangeAt Go.Deep

theorem act_fields : ∃ fs : Array Field, Tryd.prog.underlying 36 = some (.struct fs) ∧ oneCellFields Tryd.prog fs = true ∧ Tryd.prog.cellsOf 36 = fs.size ∧ fs.size = 3 ∧ ∀ (j : Nat) f, fs[j]? = some f → Tryd.prog.underlying f.type = some (.int .i64) :=
  ⟨_, Tryd.underlying36, by kernel_rfl, by kernel_rfl, by kernel_rfl, by
    intro j f hf
    match j, hf with
    | 0, hf => simp at hf; subst hf; exact Tryd.underlying3
    | 1, hf => simp at hf; subst hf; exact Tryd.underlying3
    | 2, hf => simp at hf; subst hf; exact Tryd.underlying3
    | j + 3, hf => simp at hf⟩
set_option maxRecDepth 100000 in
theorem open_acts {H : Type} {enc : TypeId × Value → H} {W : World} {r : Reach} {b : Nat} {v : Value} {d : DataW H} {p : List MemPlace}
    (hv : Value.okWide Tryd.prog W r b 24 v) (h : DataW.Trod enc Tryd.prog W 0 (fun _ => true) true 24 v d p) :
    ∃ A n c f, v = .slice A n c ∧ n ≤ maxLen ∧ Recs W A n 3 (fun _ => .i64) f ∧ ∀ i j, i < n → j < 3 → (Lit.int .i64 (f i j)).wf = true := by
  obtain ⟨fs, e1, e2, e3, e4, e5⟩ := act_fields
  obtain ⟨A, n, c, f, h1, h2, h3, h4⟩ := open_recs (ks := fun _ => .i64) Tryd.underlying24 e1 e2 e3 (by omega) e5 hv h
  rw [e4] at h3 h4
  exact ⟨A, n, c, f, h1, h2, h3, h4⟩
theorem geom_fields : ∃ fs : Array Field, Tryd.prog.underlying 23 = some (.struct fs) ∧ oneCellFields Tryd.prog fs = true ∧ Tryd.prog.cellsOf 23 = fs.size ∧ fs.size = 6 ∧ ∀ f ∈ fs.toList, Tryd.prog.underlying f.type = some (.int .i64) :=
  ⟨_, Tryd.underlying23, by kernel_rfl, by kernel_rfl, by kernel_rfl, by
    intro f hf
    simp at hf
    rcases hf with rfl | rfl | rfl | rfl | rfl | rfl
    all_goals exact Tryd.underlying3⟩
set_option maxRecDepth 100000 in
theorem holds {H : Type} {enc : TypeId × Value → H} {W : World} {base : Nat} {args : Array Value} {ds : List (DataW H)} {p : List MemPlace}
    (hval : ∀ (j : Nat) t v, Tryd.f3.params[j]? = some t → args[j]? = some v → Value.okWide Tryd.prog W .any base t v)
    (hA : DataW.TrodAll enc Tryd.prog W 0 (fun _ => true) true Tryd.f3.params.toList args.toList ds p) (hT : Tab W) : Holds Tryd.prog 3 args W := by
  rw [Tryd.params3] at hA hval
  obtain ⟨v0, vs0, d0, ds0, p0, q0, hargs, rfl, rfl, h0, r0⟩ := trodAll_cons hA
  obtain ⟨v1, vs1, d1, ds1, p1, q1, rfl, rfl, rfl, h1, r1⟩ := trodAll_cons r0
  obtain ⟨rfl, rfl, rfl⟩ := trodAll_nil r1
  obtain rfl : args = #[v0, v1] := by cases args; simp_all
  obtain ⟨fs, e1, e2, e3, e4, e5⟩ := geom_fields
  obtain ⟨zs, hz, rfl, _⟩ := open_agg_ints e1 e2 e3 e5 (hval 0 23 v0 rfl rfl) h0
  obtain ⟨A, na, ca, f, rfl, hna, hA1, hw⟩ := open_acts (hval 1 24 v1 rfl rfl) h1
  match zs, hz.trans e4 with
  | [wd, rw0, cw, rg, cd, mx], _ =>
    show Holds Tryd.prog 3 #[.agg #[.int .i64 wd, .int .i64 rw0, .int .i64 cw, .int .i64 rg, .int .i64 cd, .int .i64 mx], .slice A na ca] W
    by_cases hs : (rg > 60 ∧ rg ≤ 65536) ∨ (¬ (rg > 60 ∧ rg ≤ 65536) ∧ cd > 3000)
    · exact walk_skip W wd rw0 cw rg cd mx A na ca hT hs
    · by_cases hm : GeoMay ⟨wd, rw0, cw, rg, cd, mx⟩
      · obtain ⟨per, n, ok⟩ := okG_of hm
        have hr : rg = (n : Int) := ok.regions
        have hd := ok.dim
        have h65 := hd.n2
        subst hr
        exact walk_may W hT wd rw0 cw cd mx A na ca f hA1 hw (by omega) (by omega) ok
      · exact walk_no W wd rw0 cw rg cd mx A na ca hT (by omega) hm
set_option maxRecDepth 100000 in
theorem readable : ∀ t, t ∈ Tryd.f3.params.toList → Tryd.prog.readableRec t = true ∧ t < Tryd.prog.types.size := by
  intro t ht
  rw [Tryd.params3] at ht
  have hm : t = 23 ∨ t = 24 := by simp at ht; omega
  rcases hm with rfl | rfl
  all_goals exact ⟨by kernel_rfl, of_decide_eq_true (by kernel_rfl)⟩
set_option maxRecDepth 100000 in
theorem laid_met (os : Os) : laidMet Tryd.prog Rows.remsetPlaysRow.laid ((laidWorld os).forCall (fun _ _ => 0) ⟨#[], #[.agg #[.int .i64 0, .int .i64 0, .int .i64 0, .int .i64 0, .int .i64 0, .int .i64 0], .slice none 0 0], []⟩).memory :=
  laidMet_of_run' 8 (by kernel_rfl) (by kernel_rfl)
set_option maxRecDepth 100000 in
theorem reads (os : Os) {H : Type} (enc : TypeId × Value → H) : ∃ places, DataW.whole enc Tryd.prog ((laidWorld os).forCall (fun _ _ => 0) ⟨#[], #[.agg #[.int .i64 0, .int .i64 0, .int .i64 0, .int .i64 0, .int .i64 0, .int .i64 0], .slice none 0 0], []⟩).memory Tryd.f3.params.toList Rows.remsetPlaysSpec.vars false (#[.agg #[.int .i64 0, .int .i64 0, .int .i64 0, .int .i64 0, .int .i64 0, .int .i64 0], .slice none 0 0] : Array Value).toList 8 = some ([.agg [.lit (.int .i64 0), .lit (.int .i64 0), .lit (.int .i64 0), .lit (.int .i64 0), .lit (.int .i64 0), .lit (.int .i64 0)], .nil], [], places) :=
  ⟨[], by kernel_rfl⟩
theorem spec {H : Type} : ∀ ds : List (DataW H), ds.length = Tryd.f3.params.toList.length → Rows.remsetPlaysSpec.fn H (ds ++ []) = { results := [.lit (.bool true)], args := ds, vars := [] } := by
  intro ds h
  rw [Tryd.params3] at h
  simp only [List.append_nil]
  match ds, h with
  | [_, _], _ => rfl

set_option maxRecDepth 100000 in
theorem lifted (os : Os) (started : os.Started) (H : Type) (enc : TypeId × Value → H) (F : Stop.Interp) :
    ReturnsInHanded {} Tryd.checked os 3 .any ((OpenSpec.ofChange Rows.remsetPlaysSpec).preRow enc Tryd.prog Tryd.f3 Rows.remsetPlaysRow.domain false Rows.remsetPlaysRow.laid) (((OpenSpec.ofChange Rows.remsetPlaysSpec).at F).post enc Tryd.prog Tryd.f3 false true false false) := by
  obtain ⟨places, hx⟩ := reads os enc
  refine returnsInHanded_of_row (C := Tryd.checked) (s := OpenSpec.ofChange Rows.remsetPlaysSpec) own started (by kernel_rfl) Tryd.func3
    (witness_row_at (enc := enc) (C := Tryd.checked) false (laidWorld os) #[.agg #[.int .i64 0, .int .i64 0, .int .i64 0, .int .i64 0, .int .i64 0, .int .i64 0], .slice none 0 0] rfl (by kernel_rfl) (by kernel_rfl) (by kernel_rfl)
      (OpenSpec.preRow_of_cond 8 hx (by kernel_rfl) (fun k hk => by cases hk) (by kernel_rfl) (laid_met os))) ?_
  intro W base args ds gs before hval hW _ _ _ hL _ _
  have hW' : DataW.Whole enc Tryd.prog Tryd.f3.params.toList Rows.remsetPlaysSpec.vars false W args.toList ds gs before := hW
  exact law_close (s := Rows.remsetPlaysSpec) rfl rfl Tryd.underlying4 spec laidOut readable hW' (by
    obtain ⟨p, q, hA, _⟩ := hW'
    exact holds hval hA (table hL))

theorem said : Rows.RemsetPlaysSaid :=
  OpenClaim.holds_of_cond 3 Tryd.f3 rfl rfl rfl rfl rfl rfl rfl ⟨rfl, rfl, rfl, rfl, rfl⟩ rfl rfl rfl rfl rfl (by kernel_rfl) Tryd.func3 (by kernel_rfl)
    (of_decide_eq_true (by kernel_rfl)) (by unfold Func.isWrapper; first | (rw [if_pos (by decide +kernel)]; kernel_rfl) | (rw [if_neg (by decide +kernel)]; exact ⟨rfl, rfl⟩))
    (fun os started H enc _ F => by rw [OpenClaim.pre_eq_preRow]; exact lifted os started H enc F)

/-- No parameter wants a stand-in; the program's own looks are off. -/
theorem plain (f : FuncId) (fn : Func) (hf : Tryd.pinned.checked.prog.funcNamed "gleaner/gleanerlaw11.RemsetPlays" = some f) (hfn : Tryd.pinned.checked.prog.funcs[f]? = some fn) :
    false = Tryd.pinned.checked.prog.looks [] ∧ ∀ (j : Nat) t, fn.params[j]? = some t → Tryd.pinned.checked.prog.wantsStandIn t = false := by
  obtain rfl : f = 3 := Option.some.inj ((show Tryd.prog.funcNamed "gleaner/gleanerlaw11.RemsetPlays" = some 3 by kernel_rfl).symm.trans hf) |>.symm
  obtain rfl : fn = Tryd.f3 := (Option.some.inj (Tryd.func3.symm.trans hfn)).symm
  refine ⟨by kernel_rfl, fun j t ht => ?_⟩
  rw [Tryd.params3] at ht
  have hm : t = 23 ∨ t = 24 := by have := Array.mem_of_getElem? ht; simp at this; omega
  rcases hm with rfl | rfl
  · exact (show Tryd.prog.wantsStandIn 23 = false by kernel_rfl)
  · exact (show Tryd.prog.wantsStandIn 24 = false by kernel_rfl)

/-- The card. -/
theorem card : Rows.RemsetPlaysCardSaid :=
  Claim7.holds_tied_plain_at .later [] _ _ _ _ said (fun _ h => by cases h) (by kernel_rfl) (fun _ h => by cases h) remsetPlays_row_tie rfl ⟨rfl, rfl⟩ (by kernel_rfl) rfl plain (by kernel_rfl)
end Go.Proofs.YtkbffmmomoeaiaaDoor.RemsetPlays
