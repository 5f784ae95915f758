/- The document's answer for layer 5: Fields, Starts. -/
import Derived.Test.YtjnnegbcijmclaaR5
namespace Go.Proofs.Ytjnnegbcijmclaa
set_option linter.unusedVariables false
open Go.RowKit Go.Gl

def RListAns (w : World) (g n : Nat) (f : Nat → Nat) (l : List Int) (er : Int) (e : Ending) (w' : World) : Prop :=
  ∃ (A : Option Addr) (cap : Nat), e = .returned (.tuple #[.slice A l.length cap, .int .i64 er]) ∧ Own w.heap.size w' A l ∧ Fr [] w w'
set_option maxHeartbeats 3200000 in
theorem r5starts_any {w : World} {g n : Nat} {f : Nat → Nat} (h : Ws w g n f) (a b : Int) :
    Calls Try.prog 29 #[.slice (some ⟨g, 0, none⟩) n n, .int .i64 a, .int .i64 b] w (RListAns w g n f (startsL n f a b) (startsE n f a b)) := by
  have H := hide h
  have hmax := h.max
  have hw := bnd_ways n a b
  obtain ⟨i0, hi, hz0, hz1, hz2⟩ := info_parts Try.info_int
  have HQ : Hid (g < w.heap.size) := h.row.lt
  clear h
  unfold RListAns
  rcases hw with ⟨A, B, rfl, rfl, hAB, hBn, he⟩ | ⟨h1, he⟩ | ⟨h1, h2, he⟩ | ⟨h1, h2, h3, he⟩
  · have HSm : Hid (∀ l, startsO f A B = some l → startsL n f A B = l ∧ startsE n f A B = 0) := fun l hl => starts_some he hl
    have HNo : Hid (startsO f A B = none → startsL n f A B = [] ∧ startsE n f A B = 30) := fun hl => starts_none he hl
    have HG := hide (Going.start f hAB)
    generalize startsL n f A B = L at *
    generalize startsE n f A B = E at *
    generalize startsO f A B = O at *
    have c1 : ¬ ((B : Int) < (A : Int)) := by omega
    have c2 : ¬ ((n : Int) < (B : Int)) := by omega
    clear he
    go_enter Try.func29, Try.ntmps29
    go_wp2_with fail
    go_loopw [1, 8] (fun i v wr => ∃ (k : Nat) (acc : List Int), i = .int .i64 k ∧ Going f O B k acc ∧ wr.ownsRow w.heap.size 3 1 v acc.length (vals acc) ∧ Fr [] w wr) (fun i _ _ => B - (intOf i).toNat)
    case atStart => exact ⟨A, [], rfl, HG.out, World.ownsRow_nil _ _ _ _, Fr.refl _ _⟩
    case round =>
      obtain ⟨k, acc, rfl, hg, hown, hf⟩ := hrel
      have HG1 := hide hg
      have HO1 := hide hown
      have HF1 := hide hf
      have HA1 := hide (H.out.fr hf (by simp))
      clear hg hown hf
      have hkB := HG1.out.le
      have hacc := HG1.out.len
      by_cases hlt : k < B
      · have hlt' : (k : Int) < (B : Int) := by omega
        have hkn : k < n := by omega
        obtain ⟨ea, ee⟩ := at_in (f := f) hkn
        have HC := hide (r5at_any HA1.out (k : Int))
        have hstep : StepOk f k B ↔ ((Hd.of (f k)).kind = 1 ∨ (Hd.of (f k)).kind = 2) ∧ (Hd.of (f k)).size ≤ (B : Int) - (k : Int) := Iff.rfl
        have hnext := fun (hs : StepOk f k B) (s : Nat) (e : (Hd.of (f k)).size = (s : Int)) (h1 : 1 ≤ s) => HG1.out.next hlt hs e h1
        have hbad := fun (hs : ¬ StepOk f k B) => HG1.out.broken hlt hs
        have hcase := at_out n f (k : Int)
        rw [ea, ee] at HC hcase
        generalize Hd.of (f k) = G at *
        have HNext := hide hnext
        have HBad := hide hbad
        clear hnext hbad ea ee
        obtain ⟨K, s, p, q, t⟩ := G
        simp only at hstep HC hcase HNext
        unfold Hd.val at HC
        simp only at HC
        have hway : (K = 0 ∧ ¬ StepOk f k B) ∨ (K = 3 ∧ ¬ StepOk f k B) ∨ (¬ K = 0 ∧ ¬ K = 3 ∧ (B : Int) - (k : Int) < s ∧ ¬ StepOk f k B) ∨ ((K = 1 ∨ K = 2) ∧ ∃ S : Nat, s = (S : Int) ∧ (S : Int) ≤ (B : Int) - (k : Int) ∧ 1 ≤ S ∧ StepOk f k B) := by
          rw [hstep]
          by_cases h0 : K = 0
          · exact .inl ⟨h0, by omega⟩
          · refine .inr ?_
            have hr : (K = 1 ∨ K = 2 ∨ K = 3) ∧ 1 ≤ s := by
              rcases hcase with ⟨_, x, _⟩ | ⟨h30, _⟩ | ⟨_, _, _, r⟩
              · omega
              · rw [if_neg h0] at h30; omega
              · have := r.ways; simp only at this; omega
            by_cases h1 : K = 3
            · exact .inl ⟨h1, by omega⟩
            · refine .inr ?_
              by_cases h2 : (B : Int) - (k : Int) < s
              · exact .inl ⟨h0, h1, h2, by omega⟩
              · exact .inr ⟨by omega, s.toNat, by omega, by omega, by omega, by omega, by omega⟩
        clear hstep hcase
        rcases hway with ⟨rfl, hns⟩ | ⟨rfl, hns⟩ | ⟨h0, h3, hs, hns⟩ | ⟨h0, S, rfl, hs, hs1, hst⟩
        · rw [if_pos rfl] at HC
          have HR := hide (HNo.out (HBad.out hns))
          clear hns
          go_wp2_with fail
          refine HC.out.mono ?_
          rintro e w2 ⟨rfl, hf2⟩
          have HF2 := hide hf2
          clear hf2
          go_wp2_with fail
          go_ret2
          rw [HR.out.1, HR.out.2]
          exact ⟨_, _, rfl, Own.nil _ _ _, (HF1.out.trans_same HF2.out).alloc _⟩
        · rw [if_neg (by decide)] at HC
          have HR := hide (HNo.out (HBad.out hns))
          clear hns
          go_wp2_with fail
          refine HC.out.mono ?_
          rintro e w2 ⟨rfl, hf2⟩
          have HF2 := hide hf2
          clear hf2
          go_wp2_with fail
          go_ret2
          rw [HR.out.1, HR.out.2]
          exact ⟨_, _, rfl, Own.nil _ _ _, (HF1.out.trans_same HF2.out).alloc _⟩
        · rw [if_neg h0] at HC
          have HR := hide (HNo.out (HBad.out hns))
          clear hns
          go_wp2_with fail
          refine HC.out.mono ?_
          rintro e w2 ⟨rfl, hf2⟩
          have HF2 := hide hf2
          clear hf2
          go_wp2_with fail
          go_ret2
          rw [HR.out.1, HR.out.2]
          exact ⟨_, _, rfl, Own.nil _ _ _, (HF1.out.trans_same HF2.out).alloc _⟩
        · have HR := hide (HNext.out hst S rfl hs1)
          have HM : Hid (k + S ≤ B) := by show k + S ≤ B; omega
          clear hst
          rcases h0 with rfl | rfl
          · rw [if_neg (by decide)] at HC
            go_wp2_with fail
            refine HC.out.mono ?_
            rintro e w2 ⟨rfl, hf2⟩
            have HF2 := hide hf2
            have HB3 : Hid (Blk (w2.alloc (.cells #[.int .i64 1, .int .i64 (S : Int), .int .i64 p, .int .i64 q, .int .i64 t] 46)) w2.heap.size 46 #[.int .i64 1, .int .i64 (S : Int), .int .i64 p, .int .i64 q, .int .i64 t]) := Blk.new _ _ _
            have HO3 := hide (own_fr HO1.out (hf2.alloc (.cells #[.int .i64 1, .int .i64 (S : Int), .int .i64 p, .int .i64 q, .int .i64 t] 46)) (fun g hg => by simp))
            have hac : acc.length + 1 ≤ 4194305 := by omega
            clear hf2
            go_wp2_with (at_builtin; refine wpList_append_own _ rfl _ _ 43 rfl w.heap.size 3 i0 (.int .i64 0) 1 8 Try.underlying43 hi hz0 hz1 hz2 rfl (by decide) _ _ _ rfl (HO3.out.alloc _) ⟨_, 0, none⟩ 1 1 [.int .i64 (k : Int)] rfl rfl (one_at' _ _ _ (by simp)) ?c2 ?c3 ?c4 ?c5 ?_)
            case c2 => intro u hu; simp at hu; subst hu; rfl
            case c3 => unfold maxLen; omega
            case c4 => omega
            case c5 => have := HF1.out.size; have := HF2.out.size; simp at *; omega
            intro v' w4 hown4 hgr4 _
            have HO4 : Hid (w4.ownsRow w.heap.size 3 1 v' (acc ++ [(k : Int)]).length (vals (acc ++ [(k : Int)]))) := by
              rw [vals_app, List.length_append]; exact hown4
            have HF4 : Hid (Fr [] w w4) := own_grown (((HF1.out.trans_same HF2.out).alloc _).alloc _) HO3.out hgr4
            have e0 : w4.cell? ⟨w2.heap.size, 1, none⟩ = some (.int .i64 (S : Int)) :=
              ((HB3.out.alloc _).fr (grown_fr hgr4) (fun hx => own_ne HO3.out HB3.out (by decide) _ (by simpa using hx) rfl)).cell 1
            clear hown4 hgr4
            go_wp2_with fail
            go_roundw
            case rel => exact ⟨k + S, _, by go_num, HR.out, HO4.out, HF4.out⟩
            case measure => simp [intOf]; omega
          · rw [if_neg (by decide)] at HC
            go_wp2_with fail
            refine HC.out.mono ?_
            rintro e w2 ⟨rfl, hf2⟩
            have HF2 := hide hf2
            have HB3 : Hid (Blk (w2.alloc (.cells #[.int .i64 2, .int .i64 (S : Int), .int .i64 p, .int .i64 q, .int .i64 t] 46)) w2.heap.size 46 #[.int .i64 2, .int .i64 (S : Int), .int .i64 p, .int .i64 q, .int .i64 t]) := Blk.new _ _ _
            have HO3 := hide (own_fr HO1.out (hf2.alloc (.cells #[.int .i64 2, .int .i64 (S : Int), .int .i64 p, .int .i64 q, .int .i64 t] 46)) (fun g hg => by simp))
            have hac : acc.length + 1 ≤ 4194305 := by omega
            clear hf2
            go_wp2_with (at_builtin; refine wpList_append_own _ rfl _ _ 43 rfl w.heap.size 3 i0 (.int .i64 0) 1 8 Try.underlying43 hi hz0 hz1 hz2 rfl (by decide) _ _ _ rfl (HO3.out.alloc _) ⟨_, 0, none⟩ 1 1 [.int .i64 (k : Int)] rfl rfl (one_at' _ _ _ (by simp)) ?c2 ?c3 ?c4 ?c5 ?_)
            case c2 => intro u hu; simp at hu; subst hu; rfl
            case c3 => unfold maxLen; omega
            case c4 => omega
            case c5 => have := HF1.out.size; have := HF2.out.size; simp at *; omega
            intro v' w4 hown4 hgr4 _
            have HO4 : Hid (w4.ownsRow w.heap.size 3 1 v' (acc ++ [(k : Int)]).length (vals (acc ++ [(k : Int)]))) := by
              rw [vals_app, List.length_append]; exact hown4
            have HF4 : Hid (Fr [] w w4) := own_grown (((HF1.out.trans_same HF2.out).alloc _).alloc _) HO3.out hgr4
            have e0 : w4.cell? ⟨w2.heap.size, 1, none⟩ = some (.int .i64 (S : Int)) :=
              ((HB3.out.alloc _).fr (grown_fr hgr4) (fun hx => own_ne HO3.out HB3.out (by decide) _ (by simpa using hx) rfl)).cell 1
            clear hown4 hgr4
            go_wp2_with fail
            go_roundw
            case rel => exact ⟨k + S, _, by go_num, HR.out, HO4.out, HF4.out⟩
            case measure => simp [intOf]; omega
      · have HR := hide (HSm.out _ (HG1.out.done hlt))
        obtain ⟨A9, c9, rfl, ho9⟩ := Own.row HO1.out
        have HO9 := hide ho9
        clear ho9
        go_wp2_with fail
        go_ret2
        rw [HR.out.1, HR.out.2]
        exact ⟨_, _, rfl, HO9.out, HF1.out⟩
  all_goals
    rw [(starts_out he).1, (starts_out he).2]
    clear he
    go_enter Try.func29, Try.ntmps29
    go_wp2_with fail
    go_ret2
    exact ⟨_, _, rfl, Own.nil _ _ _, Fr.refl _ _⟩
set_option maxHeartbeats 3200000 in
theorem r5fields_any {w : World} {g n : Nat} {f : Nat → Nat} (h : Ws w g n f) (i : Int) :
    Calls Try.prog 28 #[.slice (some ⟨g, 0, none⟩) n n, .int .i64 i] w (RListAns w g n f (fieldsL n f i) (fieldsE n f i)) := by
  have H := hide h
  have hmax := h.max
  have HQ : Hid (g < w.heap.size) := h.row.lt
  have HC := hide (r5at_any h i)
  obtain ⟨i0, hi, hz0, hz1, hz2⟩ := info_parts Try.info_int
  have hway : (¬ atE n f i = 0) ∨ (atE n f i = 0 ∧ ¬ (atH n f i).kind = 1) ∨ (atE n f i = 0 ∧ (atH n f i).kind = 1 ∧ (0 ≤ i ∧ i < (n : Int)) ∧ (n : Int) - i < (atH n f i).size) ∨
      (atE n f i = 0 ∧ (atH n f i).kind = 1 ∧ ∃ I S P : Nat, i = (I : Int) ∧ I < n ∧ (atH n f i).size = (S : Int) ∧ (atH n f i).ptrs = (P : Int) ∧ P < S ∧ I + S ≤ n) := by
    rcases at_out n f i with ⟨h1, _⟩ | ⟨h1, _⟩ | ⟨h1, h2, h3, h4⟩
    · exact .inl (by omega)
    · exact .inl (by omega)
    · refine .inr ?_
      by_cases hk : (atH n f i).kind = 1
      · by_cases hs : (n : Int) - i < (atH n f i).size
        · exact .inr (.inl ⟨h1, hk, h2, hs⟩)
        · have := h4.ways
          exact .inr (.inr ⟨h1, hk, i.toNat, (atH n f i).size.toNat, (atH n f i).ptrs.toNat, by omega, by omega, by omega, by omega, by omega, by omega⟩)
      · exact .inl ⟨h1, hk⟩
  have hbad := fields_err (n := n) (f := f) (i := i)
  have hno := fields_no (n := n) (f := f) (i := i)
  have hyes := fields_yes (n := n) (f := f) (i := i)
  unfold FieldsOk at hno hyes
  clear h
  unfold RListAns
  generalize atH n f i = G at *
  generalize atE n f i = E at *
  generalize fieldsL n f i = L at *
  generalize fieldsE n f i = R at *
  obtain ⟨K, s, p, q, t⟩ := G
  simp only at hway hno hyes HC
  unfold Hd.val at HC
  simp only at HC
  rcases hway with h1 | ⟨rfl, h1⟩ | ⟨rfl, rfl, hin, h1⟩ | ⟨rfl, rfl, I, S, P, rfl, hI, rfl, rfl, hP, hS⟩
  · obtain ⟨rfl, rfl⟩ := hbad h1
    clear hno hyes
    go_enter Try.func28, Try.ntmps28
    go_wp2_with fail
    refine HC.out.mono ?_
    rintro e w2 ⟨rfl, hf2⟩
    have HF2 := hide hf2
    clear hf2
    go_wp2_with fail
    go_ret2
    exact ⟨_, _, rfl, Own.nil _ _ _, HF2.out.alloc _⟩
  · obtain ⟨rfl, rfl⟩ := hno rfl (by omega)
    clear hbad hyes hno
    go_enter Try.func28, Try.ntmps28
    go_wp2_with fail
    refine HC.out.mono ?_
    rintro e w2 ⟨rfl, hf2⟩
    have HF2 := hide hf2
    clear hf2
    go_wp2_with fail
    go_ret2
    exact ⟨_, _, rfl, Own.nil _ _ _, HF2.out.alloc _⟩
  · obtain ⟨rfl, rfl⟩ := hno rfl (by omega)
    have HR := hide (r5row_no g n (i := i) (m := s) hmax (by omega))
    clear hbad hyes hno
    go_enter Try.func28, Try.ntmps28
    go_wp2_with fail
    refine HC.out.mono ?_
    rintro e w2 ⟨rfl, hf2⟩
    have HF2 := hide hf2
    clear hf2
    go_wp2_with (go_at_call 23; refine (HR.out _).mono ?_; rintro e w' ⟨rfl, rfl⟩)
    go_ret2
    exact ⟨_, _, rfl, Own.nil _ _ _, HF2.out.alloc _⟩
  · obtain ⟨rfl, rfl⟩ := hyes rfl (by omega)
    have HR := hide (r5row_yes g n (i := (I : Int)) (m := (S : Int)) hmax (by omega))
    clear hbad hyes hno
    rw [Int.toNat_natCast, Int.toNat_natCast]
    go_enter Try.func28, Try.ntmps28
    go_wp2_with fail
    refine HC.out.mono ?_
    rintro e w2 ⟨rfl, hf2⟩
    have HF2 := hide hf2
    have HB2 : Hid (Blk (w2.alloc (.cells #[.int .i64 1, .int .i64 (S : Int), .int .i64 (P : Int), .int .i64 q, .int .i64 t] 46)) w2.heap.size 46 #[.int .i64 1, .int .i64 (S : Int), .int .i64 (P : Int), .int .i64 q, .int .i64 t]) := Blk.new _ _ _
    have HF3 : Hid (Fr [] w (w2.alloc (.cells #[.int .i64 1, .int .i64 (S : Int), .int .i64 (P : Int), .int .i64 q, .int .i64 t] 46))) := hf2.alloc _
    clear hf2
    go_wp2_with (go_at_call 23; refine (HR.out _).mono ?_; rintro e w' ⟨rfl, rfl⟩)
    go_loopw [8, 9] (fun v i wr => ∃ (k : Nat), i = .int .i64 ((k : Int) + 1) ∧ k ≤ P ∧ wr.ownsRow w.heap.size 3 1 v (refs I k).length (vals (refs I k)) ∧ Blk wr w2.heap.size 46 #[.int .i64 1, .int .i64 (S : Int), .int .i64 (P : Int), .int .i64 q, .int .i64 t] ∧ Fr [] w wr) (fun _ i _ => P + 1 - (intOf i).toNat)
    case atStart => exact ⟨0, rfl, Nat.zero_le _, World.ownsRow_nil _ _ _ _, HB2.out, HF3.out⟩
    case round =>
      obtain ⟨k, rfl, hk, hown, hb, hf⟩ := hrel
      have HO := hide hown
      have HB := hide hb
      have HF := hide hf
      have e2 := hb.cell 2
      simp only [List.getElem?_toArray, List.getElem?_cons_succ, List.getElem?_cons_zero] at e2
      clear hown hb hf
      by_cases hlt : k < P
      · have hlt' : (k : Int) + 1 ≤ (P : Int) := by omega
        have hac : (refs I k).length ≤ 4194304 := by rw [refs_len]; omega
        go_wp2_with (at_builtin; refine wpList_append_own _ rfl _ _ 43 rfl w.heap.size 3 i0 (.int .i64 0) 1 8 Try.underlying43 hi hz0 hz1 hz2 rfl (by decide) _ _ _ rfl (HO.out.alloc _) ⟨_, 0, none⟩ 1 1 [.int .i64 ((I : Int) + ((k : Int) + 1))] rfl rfl (one_at _ _ _) ?c2 ?c3 ?c4 ?c5 ?_)
        case c2 => intro u hu; simp at hu; subst hu; rfl
        case c3 => unfold maxLen; omega
        case c4 => omega
        case c5 => have := HF.out.size; simp at *; omega
        intro v' w4 hown4 hgr4 _
        have HO4 : Hid (w4.ownsRow w.heap.size 3 1 v' (refs I (k + 1)).length (vals (refs I (k + 1)))) := by
          rw [refs_succ, vals_app, List.length_append, show (I : Int) + 1 + (k : Int) = (I : Int) + ((k : Int) + 1) by omega]; exact hown4
        have HF4 : Hid (Fr [] w w4) := own_grown (HF.out.alloc _) HO.out hgr4
        have HB4 := hide ((HB.out.alloc (.cells #[.int .i64 ((I : Int) + ((k : Int) + 1))] 3)).fr (grown_fr hgr4) (fun hx => own_ne HO.out HB.out (by decide) _ (by simpa using hx) rfl))
        clear hown4 hgr4
        go_wp2_with fail
        go_roundw
        case rel => exact ⟨k + 1, by go_num, by omega, HO4.out, HB4.out, HF4.out⟩
        case measure => simp [intOf]; omega
      · have hke : k = P := by omega
        subst hke
        obtain ⟨A9, c9, rfl, ho9⟩ := Own.row HO.out
        have HO9 := hide ho9
        clear ho9
        go_wp2_with fail
        go_ret2
        exact ⟨_, _, rfl, HO9.out, HF.out⟩
end Go.Proofs.Ytjnnegbcijmclaa
