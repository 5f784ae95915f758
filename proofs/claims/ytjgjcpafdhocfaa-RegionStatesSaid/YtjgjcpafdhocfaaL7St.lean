/- RegionStates: each region is in just one list, whatever was done. Conditions: none but the row's own. -/
import Derived.Test.YtjgjcpafdhocfaaL7s
import Derived.Test.YtjgjcpafdhocfaaCard0
namespace Go.Proofs.Ytjgjcpafdhocfaa.RegionStates
set_option linter.unusedVariables false
open Go.RowKit Go.Gl Go.ChangeShapes Go.WideShapes Go.ChangeAt Go.Deep

/-- A call of the script. -/
structure Call where
  (kind a b x : Int)
structure Call.Ok (x : Call) : Prop where
  a1 : x.a ≤ 9223372036854775807
  b1 : x.b ≤ 9223372036854775807
/-- The script's calls lie there. -/
def Acts (w : World) (A : Option Addr) (n : Nat) (f : Nat → Call) : Prop :=
  0 < n → ∃ b off, A = some ⟨b, off, none⟩ ∧ b < w.heap.size ∧ ∀ k, k < n → w.cell? ⟨b, off + k * 4, none⟩ = some (.int .i64 (f k).kind) ∧ w.cell? ⟨b, off + k * 4 + 1, none⟩ = some (.int .i64 (f k).a) ∧
    w.cell? ⟨b, off + k * 4 + 2, none⟩ = some (.int .i64 (f k).b) ∧ w.cell? ⟨b, off + k * 4 + 3, none⟩ = some (.int .i64 (f k).x)
/-- So many of the first n regions are of a state below x. -/
def cnt (s : Nat → Int) (n : Nat) : Nat → Nat
  | 0 => 0
  | x + 1 => cnt s n x + (those s (x : Int) n).length
theorem cnt_all (s : Nat → Int) : ∀ n, (∀ j, j < n → 0 ≤ s j ∧ s j ≤ 5) → cnt s n 6 = n := by
  intro n
  induction n with
  | zero => intro _; rfl
  | succ n ih =>
    intro h
    have h1 := ih fun j hj => h j (by omega)
    obtain ⟨a, b⟩ := h n (by omega)
    simp only [cnt] at h1 ⊢
    simp only [those_succ, List.length_append]
    obtain e | e | e | e | e | e : s n = 0 ∨ s n = 1 ∨ s n = 2 ∨ s n = 3 ∨ s n = 4 ∨ s n = 5 := by omega
    all_goals
      simp [e]
      simp at h1
      omega
/-- A list's first k numbers have been struck. -/
def Row (w : World) (g : Nat) (l : List Nat) (k : Nat) : Prop := ∃ cs, Blk w g 3 cs ∧ ∀ j, j < l.length → cs[j]? = some (.int .i64 (if j < k then -1 else ((l.getD j 0 : Nat) : Int)))
theorem Row.cell {w : World} {g : Nat} {l : List Nat} {k : Nat} (h : Row w g l k) {j : Nat} (hj : j < l.length) : w.cell? ⟨g, j, none⟩ = some (.int .i64 (if j < k then -1 else ((l.getD j 0 : Nat) : Int))) := by
  obtain ⟨cs, hb, hc⟩ := h
  rw [hb.cell, hc j hj]
theorem Row.frozen {w : World} {g : Nat} {l : List Nat} {k : Nat} (h : Row w g l k) (j : Nat) : w.frozen? ⟨g, j, none⟩ = false := by
  obtain ⟨cs, hb, hc⟩ := h
  exact hb.frozen j
theorem Row.next {w : World} {g : Nat} {l : List Nat} {k : Nat} (h : Row w g l k) (hk : k < l.length) : Row (w.setCell ⟨g, k, none⟩ (.int .i64 (-1))) g l (k + 1) := by
  obtain ⟨cs, hb, hc⟩ := h
  refine ⟨_, hb.put k _, fun j hj => ?_⟩
  rw [Array.getElem?_setIfInBounds]
  by_cases h : k = j
  · subst h
    have hs : k < cs.size := by
      rcases Nat.lt_or_ge k cs.size with hl | hl
      · exact hl
      · have := hc k hk; rw [Array.getElem?_eq_none hl] at this; cases this
    rw [if_pos rfl, if_pos hs, if_pos (by omega)]
  · rw [if_neg h, hc j hj]
    by_cases h2 : j < k
    · rw [if_pos h2, if_pos (by omega)]
    · rw [if_neg h2, if_neg (by omega)]
theorem Row.of {w : World} {g : Nat} {l : List Nat} {cur : Array Value} (hb : Blk w g 3 cur) (hx : cur.toList.take l.length = nums l) : Row w g l 0 := by
  refine ⟨cur, hb, fun j hj => ?_⟩
  have h1 : (cur.toList.take l.length)[j]? = (nums l)[j]? := by rw [hx]
  rw [List.getElem?_take_of_lt hj, Array.getElem?_toList] at h1
  rw [h1, if_neg (by omega)]
  simp [nums, hj]

theorem Row.drewN' {w : World} {g : Nat} {l : List Nat} {k : Nat} (h : Row w g l k) (i : Nat) : Row (w.drewN i) g l k := h
set_option maxRecDepth 100000 in
set_option maxHeartbeats 6400000 in
theorem walk (W : World) (A : Option Addr) (na ca : Nat) (f : Nat → Call) (hA : Acts W A na f) (hf : ∀ k, (f k).Ok) (hna : na ≤ 9223372036854775807) :
    Holds Try.prog 4 #[.slice A na ca] W := by
  have HA := hide hA
  have Hf := hide hf
  clear hA hf
  unfold Holds
  go_enter Try.func4, Try.ntmps4
  go_wp2_with fail
  refine (awake7_any W).mono ?_
  rintro e w0 ⟨rfl, hf0⟩
  go_wp2_with fail
  refine (small7_any _).mono ?_
  rintro e w1 ⟨rfl, hf⟩
  have HF1 : Hid (Fr [] W w1) := hf0.trans_same hf
  clear hf hf0
  go_wp2_with fail
  refine (new7_any _).mono ?_
  rintro e w2 ⟨tb, sb, pb, qb, rfl, hr, hf, l1, l2, l3, l4⟩
  have HR2 := hide hr
  have HF2 : Hid (Fr [] W w2) := HF1.out.trans_same hf
  have HL : Hid (W.heap.size ≤ tb ∧ W.heap.size ≤ sb ∧ W.heap.size ≤ pb ∧ W.heap.size ≤ qb) := by have := HF1.out.size; exact ⟨by omega, by omega, by omega, by omega⟩
  clear hr hf l1 l2 l3 l4
  go_wp2_with fail
  refine (small7_any _).mono ?_
  rintro e w3 ⟨rfl, hf⟩
  have HR3 := hide (HR2.out.fr0 hf)
  have HF3 : Hid (Fr [] W w3) := HF2.out.trans_same hf
  clear hf
  go_wp2_with fail
  refine (mnew_any _).mono ?_
  rintro e w4 ⟨mb, rb, c, f4, rfl, hm, hf, l1, l2⟩
  have HB4 : Hid (Both7 w4 tb sb pb qb mb rb c) := ⟨⟨_, _, _, HR3.out.fr0 hf⟩, _, hm⟩
  have HF4 : Hid (Fr [] W w4) := HF3.out.trans_same hf
  have HL2 : Hid (W.heap.size ≤ mb ∧ W.heap.size ≤ rb) := by have := HF3.out.size; exact ⟨by omega, by omega⟩
  clear hf hm l1 l2
  go_wp2_with fail
  go_loopw [7] (fun i wr => ∃ k : Nat, i = .int .i64 k ∧ k ≤ na ∧ k ≤ 100 ∧ Both7 wr tb sb pb qb mb rb c ∧ Fr [sb, pb, qb, rb] W wr) (fun i _ => na - (intOf i).toNat)
  case atStart => exact ⟨0, rfl, Nat.zero_le _, by omega, HB4.out, HF4.out.mono (fun x hx => by cases hx)⟩
  case round =>
    obtain ⟨k, rfl, hk, hk2, hb, hfr⟩ := hrel
    have HB := hide hb
    have HF := hide hfr
    have z := HL.out
    have z2 := HL2.out
    clear hb hfr
    by_cases hlt : k < na ∧ k < 100
    · obtain ⟨hlt1, hlt2⟩ := hlt
      have hlt3 : (k : Int) < (na : Int) := by omega
      have hlt4 : (k : Int) < 100 := by omega
      obtain ⟨b0, off, rfl, hb0, hcl⟩ := HA.out (by omega)
      obtain ⟨c0, c1, c2, c3⟩ := hcl k hlt1
      have tr : ∀ j, wr.cell? ⟨b0, j, none⟩ = W.cell? ⟨b0, j, none⟩ := fun j => HF.out.cell (p := ⟨b0, j, none⟩) hb0 (by simp; omega)
      rw [← tr] at c0 c1 c2 c3
      obtain ⟨g0, g1⟩ := Hf.out k
      generalize f k = X at *
      obtain ⟨K, a, b, x⟩ := X
      simp only at c0 c1 c2 c3 g1 g0
      have HST := hide (step7_any HB.out K a b x g0 g1)
      clear tr hcl g0 g1
      go_wp2_with fail
      refine HST.out.mono ?_
      rintro e w5 ⟨y, rfl, hb5, hf5⟩
      obtain ⟨⟨s, t, m, hr5⟩, f5, hm5⟩ := hb5
      have HR5 := hide hr5
      have HM5 := hide hm5
      have HF5 : Hid (Fr [sb, pb, qb, rb] W w5) := HF.out.trans_same hf5
      have HCA := hide (cnt_all s 4 hr5.sok)
      have HL5 : Hid (tb < w5.heap.size ∧ sb < w5.heap.size ∧ pb < w5.heap.size ∧ qb < w5.heap.size ∧ mb < w5.heap.size ∧ rb < w5.heap.size) := ⟨hr5.set.lt, hr5.st.lt, hr5.tops.lt, hr5.tams.lt, hm5.set.lt, hm5.rlt⟩
      clear hr5 hm5 hf5 HST c0 c1 c2 c3
      obtain ⟨wo, rfl⟩ : ∃ wo : World, wo = wr := ⟨_, rfl⟩
      go_wp2_with fail
      go_loopw [8, 9] (fun n i wq => ∃ (q : Nat), n = .int .i64 (cnt s 4 q : Nat) ∧ i = .int .i64 q ∧ q ≤ 6 ∧ Fr [] w5 wq) (fun _ i _ => 6 - (intOf i).toNat)
      case atStart => exact ⟨0, rfl, rfl, by decide, Fr.refl _ _⟩
      case round =>
        obtain ⟨wq, rfl⟩ : ∃ wq : World, wq = wr := ⟨_, rfl⟩
        obtain ⟨q, rfl, rfl, hq, hfq⟩ := hrel
        have HFQ := hide hfq
        have HRQ := hide (HR5.out.fr0 hfq)
        clear hfq
        by_cases hq6 : q < 6
        · have hq5 : (q : Int) ≤ 5 := by omega
          have HLI := hide (rlist_any HRQ.out (q : Int))
          have HCN : Hid (cnt s 4 (q + 1) = cnt s 4 q + (those s (q : Int) 4).length) := rfl
          have hl4 := those_len s (q : Int) 4
          have HME : Hid (∀ j, j < (those s (q : Int) 4).length → (those s (q : Int) 4).getD j 0 < 4 ∧ s ((those s (q : Int) 4).getD j 0) = (q : Int)) := fun j hj => by
            rw [List.getD_eq_getElem?_getD, List.getElem?_eq_getElem hj]
            exact those_mem.1 (List.getElem_mem hj)
          have hcm : cnt s 4 q ≤ 24 := by
            have : ∀ z, cnt s 4 z ≤ 4 * z := fun z => by
              induction z with
              | zero => exact Nat.le_refl _
              | succ z ih => have := those_len s (z : Int) 4; simp only [cnt]; omega
            have := this q
            omega
          generalize those s (q : Int) 4 = l at *
          generalize hN1 : cnt s 4 (q + 1) = N1 at *
          have HN1 := hide hN1
          clear hN1
          generalize cnt s 4 q = N0 at *
          go_wp2_with fail
          refine HLI.out.mono ?_
          rintro e w6 ⟨v, rfl, hv, hf6⟩
          obtain ⟨Av, cv, G, rfl, hn, _, hG, hop⟩ := own_open hv
          have HF6 : Hid (Fr [] w5 w6) := HFQ.out.trans_same hf6
          have HOP := hide hop
          have HGG := hide hG
          have HSZ : Hid (w5.heap.size ≤ wq.heap.size) := HFQ.out.size
          clear hv hf6 hop hG
          go_wp2_with fail
          by_cases hl0 : l.length = 0
          · have hl0' : ¬ (0 : Int) < (l.length : Int) := by omega
            have hN : N1 = N0 := by have := HCN.out; omega
            have hlz : (l.length : Int) = 0 := by omega
            go_loopw [11] (fun i wp => i = .int .i64 0 ∧ w6 = wp) (fun _ _ => 0)
            case atStart => exact ⟨rfl, rfl⟩
            case round =>
              obtain ⟨rfl, rfl⟩ := hrel
              subst hN
              go_wp2_with fail
              go_roundw
              case rel => exact ⟨q + 1, by rw [HN1.out]; first | rfl | (congr 1; omega) | (simp; done), by go_num, by omega, HF6.out⟩
              case measure => simp [intOf]; omega
          · obtain ⟨g, cur, rfl, rfl, hb6, hs6, hx6⟩ := HOP.out (by omega)
            have HG6 : Hid (wq.heap.size ≤ g) := (HGG.out g (by simp)).1
            have HRW := hide (Row.of hb6 hx6)
            have HNE : Hid (g ≠ tb ∧ g ≠ sb ∧ g ≠ pb ∧ g ≠ qb) := by have := HL5.out; have := HSZ.out; have := HG6.out; exact ⟨by omega, by omega, by omega, by omega⟩
            clear hb6 hx6 hs6 HOP HGG
            go_loopw [11] (fun i wp => ∃ p : Nat, i = .int .i64 p ∧ p ≤ l.length ∧ Row wp g l p ∧ Fr [g] w6 wp) (fun i _ => l.length - (intOf i).toNat)
            case atStart => exact ⟨0, rfl, Nat.zero_le _, HRW.out, Fr.refl _ _⟩
            case round =>
              obtain ⟨wp, rfl⟩ : ∃ wp : World, wp = wr := ⟨_, rfl⟩
              obtain ⟨p, rfl, hp, hrw, hfp⟩ := hrel
              have HFP := hide hfp
              have HRP := hide ((HR5.out.fr0 HF6.out).fr hfp (by simpa using HNE.out.1.symm) (by simpa using HNE.out.2.1.symm) (by simpa using HNE.out.2.2.1.symm) (by simpa using HNE.out.2.2.2.symm))
              have HRN := hide hrw
              clear hfp
              by_cases hpl : p < l.length
              · have hpl' : (p : Int) < (l.length : Int) := by omega
                obtain ⟨hy4, hsy⟩ := HME.out p hpl
                have dc := hrw.cell hpl
                rw [if_neg (by omega)] at dc
                have dz := hrw.frozen p
                have HNX := hide (hrw.next hpl)
                have hty := HRP.out.tok _ hy4
                generalize hyy : l.getD p 0 = y at *
                have HS : Hid (∀ i, Calls Try.prog 12 #[.pointer (some ⟨tb, 0, none⟩), .int .i64 (y : Int)] (wp.drewN i) fun e w' => e = .returned (.int .i64 (q : Int)) ∧ ∃ m, w' = (wp.drewN i).drewN m) := fun i => (state_at (HRP.out.drewN i) hy4).mono fun e w' ⟨he, hw⟩ => ⟨by rw [he, hsy], 0, hw.symm⟩
                have HT : Hid (∀ i, Calls Try.prog 11 #[.pointer (some ⟨tb, 0, none⟩), .int .i64 (y : Int)] (wp.drewN i) fun e w' => e = .returned (.int .i64 (t y)) ∧ ∃ m, w' = (wp.drewN i).drewN m) := fun i => (top_at (HRP.out.drewN i) hy4).mono fun e w' ⟨he, hw⟩ => ⟨he, 0, hw.symm⟩
                generalize t y = T at *
                have HFN : Hid (Fr [g] wp (wp.setCell ⟨g, p, none⟩ (.int .i64 (-1)))) := (Fr.refl _ _).setCell (p := ⟨g, p, none⟩) (.inl (by simp)) _
                have e1 : IntKind.i64.wrap (64 * (y : Int)) = 64 * (y : Int) := IntWalk.i64_in _ ⟨by omega, by omega⟩
                have e2 : IntKind.i64.wrap (64 * (y : Int) + 64) = 64 * (y : Int) + 64 := IntWalk.i64_in _ ⟨by omega, by omega⟩
                have d1 : decide (T < 64 * (y : Int)) = false := by rw [decide_eq_false_iff_not]; omega
                have d2 : decide (64 * (y : Int) + 64 < T) = false := by rw [decide_eq_false_iff_not]; omega
                have d3 : decide ((y : Int) ≤ -1) = false := by rw [decide_eq_false_iff_not]; omega
                clear hty hsy HME HCN hyy hrw
                rcases Nat.eq_zero_or_pos p with hp0 | hp0
                · subst hp0
                  go_wp2_with fail
                  go_quiet ((first | (go_at_call 12; exact Calls.quiet_of (HS.out _)) | (go_at_call 11; exact Calls.quiet_of (HT.out _))))
                  clear e1 e2 d1 d2 d3
                  go_wp2_with fail
                  go_roundw
                  case rel => exact ⟨1, by go_num, by omega, HNX.out.drewN' _, (HFP.out.trans_same HFN.out).drewN _⟩
                  case measure => simp [intOf]; omega
                · obtain ⟨p', rfl⟩ : ∃ p', p = p' + 1 := ⟨p - 1, by omega⟩
                  have dp := HRN.out.cell (j := p') (by omega)
                  rw [if_pos (by omega)] at dp
                  have e3 : IntKind.i64.wrap ((p' : Int) + 1 - 1) = (p' : Int) := by rw [show (p' : Int) + 1 - 1 = (p' : Int) by omega]; exact IntWalk.i64_in _ ⟨by omega, by omega⟩
                  have e4 : IntKind.i64.wrap (p' : Int) = (p' : Int) := IntWalk.i64_in _ ⟨by omega, by omega⟩
                  have b1 : (p' : Int) < (l.length : Int) := by omega
                  have b2 : (p' : Int) + 1 < (l.length : Int) := by omega
                  have b3 : (0 : Int) < (p' : Int) + 1 := by omega
                  go_wp2_with fail
                  go_quiet ((first | (go_at_call 12; exact Calls.quiet_of (HS.out _)) | (go_at_call 11; exact Calls.quiet_of (HT.out _))))
                  clear e1 e2 e3 e4 d1 d2 d3
                  go_wp2_with fail
                  go_roundw
                  case rel => exact ⟨p' + 2, by go_num, by omega, HNX.out.drewN' _, (HFP.out.trans_same HFN.out).drewN _⟩
                  case measure => simp [intOf]; omega
              · have hpl' : ¬ (p : Int) < (l.length : Int) := by omega
                have HW6 : Hid (Fr [] w5 wp) := HF6.out.trans HFP.out (fun x hx => by have := HG6.out; have := HSZ.out; simp at hx; omega)
                have hN := HCN.out
                clear hrw
                go_wp2_with fail
                go_roundw
                case rel => exact ⟨q + 1, by rw [HN1.out, hN]; go_num, by go_num, by omega, HW6.out⟩
                case measure => simp [intOf]; omega
        · obtain rfl : q = 6 := by omega
          have hc4 := HCA.out
          have HW7 : Hid (Both7 wq tb sb pb qb mb rb c) := ⟨⟨s, t, m, HRQ.out⟩, f5, HM5.out.fr HFQ.out (by simp) (by simp)⟩
          have HF7 : Hid (Fr [sb, pb, qb, rb] W wq) := HF5.out.trans_nil HFQ.out
          rw [hc4]
          clear hc4 HCA
          go_wp2_with fail
          go_roundw
          case rel => exact ⟨k + 1, by go_num, by omega, by omega, HW7.out, HF7.out⟩
          case measure => simp [intOf]; omega
    · have hway : ¬ (k : Int) < (na : Int) ∨ ((k : Int) < (na : Int) ∧ ¬ (k : Int) < 100) := by omega
      clear hlt
      rcases hway with w1' | ⟨w1', w2'⟩
      all_goals
        go_wp2_with fail
        go_ret
        exact ⟨rfl, HF.out.below (Nat.le_refl _) (fun x hx => by simp at hx; omega)⟩

theorem open_acts {H : Type} {enc : TypeId × Value → H} {W : World} {r : Reach} {b : Nat} {v : Value} {d : DataW H} {p : List MemPlace}
    (hv : Value.okWide Try.prog W r b 41 v) (h : DataW.Trod enc Try.prog W 0 (fun _ => true) true 41 v d p) :
    ∃ A n c f, v = .slice A n c ∧ n ≤ maxLen ∧ Acts W A n f ∧ ∀ k, (f k).Ok := by
  obtain ⟨a0, len, cap, rfl⟩ := okWide_slice Try.underlying41 hv
  obtain ⟨fuel, hf⟩ := h
  rcases open_slice_fields Try.underlying41 Try.underlying48 (by kernel_rfl) (by kernel_rfl) hf with ⟨hcs, hx⟩ | ⟨a, len', cap', m, D, Pl, hcs, _, hl, hm, hmm, hx, hi⟩
  · simp only [Value.cells] at hcs
    injection hcs with h1 _
    injection h1 with h1 h2 h3
    subst h1 h2 h3
    exact ⟨none, 0, 0, fun _ => ⟨0, 0, 0, 0⟩, rfl, Nat.zero_le _, fun h => absurd h (by decide), fun _ => (⟨by decide, by decide⟩ : (⟨0, 0, 0, 0⟩ : Call).Ok)⟩
  · simp only [Value.cells] at hcs
    injection hcs with h1 _
    injection h1 with h1 h2 h3
    subst h1 h2 h3
    simp only [if_true] at hmm
    subst hmm
    have each : ∀ k, ∃ x : Call, x.Ok ∧ (k < m → W.cell? (a.add (k * 4)) = some (.int .i64 x.kind) ∧ W.cell? (a.add (k * 4 + 1)) = some (.int .i64 x.a) ∧ W.cell? (a.add (k * 4 + 2)) = some (.int .i64 x.b) ∧ W.cell? (a.add (k * 4 + 3)) = some (.int .i64 x.x)) := by
      intro k
      by_cases hk : k < m
      · obtain ⟨ys, n, _, _, _, hf⟩ := hi k hk
        obtain ⟨v0, y0, k0, _, t0⟩ := hf 0 _ rfl
        obtain ⟨v1, y1, k1, _, t1⟩ := hf 1 _ rfl
        obtain ⟨v2, y2, k2, _, t2⟩ := hf 2 _ rfl
        obtain ⟨v3, y3, k3, _, t3⟩ := hf 3 _ rfl
        obtain ⟨z0, e0, _, w0⟩ := DataW.trod_int Try.underlying3 t0
        obtain ⟨z1, e1, _, w1⟩ := DataW.trod_int Try.underlying3 t1
        obtain ⟨z2, e2, _, w2⟩ := DataW.trod_int Try.underlying3 t2
        obtain ⟨z3, e3, _, w3⟩ := DataW.trod_int Try.underlying33 t3
        simp only [List.cons.injEq, and_true] at e0 e1 e2 e3
        subst e0 e1 e2 e3
        exact ⟨⟨z0, z1, z2, z3⟩, ⟨(int_bounds w1).2, (int_bounds w2).2⟩, fun _ => ⟨k0, k1, k2, k3⟩⟩
      · exact ⟨⟨0, 0, 0, 0⟩, ⟨by decide, by decide⟩, fun h => absurd h hk⟩
    obtain ⟨g, hfun⟩ : ∃ g : Nat → Call, ∀ k, (g k).Ok ∧ (k < m → W.cell? (a.add (k * 4)) = some (.int .i64 (g k).kind) ∧ W.cell? (a.add (k * 4 + 1)) = some (.int .i64 (g k).a) ∧ W.cell? (a.add (k * 4 + 2)) = some (.int .i64 (g k).b) ∧ W.cell? (a.add (k * 4 + 3)) = some (.int .i64 (g k).x)) :=
      ⟨fun k => Classical.choose (each k), fun k => Classical.choose_spec (each k)⟩
    clear each
    refine ⟨some a, len, m, g, rfl, by omega, fun hn => ?_, fun k => (hfun k).1⟩
    have h0 := ((hfun 0).2 (by omega)).1
    obtain ⟨b0, off, spot⟩ := a
    have hspot : spot = none := by
      have := World.cell?_spot h0
      simpa [Addr.add] using this
    subst hspot
    refine ⟨b0, off, rfl, ?_, fun k hk => ?_⟩
    · have := lt_of_cell h0
      simpa [Addr.add] using this
    · obtain ⟨q0, q1, q2, q3⟩ := (hfun k).2 (by omega)
      have ea : ∀ j : Nat, Addr.add ⟨b0, off, none⟩ j = ⟨b0, off + j, none⟩ := fun j => Go.WideShapes.add_plain b0 off j
      rw [ea] at q0 q1 q2 q3
      exact ⟨q0, by rw [Nat.add_assoc]; exact q1, by rw [Nat.add_assoc]; exact q2, by rw [Nat.add_assoc]; exact q3⟩
theorem holds {H : Type} {enc : TypeId × Value → H} {W : World} {base : Nat} {args : Array Value} {ds : List (DataW H)} {p : List MemPlace}
    (hval : ∀ (j : Nat) t v, Try.f4.params[j]? = some t → args[j]? = some v → Value.okWide Try.prog W .any base t v)
    (hA : DataW.TrodAll enc Try.prog W 0 (fun _ => true) true Try.f4.params.toList args.toList ds p) : Holds Try.prog 4 args W := by
  rw [Try.params4] at hA hval
  obtain ⟨v0, vs0, d0, ds0, p0, q0, hargs, rfl, rfl, h0, r0⟩ := trodAll_cons hA
  obtain ⟨rfl, rfl, rfl⟩ := trodAll_nil r0
  obtain rfl : args = #[v0] := by cases args; simp_all
  obtain ⟨A, na, ca, f, rfl, hna, hA1, hf1⟩ := open_acts (hval 0 41 v0 rfl rfl) h0
  exact walk W A na ca f hA1 hf1 (by unfold maxLen at hna; omega)
theorem readable : ∀ t, t ∈ Try.f4.params.toList → Try.prog.readableRec t = true ∧ t < Try.prog.types.size := by
  intro t ht
  rw [Try.params4] at ht
  have hm : t = 41 := by simp at ht; omega
  rcases hm with rfl
  all_goals exact ⟨by kernel_rfl, of_decide_eq_true (by kernel_rfl)⟩
theorem laid_met (os : Os) : laidMet Try.prog Rows.regionStatesRow.laid ((laidWorld os).forCall (fun _ _ => 0) ⟨#[], #[.slice none 0 0], []⟩).memory :=
  ⟨[], rfl, List.nodup_nil, fun _ _ h => by cases h⟩
theorem reads (os : Os) {H : Type} (enc : TypeId × Value → H) : ∃ places, DataW.whole enc Try.prog ((laidWorld os).forCall (fun _ _ => 0) ⟨#[], #[.slice none 0 0], []⟩).memory Try.f4.params.toList Rows.regionStatesSpec.vars false (#[.slice none 0 0] : Array Value).toList 8 = some ([.nil], [], places) :=
  ⟨[], by kernel_rfl⟩
theorem spec {H : Type} : ∀ ds : List (DataW H), ds.length = Try.f4.params.toList.length → Rows.regionStatesSpec.fn H (ds ++ []) = { results := [.lit (.bool true)], args := ds, vars := [] } := by
  intro ds h
  rw [Try.params4] at h
  simp only [List.append_nil]
  match ds, h with
  | [_], _ => rfl

set_option maxRecDepth 100000 in
theorem lifted (os : Os) (started : os.Started) (H : Type) (enc : TypeId × Value → H) (F : Stop.Interp) :
    ReturnsInHanded {} Try.checked os 4 .any ((OpenSpec.ofChange Rows.regionStatesSpec).preRow enc Try.prog Try.f4 Rows.regionStatesRow.domain false Rows.regionStatesRow.laid) (((OpenSpec.ofChange Rows.regionStatesSpec).at F).post enc Try.prog Try.f4 false true false false) := by
  obtain ⟨places, hx⟩ := reads os enc
  refine returnsInHanded_of_row (C := Try.checked) (s := OpenSpec.ofChange Rows.regionStatesSpec) own started (by kernel_rfl) Try.func4
    (witness_row_at (enc := enc) (C := Try.checked) false (laidWorld os) #[.slice none 0 0] rfl (by kernel_rfl) (by kernel_rfl) (by kernel_rfl)
      (OpenSpec.preRow_of_cond 8 hx (by kernel_rfl) (fun k hk => by cases hk) (by kernel_rfl) (laid_met os))) ?_
  intro W base args ds gs before hval hW _ _ _ hL _ _
  have hW' : DataW.Whole enc Try.prog Try.f4.params.toList Rows.regionStatesSpec.vars false W args.toList ds gs before := hW
  exact law_close (s := Rows.regionStatesSpec) rfl rfl Try.underlying4 spec laidOut readable hW' (by
    obtain ⟨p, q, hA, _⟩ := hW'
    exact holds hval hA)

theorem said : Rows.RegionStatesSaid :=
  OpenClaim.holds_of_cond 4 Try.f4 rfl rfl rfl rfl rfl rfl rfl ⟨rfl, rfl, rfl, rfl, rfl⟩ rfl rfl rfl rfl rfl (by kernel_rfl) Try.func4 (by kernel_rfl)
    (of_decide_eq_true (by kernel_rfl)) (by unfold Func.isWrapper; first | (rw [if_pos (by decide +kernel)]; kernel_rfl) | (rw [if_neg (by decide +kernel)]; exact ⟨rfl, rfl⟩))
    (fun os started H enc _ F => by rw [OpenClaim.pre_eq_preRow]; exact lifted os started H enc F)
end Go.Proofs.Ytjgjcpafdhocfaa.RegionStates
