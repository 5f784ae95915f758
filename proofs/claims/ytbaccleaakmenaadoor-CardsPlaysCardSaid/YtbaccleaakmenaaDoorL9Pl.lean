/- The walk of CardsPlays. -/
import Derived.Test.YtbaccleaakmenaaDoorL9
import Derived.Test.YtbaccleaakmenaaDoorR9
import Derived.Test.YtbaccleaakmenaaDoorCard
namespace Go.Proofs.YtbaccleaakmenaaDoor.CardsPlays
set_option linter.unusedVariables false
open Go.RowKit Go.Gl Go.ChangeShapes Go.WideShapes Go.ChangeAt Go.Deep

/-- The script's calls lie there. -/
def Acts (w : World) (A : Option Addr) (n : Nat) (f : Nat → Int × Int) : Prop :=
  0 < n → ∃ b off, A = some ⟨b, off, none⟩ ∧ b < w.heap.size ∧ ∀ k, k < n → w.cell? ⟨b, off + k * 2, none⟩ = some (.int .i64 (f k).1) ∧ w.cell? ⟨b, off + k * 2 + 1, none⟩ = some (.int .i64 (f k).2)
/-- The two tables hold the same cards. -/
def Both (w : World) (tb bs bw rs rb n : Nat) : Prop := ∃ ws L, Ct w tb bs bw n ws ∧ Dt w rs rb L ∧ L.length = n ∧ ∀ j, wbit ws j = rS L j
theorem Both.drewN {w : World} {tb bs bw rs rb n : Nat} (h : Both w tb bs bw rs rb n) (k : Nat) : Both (w.drewN k) tb bs bw rs rb n := by
  obtain ⟨ws, L, a, b, c, d⟩ := h
  exact ⟨ws, L, a.drewN k, b.drewN k, c, d⟩
theorem Both.fr0 {w w' : World} {tb bs bw rs rb n : Nat} (h : Both w tb bs bw rs rb n) (hf : Fr [] w w') : Both w' tb bs bw rs rb n := by
  obtain ⟨ws, L, a, b, c, d⟩ := h
  exact ⟨ws, L, a.fr0 hf, b.fr0 hf, c, d⟩
theorem both_turn {ws ws' : List Nat} {L L' : List Bool} {n : Nat} {i : Int} {on c c' : Bool} {er er' : Int} (h : ∀ j, wbit ws j = rS L j) (h1 : Turned ws n i on c er ws') (h2 : RTurned (rS L) n i on c' er' (rS L')) :
    c = c' ∧ er = er' ∧ ∀ j, wbit ws' j = rS L' j := by
  rcases h1 with ⟨a1, a2, a3, a4, a5⟩ | ⟨a1, a2, a3, a4⟩ <;> rcases h2 with ⟨b1, b2, b3, b4, b5⟩ | ⟨b1, b2, b3, b4⟩
  · refine ⟨by rw [a4, b4, h], by rw [a3, b3], fun j => by rw [a5, b5, h]⟩
  · exact absurd ⟨a1, a2⟩ b1
  · exact absurd ⟨b1, b2⟩ a1
  · refine ⟨by rw [a3, b3], by rw [a2, b2], fun j => by rw [a4, b4, h]⟩

/-- A geometry of so many cards and nothing else. -/
def only (n : Int) : Geo := ⟨0, 0, 0, 0, n, 0⟩
set_option maxRecDepth 100000 in
theorem walk_mid (W : World) (hT : Tab W) (n : Int) (h1 : 3000 < n) (h2 : n ≤ 4194304) (v : Value) : Holds Tryd.prog 3 #[.int .i64 n, v] W := by
  have HT := hide hT
  clear hT
  unfold Holds
  go_enter Tryd.func3, Tryd.ntmps3
  go_wp2_with fail
  refine (awake9_any W HT.out).mono ?_
  rintro e w0 ⟨rfl, hf0⟩
  have HF := hide hf0
  clear hf0
  go_wp2_with fail
  go_ret
  exact ⟨rfl, (HF.out.alloc _).below_nil⟩
set_option maxRecDepth 100000 in
theorem walk_bad (W : World) (hT : Tab W) (n : Int) (hn : n < 0 ∨ 4194304 < n) (v : Value) : Holds Tryd.prog 3 #[.int .i64 n, v] W := by
  have HT := hide hT
  have HN : Hid (∀ w, Calls Tryd.prog 7 #[.agg #[.int .i64 0, .int .i64 0, .int .i64 0, .int .i64 0, .int .i64 n, .int .i64 0]] w fun e w' => e = .returned (.tuple #[.pointer none, .int .i64 20]) ∧ Fr [] w w') := cnew_bad (only n) hn
  have HR : Hid (∀ w, Calls Tryd.prog 8 #[.agg #[.int .i64 0, .int .i64 0, .int .i64 0, .int .i64 0, .int .i64 n, .int .i64 0]] w fun e w' => e = .returned (.tuple #[.pointer none, .int .i64 20]) ∧ Fr [] w w') := r9new_bad (only n) hn
  clear hT
  unfold Holds
  rcases hn with h | h
  all_goals
    go_enter Tryd.func3, Tryd.ntmps3
    go_wp2_with fail
    refine (awake9_any W HT.out).mono ?_
    rintro e w0 ⟨rfl, hf0⟩
    have HF := hide hf0
    clear hf0
    have hb := Blk.new w0 25 #[.int .i64 0, .int .i64 0, .int .i64 0, .int .i64 0, .int .i64 n, .int .i64 0]
    have HB := hide hb
    clear hb
    go_wp2_with fail
    refine (HN.out _).mono ?_
    rintro e w1 ⟨rfl, hf1⟩
    have hb := HB.out.fr hf1 (by simp)
    have k0 := hb.cell 0
    have k1 := hb.cell 1
    have k2 := hb.cell 2
    have k3 := hb.cell 3
    have k4 := hb.cell 4
    have k5 := hb.cell 5
    have HF1 : Hid (Fr [] W w1) := (HF.out.alloc _).trans_same hf1
    clear hf1 hb
    go_wp2_with fail
    refine (HR.out _).mono ?_
    rintro e w2 ⟨rfl, hf2⟩
    have HF2 : Hid (Fr [] W w2) := HF1.out.trans_same hf2
    clear hf2 k0 k1 k2 k3 k4 k5
    go_wp2_with fail
    go_ret
    exact ⟨rfl, HF2.out.below_nil⟩
set_option maxRecDepth 100000 in
set_option maxHeartbeats 6400000 in
theorem walk (W : World) (hT : Tab W) (n : Nat) (hn : n ≤ 3000) (A : Option Addr) (na ca : Nat) (f : Nat → Int × Int) (hA : Acts W A na f) (hna : na ≤ 9223372036854775807) : Holds Tryd.prog 3 #[.int .i64 (n : Int), .slice A na ca] W := by
  have HT := hide hT
  have HA := hide hA
  have HN : Hid (∀ w, Calls Tryd.prog 7 #[.agg #[.int .i64 0, .int .i64 0, .int .i64 0, .int .i64 0, .int .i64 (n : Int), .int .i64 0]] w (CtNew w n)) := cnew_any (only n) n (by omega) rfl
  have HR : Hid (∀ w, Calls Tryd.prog 8 #[.agg #[.int .i64 0, .int .i64 0, .int .i64 0, .int .i64 0, .int .i64 (n : Int), .int .i64 0]] w (DtNew w n)) := r9new_any (only n) n (by omega) rfl
  clear hT hA
  unfold Holds
  go_enter Tryd.func3, Tryd.ntmps3
  go_wp2_with fail
  refine (awake9_any W HT.out).mono ?_
  rintro e w0 ⟨rfl, hf0⟩
  have HF := hide hf0
  clear hf0
  have HB := hide (Blk.new w0 25 #[.int .i64 0, .int .i64 0, .int .i64 0, .int .i64 0, .int .i64 (n : Int), .int .i64 0])
  go_wp2_with fail
  refine (HN.out _).mono ?_
  rintro e w1 ⟨tb, bs, bw, rfl, hc, hf1, hl0, hl1, hl2⟩
  have hb := HB.out.fr hf1 (by simp)
  have k0 := hb.cell 0
  have k1 := hb.cell 1
  have k2 := hb.cell 2
  have k3 := hb.cell 3
  have k4 := hb.cell 4
  have k5 := hb.cell 5
  have HF0 : Hid (Fr [] W (w0.alloc (.cells #[.int .i64 0, .int .i64 0, .int .i64 0, .int .i64 0, .int .i64 (n : Int), .int .i64 0] 25))) := HF.out.alloc _
  have HF1 : Hid (Fr [] W w1) := HF0.out.trans_same hf1
  have HC1 := hide hc
  have HZ1 : Hid (W.heap.size ≤ bw) := Nat.le_trans HF0.out.size hl2
  clear hf1 hb hc hl0 hl1 hl2
  go_wp2_with fail
  refine (HR.out _).mono ?_
  rintro e w2 ⟨rs, rb, rfl, hd, hf2, hl3, hl4⟩
  have HF2 : Hid (Fr [] W w2) := HF1.out.trans_same hf2
  have HZ2 : Hid (W.heap.size ≤ rb) := Nat.le_trans HF1.out.size hl4
  have HB2 : Hid (Both w2 tb bs bw rs rb n) := ⟨_, _, HC1.out.fr0 hf2, hd, by simp, fun j => by
    rw [wbit_zero]
    unfold rS
    rw [List.getD_eq_getElem?_getD, List.getElem?_replicate]
    split <;> rfl⟩
  clear hf2 hd hl3 hl4 k0 k1 k2 k3 k4 k5
  go_wp2_with fail
  go_loopw [10] (fun i wr => ∃ k : Nat, i = .int .i64 k ∧ k ≤ na ∧ k ≤ 200 ∧ Both wr tb bs bw rs rb n ∧ Fr [bw, rb] w2 wr) (fun i _ => na - (intOf i).toNat)
  case atStart => exact ⟨0, rfl, Nat.zero_le _, by omega, HB2.out, Fr.refl _ _⟩
  case round =>
    obtain ⟨k, rfl, hk, hk2, hb, hfr⟩ := hrel
    have HB := hide hb
    have HF := hide hfr
    have HW : Hid (Fr [bw, rb] W wr) := (HF2.out.mono (fun x hx => by cases hx)).trans_same hfr
    clear hb hfr
    by_cases hlt : k < na ∧ k < 200
    · obtain ⟨hlt1, hlt2⟩ := hlt
      have hlt3 : (k : Int) < (na : Int) := by omega
      have hlt4 : (k : Int) < 200 := by omega
      obtain ⟨b0, off, rfl, hb0, hcl⟩ := HA.out (by omega)
      obtain ⟨c0, c1⟩ := hcl k hlt1
      have tr : ∀ j, wr.cell? ⟨b0, j, none⟩ = W.cell? ⟨b0, j, none⟩ := fun j => HW.out.cell (p := ⟨b0, j, none⟩) hb0 (by have := HZ1.out; have := HZ2.out; simp; omega)
      rw [← tr] at c0 c1
      generalize (f k).1 = K at *
      generalize (f k).2 = a at *
      clear tr hcl
      obtain ⟨ws, L, hs, hr, hl, he⟩ := HB.out
      have q2 := hs.set.row.lt
      have q4 := hr.row.lt
      have NR : Hid (rs ≠ bw ∧ rb ≠ bw ∧ tb ≠ rb ∧ bs ≠ rb ∧ bw ≠ rb) := ⟨(hs.set.row.apart hr.set (by decide)).symm, (hs.set.row.apart hr.row (by decide)).symm, hs.tab.apart hr.row (by decide), hs.set.set.apart hr.row (by decide), hs.set.row.apart hr.row (by decide)⟩
      have HX : Hid (Fr [] wr (wr.alloc (.cells #[.int .i64 K, .int .i64 a] 35))) := (Fr.refl _ _).alloc _
      have HFX : Hid (Fr [bw, rb] w2 (wr.alloc (.cells #[.int .i64 K, .int .i64 a] 35))) := HF.out.trans_nil HX.out
      have HXB : Hid (Blk (wr.alloc (.cells #[.int .i64 K, .int .i64 a] 35)) wr.heap.size 35 #[.int .i64 K, .int .i64 a]) := Blk.new _ _ _
      have HS := hide (hs.fr0 HX.out)
      have HR := hide (hr.fr0 HX.out)
      have HE := hide he
      have HL := hide hl
      have kt1 : -2 ≤ K.tmod 3 := by have := Int.lt_tmod_of_pos K (show (0 : Int) < 3 by decide); omega
      have kt2 : K.tmod 3 ≤ 2 := by have := Int.tmod_lt_of_pos K (show (0 : Int) < 3 by decide); omega
      have CX : Hid ((wr.alloc (.cells #[.int .i64 K, .int .i64 a] 35)).cell? ⟨wr.heap.size, 1, none⟩ = some (.int .i64 a)) := by
        show _ = _
        rw [HXB.out.cell]; rfl
      clear hs hr hl he
      rcases (show K.tmod 3 % 3 = 0 ∨ K.tmod 3 % 3 = 1 ∨ K.tmod 3 % 3 = 2 by omega) with hk0 | hk0 | hk0
      focus
        go_wp2_with fail
        refine (cdirty_any HS.out _).mono ?_
        rintro e w3 ⟨c, er, ws', rfl, hs3, hf3, ht3⟩
        have HR3 : Hid (Dt w3 rs rb L) := HR.out.fr hf3 (by simpa using NR.out.1) (by simpa using NR.out.2.1)
        have cx : w3.cell? ⟨wr.heap.size, 1, none⟩ = some (.int .i64 a) := (hf3.cell (p := ⟨wr.heap.size, 1, none⟩) (by simp) (by simp; omega)).trans CX.out
        have HS3 := hide hs3
        have HF3 := hide hf3
        have HT3 := hide ht3
        clear hs3 hf3 ht3
        go_wp2_with fail
        refine (r9set_any HR3.out _ _).mono ?_
        rintro e w4 ⟨c', er', L', rfl, hr4, hl4, hf4, ht4⟩
        rw [HL.out] at ht4
        obtain ⟨rfl, rfl, hb4⟩ := both_turn HE.out HT3.out ht4
        have cx4 : w4.cell? ⟨wr.heap.size, 1, none⟩ = some (.int .i64 a) := (hf4.cell (p := ⟨wr.heap.size, 1, none⟩) (lt_of_cell cx) (by simp; omega)).trans cx
        have HB4 : Hid (Both w4 tb bs bw rs rb n) := ⟨ws', L', HS3.out.fr hf4 (by simpa using NR.out.2.2.1) (by simpa using NR.out.2.2.2.1) (by simpa using NR.out.2.2.2.2), hr4, hl4.trans HL.out, hb4⟩
        have HF4 : Hid (Fr [bw, rb] w2 w4) := (HFX.out.trans HF3.out (fun x hx => by simp at hx; simp [hx])).trans hf4 (fun x hx => by simp at hx; simp [hx])
        clear hr4 hl4 hf4 ht4 hb4 cx
        go_wp2_with fail
      rotate_left
      focus
        go_wp2_with fail
        refine (cclean_any HS.out _).mono ?_
        rintro e w3 ⟨c, er, ws', rfl, hs3, hf3, ht3⟩
        have HR3 : Hid (Dt w3 rs rb L) := HR.out.fr hf3 (by simpa using NR.out.1) (by simpa using NR.out.2.1)
        have cx : w3.cell? ⟨wr.heap.size, 1, none⟩ = some (.int .i64 a) := (hf3.cell (p := ⟨wr.heap.size, 1, none⟩) (by simp) (by simp; omega)).trans CX.out
        have HS3 := hide hs3
        have HF3 := hide hf3
        have HT3 := hide ht3
        clear hs3 hf3 ht3
        go_wp2_with fail
        refine (r9set_any HR3.out _ _).mono ?_
        rintro e w4 ⟨c', er', L', rfl, hr4, hl4, hf4, ht4⟩
        rw [HL.out] at ht4
        obtain ⟨rfl, rfl, hb4⟩ := both_turn HE.out HT3.out ht4
        have cx4 : w4.cell? ⟨wr.heap.size, 1, none⟩ = some (.int .i64 a) := (hf4.cell (p := ⟨wr.heap.size, 1, none⟩) (lt_of_cell cx) (by simp; omega)).trans cx
        have HB4 : Hid (Both w4 tb bs bw rs rb n) := ⟨ws', L', HS3.out.fr hf4 (by simpa using NR.out.2.2.1) (by simpa using NR.out.2.2.2.1) (by simpa using NR.out.2.2.2.2), hr4, hl4.trans HL.out, hb4⟩
        have HF4 : Hid (Fr [bw, rb] w2 w4) := (HFX.out.trans HF3.out (fun x hx => by simp at hx; simp [hx])).trans hf4 (fun x hx => by simp at hx; simp [hx])
        clear hr4 hl4 hf4 ht4 hb4 cx
        go_wp2_with fail
      rotate_left
      focus
        go_wp2_with fail
        generalize hwx : wr.alloc (.cells #[.int .i64 K, .int .i64 a] 35) = w4 at *
        have cx4 : w4.cell? ⟨wr.heap.size, 1, none⟩ = some (.int .i64 a) := CX.out
        have HB4 : Hid (Both w4 tb bs bw rs rb n) := ⟨ws, L, HS.out, HR.out, HL.out, HE.out⟩
        have HF4 : Hid (Fr [bw, rb] w2 w4) := HFX.out
        clear hwx
      all_goals
        clear c0 c1 HS HR HE HL CX HXB HFX HX
        obtain ⟨ws, L, hs, hr, hl, he⟩ := HB4.out
        have hd0 := hr.c0
        have D1 : Hid (∀ m, Calls Tryd.prog 12 #[.pointer (some ⟨tb, 0, none⟩), .int .i64 a] (w4.drewN m) fun e w' => e = .returned (.bool (inB ws a)) ∧ ∃ k, w' = (w4.drewN m).drewN k) := fun m => cis_any (hs.drewN m) a
        have HTop := hide hs.set.top
        rw [hl] at hd0
        by_cases ha0 : 0 ≤ a
        · by_cases ha1 : a < (n : Int)
          · obtain ⟨I, rfl⟩ := Int.eq_ofNat_of_zero_le ha0
            have hcw := hr.cw (k := I) (by omega)
            have hin : inB ws (I : Int) = rS L I := by rw [← he I]; unfold inB; simp
            rw [hin] at D1
            generalize rS L I = x at *
            have hxx : (x != x) = false := by simp
            clear hs hr hl he hin
            go_quiet ((go_at_call 12; exact Calls.quiet_of (D1.out _)))
            go_wp2_with fail
            go_roundw
            case rel => exact ⟨k + 1, by go_num, by omega, by omega, HB4.out.drewN _, HF4.out.drewN _⟩
            case measure => simp [intOf]; omega
          · have ha2 : decide (a < (n : Int)) = false := by simp; omega
            have hin : inB ws a = false := by unfold inB; rw [HTop.out a.toNat (by omega), Bool.and_false]
            rw [hin] at D1
            clear hs hr hl he hin ha1
            go_quiet ((go_at_call 12; exact Calls.quiet_of (D1.out _)))
            go_wp2_with fail
            go_roundw
            case rel => exact ⟨k + 1, by go_num, by omega, by omega, HB4.out.drewN _, HF4.out.drewN _⟩
            case measure => simp [intOf]; omega
        · have ha2 : decide (0 ≤ a) = false := by simp; omega
          have hin : inB ws a = false := by unfold inB; rw [ha2, Bool.false_and]
          rw [hin] at D1
          clear hs hr hl he hin ha0
          go_quiet ((go_at_call 12; exact Calls.quiet_of (D1.out _)))
          go_wp2_with fail
          go_roundw
          case rel => exact ⟨k + 1, by go_num, by omega, by omega, HB4.out.drewN _, HF4.out.drewN _⟩
          case measure => simp [intOf]; omega
    · have hway : ¬ (k : Int) < (na : Int) ∨ ((k : Int) < (na : Int) ∧ ¬ (k : Int) < 200) := by omega
      have HTr : Hid (Tab wr) := HT.out.fr HW.out (by have := HT.out.lt; have := HZ1.out; have := HZ2.out; simp; omega)
      obtain ⟨ws, L, hs, hr, hl, he⟩ := HB.out
      have HS := hide hs
      have HR := hide hr
      have HL := hide hl
      have hfun : Hid (belowS (rS L) n = below ws n) := by
        show _ = _
        rw [show rS L = wbit ws from funext fun j => (he j).symm]; rfl
      have hle : (ints (below ws n)).length ≤ 4611686018427387904 := by rw [ints_len]; exact Nat.le_trans (below_le _ _) (by omega)
      clear hlt hs hr hl he
      rcases hway with w1 | ⟨w1, w2⟩
      all_goals
        go_wp2_with (first | (go_at_call 14; refine (clist_any HS.out HTr.out).mono ?_; rintro e w3 ⟨v3, rfl, hv3, hf3⟩) | (go_at_call 15; refine (r9list_any (HR.out.fr0 hf3)).mono ?_; rintro e w4 ⟨v4, rfl, hv4, hf4⟩; have hf34 : Fr [] wr w4 := hf3.trans_same hf4; obtain ⟨A3, c3, e3, hs3⟩ := sl_nums (own_fr hv3 hf4 (fun g _ => by simp)); rw [HL.out, hfun.out] at hv4; obtain ⟨A4, c4, e4, hs4⟩ := sl_nums hv4; subst e3 e4) | (go_at_call 13; refine (same_any hs3 hs4 hle hle).mono ?_; rintro e w5 ⟨rfl, k5, rfl⟩))
        go_ret
        exact ⟨ret_bool (by simp), ((HW.out.trans_nil hf34).drewN k5).below (Nat.le_refl _) (fun x hx => by have := HZ1.out; have := HZ2.out; simp at hx; omega)⟩
end Go.Proofs.YtbaccleaakmenaaDoor.CardsPlays
