/- The walk of BitsPlays. -/
import Derived.Test.YtbgemiapnnncaaaDoorL1Ap
namespace Go.Proofs.YtbgemiapnnncaaaDoor.BitsPlays
set_option linter.unusedVariables false
open Go.RowKit Go.Gl Go.ChangeShapes Go.WideShapes Go.ChangeAt

/-- The script's calls lie there. -/
def Acts (w : World) (A : Option Addr) (n : Nat) (f : Nat → Int × Int × Int × Bool) : Prop :=
  0 < n → ∃ b off, A = some ⟨b, off, none⟩ ∧ b < w.heap.size ∧ ∀ k, k < n → w.cell? ⟨b, off + k * 4, none⟩ = some (.int .i64 (f k).1) ∧ w.cell? ⟨b, off + k * 4 + 1, none⟩ = some (.int .i64 (f k).2.1) ∧
    w.cell? ⟨b, off + k * 4 + 2, none⟩ = some (.int .i64 (f k).2.2.1) ∧ w.cell? ⟨b, off + k * 4 + 3, none⟩ = some (.bool (f k).2.2.2)
def i64 (x : Int) : Prop := -9223372036854775808 ≤ x ∧ x ≤ 9223372036854775807

/-- The next number, whichever it is. -/
noncomputable def theNext (S : Nat → Bool) (i : Int) : Int := Classical.epsilon (NextS S i)
theorem theNext_eq {S : Nat → Bool} {i r : Int} (h : NextS S i r) : r = theNext S i := nextS_one h (Classical.epsilon_spec (p := NextS S i) ⟨r, h⟩)
theorem quiet_draws {P : Program} {f : FuncId} {args : Array Value} {w : World} {v : Value} (h : Calls P f args w fun e w' => e = .returned v ∧ w = w') : Calls P f args w fun e w' => e = .returned v ∧ ∃ k, w' = w.drewN k :=
  h.mono fun e w' ⟨he, hw⟩ => ⟨he, 0, hw.symm⟩
/-- The two sets hold the same numbers. -/
def Both (w : World) (bs bw rs rb n : Nat) : Prop := ∃ ws L, BSet w bs bw n ws ∧ RSet w rs rb L ∧ L.length = n ∧ ∀ j, wbit ws j = rS L j

theorem Both.fr {w w' : World} {F : List Nat} {bs bw rs rb n : Nat} (h : Both w bs bw rs rb n) (hf : Fr F w w') (h1 : bs ∉ F) (h2 : bw ∉ F) (h3 : rs ∉ F) (h4 : rb ∉ F) : Both w' bs bw rs rb n := by
  obtain ⟨ws, L, a, b, c, d⟩ := h
  exact ⟨ws, L, a.fr hf h1 h2, b.fr hf h3 h4, c, d⟩
theorem both_turn {ws ws' : List Nat} {L L' : List Bool} {n : Nat} {i : Int} {on c c' : Bool} {er er' : Int} (h : ∀ j, wbit ws j = rS L j) (h1 : Turned ws n i on c er ws') (h2 : RTurned (rS L) n i on c' er' (rS L')) :
    c = c' ∧ er = er' ∧ ∀ j, wbit ws' j = rS L' j := by
  rcases h1 with ⟨a1, a2, a3, a4, a5⟩ | ⟨a1, a2, a3, a4⟩ <;> rcases h2 with ⟨b1, b2, b3, b4, b5⟩ | ⟨b1, b2, b3, b4⟩
  · refine ⟨by rw [a4, b4, h], by rw [a3, b3], fun j => by rw [a5, b5, h]⟩
  · exact absurd ⟨a1, a2⟩ b1
  · exact absurd ⟨b1, b2⟩ a1
  · refine ⟨by rw [a3, b3], by rw [a2, b2], fun j => by rw [a4, b4, h]⟩
theorem both_fill {ws ws' : List Nat} {L L' : List Bool} {n : Nat} {f t : Int} {on : Bool} {er er' : Int} (h : ∀ j, wbit ws j = rS L j) (h1 : Filled ws n f t on er ws') (h2 : RFilled (rS L) n f t on er' (rS L')) :
    er = er' ∧ ∀ j, wbit ws' j = rS L' j := by
  rcases h1 with ⟨a1, a2, a3, a4, a5⟩ | ⟨a1, a2, a4⟩ <;> rcases h2 with ⟨b1, b2, b3, b4, b5⟩ | ⟨b1, b2, b4⟩
  · exact ⟨by rw [a4, b4], fun j => by rw [a5, b5, h]⟩
  · exact absurd ⟨a1, a2, a3⟩ b1
  · exact absurd ⟨b1, b2, b3⟩ a1
  · exact ⟨by rw [a2, b2], fun j => by rw [a4, b4, h]⟩

set_option maxRecDepth 100000 in
theorem walk_big (W : World) (hT : Tab W) (n : Int) (hn : 5000 < n) (v : Value) : Holds Tryd.prog 3 #[.int .i64 n, v] W := by
  have HT := hide hT
  clear hT
  unfold Holds
  by_cases hb : 4194304 < n
  · have hm := hide (new_bad n (.inr hb))
    go_enter Tryd.func3, Tryd.ntmps3
    go_wp2_with fail
    refine (awake_any W HT.out).mono ?_
    rintro e w0 ⟨rfl, hf0⟩
    go_wp2_with fail
    refine (hm.out _).mono ?_
    rintro e w' ⟨rfl, rfl⟩
    go_wp2_with fail
    go_ret
    exact ⟨rfl, hf0.below_nil⟩
  · obtain ⟨m, rfl⟩ := Int.eq_ofNat_of_zero_le (show 0 ≤ n by omega)
    have hm := hide (new_any m (by omega))
    go_enter Tryd.func3, Tryd.ntmps3
    go_wp2_with fail
    refine (awake_any W HT.out).mono ?_
    rintro e w0 ⟨rfl, hf0⟩
    go_wp2_with fail
    refine (hm.out _).mono ?_
    rintro e w' ⟨bs, bw, rfl, _, hf1, _, _⟩
    have hb' : decide (4194304 < (m : Int)) = false := by simp; omega
    go_wp2_with fail
    go_ret
    exact ⟨ret_bool (by simp), (hf0.trans_nil hf1).below_nil⟩
set_option maxRecDepth 100000 in
theorem walk_neg (W : World) (hT : Tab W) (n : Int) (hn : n < 0) (v : Value) : Holds Tryd.prog 3 #[.int .i64 n, v] W := by
  have HT := hide hT
  clear hT
  unfold Holds
  have hm := hide (new_bad n (.inl hn))
  have hm2 := hide (r1new_bad n (.inl hn))
  go_enter Tryd.func3, Tryd.ntmps3
  go_wp2_with fail
  refine (awake_any W HT.out).mono ?_
  rintro e w0 ⟨rfl, hf0⟩
  go_wp2_with fail
  refine (hm.out _).mono ?_
  rintro e w' ⟨rfl, rfl⟩
  go_wp2_with fail
  refine (hm2.out _).mono ?_
  rintro e w' ⟨rfl, rfl⟩
  go_wp2_with fail
  go_ret
  exact ⟨rfl, hf0.below_nil⟩
set_option maxRecDepth 100000 in
set_option maxHeartbeats 3200000 in
theorem walk (W : World) (hT : Tab W) (n : Nat) (hn : n ≤ 5000) (A : Option Addr) (na ca : Nat) (f : Nat → Int × Int × Int × Bool) (hA : Acts W A na f) (hf : ∀ k, i64 (f k).1 ∧ i64 (f k).2.1 ∧ i64 (f k).2.2.1)
    (hna : na ≤ 9223372036854775807) : Holds Tryd.prog 3 #[.int .i64 (n : Int), .slice A na ca] W := by
  have HT := hide hT
  have HA := hide hA
  have Hf := hide hf
  clear hT hA hf
  unfold Holds
  have hm := hide (new_any n (by omega))
  have hm2 := hide (r1new_any n (by omega))
  go_enter Tryd.func3, Tryd.ntmps3
  go_wp2_with fail
  refine (awake_any W HT.out).mono ?_
  rintro e w0 ⟨rfl, hf0⟩
  go_wp2_with fail
  refine (hm.out _).mono ?_
  rintro e w1 ⟨bs, bw, rfl, hs1, hf1, hl1, hl2⟩
  go_wp2_with fail
  refine (hm2.out _).mono ?_
  rintro e w2 ⟨rs, rb, rfl, hr2, hf2, hl3, hl4⟩
  have s0 := hf0.size
  have s1 := hf1.size
  have s2 := hf2.size
  have z1 : W.heap.size ≤ bw := by omega
  have z2 : W.heap.size ≤ rb := by omega
  have HB2 : Hid (Both w2 bs bw rs rb n) := ⟨_, _, hs1.fr hf2 (by simp) (by simp), hr2, by simp, fun j => by
    rw [wbit_zero]
    unfold rS
    rw [List.getD_eq_getElem?_getD, List.getElem?_replicate]
    split <;> rfl⟩
  have HF2 : Hid (Fr [] W w2) := (hf0.trans_nil hf1).trans_nil hf2
  clear hs1 hr2 hf0 hf1 hf2 hl1 hl2 hl3 hl4 s0 s1 s2
  go_wp2_with fail
  go_loopw [11] (fun i wr => ∃ k : Nat, i = .int .i64 k ∧ k ≤ na ∧ k ≤ 200 ∧ Both wr bs bw rs rb n ∧ Fr [bw, rb] w2 wr) (fun i _ => na - (intOf i).toNat)
  case atStart => exact ⟨0, rfl, Nat.zero_le _, by omega, HB2.out, Fr.refl _ _⟩
  case round =>
    obtain ⟨k, rfl, hk, hk2, hb, hfr⟩ := hrel
    have HB := hide hb
    have HF := hide hfr
    have HW : Hid (Fr [bw, rb] W wr) := (HF2.out.mono (fun x hx => by cases hx)).trans_same hfr
    clear hb hfr
    by_cases hlt : k < na ∧ k < 200
    · obtain ⟨hlt1, hlt2⟩ := hlt
      have hlt3 : (k : Int) < (na : Int) := by omega
      have hlt4 : (k : Int) < 200 := by omega
      obtain ⟨b0, off, rfl, hb0, hcl⟩ := HA.out (by omega)
      obtain ⟨c0, c1, c2, c3⟩ := hcl k hlt1
      have tr : ∀ j, wr.cell? ⟨b0, j, none⟩ = W.cell? ⟨b0, j, none⟩ := fun j => HW.out.cell (p := ⟨b0, j, none⟩) hb0 (by simp; omega)
      rw [← tr] at c0 c1 c2 c3
      obtain ⟨g0, g1, g2⟩ := Hf.out k
      generalize (f k).1 = K at *
      generalize (f k).2.1 = a at *
      generalize (f k).2.2.1 = b at *
      generalize (f k).2.2.2 = on at *
      clear tr hcl
      obtain ⟨ws, L, hs, hr, hl, he⟩ := HB.out
      have nr1 : bs ≠ rs := hs.set.apart hr.set (by decide)
      have nr2 : bs ≠ rb := hs.set.apart hr.row (by decide)
      have nr3 : bw ≠ rs := hs.row.apart hr.set (by decide)
      have nr4 : bw ≠ rb := hs.row.apart hr.row (by decide)
      have q1 := hs.set.lt
      have q2 := hs.row.lt
      have q3 := hr.set.lt
      have q4 := hr.row.lt
      have NR : Hid (rs ≠ bw ∧ rb ≠ bw ∧ bs ≠ rb ∧ bw ≠ rb) := ⟨nr3.symm, nr4.symm, nr2, nr4⟩
      have HX : Hid (Fr [] wr (wr.alloc (.cells #[.int .i64 K, .int .i64 a, .int .i64 b, .bool on] 32))) := (Fr.refl _ _).alloc _
      have HFX : Hid (Fr [bw, rb] w2 (wr.alloc (.cells #[.int .i64 K, .int .i64 a, .int .i64 b, .bool on] 32))) := HF.out.trans_nil HX.out
      have HXB : Hid (Blk (wr.alloc (.cells #[.int .i64 K, .int .i64 a, .int .i64 b, .bool on] 32)) wr.heap.size 32 #[.int .i64 K, .int .i64 a, .int .i64 b, .bool on]) := Blk.new _ _ _
      have HS := hide (hs.fr HX.out (by simp) (by simp))
      have HR := hide (hr.fr HX.out (by simp) (by simp))
      have HTX : Hid (Tab (wr.alloc (.cells #[.int .i64 K, .int .i64 a, .int .i64 b, .bool on] 32))) := (HT.out.fr HW.out (by have := HT.out.lt; simp; omega)).fr HX.out (by simp)
      have HE := hide he
      have HL := hide hl
      have kt1 : -3 ≤ K.tmod 4 := by have := Int.lt_tmod_of_pos K (show (0 : Int) < 4 by decide); omega
      have kt2 : K.tmod 4 ≤ 3 := by have := Int.tmod_lt_of_pos K (show (0 : Int) < 4 by decide); omega
      clear hs hr hl he nr1 nr2 nr3 nr4
      rcases (show K.tmod 4 % 4 = 0 ∨ K.tmod 4 % 4 = 1 ∨ K.tmod 4 % 4 = 2 ∨ K.tmod 4 % 4 = 3 by omega) with hk0 | hk0 | hk0 | hk0
      · have CX : Hid ((wr.alloc (.cells #[.int .i64 K, .int .i64 a, .int .i64 b, .bool on] 32)).cell? ⟨wr.heap.size, 1, none⟩ = some (.int .i64 a)) := by
          show _ = _
          rw [HXB.out.cell]; rfl
        go_wp2_with fail
        refine (put_any HS.out _).mono ?_
        rintro e w3 ⟨c, er, ws', rfl, hs3, hf3, ht3⟩
        have HR3 : Hid (RSet w3 rs rb L) := HR.out.fr hf3 (by simpa using NR.out.1) (by simpa using NR.out.2.1)
        have cx : w3.cell? ⟨wr.heap.size, 1, none⟩ = some (.int .i64 a) := (hf3.cell (p := ⟨wr.heap.size, 1, none⟩) (by simp) (by simp; omega)).trans CX.out
        have HS3 := hide hs3
        have HF3 := hide hf3
        have HT3 := hide ht3
        clear hs3 hf3 ht3
        go_wp2_with fail
        refine (r1put_any HR3.out _).mono ?_
        rintro e w4 ⟨c', er', L', rfl, hr4, hl4, hf4, ht4⟩
        rw [HL.out] at ht4
        obtain ⟨rfl, rfl, hb4⟩ := both_turn HE.out HT3.out ht4
        have HB4 : Hid (Both w4 bs bw rs rb n) := ⟨ws', L', HS3.out.fr hf4 (by simpa using NR.out.2.2.1) (by simpa using NR.out.2.2.2), hr4, hl4.trans HL.out, hb4⟩
        have HF4 : Hid (Fr [bw, rb] w2 w4) := (HFX.out.trans HF3.out (fun x hx => by simp at hx; simp [hx])).trans hf4 (fun x hx => by simp at hx; simp [hx])
        clear hr4 hl4 hf4 ht4 hb4 cx
        go_wp2_with fail
        go_roundw
        case rel => exact ⟨k + 1, by go_num, by omega, by omega, HB4.out, HF4.out⟩
        case measure => simp [intOf]; omega
      · have CX : Hid ((wr.alloc (.cells #[.int .i64 K, .int .i64 a, .int .i64 b, .bool on] 32)).cell? ⟨wr.heap.size, 1, none⟩ = some (.int .i64 a)) := by
          show _ = _
          rw [HXB.out.cell]; rfl
        go_wp2_with fail
        refine (drop_any HS.out _).mono ?_
        rintro e w3 ⟨c, er, ws', rfl, hs3, hf3, ht3⟩
        have HR3 : Hid (RSet w3 rs rb L) := HR.out.fr hf3 (by simpa using NR.out.1) (by simpa using NR.out.2.1)
        have cx : w3.cell? ⟨wr.heap.size, 1, none⟩ = some (.int .i64 a) := (hf3.cell (p := ⟨wr.heap.size, 1, none⟩) (by simp) (by simp; omega)).trans CX.out
        have HS3 := hide hs3
        have HF3 := hide hf3
        have HT3 := hide ht3
        clear hs3 hf3 ht3
        go_wp2_with fail
        refine (r1drop_any HR3.out _).mono ?_
        rintro e w4 ⟨c', er', L', rfl, hr4, hl4, hf4, ht4⟩
        rw [HL.out] at ht4
        obtain ⟨rfl, rfl, hb4⟩ := both_turn HE.out HT3.out ht4
        have HB4 : Hid (Both w4 bs bw rs rb n) := ⟨ws', L', HS3.out.fr hf4 (by simpa using NR.out.2.2.1) (by simpa using NR.out.2.2.2), hr4, hl4.trans HL.out, hb4⟩
        have HF4 : Hid (Fr [bw, rb] w2 w4) := (HFX.out.trans HF3.out (fun x hx => by simp at hx; simp [hx])).trans hf4 (fun x hx => by simp at hx; simp [hx])
        clear hr4 hl4 hf4 ht4 hb4 cx
        go_wp2_with fail
        go_roundw
        case rel => exact ⟨k + 1, by go_num, by omega, by omega, HB4.out, HF4.out⟩
        case measure => simp [intOf]; omega
      · go_wp2_with fail
        generalize hwx : wr.alloc (.cells #[.int .i64 K, .int .i64 a, .int .i64 b, .bool on] 32) = wx at *
        have HWX := hide hwx
        have X1 : wx.cell? ⟨wr.heap.size, 1, none⟩ = some (.int .i64 a) := by rw [HXB.out.cell]; rfl
        have X2 : wx.cell? ⟨wr.heap.size, 2, none⟩ = some (.int .i64 b) := by rw [HXB.out.cell]; rfl
        have X3 : wx.cell? ⟨wr.heap.size, 3, none⟩ = some (.bool on) := by rw [HXB.out.cell]; rfl
        have XL : wr.heap.size < wx.heap.size := HXB.out.lt
        have XN : Hid (wr.heap.size ≠ bw ∧ wr.heap.size ≠ rb) := ⟨by omega, by omega⟩
        clear hwx c0 c1 c2 c3
        go_region_held3 (fun w' => w'.cell? ⟨wr.heap.size, 1, none⟩ = some (.int .i64 a) ∧ w'.cell? ⟨wr.heap.size, 2, none⟩ = some (.int .i64 b) ∧ w'.cell? ⟨wr.heap.size, 3, none⟩ = some (.bool on))
          (first | exact ⟨X1, X2, X3⟩ | exact ⟨(hf3.from_drew.cell (p := ⟨_, 1, none⟩) XL (by simpa using XN.out.1)).trans X1, (hf3.from_drew.cell (p := ⟨_, 2, none⟩) XL (by simpa using XN.out.1)).trans X2, (hf3.from_drew.cell (p := ⟨_, 3, none⟩) XL (by simpa using XN.out.1)).trans X3⟩ | exact ⟨(hf34.cell (p := ⟨_, 1, none⟩) XL (by simpa using XN.out)).trans X1, (hf34.cell (p := ⟨_, 2, none⟩) XL (by simpa using XN.out)).trans X2, (hf34.cell (p := ⟨_, 3, none⟩) XL (by simpa using XN.out)).trans X3⟩ | go_keep)
          (first | (go_at_call 14; refine (fill_any HS.out.drew a b on g1.1 g1.2 g2.1 g2.2).mono ?_; rintro e w3 ⟨er, ws', rfl, hs3, hf3, ht3⟩; have HR3 := hide (HR.out.fr hf3.from_drew (by simpa using NR.out.1) (by simpa using NR.out.2.1))) | (go_at_call 15; refine (r1fill_any HR3.out a b on).mono ?_; rintro e w4 ⟨er', L', rfl, hr4, hl4, hf4, ht4⟩; rw [HL.out] at ht4; obtain ⟨rfl, hb4⟩ := both_fill HE.out ht3 ht4; have hf34 : Fr [bw, rb] wx w4 := (hf3.from_drew.mono (G := [bw, rb]) (fun x hx => by simp at hx; simp [hx])).trans hf4 (fun x hx => by simp at hx; simp [hx])))
        have HB4 : Hid (Both w4 bs bw rs rb n) := ⟨ws', L', hs3.fr hf4 (by simpa using NR.out.2.2.1) (by simpa using NR.out.2.2.2), hr4, hl4.trans HL.out, hb4⟩
        have HF4 : Hid (Fr [bw, rb] w2 w4) := HFX.out.trans hf34 (fun x hx => .inl hx)
        clear hs3 hf3 ht3 hr4 hl4 hf4 ht4 hb4 hf34 X1 X2 X3
        go_wp2_with fail
        go_roundw
        case rel => exact ⟨k + 1, by go_num, by omega, by omega, HB4.out, HF4.out⟩
        case measure => simp [intOf]; omega
      · go_wp2_with fail
        generalize hwx : wr.alloc (.cells #[.int .i64 K, .int .i64 a, .int .i64 b, .bool on] 32) = wx at *
        have X1 : wx.cell? ⟨wr.heap.size, 1, none⟩ = some (.int .i64 a) := by rw [HXB.out.cell]; rfl
        have X2 : wx.cell? ⟨wr.heap.size, 2, none⟩ = some (.int .i64 b) := by rw [HXB.out.cell]; rfl
        have hfun : rS L = wbit ws := funext fun j => (HE.out j).symm
        have C1 : ∀ m, Calls Tryd.prog 16 #[.pointer (some ⟨bs, 0, none⟩), .int .i64 a] (wx.drewN m) fun e w' => e = .returned (.bool (inS (wbit ws) a)) ∧ ∃ k, w' = (wx.drewN m).drewN k := fun m => has_any (HS.out.drewN m) a
        have C2 : ∀ m, Calls Tryd.prog 17 #[.pointer (some ⟨rs, 0, none⟩), .int .i64 a] (wx.drewN m) fun e w' => e = .returned (.bool (inS (wbit ws) a)) ∧ ∃ k, w' = (wx.drewN m).drewN k := fun m => by
          have := quiet_draws (r1has_any (HR.out.drewN m) a)
          rw [hfun] at this; exact this
        have C3 : ∀ m, Calls Tryd.prog 18 #[.pointer (some ⟨bs, 0, none⟩), .int .i64 a] (wx.drewN m) fun e w' => e = .returned (.int .i64 (theNext (wbit ws) a)) ∧ ∃ k, w' = (wx.drewN m).drewN k := fun m =>
          (next_any (HS.out.drewN m) (HTX.out.drewN m) a).mono fun e w' ⟨r, he, hw, hr⟩ => ⟨by rw [he, theNext_eq hr], 0, hw.symm⟩
        have C4 : ∀ m, Calls Tryd.prog 19 #[.pointer (some ⟨rs, 0, none⟩), .int .i64 a] (wx.drewN m) fun e w' => e = .returned (.int .i64 (theNext (wbit ws) a)) ∧ ∃ k, w' = (wx.drewN m).drewN k := fun m =>
          (r1next_any (HR.out.drewN m) a).mono fun e w' ⟨r, he, hw, hr⟩ => ⟨by rw [hfun] at hr; rw [he, theNext_eq hr], 0, hw.symm⟩
        have C5 : ∀ m, Calls Tryd.prog 20 #[.pointer (some ⟨bs, 0, none⟩), .int .i64 a, .int .i64 b] (wx.drewN m) fun e w' => e = .returned (.int .i64 ((cntR ws a b : Nat) : Int)) ∧ ∃ k, w' = (wx.drewN m).drewN k := fun m =>
          count_any (HS.out.drewN m) a b g1.1 g1.2 g2.1 g2.2
        have C6 : ∀ m, Calls Tryd.prog 21 #[.pointer (some ⟨rs, 0, none⟩), .int .i64 a, .int .i64 b] (wx.drewN m) fun e w' => e = .returned (.int .i64 ((cntR ws a b : Nat) : Int)) ∧ ∃ k, w' = (wx.drewN m).drewN k := fun m => by
          have h := quiet_draws (r1count_any (HR.out.drewN m) a b g1.2)
          have hq : cntS (rS L) a b L.length = cntR ws a b := by
            rw [hfun, HL.out]
            exact (BitsApart.cntR_S HS.out.top (by have := HS.out.len; omega) a b).symm
          exact h.mono fun e w' ⟨he, hw⟩ => ⟨by rw [he, hq], hw⟩
        generalize inS (wbit ws) a = v1 at *
        generalize theNext (wbit ws) a = v2 at *
        generalize cntR ws a b = v3 at *
        have D1 := hide C1
        have D2 := hide C2
        have D3 := hide C3
        have D4 := hide C4
        have D5 := hide C5
        have D6 := hide C6
        have HB4 : Hid (∀ m, Both (wx.drewN m) bs bw rs rb n) := fun m => ⟨ws, L, HS.out.drewN m, HR.out.drewN m, HL.out, HE.out⟩
        clear C1 C2 C3 C4 C5 C6 hfun hwx c0 c1 c2 c3
        go_quiet ((first | (go_at_call 16; exact Calls.quiet_of (D1.out _)) | (go_at_call 17; exact Calls.quiet_of (D2.out _)) | (go_at_call 18; exact Calls.quiet_of (D3.out _)) | (go_at_call 19; exact Calls.quiet_of (D4.out _)) | (go_at_call 20; exact Calls.quiet_of (D5.out _)) | (go_at_call 21; exact Calls.quiet_of (D6.out _))))
        go_wp2_with fail
        go_roundw
        case rel => exact ⟨k + 1, by go_num, by omega, by omega, HB4.out _, HFX.out.drewN _⟩
        case measure => simp [intOf]; omega
    · have hway : ¬ (k : Int) < (na : Int) ∨ ((k : Int) < (na : Int) ∧ ¬ (k : Int) < 200) := by omega
      have HTr : Hid (Tab wr) := HT.out.fr HW.out (by have := HT.out.lt; simp; omega)
      obtain ⟨ws, L, hs, hr, hl, he⟩ := HB.out
      have HS := hide hs
      have HR := hide hr
      have HL := hide hl
      have hfun : Hid (belowS (rS L) n = below ws n) := by
        show _ = _
        rw [show rS L = wbit ws from funext fun j => (he j).symm]; rfl
      have hle : (ints (below ws n)).length ≤ 4611686018427387904 := by rw [ints_len]; exact Nat.le_trans (below_le _ _) (by omega)
      clear hlt hs hr hl he
      rcases hway with w1 | ⟨w1, w2⟩
      all_goals
        go_wp2_with fail
        have X0 : wr.cell? ⟨rs, 0, none⟩ = some (.slice (some ⟨rb, 0, none⟩) n n) := by rw [← HL.out]; exact HR.out.c0
        have XL := HR.out.set.lt
        go_region_held3 (fun w' => w'.cell? ⟨rs, 0, none⟩ = some (.slice (some ⟨rb, 0, none⟩) n n))
          (first | exact X0 | exact (hf3.from_drew.cell (p := ⟨rs, 0, none⟩) XL (by simp)).trans X0 | exact (hf34.cell (p := ⟨rs, 0, none⟩) XL (by simp)).trans X0 | exact ((hf34.drewN k5).cell (p := ⟨rs, 0, none⟩) XL (by simp)).trans X0 | go_keep)
          (first | (go_at_call 22; refine (len_any HS.out.drew).mono ?_; rintro e w' ⟨rfl, rfl⟩) | (go_at_call 24; refine (list_any HS.out.drew HTr.out).mono ?_; rintro e w3 ⟨v3, rfl, hv3, hf3⟩) | (go_at_call 25; refine (r1list_any (HR.out.fr hf3.from_drew (by simp) (by simp))).mono ?_; rintro e w4 ⟨v4, rfl, hv4, hf4⟩; have hf34 : Fr [] wr w4 := hf3.from_drew.trans_nil hf4; obtain ⟨A3, c3, e3, hs3⟩ := sl_nums (own_fr hv3 hf4 (fun g _ => by simp)); rw [HL.out, hfun.out] at hv4; obtain ⟨A4, c4, e4, hs4⟩ := sl_nums hv4; subst e3 e4) | (go_at_call 23; refine (same_any hs3 hs4 hle hle).mono ?_; rintro e w5 ⟨rfl, k5, rfl⟩))
        go_wp2_with fail
        go_ret
        exact ⟨ret_bool (by simp), ((HW.out.trans_nil hf34).drewN k5).below (Nat.le_refl _) (fun x hx => by simp at hx; omega)⟩

end Go.Proofs.YtbgemiapnnncaaaDoor.BitsPlays
