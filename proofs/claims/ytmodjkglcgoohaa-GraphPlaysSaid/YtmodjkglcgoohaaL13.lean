/- The statements of layer 13: the questions that each of them asks first. -/
import Derived.Test.YtmodjkglcgoohaaGs
import Derived.Test.YtmodjkglcgoohaaRd
import Derived.WalkKit
import Derived.BigQuiet
namespace Go.Proofs.Ytmodjkglcgoohaa
set_option linter.unusedVariables false
set_option linter.unusedSimpArgs false
open Go.RowKit Go.Gl Go.ChangeShapes Go.WideShapes Go.ChangeAt Go.Deep

def s1 : GS := doS 4 100 1 G0 0 ⟨1, 2, 1, 0, 0⟩
def s2 : GS := doS 4 100 1 s1 0 ⟨5, 0, 0, 0, 7⟩
def s3 : GS := doS 4 100 1 s2 0 ⟨6, 0, 0, 0, 0⟩
def s4 : GS := doS 4 100 1 s3 0 ⟨3, 0, 1, 0, 0⟩
theorem v1 : doV 4 100 1 G0 0 ⟨1, 2, 1, 0, 0⟩ = .agg #[.int .i64 0, .int .i64 0, .int .i64 0, .int .u64 0, .bool false] := by kernel_rfl
theorem v2 : doV 4 100 1 s1 0 ⟨5, 0, 0, 0, 7⟩ = .agg #[.int .i64 0, .int .i64 1, .int .i64 0, .int .u64 0, .bool false] := by kernel_rfl
theorem v3 : doV 4 100 1 s2 0 ⟨6, 0, 0, 0, 0⟩ = .agg #[.int .i64 0, .int .i64 2, .int .i64 0, .int .u64 0, .bool false] := by kernel_rfl
theorem v4 : doV 4 100 1 s3 0 ⟨3, 0, 1, 0, 0⟩ = .agg #[.int .i64 0, .int .i64 3, .int .i64 0, .int .u64 0, .bool false] := by kernel_rfl
theorem sh4 : shape s4 1 = [2, 1, 0, 2, 1, 0, 1, 7] := by kernel_rfl
theorem wo4 : words s4 1 = 4 := by kernel_rfl
theorem d4 : GDim 1 4 100 := ⟨by decide, by decide, by decide, by decide⟩
theorem gg0 : GGo 1 4 100 10 G0 := GGo.zero d4 (by decide)
theorem gg1 : GGo 1 4 100 9 s1 := gg0.do _ _
theorem gg2 : GGo 1 4 100 8 s2 := gg1.do _ _
theorem gg3 : GGo 1 4 100 7 s3 := gg2.do _ _
theorem gg4 : GGo 1 4 100 6 s4 := gg3.do _ _
theorem po (k a b c v : Int) (ha : -9223372036854775808 ≤ a ∧ a ≤ 9223372036854775807) (hb : -9223372036854775808 ≤ b ∧ b ≤ 9223372036854775807) : PoOk ⟨k, a, b, c, v⟩ := ⟨ha, hb⟩
abbrev Aw (W w : World) (tg : TG) (g : Nat) (S : Nat → Nat) (σ : GS) : Prop := Pr (fun w tg => GAt w tg g S 1 4 100 σ) (fun _ _ => True) W w tg (fun _ => (0, 0))
set_option maxRecDepth 100000 in
set_option maxHeartbeats 3200000 in
theorem awake13_any (W : World) : Calls Try.prog 7 #[] W fun e w' => e = .returned (.bool true) ∧ Fr [] W w' := by
  have HN : Hid (Calls Try.prog 9 #[.int .i64 1, .int .i64 4, .int .i64 100] W (GNew W 1 4 100)) := gnew_ok 1 4 100 (by decide) (by decide) d4 W
  go_enter Try.func7, Try.ntmps7
  go_wp2_with fail
  refine HN.out.mono ?_
  rintro e w1 ⟨g, S, tg, rfl, hq, hf, hn⟩
  have HP1 : Hid (Aw W w1 tg g S G0) := Pr.new1 hf hq hn
  have D1 := hide (HP1.out.do1 stabT gg0 0 ⟨1, 2, 1, 0, 0⟩ (po _ _ _ _ _ (by decide) (by decide)))
  unfold opV at D1
  rw [v1] at D1
  clear hq hf hn HN
  go_wp2_with fail
  refine D1.out.mono ?_
  rintro e w2 ⟨rfl, tg2, hp, _⟩
  have HX2 : Hid (Aw W (w2.alloc (.cells #[.int .i64 0, .int .i64 0, .int .i64 0, .int .u64 0, .bool false] 34)) tg2 g S s1) := hp.fr0 (stabG _ _ _ _ _ _) stabT ((Fr.refl _ _).alloc _)
  have HB2 : Hid (Blk (w2.alloc (.cells #[.int .i64 0, .int .i64 0, .int .i64 0, .int .u64 0, .bool false] 34)) w2.heap.size 34 #[.int .i64 0, .int .i64 0, .int .i64 0, .int .u64 0, .bool false]) := Blk.new _ _ _
  have HT2 : Hid ((tg2 w2.heap.size).1 = 0) := (hp.free (Nat.le_refl _)).1
  clear hp HP1 D1
  go_wp2_with fail
  generalize w2.alloc (.cells #[.int .i64 0, .int .i64 0, .int .i64 0, .int .u64 0, .bool false] 34) = x2 at *
  generalize w2.heap.size = b2 at *
  have D2 := hide (HX2.out.do1 stabT gg1 0 ⟨5, 0, 0, 0, 7⟩ (po _ _ _ _ _ (by decide) (by decide)))
  unfold opV at D2
  rw [v2] at D2
  refine D2.out.mono ?_
  rintro e w3 ⟨rfl, tg3, hp, hk⟩
  obtain ⟨k1, k2, _⟩ := hk _ _ _ HB2.out HT2.out rfl
  have HX3 : Hid (Aw W (w3.alloc (.cells #[.int .i64 0, .int .i64 1, .int .i64 0, .int .u64 0, .bool false] 34)) tg3 g S s2) := hp.fr0 (stabG _ _ _ _ _ _) stabT ((Fr.refl _ _).alloc _)
  have HB3 : Hid (Blk (w3.alloc (.cells #[.int .i64 0, .int .i64 1, .int .i64 0, .int .u64 0, .bool false] 34)) w3.heap.size 34 #[.int .i64 0, .int .i64 1, .int .i64 0, .int .u64 0, .bool false]) := Blk.new _ _ _
  have HB32 : Hid (Blk (w3.alloc (.cells #[.int .i64 0, .int .i64 1, .int .i64 0, .int .u64 0, .bool false] 34)) b2 34 #[.int .i64 0, .int .i64 0, .int .i64 0, .int .u64 0, .bool false]) := k1.alloc _
  have HT3 : Hid ((tg3 w3.heap.size).1 = 0 ∧ (tg3 b2).1 = 0) := ⟨(hp.free (Nat.le_refl _)).1, k2⟩
  clear hp hk k1 k2 HX2 HB2 HT2 D2
  go_wp2_with fail
  generalize w3.alloc (.cells #[.int .i64 0, .int .i64 1, .int .i64 0, .int .u64 0, .bool false] 34) = x3 at *
  generalize w3.heap.size = b3 at *
  have D3 := hide (HX3.out.do1 stabT gg2 0 ⟨6, 0, 0, 0, 0⟩ (po _ _ _ _ _ (by decide) (by decide)))
  unfold opV at D3
  rw [v3] at D3
  refine D3.out.mono ?_
  rintro e w4 ⟨rfl, tg4, hp, hk⟩
  obtain ⟨k1, k2, _⟩ := hk _ _ _ HB3.out HT3.out.1 rfl
  obtain ⟨j1, j2, _⟩ := hk _ _ _ HB32.out HT3.out.2 rfl
  have HX4 : Hid (Aw W w4 tg4 g S s3) := hp
  have HB4 : Hid (Blk w4 b3 34 #[.int .i64 0, .int .i64 1, .int .i64 0, .int .u64 0, .bool false]) := k1
  have HB42 : Hid (Blk w4 b2 34 #[.int .i64 0, .int .i64 0, .int .i64 0, .int .u64 0, .bool false]) := j1
  have HT4 : Hid ((tg4 b3).1 = 0 ∧ (tg4 b2).1 = 0) := ⟨k2, j2⟩
  clear hp hk k1 k2 j1 j2 HX3 HB3 HB32 HT3 D3
  have D4 := hide (HX4.out.do1 stabT gg3 0 ⟨3, 0, 1, 0, 0⟩ (po _ _ _ _ _ (by decide) (by decide)))
  unfold opV at D4
  rw [v4] at D4
  go_wp2_with fail
  refine D4.out.mono ?_
  rintro e w5 ⟨rfl, tg5, hp, hk⟩
  obtain ⟨k1, k2, _⟩ := hk _ _ _ HB4.out HT4.out.1 rfl
  obtain ⟨j1, j2, _⟩ := hk _ _ _ HB42.out HT4.out.2 rfl
  have HX5 : Hid (Aw W (w5.alloc (.cells #[.int .i64 0, .int .i64 3, .int .i64 0, .int .u64 0, .bool false] 34)) tg5 g S s4) := hp.fr0 (stabG _ _ _ _ _ _) stabT ((Fr.refl _ _).alloc _)
  have hb5 := k1.alloc (.cells #[.int .i64 0, .int .i64 3, .int .i64 0, .int .u64 0, .bool false] 34)
  have hb52 := j1.alloc (.cells #[.int .i64 0, .int .i64 3, .int .i64 0, .int .u64 0, .bool false] 34)
  have h3 : Blk (w5.alloc (.cells #[.int .i64 0, .int .i64 3, .int .i64 0, .int .u64 0, .bool false] 34)) w5.heap.size 34 #[.int .i64 0, .int .i64 3, .int .i64 0, .int .u64 0, .bool false] := Blk.new _ _ _
  obtain ⟨x5, hx5⟩ : ∃ x5, x5 = w5.alloc (.cells #[.int .i64 0, .int .i64 3, .int .i64 0, .int .u64 0, .bool false] 34) := ⟨_, rfl⟩
  obtain ⟨b5, hb5n⟩ : ∃ b5, b5 = w5.heap.size := ⟨_, rfl⟩
  have NB2 : b2 < w5.heap.size := j1.lt
  have NB3 : b3 < w5.heap.size := k1.lt
  have a0 := j1.cell 0
  have a1 := j1.cell 1
  have a2 := j1.cell 2
  have a3 := j1.cell 3
  have a4 := j1.cell 4
  have c0 := k1.cell 0
  have c1 := k1.cell 1
  have c2 := k1.cell 2
  have c3 := k1.cell 3
  have c4 := k1.cell 4
  simp only [List.getElem?_toArray, List.getElem?_cons_zero, List.getElem?_cons_succ] at a0 a1 a2 a3 a4 c0 c1 c2 c3 c4
  have SH := hide (HX5.out.shape1 gg4)
  have WO : Hid (∀ w', Fr [] (w5.alloc (.cells #[.int .i64 0, .int .i64 3, .int .i64 0, .int .u64 0, .bool false] 34)) w' → Calls Try.prog 16 #[.pointer (some ⟨g, 0, none⟩)] w' fun e w'' => e = .returned (.int .i64 4) ∧ Fr [] w' w'') := fun w' hf => by
    have := (HX5.out.fr0 (stabG _ _ _ _ _ _) stabT hf).words1 gg4
    rw [wo4] at this
    exact this
  rw [sh4] at SH
  have HW5 : Hid (Fr [] W (w5.alloc (.cells #[.int .i64 0, .int .i64 3, .int .i64 0, .int .u64 0, .bool false] 34))) := HX5.out.fr
  clear hp hk k1 k2 j1 j2 HX4 HB4 HB42 HT4 D4 hb5 hb52 h3 hx5 hb5n
  go_wp2_with fail
  refine SH.out.mono ?_
  rintro e w6 ⟨A6, n6, c6, G6, rfl, hl6, hf6, _⟩
  obtain rfl : n6 = 8 := hl6.len.symm
  have HL6 := hide hl6
  have HF6 := hide hf6
  have HLS : Hid (Sl (w6.alloc (.cells #[.int .u64 2, .int .u64 1, .int .u64 0, .int .u64 2, .int .u64 1, .int .u64 0, .int .u64 1, .int .u64 7] 32)) (some ⟨w6.heap.size, 0, none⟩) 8 (fun k => .int .u64 (([2, 1, 0, 2, 1, 0, 1, 7] : List Int).getD k 0))) := fun _ => ⟨w6.heap.size, 0, rfl, by simp, fun k hk => by
    rw [(Blk.new w6 32 _).cell]
    obtain rfl | rfl | rfl | rfl | rfl | rfl | rfl | rfl : k = 0 ∨ k = 1 ∨ k = 2 ∨ k = 3 ∨ k = 4 ∨ k = 5 ∨ k = 6 ∨ k = 7 := by omega
    all_goals rfl⟩
  have SM := hide (gsame_any (ca := c6) (cb := 8) (xs := [2, 1, 0, 2, 1, 0, 1, 7]) (ys := [2, 1, 0, 2, 1, 0, 1, 7]) (refSl (hl6.alloc (.cells #[.int .u64 2, .int .u64 1, .int .u64 0, .int .u64 2, .int .u64 1, .int .u64 0, .int .u64 1, .int .u64 7] 32))) HLS.out (by decide) (by decide))
  rw [show decide (([2, 1, 0, 2, 1, 0, 1, 7] : List Int) = [2, 1, 0, 2, 1, 0, 1, 7]) = true by simp] at SM
  have WO6 := hide (fun k => WO.out ((w6.alloc (.cells #[.int .u64 2, .int .u64 1, .int .u64 0, .int .u64 2, .int .u64 1, .int .u64 0, .int .u64 1, .int .u64 7] 32)).drewN k) (((hf6.alloc _).drewN k)))
  clear hl6 hf6 a0 a1 a2 a3 a4 c0 c1 c2 c3 c4 NB2 NB3 SH HX5 WO HLS
  go_wp2_with fail
  refine SM.out.mono ?_
  rintro e w7 ⟨rfl, q, rfl⟩
  go_wp2_with fail
  refine (WO6.out q).mono ?_
  rintro e w8 ⟨rfl, hf8⟩
  have HF8 := hide hf8
  clear hf8 WO6
  go_wp2_with fail
  go_ret
  exact ⟨rfl, ((HW5.out.trans_same HF6.out).alloc _).trans_same (HF8.out.from_drewN)⟩
/-- The numbers of an act: a thread's, and an operation's. -/
def kinds13 : Nat → IntKind := fun j => if j = 5 then .u64 else .i64
def kindsOp : Nat → IntKind := fun j => if j = 4 then .u64 else .i64
theorem op_fields : ∃ fs : Array Field, Try.prog.underlying 38 = some (.struct fs) ∧ oneCellFields Try.prog fs = true ∧ Try.prog.cellsOf 38 = fs.size ∧ fs.size = 5 ∧ ∀ (j : Nat) f, fs[j]? = some f → Try.prog.underlying f.type = some (.int (kindsOp j)) :=
  ⟨_, Try.underlying38, by kernel_rfl, by kernel_rfl, by kernel_rfl, by
    intro j f hf
    match j, hf with
    | 0, hf => simp at hf; subst hf; exact Try.underlying36
    | 1, hf => simp at hf; subst hf; exact Try.underlying3
    | 2, hf => simp at hf; subst hf; exact Try.underlying3
    | 3, hf => simp at hf; subst hf; exact Try.underlying3
    | 4, hf => simp at hf; subst hf; exact Try.underlying32
    | j + 5, hf => simp at hf⟩
theorem act_cells {H : Type} {enc : TypeId × Value → H} {w : World} {base : Nat} {spare : Nat → Bool} {held : Bool} {n : Nat} {cs : List Value} {y : DataW H × List MemPlace} (h : DataW.trod enc Try.prog w base spare held n 40 cs = some y) :
    ∀ j, j < 6 → ∃ z, cs[j]? = some (.int (kinds13 j) z) ∧ (Lit.int (kinds13 j) z).wf = true := by
  obtain ⟨fs, e1, e2, e3, e4, e5⟩ := op_fields
  obtain ⟨hl, h0, h1⟩ := cells_pair Try.underlying40 rfl rfl Try.underlying3 (by kernel_rfl) e1 e2 e3 (by rw [e4]; kernel_rfl) e5 h
  intro j hj
  rcases Nat.eq_zero_or_pos j with rfl | hp
  · exact h0
  · obtain ⟨z, hz, hw⟩ := h1 (j - 1) (by omega)
    have e : kindsOp (j - 1) = kinds13 j := by
      unfold kindsOp kinds13
      by_cases e : j = 5
      · subst e; rfl
      · rw [if_neg (by omega), if_neg e]
    rw [e] at hz hw
    exact ⟨z, by rw [show 1 + (j - 1) = j by omega] at hz; exact hz, hw⟩
def poOf (f : Nat → Nat → Int) (i : Nat) : Po := ⟨f i 1, f i 2, f i 3, f i 4, f i 5⟩
theorem i64_wf {z : Int} (h : (Lit.int .i64 z).wf = true) : -9223372036854775808 ≤ z ∧ z ≤ 9223372036854775807 := int_bounds h
theorem poOk {f : Nat → Nat → Int} {n i : Nat} (h : ∀ i j, i < n → j < 6 → (Lit.int (kinds13 j) (f i j)).wf = true) (hi : i < n) : PoOk (poOf f i) := ⟨int_bounds (h i 2 hi (by decide)), int_bounds (h i 3 hi (by decide))⟩
set_option maxRecDepth 100000 in
set_option maxHeartbeats 3200000 in
theorem heavy13_any {W : World} {A : Option Addr} {na ca : Nat} {f : Nat → Nat → Int} (hA : Recs W A na 6 kinds13 f) (hna : na ≤ maxLen) (w : World) (hw : Fr [] W w) :
    Calls Try.prog 8 #[.slice A na ca] w fun e w' => (∃ b, e = .returned (.bool b)) ∧ Fr [] w w' := by
  have HA := hide hA
  have HW := hide hw
  have hna' : na ≤ 9223372036854775807 := by unfold maxLen at hna; omega
  clear hA hw hna
  go_enter Try.func8, Try.ntmps8
  go_wp2_with fail
  go_loopw [3, 4] (fun s i wr => ∃ (k : Nat) (x : Int), i = .int .i64 k ∧ s = .int .i64 x ∧ k ≤ na ∧ Fr [] w wr) (fun _ i _ => na - (intOf i).toNat)
  case atStart => exact ⟨0, 0, rfl, rfl, Nat.zero_le _, Fr.refl _ _⟩
  case round =>
    obtain ⟨k, x, rfl, rfl, hk, hf⟩ := hrel
    have HF := hide hf
    clear hf
    by_cases hlt : k < na
    · have hlt3 : (k : Int) < (na : Int) := by omega
      obtain ⟨b0, off, rfl, hb0, hcl⟩ := HA.out (by omega)
      have tr : ∀ j, wr.cell? ⟨b0, j, none⟩ = W.cell? ⟨b0, j, none⟩ := fun j => (HW.out.trans_same HF.out).cell (p := ⟨b0, j, none⟩) hb0 (by simp)
      have c1 : W.cell? ⟨b0, off + (k * 6 + 1), none⟩ = some (.int .i64 (f k 1)) := hcl k hlt 1 (by decide)
      have c2 : W.cell? ⟨b0, off + (k * 6 + 2), none⟩ = some (.int .i64 (f k 2)) := hcl k hlt 2 (by decide)
      have c3 : W.cell? ⟨b0, off + (k * 6 + 3), none⟩ = some (.int .i64 (f k 3)) := hcl k hlt 3 (by decide)
      rw [← tr, ← Nat.add_assoc] at c1 c2 c3
      generalize f k 1 = K at *
      generalize f k 2 = a at *
      generalize f k 3 = b at *
      clear tr hcl
      by_cases hK : K = 1
      · subst hK
        go_wp2_with fail
        go_quiet (fail)
        have HF2 : Hid (Fr [] w (wr.drewN nq)) := HF.out.drewN nq
        go_wp2_with fail
        go_roundw
        case rel => exact ⟨k + 1, _, by go_num, rfl, by omega, HF2.out⟩
        case measure => simp [intOf]; omega
      · have hK' : (K == 1) = false := by simpa using hK
        go_wp2_with fail
        go_roundw
        case rel => exact ⟨k + 1, x, by go_num, rfl, by omega, HF.out⟩
        case measure => simp [intOf]; omega
    · go_wp2_with fail
      go_ret
      exact ⟨⟨_, rfl⟩, HF.out⟩
end Go.Proofs.Ytmodjkglcgoohaa
