/- BitsApart: two sets have nothing to do with one another, and lists are new memory, whatever numbers come in. Conditions: none but the row's own (the library's table lies as its text lays it). -/
import Derived.Test.YtbgemiapnnncaaaDoorL1
import Derived.Test.YtbgemiapnnncaaaDoorR1c
import Derived.Test.YtbgemiapnnncaaaDoorCard
namespace Go.Proofs.YtbgemiapnnncaaaDoor.BitsApart
set_option linter.unusedVariables false
open Go.RowKit Go.Gl Go.ChangeShapes Go.WideShapes Go.ChangeAt

theorem count_list (S : Nat → Bool) (n : Nat) : cntS S 0 (n : Int) n = (belowS S n).length := by
  have : ∀ m, m ≤ n → cntS S 0 (n : Int) m = (belowS S m).length := by
    intro m
    induction m with
    | zero => intro _; rfl
    | succ m ih =>
      intro hm
      rw [cntS_succ, belowS_succ, List.length_append, ih (by omega), show decide ((0 : Int) ≤ (m : Int) ∧ (m : Int) < (n : Int)) = true by simp; omega, Bool.and_true]
      cases S m <;> rfl
  exact this n (Nat.le_refl _)
theorem cntR_S {ws : List Nat} {n : Nat} (htop : ∀ j, n ≤ j → wbit ws j = false) (hn : n ≤ ws.length * 64) (f t : Int) : cntR ws f t = cntS (wbit ws) f t n := by
  unfold cntR
  exact cntS_far (n := n) (m := ws.length * 64) (fun j a _ => .inl (htop j a)) hn
theorem zs_u16 {zs : List Int} (h : ∀ z ∈ zs, (Lit.int .u16 z).wf = true) (k : Nat) : 0 ≤ zs.getD k 0 ∧ zs.getD k 0 ≤ 65535 := by
  rw [List.getD_eq_getElem?_getD]
  rcases Nat.lt_or_ge k zs.length with hk | hk
  · rw [List.getElem?_eq_getElem hk]
    have := h _ (List.getElem_mem hk)
    simpa [Lit.wf, IntKind.min, IntKind.max, IntKind.signed, IntKind.bits] using this
  · rw [List.getElem?_eq_none hk]; simp

theorem walk (W : World) (hT : Tab W) (A B : Option Addr) (na nb ca cb : Nat) (as_ bs_ : List Int) (hA : Sl W A na (fun k => .int .u16 (as_.getD k 0))) (hB : Sl W B nb (fun k => .int .u16 (bs_.getD k 0)))
    (ha : ∀ k, 0 ≤ as_.getD k 0 ∧ as_.getD k 0 ≤ 65535) (hb : ∀ k, 0 ≤ bs_.getD k 0 ∧ bs_.getD k 0 ≤ 65535) (hna : na ≤ 9223372036854775807) (hnb : nb ≤ 9223372036854775807) :
    Holds Tryd.prog 5 #[.slice A na ca, .slice B nb cb] W := by
  have HT := hide hT
  have HA := hide hA
  have HB := hide hB
  have Ha := hide ha
  have Hb := hide hb
  clear hT hA hB ha hb
  have hn := hide (new_any 70000 (by decide))
  unfold Holds
  go_enter Tryd.func5, Tryd.ntmps5
  go_wp2_with fail
  refine (awake_any W HT.out).mono ?_
  rintro e w0 ⟨rfl, hf0⟩
  go_wp2_with fail
  refine (hn.out _).mono ?_
  rintro e w1 ⟨bs, bw, rfl, hs1, hf1, hl1, hl2⟩
  go_wp2_with fail
  refine (hn.out _).mono ?_
  rintro e w2 ⟨ct, cw, rfl, ht2, hf2, hl3, hl4⟩
  have HS2 : Hid (BSet w2 bs bw 70000 (List.replicate ((70000 + 63) / 64) 0)) := hs1.fr hf2 (by simp) (by simp)
  have HT2 := hide ht2
  have HF2 : Hid (Fr [] W w2) := (hf0.trans_nil hf1).trans_nil hf2
  have s0 := hf0.size
  have s1 := hf1.size
  have s2 := hf2.size
  have z1 : W.heap.size ≤ bw := by omega
  have z2 : W.heap.size ≤ cw := by omega
  have n1 : bw ≠ cw := by have := hs1.row.lt; omega
  have n2 : bw ≠ ct := by have := hs1.row.lt; omega
  have n3 : bs ≠ cw := by have := hs1.set.lt; omega
  clear hs1 ht2 hf0 hf1 hf2 s0 s1 s2 hl1 hl2 hl3 hl4
  go_wp2_with fail
  go_loopw [9] (fun i wr => ∃ (k : Nat) (ws : List Nat), i = .int .i64 k ∧ k ≤ na ∧ BSet wr bs bw 70000 ws ∧ Fr [bw] w2 wr) (fun i _ => na - (intOf i).toNat)
  case atStart => exact ⟨0, _, rfl, Nat.zero_le _, HS2.out, Fr.refl _ _⟩
  case round =>
    obtain ⟨k, ws, rfl, hk, hs, hfr⟩ := hrel
    have HS := hide hs
    have HF := hide hfr
    have HW : Hid (Fr [bw] W wr) := (HF2.out.mono (fun x hx => by cases hx)).trans_same hfr
    clear hs hfr
    by_cases hlt : k < na ∧ k < 300
    · obtain ⟨hlt1, hlt2⟩ := hlt
      have hlt3 : (k : Int) < (na : Int) := by omega
      have hlt4 : (k : Int) < 300 := by omega
      obtain ⟨b, off, rfl, hb1, hc1⟩ := HA.out (by omega)
      have hc : wr.cell? ⟨b, off + k, none⟩ = some (.int .u16 (as_.getD k 0)) := (HW.out.cell (p := ⟨b, off + k, none⟩) hb1 (by simp; omega)).trans (hc1 k hlt1)
      obtain ⟨x1, x2⟩ := Ha.out k
      clear hc1
      generalize as_.getD k 0 = x at *
      go_wp2_with (go_at_call 10; refine (put_any HS.out _).mono ?_; rintro e w' ⟨c, er, ws', rfl, hb, hf, ht⟩)
      go_roundw
      case rel => exact ⟨k + 1, ws', by go_num, by omega, hb, HF.out.trans_same hf⟩
      case measure => simp [intOf]; omega
    · have hway : ¬ (k : Int) < (na : Int) ∨ ((k : Int) < (na : Int) ∧ ¬ (k : Int) < 300) := by omega
      clear hlt
      have HTr : Hid (Tab wr) := HT.out.fr HW.out (by have := HT.out.lt; simp; omega)
      have HT3 : Hid (BSet wr ct cw 70000 _) := HT2.out.fr HF.out (by simpa using n2.symm) (by simpa using n1.symm)
      rcases hway with w1 | ⟨w1, w2⟩
      all_goals
        go_wp2_with fail
        refine (list_any HS.out HTr.out).mono ?_
        rintro e w4 ⟨v1, rfl, hv1, hf4⟩
        have HV1 := hide hv1
        have HF4 := hide hf4
        have HS4 : Hid (BSet w4 bs bw 70000 ws) := HS.out.fr hf4 (by simp) (by simp)
        have HT4 : Hid (BSet w4 ct cw 70000 _) := HT3.out.fr hf4 (by simp) (by simp)
        have HW4 : Hid (Fr [bw] W w4) := HW.out.trans_nil hf4
        clear hv1 hf4
        generalize hL : below ws 70000 = l at *
        have HL := hide hL
        clear hL
        go_wp2_with fail
        go_loopw [11] (fun i wq => ∃ (k : Nat) (wt : List Nat), i = .int .i64 k ∧ k ≤ nb ∧ BSet wq ct cw 70000 wt ∧ Fr [cw] w4 wq) (fun i _ => nb - (intOf i).toNat)
        case atStart => exact ⟨0, _, rfl, Nat.zero_le _, HT4.out, Fr.refl _ _⟩
        case round =>
          obtain ⟨wq, rfl⟩ : ∃ wq : World, wq = wr := ⟨_, rfl⟩
          obtain ⟨k2, wt, rfl, hk2, hs, hfr⟩ := hrel
          have HTt := hide hs
          have HF5 := hide hfr
          have HW5 : Hid (Fr [bw, cw] W wq) := (HW4.out.mono (fun x hx => by simp at hx; simp [hx])).trans hfr (fun x hx => by simp at hx; simp [hx])
          clear hs hfr
          by_cases hlt : k2 < nb ∧ k2 < 300
          · obtain ⟨hlt1, hlt2⟩ := hlt
            have hlt3 : (k2 : Int) < (nb : Int) := by omega
            have hlt4 : (k2 : Int) < 300 := by omega
            obtain ⟨b, off, rfl, hb1, hc1⟩ := HB.out (by omega)
            have hc : wq.cell? ⟨b, off + k2, none⟩ = some (.int .u16 (bs_.getD k2 0)) := (HW5.out.cell (p := ⟨b, off + k2, none⟩) hb1 (by simp; omega)).trans (hc1 k2 hlt1)
            obtain ⟨x1, x2⟩ := Hb.out k2
            clear hc1
            generalize bs_.getD k2 0 = x at *
            go_wp2_with (go_at_call 10; refine (put_any HTt.out _).mono ?_; rintro e w' ⟨c, er, ws', rfl, hb, hf, ht⟩)
            go_roundw
            case rel => exact ⟨k2 + 1, ws', by go_num, by omega, hb, HF5.out.trans_same hf⟩
            case measure => simp [intOf]; omega
          · have hway2 : ¬ (k2 : Int) < (nb : Int) ∨ ((k2 : Int) < (nb : Int) ∧ ¬ (k2 : Int) < 300) := by omega
            clear hlt
            have HT6 : Hid (Tab wq) := HT.out.fr HW5.out (by have := HT.out.lt; simp; omega)
            have HS6 : Hid (BSet wq bs bw 70000 ws) := HS4.out.fr HF5.out (by simpa using n3) (by simpa using n1)
            rcases hway2 with w3 | ⟨w3, w4'⟩
            all_goals
              go_wp2_with fail
              refine (list_any HS6.out HT6.out).mono ?_
              rintro e w7 ⟨v2, rfl, hv2, hf7⟩
              rw [HL.out] at hv2
              have HF7 := hide hf7
              have HS7 : Hid (BSet w7 bs bw 70000 ws) := HS6.out.fr hf7 (by simp) (by simp)
              have HT7 : Hid (BSet w7 ct cw 70000 wt) := HTt.out.fr hf7 (by simp) (by simp)
              have HV7 := hide (own_fr (own_fr HV1.out HF5.out (fun g hg => by simpa using own_ne HV1.out HT4.out.row (by decide) g hg)) hf7 (fun g _ => by simp))
              have g1 : ∀ g, v1.ownBlock = some g → g < wq.heap.size := fun g hg => by
                rcases own_blk HV1.out with ⟨rfl, _⟩ | ⟨g', cap, cur, rfl, _, hb, _⟩
                · cases hg
                · injection hg with hg
                  subst hg
                  exact Nat.lt_of_lt_of_le hb.lt HF5.out.size
              have g2 := HS6.out.set.lt
              have g3 := HS6.out.row.lt
              have g4 := HTt.out.set.lt
              have g5 := HTt.out.row.lt
              have g6 := HT6.out.lt
              have hW7 : Hid (Fr [bw, cw] W w7) := HW5.out.trans_nil hf7
              obtain ⟨A2, c2, G, rfl, hm, _, hG, hblk⟩ := own_open hv2
              have HG := hide hG
              have HB2 := hide hblk
              have f1 : Hid (∀ b : Nat, b < wq.heap.size → b ∉ G) := fun b hb hx => by have := (HG.out _ hx).1; omega
              clear hv2 hf7 hG hblk
              unfold maxLen at hm
              go_wp2_with fail
              go_loopw [13] (fun i wq => ∃ (k : Nat), i = .int .i64 k ∧ k ≤ l.length ∧ Fr G w7 wq ∧ (0 < l.length → ∃ g cur, A2 = some ⟨g, 0, none⟩ ∧ G = [g] ∧ Blk wq g 3 cur ∧ l.length ≤ cur.size)) (fun i _ => l.length - (intOf i).toNat)
              case atStart => exact ⟨0, rfl, Nat.zero_le _, Fr.refl _ _, fun h => by
                obtain ⟨g, cur, h1, h2, h3, h4, _⟩ := HB2.out h
                exact ⟨g, cur, h1, h2, h3, h4⟩⟩
              case round =>
                obtain ⟨k3, rfl, hk3, hfr, hbk⟩ := hrel
                have HF8 := hide hfr
                have HB8 := hide hbk
                clear hfr hbk
                by_cases hlt : k3 < l.length
                · have hlt1 : (k3 : Int) < (l.length : Int) := by omega
                  obtain ⟨g, cur, rfl, hGg, hb, hc⟩ := HB8.out (by omega)
                  have HGg := hide hGg
                  obtain ⟨y, hy⟩ : ∃ y, cur[k3]? = some y := ⟨cur[k3], by simp⟩
                  have hcell : wr.cell? ⟨g, k3, none⟩ = some y := by rw [hb.cell, hy]
                  have hfz := hb.frozen k3
                  have HB9 := hide (hb.put k3 (.int .i64 (-1)))
                  clear hb hy hGg
                  go_wp2
                  exact ⟨⟨k3 + 1, by go_num, by omega, HF8.out.setCell (p := ⟨g, k3, none⟩) (.inl (by rw [HGg.out]; simp)) _, fun _ => ⟨g, _, rfl, HGg.out, HB9.out, by simpa using hc⟩⟩, by simp [intOf]; omega⟩
                · have hlt1 : ¬ (k3 : Int) < (l.length : Int) := by omega
                  have hG0 : ∀ x, x ∈ G → W.heap.size ≤ x := fun x hx => Nat.le_trans (HW5.out.size) (HG.out x hx).1
                  have HS9 : Hid (BSet wr bs bw 70000 ws) := HS7.out.fr HF8.out (f1.out _ g2) (f1.out _ g3)
                  have HT9 : Hid (BSet wr ct cw 70000 wt) := HT7.out.fr HF8.out (f1.out _ g4) (f1.out _ g5)
                  have HV9 := hide (own_fr HV7.out HF8.out (fun g hg => f1.out _ (g1 g hg)))
                  have HTb9 : Hid (Tab wr) := (HT6.out.fr HF7.out (by simp)).fr HF8.out (f1.out _ g6)
                  have HW9 : Hid (Below W.heap.size W wr) := (hW7.below (Nat.le_refl _) (fun x hx => by simp at hx; omega)).trans (HF8.out.below (Nat.le_trans hW7.size (Nat.le_refl _)) hG0)
                  go_wp2_with fail
                  refine (list_any HS9.out HTb9.out).mono ?_
                  rintro e w10 ⟨v3, rfl, hv3, hf10⟩
                  rw [HL.out] at hv3
                  obtain ⟨A1, c1, e1, hA1⟩ := sl_nums (own_fr HV9.out hf10 (fun g _ => by simp))
                  obtain ⟨A3, c3, e3, hA3⟩ := sl_nums hv3
                  subst e3
                  rw [e1]
                  have HA1 := hide hA1
                  have HA3 := hide hA3
                  have HT10 : Hid (BSet w10 ct cw 70000 wt) := HT9.out.fr hf10 (by simp) (by simp)
                  have HTb10 : Hid (Tab w10) := HTb9.out.fr hf10 (by simp)
                  have HW10 : Hid (Below W.heap.size W w10) := HW9.out.trans (hf10.below HW9.out.size (fun x hx => by cases hx))
                  have hle : (ints l).length ≤ 4611686018427387904 := by rw [ints_len, ← HL.out]; exact Nat.le_trans (below_le _ _) (by decide)
                  have HC : Hid (cntR wt 0 70000 = (below wt 70000).length) := by
                    have := cntR_S HT10.out.top (by have := HT10.out.len; omega) 0 70000
                    exact this.trans (count_list _ _)
                  clear hv3 hf10 hA1 hA3 e1
                  go_wp2_with fail
                  refine (same_any HA1.out HA3.out hle hle).mono ?_
                  rintro e w11 ⟨rfl, k11, rfl⟩
                  rw [show decide (ints l = ints l) = true from decide_eq_true rfl]
                  go_wp2_with fail
                  refine (count_any (HT10.out.drewN _) 0 70000 (by decide) (by decide) (by decide) (by decide)).mono ?_
                  rintro e w12 ⟨rfl, k12, rfl⟩
                  rw [HC.out]
                  go_wp2_with fail
                  refine (list_any (HT10.out.drewN _) (HTb10.out.drewN _)).mono ?_
                  rintro e w13 ⟨v4, rfl, hv4, hf13⟩
                  obtain ⟨A4, c4, G4, rfl, _⟩ := own_open hv4
                  have HW13 : Hid (Below W.heap.size W w13) := HW10.out.trans (hf13.from_drewN.below HW10.out.size (fun x hx => by cases hx))
                  clear hv4 hf13
                  generalize (below wt 70000).length = q
                  go_wp2_with fail
                  go_ret
                  exact ⟨rfl, HW13.out⟩

theorem holds {H : Type} {enc : TypeId × Value → H} {W : World} {base : Nat} {args : Array Value} {ds : List (DataW H)} {p : List MemPlace}
    (hval : ∀ (j : Nat) t v, Tryd.f5.params[j]? = some t → args[j]? = some v → Value.okWide Tryd.prog W .any base t v)
    (hA : DataW.TrodAll enc Tryd.prog W 0 (fun _ => true) true Tryd.f5.params.toList args.toList ds p) (hT : Tab W) : Holds Tryd.prog 5 args W := by
  rw [Tryd.params5] at hA hval
  obtain ⟨v0, vs0, d0, ds0, p0, q0, hargs, rfl, rfl, h0, r0⟩ := trodAll_cons hA
  obtain ⟨v1, vs1, d1, ds1, p1, q1, rfl, rfl, rfl, h1, r1⟩ := trodAll_cons r0
  obtain ⟨rfl, rfl, rfl⟩ := trodAll_nil r1
  obtain rfl : args = #[v0, v1] := by cases args; simp_all
  obtain ⟨A, na, ca, as_, rfl, hna, hA1, hw1⟩ := open_sl Tryd.underlying50 Tryd.underlying51 (by kernel_rfl) (hval 0 50 v0 rfl rfl) h0
  obtain ⟨B, nb, cb, bs_, rfl, hnb, hB1, hw2⟩ := open_sl Tryd.underlying50 Tryd.underlying51 (by kernel_rfl) (hval 1 50 v1 rfl rfl) h1
  exact walk W hT A B na nb ca cb as_ bs_ hA1 hB1 (zs_u16 hw1) (zs_u16 hw2) (by unfold maxLen at hna; omega) (by unfold maxLen at hnb; omega)
theorem readable : ∀ t, t ∈ Tryd.f5.params.toList → Tryd.prog.readableRec t = true ∧ t < Tryd.prog.types.size := by
  intro t ht
  rw [Tryd.params5] at ht
  have hm : t = 50 := by simp at ht; omega
  rcases hm with rfl
  all_goals exact ⟨by kernel_rfl, of_decide_eq_true (by kernel_rfl)⟩
theorem laid_met (os : Os) : laidMet Tryd.prog Rows.bitsApartRow.laid ((laidWorld os).forCall (fun _ _ => 0) ⟨#[], #[.slice none 0 0, .slice none 0 0], []⟩).memory :=
  laidMet_of_run' 8 (by kernel_rfl) (by kernel_rfl)
theorem reads (os : Os) {H : Type} (enc : TypeId × Value → H) : ∃ places, DataW.whole enc Tryd.prog ((laidWorld os).forCall (fun _ _ => 0) ⟨#[], #[.slice none 0 0, .slice none 0 0], []⟩).memory Tryd.f5.params.toList Rows.bitsApartSpec.vars false (#[.slice none 0 0, .slice none 0 0] : Array Value).toList 8 = some ([.nil, .nil], [], places) :=
  ⟨[], by kernel_rfl⟩
theorem spec {H : Type} : ∀ ds : List (DataW H), ds.length = Tryd.f5.params.toList.length → Rows.bitsApartSpec.fn H (ds ++ []) = { results := [.lit (.bool true)], args := ds, vars := [] } := by
  intro ds h
  rw [Tryd.params5] at h
  simp only [List.append_nil]
  match ds, h with
  | [_, _], _ => rfl

set_option maxRecDepth 100000 in
theorem lifted (os : Os) (started : os.Started) (H : Type) (enc : TypeId × Value → H) (F : Stop.Interp) :
    ReturnsInHanded {} Tryd.checked os 5 .any ((OpenSpec.ofChange Rows.bitsApartSpec).preRow enc Tryd.prog Tryd.f5 Rows.bitsApartRow.domain false Rows.bitsApartRow.laid) (((OpenSpec.ofChange Rows.bitsApartSpec).at F).post enc Tryd.prog Tryd.f5 false true false false) := by
  obtain ⟨places, hx⟩ := reads os enc
  refine returnsInHanded_of_row (C := Tryd.checked) (s := OpenSpec.ofChange Rows.bitsApartSpec) own started (by kernel_rfl) Tryd.func5
    (witness_row_at (enc := enc) (C := Tryd.checked) false (laidWorld os) #[.slice none 0 0, .slice none 0 0] rfl (by kernel_rfl) (by kernel_rfl) (by kernel_rfl)
      (OpenSpec.preRow_of_cond 8 hx (by kernel_rfl) (fun k hk => by cases hk) (by kernel_rfl) (laid_met os))) ?_
  intro W base args ds gs before hval hW _ _ _ hL _ _
  have hW' : DataW.Whole enc Tryd.prog Tryd.f5.params.toList Rows.bitsApartSpec.vars false W args.toList ds gs before := hW
  exact law_close (s := Rows.bitsApartSpec) rfl rfl Tryd.underlying4 spec laidOut readable hW' (by
    obtain ⟨p, q, hA, _⟩ := hW'
    exact holds hval hA (table hL))

theorem said : Rows.BitsApartSaid :=
  OpenClaim.holds_of_cond 5 Tryd.f5 rfl rfl rfl rfl rfl rfl rfl ⟨rfl, rfl, rfl, rfl, rfl⟩ rfl rfl rfl rfl rfl (by kernel_rfl) Tryd.func5 (by kernel_rfl)
    (of_decide_eq_true (by kernel_rfl)) (by unfold Func.isWrapper; first | (rw [if_pos (by decide +kernel)]; kernel_rfl) | (rw [if_neg (by decide +kernel)]; exact ⟨rfl, rfl⟩))
    (fun os started H enc _ F => by rw [OpenClaim.pre_eq_preRow]; exact lifted os started H enc F)

/-- No parameter wants a stand-in; the program's own looks are off. -/
theorem plain (f : FuncId) (fn : Func) (hf : Tryd.pinned.checked.prog.funcNamed "gleaner/gleanerlaw01.BitsApart" = some f) (hfn : Tryd.pinned.checked.prog.funcs[f]? = some fn) :
    false = Tryd.pinned.checked.prog.looks [] ∧ ∀ (j : Nat) t, fn.params[j]? = some t → Tryd.pinned.checked.prog.wantsStandIn t = false := by
  obtain rfl : f = 5 := Option.some.inj ((show Tryd.prog.funcNamed "gleaner/gleanerlaw01.BitsApart" = some 5 by kernel_rfl).symm.trans hf) |>.symm
  obtain rfl : fn = Tryd.f5 := (Option.some.inj (Tryd.func5.symm.trans hfn)).symm
  refine ⟨by kernel_rfl, fun j t ht => ?_⟩
  rw [Tryd.params5] at ht
  have hm : t = 50 := by have := Array.mem_of_getElem? ht; simp at this; omega
  rcases hm with rfl
  · exact (show Tryd.prog.wantsStandIn 50 = false by kernel_rfl)

/-- The card. -/
theorem card : Rows.BitsApartCardSaid :=
  Claim7.holds_tied_plain_at .later [] _ _ _ _ said (fun _ h => by cases h) (by kernel_rfl) (fun _ h => by cases h) bitsApart_row_tie rfl ⟨rfl, rfl⟩ (by kernel_rfl) rfl plain (by kernel_rfl)
end Go.Proofs.YtbgemiapnnncaaaDoor.BitsApart
