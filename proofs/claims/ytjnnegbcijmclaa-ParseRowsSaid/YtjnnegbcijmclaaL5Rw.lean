/- ParseRows: what was made and filled one behind the other is gone through as it was made, whatever comes in. Conditions: none but the row's own. -/
import Derived.Test.YtjnnegbcijmclaaL5
import Derived.Test.YtjnnegbcijmclaaCard0
import Derived.Test.YtjnnegbcijmclaaBl
namespace Go.Proofs.Ytjnnegbcijmclaa.ParseRows
set_option linter.unusedVariables false
open Go.RowKit Go.Gl Go.ChangeShapes Go.WideShapes Go.ChangeAt Go.Deep

/-- What the round's writing leaves, whichever it was. -/
structure Wrote (f f' : Nat → Nat) (a s : Nat) (h : Hd) : Prop where
  grew : Grew f f' a s
  head : atH 2000 f' (a : Int) = h ∧ atE 2000 f' (a : Int) = 0
  size : h.size = (s : Int)
  kind : (Hd.of (f' a)).size = (s : Int) ∧ ((Hd.of (f' a)).kind = 1 ∨ (Hd.of (f' a)).kind = 2)
theorem wrote_make (f : Nat → Nat) {a s p : Nat} (h1 : 1 ≤ s ∧ s ≤ 1048576) (hp : p < s) (ha : a < 2000) : Wrote f (upd (updRow f a s (fun _ => 0)) a (objW s p)) a s (objH s p) := by
  have e := upd_at (updRow f a s (fun _ => 0)) a (objW s p)
  obtain ⟨a1, a2⟩ := at_in (n := 2000) (f := upd (updRow f a s (fun _ => 0)) a (objW s p)) (k := a) ha
  rw [e, of_objW h1 hp] at a1 a2
  exact ⟨grew_make f h1.1, ⟨a1, a2⟩, rfl, by rw [e, of_objW h1 hp]; exact ⟨rfl, .inl rfl⟩⟩
theorem wrote_fill (f : Nat → Nat) {a s : Nat} (h1 : 1 ≤ s ∧ s ≤ 1048576) (ha : a < 2000) : Wrote f (upd f a (fillW s)) a s (fillH s) := by
  have e := upd_at f a (fillW s)
  obtain ⟨a1, a2⟩ := at_in (n := 2000) (f := upd f a (fillW s)) (k := a) ha
  rw [e, of_fillW h1] at a1 a2
  exact ⟨grew_fill f h1.1, ⟨a1, a2⟩, rfl, by rw [e, of_fillW h1]; exact ⟨rfl, .inr rfl⟩⟩
/-- Where the loop stands. -/
structure At (f : Nat → Nat) (k a : Nat) (acc : List Int) : Prop where
  row : IsRow f 0 acc a
  rest : ∀ j, a ≤ j → f j = 0
  le : a ≤ 30 * k
theorem At.next {f f' : Nat → Nat} {k a s : Nat} {acc : List Int} {h : Hd} (g : At f k a acc) (hw : Wrote f f' a s h) (h1 : 1 ≤ s) (h2 : s ≤ 30) : At f' (k + 1) (a + s) (acc ++ [(a : Int)]) :=
  ⟨(g.row.same hw.grew.low).snoc h1 hw.kind.1 hw.kind.2, fun j hj => by rw [hw.grew.high j hj]; exact g.rest j (by omega), by have := g.le; omega⟩

set_option maxRecDepth 100000 in
set_option maxHeartbeats 3200000 in
theorem walk (W : World) (A : Option Addr) (na ca : Nat) (xs : Nat → Int) (hA : Sl W A na (fun k => .int .u8 (xs k))) (hx : ∀ k, 0 ≤ xs k ∧ xs k < 256) (hna : na ≤ 9223372036854775807)
    (B : Option Addr) (nb cb : Nat) (bs : Nat → Bool) (hB : Sl W B nb (fun k => .bool (bs k))) (hnb : nb ≤ 9223372036854775807) :
    Holds Try.prog 4 #[.slice A na ca, .slice B nb cb] W := by
  have HA := hide hA
  have HX := hide hx
  have HB := hide hB
  clear hA hx hB
  obtain ⟨i0, hi, hz0, hz1, hz2⟩ := info_parts Try.info_int
  have hn := hide (anew_any 2000 (by decide))
  unfold Holds
  go_enter Try.func4, Try.ntmps4
  go_wp2_with fail
  refine (awake_any W).mono ?_
  rintro e w0 ⟨rfl, hf0⟩
  go_wp2_with fail
  refine (hn.out _).mono ?_
  rintro e w1 ⟨ab, aw, rfl, hs, hf, hlb, hlw⟩
  have HS := hide hs
  have HF : Hid (Fr [] W w1) := hf0.trans_nil hf
  have s0 := hf0.size
  have z1 : W.heap.size ≤ ab := by omega
  have z2 : W.heap.size ≤ aw := by omega
  have q1 := hs.set.lt
  have q2 := hs.row.lt
  clear hs hf hf0 hlb hlw s0
  go_wp2_with fail
  go_loopw [9, 7, 8] (fun i t v wr => ∃ (k a : Nat) (acc : List Int) (f : Nat → Nat) (c : Int), i = .int .i64 k ∧ t = .int .i64 a ∧ k ≤ na ∧ k ≤ 60 ∧ At f k a acc ∧ wr.ownsRow w1.heap.size 3 1 v acc.length (vals acc) ∧ Ar wr ab aw 2000 f c ∧ Fr [ab, aw] w1 wr) (fun i _ _ _ => na - (intOf i).toNat)
  case atStart => exact ⟨0, 0, [], _, _, rfl, rfl, Nat.zero_le _, by omega, ⟨rfl, fun j _ => rfl, by omega⟩, World.ownsRow_nil _ _ _ _, HS.out, Fr.refl _ _⟩
  case round =>
    obtain ⟨k, a, acc, f, c, rfl, rfl, hk, hk2, hat, hown, har, hfr⟩ := hrel
    have HT := hide hat
    have HO := hide hown
    have HR := hide har
    have HG := hide hfr
    have HW : Hid (Fr [ab, aw] W wr) := (HF.out.mono (fun x hx => by cases hx)).trans_same hfr
    have hacc : acc.length ≤ 1800 := by have := hat.row.le; have := hat.le; omega
    have ha18 : a ≤ 1800 := by have := hat.le; omega
    clear hat hown har hfr
    by_cases hlt : k < na ∧ k < 60
    · obtain ⟨hlt1, hlt2⟩ := hlt
      have ha17 : a ≤ 1770 := by have := HT.out.le; omega
      have hlt3 : (k : Int) < (na : Int) := by omega
      have hlt4 : (k : Int) < 60 := by omega
      obtain ⟨b, off, rfl, hb1, hc1⟩ := HA.out (by omega)
      have hc : wr.cell? ⟨b, off + k, none⟩ = some (.int .u8 (xs k)) := (HW.out.cell (p := ⟨b, off + k, none⟩) hb1 (by simp; omega)).trans (hc1 k hlt1)
      obtain ⟨x0, x1⟩ := HX.out k
      clear hc1
      generalize xs k = x at *
      obtain ⟨m, hm⟩ : ∃ m : Nat, x % 30 = (m : Int) := Int.eq_ofNat_of_zero_le (Int.emod_nonneg x (by decide))
      have hm' : x.tmod 30 = (m : Int) := by rw [Int.tmod_eq_emod_of_nonneg x0]; exact hm
      have hm30 : (m : Int) < 30 := by rw [← hm]; exact Int.emod_lt_of_pos x (by decide)
      obtain ⟨S, hS⟩ : ∃ S : Nat, (m : Int) + 1 = (S : Int) := ⟨m + 1, by omega⟩
      obtain ⟨a2, ha2⟩ : ∃ a2 : Nat, (a : Int) + (S : Int) = (a2 : Int) := ⟨a + S, by omega⟩
      obtain ⟨P, hP, hP'⟩ : ∃ P : Nat, (S : Int) / 2 = (P : Int) ∧ (S : Int).tdiv 2 = (P : Int) := ⟨S / 2, by omega, by rw [Int.tdiv_eq_ediv_of_nonneg (by omega)]; omega⟩
      have hS1 : 1 ≤ S ∧ S ≤ 30 := by omega
      have ha2' : a2 = a + S := by omega
      have HWM := hide (wrote_make f (a := a) (s := S) (p := P) (by omega) (by omega) (by omega))
      have HWF := hide (wrote_fill f (a := a) (s := S) (by omega) (by omega))
      have HMk := hide (make_in (n := 2000) (I := a) (S := S) (P := P) f (by omega) (by omega) (by omega))
      have HFl := hide (fill_in (n := 2000) (A := a) (B := a2) f (by omega) (by omega) (by omega))
      have HFb : Hid (bndE 2000 (a : Int) (a2 : Int) = 0) := bndE_in (by omega) (by omega)
      have HE2 : Hid (a2 - a = S ∧ a2 = a + S) := ⟨by omega, ha2'⟩
      clear ha2'
      have hbw : (k < nb ∧ bs k = true) ∨ (k < nb ∧ bs k = false) ∨ ¬ (k : Int) < (nb : Int) := by
        by_cases h : k < nb
        · cases bs k
          · exact .inr (.inl ⟨h, rfl⟩)
          · exact .inl ⟨h, rfl⟩
        · exact .inr (.inr (by omega))
      go_wp2_with (at_builtin; refine wpList_append_own _ rfl _ _ 43 rfl w1.heap.size 3 i0 (.int .i64 0) 1 8 Try.underlying43 hi hz0 hz1 hz2 rfl (by decide) _ _ _ rfl (HO.out.alloc _) ⟨_, 0, none⟩ 1 1 [.int .i64 (a : Int)] rfl rfl (one_at _ _ _) ?c2 ?c3 ?c4 ?c5 ?_)
      case c2 => first | rfl | (intro u hu; simp at hu; subst hu; rfl)
      case c3 => unfold maxLen; omega
      case c4 => omega
      case c5 => have := HG.out.size; simp; omega
      intro v' w4 hown4 hgr4 _
      have HO4 : Hid (w4.ownsRow w1.heap.size 3 1 v' (acc ++ [(a : Int)]).length (vals (acc ++ [(a : Int)]))) := by
        rw [vals_app, List.length_append]; exact hown4
      have HF4 : Hid (Fr [ab, aw] w1 w4) := own_grown (HG.out.alloc _) HO.out hgr4
      have HR4 := hide ((HR.out.fr ((Fr.refl [] _).alloc (.cells #[.int .i64 (a : Int)] 3)) (by simp) (by simp)).fr (grown_fr hgr4) (own_far HO.out q1) (own_far HO.out q2))
      have HW4 : Hid (Fr [ab, aw] W w4) := (HF.out.mono (fun x hx => by cases hx)).trans_same HF4.out
      clear hown4 hgr4 hc
      have hmk := pmake_any HR4.out (a : Int) (S : Int) (P : Int) (by omega)
      rw [HMk.out.1, HMk.out.2] at hmk
      have HMK := hide hmk
      have hfl := pfill_any HR4.out (a : Int) (a2 : Int)
      rw [HFl.out, HFb.out, HE2.out.1] at hfl
      have HFL := hide hfl
      clear hmk hfl
      rcases hbw with ⟨g1, g2⟩ | ⟨g1, g2⟩ | g1
      · obtain ⟨b', off', rfl, hb2, hc2⟩ := HB.out (by omega)
        have hcb : w4.cell? ⟨b', off' + k, none⟩ = some (.bool true) := by
          rw [← g2]
          exact (HW4.out.cell (p := ⟨b', off' + k, none⟩) hb2 (by simp; omega)).trans (hc2 k g1)
        have g3 : (k : Int) < (nb : Int) := by omega
        clear hc2 g2
        go_wp2_with fail
        refine HFL.out.mono ?_
        rintro e w5 ⟨c5, rfl, ha5, hf5⟩
        have HR5 := hide ha5
        have HO5 := hide (own_fr HO4.out hf5 (fun g hg hx => by
          have h1 := own_ne HO4.out HR4.out.set (by decide) g hg
          have h2 := own_ne HO4.out HR4.out.row (by decide) g hg
          simp at hx
          omega))
        have HF5 := hide (HF4.out.trans_same hf5)
        have HN := hide (HT.out.next HWF.out hS1.1 hS1.2)
        have HH := hide HWF.out.head
        clear ha5 hf5
        go_wp2_with fail
        refine (pat_any HR5.out (a : Int)).mono ?_
        rintro e w6 ⟨c6, rfl, ha6, hf6⟩
        rw [HH.out.1, HH.out.2]
        unfold fillH Hd.val
        simp only
        have HR6 := hide (ha6.fr ((Fr.refl [] _).alloc (.cells #[.int .i64 2, .int .i64 (S : Int), .int .i64 0, .int .i64 0, .int .i64 0] 46)) (by simp) (by simp))
        have HO6 := hide ((own_fr HO5.out hf6 (fun g hg hx => by
          have h1 := own_ne HO5.out HR5.out.set (by decide) g hg
          simp at hx
          omega)).alloc (.cells #[.int .i64 2, .int .i64 (S : Int), .int .i64 0, .int .i64 0, .int .i64 0] 46))
        have HF6 := hide ((HF5.out.trans hf6 (fun x hx => by simp at hx; simp [hx])).alloc (.cells #[.int .i64 2, .int .i64 (S : Int), .int .i64 0, .int .i64 0, .int .i64 0] 46))
        clear ha6 hf6
        go_wp2_with fail
        go_roundw
        case rel => exact ⟨k + 1, a2, acc ++ [(a : Int)], _, c6, by go_num, by go_num, by omega, by omega, by rw [HE2.out.2]; exact HN.out, HO6.out, HR6.out, HF6.out⟩
        case measure => simp [intOf]; omega
      · obtain ⟨b', off', rfl, hb2, hc2⟩ := HB.out (by omega)
        have hcb : w4.cell? ⟨b', off' + k, none⟩ = some (.bool false) := by
          rw [← g2]
          exact (HW4.out.cell (p := ⟨b', off' + k, none⟩) hb2 (by simp; omega)).trans (hc2 k g1)
        have g3 : (k : Int) < (nb : Int) := by omega
        clear hc2 g2
        go_wp2_with fail
        refine HMK.out.mono ?_
        rintro e w5 ⟨c5, rfl, ha5, hf5⟩
        have HR5 := hide ha5
        have HO5 := hide (own_fr HO4.out hf5 (fun g hg hx => by
          have h1 := own_ne HO4.out HR4.out.set (by decide) g hg
          have h2 := own_ne HO4.out HR4.out.row (by decide) g hg
          simp at hx
          omega))
        have HF5 := hide (HF4.out.trans_same hf5)
        have HN := hide (HT.out.next HWM.out hS1.1 hS1.2)
        have HH := hide HWM.out.head
        clear ha5 hf5
        go_wp2_with fail
        refine (pat_any HR5.out (a : Int)).mono ?_
        rintro e w6 ⟨c6, rfl, ha6, hf6⟩
        rw [HH.out.1, HH.out.2]
        unfold objH Hd.val
        simp only
        have HR6 := hide (ha6.fr ((Fr.refl [] _).alloc (.cells #[.int .i64 1, .int .i64 (S : Int), .int .i64 (P : Int), .int .i64 0, .int .i64 0] 46)) (by simp) (by simp))
        have HO6 := hide ((own_fr HO5.out hf6 (fun g hg hx => by
          have h1 := own_ne HO5.out HR5.out.set (by decide) g hg
          simp at hx
          omega)).alloc (.cells #[.int .i64 1, .int .i64 (S : Int), .int .i64 (P : Int), .int .i64 0, .int .i64 0] 46))
        have HF6 := hide ((HF5.out.trans hf6 (fun x hx => by simp at hx; simp [hx])).alloc (.cells #[.int .i64 1, .int .i64 (S : Int), .int .i64 (P : Int), .int .i64 0, .int .i64 0] 46))
        clear ha6 hf6
        go_wp2_with fail
        go_roundw
        case rel => exact ⟨k + 1, a2, acc ++ [(a : Int)], _, c6, by go_num, by go_num, by omega, by omega, by rw [HE2.out.2]; exact HN.out, HO6.out, HR6.out, HF6.out⟩
        case measure => simp [intOf]; omega
      · go_wp2_with fail
        refine HMK.out.mono ?_
        rintro e w5 ⟨c5, rfl, ha5, hf5⟩
        have HR5 := hide ha5
        have HO5 := hide (own_fr HO4.out hf5 (fun g hg hx => by
          have h1 := own_ne HO4.out HR4.out.set (by decide) g hg
          have h2 := own_ne HO4.out HR4.out.row (by decide) g hg
          simp at hx
          omega))
        have HF5 := hide (HF4.out.trans_same hf5)
        have HN := hide (HT.out.next HWM.out hS1.1 hS1.2)
        have HH := hide HWM.out.head
        clear ha5 hf5
        go_wp2_with fail
        refine (pat_any HR5.out (a : Int)).mono ?_
        rintro e w6 ⟨c6, rfl, ha6, hf6⟩
        rw [HH.out.1, HH.out.2]
        unfold objH Hd.val
        simp only
        have HR6 := hide (ha6.fr ((Fr.refl [] _).alloc (.cells #[.int .i64 1, .int .i64 (S : Int), .int .i64 (P : Int), .int .i64 0, .int .i64 0] 46)) (by simp) (by simp))
        have HO6 := hide ((own_fr HO5.out hf6 (fun g hg hx => by
          have h1 := own_ne HO5.out HR5.out.set (by decide) g hg
          simp at hx
          omega)).alloc (.cells #[.int .i64 1, .int .i64 (S : Int), .int .i64 (P : Int), .int .i64 0, .int .i64 0] 46))
        have HF6 := hide ((HF5.out.trans hf6 (fun x hx => by simp at hx; simp [hx])).alloc (.cells #[.int .i64 1, .int .i64 (S : Int), .int .i64 (P : Int), .int .i64 0, .int .i64 0] 46))
        clear ha6 hf6
        go_wp2_with fail
        go_roundw
        case rel => exact ⟨k + 1, a2, acc ++ [(a : Int)], _, c6, by go_num, by go_num, by omega, by omega, by rw [HE2.out.2]; exact HN.out, HO6.out, HR6.out, HF6.out⟩
        case measure => simp [intOf]; omega
    · have hway : ¬ (k : Int) < (na : Int) ∨ ((k : Int) < (na : Int) ∧ ¬ (k : Int) < 60) := by omega
      obtain ⟨A9, c9, rfl, ho9⟩ := Own.row HO.out
      obtain ⟨a1, ha1⟩ : ∃ a1 : Nat, (a : Int) + 1 = (a1 : Int) := ⟨a + 1, by omega⟩
      have HS1 : Hid (startsL 2000 f 0 (a : Int) = acc ∧ startsE 2000 f 0 (a : Int) = 0) := HT.out.row.ans (n := 2000) (by omega)
      have HS2 : Hid (startsL 2000 f 0 (a1 : Int) = [] ∧ startsE 2000 f 0 (a1 : Int) = 30) := by
        have hb := HT.out.row.broken (c := a1) (by omega) (no_step (HT.out.rest a (Nat.le_refl _))) (a1 - 0) (Nat.le_refl _)
        exact starts_none (n := 2000) (A := 0) (B := a1) (bndE_in (by omega) (by omega)) hb
      have HO9 := hide ho9
      have hla : acc.length ≤ 4611686018427387904 := by omega
      have HLa := hide hla
      clear hlt ho9 hla
      rcases hway with w1' | ⟨w1', w2'⟩
      all_goals
        go_wp2_with fail
        refine (pstarts_any HR.out 0 (a : Int)).mono ?_
        rintro e w5 ⟨A5, p5, c5, rfl, ho5, ha5, hf5⟩
        rw [HS1.out.1] at ho5
        rw [HS1.out.1, HS1.out.2]
        have HO5 := hide ho5
        have HR5 := hide ha5
        have HO9b := hide (HO9.out.fr hf5 (fun x hx => by simp at hx; subst hx; exact .inl q1))
        have HF5 : Hid (Fr [ab, aw] W w5) := HW.out.trans hf5 (fun x hx => by simp at hx; simp [hx])
        have HQ : Hid (ab < wr.heap.size) := HR.out.set.lt
        clear ho5 ha5 hf5
        go_wp2_with fail
        refine (pstarts_any HR5.out 0 (a1 : Int)).mono ?_
        rintro e w6 ⟨A6, p6, c6, rfl, ho6, ha6, hf6⟩
        rw [HS2.out.1, HS2.out.2]
        have HO5b := hide (HO5.out.fr hf6 (fun x hx => by simp at hx; subst hx; exact .inl HQ.out))
        have HO9c := hide (HO9b.out.fr hf6 (fun x hx => by simp at hx; subst hx; exact .inl q1))
        have HF6 : Hid (Fr [ab, aw] W w6) := HF5.out.trans hf6 (fun x hx => by simp at hx; simp [hx])
        have HSm : Hid (Calls Try.prog 18 #[.slice A5 acc.length p5, .slice A9 acc.length c9] w6 fun e w' => e = .returned (.bool true) ∧ ∃ k, w' = w6.drewN k) := by
          have := same_any (ca := p5) (cb := c9) HO5b.out.sl HO9c.out.sl HLa.out HLa.out
          show Calls _ _ _ _ _
          simpa using this
        clear ho6 ha6 hf6
        go_wp2_with fail
        refine HSm.out.mono ?_
        rintro e w7 ⟨rfl, k1, rfl⟩
        go_wp2_with fail
        go_ret
        exact ⟨rfl, (HF6.out.drewN _).below (Nat.le_refl _) (fun x hx => by simp at hx; omega)⟩

theorem zs_u8 {zs : List Int} (h : ∀ z ∈ zs, (Lit.int .u8 z).wf = true) (k : Nat) : 0 ≤ zs.getD k 0 ∧ zs.getD k 0 < 256 := by
  rw [List.getD_eq_getElem?_getD]
  rcases Nat.lt_or_ge k zs.length with hk | hk
  · rw [List.getElem?_eq_getElem hk]
    have := h _ (List.getElem_mem hk)
    simp [Lit.wf, IntKind.min, IntKind.max, IntKind.signed, IntKind.bits] at this
    simp
    omega
  · rw [List.getElem?_eq_none hk]; simp
theorem holds {H : Type} {enc : TypeId × Value → H} {W : World} {base : Nat} {args : Array Value} {ds : List (DataW H)} {p : List MemPlace}
    (hval : ∀ (j : Nat) t v, Try.f4.params[j]? = some t → args[j]? = some v → Value.okWide Try.prog W .any base t v)
    (hA : DataW.TrodAll enc Try.prog W 0 (fun _ => true) true Try.f4.params.toList args.toList ds p) : Holds Try.prog 4 args W := by
  rw [Try.params4] at hA hval
  obtain ⟨v0, vs0, d0, ds0, p0, q0, hargs, rfl, rfl, h0, r0⟩ := trodAll_cons hA
  obtain ⟨v1, vs1, d1, ds1, p1, q1, rfl, rfl, rfl, h1, r1⟩ := trodAll_cons r0
  obtain ⟨rfl, rfl, rfl⟩ := trodAll_nil r1
  obtain rfl : args = #[v0, v1] := by cases args; simp_all
  obtain ⟨A, na, ca, zs, rfl, hna, hA1, hw⟩ := open_sl Try.underlying41 Try.underlying5 (by kernel_rfl) (hval 0 41 v0 rfl rfl) h0
  obtain ⟨B, nb, cb, bs, rfl, hnb, hB1⟩ := open_bl Try.underlying42 Try.underlying4 (by kernel_rfl) (hval 1 42 v1 rfl rfl) h1
  exact walk W A na ca (fun k => zs.getD k 0) hA1 (fun k => zs_u8 hw k) (by unfold maxLen at hna; omega) B nb cb bs hB1 (by unfold maxLen at hnb; omega)
theorem readable : ∀ t, t ∈ Try.f4.params.toList → Try.prog.readableRec t = true ∧ t < Try.prog.types.size := by
  intro t ht
  rw [Try.params4] at ht
  have hm : t = 41 ∨ t = 42 := by simp at ht; omega
  rcases hm with rfl | rfl
  all_goals exact ⟨by kernel_rfl, of_decide_eq_true (by kernel_rfl)⟩
theorem laid_met (os : Os) : laidMet Try.prog Rows.parseRowsRow.laid ((laidWorld os).forCall (fun _ _ => 0) ⟨#[], #[.slice none 0 0, .slice none 0 0], []⟩).memory :=
  ⟨[], rfl, List.nodup_nil, fun _ _ h => by cases h⟩
theorem reads (os : Os) {H : Type} (enc : TypeId × Value → H) : ∃ places, DataW.whole enc Try.prog ((laidWorld os).forCall (fun _ _ => 0) ⟨#[], #[.slice none 0 0, .slice none 0 0], []⟩).memory Try.f4.params.toList Rows.parseRowsSpec.vars false (#[.slice none 0 0, .slice none 0 0] : Array Value).toList 8 = some ([.nil, .nil], [], places) :=
  ⟨[], by kernel_rfl⟩
theorem spec {H : Type} : ∀ ds : List (DataW H), ds.length = Try.f4.params.toList.length → Rows.parseRowsSpec.fn H (ds ++ []) = { results := [.lit (.bool true)], args := ds, vars := [] } := by
  intro ds h
  rw [Try.params4] at h
  simp only [List.append_nil]
  match ds, h with
  | [_, _], _ => rfl

set_option maxRecDepth 100000 in
theorem lifted (os : Os) (started : os.Started) (H : Type) (enc : TypeId × Value → H) (F : Stop.Interp) :
    ReturnsInHanded {} Try.checked os 4 .any ((OpenSpec.ofChange Rows.parseRowsSpec).preRow enc Try.prog Try.f4 Rows.parseRowsRow.domain false Rows.parseRowsRow.laid) (((OpenSpec.ofChange Rows.parseRowsSpec).at F).post enc Try.prog Try.f4 false true false false) := by
  obtain ⟨places, hx⟩ := reads os enc
  refine returnsInHanded_of_row (C := Try.checked) (s := OpenSpec.ofChange Rows.parseRowsSpec) own started (by kernel_rfl) Try.func4
    (witness_row_at (enc := enc) (C := Try.checked) false (laidWorld os) #[.slice none 0 0, .slice none 0 0] rfl (by kernel_rfl) (by kernel_rfl) (by kernel_rfl)
      (OpenSpec.preRow_of_cond 8 hx (by kernel_rfl) (fun k hk => by cases hk) (by kernel_rfl) (laid_met os))) ?_
  intro W base args ds gs before hval hW _ _ _ hL _ _
  have hW' : DataW.Whole enc Try.prog Try.f4.params.toList Rows.parseRowsSpec.vars false W args.toList ds gs before := hW
  exact law_close (s := Rows.parseRowsSpec) rfl rfl Try.underlying4 spec laidOut readable hW' (by
    obtain ⟨p, q, hA, _⟩ := hW'
    exact holds hval hA)

theorem said : Rows.ParseRowsSaid :=
  OpenClaim.holds_of_cond 4 Try.f4 rfl rfl rfl rfl rfl rfl rfl ⟨rfl, rfl, rfl, rfl, rfl⟩ rfl rfl rfl rfl rfl (by kernel_rfl) Try.func4 (by kernel_rfl)
    (of_decide_eq_true (by kernel_rfl)) (by unfold Func.isWrapper; first | (rw [if_pos (by decide +kernel)]; kernel_rfl) | (rw [if_neg (by decide +kernel)]; exact ⟨rfl, rfl⟩))
    (fun os started H enc _ F => by rw [OpenClaim.pre_eq_preRow]; exact lifted os started H enc F)
end Go.Proofs.Ytjnnegbcijmclaa.ParseRows
