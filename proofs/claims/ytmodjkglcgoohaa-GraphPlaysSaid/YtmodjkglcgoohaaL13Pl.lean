/- GraphPlays: the abstract heap answers each operation just as the document's does, and has just its shape and words, whatever script comes in. Conditions: none but the row's own. -/
import Derived.Test.YtmodjkglcgoohaaL13
import Derived.Test.YtmodjkglcgoohaaGk
import Derived.Test.YtmodjkglcgoohaaHg
import Derived.Test.YtmodjkglcgoohaaHk
import Derived.Test.YtmodjkglcgoohaaHl
import Derived.Test.YtmodjkglcgoohaaCard0
import Derived.Deep.RegionHeld3
import Derived.Deep.CutRange
namespace Go.Proofs.Ytmodjkglcgoohaa.GraphPlays
set_option linter.unusedVariables false
set_option linter.unusedSimpArgs false
open Go.RowKit Go.Gl Go.ChangeShapes Go.WideShapes Go.ChangeAt Go.Deep

abbrev P3 (W w : World) (tg1 tg2 : TG) (g : Nat) (S : Nat → Nat) (m T B M : Nat) (σ τ : GS) : Prop := Pr (fun w tg => GAt w tg g S T B M σ) (fun w tg => MAt w tg m T B M τ) W w tg1 tg2
/-- Both graphs have the same objects. -/
def Bo (W w : World) (g : Nat) (S : Nat → Nat) (m T B M k : Nat) : Prop := ∃ tg1 tg2 σ, P3 W w tg1 tg2 g S m T B M σ σ ∧ GGo T B M k σ
theorem pair {W w1 w2 : World} {tg1 tg2 : TG} {g m T B M : Nat} {S : Nat → Nat} {σ τ : GS} (hp : Pr (fun w tg => GAt w tg g S T B M σ) (fun _ _ => True) W w1 tg1 (fun _ => (0, 0))) (hf : Fr [] w1 w2) (hq : MAt w2 tg2 m T B M τ) (hn : ∀ b, (tg2 b).1 ≠ 0 → w1.heap.size ≤ b) : P3 W w2 tg1 tg2 g S m T B M σ τ := by
  have h2 := hp.fr0 (stabG _ _ _ _ _ _) stabT hf
  refine ⟨h2.fr, h2.one, hq, h2.ok1, hq.tok, fun x => ?_, fun x hx => ?_⟩
  · by_cases e : (tg2 x).1 = 0
    · exact .inr e
    · exact .inl (hp.free (hn x e)).1
  · rcases hx with hx | hx
    · exact h2.new x (.inl hx)
    · exact Nat.le_trans hp.fr.size (hn x hx)
theorem P3.shape2 {W w : World} {tg1 tg2 : TG} {g m T B M k : Nat} {S : Nat → Nat} {σ τ : GS} (h : P3 W w tg1 tg2 g S m T B M σ τ) (hg : GGo T B M k τ) {w' : World} (hf : Fr [] w w') : Calls Try.prog 15 #[.pointer (some ⟨m, 0, none⟩)] w' (ShapePost w' (shape τ T)) := by
  obtain ⟨Λ, h1, rfl⟩ := h.two
  exact mshape_any (h1.fr0 hf) hg.ok hg.dim (by have := hg.n; omega)
theorem P3.words2 {W w : World} {tg1 tg2 : TG} {g m T B M k : Nat} {S : Nat → Nat} {σ τ : GS} (h : P3 W w tg1 tg2 g S m T B M σ τ) (hg : GGo T B M k τ) {w' : World} (hf : Fr [] w w') : Calls Try.prog 17 #[.pointer (some ⟨m, 0, none⟩)] w' fun e w'' => e = .returned (.int .i64 (words τ T : Int)) ∧ Fr [] w' w'' := by
  obtain ⟨Λ, h1, rfl⟩ := h.two
  exact mwords_any (h1.fr0 hf) hg.ok hg.dim (by have := hg.n; omega)
set_option maxRecDepth 100000 in
set_option maxHeartbeats 6400000 in
theorem walk (W : World) (t b mm : Int) (A : Option Addr) (na ca : Nat) (f : Nat → Nat → Int) (hA : Recs W A na 6 kinds13 f) (hwf : ∀ i j, i < na → j < 6 → (Lit.int (kinds13 j) (f i j)).wf = true) (hna : na ≤ maxLen) : Holds Try.prog 3 #[.int .i64 t, .int .i64 b, .int .i64 mm, .slice A na ca] W := by
  have HA := hide hA
  have HWF := hide hwf
  have HHV := hide (fun w hw => heavy13_any (ca := ca) hA hna w hw)
  have hna' : na ≤ 9223372036854775807 := by unfold maxLen at hna; omega
  unfold Holds
  clear hA hwf hna
  by_cases hin : 1 ≤ t ∧ t ≤ 64 ∧ 1 ≤ b ∧ b ≤ 64 ∧ 1 ≤ mm ∧ mm ≤ 1048576
  · obtain ⟨i1, i2, i3, i4, i5, i6⟩ := hin
    obtain ⟨T, rfl⟩ := Int.eq_ofNat_of_zero_le (show 0 ≤ t by omega)
    obtain ⟨B, rfl⟩ := Int.eq_ofNat_of_zero_le (show 0 ≤ b by omega)
    obtain ⟨M, rfl⟩ := Int.eq_ofNat_of_zero_le (show 0 ≤ mm by omega)
    have hd : GDim T B M := by constructor <;> omega
    have HD := hide hd
    have HN : Hid (∀ w, Calls Try.prog 9 #[.int .i64 (T : Int), .int .i64 (B : Int), .int .i64 (M : Int)] w (GNew w T B M)) := fun w => gnew_ok T B M (by omega) (by omega) hd w
    have HM : Hid (∀ w, Calls Try.prog 10 #[.int .i64 (T : Int), .int .i64 (B : Int), .int .i64 (M : Int)] w (MNew w T B M)) := fun w => mnew_ok T B M (by omega) (by omega) hd w
    clear i1 i2 i3 i4 i5 i6 hd
    go_enter Try.func3, Try.ntmps3
    go_wp2_with fail
    refine (awake13_any W).mono ?_
    rintro e w0 ⟨rfl, hf0⟩
    have HF := hide hf0
    clear hf0
    go_wp2_with fail
    refine (HHV.out w0 HF.out).mono ?_
    rintro e w1 ⟨⟨b, rfl⟩, hf1⟩
    have HF1 : Hid (Fr [] W w1) := HF.out.trans_same hf1
    clear hf1 HF HHV
    cases b with
    | true =>
      go_wp2_with fail
      go_ret
      exact ⟨rfl, HF1.out.below_nil⟩
    | false =>
      go_wp2_with fail
      refine (HN.out w1).mono ?_
      rintro e w2 ⟨g, S, tg, rfl, hq, hf2, hn⟩
      have HP1 := hide (Pr.new1 (W := W) (HF1.out.trans_same hf2) hq (fun b hb => Nat.le_trans HF1.out.size (hn b hb)))
      clear hq hf2 hn HF1
      go_wp2_with fail
      refine (HM.out w2).mono ?_
      rintro e w3 ⟨m, tg', rfl, hq, hf2, hn⟩
      have HP : Hid (Bo W w3 g S m T B M 301) := ⟨tg, tg', G0, pair HP1.out hf2 hq hn, GGo.zero HD.out (by decide)⟩
      clear hq hf2 hn HN HM HP1
      go_wp2_with fail
      go_loopw [13] (fun i wr => ∃ (k : Nat), i = .int .i64 k ∧ k ≤ na ∧ k ≤ 300 ∧ Bo W wr g S m T B M (301 - k)) (fun i _ => 300 - (intOf i).toNat)
      case atStart => exact ⟨0, rfl, Nat.zero_le _, by omega, HP.out⟩
      case round =>
        obtain ⟨k, rfl, hk, hk2, hbo⟩ := hrel
        by_cases hlt : k < na ∧ k < 300
        · obtain ⟨hlt1, hlt2⟩ := hlt
          have hlt3 : (k : Int) < (na : Int) := by omega
          have hlt4 : (k : Int) < 300 := by omega
          obtain ⟨b0, off, rfl, hb0, hcl⟩ := HA.out (by omega)
          have tr : ∀ w, Fr [] W w → ∀ j, w.cell? ⟨b0, j, none⟩ = W.cell? ⟨b0, j, none⟩ := fun w hf j => hf.cell (p := ⟨b0, j, none⟩) hb0 (by simp)
          have HCL : ∀ w, Fr [] W w → w.cell? ⟨b0, off + k * 6, none⟩ = some (.int .i64 (f k 0)) ∧ w.cell? ⟨b0, off + k * 6 + 1, none⟩ = some (.int .i64 (f k 1)) ∧ w.cell? ⟨b0, off + k * 6 + 2, none⟩ = some (.int .i64 (f k 2)) ∧ w.cell? ⟨b0, off + k * 6 + 3, none⟩ = some (.int .i64 (f k 3)) ∧ w.cell? ⟨b0, off + k * 6 + 4, none⟩ = some (.int .i64 (f k 4)) ∧ w.cell? ⟨b0, off + k * 6 + 5, none⟩ = some (.int .u64 (f k 5)) := fun w hf => by
            rw [tr w hf, tr w hf, tr w hf, tr w hf, tr w hf, tr w hf]
            exact ⟨hcl k hlt1 0 (by decide), hcl k hlt1 1 (by decide), hcl k hlt1 2 (by decide), hcl k hlt1 3 (by decide), hcl k hlt1 4 (by decide), hcl k hlt1 5 (by decide)⟩
          have HPO := hide (poOk HWF.out hlt1)
          obtain ⟨tg1, tg2, σ, hp, hgo⟩ := hbo
          obtain ⟨o, ho⟩ : ∃ o : Po, o = poOf f k := ⟨_, rfl⟩
          rw [← ho] at HPO
          obtain ⟨th, hth⟩ : ∃ th, th = f k 0 := ⟨_, rfl⟩
          have HC5 : Hid (∀ w, Fr [] W w → w.cell? ⟨b0, off + k * 6, none⟩ = some (.int .i64 th) ∧ w.cell? ⟨b0, off + k * 6 + 1, none⟩ = some (.int .i64 o.k) ∧ w.cell? ⟨b0, off + k * 6 + 2, none⟩ = some (.int .i64 o.a) ∧ w.cell? ⟨b0, off + k * 6 + 3, none⟩ = some (.int .i64 o.b) ∧ w.cell? ⟨b0, off + k * 6 + 4, none⟩ = some (.int .i64 o.c) ∧ w.cell? ⟨b0, off + k * 6 + 5, none⟩ = some (.int .u64 o.v)) := fun w hf => by
            have := HCL w hf
            rw [hth, ho]
            exact this
          have hgo' : GGo T B M (300 - k + 1) σ := by rw [show 300 - k + 1 = 301 - k by omega]; exact hgo
          have D1 : Hid (∀ w tg1 tg2 τ, P3 W w tg1 tg2 g S m T B M σ τ → Calls Try.prog 11 #[.pointer (some ⟨g, 0, none⟩), .int .i64 th, .agg #[.int .i64 o.k, .int .i64 o.a, .int .i64 o.b, .int .i64 o.c, .int .u64 o.v]] w fun e w' => e = .returned (doV B M T σ th o) ∧ ∃ tg1', P3 W w' tg1' tg2 g S m T B M (doS B M T σ th o) τ) := fun w tg1 tg2 τ hp =>
            (hp.do1 (stabM _ _ _ _ _) hgo' th o HPO.out).mono fun e w' ⟨e1, t1, e2, _⟩ => ⟨e1, t1, e2⟩
          have D2 : Hid (∀ w tg1 tg2 σ', P3 W w tg1 tg2 g S m T B M σ' σ → Calls Try.prog 12 #[.pointer (some ⟨m, 0, none⟩), .int .i64 th, .agg #[.int .i64 o.k, .int .i64 o.a, .int .i64 o.b, .int .i64 o.c, .int .u64 o.v]] w fun e w' => e = .returned (doV B M T σ th o) ∧ ∃ tg2', P3 W w' tg1 tg2' g S m T B M σ' (doS B M T σ th o)) := fun w tg1 tg2 σ' hp =>
            (hp.mdo (stabG _ _ _ _ _ _) hgo' th o HPO.out).mono fun e w' ⟨e1, t1, e2, _⟩ => ⟨e1, t1, e2⟩
          have HEND : Hid (∀ w tg1 tg2, P3 W w tg1 tg2 g S m T B M (doS B M T σ th o) (doS B M T σ th o) → Bo W w g S m T B M (301 - (k + 1))) := fun w tg1 tg2 hp => ⟨tg1, tg2, _, hp, by rw [show 301 - (k + 1) = 300 - k by omega]; exact hgo'.do th o⟩
          rw [doV_eq] at D1 D2
          unfold ansV at D1 D2
          generalize doS B M T σ th o = σ1 at *
          have K0 := hide (HC5.out wr.drew hp.fr.drew)
          have HP5d : Hid (P3 W wr.drew tg1 tg2 g S m T B M σ σ) := hp.fr0 (stabG _ _ _ _ _ _) (stabM _ _ _ _ _) ((Fr.refl _ _).drew)
          generalize (doA B M T σ th o).code = X at *
          generalize (doA B M T σ th o).word = Y at *
          generalize (doA B M T σ th o).bit = Z at *
          generalize doTh T th = TH at *
          generalize doDn T σ th = DN at *
          clear hp hgo hgo' tr hcl HCL ho hth HP hb0
          go_upto_region 14 with fail
          go_cut [78] from 44 to 78 (fun p wq => p = .bool false ∧ Bo W wq g S m T B M (301 - (k + 1)))
          case first =>
              refine wp_region_held_drew (S := fun w' => w'.cell? ⟨b0, off + k * 6, none⟩ = some (.int .i64 th) ∧ w'.cell? ⟨b0, off + k * 6 + 1, none⟩ = some (.int .i64 o.k) ∧ w'.cell? ⟨b0, off + k * 6 + 2, none⟩ = some (.int .i64 o.a) ∧ w'.cell? ⟨b0, off + k * 6 + 3, none⟩ = some (.int .i64 o.b) ∧ w'.cell? ⟨b0, off + k * 6 + 4, none⟩ = some (.int .i64 o.c) ∧ w'.cell? ⟨b0, off + k * 6 + 5, none⟩ = some (.int .u64 o.v)) (by kernel_rfl) (K0.out) (fun hHeld => ?_)
              refine wpAnyH_take (i := 0) (v := ?v0x1) rfl (by kernel_rfl) (by kernel_rfl) (by kernel_rfl) (fun _ _ _ h => h) (Or.inl ⟨by rfl, ?hy0x1⟩) (by assumption) ?rest0x1
              case hy0x1 => (intro w' hSw; (try dsimp only at hSw); (try simp only [List.getElem_toArray, List.getElem_cons_succ, List.getElem_cons_zero]); (first | (go_simp; done) | (go_simp; with_reducible rfl)))
              (try simp only [Act.put, List.getElem_toArray, List.getElem_cons_succ, List.getElem_cons_zero, List.setIfInBounds_toArray, List.set_cons_zero, List.set_cons_succ])
              refine wpAnyH_take (i := 1) (v := ?v1x2) rfl (by kernel_rfl) (by kernel_rfl) (by kernel_rfl) (fun _ _ _ h => h) (Or.inl ⟨by rfl, ?hy1x2⟩) (by assumption) ?rest1x2
              case hy1x2 => (intro w' hSw; (try dsimp only at hSw); (try simp only [List.getElem_toArray, List.getElem_cons_succ, List.getElem_cons_zero]); (first | (go_simp; done) | (go_simp; with_reducible rfl)))
              (try simp only [Act.put, List.getElem_toArray, List.getElem_cons_succ, List.getElem_cons_zero, List.setIfInBounds_toArray, List.set_cons_zero, List.set_cons_succ])
              refine wpAnyH_take (i := 2) (v := ?v2x3) rfl (by kernel_rfl) (by kernel_rfl) (by kernel_rfl) (fun _ _ _ h => h) (Or.inl ⟨by rfl, ?hy2x3⟩) (by assumption) ?rest2x3
              case hy2x3 => (intro w' hSw; (try dsimp only at hSw); (try simp only [List.getElem_toArray, List.getElem_cons_succ, List.getElem_cons_zero]); (first | (go_simp; done) | (go_simp; with_reducible rfl)))
              (try simp only [Act.put, List.getElem_toArray, List.getElem_cons_succ, List.getElem_cons_zero, List.setIfInBounds_toArray, List.set_cons_zero, List.set_cons_succ])
              refine wpAnyH_take (i := 3) (v := ?v3x4) rfl (by kernel_rfl) (by kernel_rfl) (by kernel_rfl) (fun _ _ _ h => h) (Or.inl ⟨by rfl, ?hy3x4⟩) (by assumption) ?rest3x4
              case hy3x4 => (intro w' hSw; (try dsimp only at hSw); (try simp only [List.getElem_toArray, List.getElem_cons_succ, List.getElem_cons_zero]); (first | (go_simp; done) | (go_simp; with_reducible rfl)))
              (try simp only [Act.put, List.getElem_toArray, List.getElem_cons_succ, List.getElem_cons_zero, List.setIfInBounds_toArray, List.set_cons_zero, List.set_cons_succ])
              refine wpAnyH_take (i := 4) (v := ?v4x5) rfl (by kernel_rfl) (by kernel_rfl) (by kernel_rfl) (fun _ _ _ h => h) (Or.inl ⟨by rfl, ?hy4x5⟩) (by assumption) ?rest4x5
              case hy4x5 => (intro w' hSw; (try dsimp only at hSw); (try simp only [List.getElem_toArray, List.getElem_cons_succ, List.getElem_cons_zero]); (first | (go_simp; done) | (go_simp; with_reducible rfl)))
              (try simp only [Act.put, List.getElem_toArray, List.getElem_cons_succ, List.getElem_cons_zero, List.setIfInBounds_toArray, List.set_cons_zero, List.set_cons_succ])
              refine wpAnyH_take (i := 5) (v := ?v5x6) rfl (by kernel_rfl) (by kernel_rfl) (by kernel_rfl) (fun _ _ _ h => h) (Or.inl ⟨by rfl, ?hy5x6⟩) (by assumption) ?rest5x6
              case hy5x6 => (intro w' hSw; (try dsimp only at hSw); (try simp only [List.getElem_toArray, List.getElem_cons_succ, List.getElem_cons_zero]); (first | (go_simp; done) | (go_simp; with_reducible rfl)))
              (try simp only [Act.put, List.getElem_toArray, List.getElem_cons_succ, List.getElem_cons_zero, List.setIfInBounds_toArray, List.set_cons_zero, List.set_cons_succ])
              refine wpAnyH_take (i := 6) (v := ?v6x7) rfl (by kernel_rfl) (by kernel_rfl) (by kernel_rfl) (fun _ _ _ h => h) (Or.inl ⟨by rfl, ?hy6x7⟩) (by assumption) ?rest6x7
              case hy6x7 => (intro w' hSw; (try dsimp only at hSw); (try simp only [List.getElem_toArray, List.getElem_cons_succ, List.getElem_cons_zero]); (first | (go_simp; done) | (go_simp; with_reducible rfl)))
              (try simp only [Act.put, List.getElem_toArray, List.getElem_cons_succ, List.getElem_cons_zero, List.setIfInBounds_toArray, List.set_cons_zero, List.set_cons_succ])
              refine wpAnyH_take (i := 7) (v := ?v7x8) rfl (by kernel_rfl) (by kernel_rfl) (by kernel_rfl) (fun _ _ _ h => h) (Or.inl ⟨by rfl, ?hy7x8⟩) (by assumption) ?rest7x8
              case hy7x8 => (intro w' hSw; (try dsimp only at hSw); (try simp only [List.getElem_toArray, List.getElem_cons_succ, List.getElem_cons_zero]); (first | (go_simp; done) | (go_simp; with_reducible rfl)))
              (try simp only [Act.put, List.getElem_toArray, List.getElem_cons_succ, List.getElem_cons_zero, List.setIfInBounds_toArray, List.set_cons_zero, List.set_cons_succ])
              refine wpAnyH_take (i := 8) (v := ?v8x9) rfl (by kernel_rfl) (by kernel_rfl) (by kernel_rfl) (fun _ _ _ h => h) (Or.inl ⟨by rfl, ?hy8x9⟩) (by assumption) ?rest8x9
              case hy8x9 => (intro w' hSw; (try dsimp only at hSw); (try simp only [List.getElem_toArray, List.getElem_cons_succ, List.getElem_cons_zero]); (first | (go_simp; done) | (go_simp; with_reducible rfl)))
              (try simp only [Act.put, List.getElem_toArray, List.getElem_cons_succ, List.getElem_cons_zero, List.setIfInBounds_toArray, List.set_cons_zero, List.set_cons_succ])
              refine wpAnyH_take (i := 9) (v := ?v9x10) rfl (by kernel_rfl) (by kernel_rfl) (by kernel_rfl) (fun _ _ _ h => h) (Or.inl ⟨by rfl, ?hy9x10⟩) (by assumption) ?rest9x10
              case hy9x10 => (intro w' hSw; (try dsimp only at hSw); (try simp only [List.getElem_toArray, List.getElem_cons_succ, List.getElem_cons_zero]); (first | (go_simp; done) | (go_simp; with_reducible rfl)))
              (try simp only [Act.put, List.getElem_toArray, List.getElem_cons_succ, List.getElem_cons_zero, List.setIfInBounds_toArray, List.set_cons_zero, List.set_cons_succ])
              refine wpAnyH_take (i := 10) (v := ?v10x11) rfl (by kernel_rfl) (by kernel_rfl) (by kernel_rfl) (fun _ _ _ h => h) (Or.inl ⟨by rfl, ?hy10x11⟩) (by assumption) ?rest10x11
              case hy10x11 => (intro w' hSw; (try dsimp only at hSw); (try simp only [List.getElem_toArray, List.getElem_cons_succ, List.getElem_cons_zero]); (first | (go_simp; done) | (go_simp; with_reducible rfl)))
              (try simp only [Act.put, List.getElem_toArray, List.getElem_cons_succ, List.getElem_cons_zero, List.setIfInBounds_toArray, List.set_cons_zero, List.set_cons_succ])
              refine wpAnyH_take (i := 12) (v := ?v12x12) rfl (by kernel_rfl) (by kernel_rfl) (by kernel_rfl) (fun _ _ _ h => h) (Or.inl ⟨by rfl, ?hy12x12⟩) (by assumption) ?rest12x12
              case hy12x12 => (intro w' hSw; (try dsimp only at hSw); (try simp only [List.getElem_toArray, List.getElem_cons_succ, List.getElem_cons_zero]); (first | (go_simp; done) | (go_simp; with_reducible rfl)))
              (try simp only [Act.put, List.getElem_toArray, List.getElem_cons_succ, List.getElem_cons_zero, List.setIfInBounds_toArray, List.set_cons_zero, List.set_cons_succ])
              refine wpAnyH_take (i := 13) (v := ?v13x13) rfl (by kernel_rfl) (by kernel_rfl) (by kernel_rfl) (fun _ _ _ h => h) (Or.inl ⟨by rfl, ?hy13x13⟩) (by assumption) ?rest13x13
              case hy13x13 => (intro w' hSw; (try dsimp only at hSw); (try simp only [List.getElem_toArray, List.getElem_cons_succ, List.getElem_cons_zero]); (first | (go_simp; done) | (go_simp; with_reducible rfl)))
              (try simp only [Act.put, List.getElem_toArray, List.getElem_cons_succ, List.getElem_cons_zero, List.setIfInBounds_toArray, List.set_cons_zero, List.set_cons_succ])
              refine wpAnyH_take (i := 14) (v := ?v14x14) rfl (by kernel_rfl) (by kernel_rfl) (by kernel_rfl) (fun _ _ _ h => h) (Or.inl ⟨by rfl, ?hy14x14⟩) (by assumption) ?rest14x14
              case hy14x14 => (intro w' hSw; (try dsimp only at hSw); (try simp only [List.getElem_toArray, List.getElem_cons_succ, List.getElem_cons_zero]); (first | (go_simp; done) | (go_simp; with_reducible rfl)))
              (try simp only [Act.put, List.getElem_toArray, List.getElem_cons_succ, List.getElem_cons_zero, List.setIfInBounds_toArray, List.set_cons_zero, List.set_cons_succ])
              refine wpAnyH_take (i := 15) (v := ?v15x15) rfl (by kernel_rfl) (by kernel_rfl) (by kernel_rfl) (fun _ _ _ h => h) (Or.inl ⟨by rfl, ?hy15x15⟩) (by assumption) ?rest15x15
              case hy15x15 => (intro w' hSw; (try dsimp only at hSw); (try simp only [List.getElem_toArray, List.getElem_cons_succ, List.getElem_cons_zero]); (first | (go_simp; done) | (go_simp; with_reducible rfl)))
              (try simp only [Act.put, List.getElem_toArray, List.getElem_cons_succ, List.getElem_cons_zero, List.setIfInBounds_toArray, List.set_cons_zero, List.set_cons_succ])
              refine wpAnyH_take (i := 16) (v := ?v16x16) rfl (by kernel_rfl) (by kernel_rfl) (by kernel_rfl) (fun _ _ _ h => h) (Or.inl ⟨by rfl, ?hy16x16⟩) (by assumption) ?rest16x16
              case hy16x16 => (intro w' hSw; (try dsimp only at hSw); (try simp only [List.getElem_toArray, List.getElem_cons_succ, List.getElem_cons_zero]); (first | (go_simp; done) | (go_simp; with_reducible rfl)))
              (try simp only [Act.put, List.getElem_toArray, List.getElem_cons_succ, List.getElem_cons_zero, List.setIfInBounds_toArray, List.set_cons_zero, List.set_cons_succ])
              refine wpAnyH_take (i := 17) (v := ?v17x17) rfl (by kernel_rfl) (by kernel_rfl) (by kernel_rfl) (fun _ _ _ h => h) (Or.inl ⟨by rfl, ?hy17x17⟩) (by assumption) ?rest17x17
              case hy17x17 => (intro w' hSw; (try dsimp only at hSw); (try simp only [List.getElem_toArray, List.getElem_cons_succ, List.getElem_cons_zero]); (first | (go_simp; done) | (go_simp; with_reducible rfl)))
              (try simp only [Act.put, List.getElem_toArray, List.getElem_cons_succ, List.getElem_cons_zero, List.setIfInBounds_toArray, List.set_cons_zero, List.set_cons_succ])
              refine wpAnyH_take (i := 18) (v := ?v18x18) rfl (by kernel_rfl) (by kernel_rfl) (by kernel_rfl) (fun _ _ _ h => h) (Or.inl ⟨by rfl, ?hy18x18⟩) (by assumption) ?rest18x18
              case hy18x18 => (intro w' hSw; (try dsimp only at hSw); (try simp only [List.getElem_toArray, List.getElem_cons_succ, List.getElem_cons_zero]); (first | (go_simp; done) | (go_simp; with_reducible rfl)))
              (try simp only [Act.put, List.getElem_toArray, List.getElem_cons_succ, List.getElem_cons_zero, List.setIfInBounds_toArray, List.set_cons_zero, List.set_cons_succ])
              refine wpAnyH_take (i := 19) (v := ?v19x19) rfl (by kernel_rfl) (by kernel_rfl) (by kernel_rfl) (fun _ _ _ h => h) (Or.inl ⟨by rfl, ?hy19x19⟩) (by assumption) ?rest19x19
              case hy19x19 => (intro w' hSw; (try dsimp only at hSw); (try simp only [List.getElem_toArray, List.getElem_cons_succ, List.getElem_cons_zero]); (first | (go_simp; done) | (go_simp; with_reducible rfl)))
              (try simp only [Act.put, List.getElem_toArray, List.getElem_cons_succ, List.getElem_cons_zero, List.setIfInBounds_toArray, List.set_cons_zero, List.set_cons_succ])
              refine wpAnyH_take (i := 20) (v := ?v20x20) rfl (by kernel_rfl) (by kernel_rfl) (by kernel_rfl) (fun _ _ _ h => h) (Or.inl ⟨by rfl, ?hy20x20⟩) (by assumption) ?rest20x20
              case hy20x20 => (intro w' hSw; (try dsimp only at hSw); (try simp only [List.getElem_toArray, List.getElem_cons_succ, List.getElem_cons_zero]); (first | (go_simp; done) | (go_simp; with_reducible rfl)))
              (try simp only [Act.put, List.getElem_toArray, List.getElem_cons_succ, List.getElem_cons_zero, List.setIfInBounds_toArray, List.set_cons_zero, List.set_cons_succ])
              refine wpAnyH_take (i := 21) (v := ?v21x21) rfl (by kernel_rfl) (by kernel_rfl) (by kernel_rfl) (fun _ _ _ h => h) (Or.inl ⟨by rfl, ?hy21x21⟩) (by assumption) ?rest21x21
              case hy21x21 => (intro w' hSw; (try dsimp only at hSw); (try simp only [List.getElem_toArray, List.getElem_cons_succ, List.getElem_cons_zero]); (first | (go_simp; done) | (go_simp; with_reducible rfl)))
              (try simp only [Act.put, List.getElem_toArray, List.getElem_cons_succ, List.getElem_cons_zero, List.setIfInBounds_toArray, List.set_cons_zero, List.set_cons_succ])
              refine wpAnyH_take (i := 22) (v := ?v22x22) rfl (by kernel_rfl) (by kernel_rfl) (by kernel_rfl) (fun _ _ _ h => h) (Or.inl ⟨by rfl, ?hy22x22⟩) (by assumption) ?rest22x22
              case hy22x22 => (intro w' hSw; (try dsimp only at hSw); (try simp only [List.getElem_toArray, List.getElem_cons_succ, List.getElem_cons_zero]); (first | (go_simp; done) | (go_simp; with_reducible rfl)))
              (try simp only [Act.put, List.getElem_toArray, List.getElem_cons_succ, List.getElem_cons_zero, List.setIfInBounds_toArray, List.set_cons_zero, List.set_cons_succ])
              refine wpAnyH_ready (rs := [11]) (by kernel_rfl) (by simp) ?_
              refine AllReadyH.cons rfl (fun K hK => ?_) AllReadyH.nil
              (try simp only [List.getElem_toArray, List.getElem_cons_succ, List.getElem_cons_zero])
              go_simp
              (go_at_call 11; refine (D1.out _ _ _ _ HP5d.out).mono ?_; rintro e w6 ⟨rfl, tg6, hp6⟩; have HPa := hide hp6; have X6 := hide (HC5.out w6 hp6.fr); clear hp6)
              (try go_wp2_with fail)
              refine hK.out _ _ (X6.out) (fun hHeld => ?_)
              clear hK K
              (try simp only [Act.put, List.setIfInBounds_toArray, List.set_cons_zero, List.set_cons_succ])
              refine wpAnyH_ready (rs := [23]) (by kernel_rfl) (by simp) ?_
              refine AllReadyH.cons rfl (fun K hK => ?_) AllReadyH.nil
              (try simp only [List.getElem_toArray, List.getElem_cons_succ, List.getElem_cons_zero])
              go_simp
              (go_at_call 12; refine (D2.out _ _ _ _ HPa.out).mono ?_; rintro e w7 ⟨rfl, tg7, hp7⟩; have HPb := hide hp7; have X7 := hide (HC5.out w7 hp7.fr); clear hp7)
              (try go_wp2_with fail)
              refine hK.out _ _ (X7.out) (fun hHeld => ?_)
              clear hK K
              (try simp only [Act.put, List.setIfInBounds_toArray, List.set_cons_zero, List.set_cons_succ])
              refine wpAnyH_take (i := 24) (v := ?v24x23) rfl (by kernel_rfl) (by kernel_rfl) (by kernel_rfl) (fun _ _ _ h => h) (Or.inl ⟨by rfl, ?hy24x23⟩) (by assumption) ?rest24x23
              case hy24x23 => (intro w' hSw; (try dsimp only at hSw); (try simp only [List.getElem_toArray, List.getElem_cons_succ, List.getElem_cons_zero]); (first | (go_simp; done) | (go_simp; with_reducible rfl)))
              (try simp only [Act.put, List.getElem_toArray, List.getElem_cons_succ, List.getElem_cons_zero, List.setIfInBounds_toArray, List.set_cons_zero, List.set_cons_succ])
              refine wpAnyH_done (by kernel_rfl) ?_ _
              have e0 : (TH != TH) = false := by simp
              have e1 : (DN != DN) = false := by simp
              have e2 : (X != X) = false := by simp
              have e3 : (Y != Y) = false := by simp
              have e4 : (Z != Z) = false := by simp
              go_wp2_with fail
              go_meet
              case rel => exact ⟨by first | rfl | simp, HEND.out _ _ _ HPb.out⟩
          case rest =>
            obtain ⟨rfl, hbo⟩ := hcut
            have HR := hide hbo
            clear hbo D1 D2 HEND K0 HC5 HP5d
            go_wp2_with fail
            go_roundw
            case rel => exact ⟨k + 1, by go_num, by omega, by omega, HR.out⟩
            case measure => simp [intOf]; omega
        · have hway : ¬ (k : Int) < (na : Int) ∨ ((k : Int) < (na : Int) ∧ ¬ (k : Int) < 300) := by omega
          obtain ⟨tg1, tg2, σ, hp, hgo⟩ := hbo
          have HPR := hide hp
          have HGO := hide hgo
          have SH := hide (hp.shape1 hgo)
          clear hp hgo hlt HP
          rcases hway with w1 | ⟨w1, w2⟩
          all_goals
            go_wp2_with fail
            refine SH.out.mono ?_
            rintro e w4 ⟨A4, n4, c4, G4, rfl, hl4, hf4, hg4⟩
            have SH2 := hide (HPR.out.shape2 HGO.out hf4)
            have HF4 := hide hf4
            have HL4 := hide hl4
            clear hl4 hf4 hg4 SH
            go_wp2_with fail
            refine SH2.out.mono ?_
            rintro e w5 ⟨A5, n5, c5, G5, rfl, hl5, hf5, hg5⟩
            have hn4 : n4 = (shape σ T).length := by have := HL4.out.len; rw [refV_len] at this; exact this.symm
            have hn5 : n5 = (shape σ T).length := by have := hl5.len; rw [refV_len] at this; exact this.symm
            have hm4 : n4 ≤ 9223372036854775807 := by
              have h1 := HL4.out.le
              have h2 := HL4.out.max
              unfold maxLen at h2
              omega
            have HF5 : Hid (Fr [] wr w5) := HF4.out.trans_same hf5
            have s4 : Sl w5 A4 (shape σ T).length (fun k => .int .u64 ((shape σ T).getD k 0)) := by rw [← hn4]; exact refSl (HL4.out.fr0 hf5)
            have s5 : Sl w5 A5 (shape σ T).length (fun k => .int .u64 ((shape σ T).getD k 0)) := by rw [← hn5]; exact refSl hl5
            have SM := hide (gsame_any (ca := c4) (cb := c5) s4 s5 (by rw [← hn4]; exact hm4) (by rw [← hn4]; exact hm4))
            rw [← hn4, show decide (shape σ T = shape σ T) = true by simp] at SM
            have e45 : n5 = n4 := by rw [hn4, hn5]
            rw [e45]
            clear hl5 hf5 hg5 SH2 hn4 hn5 hm4 s4 s5 HL4 e45
            go_wp2_with fail
            refine SM.out.mono ?_
            rintro e w6 ⟨rfl, q, rfl⟩
            have hf6 : Fr [] wr (w5.drewN q) := HF5.out.drewN q
            have WO := hide ((HPR.out.fr0 (stabG _ _ _ _ _ _) (stabM _ _ _ _ _) hf6).words1 HGO.out)
            have HF6 := hide hf6
            clear hf6 SM HF5 HF4
            go_wp2_with fail
            refine WO.out.mono ?_
            rintro e w7 ⟨rfl, hf7⟩
            have HF7 : Hid (Fr [] wr w7) := HF6.out.trans_same hf7
            have WO2 := hide (HPR.out.words2 HGO.out HF7.out)
            clear hf7 WO HF6
            generalize words σ T = ww at *
            go_wp2_with fail
            refine WO2.out.mono ?_
            rintro e w8 ⟨rfl, hf8⟩
            have HF8 : Hid (Fr [] W w8) := (HPR.out.fr.trans_same HF7.out).trans_same hf8
            clear hf8 WO2 HF7 HPR HGO
            have ew : ((ww : Int) == (ww : Int)) = true := by simp
            go_wp2_with fail
            go_ret
            exact ⟨rfl, HF8.out.below_nil⟩
  · have HN := hide (fun w => gnew_bad t b mm hin w)
    have HM := hide (fun w => mnew_bad t b mm hin w)
    clear hin HA HWF
    go_enter Try.func3, Try.ntmps3
    go_wp2_with fail
    refine (awake13_any W).mono ?_
    rintro e w0 ⟨rfl, hf0⟩
    have HF := hide hf0
    clear hf0
    go_wp2_with fail
    refine (HHV.out w0 HF.out).mono ?_
    rintro e w1 ⟨⟨b', rfl⟩, hf1⟩
    have HF1 : Hid (Fr [] W w1) := HF.out.trans_same hf1
    clear hf1 HF HHV
    cases b' with
    | true =>
      go_wp2_with fail
      go_ret
      exact ⟨rfl, HF1.out.below_nil⟩
    | false =>
      go_wp2_with fail
      refine (HN.out w1).mono ?_
      rintro e w2 ⟨rfl, hf2⟩
      have HF2 : Hid (Fr [] W w2) := HF1.out.trans_same hf2
      clear hf2 HF1
      go_wp2_with fail
      refine (HM.out w2).mono ?_
      rintro e w3 ⟨rfl, hf3⟩
      have HF3 : Hid (Fr [] W w3) := HF2.out.trans_same hf3
      clear hf3 HF2 HN HM
      go_wp2_with fail
      go_ret
      exact ⟨rfl, HF3.out.below_nil⟩
set_option maxRecDepth 100000 in
theorem holds {H : Type} {enc : TypeId × Value → H} {W : World} {base : Nat} {args : Array Value} {ds : List (DataW H)} {p : List MemPlace}
    (hval : ∀ (j : Nat) t v, Try.f3.params[j]? = some t → args[j]? = some v → Value.okWide Try.prog W .any base t v)
    (hA : DataW.TrodAll enc Try.prog W 0 (fun _ => true) true Try.f3.params.toList args.toList ds p) : Holds Try.prog 3 args W := by
  rw [Try.params3] at hA hval
  obtain ⟨v0, vs0, d0, ds0, p0, q0, hargs, rfl, rfl, h0, r0⟩ := trodAll_cons hA
  obtain ⟨v1, vs1, d1, ds1, p1, q1, rfl, rfl, rfl, h1, r1⟩ := trodAll_cons r0
  obtain ⟨v2, vs2, d2, ds2, p2, q2, rfl, rfl, rfl, h2, r2⟩ := trodAll_cons r1
  obtain ⟨v3, vs3, d3, ds3, p3, q3, rfl, rfl, rfl, h3, r3⟩ := trodAll_cons r2
  obtain ⟨rfl, rfl, rfl⟩ := trodAll_nil r3
  obtain rfl : args = #[v0, v1, v2, v3] := by cases args; simp_all
  obtain ⟨t, rfl, rfl, rfl, _⟩ := open_int Try.underlying3 (hval 0 3 v0 rfl rfl) h0
  obtain ⟨b, rfl, rfl, rfl, _⟩ := open_int Try.underlying3 (hval 1 3 v1 rfl rfl) h1
  obtain ⟨mm, rfl, rfl, rfl, _⟩ := open_int Try.underlying3 (hval 2 3 v2 rfl rfl) h2
  obtain ⟨A, na, ca, f, rfl, hna, hA2, hw⟩ := open_recsN (ks := kinds13) (C := 6) Try.underlying22 (by kernel_rfl) (by decide) (fun n cs y h => act_cells h) (hval 3 22 v3 rfl rfl) h3
  exact walk W t b mm A na ca f hA2 hw hna
set_option maxRecDepth 100000 in
theorem readable : ∀ t, t ∈ Try.f3.params.toList → Try.prog.readableRec t = true ∧ t < Try.prog.types.size := by
  intro t ht
  rw [Try.params3] at ht
  have hm : t = 3 ∨ t = 22 := by simp at ht; omega
  rcases hm with rfl | rfl
  all_goals exact ⟨by kernel_rfl, of_decide_eq_true (by kernel_rfl)⟩
theorem laid_met (os : Os) : laidMet Try.prog Rows.graphPlaysRow.laid ((laidWorld os).forCall (fun _ _ => 0) ⟨#[], #[.int .i64 0, .int .i64 0, .int .i64 0, .slice none 0 0], []⟩).memory :=
  ⟨[], rfl, List.nodup_nil, fun _ _ h => by cases h⟩
theorem reads (os : Os) {H : Type} (enc : TypeId × Value → H) : ∃ places, DataW.whole enc Try.prog ((laidWorld os).forCall (fun _ _ => 0) ⟨#[], #[.int .i64 0, .int .i64 0, .int .i64 0, .slice none 0 0], []⟩).memory Try.f3.params.toList Rows.graphPlaysSpec.vars false (#[.int .i64 0, .int .i64 0, .int .i64 0, .slice none 0 0] : Array Value).toList 8 = some ([.lit (.int .i64 0), .lit (.int .i64 0), .lit (.int .i64 0), .nil], [], places) :=
  ⟨[], by kernel_rfl⟩
theorem spec {H : Type} : ∀ ds : List (DataW H), ds.length = Try.f3.params.toList.length → Rows.graphPlaysSpec.fn H (ds ++ []) = { results := [.lit (.bool true)], args := ds, vars := [] } := by
  intro ds h
  rw [Try.params3] at h
  simp only [List.append_nil]
  match ds, h with
  | [_, _, _, _], _ => rfl

set_option maxRecDepth 100000 in
theorem lifted (os : Os) (started : os.Started) (H : Type) (enc : TypeId × Value → H) (F : Stop.Interp) :
    ReturnsInHanded {} Try.checked os 3 .any ((OpenSpec.ofChange Rows.graphPlaysSpec).preRow enc Try.prog Try.f3 Rows.graphPlaysRow.domain false Rows.graphPlaysRow.laid) (((OpenSpec.ofChange Rows.graphPlaysSpec).at F).post enc Try.prog Try.f3 false true false false) := by
  obtain ⟨places, hx⟩ := reads os enc
  refine returnsInHanded_of_row (C := Try.checked) (s := OpenSpec.ofChange Rows.graphPlaysSpec) own started (by kernel_rfl) Try.func3
    (witness_row_at (enc := enc) (C := Try.checked) false (laidWorld os) #[.int .i64 0, .int .i64 0, .int .i64 0, .slice none 0 0] rfl (by kernel_rfl) (by kernel_rfl) (by kernel_rfl)
      (OpenSpec.preRow_of_cond 8 hx (by kernel_rfl) (fun k hk => by cases hk) (by kernel_rfl) (laid_met os))) ?_
  intro W base args ds gs before hval hW _ _ _ hL _ _
  have hW' : DataW.Whole enc Try.prog Try.f3.params.toList Rows.graphPlaysSpec.vars false W args.toList ds gs before := hW
  exact law_close (s := Rows.graphPlaysSpec) rfl rfl Try.underlying4 spec laidOut readable hW' (by
    obtain ⟨p, q, hA, _⟩ := hW'
    exact holds hval hA)

theorem said : Rows.GraphPlaysSaid :=
  OpenClaim.holds_of_cond 3 Try.f3 rfl rfl rfl rfl rfl rfl rfl ⟨rfl, rfl, rfl, rfl, rfl⟩ rfl rfl rfl rfl rfl (by kernel_rfl) Try.func3 (by kernel_rfl)
    (of_decide_eq_true (by kernel_rfl)) (by unfold Func.isWrapper; first | (rw [if_pos (by decide +kernel)]; kernel_rfl) | (rw [if_neg (by decide +kernel)]; exact ⟨rfl, rfl⟩))
    (fun os started H enc _ F => by rw [OpenClaim.pre_eq_preRow]; exact lifted os started H enc F)
end Go.Proofs.Ytmodjkglcgoohaa.GraphPlays
