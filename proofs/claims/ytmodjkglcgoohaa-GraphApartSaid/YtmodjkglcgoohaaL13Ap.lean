/- GraphApart: what other threads allocate and drop is not seen by a thread that shares nothing with them, whatever operations come in. Conditions: none but the row's own. -/
import Derived.Test.YtmodjkglcgoohaaL13
import Derived.Test.YtmodjkglcgoohaaGq
import Derived.Test.YtmodjkglcgoohaaCard0
import Derived.Deep.RegionHeld3
import Derived.Deep.CutRange
namespace Go.Proofs.Ytmodjkglcgoohaa.GraphApart
set_option linter.unusedVariables false
set_option linter.unusedSimpArgs false
open Go.RowKit Go.Gl Go.ChangeShapes Go.WideShapes Go.ChangeAt Go.Deep

abbrev P2 (W w : World) (tg1 tg2 : TG) (g h : Nat) (S S' : Nat → Nat) (σ τ : GS) : Prop := Pr (fun w tg => GAt w tg g S 2 8 40 σ) (fun w tg => GAt w tg h S' 2 8 40 τ) W w tg1 tg2
theorem dA : GDim 2 8 40 := ⟨by decide, by decide, by decide, by decide⟩
/-- Both graphs, and that what the first has is the second's too. -/
def Bo (W w : World) (g h : Nat) (S S' : Nat → Nat) (k : Nat) : Prop := ∃ tg1 tg2 σ τ ρ, P2 W w tg1 tg2 g h S S' σ τ ∧ Ap ρ σ τ ∧ GGo 2 8 40 k σ ∧ GGo 2 8 40 k τ
theorem Pr.pair {W w1 w2 : World} {tg1 tg2 : TG} {g h : Nat} {S S' : Nat → Nat} {σ τ : GS} (hp : Pr (fun w tg => GAt w tg g S 2 8 40 σ) (fun _ _ => True) W w1 tg1 (fun _ => (0, 0))) (hf : Fr [] w1 w2) (hq : GAt w2 tg2 h S' 2 8 40 τ) (hn : ∀ b, (tg2 b).1 ≠ 0 → w1.heap.size ≤ b) : P2 W w2 tg1 tg2 g h S S' σ τ := by
  have h2 := hp.fr0 (stabG _ _ _ _ _ _) stabT hf
  refine ⟨h2.fr, h2.one, hq, h2.ok1, hq.tok, fun x => ?_, fun x hx => ?_⟩
  · by_cases e : (tg2 x).1 = 0
    · exact .inr e
    · exact .inl (hp.free (hn x e)).1
  · rcases hx with hx | hx
    · exact h2.new x (.inl hx)
    · exact Nat.le_trans hp.fr.size (hn x hx)
theorem doV_eq2 (σ : GS) (o : Po) : doV 8 40 2 σ 0 o = .agg #[.int .i64 0, .int .i64 (σ.done 0 : Int), .int .i64 (actA 8 40 2 σ 0 o).code, .int .u64 (actA 8 40 2 σ 0 o).word, .bool (actA 8 40 2 σ 0 o).bit] := by
  unfold doV
  rw [if_pos (show fieldIn 2 0 by decide)]
  rfl
def poO (f : Nat → Nat → Int) (i : Nat) : Po := ⟨f i 0, f i 1, f i 2, f i 3, f i 4⟩
theorem poOO {f : Nat → Nat → Int} {n i : Nat} (h : ∀ i j, i < n → j < 5 → (Lit.int (kindsOp j) (f i j)).wf = true) (hi : i < n) : PoOk (poO f i) := ⟨int_bounds (h i 1 hi (by decide)), int_bounds (h i 2 hi (by decide))⟩
theorem ops_at {W : World} {A : Option Addr} {n : Nat} {f : Nat → Nat → Int} (hA : Recs W A n 5 kindsOp f) {k : Nat} (hk : k < n) : ∃ b0 off, A = some ⟨b0, off, none⟩ ∧ b0 < W.heap.size ∧
    ∀ w, Fr [] W w → w.cell? ⟨b0, off + k * 5, none⟩ = some (.int .i64 (poO f k).k) ∧ w.cell? ⟨b0, off + k * 5 + 1, none⟩ = some (.int .i64 (poO f k).a) ∧ w.cell? ⟨b0, off + k * 5 + 2, none⟩ = some (.int .i64 (poO f k).b) ∧ w.cell? ⟨b0, off + k * 5 + 3, none⟩ = some (.int .i64 (poO f k).c) ∧ w.cell? ⟨b0, off + k * 5 + 4, none⟩ = some (.int .u64 (poO f k).v) := by
  obtain ⟨b0, off, rfl, hb0, hcl⟩ := hA (by omega)
  refine ⟨b0, off, rfl, hb0, fun w hf => ?_⟩
  have tr : ∀ j, w.cell? ⟨b0, j, none⟩ = W.cell? ⟨b0, j, none⟩ := fun j => hf.cell (p := ⟨b0, j, none⟩) hb0 (by simp)
  rw [tr, tr, tr, tr, tr]
  exact ⟨hcl k hk 0 (by decide), hcl k hk 1 (by decide), hcl k hk 2 (by decide), hcl k hk 3 (by decide), hcl k hk 4 (by decide)⟩
set_option maxRecDepth 100000 in
set_option maxHeartbeats 6400000 in
theorem walk (W : World) (A B : Option Addr) (na ca nb cb : Nat) (f f2 : Nat → Nat → Int) (hA : Recs W A na 5 kindsOp f) (hB : Recs W B nb 5 kindsOp f2) (hwf : ∀ i j, i < na → j < 5 → (Lit.int (kindsOp j) (f i j)).wf = true) (hwf2 : ∀ i j, i < nb → j < 5 → (Lit.int (kindsOp j) (f2 i j)).wf = true)
    (hna : na ≤ maxLen) (hnb : nb ≤ maxLen) : Holds Try.prog 5 #[.slice A na ca, .slice B nb cb] W := by
  have HA := hide (fun k (hk : k < na) => ops_at hA hk)
  have HB := hide (fun k (hk : k < nb) => ops_at hB hk)
  have HPA := hide (fun k (hk : k < na) => poOO hwf hk)
  have HPB := hide (fun k (hk : k < nb) => poOO hwf2 hk)
  have hna' : na ≤ 9223372036854775807 := by unfold maxLen at hna; omega
  have hnb' : nb ≤ 9223372036854775807 := by unfold maxLen at hnb; omega
  have HN : Hid (∀ w, Calls Try.prog 9 #[.int .i64 2, .int .i64 8, .int .i64 40] w (GNew w 2 8 40)) := fun w => gnew_ok 2 8 40 (by decide) (by decide) dA w
  unfold Holds
  clear hA hB hwf hwf2 hna hnb
  go_enter Try.func5, Try.ntmps5
  go_wp2_with fail
  refine (awake13_any W).mono ?_
  rintro e w0 ⟨rfl, hf0⟩
  have HF := hide hf0
  clear hf0
  go_wp2_with fail
  refine (HN.out w0).mono ?_
  rintro e w1 ⟨g, S, tg, rfl, hq, hf1, hn⟩
  have HP1 := hide (Pr.new1 (W := W) (HF.out.trans_same hf1) hq (fun b hb => Nat.le_trans HF.out.size (hn b hb)))
  clear hq hf1 hn HF
  go_wp2_with fail
  refine (HN.out w1).mono ?_
  rintro e w2 ⟨h, S', tg', rfl, hq, hf2, hn⟩
  have HP : Hid (Bo W w2 g h S S' 300) := ⟨tg, tg', G0, G0, id, Pr.pair HP1.out hf2 hq hn, Ap.zero, GGo.zero dA (by decide), GGo.zero dA (by decide)⟩
  clear hq hf2 hn HN HP1
  go_wp2_with fail
  go_loopw [9] (fun i wr => ∃ (k : Nat), i = .int .i64 k ∧ k ≤ na ∧ k ≤ 100 ∧ Bo W wr g h S S' (300 - 2 * k)) (fun i _ => 100 - (intOf i).toNat)
  case atStart => exact ⟨0, rfl, Nat.zero_le _, by omega, HP.out⟩
  case round =>
    obtain ⟨k, rfl, hk, hk2, hbo⟩ := hrel
    by_cases hlt : k < na ∧ k < 100
    · obtain ⟨hlt1, hlt2⟩ := hlt
      have hlt3 : (k : Int) < (na : Int) := by omega
      have hlt4 : (k : Int) < 100 := by omega
      obtain ⟨b0, off, rfl, hb0, hcl⟩ := HA.out k hlt1
      have HPO := hide (HPA.out k hlt1)
      have HCL := hide hcl
      have HBO := hide hbo
      clear hcl hbo HP HA
      generalize poO f k = o at *
      go_upto_region 10 with fail
      obtain ⟨c, hc⟩ : ∃ c : Bool, c = (decide (k < nb) && !decide ((poO f2 k).k = 13)) := ⟨_, rfl⟩
      have HCC := hide hc
      go_cut [47] from 36 to 47 (fun p wc => p = .bool c ∧ wc = wr)
      case first =>
        by_cases hn : k < nb
        · have hn1 : (k : Int) < (nb : Int) := by omega
          obtain ⟨b1, off1, rfl, hb1, hcl1⟩ := HB.out k hn
          obtain ⟨hfW, x0⟩ : ∃ _ : Fr [] W wr, wr.cell? ⟨b1, off1 + k * 5, none⟩ = some (.int .i64 (poO f2 k).k) := by
            obtain ⟨tg1, tg2, σ, τ, ρ, hp, _⟩ := HBO.out
            exact ⟨hp.fr, (hcl1 wr hp.fr).1⟩
          by_cases hkk : (poO f2 k).k = 13
          · rw [hkk] at x0
            have HCE : Hid (c = false) := by show c = false; rw [hc]; simp [hkk]
            clear hc HCC hcl1 hb1 hkk hfW
            go_wp2_with fail
            go_meet
            case rel => exact ⟨by rw [HCE.out], rfl⟩
          · have hne : ((poO f2 k).k != 13) = true := by simpa using hkk
            have HCE : Hid (c = true) := by show c = true; rw [hc]; simp [hn, hkk]
            generalize (poO f2 k).k = K2 at *
            clear hc HCC hcl1 hb1 hkk hfW
            go_wp2_with fail
            go_meet
            case rel => exact ⟨by rw [HCE.out], rfl⟩
        · have hn1 : ¬ (k : Int) < (nb : Int) := by omega
          have HCE : Hid (c = false) := by show c = false; rw [hc]; simp [hn]
          clear hc HCC
          go_wp2_with fail
          go_meet
          case rel => exact ⟨by rw [HCE.out], rfl⟩
      case rest =>
        obtain ⟨rfl, hwc⟩ := hcut
        subst hwc
        clear hc
        go_upto_if 47 with fail
        go_cut [] from 48 to 53 (fun wc => Bo W wc g h S S' (299 - 2 * k))
        case first =>
          cases c with
          | true =>
            have hcc : k < nb ∧ (poO f2 k).k ≠ 13 := by
              have := HCC.out
              simpa using this.symm
            obtain ⟨hn, hkk⟩ := hcc
            obtain ⟨b1, off1, rfl, hb1, hcl1⟩ := HB.out k hn
            have hn1 : (k : Int) < (nb : Int) := by omega
            obtain ⟨tg1, tg2, σ, τ, ρ, hp, hap, go1, go2⟩ := HBO.out
            obtain ⟨x0, x1, x2, x3, x4⟩ := hcl1 _ hp.fr
            have go2' : GGo 2 8 40 (299 - 2 * k + 1) τ := by rw [show 299 - 2 * k + 1 = 300 - 2 * k by omega]; exact go2
            have HD := hide (hp.do2 (stabG _ _ _ _ _ _) go2' 1 (poO f2 k) (HPB.out k hn))
            have HAP : Hid (Ap ρ σ (doS 8 40 2 τ 1 (poO f2 k))) := hap.doOther go2.ok _ hkk
            have HG1 : Hid (GGo 2 8 40 (299 - 2 * k) σ) := ⟨go1.ok, go1.dim, by have := go1.n; omega, fun t => by have := go1.done t; omega⟩
            have HG2 : Hid (GGo 2 8 40 (299 - 2 * k) (doS 8 40 2 τ 1 (poO f2 k))) := go2'.do _ _
            unfold opV at HD
            generalize doV 8 40 2 τ 1 (poO f2 k) = V at *
            generalize poO f2 k = o2 at *
            clear hp hap go1 go2 go2' hcl1 HCC hkk HBO HCL
            go_wp2_with fail
            refine HD.out.mono ?_
            rintro e w4 ⟨rfl, tg2', hp4, _⟩
            have HR : Hid (Bo W w4 g h S S' (299 - 2 * k)) := ⟨tg1, tg2', σ, _, ρ, hp4, HAP.out, HG1.out, HG2.out⟩
            clear hp4
            go_wp2_with fail
            go_meet
            case rel => exact HR.out
          | false =>
            have HR : Hid (Bo W wc g h S S' (299 - 2 * k)) := by
              obtain ⟨tg1, tg2, σ, τ, ρ, hp, hap, go1, go2⟩ := HBO.out
              exact ⟨tg1, tg2, σ, τ, ρ, hp, hap, ⟨go1.ok, go1.dim, by have := go1.n; omega, fun t => by have := go1.done t; omega⟩, ⟨go2.ok, go2.dim, by have := go2.n; omega, fun t => by have := go2.done t; omega⟩⟩
            clear HBO HCC
            go_wp2_with fail
            go_meet
            case rel => exact HR.out
        case rest =>
          have HBO2 := hide hcut
          clear hcut HBO HCC
          obtain ⟨tg1, tg2, σ, τ, ρ, hp, hap, go1, go2⟩ := HBO2.out
          have HP5 := hide hp
          have x0 : wc.cell? ⟨b0, off + k * 5, none⟩ = some (.int .i64 o.k) := (HCL.out wc hp.fr).1
          by_cases hko : o.k = 13
          · rw [hko] at x0
            have HR : Hid (Bo W wc g h S S' (300 - 2 * (k + 1))) := ⟨tg1, tg2, σ, τ, ρ, hp, hap, ⟨go1.ok, go1.dim, by have := go1.n; omega, fun t => by have := go1.done t; omega⟩, ⟨go2.ok, go2.dim, by have := go2.n; omega, fun t => by have := go2.done t; omega⟩⟩
            clear hp hap go1 go2 HBO2 HCL hko HP5
            go_wp2_with fail
            go_roundw
            case rel => exact ⟨k + 1, by go_num, by omega, by omega, HR.out⟩
            case measure => simp [intOf]; omega
          · have hne : (o.k == 13) = false := by simpa using hko
            have go1' : GGo 2 8 40 (298 - 2 * k + 1) σ := by rw [show 298 - 2 * k + 1 = 299 - 2 * k by omega]; exact go1
            have go2' : GGo 2 8 40 (298 - 2 * k + 1) τ := by rw [show 298 - 2 * k + 1 = 299 - 2 * k by omega]; exact go2
            obtain ⟨hv, ρ', hap'⟩ := hap.doSelf (M := 40) go1.ok go2.ok o hko
            have D1 : Hid (∀ w tg1 tg2 τ', P2 W w tg1 tg2 g h S S' σ τ' → Calls Try.prog 11 #[.pointer (some ⟨g, 0, none⟩), .int .i64 0, .agg #[.int .i64 o.k, .int .i64 o.a, .int .i64 o.b, .int .i64 o.c, .int .u64 o.v]] w fun e w' => e = .returned (doV 8 40 2 σ 0 o) ∧ ∃ tg1', P2 W w' tg1' tg2 g h S S' (doS 8 40 2 σ 0 o) τ') := fun w tg1 tg2 τ' hp =>
              (hp.do1 (stabG _ _ _ _ _ _) go1' 0 o HPO.out).mono fun e w' ⟨e1, t1, e2, _⟩ => ⟨e1, t1, e2⟩
            have D2 : Hid (∀ w tg1 tg2 σ', P2 W w tg1 tg2 g h S S' σ' τ → Calls Try.prog 11 #[.pointer (some ⟨h, 0, none⟩), .int .i64 0, .agg #[.int .i64 o.k, .int .i64 o.a, .int .i64 o.b, .int .i64 o.c, .int .u64 o.v]] w fun e w' => e = .returned (doV 8 40 2 σ 0 o) ∧ ∃ tg2', P2 W w' tg1 tg2' g h S S' σ' (doS 8 40 2 τ 0 o)) := fun w tg1 tg2 σ' hp => by
              have := (hp.do2 (stabG _ _ _ _ _ _) go2' 0 o HPO.out)
              rw [hv] at this
              exact this.mono fun e w' ⟨e1, t1, e2, _⟩ => ⟨e1, t1, e2⟩
            have HEND : Hid (∀ w tg1 tg2, P2 W w tg1 tg2 g h S S' (doS 8 40 2 σ 0 o) (doS 8 40 2 τ 0 o) → Bo W w g h S S' (300 - 2 * (k + 1))) := fun w tg1 tg2 hp => ⟨tg1, tg2, _, _, ρ', hp, hap', by rw [show 300 - 2 * (k + 1) = 298 - 2 * k by omega]; exact go1'.do _ _, by rw [show 300 - 2 * (k + 1) = 298 - 2 * k by omega]; exact go2'.do _ _⟩
            rw [doV_eq2] at D1 D2
            generalize doS 8 40 2 σ 0 o = σ1 at *
            generalize doS 8 40 2 τ 0 o = τ1 at *
            have K0 : Hid (wc.drew.cell? ⟨b0, off + k * 5, none⟩ = some (.int .i64 o.k) ∧ wc.drew.cell? ⟨b0, off + k * 5 + 1, none⟩ = some (.int .i64 o.a) ∧ wc.drew.cell? ⟨b0, off + k * 5 + 2, none⟩ = some (.int .i64 o.b) ∧ wc.drew.cell? ⟨b0, off + k * 5 + 3, none⟩ = some (.int .i64 o.c) ∧ wc.drew.cell? ⟨b0, off + k * 5 + 4, none⟩ = some (.int .u64 o.v)) := HCL.out _ hp.fr.drew
            have HC5 : Hid (∀ w, Fr [] W w → w.cell? ⟨b0, off + k * 5, none⟩ = some (.int .i64 o.k) ∧ w.cell? ⟨b0, off + k * 5 + 1, none⟩ = some (.int .i64 o.a) ∧ w.cell? ⟨b0, off + k * 5 + 2, none⟩ = some (.int .i64 o.b) ∧ w.cell? ⟨b0, off + k * 5 + 3, none⟩ = some (.int .i64 o.c) ∧ w.cell? ⟨b0, off + k * 5 + 4, none⟩ = some (.int .u64 o.v)) := HCL.out
            have HP5d : Hid (P2 W wc.drew tg1 tg2 g h S S' σ τ) := hp.fr0 (stabG _ _ _ _ _ _) (stabG _ _ _ _ _ _) ((Fr.refl _ _).drew)
            generalize (actA 8 40 2 σ 0 o).code = X at *
            generalize (actA 8 40 2 σ 0 o).word = Y at *
            generalize (actA 8 40 2 σ 0 o).bit = Z at *
            generalize (σ.done 0 : Int) = DN at *
            clear hp hap go1 go2 go1' go2' hap' hv HBO2 hko HP5
            go_upto_region 13 with fail
            go_cut [72] from 60 to 72 (fun p wq => p = .bool false ∧ Bo W wq g h S S' (300 - 2 * (k + 1)))
            case first =>
              refine wp_region_held_drew (S := fun w' => w'.cell? ⟨b0, off + k * 5, none⟩ = some (.int .i64 o.k) ∧ w'.cell? ⟨b0, off + k * 5 + 1, none⟩ = some (.int .i64 o.a) ∧ w'.cell? ⟨b0, off + k * 5 + 2, none⟩ = some (.int .i64 o.b) ∧ w'.cell? ⟨b0, off + k * 5 + 3, none⟩ = some (.int .i64 o.c) ∧ w'.cell? ⟨b0, off + k * 5 + 4, none⟩ = some (.int .u64 o.v)) (by kernel_rfl) (K0.out) (fun hHeld => ?_)
              refine wpAnyH_take (i := 0) (v := ?v0x1) rfl (by kernel_rfl) (by kernel_rfl) (by kernel_rfl) (fun _ _ _ h => h) (Or.inl ⟨by rfl, ?hy0x1⟩) (by assumption) ?rest0x1
              case hy0x1 => (intro w' hSw; (try dsimp only at hSw); (try simp only [List.getElem_toArray, List.getElem_cons_succ, List.getElem_cons_zero]); (first | (go_simp; done) | (go_simp; with_reducible rfl)))
              (try simp only [Act.put, List.getElem_toArray, List.getElem_cons_succ, List.getElem_cons_zero, List.setIfInBounds_toArray, List.set_cons_zero, List.set_cons_succ])
              refine wpAnyH_take (i := 1) (v := ?v1x2) rfl (by kernel_rfl) (by kernel_rfl) (by kernel_rfl) (fun _ _ _ h => h) (Or.inl ⟨by rfl, ?hy1x2⟩) (by assumption) ?rest1x2
              case hy1x2 => (intro w' hSw; (try dsimp only at hSw); (try simp only [List.getElem_toArray, List.getElem_cons_succ, List.getElem_cons_zero]); (first | (go_simp; done) | (go_simp; with_reducible rfl)))
              (try simp only [Act.put, List.getElem_toArray, List.getElem_cons_succ, List.getElem_cons_zero, List.setIfInBounds_toArray, List.set_cons_zero, List.set_cons_succ])
              refine wpAnyH_take (i := 2) (v := ?v2x3) rfl (by kernel_rfl) (by kernel_rfl) (by kernel_rfl) (fun _ _ _ h => h) (Or.inl ⟨by rfl, ?hy2x3⟩) (by assumption) ?rest2x3
              case hy2x3 => (intro w' hSw; (try dsimp only at hSw); (try simp only [List.getElem_toArray, List.getElem_cons_succ, List.getElem_cons_zero]); (first | (go_simp; done) | (go_simp; with_reducible rfl)))
              (try simp only [Act.put, List.getElem_toArray, List.getElem_cons_succ, List.getElem_cons_zero, List.setIfInBounds_toArray, List.set_cons_zero, List.set_cons_succ])
              refine wpAnyH_take (i := 3) (v := ?v3x4) rfl (by kernel_rfl) (by kernel_rfl) (by kernel_rfl) (fun _ _ _ h => h) (Or.inl ⟨by rfl, ?hy3x4⟩) (by assumption) ?rest3x4
              case hy3x4 => (intro w' hSw; (try dsimp only at hSw); (try simp only [List.getElem_toArray, List.getElem_cons_succ, List.getElem_cons_zero]); (first | (go_simp; done) | (go_simp; with_reducible rfl)))
              (try simp only [Act.put, List.getElem_toArray, List.getElem_cons_succ, List.getElem_cons_zero, List.setIfInBounds_toArray, List.set_cons_zero, List.set_cons_succ])
              refine wpAnyH_take (i := 4) (v := ?v4x5) rfl (by kernel_rfl) (by kernel_rfl) (by kernel_rfl) (fun _ _ _ h => h) (Or.inl ⟨by rfl, ?hy4x5⟩) (by assumption) ?rest4x5
              case hy4x5 => (intro w' hSw; (try dsimp only at hSw); (try simp only [List.getElem_toArray, List.getElem_cons_succ, List.getElem_cons_zero]); (first | (go_simp; done) | (go_simp; with_reducible rfl)))
              (try simp only [Act.put, List.getElem_toArray, List.getElem_cons_succ, List.getElem_cons_zero, List.setIfInBounds_toArray, List.set_cons_zero, List.set_cons_succ])
              refine wpAnyH_take (i := 6) (v := ?v6x6) rfl (by kernel_rfl) (by kernel_rfl) (by kernel_rfl) (fun _ _ _ h => h) (Or.inl ⟨by rfl, ?hy6x6⟩) (by assumption) ?rest6x6
              case hy6x6 => (intro w' hSw; (try dsimp only at hSw); (try simp only [List.getElem_toArray, List.getElem_cons_succ, List.getElem_cons_zero]); (first | (go_simp; done) | (go_simp; with_reducible rfl)))
              (try simp only [Act.put, List.getElem_toArray, List.getElem_cons_succ, List.getElem_cons_zero, List.setIfInBounds_toArray, List.set_cons_zero, List.set_cons_succ])
              refine wpAnyH_take (i := 7) (v := ?v7x7) rfl (by kernel_rfl) (by kernel_rfl) (by kernel_rfl) (fun _ _ _ h => h) (Or.inl ⟨by rfl, ?hy7x7⟩) (by assumption) ?rest7x7
              case hy7x7 => (intro w' hSw; (try dsimp only at hSw); (try simp only [List.getElem_toArray, List.getElem_cons_succ, List.getElem_cons_zero]); (first | (go_simp; done) | (go_simp; with_reducible rfl)))
              (try simp only [Act.put, List.getElem_toArray, List.getElem_cons_succ, List.getElem_cons_zero, List.setIfInBounds_toArray, List.set_cons_zero, List.set_cons_succ])
              refine wpAnyH_take (i := 8) (v := ?v8x8) rfl (by kernel_rfl) (by kernel_rfl) (by kernel_rfl) (fun _ _ _ h => h) (Or.inl ⟨by rfl, ?hy8x8⟩) (by assumption) ?rest8x8
              case hy8x8 => (intro w' hSw; (try dsimp only at hSw); (try simp only [List.getElem_toArray, List.getElem_cons_succ, List.getElem_cons_zero]); (first | (go_simp; done) | (go_simp; with_reducible rfl)))
              (try simp only [Act.put, List.getElem_toArray, List.getElem_cons_succ, List.getElem_cons_zero, List.setIfInBounds_toArray, List.set_cons_zero, List.set_cons_succ])
              refine wpAnyH_take (i := 9) (v := ?v9x9) rfl (by kernel_rfl) (by kernel_rfl) (by kernel_rfl) (fun _ _ _ h => h) (Or.inl ⟨by rfl, ?hy9x9⟩) (by assumption) ?rest9x9
              case hy9x9 => (intro w' hSw; (try dsimp only at hSw); (try simp only [List.getElem_toArray, List.getElem_cons_succ, List.getElem_cons_zero]); (first | (go_simp; done) | (go_simp; with_reducible rfl)))
              (try simp only [Act.put, List.getElem_toArray, List.getElem_cons_succ, List.getElem_cons_zero, List.setIfInBounds_toArray, List.set_cons_zero, List.set_cons_succ])
              refine wpAnyH_take (i := 10) (v := ?v10x10) rfl (by kernel_rfl) (by kernel_rfl) (by kernel_rfl) (fun _ _ _ h => h) (Or.inl ⟨by rfl, ?hy10x10⟩) (by assumption) ?rest10x10
              case hy10x10 => (intro w' hSw; (try dsimp only at hSw); (try simp only [List.getElem_toArray, List.getElem_cons_succ, List.getElem_cons_zero]); (first | (go_simp; done) | (go_simp; with_reducible rfl)))
              (try simp only [Act.put, List.getElem_toArray, List.getElem_cons_succ, List.getElem_cons_zero, List.setIfInBounds_toArray, List.set_cons_zero, List.set_cons_succ])
              refine wpAnyH_ready (rs := [5]) (by kernel_rfl) (by simp) ?_
              refine AllReadyH.cons rfl (fun K hK => ?_) AllReadyH.nil
              (try simp only [List.getElem_toArray, List.getElem_cons_succ, List.getElem_cons_zero])
              go_simp
              (go_at_call 11; refine (D1.out _ _ _ _ HP5d.out).mono ?_; rintro e w6 ⟨rfl, tg6, hp6⟩; have HPa := hide hp6; have X6 := hide (HC5.out w6 hp6.fr); clear hp6)
              (try go_wp2_with fail)
              refine hK.out _ _ (X6.out) (fun hHeld => ?_)
              clear hK K
              (try simp only [Act.put, List.setIfInBounds_toArray, List.set_cons_zero, List.set_cons_succ])
              refine wpAnyH_ready (rs := [11]) (by kernel_rfl) (by simp) ?_
              refine AllReadyH.cons rfl (fun K hK => ?_) AllReadyH.nil
              (try simp only [List.getElem_toArray, List.getElem_cons_succ, List.getElem_cons_zero])
              go_simp
              (go_at_call 11; refine (D2.out _ _ _ _ HPa.out).mono ?_; rintro e w7 ⟨rfl, tg7, hp7⟩; have HPb := hide hp7; have X7 := hide (HC5.out w7 hp7.fr); clear hp7)
              (try go_wp2_with fail)
              refine hK.out _ _ (X7.out) (fun hHeld => ?_)
              clear hK K
              (try simp only [Act.put, List.setIfInBounds_toArray, List.set_cons_zero, List.set_cons_succ])
              refine wpAnyH_take (i := 12) (v := ?v12x11) rfl (by kernel_rfl) (by kernel_rfl) (by kernel_rfl) (fun _ _ _ h => h) (Or.inl ⟨by rfl, ?hy12x11⟩) (by assumption) ?rest12x11
              case hy12x11 => (intro w' hSw; (try dsimp only at hSw); (try simp only [List.getElem_toArray, List.getElem_cons_succ, List.getElem_cons_zero]); (first | (go_simp; done) | (go_simp; with_reducible rfl)))
              (try simp only [Act.put, List.getElem_toArray, List.getElem_cons_succ, List.getElem_cons_zero, List.setIfInBounds_toArray, List.set_cons_zero, List.set_cons_succ])
              refine wpAnyH_done (by kernel_rfl) ?_ _
              have e1 : (DN != DN) = false := by simp
              have e2 : (X != X) = false := by simp
              have e3 : (Y != Y) = false := by simp
              have e4 : (Z != Z) = false := by simp
              go_wp2_with fail
              go_meet
              case rel => exact ⟨by first | rfl | simp, HEND.out _ _ _ HPb.out⟩
            case rest =>
              obtain ⟨rfl, hbo⟩ := hcut
              have HR := hide hbo
              clear hbo D1 D2 HEND K0 HC5 HP5d
              go_wp2_with fail
              go_roundw
              case rel => exact ⟨k + 1, by go_num, by omega, by omega, HR.out⟩
              case measure => simp [intOf]; omega
    · have hway : ¬ (k : Int) < (na : Int) ∨ ((k : Int) < (na : Int) ∧ ¬ (k : Int) < 100) := by omega
      have HFE : Hid (Fr [] W wr) := by
        obtain ⟨tg1, tg2, σ, τ, ρ, hp, _⟩ := hbo
        exact hp.fr
      clear hbo hlt HP
      rcases hway with w1 | ⟨w1, w2⟩
      all_goals
        go_wp2_with fail
        go_ret
        exact ⟨rfl, HFE.out.below_nil⟩
set_option maxRecDepth 100000 in
theorem holds {H : Type} {enc : TypeId × Value → H} {W : World} {base : Nat} {args : Array Value} {ds : List (DataW H)} {p : List MemPlace}
    (hval : ∀ (j : Nat) t v, Try.f5.params[j]? = some t → args[j]? = some v → Value.okWide Try.prog W .any base t v)
    (hA : DataW.TrodAll enc Try.prog W 0 (fun _ => true) true Try.f5.params.toList args.toList ds p) : Holds Try.prog 5 args W := by
  rw [Try.params5] at hA hval
  obtain ⟨v0, vs0, d0, ds0, p0, q0, hargs, rfl, rfl, h0, r0⟩ := trodAll_cons hA
  obtain ⟨v1, vs1, d1, ds1, p1, q1, rfl, rfl, rfl, h1, r1⟩ := trodAll_cons r0
  obtain ⟨rfl, rfl, rfl⟩ := trodAll_nil r1
  obtain rfl : args = #[v0, v1] := by cases args; simp_all
  obtain ⟨fs, e1, e2, e3, e4, e5⟩ := op_fields
  obtain ⟨A, na, ca, f, rfl, hna, hA2, hw⟩ := open_recs (ks := kindsOp) Try.underlying46 e1 e2 e3 (by omega) e5 (hval 0 46 v0 rfl rfl) h0
  obtain ⟨B, nb, cb, f2, rfl, hnb, hB2, hw2⟩ := open_recs (ks := kindsOp) Try.underlying46 e1 e2 e3 (by omega) e5 (hval 1 46 v1 rfl rfl) h1
  rw [e4] at hA2 hB2 hw hw2
  exact walk W A B na ca nb cb f f2 hA2 hB2 hw hw2 hna hnb
set_option maxRecDepth 100000 in
theorem readable : ∀ t, t ∈ Try.f5.params.toList → Try.prog.readableRec t = true ∧ t < Try.prog.types.size := by
  intro t ht
  rw [Try.params5] at ht
  have hm : t = 46 := by simp at ht; omega
  rcases hm with rfl
  all_goals exact ⟨by kernel_rfl, of_decide_eq_true (by kernel_rfl)⟩
theorem laid_met (os : Os) : laidMet Try.prog Rows.graphApartRow.laid ((laidWorld os).forCall (fun _ _ => 0) ⟨#[], #[.slice none 0 0, .slice none 0 0], []⟩).memory :=
  ⟨[], rfl, List.nodup_nil, fun _ _ h => by cases h⟩
theorem reads (os : Os) {H : Type} (enc : TypeId × Value → H) : ∃ places, DataW.whole enc Try.prog ((laidWorld os).forCall (fun _ _ => 0) ⟨#[], #[.slice none 0 0, .slice none 0 0], []⟩).memory Try.f5.params.toList Rows.graphApartSpec.vars false (#[.slice none 0 0, .slice none 0 0] : Array Value).toList 8 = some ([.nil, .nil], [], places) :=
  ⟨[], by kernel_rfl⟩
theorem spec {H : Type} : ∀ ds : List (DataW H), ds.length = Try.f5.params.toList.length → Rows.graphApartSpec.fn H (ds ++ []) = { results := [.lit (.bool true)], args := ds, vars := [] } := by
  intro ds h
  rw [Try.params5] at h
  simp only [List.append_nil]
  match ds, h with
  | [_, _], _ => rfl

set_option maxRecDepth 100000 in
theorem lifted (os : Os) (started : os.Started) (H : Type) (enc : TypeId × Value → H) (F : Stop.Interp) :
    ReturnsInHanded {} Try.checked os 5 .any ((OpenSpec.ofChange Rows.graphApartSpec).preRow enc Try.prog Try.f5 Rows.graphApartRow.domain false Rows.graphApartRow.laid) (((OpenSpec.ofChange Rows.graphApartSpec).at F).post enc Try.prog Try.f5 false true false false) := by
  obtain ⟨places, hx⟩ := reads os enc
  refine returnsInHanded_of_row (C := Try.checked) (s := OpenSpec.ofChange Rows.graphApartSpec) own started (by kernel_rfl) Try.func5
    (witness_row_at (enc := enc) (C := Try.checked) false (laidWorld os) #[.slice none 0 0, .slice none 0 0] rfl (by kernel_rfl) (by kernel_rfl) (by kernel_rfl)
      (OpenSpec.preRow_of_cond 8 hx (by kernel_rfl) (fun k hk => by cases hk) (by kernel_rfl) (laid_met os))) ?_
  intro W base args ds gs before hval hW _ _ _ hL _ _
  have hW' : DataW.Whole enc Try.prog Try.f5.params.toList Rows.graphApartSpec.vars false W args.toList ds gs before := hW
  exact law_close (s := Rows.graphApartSpec) rfl rfl Try.underlying4 spec laidOut readable hW' (by
    obtain ⟨p, q, hA, _⟩ := hW'
    exact holds hval hA)

theorem said : Rows.GraphApartSaid :=
  OpenClaim.holds_of_cond 5 Try.f5 rfl rfl rfl rfl rfl rfl rfl ⟨rfl, rfl, rfl, rfl, rfl⟩ rfl rfl rfl rfl rfl (by kernel_rfl) Try.func5 (by kernel_rfl)
    (of_decide_eq_true (by kernel_rfl)) (by unfold Func.isWrapper; first | (rw [if_pos (by decide +kernel)]; kernel_rfl) | (rw [if_neg (by decide +kernel)]; exact ⟨rfl, rfl⟩))
    (fun os started H enc _ F => by rw [OpenClaim.pre_eq_preRow]; exact lifted os started H enc F)
end Go.Proofs.Ytmodjkglcgoohaa.GraphApart
