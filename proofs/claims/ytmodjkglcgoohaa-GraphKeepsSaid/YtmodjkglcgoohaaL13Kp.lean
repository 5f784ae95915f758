/- GraphKeeps: what is refused changes nothing, and what is asked changes nothing, whatever script comes in. Conditions: none but the row's own. -/
import Derived.Test.YtmodjkglcgoohaaL13
import Derived.Test.YtmodjkglcgoohaaGk
import Derived.Test.YtmodjkglcgoohaaCard0
import Derived.Deep.RegionHeld3
import Derived.Deep.CutRange
namespace Go.Proofs.Ytmodjkglcgoohaa.GraphKeeps
set_option linter.unusedVariables false
set_option linter.unusedSimpArgs false
open Go.RowKit Go.Gl Go.ChangeShapes Go.WideShapes Go.ChangeAt Go.Deep

abbrev Kp (W w : World) (tg : TG) (g : Nat) (S : Nat → Nat) (σ : GS) : Prop := Pr (fun w tg => GAt w tg g S 3 8 60 σ) (fun _ _ => True) W w tg (fun _ => (0, 0))
theorem dK : GDim 3 8 60 := ⟨by decide, by decide, by decide, by decide⟩
/-- Numbers that lie in a row of their own, which is no graph's. -/
def Bef (W w : World) (tg : TG) (A : Option Addr) (n c : Nat) (xs : List Int) : Prop := ∃ G, Lr w 32 A n c G (refV xs) ∧ ∀ x, x ∈ G → W.heap.size ≤ x ∧ (tg x).1 = 0
theorem Bef.kept {W w w' : World} {tg tg' : TG} {A : Option Addr} {n c : Nat} {xs : List Int} (h : Bef W w tg A n c xs) (hk : Kept w tg (fun _ => (0, 0)) w' tg' (fun _ => (0, 0))) : Bef W w' tg' A n c xs := by
  obtain ⟨G, h1, h2⟩ := h
  refine ⟨G, ⟨h1.len, h1.le, h1.max, h1.zero, fun hc => ?_⟩, fun x hx => ⟨(h2 x hx).1, ?_⟩⟩
  · obtain ⟨g, off, cur, e1, e2, e3, e4, e5⟩ := h1.blk hc
    exact ⟨g, off, cur, e1, e2, (hk _ _ _ e3 (h2 g (by simp [e2])).2 rfl).1, e4, e5⟩
  · rcases Nat.eq_zero_or_pos c with hc | hc
    · rw [h1.zero hc] at hx; cases hx
    · obtain ⟨g, off, cur, e1, e2, e3, e4, e5⟩ := h1.blk hc
      rw [e2] at hx
      simp at hx
      subst hx
      exact (hk _ _ _ e3 (h2 _ (by simp [e2])).2 rfl).2.1
theorem Bef.fr0 {W w w' : World} {tg : TG} {A : Option Addr} {n c : Nat} {xs : List Int} (h : Bef W w tg A n c xs) (hf : Fr [] w w') : Bef W w' tg A n c xs := h.kept (Kept.fr0 _ _ _ hf)
theorem fin {W w6 wf : World} {tg6 : TG} {g : Nat} {S : Nat → Nat} {σ : GS} {A : Option Addr} {n c ab ob : Nat} {xs : List Int} {ocs cs : Array Value} (hp : Kp W w6 tg6 g S σ) (hb : Bef W w6 tg6 A n c xs) (ho : Blk w6 ob 38 ocs) (hot : (tg6 ob).1 = 0) (hf : Fr [ab] w6 wf)
    (hab : W.heap.size ≤ ab) (hat : (tg6 ab).1 = 0) (hold : w6.heap.size ≤ ab ∨ ∃ cs', Blk w6 ab 34 cs') (hbl : Blk wf ab 34 cs) :
    Blk wf ab 34 cs ∧ (tg6 ab).1 = 0 ∧ Blk wf ob 38 ocs ∧ (tg6 ob).1 = 0 ∧ Kp W wf tg6 g S σ ∧ Bef W wf tg6 A n c xs := by
  refine ⟨hbl, hat, ho.fr hf ?_, hot, hp.poke (stabG _ _ _ _ _ _) stabT hf (fun x hx => by simp at hx; rw [hx]; exact ⟨hab, hat, rfl⟩), ?_⟩
  · simp
    rcases hold with h | ⟨cs', h⟩
    · have := ho.lt; omega
    · exact Blk.apart ho h (by decide)
  · obtain ⟨G, h1, h2⟩ := hb
    refine ⟨G, h1.fr hf (fun x hx hx' => ?_), h2⟩
    simp at hx'
    subst hx'
    rcases hold with h | ⟨cs', h⟩
    · have := h1.lt _ hx; omega
    · exact h1.apart h (by decide) hx
set_option maxRecDepth 100000 in
set_option maxHeartbeats 6400000 in
theorem walk (W : World) (A : Option Addr) (na ca : Nat) (f : Nat → Nat → Int) (hA : Recs W A na 6 kinds13 f) (hwf : ∀ i j, i < na → j < 6 → (Lit.int (kinds13 j) (f i j)).wf = true) (hna : na ≤ maxLen) : Holds Try.prog 4 #[.slice A na ca] W := by
  have HA := hide hA
  have HWF := hide hwf
  have HHV := hide (fun w hw => heavy13_any (ca := ca) hA hna w hw)
  have hna' : na ≤ 9223372036854775807 := by unfold maxLen at hna; omega
  have HN : Hid (∀ w, Calls Try.prog 9 #[.int .i64 3, .int .i64 8, .int .i64 60] w (GNew w 3 8 60)) := fun w => gnew_ok 3 8 60 (by decide) (by decide) dK w
  unfold Holds
  clear hA hwf hna
  go_enter Try.func4, Try.ntmps4
  go_wp2_with fail
  refine (awake13_any W).mono ?_
  rintro e w0 ⟨rfl, hf0⟩
  have HF := hide hf0
  clear hf0
  go_wp2_with fail
  refine (HHV.out w0 HF.out).mono ?_
  rintro e w1 ⟨⟨b, rfl⟩, hf1⟩
  have HF1 : Hid (Fr [] W w1) := HF.out.trans_same hf1
  clear hf1 HF HHV
  cases b with
  | true =>
    go_wp2_with fail
    go_ret
    exact ⟨rfl, HF1.out.below_nil⟩
  | false =>
    go_wp2_with fail
    refine (HN.out w1).mono ?_
    rintro e w2 ⟨g, S, tg, rfl, hq, hf2, hn⟩
    have HP : Hid (Kp W w2 tg g S G0) := Pr.new1 (HF1.out.trans_same hf2) hq (fun b hb => Nat.le_trans HF1.out.size (hn b hb))
    clear hq hf2 hn HN HF1
    go_wp2_with fail
    go_loopw [5] (fun i wr => ∃ (k : Nat) (tg : TG) (σ : GS), i = .int .i64 k ∧ k ≤ na ∧ k ≤ 100 ∧ Kp W wr tg g S σ ∧ GGo 3 8 60 (101 - k) σ) (fun i _ => 100 - (intOf i).toNat)
    case atStart => exact ⟨0, tg, G0, rfl, Nat.zero_le _, by omega, HP.out, GGo.zero dK (by decide)⟩
    case round =>
      obtain ⟨k, tgr, σ, rfl, hk, hk2, hp, hgo⟩ := hrel
      by_cases hlt : k < na ∧ k < 100
      · obtain ⟨hlt1, hlt2⟩ := hlt
        have hlt3 : (k : Int) < (na : Int) := by omega
        have hlt4 : (k : Int) < 100 := by omega
        obtain ⟨b0, off, rfl, hb0, hcl⟩ := HA.out (by omega)
        have tr : ∀ w, Fr [] W w → ∀ j, w.cell? ⟨b0, j, none⟩ = W.cell? ⟨b0, j, none⟩ := fun w hf j => hf.cell (p := ⟨b0, j, none⟩) hb0 (by simp)
        have HCL : Hid (∀ w, Fr [] W w → w.cell? ⟨b0, off + k * 6, none⟩ = some (.int .i64 (f k 0)) ∧ w.cell? ⟨b0, off + k * 6 + 1, none⟩ = some (.int .i64 (f k 1)) ∧ w.cell? ⟨b0, off + k * 6 + 2, none⟩ = some (.int .i64 (f k 2)) ∧ w.cell? ⟨b0, off + k * 6 + 3, none⟩ = some (.int .i64 (f k 3)) ∧ w.cell? ⟨b0, off + k * 6 + 4, none⟩ = some (.int .i64 (f k 4)) ∧ w.cell? ⟨b0, off + k * 6 + 5, none⟩ = some (.int .u64 (f k 5))) := fun w hf => by
          rw [tr w hf, tr w hf, tr w hf, tr w hf, tr w hf, tr w hf]
          exact ⟨hcl k hlt1 0 (by decide), hcl k hlt1 1 (by decide), hcl k hlt1 2 (by decide), hcl k hlt1 3 (by decide), hcl k hlt1 4 (by decide), hcl k hlt1 5 (by decide)⟩
        have HPO := hide (poOk HWF.out hlt1)
        have HGO : Hid (GGo 3 8 60 (100 - k + 1) σ) := by rw [show 100 - k + 1 = 101 - k by omega]; exact hgo
        have SH := hide (hp.shape1 hgo)
        have HPR := hide hp
        have HB0 := hide hb0
        clear hp hgo tr hcl hb0 HP
        go_wp2_with fail
        refine SH.out.mono ?_
        rintro e w3 ⟨A3, n3, c3, G3, rfl, hl3, hf3, hg3⟩
        have HF3 := hide hf3
        have HP3 : Hid (Kp W w3 tgr g S σ) := HPR.out.fr0 (stabG _ _ _ _ _ _) stabT hf3
        have HBF : Hid (Bef W w3 tgr A3 n3 c3 (shape σ 3)) := ⟨G3, hl3, fun x hx => ⟨Nat.le_trans HPR.out.fr.size (hg3 x hx), (HPR.out.free (hg3 x hx)).1⟩⟩
        have WO := hide (HP3.out.words1 HGO.out)
        clear hl3 hf3 hg3 SH HPR
        go_wp2_with fail
        refine WO.out.mono ?_
        rintro e w4 ⟨rfl, hf4⟩
        have HP4 : Hid (Kp W w4 tgr g S σ) := HP3.out.fr0 (stabG _ _ _ _ _ _) stabT hf4
        have HBF4 := hide (HBF.out.fr0 hf4)
        obtain ⟨x0, x1, x2, x3, x4, x5⟩ := HCL.out w4 HP4.out.fr
        have HOB : Hid (Blk (w4.alloc (.cells #[.int .i64 (f k 1), .int .i64 (f k 2), .int .i64 (f k 3), .int .i64 (f k 4), .int .u64 (f k 5)] 38)) w4.heap.size 38 #[.int .i64 (f k 1), .int .i64 (f k 2), .int .i64 (f k 3), .int .i64 (f k 4), .int .u64 (f k 5)]) := Blk.new _ _ _
        have HOT : Hid ((tgr w4.heap.size).1 = 0) := (HP4.out.free (Nat.le_refl _)).1
        have HP5 : Hid (Kp W (w4.alloc (.cells #[.int .i64 (f k 1), .int .i64 (f k 2), .int .i64 (f k 3), .int .i64 (f k 4), .int .u64 (f k 5)] 38)) tgr g S σ) := HP4.out.fr0 (stabG _ _ _ _ _ _) stabT ((Fr.refl _ _).alloc _)
        have HBF5 : Hid (Bef W (w4.alloc (.cells #[.int .i64 (f k 1), .int .i64 (f k 2), .int .i64 (f k 3), .int .i64 (f k 4), .int .u64 (f k 5)] 38)) tgr A3 n3 c3 (shape σ 3)) := HBF4.out.fr0 ((Fr.refl _ _).alloc _)
        have HWW : Hid (∃ ww : Nat, ww = words σ 3) := ⟨_, rfl⟩
        clear hf4 HP3 HBF HF3 WO HBF4
        obtain ⟨ww, hww⟩ := HWW.out
        have HWD := hide hww
        rw [← hww]
        clear hww HWW
        obtain ⟨o, ho⟩ : ∃ o : Po, o = poOf f k := ⟨_, rfl⟩
        rw [← ho] at HPO
        obtain ⟨th, hth⟩ : ∃ th, th = f k 0 := ⟨_, rfl⟩
        rw [← hth] at x0
        rw [show f k 1 = o.k by rw [ho]; rfl] at x1 HOB HP5 HBF5
        rw [show f k 2 = o.a by rw [ho]; rfl] at x2 HOB HP5 HBF5
        rw [show f k 3 = o.b by rw [ho]; rfl] at x3 HOB HP5 HBF5
        rw [show f k 4 = o.c by rw [ho]; rfl] at x4 HOB HP5 HBF5
        rw [show f k 5 = o.v by rw [ho]; rfl] at x5 HOB HP5 HBF5
        have HTC : Hid (∀ w, Fr [] W w → w.cell? ⟨b0, off + k * 6, none⟩ = some (.int .i64 th)) := fun w hf => hth ▸ (HCL.out w hf).1
        clear ho hth HCL
        go_wp2_with fail
        generalize w4.alloc (.cells #[.int .i64 o.k, .int .i64 o.a, .int .i64 o.b, .int .i64 o.c, .int .u64 o.v] 38) = w5 at *
        generalize w4.heap.size = ob at *
        clear x0 x1 x2 x3 x4 x5 HP4
        obtain ⟨x, hx⟩ : ∃ x, x = doA 8 60 3 σ th o := ⟨_, rfl⟩
        obtain ⟨TH, hTH⟩ : ∃ y, y = doTh 3 th := ⟨_, rfl⟩
        obtain ⟨DN, hDN⟩ : ∃ y, y = doDn 3 σ th := ⟨_, rfl⟩
        obtain ⟨σ', hσ'⟩ : ∃ σ', σ' = doS 8 60 3 σ th o := ⟨_, rfl⟩
        have HD : Hid (∀ w', Fr [] w5 w' → Calls Try.prog 11 #[.pointer (some ⟨g, 0, none⟩), .int .i64 th, .agg #[.int .i64 o.k, .int .i64 o.a, .int .i64 o.b, .int .i64 o.c, .int .u64 o.v]] w' fun e w'' => e = .returned (.agg #[.int .i64 TH, .int .i64 DN, .int .i64 x.code, .int .u64 x.word, .bool x.bit]) ∧ ∃ tg', Kp W w'' tg' g S σ' ∧ Kept w' tgr (fun _ => (0, 0)) w'' tg' (fun _ => (0, 0))) := fun w' hf => by
          have := (HP5.out.fr0 (stabG _ _ _ _ _ _) stabT hf).do1 stabT HGO.out th o HPO.out
          rw [doV_eq, ← hx, ← hTH, ← hDN, ← hσ'] at this
          exact this
        have HGO' : Hid (GGo 3 8 60 (100 - k) σ') := by rw [hσ']; exact HGO.out.do th o
        have HST : Hid ((x.code ≠ 0 ∨ asksB o.k = true) → shape σ' 3 = shape σ 3 ∧ words σ' 3 = words σ 3) := by rw [hx, hσ']; exact do_still
        have HZR : Hid (x.code ≠ 0 → x.word = 0 ∧ x.bit = false) := by rw [hx]; exact do_zero
        clear hx hTH hDN hσ'
        have HBK : Hid (∀ w' F, Fr F w5 w' → (∀ y, y ∈ F → w5.heap.size ≤ y) → Blk w' ob 38 #[.int .i64 o.k, .int .i64 o.a, .int .i64 o.b, .int .i64 o.c, .int .u64 o.v]) := fun w' F hf hF => HOB.out.fr hf (fun hx => by have := HOB.out.lt; have := hF _ hx; omega)
        have HSC : Hid (∀ w', Fr [] W w' → Blk w' ob 38 #[.int .i64 o.k, .int .i64 o.a, .int .i64 o.b, .int .i64 o.c, .int .u64 o.v] → (w'.cell? ⟨b0, off + k * 6, none⟩ = some (.int .i64 th) ∧ w'.cell? ⟨ob, 0, none⟩ = some (.int .i64 o.k) ∧ w'.cell? ⟨ob, 1, none⟩ = some (.int .i64 o.a) ∧ w'.cell? ⟨ob, 2, none⟩ = some (.int .i64 o.b) ∧ w'.cell? ⟨ob, 3, none⟩ = some (.int .i64 o.c) ∧ w'.cell? ⟨ob, 4, none⟩ = some (.int .u64 o.v))) := fun w' hf hb => ⟨HTC.out w' hf, by rw [hb.cell]; rfl, by rw [hb.cell]; rfl, by rw [hb.cell]; rfl, by rw [hb.cell]; rfl, by rw [hb.cell]; rfl⟩
        have HNW : Hid (W.heap.size ≤ w5.heap.size) := HP5.out.fr.size
        have HZ0 : Hid ((tgr w5.heap.size).1 = 0) := (HP5.out.free (Nat.le_refl _)).1
        have K0 := hide (HSC.out w5.drew (HP5.out.fr.drew) HOB.out.drew)
        go_cut [9] from 41 to 48 (fun p wc => ∃ (ab : Nat) (tg' : TG), p = .pointer (some ⟨ab, 0, none⟩) ∧ Blk wc ab 34 (ansC TH DN x) ∧ (tg' ab).1 = 0 ∧ Blk wc ob 38 #[.int .i64 o.k, .int .i64 o.a, .int .i64 o.b, .int .i64 o.c, .int .u64 o.v] ∧ (tg' ob).1 = 0 ∧ Kp W wc tg' g S σ' ∧ Bef W wc tg' A3 n3 c3 (shape σ 3))
        case first =>
          refine wp_region_held_drew (S := fun w' => w'.cell? ⟨b0, off + k * 6, none⟩ = some (.int .i64 th) ∧ w'.cell? ⟨ob, 0, none⟩ = some (.int .i64 o.k) ∧ w'.cell? ⟨ob, 1, none⟩ = some (.int .i64 o.a) ∧ w'.cell? ⟨ob, 2, none⟩ = some (.int .i64 o.b) ∧ w'.cell? ⟨ob, 3, none⟩ = some (.int .i64 o.c) ∧ w'.cell? ⟨ob, 4, none⟩ = some (.int .u64 o.v)) (by kernel_rfl) (K0.out) (fun hHeld => ?_)
          refine wpAnyH_take (i := 0) (v := ?v0x1) rfl (by kernel_rfl) (by kernel_rfl) (by kernel_rfl) (fun _ _ _ h => h) (Or.inl ⟨by rfl, ?hy0x1⟩) (by assumption) ?rest0x1
          case hy0x1 => (intro w' hSw; (try dsimp only at hSw); (try simp only [List.getElem_toArray, List.getElem_cons_succ, List.getElem_cons_zero]); (first | (go_simp; done) | (go_simp; with_reducible rfl)))
          (try simp only [Act.put, List.getElem_toArray, List.getElem_cons_succ, List.getElem_cons_zero, List.setIfInBounds_toArray, List.set_cons_zero, List.set_cons_succ])
          refine wpAnyH_take (i := 1) (v := ?v1x2) rfl (by kernel_rfl) (by kernel_rfl) (by kernel_rfl) (fun _ _ _ h => h) (Or.inl ⟨by rfl, ?hy1x2⟩) (by assumption) ?rest1x2
          case hy1x2 => (intro w' hSw; (try dsimp only at hSw); (try simp only [List.getElem_toArray, List.getElem_cons_succ, List.getElem_cons_zero]); (first | (go_simp; done) | (go_simp; with_reducible rfl)))
          (try simp only [Act.put, List.getElem_toArray, List.getElem_cons_succ, List.getElem_cons_zero, List.setIfInBounds_toArray, List.set_cons_zero, List.set_cons_succ])
          refine wpAnyH_take (i := 2) (v := ?v2x3) rfl (by kernel_rfl) (by kernel_rfl) (by kernel_rfl) (fun _ _ _ h => h) (Or.inl ⟨by rfl, ?hy2x3⟩) (by assumption) ?rest2x3
          case hy2x3 => (intro w' hSw; (try dsimp only at hSw); (try simp only [List.getElem_toArray, List.getElem_cons_succ, List.getElem_cons_zero]); (first | (go_simp; done) | (go_simp; with_reducible rfl)))
          (try simp only [Act.put, List.getElem_toArray, List.getElem_cons_succ, List.getElem_cons_zero, List.setIfInBounds_toArray, List.set_cons_zero, List.set_cons_succ])
          refine wpAnyH_take (i := 3) (v := ?v3x4) rfl (by kernel_rfl) (by kernel_rfl) (by kernel_rfl) (fun _ _ _ h => h) (Or.inl ⟨by rfl, ?hy3x4⟩) (by assumption) ?rest3x4
          case hy3x4 => (intro w' hSw; (try dsimp only at hSw); (try simp only [List.getElem_toArray, List.getElem_cons_succ, List.getElem_cons_zero]); (first | (go_simp; done) | (go_simp; with_reducible rfl)))
          (try simp only [Act.put, List.getElem_toArray, List.getElem_cons_succ, List.getElem_cons_zero, List.setIfInBounds_toArray, List.set_cons_zero, List.set_cons_succ])
          refine wpAnyH_take (i := 4) (v := ?v4x5) rfl (by kernel_rfl) (by kernel_rfl) (by kernel_rfl) (fun _ _ _ h => h) (Or.inl ⟨by rfl, ?hy4x5⟩) (by assumption) ?rest4x5
          case hy4x5 => (intro w' hSw; (try dsimp only at hSw); (try simp only [List.getElem_toArray, List.getElem_cons_succ, List.getElem_cons_zero]); (first | (go_simp; done) | (go_simp; with_reducible rfl)))
          (try simp only [Act.put, List.getElem_toArray, List.getElem_cons_succ, List.getElem_cons_zero, List.setIfInBounds_toArray, List.set_cons_zero, List.set_cons_succ])
          refine wpAnyH_take (i := 5) (v := ?v5x6) rfl (by kernel_rfl) (by kernel_rfl) (by kernel_rfl) (fun _ _ _ h => h) (Or.inl ⟨by rfl, ?hy5x6⟩) (by assumption) ?rest5x6
          case hy5x6 => (intro w' hSw; (try dsimp only at hSw); (try simp only [List.getElem_toArray, List.getElem_cons_succ, List.getElem_cons_zero]); (first | (go_simp; done) | (go_simp; with_reducible rfl)))
          (try simp only [Act.put, List.getElem_toArray, List.getElem_cons_succ, List.getElem_cons_zero, List.setIfInBounds_toArray, List.set_cons_zero, List.set_cons_succ])
          refine wpAnyH_take (i := 6) (v := ?v6x7) rfl (by kernel_rfl) (by kernel_rfl) (by kernel_rfl) (fun _ _ _ h => h) (Or.inl ⟨by rfl, ?hy6x7⟩) (by assumption) ?rest6x7
          case hy6x7 => (intro w' hSw; (try dsimp only at hSw); (try simp only [List.getElem_toArray, List.getElem_cons_succ, List.getElem_cons_zero]); (first | (go_simp; done) | (go_simp; with_reducible rfl)))
          (try simp only [Act.put, List.getElem_toArray, List.getElem_cons_succ, List.getElem_cons_zero, List.setIfInBounds_toArray, List.set_cons_zero, List.set_cons_succ])
          refine wpAnyH_ready (rs := [7, 8]) (by kernel_rfl) (by simp) ?_
          refine AllReadyH.cons rfl (fun K hK => ?_) (AllReadyH.cons rfl (fun K hK => ?_) AllReadyH.nil)
          · (try simp only [List.getElem_toArray, List.getElem_cons_succ, List.getElem_cons_zero])
            go_simp
            (go_at_call 11; refine (HD.out _ ((Fr.refl _ _).drew)).mono ?_; rintro e w6 ⟨rfl, tg6, hp6, hk6⟩; have hob6 := hk6 _ _ _ HOB.out.drew HOT.out rfl; have HP6 := hide hp6; have HB6 := hide (HBF5.out.fr0 ((Fr.refl [] w5).drew) |>.kept hk6); have HO6 := hide hob6.1; have HT6 := hide hob6.2.1; have X6 := hide (HSC.out w6 hp6.fr hob6.1); have HA6 := hide (hp6.free (Nat.le_refl _)).1; have HW6 : Hid (W.heap.size ≤ w6.heap.size) := hp6.fr.size; have HKA : Hid (∀ w', Fr [] w6 w' → (w'.cell? ⟨b0, off + k * 6, none⟩ = some (.int .i64 th) ∧ w'.cell? ⟨ob, 0, none⟩ = some (.int .i64 o.k) ∧ w'.cell? ⟨ob, 1, none⟩ = some (.int .i64 o.a) ∧ w'.cell? ⟨ob, 2, none⟩ = some (.int .i64 o.b) ∧ w'.cell? ⟨ob, 3, none⟩ = some (.int .i64 o.c) ∧ w'.cell? ⟨ob, 4, none⟩ = some (.int .u64 o.v))) := fun w' hf => HSC.out w' (hp6.fr.trans_same hf) (hob6.1.fr hf (by simp)); clear hp6 hk6 hob6)
            (try go_wp2_with fail)
            refine hK.out _ _ (X6.out) (fun hHeld => ?_)
            clear hK K
            (try simp only [Act.put, List.setIfInBounds_toArray, List.set_cons_zero, List.set_cons_succ])
            refine wpAnyH_ready (rs := [8]) (by kernel_rfl) (by simp) ?_
            refine AllReadyH.cons rfl (fun K hK => ?_) AllReadyH.nil
            (try simp only [List.getElem_toArray, List.getElem_cons_succ, List.getElem_cons_zero])
            go_simp
            refine hK.out _ _ (HKA.out _ ((Fr.refl _ _).alloc _)) (fun hHeld => ?_)
            clear hK K
            (try simp only [Act.put, List.setIfInBounds_toArray, List.set_cons_zero, List.set_cons_succ])
            refine wpAnyH_ready (rs := [9]) (by kernel_rfl) (by simp) ?_
            refine AllReadyH.cons rfl (fun K hK => ?_) AllReadyH.nil
            (try simp only [List.getElem_toArray, List.getElem_cons_succ, List.getElem_cons_zero])
            go_simp
            refine hK.out _ _ (by first | exact HKA.out _ ((Fr.refl _ _).alloc _)) (fun hHeld => ?_)
            clear hK K
            (try simp only [Act.put, List.setIfInBounds_toArray, List.set_cons_zero, List.set_cons_succ])
            refine wpAnyH_done (by kernel_rfl) ?_ _
            go_wp2_with fail
            go_meet
            case rel =>
              refine ⟨w6.heap.size, tg6, rfl, fin HP6.out HB6.out HO6.out HT6.out ?_ HW6.out HA6.out (.inl (Nat.le_refl _)) ?_⟩
              · exact (Fr.refl _ _).alloc _
              · exact Blk.new _ _ _
          · (try simp only [List.getElem_toArray, List.getElem_cons_succ, List.getElem_cons_zero])
            go_simp
            refine hK.out _ _ (HSC.out _ ((HP5.out.fr.drew).alloc _) (HOB.out.drew.alloc _)) (fun hHeld => ?_)
            clear hK K
            (try simp only [Act.put, List.setIfInBounds_toArray, List.set_cons_zero, List.set_cons_succ])
            refine wpAnyH_ready (rs := [7]) (by kernel_rfl) (by simp) ?_
            refine AllReadyH.cons rfl (fun K hK => ?_) AllReadyH.nil
            (try simp only [List.getElem_toArray, List.getElem_cons_succ, List.getElem_cons_zero])
            go_simp
            (go_at_call 11; refine (HD.out _ (((Fr.refl _ _).drew).alloc _)).mono ?_; rintro e w6 ⟨rfl, tg6, hp6, hk6⟩; have hob6 := hk6 _ _ _ (HOB.out.drew.alloc (.cells #[.int .i64 0, .int .i64 0, .int .i64 0, .int .u64 0, .bool false] 34)) HOT.out rfl; have hab6 : Blk w6 w5.heap.size 34 #[.int .i64 0, .int .i64 0, .int .i64 0, .int .u64 0, .bool false] ∧ (tg6 w5.heap.size).1 = 0 ∧ _ := hk6 _ _ _ (Blk.new w5.drew 34 #[.int .i64 0, .int .i64 0, .int .i64 0, .int .u64 0, .bool false]) HZ0.out rfl; have HP6 := hide hp6; have HB6 := hide (HBF5.out.fr0 (((Fr.refl [] w5).drew).alloc (.cells #[.int .i64 0, .int .i64 0, .int .i64 0, .int .u64 0, .bool false] 34)) |>.kept hk6); have HO6 := hide hob6.1; have HT6 := hide hob6.2.1; have X6 := hide (HSC.out w6 hp6.fr hob6.1); have HAB6 := hide hab6.1; have HAT6 := hide hab6.2.1; have a0 : w6.cell? ⟨w5.heap.size, 0, none⟩ = some (.int .i64 0) := (by rw [hab6.1.cell]; rfl); have a1 : w6.cell? ⟨w5.heap.size, 1, none⟩ = some (.int .i64 0) := (by rw [hab6.1.cell]; rfl); have a2 : w6.cell? ⟨w5.heap.size, 2, none⟩ = some (.int .i64 0) := (by rw [hab6.1.cell]; rfl); have a3 : w6.cell? ⟨w5.heap.size, 3, none⟩ = some (.int .u64 0) := (by rw [hab6.1.cell]; rfl); have a4 : w6.cell? ⟨w5.heap.size, 4, none⟩ = some (.bool false) := (by rw [hab6.1.cell]; rfl); have z0 := hab6.1.frozen 0; have z1 := hab6.1.frozen 1; have z2 := hab6.1.frozen 2; have z3 := hab6.1.frozen 3; have z4 := hab6.1.frozen 4; have HKB : Hid (∀ w', Fr [w5.heap.size] w6 w' → (w'.cell? ⟨b0, off + k * 6, none⟩ = some (.int .i64 th) ∧ w'.cell? ⟨ob, 0, none⟩ = some (.int .i64 o.k) ∧ w'.cell? ⟨ob, 1, none⟩ = some (.int .i64 o.a) ∧ w'.cell? ⟨ob, 2, none⟩ = some (.int .i64 o.b) ∧ w'.cell? ⟨ob, 3, none⟩ = some (.int .i64 o.c) ∧ w'.cell? ⟨ob, 4, none⟩ = some (.int .u64 o.v))) := fun w' hf => HSC.out w' (hp6.fr.trans hf (fun y hy => .inr (by simp at hy; have := HNW.out; omega))) (hob6.1.fr hf (by simp; exact Blk.apart hob6.1 hab6.1 (by decide))); clear hp6 hk6 hob6 hab6)
            (try go_wp2_with fail)
            refine hK.out _ _ (X6.out) (fun hHeld => ?_)
            clear hK K
            (try simp only [Act.put, List.setIfInBounds_toArray, List.set_cons_zero, List.set_cons_succ])
            refine wpAnyH_ready (rs := [9]) (by kernel_rfl) (by simp) ?_
            refine AllReadyH.cons rfl (fun K hK => ?_) AllReadyH.nil
            (try simp only [List.getElem_toArray, List.getElem_cons_succ, List.getElem_cons_zero])
            go_simp
            refine hK.out _ _ (HKB.out _ (by (iterate 5 (refine Fr.setCell ?_ (.inl (by simp)) _)); exact Fr.refl _ _)) (fun hHeld => ?_)
            clear hK K
            (try simp only [Act.put, List.setIfInBounds_toArray, List.set_cons_zero, List.set_cons_succ])
            refine wpAnyH_done (by kernel_rfl) ?_ _
            go_wp2_with fail
            go_meet
            case rel =>
              refine ⟨w5.heap.size, tg6, rfl, fin HP6.out HB6.out HO6.out HT6.out ?_ HNW.out HAT6.out (.inr ⟨_, HAB6.out⟩) ?_⟩
              · iterate 5 (refine Fr.setCell ?_ (.inl (by simp)) _)
                exact Fr.refl _ _
              · have := ((((HAB6.out.put 0 (.int .i64 TH)).put 1 (.int .i64 DN)).put 2 (.int .i64 x.code)).put 3 (.int .u64 x.word)).put 4 (.bool x.bit)
                simpa [ansC] using this
        case rest =>
          obtain ⟨ab, tg6, rfl, y1, y2, y3, y4, y5, y6⟩ := hcut
          obtain ⟨w6, hw6⟩ : ∃ w6, w6 = wc := ⟨_, rfl⟩
          subst hw6
          have Y5 := hide y5
          have Y6 := hide y6
          have p0 : w6.cell? ⟨ob, 0, none⟩ = some (.int .i64 o.k) := by rw [y3.cell]; rfl
          have q2 : w6.cell? ⟨ab, 2, none⟩ = some (.int .i64 x.code) := by rw [y1.cell]; rfl
          have q3 : w6.cell? ⟨ab, 3, none⟩ = some (.int .u64 x.word) := by rw [y1.cell]; rfl
          have q4 : w6.cell? ⟨ab, 4, none⟩ = some (.bool x.bit) := by rw [y1.cell]; rfl
          clear y1 y2 y3 y4 y5 y6 HD HBK HSC HNW HZ0 K0 HOB HOT HP5 HBF5 HTC HGO HPO
          go_upto_region 15 with fail
          go_cut [10] from 49 to 71 (fun p wc => p = .bool (asksB o.k) ∧ wc = w6)
          case first =>
            rcases (show ((o.k == 4) = true) ∨ ((o.k == 4) = false ∧ (o.k == 9) = true) ∨ ((o.k == 4) = false ∧ (o.k == 9) = false ∧ (o.k == 10) = true) ∨ ((o.k == 4) = false ∧ (o.k == 9) = false ∧ (o.k == 10) = false ∧ (o.k == 11) = true) ∨ ((o.k == 4) = false ∧ (o.k == 9) = false ∧ (o.k == 10) = false ∧ (o.k == 11) = false ∧ (o.k == 12) = true) ∨ ((o.k == 4) = false ∧ (o.k == 9) = false ∧ (o.k == 10) = false ∧ (o.k == 11) = false ∧ (o.k == 12) = false) by simp; omega) with k1 | ⟨k1, k2⟩ | ⟨k1, k2, k3⟩ | ⟨k1, k2, k3, k4⟩ | ⟨k1, k2, k3, k4, k5⟩ | ⟨k1, k2, k3, k4, k5⟩
            iterate 5
              focus
                have HEK : Hid (asksB o.k = true) := by
                  show asksB o.k = true
                  simp only [beq_iff_eq] at *
                  simp [asksB, *]
                go_wp2_with fail
                go_meet
                case rel => exact ⟨by rw [HEK.out], rfl⟩
            have HEK : Hid (asksB o.k = false) := by
              show asksB o.k = false
              simp at k1 k2 k3 k4 k5
              simp [asksB, k1, k2, k3, k4, k5]
            go_wp2_with fail
            go_meet
            case rel => exact ⟨by rw [HEK.out], rfl⟩
          case rest =>
            obtain ⟨rfl, hwc⟩ := hcut
            subst hwc
            obtain ⟨w6, hw6⟩ : ∃ w6, w6 = wc := ⟨_, rfl⟩
            subst hw6
            have HGS := hide (Y5.out.shape1 HGO'.out)
            have HEQ : Hid ((x.code ≠ 0 ∨ asksB o.k = true) → ∀ w7 A7 n7 c7 G7, Fr [] w6 w7 → Lr w7 32 A7 n7 c7 G7 (refV (shape σ' 3)) → (Calls Try.prog 13 #[.slice A7 n7 c7, .slice A3 n3 c3] w7 fun e w' => e = .returned (.bool true) ∧ ∃ k, w' = w7.drewN k) ∧ ∀ k, Calls Try.prog 16 #[.pointer (some ⟨g, 0, none⟩)] (w7.drewN k) fun e w' => e = .returned (.int .i64 (ww : Int)) ∧ Fr [] (w7.drewN k) w') := fun hc w7 A7 n7 c7 G7 hf hl => by
              obtain ⟨e1, e2⟩ := HST.out hc
              rw [e1] at hl
              obtain ⟨G3', h3, _⟩ := Y6.out
              have l7 : (shape σ 3).length = n7 := by have := hl.len; rwa [refV_len] at this
              have l3 : (shape σ 3).length = n3 := by have := h3.len; rwa [refV_len] at this
              have m3 : n3 ≤ 9223372036854775807 := by
                have h8 := h3.max
                unfold maxLen at h8
                exact Nat.le_trans h3.le h8
              refine ⟨?_, fun k => ?_⟩
              · have h10 := gsame_any (ca := c7) (cb := c3) (xs := shape σ 3) (ys := shape σ 3) (refSl (l7 ▸ hl)) (refSl (l3 ▸ (h3.fr0 hf))) (by omega) (by omega)
                rw [show decide (shape σ 3 = shape σ 3) = true by simp] at h10
                have e73 : n7 = n3 := by omega
                rw [e73]
                rw [l3] at h10
                exact h10
              · have h10 := (Y5.out.fr0 (stabG _ _ _ _ _ _) stabT (hf.drewN k)).words1 HGO'.out
                rw [e2, ← HWD.out] at h10
                exact h10
            clear p0
            generalize asksB o.k = ask at *
            go_upto_region 16 with fail
            go_cut [90] from 72 to 90 (fun p wc => p = .bool false ∧ Fr [] w6 wc)
            case first =>
              by_cases hc : x.code = 0
              · rw [hc] at q2
                cases ask with
                | true =>
                  have HE := hide (HEQ.out (.inr rfl))
                  clear HEQ HST HZR hc
                  go_wp2_with fail
                  refine HGS.out.mono ?_
                  rintro e w7 ⟨A7, n7, c7, G7, rfl, hl7, hf7, _⟩
                  obtain ⟨hs, hwo⟩ := HE.out _ _ _ _ _ hf7 hl7
                  have HS7 := hide hs
                  have HW7 := hide hwo
                  have HF7 := hide hf7
                  clear hs hwo hl7 hf7
                  go_wp2_with fail
                  refine HS7.out.mono ?_
                  rintro e w8 ⟨rfl, q, rfl⟩
                  go_wp2_with fail
                  refine (HW7.out q).mono ?_
                  rintro e w9 ⟨rfl, hf9⟩
                  have HR : Hid (Fr [] w6 w9) := (HF7.out.drewN q).trans_same hf9
                  clear hf9
                  go_wp2_with fail
                  go_meet
                  case rel => exact ⟨rfl, HR.out⟩
                | false =>
                  clear HEQ HST HZR hc
                  go_wp2_with fail
                  go_meet
                  case rel => exact ⟨rfl, Fr.refl _ _⟩
              · have HE := hide (HEQ.out (.inl hc))
                have hcn : (x.code != 0) = true := by simpa using hc
                clear HEQ HST HZR
                go_wp2_with fail
                refine HGS.out.mono ?_
                rintro e w7 ⟨A7, n7, c7, G7, rfl, hl7, hf7, _⟩
                obtain ⟨hs, hwo⟩ := HE.out _ _ _ _ _ hf7 hl7
                have HS7 := hide hs
                have HW7 := hide hwo
                have HF7 := hide hf7
                clear hs hwo hl7 hf7
                go_wp2_with fail
                refine HS7.out.mono ?_
                rintro e w8 ⟨rfl, q, rfl⟩
                go_wp2_with fail
                refine (HW7.out q).mono ?_
                rintro e w9 ⟨rfl, hf9⟩
                have HR : Hid (Fr [] w6 w9) := (HF7.out.drewN q).trans_same hf9
                clear hf9
                go_wp2_with fail
                go_meet
                case rel => exact ⟨rfl, HR.out⟩
            case rest =>
              obtain ⟨rfl, hf7⟩ := hcut
              obtain ⟨w7, hw7⟩ : ∃ w7, w7 = wc := ⟨_, rfl⟩
              subst hw7
              have HR1 : Hid (Kp W w7 tg6 g S σ') := Y5.out.fr0 (stabG _ _ _ _ _ _) stabT hf7
              have HR2 : Hid (Bef W w7 tg6 A3 n3 c3 (shape σ 3)) := Y6.out.fr0 hf7
              have r2 : w7.cell? ⟨ab, 2, none⟩ = some (.int .i64 x.code) := (hf7.cell (p := ⟨ab, 2, none⟩) (lt_of_cell q2) (by simp)).trans q2
              have r3 : w7.cell? ⟨ab, 3, none⟩ = some (.int .u64 x.word) := (hf7.cell (p := ⟨ab, 3, none⟩) (lt_of_cell q3) (by simp)).trans q3
              have r4 : w7.cell? ⟨ab, 4, none⟩ = some (.bool x.bit) := (hf7.cell (p := ⟨ab, 4, none⟩) (lt_of_cell q4) (by simp)).trans q4
              clear hf7 Y5 Y6 q2 q3 q4 HEQ HGS HST
              go_upto_region 18 with fail
              go_cut [102] from 91 to 102 (fun p wc => p = .bool false ∧ wc = w7)
              case first =>
                by_cases hc : x.code = 0
                · rw [hc] at r2
                  clear HZR hc
                  go_wp2_with fail
                  go_meet
                  case rel => exact ⟨rfl, rfl⟩
                · obtain ⟨hz1, hz2⟩ := HZR.out hc
                  rw [hz1] at r3
                  rw [hz2] at r4
                  have hcn : (x.code != 0) = true := by simpa using hc
                  clear HZR hz1 hz2
                  go_wp2_with fail
                  go_meet
                  case rel => exact ⟨rfl, rfl⟩
              case rest =>
                obtain ⟨rfl, hwc⟩ := hcut
                subst hwc
                clear r2 r3 r4 HZR
                go_wp2_with fail
                go_loopw [11] (fun i wr => ∃ (j : Nat) (xs : List Int), i = .int .i64 j ∧ j ≤ n3 ∧ Kp W wr tg6 g S σ' ∧ Bef W wr tg6 A3 n3 c3 xs) (fun i _ => n3 - (intOf i).toNat)
                case atStart => exact ⟨0, _, rfl, Nat.zero_le _, HR1.out, HR2.out⟩
                case round =>
                  obtain ⟨j, xs, rfl, hj, hp6, hb6⟩ := hrel
                  have HP6 := hide hp6
                  by_cases hlt5 : j < n3
                  · have hlt6 : (j : Int) < (n3 : Int) := by omega
                    obtain ⟨G6, h3, h4⟩ := hb6
                    have hm3 : n3 ≤ 9223372036854775807 := by
                      have h8 := h3.max
                      unfold maxLen at h8
                      exact Nat.le_trans h3.le h8
                    obtain ⟨g6, o6, rfl, rfl, _, hcell6, hfz6, _⟩ := h3.pos (by omega)
                    have hl6 : j < xs.length := by have := h3.len; rw [refV_len] at this; omega
                    have y0 : wr.cell? ⟨g6, o6 + j, none⟩ = some (.int .u64 (xs.getD j 0)) := by rw [hcell6 j hlt5, refV_get _ hl6]
                    have z0 := hfz6 (o6 + j)
                    have HF6 : Hid (Fr [g6] wr (wr.setCell ⟨g6, o6 + j, none⟩ (.int .u64 99))) := (Fr.refl _ _).setCell (p := ⟨g6, o6 + j, none⟩) (.inl (by simp)) _
                    have HB6 : Hid (Bef W (wr.setCell ⟨g6, o6 + j, none⟩ (.int .u64 99)) tg6 (some ⟨g6, o6, none⟩) n3 c3 (xs.set j 99)) := ⟨[g6], by rw [refV_set]; exact h3.put hlt5 _, h4⟩
                    have HP7 : Hid (Kp W (wr.setCell ⟨g6, o6 + j, none⟩ (.int .u64 99)) tg6 g S σ') := HP6.out.poke (stabG _ _ _ _ _ _) stabT HF6.out (fun y hy => by simp at hy; rw [hy]; exact ⟨(h4 g6 (by simp)).1, (h4 g6 (by simp)).2, rfl⟩)
                    generalize xs.getD j 0 = yv at *
                    clear hp6 h3 h4 hcell6 hfz6 HP6 HF6 HR1 HR2
                    go_wp2_with fail
                    go_roundw
                    case rel => exact ⟨j + 1, _, by go_num, by omega, HP7.out, HB6.out⟩
                    case measure => simp [intOf]; omega
                  · obtain rfl : j = n3 := by omega
                    clear hp6 hb6 HR1 HR2
                    go_wp2_with fail
                    go_roundw
                    case rel => exact ⟨k + 1, tg6, σ', by go_num, by omega, by omega, HP6.out, by have := HGO'.out; rw [show 101 - (k + 1) = 100 - k by omega]; exact this⟩
                    case measure => simp [intOf]; omega
      · have hway : ¬ (k : Int) < (na : Int) ∨ ((k : Int) < (na : Int) ∧ ¬ (k : Int) < 100) := by omega
        have HFE : Hid (Fr [] W wr) := hp.fr
        clear hp hgo hlt HP
        rcases hway with w1 | ⟨w1, w2⟩
        all_goals
          go_wp2_with fail
          go_ret
          exact ⟨rfl, HFE.out.below_nil⟩
set_option maxRecDepth 100000 in
theorem holds {H : Type} {enc : TypeId × Value → H} {W : World} {base : Nat} {args : Array Value} {ds : List (DataW H)} {p : List MemPlace}
    (hval : ∀ (j : Nat) t v, Try.f4.params[j]? = some t → args[j]? = some v → Value.okWide Try.prog W .any base t v)
    (hA : DataW.TrodAll enc Try.prog W 0 (fun _ => true) true Try.f4.params.toList args.toList ds p) : Holds Try.prog 4 args W := by
  rw [Try.params4] at hA hval
  obtain ⟨v0, vs0, d0, ds0, p0, q0, hargs, rfl, rfl, h0, r0⟩ := trodAll_cons hA
  obtain ⟨rfl, rfl, rfl⟩ := trodAll_nil r0
  obtain rfl : args = #[v0] := by cases args; simp_all
  obtain ⟨A, na, ca, f, rfl, hna, hA2, hw⟩ := open_recsN (ks := kinds13) (C := 6) Try.underlying22 (by kernel_rfl) (by decide) (fun n cs y h => act_cells h) (hval 0 22 v0 rfl rfl) h0
  exact walk W A na ca f hA2 hw hna
set_option maxRecDepth 100000 in
theorem readable : ∀ t, t ∈ Try.f4.params.toList → Try.prog.readableRec t = true ∧ t < Try.prog.types.size := by
  intro t ht
  rw [Try.params4] at ht
  have hm : t = 22 := by simp at ht; omega
  rcases hm with rfl
  all_goals exact ⟨by kernel_rfl, of_decide_eq_true (by kernel_rfl)⟩
theorem laid_met (os : Os) : laidMet Try.prog Rows.graphKeepsRow.laid ((laidWorld os).forCall (fun _ _ => 0) ⟨#[], #[.slice none 0 0], []⟩).memory :=
  ⟨[], rfl, List.nodup_nil, fun _ _ h => by cases h⟩
theorem reads (os : Os) {H : Type} (enc : TypeId × Value → H) : ∃ places, DataW.whole enc Try.prog ((laidWorld os).forCall (fun _ _ => 0) ⟨#[], #[.slice none 0 0], []⟩).memory Try.f4.params.toList Rows.graphKeepsSpec.vars false (#[.slice none 0 0] : Array Value).toList 8 = some ([.nil], [], places) :=
  ⟨[], by kernel_rfl⟩
theorem spec {H : Type} : ∀ ds : List (DataW H), ds.length = Try.f4.params.toList.length → Rows.graphKeepsSpec.fn H (ds ++ []) = { results := [.lit (.bool true)], args := ds, vars := [] } := by
  intro ds h
  rw [Try.params4] at h
  simp only [List.append_nil]
  match ds, h with
  | [_], _ => rfl

set_option maxRecDepth 100000 in
theorem lifted (os : Os) (started : os.Started) (H : Type) (enc : TypeId × Value → H) (F : Stop.Interp) :
    ReturnsInHanded {} Try.checked os 4 .any ((OpenSpec.ofChange Rows.graphKeepsSpec).preRow enc Try.prog Try.f4 Rows.graphKeepsRow.domain false Rows.graphKeepsRow.laid) (((OpenSpec.ofChange Rows.graphKeepsSpec).at F).post enc Try.prog Try.f4 false true false false) := by
  obtain ⟨places, hx⟩ := reads os enc
  refine returnsInHanded_of_row (C := Try.checked) (s := OpenSpec.ofChange Rows.graphKeepsSpec) own started (by kernel_rfl) Try.func4
    (witness_row_at (enc := enc) (C := Try.checked) false (laidWorld os) #[.slice none 0 0] rfl (by kernel_rfl) (by kernel_rfl) (by kernel_rfl)
      (OpenSpec.preRow_of_cond 8 hx (by kernel_rfl) (fun k hk => by cases hk) (by kernel_rfl) (laid_met os))) ?_
  intro W base args ds gs before hval hW _ _ _ hL _ _
  have hW' : DataW.Whole enc Try.prog Try.f4.params.toList Rows.graphKeepsSpec.vars false W args.toList ds gs before := hW
  exact law_close (s := Rows.graphKeepsSpec) rfl rfl Try.underlying4 spec laidOut readable hW' (by
    obtain ⟨p, q, hA, _⟩ := hW'
    exact holds hval hA)

theorem said : Rows.GraphKeepsSaid :=
  OpenClaim.holds_of_cond 4 Try.f4 rfl rfl rfl rfl rfl rfl rfl ⟨rfl, rfl, rfl, rfl, rfl⟩ rfl rfl rfl rfl rfl (by kernel_rfl) Try.func4 (by kernel_rfl)
    (of_decide_eq_true (by kernel_rfl)) (by unfold Func.isWrapper; first | (rw [if_pos (by decide +kernel)]; kernel_rfl) | (rw [if_neg (by decide +kernel)]; exact ⟨rfl, rfl⟩))
    (fun os started H enc _ F => by rw [OpenClaim.pre_eq_preRow]; exact lifted os started H enc F)
end Go.Proofs.Ytmodjkglcgoohaa.GraphKeeps
