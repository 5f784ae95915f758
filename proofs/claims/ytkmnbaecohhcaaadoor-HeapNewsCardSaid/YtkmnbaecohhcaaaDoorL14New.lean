/- HeapNews: the walk. -/
import Derived.Test.YtkmnbaecohhcaaaDoorL14Na
import Derived.Deep.RegionHeld3
import Derived.Deep.RegionHeld
import Derived.Deep.CutRange
namespace Go.Proofs.YtkmnbaecohhcaaaDoor.HeapNews
set_option linter.unusedVariables false
set_option linter.unusedSimpArgs false
set_option maxRecDepth 100000
open Go.RowKit Go.Gl

set_option maxHeartbeats 6400000 in
theorem walk (c : Cfg) (w : World) (hT : Tab w) : Calls Tryd.prog 3 #[c.val] w fun e w' => e = .returned (.bool true) ∧ Fr [] w w' := by
  have HT := hide hT
  clear hT
  by_cases hm : mayB c = false
  · have HG : Hid (∀ w', Calls Tryd.prog 5 #[c.val] w' fun e w'' => e = .returned (.tuple #[.agg #[.int .i64 0, .int .i64 0, .int .i64 0, .int .i64 0, .int .i64 0, .int .i64 0], .int .i64 20]) ∧ Fr [] w' w'') := fun w' => (gnew_any c w').mono fun e w'' ⟨h1, h2⟩ => ⟨by rw [h1]; unfold Cfg.ans Cfg.err; rw [hm]; rfl, h2⟩
    have HN : Hid (∀ w', Calls Tryd.prog 6 #[c.val] w' fun e w'' => e = .returned (.tuple #[.pointer none, .int .i64 20]) ∧ Fr [] w' w'') := fun w' => heapnew_bad c hm w'
    clear hm
    unfold Cfg.val at HG HN ⊢
    go_enter Tryd.func3, Tryd.ntmps3
    go_wp2_with fail
    refine (awake14_any _ (HT.out.alloc _)).mono ?_
    rintro e w1 ⟨rfl, hf⟩
    have CA := CfgAt.of ((Blk.new w 23 c.cells).fr hf (by simp))
    obtain ⟨a0, a1, a2, a3, a4, a5, a6, a7, a8, a9, a10, a11, a12, a13⟩ := CA
    have HF : Hid (Fr [] w w1) := ((Fr.refl _ _).alloc _).trans_same hf
    clear hf
    go_wp2_with fail
    refine (HG.out _).mono ?_
    rintro e w2 ⟨rfl, hf⟩
    have K : Hid (CfgAt w2 w.heap.size c) := (⟨a0, a1, a2, a3, a4, a5, a6, a7, a8, a9, a10, a11, a12, a13⟩ : CfgAt w1 w.heap.size c).fr hf
    have HF2 : Hid (Fr [] w w2) := HF.out.trans_same hf
    clear hf HF a0 a1 a2 a3 a4 a5 a6 a7 a8 a9 a10 a11 a12 a13
    obtain ⟨a0, a1, a2, a3, a4, a5, a6, a7, a8, a9, a10, a11, a12, a13⟩ := K.out
    have N0 : w.heap.size < w2.heap.size := lt_of_cell a0
    go_wp2_with fail
    refine (HN.out _).mono ?_
    rintro e w3 ⟨rfl, hf⟩
    have HF3 : Hid (Fr [] w w3) := (HF2.out.alloc _).trans_same hf
    clear hf a0 a1 a2 a3 a4 a5 a6 a7 a8 a9 a10 a11 a12 a13
    go_wp2_with fail
    go_ret
    exact ⟨rfl, HF3.out⟩
  · have hm : mayB c = true := by simpa using hm
    obtain ⟨W0, R, C, P, T, B, qm, s, k, ok⟩ := nwOk_of hm
    have HG : Hid (∀ w', Calls Tryd.prog 5 #[c.val] w' fun e w'' => e = .returned (.tuple #[c.geo.val, .int .i64 0]) ∧ Fr [] w' w'') := fun w' => (gnew_any c w').mono fun e w'' ⟨h1, h2⟩ => ⟨by rw [h1]; unfold Cfg.ans Cfg.err; rw [hm]; rfl, h2⟩
    have HN : Hid (∀ w', Tab w' → Calls Tryd.prog 6 #[c.val] w' (HNewP w' c c.geo W0 R (R * W0) T C P qm B s k)) := fun w' hT => heapnew_ok hm ok w' hT
    have HOK := hide ok
    obtain ⟨-, dm, hth, hro, -, t1, t2, b1, b2, -⟩ := ok
    obtain ⟨g, hg⟩ : ∃ g, g = c.geo := ⟨_, rfl⟩
    rw [← hg] at HG HN dm
    have hw := dm.wd
    have hrg := dm.rg
    have hr2 := dm.r2
    have hr3 := dm.r3
    have hmx := dm.mx
    have HEQ : Hid (c.threads = (T : Int) ∧ c.roots = (B : Int) ∧ g.regions = (R : Int) ∧ g.words = ((R * W0 : Nat) : Int)) := ⟨hth, hro, hrg, hw⟩
    clear hm hg dm HOK hth hro hrg hw
    unfold Cfg.val at HG HN ⊢
    unfold Geo.val at HG
    go_enter Tryd.func3, Tryd.ntmps3
    go_wp2_with fail
    refine (awake14_any _ (HT.out.alloc _)).mono ?_
    rintro e w1 ⟨rfl, hf⟩
    have CA := CfgAt.of ((Blk.new w 23 c.cells).fr hf (by simp))
    have HB1 := hide ((Blk.new w 23 c.cells).fr hf (by simp))
    obtain ⟨a0, a1, a2, a3, a4, a5, a6, a7, a8, a9, a10, a11, a12, a13⟩ := CA
    have HF : Hid (Fr [] w w1) := ((Fr.refl _ _).alloc _).trans_same hf
    clear hf
    go_wp2_with fail
    refine (HG.out _).mono ?_
    rintro e w2 ⟨rfl, hf⟩
    have HB2 := hide (HB1.out.fr hf (by simp))
    have HF2 : Hid (Fr [] w w2) := HF.out.trans_same hf
    clear hf HF a0 a1 a2 a3 a4 a5 a6 a7 a8 a9 a10 a11 a12 a13 HB1
    obtain ⟨a0, a1, a2, a3, a4, a5, a6, a7, a8, a9, a10, a11, a12, a13⟩ := CfgAt.of HB2.out
    have N0 : w.heap.size < w2.heap.size := lt_of_cell a0
    have HG2 : Hid (Blk (w2.alloc (.cells #[.int .i64 g.words, .int .i64 g.rw, .int .i64 g.cw, .int .i64 g.regions, .int .i64 g.cards, .int .i64 g.max] 26)) w2.heap.size 26 g.cells) := Blk.new _ _ _
    by_cases hbig : g.words > 65536
    · have HF3 := hide (HF2.out.alloc (.cells #[.int .i64 g.words, .int .i64 g.rw, .int .i64 g.cw, .int .i64 g.regions, .int .i64 g.cards, .int .i64 g.max] 26))
      go_wp2_with fail
      go_ret
      exact ⟨rfl, HF3.out⟩
    · go_wp2_with fail
      refine (HN.out _ ((HT.out.fr HF2.out (by simp)).alloc _)).mono ?_
      intro e w4 hP
      obtain ⟨L, X, own, rfl, hH, hB, hcf, hf, hown⟩ := hP.at (HF2.out.alloc _)
      have hA : At w w4 L X own c g W0 R T C P qm s k w.heap.size w2.heap.size := ⟨hH, ((HB2.out.alloc _).fr hf (by simp)), HG2.out.fr hf (by simp), hown _ (by simp; omega), hown _ (by simp)⟩
      have HCf := hide hcf
      have HBB := hide hB
      have HSh := hide hA.shp
      obtain ⟨rA, hrA⟩ : ∃ rA, rA = L.rA := ⟨_, rfl⟩
      have HRA := hide hrA
      have HC : Hid (∀ w', At w w' L X own c g W0 R T C P qm s k w.heap.size w2.heap.size → w'.cell? ⟨L.hb, 0, none⟩ = some (.int .i64 c.shift) ∧ w'.cell? ⟨L.hb, 1, none⟩ = some (.int .i64 c.regions) ∧ w'.cell? ⟨L.hb, 2, none⟩ = some (.int .i64 c.cardShift) ∧ w'.cell? ⟨L.hb, 3, none⟩ = some (.int .i64 c.threads) ∧ w'.cell? ⟨L.hb, 4, none⟩ = some (.int .i64 c.roots) ∧ w'.cell? ⟨L.hb, 5, none⟩ = some (.int .i64 c.refiners) ∧ w'.cell? ⟨L.hb, 6, none⟩ = some (.int .i64 c.markers) ∧ w'.cell? ⟨L.hb, 7, none⟩ = some (.int .i64 c.young) ∧ w'.cell? ⟨L.hb, 8, none⟩ = some (.int .i64 c.tenure) ∧ w'.cell? ⟨L.hb, 9, none⟩ = some (.int .i64 c.queue) ∧ w'.cell? ⟨L.hb, 10, none⟩ = some (.int .i64 c.stack) ∧ w'.cell? ⟨L.hb, 11, none⟩ = some (.int .i64 c.budget) ∧ w'.cell? ⟨L.hb, 12, none⟩ = some (.int .i64 c.percent) ∧ w'.cell? ⟨L.hb, 13, none⟩ = some (.int .i64 c.fail) ∧ w'.cell? ⟨L.hb, 14, none⟩ = some (.int .i64 g.words) ∧ w'.cell? ⟨L.hb, 15, none⟩ = some (.int .i64 g.rw) ∧ w'.cell? ⟨L.hb, 16, none⟩ = some (.int .i64 g.cw) ∧ w'.cell? ⟨L.hb, 17, none⟩ = some (.int .i64 g.regions) ∧ w'.cell? ⟨L.hb, 18, none⟩ = some (.int .i64 g.cards) ∧ w'.cell? ⟨L.hb, 19, none⟩ = some (.int .i64 g.max) ∧ w'.cell? ⟨L.hb, 20, none⟩ = some (.pointer (some ⟨L.ab, 0, none⟩)) ∧ w'.cell? ⟨L.hb, 21, none⟩ = some (.pointer (some ⟨L.tb, 0, none⟩)) ∧ w'.cell? ⟨L.hb, 26, none⟩ = some (.pointer (some ⟨X.mb, 0, none⟩)) ∧ w'.cell? ⟨L.hb, 27, none⟩ = some (.slice rA T L.rc) ∧ w'.cell? ⟨L.hb, 28, none⟩ = some (.slice (some ⟨L.bb, 0, none⟩) T T) ∧ w'.cell? ⟨w.heap.size, 0, none⟩ = some (.int .i64 c.shift) ∧ w'.cell? ⟨w.heap.size, 1, none⟩ = some (.int .i64 c.regions) ∧ w'.cell? ⟨w.heap.size, 2, none⟩ = some (.int .i64 c.cardShift) ∧ w'.cell? ⟨w.heap.size, 3, none⟩ = some (.int .i64 c.threads) ∧ w'.cell? ⟨w.heap.size, 4, none⟩ = some (.int .i64 c.roots) ∧ w'.cell? ⟨w.heap.size, 5, none⟩ = some (.int .i64 c.refiners) ∧ w'.cell? ⟨w.heap.size, 6, none⟩ = some (.int .i64 c.markers) ∧ w'.cell? ⟨w.heap.size, 7, none⟩ = some (.int .i64 c.young) ∧ w'.cell? ⟨w.heap.size, 8, none⟩ = some (.int .i64 c.tenure) ∧ w'.cell? ⟨w.heap.size, 9, none⟩ = some (.int .i64 c.queue) ∧ w'.cell? ⟨w.heap.size, 10, none⟩ = some (.int .i64 c.stack) ∧ w'.cell? ⟨w.heap.size, 11, none⟩ = some (.int .i64 c.budget) ∧ w'.cell? ⟨w.heap.size, 12, none⟩ = some (.int .i64 c.percent) ∧ w'.cell? ⟨w.heap.size, 13, none⟩ = some (.int .i64 c.fail) ∧ w'.cell? ⟨w2.heap.size, 0, none⟩ = some (.int .i64 g.words) ∧ w'.cell? ⟨w2.heap.size, 1, none⟩ = some (.int .i64 g.rw) ∧ w'.cell? ⟨w2.heap.size, 2, none⟩ = some (.int .i64 g.cw) ∧ w'.cell? ⟨w2.heap.size, 3, none⟩ = some (.int .i64 g.regions) ∧ w'.cell? ⟨w2.heap.size, 4, none⟩ = some (.int .i64 g.cards) ∧ w'.cell? ⟨w2.heap.size, 5, none⟩ = some (.int .i64 g.max)) := fun w' a => by
        have := a.cells HCf.out
        unfold Cells at this
        rw [← HRA.out] at this
        exact this
      have HL1 := hide (fun w' (a : At w w' L X own c g W0 R T C P qm s k w.heap.size w2.heap.size) => a.len HEQ.out.2.2.2)
      have HL2 := hide (fun w' (a : At w w' L X own c g W0 R T C P qm s k w.heap.size w2.heap.size) => a.mlen HEQ.out.2.2.2)
      have HL3 := hide (fun w' (a : At w w' L X own c g W0 R T C P qm s k w.heap.size w2.heap.size) => a.free)
      have HL4 := hide (fun w' (a : At w w' L X own c g W0 R T C P qm s k w.heap.size w2.heap.size) => a.check)
      have HMid : Hid (2 ≤ R ∧ R ≤ 65536 ∧ R * W0 ≤ 4194304) := ⟨hr2, hr3, hmx⟩
      clear hP hH hB hcf hf hown hA hrA HN HG HB2 HF2 HG2 a0 a1 a2 a3 a4 a5 a6 a7 a8 a9 a10 a11 a12 a13 N0 hmx
      generalize w.heap.size = cb at *
      generalize w2.heap.size = gb at *
      clear w1
      go_wp2_with fail
      refine HSh.out.mono ?_
      rintro e w5 ⟨A5, n5, rfl, hA5⟩
      have HA5 := hide hA5
      have K0 := HC.out _ (hA5.fr0 (Fr.refl _ _).drew)
      have HAd := hide (hA5.fr0 (Fr.refl _ _).drew)
      clear hA5 HSh
      go_wp2_with fail
      obtain ⟨hth, hro, hrg, -⟩ := HEQ.out
      simp only [hth, hro, hrg]
      go_cut [128] from 48 to 128 (fun v wc => v = .bool false ∧ At w wc L X own c g W0 R T C P qm s k cb gb)
      case first =>
        simp only [List.append]
        refine wp_region_held_drew (S := fun w' => w'.cell? ⟨L.hb, 0, none⟩ = some (.int .i64 c.shift) ∧ w'.cell? ⟨L.hb, 1, none⟩ = some (.int .i64 c.regions) ∧ w'.cell? ⟨L.hb, 2, none⟩ = some (.int .i64 c.cardShift) ∧ w'.cell? ⟨L.hb, 3, none⟩ = some (.int .i64 c.threads) ∧ w'.cell? ⟨L.hb, 4, none⟩ = some (.int .i64 c.roots) ∧ w'.cell? ⟨L.hb, 5, none⟩ = some (.int .i64 c.refiners) ∧ w'.cell? ⟨L.hb, 6, none⟩ = some (.int .i64 c.markers) ∧ w'.cell? ⟨L.hb, 7, none⟩ = some (.int .i64 c.young) ∧ w'.cell? ⟨L.hb, 8, none⟩ = some (.int .i64 c.tenure) ∧ w'.cell? ⟨L.hb, 9, none⟩ = some (.int .i64 c.queue) ∧ w'.cell? ⟨L.hb, 10, none⟩ = some (.int .i64 c.stack) ∧ w'.cell? ⟨L.hb, 11, none⟩ = some (.int .i64 c.budget) ∧ w'.cell? ⟨L.hb, 12, none⟩ = some (.int .i64 c.percent) ∧ w'.cell? ⟨L.hb, 13, none⟩ = some (.int .i64 c.fail) ∧ w'.cell? ⟨L.hb, 14, none⟩ = some (.int .i64 g.words) ∧ w'.cell? ⟨L.hb, 15, none⟩ = some (.int .i64 g.rw) ∧ w'.cell? ⟨L.hb, 16, none⟩ = some (.int .i64 g.cw) ∧ w'.cell? ⟨L.hb, 17, none⟩ = some (.int .i64 g.regions) ∧ w'.cell? ⟨L.hb, 18, none⟩ = some (.int .i64 g.cards) ∧ w'.cell? ⟨L.hb, 19, none⟩ = some (.int .i64 g.max) ∧ w'.cell? ⟨L.hb, 20, none⟩ = some (.pointer (some ⟨L.ab, 0, none⟩)) ∧ w'.cell? ⟨L.hb, 21, none⟩ = some (.pointer (some ⟨L.tb, 0, none⟩)) ∧ w'.cell? ⟨L.hb, 26, none⟩ = some (.pointer (some ⟨X.mb, 0, none⟩)) ∧ w'.cell? ⟨L.hb, 27, none⟩ = some (.slice rA T L.rc) ∧ w'.cell? ⟨L.hb, 28, none⟩ = some (.slice (some ⟨L.bb, 0, none⟩) T T) ∧ w'.cell? ⟨cb, 0, none⟩ = some (.int .i64 c.shift) ∧ w'.cell? ⟨cb, 1, none⟩ = some (.int .i64 c.regions) ∧ w'.cell? ⟨cb, 2, none⟩ = some (.int .i64 c.cardShift) ∧ w'.cell? ⟨cb, 3, none⟩ = some (.int .i64 c.threads) ∧ w'.cell? ⟨cb, 4, none⟩ = some (.int .i64 c.roots) ∧ w'.cell? ⟨cb, 5, none⟩ = some (.int .i64 c.refiners) ∧ w'.cell? ⟨cb, 6, none⟩ = some (.int .i64 c.markers) ∧ w'.cell? ⟨cb, 7, none⟩ = some (.int .i64 c.young) ∧ w'.cell? ⟨cb, 8, none⟩ = some (.int .i64 c.tenure) ∧ w'.cell? ⟨cb, 9, none⟩ = some (.int .i64 c.queue) ∧ w'.cell? ⟨cb, 10, none⟩ = some (.int .i64 c.stack) ∧ w'.cell? ⟨cb, 11, none⟩ = some (.int .i64 c.budget) ∧ w'.cell? ⟨cb, 12, none⟩ = some (.int .i64 c.percent) ∧ w'.cell? ⟨cb, 13, none⟩ = some (.int .i64 c.fail) ∧ w'.cell? ⟨gb, 0, none⟩ = some (.int .i64 g.words) ∧ w'.cell? ⟨gb, 1, none⟩ = some (.int .i64 g.rw) ∧ w'.cell? ⟨gb, 2, none⟩ = some (.int .i64 g.cw) ∧ w'.cell? ⟨gb, 3, none⟩ = some (.int .i64 g.regions) ∧ w'.cell? ⟨gb, 4, none⟩ = some (.int .i64 g.cards) ∧ w'.cell? ⟨gb, 5, none⟩ = some (.int .i64 g.max)) (by kernel_rfl) (K0) (fun hHeld => ?_)
        refine wpAnyH_take (i := 0) (v := ?v0x1) rfl (by decide +kernel) (by decide +kernel) (by decide +kernel) (fun _ _ _ h => h) (Or.inl ⟨by rfl, ?hy0x1⟩) (by assumption) ?rest0x1
        case hy0x1 => (intro w' hSw; (try dsimp only at hSw); (try simp only [List.getElem_toArray, List.getElem_cons_succ, List.getElem_cons_zero]); (first | (go_simp; done) | (go_simp; with_reducible rfl)))
        (try simp only [Act.put, List.getElem_toArray, List.getElem_cons_succ, List.getElem_cons_zero, List.setIfInBounds_toArray, List.set_cons_zero, List.set_cons_succ])
        refine wpAnyH_take (i := 1) (v := ?v1x2) rfl (by decide +kernel) (by decide +kernel) (by decide +kernel) (fun _ _ _ h => h) (Or.inl ⟨by rfl, ?hy1x2⟩) (by assumption) ?rest1x2
        case hy1x2 => (intro w' hSw; (try dsimp only at hSw); (try simp only [List.getElem_toArray, List.getElem_cons_succ, List.getElem_cons_zero]); (first | (go_simp; done) | (go_simp; with_reducible rfl)))
        (try simp only [Act.put, List.getElem_toArray, List.getElem_cons_succ, List.getElem_cons_zero, List.setIfInBounds_toArray, List.set_cons_zero, List.set_cons_succ])
        refine wpAnyH_take (i := 2) (v := ?v2x3) rfl (by decide +kernel) (by decide +kernel) (by decide +kernel) (fun _ _ _ h => h) (Or.inl ⟨by rfl, ?hy2x3⟩) (by assumption) ?rest2x3
        case hy2x3 => (intro w' hSw; (try dsimp only at hSw); (try simp only [List.getElem_toArray, List.getElem_cons_succ, List.getElem_cons_zero]); (first | (go_simp; done) | (go_simp; with_reducible rfl)))
        (try simp only [Act.put, List.getElem_toArray, List.getElem_cons_succ, List.getElem_cons_zero, List.setIfInBounds_toArray, List.set_cons_zero, List.set_cons_succ])
        refine wpAnyH_take (i := 3) (v := ?v3x4) rfl (by decide +kernel) (by decide +kernel) (by decide +kernel) (fun _ _ _ h => h) (Or.inl ⟨by rfl, ?hy3x4⟩) (by assumption) ?rest3x4
        case hy3x4 => (intro w' hSw; (try dsimp only at hSw); (try simp only [List.getElem_toArray, List.getElem_cons_succ, List.getElem_cons_zero]); (first | (go_simp; done) | (go_simp; with_reducible rfl)))
        (try simp only [Act.put, List.getElem_toArray, List.getElem_cons_succ, List.getElem_cons_zero, List.setIfInBounds_toArray, List.set_cons_zero, List.set_cons_succ])
        refine wpAnyH_take (i := 4) (v := ?v4x5) rfl (by decide +kernel) (by decide +kernel) (by decide +kernel) (fun _ _ _ h => h) (Or.inl ⟨by rfl, ?hy4x5⟩) (by assumption) ?rest4x5
        case hy4x5 => (intro w' hSw; (try dsimp only at hSw); (try simp only [List.getElem_toArray, List.getElem_cons_succ, List.getElem_cons_zero]); (first | (go_simp; done) | (go_simp; with_reducible rfl)))
        (try simp only [Act.put, List.getElem_toArray, List.getElem_cons_succ, List.getElem_cons_zero, List.setIfInBounds_toArray, List.set_cons_zero, List.set_cons_succ])
        refine wpAnyH_take (i := 5) (v := ?v5x6) rfl (by decide +kernel) (by decide +kernel) (by decide +kernel) (fun _ _ _ h => h) (Or.inl ⟨by rfl, ?hy5x6⟩) (by assumption) ?rest5x6
        case hy5x6 => (intro w' hSw; (try dsimp only at hSw); (try simp only [List.getElem_toArray, List.getElem_cons_succ, List.getElem_cons_zero]); (first | (go_simp; done) | (go_simp; with_reducible rfl)))
        (try simp only [Act.put, List.getElem_toArray, List.getElem_cons_succ, List.getElem_cons_zero, List.setIfInBounds_toArray, List.set_cons_zero, List.set_cons_succ])
        refine wpAnyH_take (i := 6) (v := ?v6x7) rfl (by decide +kernel) (by decide +kernel) (by decide +kernel) (fun _ _ _ h => h) (Or.inl ⟨by rfl, ?hy6x7⟩) (by assumption) ?rest6x7
        case hy6x7 => (intro w' hSw; (try dsimp only at hSw); (try simp only [List.getElem_toArray, List.getElem_cons_succ, List.getElem_cons_zero]); (first | (go_simp; done) | (go_simp; with_reducible rfl)))
        (try simp only [Act.put, List.getElem_toArray, List.getElem_cons_succ, List.getElem_cons_zero, List.setIfInBounds_toArray, List.set_cons_zero, List.set_cons_succ])
        refine wpAnyH_take (i := 7) (v := ?v7x8) rfl (by decide +kernel) (by decide +kernel) (by decide +kernel) (fun _ _ _ h => h) (Or.inl ⟨by rfl, ?hy7x8⟩) (by assumption) ?rest7x8
        case hy7x8 => (intro w' hSw; (try dsimp only at hSw); (try simp only [List.getElem_toArray, List.getElem_cons_succ, List.getElem_cons_zero]); (first | (go_simp; done) | (go_simp; with_reducible rfl)))
        (try simp only [Act.put, List.getElem_toArray, List.getElem_cons_succ, List.getElem_cons_zero, List.setIfInBounds_toArray, List.set_cons_zero, List.set_cons_succ])
        refine wpAnyH_take (i := 8) (v := ?v8x9) rfl (by decide +kernel) (by decide +kernel) (by decide +kernel) (fun _ _ _ h => h) (Or.inl ⟨by rfl, ?hy8x9⟩) (by assumption) ?rest8x9
        case hy8x9 => (intro w' hSw; (try dsimp only at hSw); (try simp only [List.getElem_toArray, List.getElem_cons_succ, List.getElem_cons_zero]); (first | (go_simp; done) | (go_simp; with_reducible rfl)))
        (try simp only [Act.put, List.getElem_toArray, List.getElem_cons_succ, List.getElem_cons_zero, List.setIfInBounds_toArray, List.set_cons_zero, List.set_cons_succ])
        refine wpAnyH_take (i := 9) (v := ?v9x10) rfl (by decide +kernel) (by decide +kernel) (by decide +kernel) (fun _ _ _ h => h) (Or.inl ⟨by rfl, ?hy9x10⟩) (by assumption) ?rest9x10
        case hy9x10 => (intro w' hSw; (try dsimp only at hSw); (try simp only [List.getElem_toArray, List.getElem_cons_succ, List.getElem_cons_zero]); (first | (go_simp; done) | (go_simp; with_reducible rfl)))
        (try simp only [Act.put, List.getElem_toArray, List.getElem_cons_succ, List.getElem_cons_zero, List.setIfInBounds_toArray, List.set_cons_zero, List.set_cons_succ])
        refine wpAnyH_take (i := 10) (v := ?v10x11) rfl (by decide +kernel) (by decide +kernel) (by decide +kernel) (fun _ _ _ h => h) (Or.inl ⟨by rfl, ?hy10x11⟩) (by assumption) ?rest10x11
        case hy10x11 => (intro w' hSw; (try dsimp only at hSw); (try simp only [List.getElem_toArray, List.getElem_cons_succ, List.getElem_cons_zero]); (first | (go_simp; done) | (go_simp; with_reducible rfl)))
        (try simp only [Act.put, List.getElem_toArray, List.getElem_cons_succ, List.getElem_cons_zero, List.setIfInBounds_toArray, List.set_cons_zero, List.set_cons_succ])
        refine wpAnyH_take (i := 11) (v := ?v11x12) rfl (by decide +kernel) (by decide +kernel) (by decide +kernel) (fun _ _ _ h => h) (Or.inl ⟨by rfl, ?hy11x12⟩) (by assumption) ?rest11x12
        case hy11x12 => (intro w' hSw; (try dsimp only at hSw); (try simp only [List.getElem_toArray, List.getElem_cons_succ, List.getElem_cons_zero]); (first | (go_simp; done) | (go_simp; with_reducible rfl)))
        (try simp only [Act.put, List.getElem_toArray, List.getElem_cons_succ, List.getElem_cons_zero, List.setIfInBounds_toArray, List.set_cons_zero, List.set_cons_succ])
        refine wpAnyH_take (i := 12) (v := ?v12x13) rfl (by decide +kernel) (by decide +kernel) (by decide +kernel) (fun _ _ _ h => h) (Or.inl ⟨by rfl, ?hy12x13⟩) (by assumption) ?rest12x13
        case hy12x13 => (intro w' hSw; (try dsimp only at hSw); (try simp only [List.getElem_toArray, List.getElem_cons_succ, List.getElem_cons_zero]); (first | (go_simp; done) | (go_simp; with_reducible rfl)))
        (try simp only [Act.put, List.getElem_toArray, List.getElem_cons_succ, List.getElem_cons_zero, List.setIfInBounds_toArray, List.set_cons_zero, List.set_cons_succ])
        refine wpAnyH_take (i := 13) (v := ?v13x14) rfl (by decide +kernel) (by decide +kernel) (by decide +kernel) (fun _ _ _ h => h) (Or.inl ⟨by rfl, ?hy13x14⟩) (by assumption) ?rest13x14
        case hy13x14 => (intro w' hSw; (try dsimp only at hSw); (try simp only [List.getElem_toArray, List.getElem_cons_succ, List.getElem_cons_zero]); (first | (go_simp; done) | (go_simp; with_reducible rfl)))
        (try simp only [Act.put, List.getElem_toArray, List.getElem_cons_succ, List.getElem_cons_zero, List.setIfInBounds_toArray, List.set_cons_zero, List.set_cons_succ])
        refine wpAnyH_take (i := 14) (v := ?v14x15) rfl (by decide +kernel) (by decide +kernel) (by decide +kernel) (fun _ _ _ h => h) (Or.inl ⟨by rfl, ?hy14x15⟩) (by assumption) ?rest14x15
        case hy14x15 => (intro w' hSw; (try dsimp only at hSw); (try simp only [List.getElem_toArray, List.getElem_cons_succ, List.getElem_cons_zero]); (first | (go_simp; done) | (go_simp; with_reducible rfl)))
        (try simp only [Act.put, List.getElem_toArray, List.getElem_cons_succ, List.getElem_cons_zero, List.setIfInBounds_toArray, List.set_cons_zero, List.set_cons_succ])
        refine wpAnyH_take (i := 15) (v := ?v15x16) rfl (by decide +kernel) (by decide +kernel) (by decide +kernel) (fun _ _ _ h => h) (Or.inl ⟨by rfl, ?hy15x16⟩) (by assumption) ?rest15x16
        case hy15x16 => (intro w' hSw; (try dsimp only at hSw); (try simp only [List.getElem_toArray, List.getElem_cons_succ, List.getElem_cons_zero]); (first | (go_simp; done) | (go_simp; with_reducible rfl)))
        (try simp only [Act.put, List.getElem_toArray, List.getElem_cons_succ, List.getElem_cons_zero, List.setIfInBounds_toArray, List.set_cons_zero, List.set_cons_succ])
        refine wpAnyH_take (i := 16) (v := ?v16x17) rfl (by decide +kernel) (by decide +kernel) (by decide +kernel) (fun _ _ _ h => h) (Or.inl ⟨by rfl, ?hy16x17⟩) (by assumption) ?rest16x17
        case hy16x17 => (intro w' hSw; (try dsimp only at hSw); (try simp only [List.getElem_toArray, List.getElem_cons_succ, List.getElem_cons_zero]); (first | (go_simp; done) | (go_simp; with_reducible rfl)))
        (try simp only [Act.put, List.getElem_toArray, List.getElem_cons_succ, List.getElem_cons_zero, List.setIfInBounds_toArray, List.set_cons_zero, List.set_cons_succ])
        refine wpAnyH_take (i := 17) (v := ?v17x18) rfl (by decide +kernel) (by decide +kernel) (by decide +kernel) (fun _ _ _ h => h) (Or.inl ⟨by rfl, ?hy17x18⟩) (by assumption) ?rest17x18
        case hy17x18 => (intro w' hSw; (try dsimp only at hSw); (try simp only [List.getElem_toArray, List.getElem_cons_succ, List.getElem_cons_zero]); (first | (go_simp; done) | (go_simp; with_reducible rfl)))
        (try simp only [Act.put, List.getElem_toArray, List.getElem_cons_succ, List.getElem_cons_zero, List.setIfInBounds_toArray, List.set_cons_zero, List.set_cons_succ])
        refine wpAnyH_take (i := 18) (v := ?v18x19) rfl (by decide +kernel) (by decide +kernel) (by decide +kernel) (fun _ _ _ h => h) (Or.inl ⟨by rfl, ?hy18x19⟩) (by assumption) ?rest18x19
        case hy18x19 => (intro w' hSw; (try dsimp only at hSw); (try simp only [List.getElem_toArray, List.getElem_cons_succ, List.getElem_cons_zero]); (first | (go_simp; done) | (go_simp; with_reducible rfl)))
        (try simp only [Act.put, List.getElem_toArray, List.getElem_cons_succ, List.getElem_cons_zero, List.setIfInBounds_toArray, List.set_cons_zero, List.set_cons_succ])
        refine wpAnyH_take (i := 20) (v := ?v20x20) rfl (by decide +kernel) (by decide +kernel) (by decide +kernel) (fun _ _ _ h => h) (Or.inl ⟨by rfl, ?hy20x20⟩) (by assumption) ?rest20x20
        case hy20x20 => (intro w' hSw; (try dsimp only at hSw); (try simp only [List.getElem_toArray, List.getElem_cons_succ, List.getElem_cons_zero]); (first | (go_simp; done) | (go_simp; with_reducible rfl)))
        (try simp only [Act.put, List.getElem_toArray, List.getElem_cons_succ, List.getElem_cons_zero, List.setIfInBounds_toArray, List.set_cons_zero, List.set_cons_succ])
        refine wpAnyH_take (i := 21) (v := ?v21x21) rfl (by decide +kernel) (by decide +kernel) (by decide +kernel) (fun _ _ _ h => h) (Or.inl ⟨by rfl, ?hy21x21⟩) (by assumption) ?rest21x21
        case hy21x21 => (intro w' hSw; (try dsimp only at hSw); (try simp only [List.getElem_toArray, List.getElem_cons_succ, List.getElem_cons_zero]); (first | (go_simp; done) | (go_simp; with_reducible rfl)))
        (try simp only [Act.put, List.getElem_toArray, List.getElem_cons_succ, List.getElem_cons_zero, List.setIfInBounds_toArray, List.set_cons_zero, List.set_cons_succ])
        refine wpAnyH_ready (rs := [19]) (by decide +kernel) (by simp) ?_
        refine AllReadyH.cons rfl (fun K hK => ?_) AllReadyH.nil
        (try simp only [List.getElem_toArray, List.getElem_cons_succ, List.getElem_cons_zero])
        go_simp
        (go_at_call 8; refine (HL1.out _ HAd.out).mono ?_; rintro e w' ⟨rfl, rfl⟩)
        (try go_wp2_with fail)
        refine hK.out _ _ (K0) (fun hHeld => ?_)
        clear hK K
        (try simp only [Act.put, List.setIfInBounds_toArray, List.set_cons_zero, List.set_cons_succ])
        refine wpAnyH_take (i := 22) (v := ?v22x22) rfl (by decide +kernel) (by decide +kernel) (by decide +kernel) (fun _ _ _ h => h) (Or.inl ⟨by rfl, ?hy22x22⟩) (by assumption) ?rest22x22
        case hy22x22 => (intro w' hSw; (try dsimp only at hSw); (try simp only [List.getElem_toArray, List.getElem_cons_succ, List.getElem_cons_zero]); (first | (go_simp; done) | (go_simp; with_reducible rfl)))
        (try simp only [Act.put, List.getElem_toArray, List.getElem_cons_succ, List.getElem_cons_zero, List.setIfInBounds_toArray, List.set_cons_zero, List.set_cons_succ])
        refine wpAnyH_take (i := 23) (v := ?v23x23) rfl (by decide +kernel) (by decide +kernel) (by decide +kernel) (fun _ _ _ h => h) (Or.inl ⟨by rfl, ?hy23x23⟩) (by assumption) ?rest23x23
        case hy23x23 => (intro w' hSw; (try dsimp only at hSw); (try simp only [List.getElem_toArray, List.getElem_cons_succ, List.getElem_cons_zero]); (first | (go_simp; done) | (go_simp; with_reducible rfl)))
        (try simp only [Act.put, List.getElem_toArray, List.getElem_cons_succ, List.getElem_cons_zero, List.setIfInBounds_toArray, List.set_cons_zero, List.set_cons_succ])
        refine wpAnyH_take (i := 24) (v := ?v24x24) rfl (by decide +kernel) (by decide +kernel) (by decide +kernel) (fun _ _ _ h => h) (Or.inl ⟨by rfl, ?hy24x24⟩) (by assumption) ?rest24x24
        case hy24x24 => (intro w' hSw; (try dsimp only at hSw); (try simp only [List.getElem_toArray, List.getElem_cons_succ, List.getElem_cons_zero]); (first | (go_simp; done) | (go_simp; with_reducible rfl)))
        (try simp only [Act.put, List.getElem_toArray, List.getElem_cons_succ, List.getElem_cons_zero, List.setIfInBounds_toArray, List.set_cons_zero, List.set_cons_succ])
        refine wpAnyH_take (i := 25) (v := ?v25x25) rfl (by decide +kernel) (by decide +kernel) (by decide +kernel) (fun _ _ _ h => h) (Or.inl ⟨by rfl, ?hy25x25⟩) (by assumption) ?rest25x25
        case hy25x25 => (intro w' hSw; (try dsimp only at hSw); (try simp only [List.getElem_toArray, List.getElem_cons_succ, List.getElem_cons_zero]); (first | (go_simp; done) | (go_simp; with_reducible rfl)))
        (try simp only [Act.put, List.getElem_toArray, List.getElem_cons_succ, List.getElem_cons_zero, List.setIfInBounds_toArray, List.set_cons_zero, List.set_cons_succ])
        refine wpAnyH_take (i := 26) (v := ?v26x26) rfl (by decide +kernel) (by decide +kernel) (by decide +kernel) (fun _ _ _ h => h) (Or.inl ⟨by rfl, ?hy26x26⟩) (by assumption) ?rest26x26
        case hy26x26 => (intro w' hSw; (try dsimp only at hSw); (try simp only [List.getElem_toArray, List.getElem_cons_succ, List.getElem_cons_zero]); (first | (go_simp; done) | (go_simp; with_reducible rfl)))
        (try simp only [Act.put, List.getElem_toArray, List.getElem_cons_succ, List.getElem_cons_zero, List.setIfInBounds_toArray, List.set_cons_zero, List.set_cons_succ])
        refine wpAnyH_take (i := 27) (v := ?v27x27) rfl (by decide +kernel) (by decide +kernel) (by decide +kernel) (fun _ _ _ h => h) (Or.inl ⟨by rfl, ?hy27x27⟩) (by assumption) ?rest27x27
        case hy27x27 => (intro w' hSw; (try dsimp only at hSw); (try simp only [List.getElem_toArray, List.getElem_cons_succ, List.getElem_cons_zero]); (first | (go_simp; done) | (go_simp; with_reducible rfl)))
        (try simp only [Act.put, List.getElem_toArray, List.getElem_cons_succ, List.getElem_cons_zero, List.setIfInBounds_toArray, List.set_cons_zero, List.set_cons_succ])
        refine wpAnyH_take (i := 28) (v := ?v28x28) rfl (by decide +kernel) (by decide +kernel) (by decide +kernel) (fun _ _ _ h => h) (Or.inl ⟨by rfl, ?hy28x28⟩) (by assumption) ?rest28x28
        case hy28x28 => (intro w' hSw; (try dsimp only at hSw); (try simp only [List.getElem_toArray, List.getElem_cons_succ, List.getElem_cons_zero]); (first | (go_simp; done) | (go_simp; with_reducible rfl)))
        (try simp only [Act.put, List.getElem_toArray, List.getElem_cons_succ, List.getElem_cons_zero, List.setIfInBounds_toArray, List.set_cons_zero, List.set_cons_succ])
        refine wpAnyH_take (i := 30) (v := ?v30x29) rfl (by decide +kernel) (by decide +kernel) (by decide +kernel) (fun _ _ _ h => h) (Or.inl ⟨by rfl, ?hy30x29⟩) (by assumption) ?rest30x29
        case hy30x29 => (intro w' hSw; (try dsimp only at hSw); (try simp only [List.getElem_toArray, List.getElem_cons_succ, List.getElem_cons_zero]); (first | (go_simp; done) | (go_simp; with_reducible rfl)))
        (try simp only [Act.put, List.getElem_toArray, List.getElem_cons_succ, List.getElem_cons_zero, List.setIfInBounds_toArray, List.set_cons_zero, List.set_cons_succ])
        refine wpAnyH_take (i := 31) (v := ?v31x30) rfl (by decide +kernel) (by decide +kernel) (by decide +kernel) (fun _ _ _ h => h) (Or.inl ⟨by rfl, ?hy31x30⟩) (by assumption) ?rest31x30
        case hy31x30 => (intro w' hSw; (try dsimp only at hSw); (try simp only [List.getElem_toArray, List.getElem_cons_succ, List.getElem_cons_zero]); (first | (go_simp; done) | (go_simp; with_reducible rfl)))
        (try simp only [Act.put, List.getElem_toArray, List.getElem_cons_succ, List.getElem_cons_zero, List.setIfInBounds_toArray, List.set_cons_zero, List.set_cons_succ])
        refine wpAnyH_ready (rs := [29]) (by decide +kernel) (by simp) ?_
        refine AllReadyH.cons rfl (fun K hK => ?_) AllReadyH.nil
        (try simp only [List.getElem_toArray, List.getElem_cons_succ, List.getElem_cons_zero])
        go_simp
        (go_at_call 9; refine (HL2.out _ HAd.out).mono ?_; rintro e w' ⟨rfl, rfl⟩)
        (try go_wp2_with fail)
        refine hK.out _ _ (K0) (fun hHeld => ?_)
        clear hK K
        (try simp only [Act.put, List.setIfInBounds_toArray, List.set_cons_zero, List.set_cons_succ])
        refine wpAnyH_take (i := 32) (v := ?v32x31) rfl (by decide +kernel) (by decide +kernel) (by decide +kernel) (fun _ _ _ h => h) (Or.inl ⟨by rfl, ?hy32x31⟩) (by assumption) ?rest32x31
        case hy32x31 => (intro w' hSw; (try dsimp only at hSw); (try simp only [List.getElem_toArray, List.getElem_cons_succ, List.getElem_cons_zero]); (first | (go_simp; done) | (go_simp; with_reducible rfl)))
        (try simp only [Act.put, List.getElem_toArray, List.getElem_cons_succ, List.getElem_cons_zero, List.setIfInBounds_toArray, List.set_cons_zero, List.set_cons_succ])
        refine wpAnyH_take (i := 33) (v := ?v33x32) rfl (by decide +kernel) (by decide +kernel) (by decide +kernel) (fun _ _ _ h => h) (Or.inl ⟨by rfl, ?hy33x32⟩) (by assumption) ?rest33x32
        case hy33x32 => (intro w' hSw; (try dsimp only at hSw); (try simp only [List.getElem_toArray, List.getElem_cons_succ, List.getElem_cons_zero]); (first | (go_simp; done) | (go_simp; with_reducible rfl)))
        (try simp only [Act.put, List.getElem_toArray, List.getElem_cons_succ, List.getElem_cons_zero, List.setIfInBounds_toArray, List.set_cons_zero, List.set_cons_succ])
        refine wpAnyH_take (i := 34) (v := ?v34x33) rfl (by decide +kernel) (by decide +kernel) (by decide +kernel) (fun _ _ _ h => h) (Or.inl ⟨by rfl, ?hy34x33⟩) (by assumption) ?rest34x33
        case hy34x33 => (intro w' hSw; (try dsimp only at hSw); (try simp only [List.getElem_toArray, List.getElem_cons_succ, List.getElem_cons_zero]); (first | (go_simp; done) | (go_simp; with_reducible rfl)))
        (try simp only [Act.put, List.getElem_toArray, List.getElem_cons_succ, List.getElem_cons_zero, List.setIfInBounds_toArray, List.set_cons_zero, List.set_cons_succ])
        refine wpAnyH_take (i := 35) (v := ?v35x34) rfl (by decide +kernel) (by decide +kernel) (by decide +kernel) (fun _ _ _ h => h) (Or.inl ⟨by rfl, ?hy35x34⟩) (by assumption) ?rest35x34
        case hy35x34 => (intro w' hSw; (try dsimp only at hSw); (try simp only [List.getElem_toArray, List.getElem_cons_succ, List.getElem_cons_zero]); (first | (go_simp; done) | (go_simp; with_reducible rfl)))
        (try simp only [Act.put, List.getElem_toArray, List.getElem_cons_succ, List.getElem_cons_zero, List.setIfInBounds_toArray, List.set_cons_zero, List.set_cons_succ])
        refine wpAnyH_take (i := 36) (v := ?v36x35) rfl (by decide +kernel) (by decide +kernel) (by decide +kernel) (fun _ _ _ h => h) (Or.inl ⟨by rfl, ?hy36x35⟩) (by assumption) ?rest36x35
        case hy36x35 => (intro w' hSw; (try dsimp only at hSw); (try simp only [List.getElem_toArray, List.getElem_cons_succ, List.getElem_cons_zero]); (first | (go_simp; done) | (go_simp; with_reducible rfl)))
        (try simp only [Act.put, List.getElem_toArray, List.getElem_cons_succ, List.getElem_cons_zero, List.setIfInBounds_toArray, List.set_cons_zero, List.set_cons_succ])
        refine wpAnyH_take (i := 37) (v := ?v37x36) rfl (by decide +kernel) (by decide +kernel) (by decide +kernel) (fun _ _ _ h => h) (Or.inl ⟨by rfl, ?hy37x36⟩) (by assumption) ?rest37x36
        case hy37x36 => (intro w' hSw; (try dsimp only at hSw); (try simp only [List.getElem_toArray, List.getElem_cons_succ, List.getElem_cons_zero]); (first | (go_simp; done) | (go_simp; with_reducible rfl)))
        (try simp only [Act.put, List.getElem_toArray, List.getElem_cons_succ, List.getElem_cons_zero, List.setIfInBounds_toArray, List.set_cons_zero, List.set_cons_succ])
        refine wpAnyH_take (i := 38) (v := ?v38x37) rfl (by decide +kernel) (by decide +kernel) (by decide +kernel) (fun _ _ _ h => h) (Or.inl ⟨by rfl, ?hy38x37⟩) (by assumption) ?rest38x37
        case hy38x37 => (intro w' hSw; (try dsimp only at hSw); (try simp only [List.getElem_toArray, List.getElem_cons_succ, List.getElem_cons_zero]); (first | (go_simp; done) | (go_simp; with_reducible rfl)))
        (try simp only [Act.put, List.getElem_toArray, List.getElem_cons_succ, List.getElem_cons_zero, List.setIfInBounds_toArray, List.set_cons_zero, List.set_cons_succ])
        refine wpAnyH_take (i := 39) (v := ?v39x38) rfl (by decide +kernel) (by decide +kernel) (by decide +kernel) (fun _ _ _ h => h) (Or.inl ⟨by rfl, ?hy39x38⟩) (by assumption) ?rest39x38
        case hy39x38 => (intro w' hSw; (try dsimp only at hSw); (try simp only [List.getElem_toArray, List.getElem_cons_succ, List.getElem_cons_zero]); (first | (go_simp; done) | (go_simp; with_reducible rfl)))
        (try simp only [Act.put, List.getElem_toArray, List.getElem_cons_succ, List.getElem_cons_zero, List.setIfInBounds_toArray, List.set_cons_zero, List.set_cons_succ])
        refine wpAnyH_take (i := 40) (v := ?v40x39) rfl (by decide +kernel) (by decide +kernel) (by decide +kernel) (fun _ _ _ h => h) (Or.inl ⟨by rfl, ?hy40x39⟩) (by assumption) ?rest40x39
        case hy40x39 => (intro w' hSw; (try dsimp only at hSw); (try simp only [List.getElem_toArray, List.getElem_cons_succ, List.getElem_cons_zero]); (first | (go_simp; done) | (go_simp; with_reducible rfl)))
        (try simp only [Act.put, List.getElem_toArray, List.getElem_cons_succ, List.getElem_cons_zero, List.setIfInBounds_toArray, List.set_cons_zero, List.set_cons_succ])
        refine wpAnyH_take (i := 41) (v := ?v41x40) rfl (by decide +kernel) (by decide +kernel) (by decide +kernel) (fun _ _ _ h => h) (Or.inl ⟨by rfl, ?hy41x40⟩) (by assumption) ?rest41x40
        case hy41x40 => (intro w' hSw; (try dsimp only at hSw); (try simp only [List.getElem_toArray, List.getElem_cons_succ, List.getElem_cons_zero]); (first | (go_simp; done) | (go_simp; with_reducible rfl)))
        (try simp only [Act.put, List.getElem_toArray, List.getElem_cons_succ, List.getElem_cons_zero, List.setIfInBounds_toArray, List.set_cons_zero, List.set_cons_succ])
        refine wpAnyH_take (i := 42) (v := ?v42x41) rfl (by decide +kernel) (by decide +kernel) (by decide +kernel) (fun _ _ _ h => h) (Or.inl ⟨by rfl, ?hy42x41⟩) (by assumption) ?rest42x41
        case hy42x41 => (intro w' hSw; (try dsimp only at hSw); (try simp only [List.getElem_toArray, List.getElem_cons_succ, List.getElem_cons_zero]); (first | (go_simp; done) | (go_simp; with_reducible rfl)))
        (try simp only [Act.put, List.getElem_toArray, List.getElem_cons_succ, List.getElem_cons_zero, List.setIfInBounds_toArray, List.set_cons_zero, List.set_cons_succ])
        refine wpAnyH_take (i := 43) (v := ?v43x42) rfl (by decide +kernel) (by decide +kernel) (by decide +kernel) (fun _ _ _ h => h) (Or.inl ⟨by rfl, ?hy43x42⟩) (by assumption) ?rest43x42
        case hy43x42 => (intro w' hSw; (try dsimp only at hSw); (try simp only [List.getElem_toArray, List.getElem_cons_succ, List.getElem_cons_zero]); (first | (go_simp; done) | (go_simp; with_reducible rfl)))
        (try simp only [Act.put, List.getElem_toArray, List.getElem_cons_succ, List.getElem_cons_zero, List.setIfInBounds_toArray, List.set_cons_zero, List.set_cons_succ])
        refine wpAnyH_take (i := 44) (v := ?v44x43) rfl (by decide +kernel) (by decide +kernel) (by decide +kernel) (fun _ _ _ h => h) (Or.inl ⟨by rfl, ?hy44x43⟩) (by assumption) ?rest44x43
        case hy44x43 => (intro w' hSw; (try dsimp only at hSw); (try simp only [List.getElem_toArray, List.getElem_cons_succ, List.getElem_cons_zero]); (first | (go_simp; done) | (go_simp; with_reducible rfl)))
        (try simp only [Act.put, List.getElem_toArray, List.getElem_cons_succ, List.getElem_cons_zero, List.setIfInBounds_toArray, List.set_cons_zero, List.set_cons_succ])
        refine wpAnyH_take (i := 45) (v := ?v45x44) rfl (by decide +kernel) (by decide +kernel) (by decide +kernel) (fun _ _ _ h => h) (Or.inl ⟨by rfl, ?hy45x44⟩) (by assumption) ?rest45x44
        case hy45x44 => (intro w' hSw; (try dsimp only at hSw); (try simp only [List.getElem_toArray, List.getElem_cons_succ, List.getElem_cons_zero]); (first | (go_simp; done) | (go_simp; with_reducible rfl)))
        (try simp only [Act.put, List.getElem_toArray, List.getElem_cons_succ, List.getElem_cons_zero, List.setIfInBounds_toArray, List.set_cons_zero, List.set_cons_succ])
        refine wpAnyH_take (i := 46) (v := ?v46x45) rfl (by decide +kernel) (by decide +kernel) (by decide +kernel) (fun _ _ _ h => h) (Or.inl ⟨by rfl, ?hy46x45⟩) (by assumption) ?rest46x45
        case hy46x45 => (intro w' hSw; (try dsimp only at hSw); (try simp only [List.getElem_toArray, List.getElem_cons_succ, List.getElem_cons_zero]); (first | (go_simp; done) | (go_simp; with_reducible rfl)))
        (try simp only [Act.put, List.getElem_toArray, List.getElem_cons_succ, List.getElem_cons_zero, List.setIfInBounds_toArray, List.set_cons_zero, List.set_cons_succ])
        refine wpAnyH_take (i := 47) (v := ?v47x46) rfl (by decide +kernel) (by decide +kernel) (by decide +kernel) (fun _ _ _ h => h) (Or.inl ⟨by rfl, ?hy47x46⟩) (by assumption) ?rest47x46
        case hy47x46 => (intro w' hSw; (try dsimp only at hSw); (try simp only [List.getElem_toArray, List.getElem_cons_succ, List.getElem_cons_zero]); (first | (go_simp; done) | (go_simp; with_reducible rfl)))
        (try simp only [Act.put, List.getElem_toArray, List.getElem_cons_succ, List.getElem_cons_zero, List.setIfInBounds_toArray, List.set_cons_zero, List.set_cons_succ])
        refine wpAnyH_take (i := 48) (v := ?v48x47) rfl (by decide +kernel) (by decide +kernel) (by decide +kernel) (fun _ _ _ h => h) (Or.inl ⟨by rfl, ?hy48x47⟩) (by assumption) ?rest48x47
        case hy48x47 => (intro w' hSw; (try dsimp only at hSw); (try simp only [List.getElem_toArray, List.getElem_cons_succ, List.getElem_cons_zero]); (first | (go_simp; done) | (go_simp; with_reducible rfl)))
        (try simp only [Act.put, List.getElem_toArray, List.getElem_cons_succ, List.getElem_cons_zero, List.setIfInBounds_toArray, List.set_cons_zero, List.set_cons_succ])
        refine wpAnyH_take (i := 49) (v := ?v49x48) rfl (by decide +kernel) (by decide +kernel) (by decide +kernel) (fun _ _ _ h => h) (Or.inl ⟨by rfl, ?hy49x48⟩) (by assumption) ?rest49x48
        case hy49x48 => (intro w' hSw; (try dsimp only at hSw); (try simp only [List.getElem_toArray, List.getElem_cons_succ, List.getElem_cons_zero]); (first | (go_simp; done) | (go_simp; with_reducible rfl)))
        (try simp only [Act.put, List.getElem_toArray, List.getElem_cons_succ, List.getElem_cons_zero, List.setIfInBounds_toArray, List.set_cons_zero, List.set_cons_succ])
        refine wpAnyH_take (i := 50) (v := ?v50x49) rfl (by decide +kernel) (by decide +kernel) (by decide +kernel) (fun _ _ _ h => h) (Or.inl ⟨by rfl, ?hy50x49⟩) (by assumption) ?rest50x49
        case hy50x49 => (intro w' hSw; (try dsimp only at hSw); (try simp only [List.getElem_toArray, List.getElem_cons_succ, List.getElem_cons_zero]); (first | (go_simp; done) | (go_simp; with_reducible rfl)))
        (try simp only [Act.put, List.getElem_toArray, List.getElem_cons_succ, List.getElem_cons_zero, List.setIfInBounds_toArray, List.set_cons_zero, List.set_cons_succ])
        refine wpAnyH_take (i := 51) (v := ?v51x50) rfl (by decide +kernel) (by decide +kernel) (by decide +kernel) (fun _ _ _ h => h) (Or.inl ⟨by rfl, ?hy51x50⟩) (by assumption) ?rest51x50
        case hy51x50 => (intro w' hSw; (try dsimp only at hSw); (try simp only [List.getElem_toArray, List.getElem_cons_succ, List.getElem_cons_zero]); (first | (go_simp; done) | (go_simp; with_reducible rfl)))
        (try simp only [Act.put, List.getElem_toArray, List.getElem_cons_succ, List.getElem_cons_zero, List.setIfInBounds_toArray, List.set_cons_zero, List.set_cons_succ])
        refine wpAnyH_take (i := 52) (v := ?v52x51) rfl (by decide +kernel) (by decide +kernel) (by decide +kernel) (fun _ _ _ h => h) (Or.inl ⟨by rfl, ?hy52x51⟩) (by assumption) ?rest52x51
        case hy52x51 => (intro w' hSw; (try dsimp only at hSw); (try simp only [List.getElem_toArray, List.getElem_cons_succ, List.getElem_cons_zero]); (first | (go_simp; done) | (go_simp; with_reducible rfl)))
        (try simp only [Act.put, List.getElem_toArray, List.getElem_cons_succ, List.getElem_cons_zero, List.setIfInBounds_toArray, List.set_cons_zero, List.set_cons_succ])
        refine wpAnyH_take (i := 53) (v := ?v53x52) rfl (by decide +kernel) (by decide +kernel) (by decide +kernel) (fun _ _ _ h => h) (Or.inl ⟨by rfl, ?hy53x52⟩) (by assumption) ?rest53x52
        case hy53x52 => (intro w' hSw; (try dsimp only at hSw); (try simp only [List.getElem_toArray, List.getElem_cons_succ, List.getElem_cons_zero]); (first | (go_simp; done) | (go_simp; with_reducible rfl)))
        (try simp only [Act.put, List.getElem_toArray, List.getElem_cons_succ, List.getElem_cons_zero, List.setIfInBounds_toArray, List.set_cons_zero, List.set_cons_succ])
        refine wpAnyH_take (i := 54) (v := ?v54x53) rfl (by decide +kernel) (by decide +kernel) (by decide +kernel) (fun _ _ _ h => h) (Or.inl ⟨by rfl, ?hy54x53⟩) (by assumption) ?rest54x53
        case hy54x53 => (intro w' hSw; (try dsimp only at hSw); (try simp only [List.getElem_toArray, List.getElem_cons_succ, List.getElem_cons_zero]); (first | (go_simp; done) | (go_simp; with_reducible rfl)))
        (try simp only [Act.put, List.getElem_toArray, List.getElem_cons_succ, List.getElem_cons_zero, List.setIfInBounds_toArray, List.set_cons_zero, List.set_cons_succ])
        refine wpAnyH_take (i := 55) (v := ?v55x54) rfl (by decide +kernel) (by decide +kernel) (by decide +kernel) (fun _ _ _ h => h) (Or.inl ⟨by rfl, ?hy55x54⟩) (by assumption) ?rest55x54
        case hy55x54 => (intro w' hSw; (try dsimp only at hSw); (try simp only [List.getElem_toArray, List.getElem_cons_succ, List.getElem_cons_zero]); (first | (go_simp; done) | (go_simp; with_reducible rfl)))
        (try simp only [Act.put, List.getElem_toArray, List.getElem_cons_succ, List.getElem_cons_zero, List.setIfInBounds_toArray, List.set_cons_zero, List.set_cons_succ])
        refine wpAnyH_take (i := 56) (v := ?v56x55) rfl (by decide +kernel) (by decide +kernel) (by decide +kernel) (fun _ _ _ h => h) (Or.inl ⟨by rfl, ?hy56x55⟩) (by assumption) ?rest56x55
        case hy56x55 => (intro w' hSw; (try dsimp only at hSw); (try simp only [List.getElem_toArray, List.getElem_cons_succ, List.getElem_cons_zero]); (first | (go_simp; done) | (go_simp; with_reducible rfl)))
        (try simp only [Act.put, List.getElem_toArray, List.getElem_cons_succ, List.getElem_cons_zero, List.setIfInBounds_toArray, List.set_cons_zero, List.set_cons_succ])
        refine wpAnyH_take (i := 57) (v := ?v57x56) rfl (by decide +kernel) (by decide +kernel) (by decide +kernel) (fun _ _ _ h => h) (Or.inl ⟨by rfl, ?hy57x56⟩) (by assumption) ?rest57x56
        case hy57x56 => (intro w' hSw; (try dsimp only at hSw); (try simp only [List.getElem_toArray, List.getElem_cons_succ, List.getElem_cons_zero]); (first | (go_simp; done) | (go_simp; with_reducible rfl)))
        (try simp only [Act.put, List.getElem_toArray, List.getElem_cons_succ, List.getElem_cons_zero, List.setIfInBounds_toArray, List.set_cons_zero, List.set_cons_succ])
        refine wpAnyH_take (i := 58) (v := ?v58x57) rfl (by decide +kernel) (by decide +kernel) (by decide +kernel) (fun _ _ _ h => h) (Or.inl ⟨by rfl, ?hy58x57⟩) (by assumption) ?rest58x57
        case hy58x57 => (intro w' hSw; (try dsimp only at hSw); (try simp only [List.getElem_toArray, List.getElem_cons_succ, List.getElem_cons_zero]); (first | (go_simp; done) | (go_simp; with_reducible rfl)))
        (try simp only [Act.put, List.getElem_toArray, List.getElem_cons_succ, List.getElem_cons_zero, List.setIfInBounds_toArray, List.set_cons_zero, List.set_cons_succ])
        refine wpAnyH_take (i := 61) (v := ?v61x58) rfl (by decide +kernel) (by decide +kernel) (by decide +kernel) (fun _ _ _ h => h) (Or.inl ⟨by rfl, ?hy61x58⟩) (by assumption) ?rest61x58
        case hy61x58 => (intro w' hSw; (try dsimp only at hSw); (try simp only [List.getElem_toArray, List.getElem_cons_succ, List.getElem_cons_zero]); (first | (go_simp; done) | (go_simp; with_reducible rfl)))
        (try simp only [Act.put, List.getElem_toArray, List.getElem_cons_succ, List.getElem_cons_zero, List.setIfInBounds_toArray, List.set_cons_zero, List.set_cons_succ])
        refine wpAnyH_take (i := 62) (v := ?v62x59) rfl (by decide +kernel) (by decide +kernel) (by decide +kernel) (fun _ _ _ h => h) (Or.inl ⟨by rfl, ?hy62x59⟩) (by assumption) ?rest62x59
        case hy62x59 => (intro w' hSw; (try dsimp only at hSw); (try simp only [List.getElem_toArray, List.getElem_cons_succ, List.getElem_cons_zero]); (first | (go_simp; done) | (go_simp; with_reducible rfl)))
        (try simp only [Act.put, List.getElem_toArray, List.getElem_cons_succ, List.getElem_cons_zero, List.setIfInBounds_toArray, List.set_cons_zero, List.set_cons_succ])
        refine wpAnyH_ready (rs := [59]) (by decide +kernel) (by simp) ?_
        refine AllReadyH.cons rfl (fun K hK => ?_) AllReadyH.nil
        (try simp only [List.getElem_toArray, List.getElem_cons_succ, List.getElem_cons_zero])
        go_simp
        (go_at_call 10; refine (HL3.out _ HAd.out).mono ?_; rintro e w6 ⟨A6, n6, rfl, hf6⟩; have HA6 := hide (HAd.out.fr0 hf6); have K6 := HC.out _ HA6.out; clear hf6)
        (try go_wp2_with fail)
        refine hK.out _ _ (K6) (fun hHeld => ?_)
        clear hK K
        (try simp only [Act.put, List.setIfInBounds_toArray, List.set_cons_zero, List.set_cons_succ])
        refine wpAnyH_take (i := 60) (v := ?v60x60) rfl (by decide +kernel) (by decide +kernel) (by decide +kernel) (fun _ _ _ h => h) (Or.inl ⟨by rfl, ?hy60x60⟩) (by assumption) ?rest60x60
        case hy60x60 => (intro w' hSw; (try dsimp only at hSw); (try simp only [List.getElem_toArray, List.getElem_cons_succ, List.getElem_cons_zero]); (first | (go_simp; done) | (go_simp; with_reducible rfl)))
        (try simp only [Act.put, List.getElem_toArray, List.getElem_cons_succ, List.getElem_cons_zero, List.setIfInBounds_toArray, List.set_cons_zero, List.set_cons_succ])
        refine wpAnyH_take (i := 63) (v := ?v63x61) rfl (by decide +kernel) (by decide +kernel) (by decide +kernel) (fun _ _ _ h => h) (Or.inl ⟨by rfl, ?hy63x61⟩) (by assumption) ?rest63x61
        case hy63x61 => (intro w' hSw; (try dsimp only at hSw); (try simp only [List.getElem_toArray, List.getElem_cons_succ, List.getElem_cons_zero]); (first | (go_simp; done) | (go_simp; with_reducible rfl)))
        (try simp only [Act.put, List.getElem_toArray, List.getElem_cons_succ, List.getElem_cons_zero, List.setIfInBounds_toArray, List.set_cons_zero, List.set_cons_succ])
        refine wpAnyH_take (i := 64) (v := ?v64x62) rfl (by decide +kernel) (by decide +kernel) (by decide +kernel) (fun _ _ _ h => h) (Or.inl ⟨by rfl, ?hy64x62⟩) (by assumption) ?rest64x62
        case hy64x62 => (intro w' hSw; (try dsimp only at hSw); (try simp only [List.getElem_toArray, List.getElem_cons_succ, List.getElem_cons_zero]); (first | (go_simp; done) | (go_simp; with_reducible rfl)))
        (try simp only [Act.put, List.getElem_toArray, List.getElem_cons_succ, List.getElem_cons_zero, List.setIfInBounds_toArray, List.set_cons_zero, List.set_cons_succ])
        refine wpAnyH_take (i := 65) (v := ?v65x63) rfl (by decide +kernel) (by decide +kernel) (by decide +kernel) (fun _ _ _ h => h) (Or.inl ⟨by rfl, ?hy65x63⟩) (by assumption) ?rest65x63
        case hy65x63 => (intro w' hSw; (try dsimp only at hSw); (try simp only [List.getElem_toArray, List.getElem_cons_succ, List.getElem_cons_zero]); (first | (go_simp; done) | (go_simp; with_reducible rfl)))
        (try simp only [Act.put, List.getElem_toArray, List.getElem_cons_succ, List.getElem_cons_zero, List.setIfInBounds_toArray, List.set_cons_zero, List.set_cons_succ])
        refine wpAnyH_take (i := 66) (v := ?v66x64) rfl (by decide +kernel) (by decide +kernel) (by decide +kernel) (fun _ _ _ h => h) (Or.inl ⟨by rfl, ?hy66x64⟩) (by assumption) ?rest66x64
        case hy66x64 => (intro w' hSw; (try dsimp only at hSw); (try simp only [List.getElem_toArray, List.getElem_cons_succ, List.getElem_cons_zero]); (first | (go_simp; done) | (go_simp; with_reducible rfl)))
        (try simp only [Act.put, List.getElem_toArray, List.getElem_cons_succ, List.getElem_cons_zero, List.setIfInBounds_toArray, List.set_cons_zero, List.set_cons_succ])
        refine wpAnyH_ready (rs := [67]) (by decide +kernel) (by simp) ?_
        refine AllReadyH.cons rfl (fun K hK => ?_) AllReadyH.nil
        (try simp only [List.getElem_toArray, List.getElem_cons_succ, List.getElem_cons_zero])
        go_simp
        (go_at_call 11; refine (HL4.out _ HA6.out).mono ?_; rintro e w7 ⟨rfl, hA7⟩; have HA7 := hide hA7; have K7 := HC.out _ hA7; clear hA7)
        (try go_wp2_with fail)
        refine hK.out _ _ (K7) (fun hHeld => ?_)
        clear hK K
        (try simp only [Act.put, List.setIfInBounds_toArray, List.set_cons_zero, List.set_cons_succ])
        refine wpAnyH_take (i := 68) (v := ?v68x65) rfl (by decide +kernel) (by decide +kernel) (by decide +kernel) (fun _ _ _ h => h) (Or.inl ⟨by rfl, ?hy68x65⟩) (by assumption) ?rest68x65
        case hy68x65 => (intro w' hSw; (try dsimp only at hSw); (try simp only [List.getElem_toArray, List.getElem_cons_succ, List.getElem_cons_zero]); (first | (go_simp; done) | (go_simp; with_reducible rfl)))
        (try simp only [Act.put, List.getElem_toArray, List.getElem_cons_succ, List.getElem_cons_zero, List.setIfInBounds_toArray, List.set_cons_zero, List.set_cons_succ])
        refine wpAnyH_take (i := 69) (v := ?v69x66) rfl (by decide +kernel) (by decide +kernel) (by decide +kernel) (fun _ _ _ h => h) (Or.inl ⟨by rfl, ?hy69x66⟩) (by assumption) ?rest69x66
        case hy69x66 => (intro w' hSw; (try dsimp only at hSw); (try simp only [List.getElem_toArray, List.getElem_cons_succ, List.getElem_cons_zero]); (first | (go_simp; done) | (go_simp; with_reducible rfl)))
        (try simp only [Act.put, List.getElem_toArray, List.getElem_cons_succ, List.getElem_cons_zero, List.setIfInBounds_toArray, List.set_cons_zero, List.set_cons_succ])
        refine wpAnyH_take (i := 70) (v := ?v70x67) rfl (by decide +kernel) (by decide +kernel) (by decide +kernel) (fun _ _ _ h => h) (Or.inl ⟨by rfl, ?hy70x67⟩) (by assumption) ?rest70x67
        case hy70x67 => (intro w' hSw; (try dsimp only at hSw); (try simp only [List.getElem_toArray, List.getElem_cons_succ, List.getElem_cons_zero]); (first | (go_simp; done) | (go_simp; with_reducible rfl)))
        (try simp only [Act.put, List.getElem_toArray, List.getElem_cons_succ, List.getElem_cons_zero, List.setIfInBounds_toArray, List.set_cons_zero, List.set_cons_succ])
        refine wpAnyH_take (i := 71) (v := ?v71x68) rfl (by decide +kernel) (by decide +kernel) (by decide +kernel) (fun _ _ _ h => h) (Or.inl ⟨by rfl, ?hy71x68⟩) (by assumption) ?rest71x68
        case hy71x68 => (intro w' hSw; (try dsimp only at hSw); (try simp only [List.getElem_toArray, List.getElem_cons_succ, List.getElem_cons_zero]); (first | (go_simp; done) | (go_simp; with_reducible rfl)))
        (try simp only [Act.put, List.getElem_toArray, List.getElem_cons_succ, List.getElem_cons_zero, List.setIfInBounds_toArray, List.set_cons_zero, List.set_cons_succ])
        refine wpAnyH_take (i := 72) (v := ?v72x69) rfl (by decide +kernel) (by decide +kernel) (by decide +kernel) (fun _ _ _ h => h) (Or.inl ⟨by rfl, ?hy72x69⟩) (by assumption) ?rest72x69
        case hy72x69 => (intro w' hSw; (try dsimp only at hSw); (try simp only [List.getElem_toArray, List.getElem_cons_succ, List.getElem_cons_zero]); (first | (go_simp; done) | (go_simp; with_reducible rfl)))
        (try simp only [Act.put, List.getElem_toArray, List.getElem_cons_succ, List.getElem_cons_zero, List.setIfInBounds_toArray, List.set_cons_zero, List.set_cons_succ])
        refine wpAnyH_take (i := 73) (v := ?v73x70) rfl (by decide +kernel) (by decide +kernel) (by decide +kernel) (fun _ _ _ h => h) (Or.inl ⟨by rfl, ?hy73x70⟩) (by assumption) ?rest73x70
        case hy73x70 => (intro w' hSw; (try dsimp only at hSw); (try simp only [List.getElem_toArray, List.getElem_cons_succ, List.getElem_cons_zero]); (first | (go_simp; done) | (go_simp; with_reducible rfl)))
        (try simp only [Act.put, List.getElem_toArray, List.getElem_cons_succ, List.getElem_cons_zero, List.setIfInBounds_toArray, List.set_cons_zero, List.set_cons_succ])
        refine wpAnyH_take (i := 74) (v := ?v74x71) rfl (by decide +kernel) (by decide +kernel) (by decide +kernel) (fun _ _ _ h => h) (Or.inl ⟨by rfl, ?hy74x71⟩) (by assumption) ?rest74x71
        case hy74x71 => (intro w' hSw; (try dsimp only at hSw); (try simp only [List.getElem_toArray, List.getElem_cons_succ, List.getElem_cons_zero]); (first | (go_simp; done) | (go_simp; with_reducible rfl)))
        (try simp only [Act.put, List.getElem_toArray, List.getElem_cons_succ, List.getElem_cons_zero, List.setIfInBounds_toArray, List.set_cons_zero, List.set_cons_succ])
        refine wpAnyH_take (i := 75) (v := ?v75x72) rfl (by decide +kernel) (by decide +kernel) (by decide +kernel) (fun _ _ _ h => h) (Or.inl ⟨by rfl, ?hy75x72⟩) (by assumption) ?rest75x72
        case hy75x72 => (intro w' hSw; (try dsimp only at hSw); (try simp only [List.getElem_toArray, List.getElem_cons_succ, List.getElem_cons_zero]); (first | (go_simp; done) | (go_simp; with_reducible rfl)))
        (try simp only [Act.put, List.getElem_toArray, List.getElem_cons_succ, List.getElem_cons_zero, List.setIfInBounds_toArray, List.set_cons_zero, List.set_cons_succ])
        refine wpAnyH_take (i := 76) (v := ?v76x73) rfl (by decide +kernel) (by decide +kernel) (by decide +kernel) (fun _ _ _ h => h) (Or.inl ⟨by rfl, ?hy76x73⟩) (by assumption) ?rest76x73
        case hy76x73 => (intro w' hSw; (try dsimp only at hSw); (try simp only [List.getElem_toArray, List.getElem_cons_succ, List.getElem_cons_zero]); (first | (go_simp; done) | (go_simp; with_reducible rfl)))
        (try simp only [Act.put, List.getElem_toArray, List.getElem_cons_succ, List.getElem_cons_zero, List.setIfInBounds_toArray, List.set_cons_zero, List.set_cons_succ])
        refine wpAnyH_take (i := 77) (v := ?v77x74) rfl (by decide +kernel) (by decide +kernel) (by decide +kernel) (fun _ _ _ h => h) (Or.inl ⟨by rfl, ?hy77x74⟩) (by assumption) ?rest77x74
        case hy77x74 => (intro w' hSw; (try dsimp only at hSw); (try simp only [List.getElem_toArray, List.getElem_cons_succ, List.getElem_cons_zero]); (first | (go_simp; done) | (go_simp; with_reducible rfl)))
        (try simp only [Act.put, List.getElem_toArray, List.getElem_cons_succ, List.getElem_cons_zero, List.setIfInBounds_toArray, List.set_cons_zero, List.set_cons_succ])
        refine wpAnyH_take (i := 78) (v := ?v78x75) rfl (by decide +kernel) (by decide +kernel) (by decide +kernel) (fun _ _ _ h => h) (Or.inl ⟨by rfl, ?hy78x75⟩) (by assumption) ?rest78x75
        case hy78x75 => (intro w' hSw; (try dsimp only at hSw); (try simp only [List.getElem_toArray, List.getElem_cons_succ, List.getElem_cons_zero]); (first | (go_simp; done) | (go_simp; with_reducible rfl)))
        (try simp only [Act.put, List.getElem_toArray, List.getElem_cons_succ, List.getElem_cons_zero, List.setIfInBounds_toArray, List.set_cons_zero, List.set_cons_succ])
        refine wpAnyH_take (i := 79) (v := ?v79x76) rfl (by decide +kernel) (by decide +kernel) (by decide +kernel) (fun _ _ _ h => h) (Or.inl ⟨by rfl, ?hy79x76⟩) (by assumption) ?rest79x76
        case hy79x76 => (intro w' hSw; (try dsimp only at hSw); (try simp only [List.getElem_toArray, List.getElem_cons_succ, List.getElem_cons_zero]); (first | (go_simp; done) | (go_simp; with_reducible rfl)))
        (try simp only [Act.put, List.getElem_toArray, List.getElem_cons_succ, List.getElem_cons_zero, List.setIfInBounds_toArray, List.set_cons_zero, List.set_cons_succ])
        refine wpAnyH_take (i := 80) (v := ?v80x77) rfl (by decide +kernel) (by decide +kernel) (by decide +kernel) (fun _ _ _ h => h) (Or.inl ⟨by rfl, ?hy80x77⟩) (by assumption) ?rest80x77
        case hy80x77 => (intro w' hSw; (try dsimp only at hSw); (try simp only [List.getElem_toArray, List.getElem_cons_succ, List.getElem_cons_zero]); (first | (go_simp; done) | (go_simp; with_reducible rfl)))
        (try simp only [Act.put, List.getElem_toArray, List.getElem_cons_succ, List.getElem_cons_zero, List.setIfInBounds_toArray, List.set_cons_zero, List.set_cons_succ])
        refine wpAnyH_done (by decide +kernel) ?_ _
        go_wp2_with fail
        go_meet
        case rel => exact ⟨by first | rfl | simp, HA7.out⟩
      case rest =>
        obtain ⟨rfl, hA8⟩ := hcut
        have HA8 := hide hA8
        obtain ⟨w8, hw8⟩ : ∃ w8, w8 = wc := ⟨_, rfl⟩
        subst hw8
        clear hA8 K0 HAd HA5 HL1 HL2 HL3 HL4
        go_wp2_with fail
        go_loopw [9] (fun i wr => ∃ t : Nat, i = .int .i64 t ∧ t ≤ T ∧ At w wr L X own c g W0 R T C P qm s k cb gb) (fun i _ => T - (intOf i).toNat)
        case atStart => exact ⟨0, rfl, Nat.zero_le _, HA8.out⟩
        case round =>
          obtain ⟨t, rfl, ht, hA⟩ := hrel
          have HAr := hide hA
          have HKc := hide (HC.out _ hA)
          have y3 : wr.cell? ⟨cb, 3, none⟩ = some (.int .i64 c.threads) := hA.c.cell 3
          have y4 : wr.cell? ⟨cb, 4, none⟩ = some (.int .i64 c.roots) := hA.c.cell 4
          have z3 : wr.cell? ⟨gb, 3, none⟩ = some (.int .i64 g.regions) := hA.g.cell 3
          have k27 : wr.cell? ⟨L.hb, 27, none⟩ = some (.slice rA T L.rc) := by rw [HRA.out]; exact hA.h.hr.cR
          have k28 : wr.cell? ⟨L.hb, 28, none⟩ = some (.slice (some ⟨L.bb, 0, none⟩) T T) := hA.h.hr.cB
          by_cases hlt : t < T
          · have hlt1 : (t : Int) < (T : Int) := by omega
            obtain ⟨gr, offr, hrA, _, hgr, hclr, _⟩ := hA.h.hr.row.pos (show 0 < T by omega)
            have hrA' := HRA.out.trans hrA
            clear hrA HRA HKc HC
            subst hrA'
            have c0 : wr.cell? ⟨gr, offr + t, none⟩ = some (.pointer (some ⟨L.S t, 0, none⟩)) := (hclr t hlt).trans (stkV_at _ hlt)
            have HRm : Hid (∀ q, Calls Tryd.prog 12 #[.pointer (some ⟨L.S t, 0, none⟩)] (wr.drewN q) fun e w' => e = .returned (.int .i64 (B : Int)) ∧ ∃ p, w' = (wr.drewN q).drewN p) := fun q => (hA.fr0 ((Fr.refl _ _).drewN q)).room HBB.out b2 hlt
            have HLf : Hid (∀ q, Calls Tryd.prog 13 #[.pointer (some ⟨L.bb, t * 2, none⟩)] (wr.drewN q) fun e w' => e = .returned (.int .i64 0) ∧ ∃ p, w' = (wr.drewN q).drewN p) := fun q => (hA.fr0 ((Fr.refl _ _).drewN q)).left hlt
            clear hA hclr hgr
            go_wp2_with fail
            go_quiet ((first | (go_at_call 12; exact Calls.quiet_of (HRm.out _)) | (go_at_call 13; exact Calls.quiet_of (HLf.out _))))
            go_wp2
            go_roundw
            case rel => exact ⟨t + 1, by go_num, by omega, HAr.out.fr0 ((Fr.refl _ _).drewN _)⟩
            case measure => simp [intOf]; omega
          · obtain rfl : t = T := by omega
            have HR1 := hide (hA.row g.regions (er := 2) (HSn.row_out (by rw [hrg]; omega)))
            have HR2 : Hid (∀ w', At w w' L X own c g W0 R t C P qm s k cb gb → Calls Tryd.prog 14 #[.pointer (some ⟨L.hb, 0, none⟩), .int .i64 0] w' fun e w'' => ∃ A n, e = .returned (.tuple #[.slice A 0 n, .int .i64 0]) ∧ At w w'' L X own c g W0 R t C P qm s k cb gb) := fun w' a => a.row 0 (er := 0) (HSn.row (k := 0) (by omega))
            clear hA
            rw [hrg] at HR1
            go_wp2_with fail
            refine HR1.out.mono ?_
            rintro e w9 ⟨A9, n9, rfl, hA9⟩
            have HR3 := hide (HR2.out _ hA9)
            clear hA9 HR1 HR2
            go_wp2_with fail
            refine HR3.out.mono ?_
            rintro e w10 ⟨A10, n10, rfl, hA10⟩
            have HE := hide hA10.h.fr
            clear hA10 HR3
            go_wp2_with fail
            go_ret
            exact ⟨rfl, HE.out⟩
end Go.Proofs.YtkmnbaecohhcaaaDoor.HeapNews
