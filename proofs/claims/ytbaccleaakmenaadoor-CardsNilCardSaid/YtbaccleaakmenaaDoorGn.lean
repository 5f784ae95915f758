/- The package geom: New. -/
import Derived.Test.YtbaccleaakmenaaDoorGm
namespace Go.Proofs.YtbaccleaakmenaaDoor
set_option linter.unusedVariables false
open Go.RowKit Go.Gl

theorem gnew_any (c : Cfg) (w : World) : Calls Tryd.prog 16 #[c.val] w fun e w' => e = .returned (.tuple #[c.ans.val, .int .i64 c.err]) ∧ Fr [] w w' := by
  have hl := mayBe_any c
  by_cases h1 : mayB c = true
  · rw [h1] at hl
    have HL := hide hl
    have ok := Cfg.geo_ok (mayB_lie h1)
    have hlie := lieB_iff.1 (mayB_lie h1)
    obtain ⟨⟨s1, s2⟩, ⟨r1, r2⟩, r3, k1, k2⟩ := hlie
    obtain ⟨s, hs⟩ := Int.eq_ofNat_of_zero_le (show 0 ≤ c.shift by omega)
    obtain ⟨k, hk⟩ := Int.eq_ofNat_of_zero_le (show 0 ≤ c.cardShift by omega)
    have HG := hide (Cfg.geo_val (mayB_lie h1) hs hk)
    clear ok r3
    rw [hs] at s1 s2 k2
    rw [hk] at k1 k2
    have HE : Hid (c.ans = c.geo ∧ c.err = 0) := by unfold Cfg.ans Cfg.err; rw [if_pos h1, if_pos h1]; exact ⟨rfl, rfl⟩
    clear hl h1
    unfold Cfg.val
    go_enter Tryd.func16, Tryd.ntmps16
    go_wp2_with fail
    rw [← hs, ← hk]
    refine (HL.out _).mono ?_
    rintro e w1 ⟨rfl, hf⟩
    have hc1 := ((Blk.new w 49 c.cells).alloc (.cells Geo.zero.cells 25)).fr hf (by simp)
    have hb : Blk w1 (w.heap.size + 1) 25 Geo.zero.cells := (Blk.new_at (w := w.alloc (.cells c.cells 49)) 25 Geo.zero.cells (by simp)).fr hf (by simp)
    obtain ⟨g0, g1, g2, -, -, -, -, -, -, -, -, -, -, -⟩ := CfgAt.of hc1
    have HF := hide hf
    obtain ⟨c0, c1, c2, c3, c4, c5⟩ := GeoAt.of hb
    have f0 := hb.frozen 0
    have f1 := hb.frozen 1
    have f2 := hb.frozen 2
    have f3 := hb.frozen 3
    have f4 := hb.frozen 4
    have f5 := hb.frozen 5
    rw [hs] at g0
    rw [hk] at g2
    clear hf hb hc1
    go_wp2_with fail
    go_quiet (fail)
    go_wp2_with fail
    · refine bodyPost_ret (v := .tuple #[.agg #[.int .i64 (wrap64 (c.regions * 2 ^ s)), .int .i64 (wrap64 (2 ^ s)), .int .i64 (wrap64 (2 ^ k)), .int .i64 c.regions, .int .i64 (wrap64 (c.regions * 2 ^ s) / 2 ^ k), .int .i64 (wrap64 ((c.regions - 1) * 2 ^ s))], .int .i64 0]) (by simp [results, Tryd.results16, go_sem, *]) rfl ⟨?_, ?_⟩
      · rw [HE.out.1, HE.out.2, HG.out _ (by rw [if_pos ‹_›])]
      · repeat (refine Fr.setCell ?_ (.inr (Nat.le_succ _)) _)
        exact ((((Fr.refl _ _).alloc _).alloc _).trans_same HF.out).drewN _
    · refine bodyPost_ret (v := .tuple #[.agg #[.int .i64 (wrap64 (c.regions * 2 ^ s)), .int .i64 (wrap64 (2 ^ s)), .int .i64 (wrap64 (2 ^ k)), .int .i64 c.regions, .int .i64 (wrap64 (c.regions * 2 ^ s) / 2 ^ k), .int .i64 1048576], .int .i64 0]) (by simp [results, Tryd.results16, go_sem, *]) rfl ⟨?_, ?_⟩
      · rw [HE.out.1, HE.out.2, HG.out 1048576 (by rw [if_neg (by omega)])]
      · repeat (refine Fr.setCell ?_ (.inr (Nat.le_succ _)) _)
        exact ((((Fr.refl _ _).alloc _).alloc _).trans_same HF.out).drewN _
  · have h1' : mayB c = false := by simpa using h1
    rw [h1'] at hl
    have HL := hide hl
    have HE : Hid (c.ans = Geo.zero ∧ c.err = 20) := by unfold Cfg.ans Cfg.err; rw [if_neg h1, if_neg h1]; exact ⟨rfl, rfl⟩
    clear hl h1 h1'
    unfold Cfg.val
    go_enter Tryd.func16, Tryd.ntmps16
    go_wp2_with fail
    refine (HL.out _).mono ?_
    rintro e w1 ⟨rfl, hf⟩
    have hb : Blk w1 (w.heap.size + 1) 25 Geo.zero.cells := (Blk.new_at (w := w.alloc (.cells c.cells 49)) 25 Geo.zero.cells (by simp)).fr hf (by simp)
    have HF := hide hf
    have HB := hide hb
    obtain ⟨c0, c1, c2, c3, c4, c5⟩ := GeoAt.of hb
    have f0 := hb.frozen 0
    have f1 := hb.frozen 1
    have f2 := hb.frozen 2
    have f3 := hb.frozen 3
    have f4 := hb.frozen 4
    have f5 := hb.frozen 5
    clear hf hb
    go_wp2_with fail
    refine bodyPost_ret (v := .tuple #[.agg #[.int .i64 0, .int .i64 0, .int .i64 0, .int .i64 0, .int .i64 0, .int .i64 0], .int .i64 20]) (by simp [results, Tryd.results16, go_sem, *]) rfl ⟨?_, ?_⟩
    · rw [HE.out.1, HE.out.2]; rfl
    · repeat (refine Fr.setCell ?_ (.inr (Nat.le_succ _)) _)
      exact (((Fr.refl _ _).alloc _).alloc _).trans_same HF.out
end Go.Proofs.YtbaccleaakmenaaDoor
