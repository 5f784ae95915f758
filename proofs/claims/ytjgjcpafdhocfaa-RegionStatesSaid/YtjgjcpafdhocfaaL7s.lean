/- The statements of layer 7: a call of the script on both tables. -/
import Derived.Test.YtjgjcpafdhocfaaL7
import Derived.Test.YtjgjcpafdhocfaaR7b
import Derived.Test.YtjgjcpafdhocfaaR7c
import Derived.Test.YtjgjcpafdhocfaaR7d
import Derived.Deep.RegionHeld3
namespace Go.Proofs.Ytjgjcpafdhocfaa
set_option linter.unusedVariables false
open Go.RowKit Go.Gl

/-- What a call on the regions answers and leaves, whatever it is asked. -/
def RAny2 (w : World) (tb sb pb mb W n : Nat) (e : Ending) (w' : World) : Prop :=
  ∃ (a b : Int) (s' t' m' : Nat → Int), e = .returned (.tuple #[.int .i64 a, .int .i64 b]) ∧ Rg w' tb sb pb mb W n s' t' m' ∧ Fr [sb, pb, mb] w w'
def RAny1 (w : World) (tb sb pb mb W n : Nat) (e : Ending) (w' : World) : Prop :=
  ∃ (a : Int) (s' t' m' : Nat → Int), e = .returned (.int .i64 a) ∧ Rg w' tb sb pb mb W n s' t' m' ∧ Fr [sb, pb, mb] w w'
section
variable {w : World} {tb sb pb mb W n : Nat} {s t m : Nat → Int} (h : Rg w tb sb pb mb W n s t m)
include h
theorem rclaim_any (x : Int) : Calls Try.prog 9 #[.pointer (some ⟨tb, 0, none⟩), .int .i64 x] w (RAny2 w tb sb pb mb W n) := by
  by_cases hx : Filled x
  · rcases free_ways s n with ⟨k, hk⟩ | hn
    · exact (claim_at h hx hk).mono fun e w' ⟨he, hr, hf⟩ => ⟨_, _, _, _, _, he, hr, hf⟩
    · exact (claim_full h hx hn).mono fun e w' ⟨he, hw⟩ => ⟨_, _, _, _, _, he, hw ▸ h, hw ▸ Fr.refl _ _⟩
  · exact (claim_shape tb w hx).mono fun e w' ⟨he, hw⟩ => ⟨_, _, _, _, _, he, hw ▸ h, hw ▸ Fr.refl _ _⟩
theorem rrun_any (hn1 : 1 ≤ n) {c z : Int} (hc : c ≤ 9223372036854775807) (hz : z ≤ 9223372036854775807) : Calls Try.prog 16 #[.pointer (some ⟨tb, 0, none⟩), .int .i64 c, .int .i64 z] w (RAny2 w tb sb pb mb W n) := by
  by_cases hx : 1 ≤ c ∧ (c - 1) * (W : Int) < z ∧ z ≤ c * (W : Int)
  · obtain ⟨h1, h2, h3⟩ := hx
    obtain ⟨k, rfl⟩ := Int.eq_ofNat_of_zero_le (a := c) (by omega)
    have h0 : 0 ≤ ((k : Int) - 1) * (W : Int) := Int.mul_nonneg (by omega) (by omega)
    obtain ⟨y, rfl⟩ := Int.eq_ofNat_of_zero_le (a := z) (by omega)
    rcases run_ways s n k (by omega) with ⟨f, hf⟩ | hno
    · refine (run_at h (c := k) (f := f) (z := y) (by omega) ?_ ?_ hf).mono fun e w' ⟨he, hr, hf⟩ => ⟨_, _, _, _, _, he, hr, hf⟩
      · have e : ((k - 1 : Nat) : Int) = (k : Int) - 1 := by omega
        rw [← e, ← Int.natCast_mul] at h2
        omega
      · rw [← Int.natCast_mul] at h3
        omega
    · exact (run_full h hn1 (c := k) (by omega) (by omega) hz ⟨h2, h3⟩ hno).mono fun e w' ⟨he, hw⟩ => ⟨_, _, _, _, _, he, hw ▸ h, hw ▸ Fr.refl _ _⟩
  · exact (run_range h hn1 hz hx).mono fun e w' ⟨he, hw⟩ => ⟨_, _, _, _, _, he, hw ▸ h, hw ▸ Fr.refl _ _⟩
theorem rbump_any (r c : Int) : Calls Try.prog 10 #[.pointer (some ⟨tb, 0, none⟩), .int .i64 r, .int .i64 c] w (RAny2 w tb sb pb mb W n) := by
  by_cases hr : (0 ≤ r ∧ r < (n : Int)) ∧ 1 ≤ c
  · obtain ⟨⟨h0, h1⟩, hc⟩ := hr
    obtain ⟨k, rfl⟩ := Int.eq_ofNat_of_zero_le h0
    by_cases hx : Filled (s k)
    · by_cases hfit : t k + c ≤ ((k * W + W : Nat) : Int)
      · exact (bump_at h (by omega) hx hc hfit).mono fun e w' ⟨he, hr, hf⟩ => ⟨_, _, _, _, _, he, hr, hf⟩
      · refine (bump_full h (by omega) hx hc hfit).mono ?_
        rintro e w' ⟨he, q, rfl⟩
        exact ⟨_, _, _, _, _, he, h.drewN q, (Fr.refl _ _).drewN q⟩
    · exact (bump_shape h (by omega) hx hc).mono fun e w' ⟨he, hw⟩ => ⟨_, _, _, _, _, he, hw ▸ h, hw ▸ Fr.refl _ _⟩
  · exact (bump_range h (r := r) (c := c) (by omega)).mono fun e w' ⟨he, hw⟩ => ⟨_, _, _, _, _, he, hw ▸ h, hw ▸ Fr.refl _ _⟩
theorem rsettop_any (r c : Int) : Calls Try.prog 17 #[.pointer (some ⟨tb, 0, none⟩), .int .i64 r, .int .i64 c] w (RAny1 w tb sb pb mb W n) := by
  by_cases hr : 0 ≤ r ∧ r < (n : Int)
  · obtain ⟨h0, h1⟩ := hr
    obtain ⟨k, rfl⟩ := Int.eq_ofNat_of_zero_le h0
    by_cases hc : ((k * W : Nat) : Int) ≤ c ∧ c ≤ ((k * W + W : Nat) : Int)
    · by_cases hx : Filled (s k)
      · exact (settop_at h (by omega) hx hc.1 hc.2).mono fun e w' ⟨he, hr, hf⟩ => ⟨_, _, _, _, he, hr, hf⟩
      · refine (settop_shape h (by omega) hx hc.1 hc.2).mono ?_
        rintro e w' ⟨he, q, rfl⟩
        exact ⟨_, _, _, _, he, h.drewN q, (Fr.refl _ _).drewN q⟩
    · refine (settop_off h (by omega) hc).mono ?_
      rintro e w' ⟨he, q, rfl⟩
      exact ⟨_, _, _, _, he, h.drewN q, (Fr.refl _ _).drewN q⟩
  · exact (settop_out h hr c).mono fun e w' ⟨he, hw⟩ => ⟨_, _, _, _, he, hw ▸ h, hw ▸ Fr.refl _ _⟩
theorem rmark_any (r : Int) : Calls Try.prog 18 #[.pointer (some ⟨tb, 0, none⟩), .int .i64 r] w (RAny1 w tb sb pb mb W n) := by
  by_cases hr : 0 ≤ r ∧ r < (n : Int)
  · obtain ⟨h0, h1⟩ := hr
    obtain ⟨k, rfl⟩ := Int.eq_ofNat_of_zero_le h0
    exact (mark_at h (k := k) (by omega)).mono fun e w' ⟨he, hr, hf⟩ => ⟨_, _, _, _, he, hr, hf⟩
  · exact (mark_out h hr).mono fun e w' ⟨he, hw⟩ => ⟨_, _, _, _, he, hw ▸ h, hw ▸ Fr.refl _ _⟩
theorem rturn_any (r x : Int) : Calls Try.prog 19 #[.pointer (some ⟨tb, 0, none⟩), .int .i64 r, .int .i64 x] w (RAny1 w tb sb pb mb W n) := by
  by_cases hr : 0 ≤ r ∧ r < (n : Int)
  · obtain ⟨h0, h1⟩ := hr
    obtain ⟨k, rfl⟩ := Int.eq_ofNat_of_zero_le h0
    by_cases hx : Filled (s k) ∧ Filled x
    · exact (turn_at h (k := k) (by omega) hx.1 hx.2).mono fun e w' ⟨he, hr, hf⟩ => ⟨_, _, _, _, he, hr, hf⟩
    · exact (turn_shape h (k := k) (by omega) hx).mono fun e w' ⟨he, hw⟩ => ⟨_, _, _, _, he, hw ▸ h, hw ▸ Fr.refl _ _⟩
  · exact (turn_out h hr x).mono fun e w' ⟨he, hw⟩ => ⟨_, _, _, _, he, hw ▸ h, hw ▸ Fr.refl _ _⟩
theorem rrelease_any (r : Int) : Calls Try.prog 20 #[.pointer (some ⟨tb, 0, none⟩), .int .i64 r] w (RAny1 w tb sb pb mb W n) := by
  by_cases hr : 0 ≤ r ∧ r < (n : Int)
  · obtain ⟨h0, h1⟩ := hr
    obtain ⟨k, rfl⟩ := Int.eq_ofNat_of_zero_le h0
    by_cases hx : s k = 0
    · exact (release_none h (k := k) (by omega) hx).mono fun e w' ⟨he, hw⟩ => ⟨_, _, _, _, he, hw ▸ h, hw ▸ Fr.refl _ _⟩
    · exact (release_at h (k := k) (by omega) hx).mono fun e w' ⟨he, hr, hf⟩ => ⟨_, _, _, _, he, hr, hf⟩
  · exact (release_out h hr).mono fun e w' ⟨he, hw⟩ => ⟨_, _, _, _, he, hw ▸ h, hw ▸ Fr.refl _ _⟩
end

/-- Both tables lie there. -/
def Both7 (w : World) (tb sb pb qb mb rb c : Nat) : Prop := (∃ s t m, Rg w tb sb pb qb 64 4 s t m) ∧ ∃ f, Rm w mb rb c f
structure Sep7 (tb sb pb qb mb rb : Nat) : Prop where
  r1 : rb ≠ tb
  r2 : rb ≠ sb
  r3 : rb ≠ pb
  r4 : rb ≠ qb
  m1 : mb ≠ sb
  m2 : mb ≠ pb
  m3 : mb ≠ qb
def StepPost (w : World) (tb sb pb qb mb rb c : Nat) (e : Ending) (w' : World) : Prop := ∃ y : Bool, e = .returned (.bool y) ∧ Both7 w' tb sb pb qb mb rb c ∧ Fr [sb, pb, qb, rb] w w'
theorem sep7 {w : World} {tb sb pb qb mb rb c : Nat} {s t m f : Nat → Int} (h : Rg w tb sb pb qb 64 4 s t m) (h' : Rm w mb rb c f) : Sep7 tb sb pb qb mb rb := by
  obtain ⟨cs, hb, _⟩ := h'.row
  exact ⟨hb.apart h.set (by decide), hb.apart h.st (by decide), hb.apart h.tops (by decide), hb.apart h.tams (by decide), h'.set.apart h.st (by decide), h'.set.apart h.tops (by decide), h'.set.apart h.tams (by decide)⟩
theorem into7 (x : Int) : -7 < x.tmod 7 ∧ x.tmod 7 < 7 ∧ (x.tmod 7 % 7 = 0 ∨ x.tmod 7 % 7 = 1 ∨ x.tmod 7 % 7 = 2 ∨ x.tmod 7 % 7 = 3 ∨ x.tmod 7 % 7 = 4 ∨ x.tmod 7 % 7 = 5 ∨ x.tmod 7 % 7 = 6) := by
  have h1 := Int.lt_tmod_of_pos x (show (0 : Int) < 7 by decide)
  have h2 := Int.tmod_lt_of_pos x (show (0 : Int) < 7 by decide)
  exact ⟨h1, h2, by omega⟩
set_option maxRecDepth 100000 in
set_option maxHeartbeats 6400000 in
theorem step7_any {w : World} {tb sb pb qb mb rb c : Nat} (hb : Both7 w tb sb pb qb mb rb c) (K a b x : Int) (ha : a ≤ 9223372036854775807) (hbb : b ≤ 9223372036854775807) :
    Calls Try.prog 15 #[.pointer (some ⟨tb, 0, none⟩), .pointer (some ⟨mb, 0, none⟩), .agg #[.int .i64 K, .int .i64 a, .int .i64 b, .int .i64 x]] w (StepPost w tb sb pb qb mb rb c) := by
  obtain ⟨⟨s, t, m, hr⟩, f, hm⟩ := hb
  have HS := hide (sep7 hr hm)
  have HX : Hid (Fr [] w (w.alloc (.cells #[.int .i64 K, .int .i64 a, .int .i64 b, .int .i64 x] 48))) := (Fr.refl _ _).alloc _
  have HXB : Hid (Blk (w.alloc (.cells #[.int .i64 K, .int .i64 a, .int .i64 b, .int .i64 x] 48)) w.heap.size 48 #[.int .i64 K, .int .i64 a, .int .i64 b, .int .i64 x]) := Blk.new _ _ _
  have HR := hide (hr.fr0 HX.out)
  have HM := hide (hm.fr HX.out (by simp) (by simp))
  have HL : Hid (sb < w.heap.size ∧ pb < w.heap.size ∧ qb < w.heap.size ∧ rb < w.heap.size) := ⟨hr.st.lt, hr.tops.lt, hr.tams.lt, hm.rlt⟩
  have HA := hide ha
  have HBB := hide hbb
  clear hr hm ha hbb
  obtain ⟨f1, f2, hk⟩ := into7 K
  rcases hk with hk | hk | hk | hk | hk | hk | hk
  · go_enter Try.func15, Try.ntmps15
    go_wp2_with fail
    refine (rclaim_any HR.out x).mono ?_
    rintro e w3 ⟨a1, b1, s3, t3, m3, rfl, hr3, hf3⟩
    have HR3 := hide hr3
    have HM3 := hide (HM.out.fr hf3 (by have := HS.out; simp [this.m1, this.m2, this.m3]) (by have := HS.out; simp [this.r2, this.r3, this.r4]))
    have HF3 := hide hf3
    have B3 := HXB.out.fr hf3 (by have := HL.out; simp; omega)
    have d3 := B3.cell 3
    clear hr3 hf3 B3
    go_wp2_with fail
    refine (mclaim_any HM3.out x).mono ?_
    rintro e w4 ⟨a2, b2, f4, rfl, hm4, hf4⟩
    have HB4 : Hid (Both7 w4 tb sb pb qb mb rb c) := ⟨⟨_, _, _, HR3.out.fr hf4 (by simpa using HS.out.r1.symm) (by simpa using HS.out.r2.symm) (by simpa using HS.out.r3.symm) (by simpa using HS.out.r4.symm)⟩, f4, hm4⟩
    have HF4 : Hid (Fr [sb, pb, qb, rb] w w4) := ((HX.out.mono (G := [sb, pb, qb, rb]) (fun y hy => by cases hy)).trans HF3.out (fun y hy => by simp at hy; simp; omega)).trans hf4 (fun y hy => by simp at hy; simp; omega)
    clear hm4 hf4
    go_wp2_with fail
    all_goals
      go_ret
      exact ⟨_, rfl, HB4.out, HF4.out⟩
  · go_enter Try.func15, Try.ntmps15
    go_wp2_with fail
    refine (rrun_any HR.out (by decide) HA.out HBB.out).mono ?_
    rintro e w3 ⟨a1, b1, s3, t3, m3, rfl, hr3, hf3⟩
    have HR3 := hide hr3
    have HM3 := hide (HM.out.fr hf3 (by have := HS.out; simp [this.m1, this.m2, this.m3]) (by have := HS.out; simp [this.r2, this.r3, this.r4]))
    have HF3 := hide hf3
    have B3 := HXB.out.fr hf3 (by have := HL.out; simp; omega)
    have d1 := B3.cell 1
    have d2 := B3.cell 2
    clear hr3 hf3 B3
    go_wp2_with fail
    refine (mrun_any HM3.out a b).mono ?_
    rintro e w4 ⟨a2, b2, f4, rfl, hm4, hf4⟩
    have HB4 : Hid (Both7 w4 tb sb pb qb mb rb c) := ⟨⟨_, _, _, HR3.out.fr hf4 (by simpa using HS.out.r1.symm) (by simpa using HS.out.r2.symm) (by simpa using HS.out.r3.symm) (by simpa using HS.out.r4.symm)⟩, f4, hm4⟩
    have HF4 : Hid (Fr [sb, pb, qb, rb] w w4) := ((HX.out.mono (G := [sb, pb, qb, rb]) (fun y hy => by cases hy)).trans HF3.out (fun y hy => by simp at hy; simp; omega)).trans hf4 (fun y hy => by simp at hy; simp; omega)
    clear hm4 hf4
    go_wp2_with fail
    all_goals
      go_ret
      exact ⟨_, rfl, HB4.out, HF4.out⟩
  · go_enter Try.func15, Try.ntmps15
    go_wp2_with fail
    refine (rbump_any HR.out a b).mono ?_
    rintro e w3 ⟨a1, b1, s3, t3, m3, rfl, hr3, hf3⟩
    have HR3 := hide hr3
    have HM3 := hide (HM.out.fr hf3 (by have := HS.out; simp [this.m1, this.m2, this.m3]) (by have := HS.out; simp [this.r2, this.r3, this.r4]))
    have HF3 := hide hf3
    have B3 := HXB.out.fr hf3 (by have := HL.out; simp; omega)
    have d1 := B3.cell 1
    have d2 := B3.cell 2
    clear hr3 hf3 B3
    go_wp2_with fail
    refine (mbump_any HM3.out a HBB.out).mono ?_
    rintro e w4 ⟨a2, b2, f4, rfl, hm4, hf4⟩
    have HB4 : Hid (Both7 w4 tb sb pb qb mb rb c) := ⟨⟨_, _, _, HR3.out.fr hf4 (by simpa using HS.out.r1.symm) (by simpa using HS.out.r2.symm) (by simpa using HS.out.r3.symm) (by simpa using HS.out.r4.symm)⟩, f4, hm4⟩
    have HF4 : Hid (Fr [sb, pb, qb, rb] w w4) := ((HX.out.mono (G := [sb, pb, qb, rb]) (fun y hy => by cases hy)).trans HF3.out (fun y hy => by simp at hy; simp; omega)).trans hf4 (fun y hy => by simp at hy; simp; omega)
    clear hm4 hf4
    go_wp2_with fail
    all_goals
      go_ret
      exact ⟨_, rfl, HB4.out, HF4.out⟩
  · have HM1 : Hid (∀ w', Rg w' tb sb pb qb 64 4 s t m → Calls Try.prog 17 #[.pointer (some ⟨tb, 0, none⟩), .int .i64 a, .int .i64 b] w' (RAny1 w' tb sb pb qb 64 4)) := fun w' h => rsettop_any h a b
    have HM2 : Hid (∀ w', Rm w' mb rb c f → Calls Try.prog 31 #[.pointer (some ⟨mb, 0, none⟩), .int .i64 a, .int .i64 b] w' (MPost1 w' mb rb c)) := fun w' h => msettop_any h a b
    go_enter Try.func15, Try.ntmps15
    go_wp2_with fail
    generalize hwx : w.alloc (.cells #[.int .i64 K, .int .i64 a, .int .i64 b, .int .i64 x] 48) = wx at *
    have X1 : wx.cell? ⟨w.heap.size, 1, none⟩ = some (.int .i64 a) := by rw [HXB.out.cell]; rfl
    have X2 : wx.cell? ⟨w.heap.size, 2, none⟩ = some (.int .i64 b) := by rw [HXB.out.cell]; rfl
    have XL : w.heap.size < wx.heap.size := HXB.out.lt
    have XN : Hid (w.heap.size ∉ [sb, pb, qb] ∧ w.heap.size ∉ [sb, pb, qb, rb]) := by have := HL.out; exact ⟨by simp; omega, by simp; omega⟩
    clear hwx
    go_region_held3 (fun w' => w'.cell? ⟨w.heap.size, 1, none⟩ = some (.int .i64 a) ∧ w'.cell? ⟨w.heap.size, 2, none⟩ = some (.int .i64 b))
      (first | exact ⟨X1, X2⟩ | exact ⟨(hf3.from_drew.cell (p := ⟨_, 1, none⟩) XL XN.out.1).trans X1, (hf3.from_drew.cell (p := ⟨_, 2, none⟩) XL XN.out.1).trans X2⟩ | exact ⟨(hf34.cell (p := ⟨_, 1, none⟩) XL XN.out.2).trans X1, (hf34.cell (p := ⟨_, 2, none⟩) XL XN.out.2).trans X2⟩ | go_keep)
      (first | (go_at_call 17; refine (HM1.out _ HR.out.drew).mono ?_; rintro e w3 ⟨a1, s3, t3, m3, rfl, hr3, hf3⟩; have HM3 := hide (HM.out.fr hf3.from_drew (by have := HS.out; simp [this.m1, this.m2, this.m3]) (by have := HS.out; simp [this.r2, this.r3, this.r4]))) | (go_at_call 31; refine (HM2.out _ HM3.out).mono ?_; rintro e w4 ⟨a2, f4, rfl, hm4, hf4⟩; have hf34 : Fr [sb, pb, qb, rb] wx w4 := (hf3.from_drew.mono (G := [sb, pb, qb, rb]) (fun x hx => by simp at hx; simp; omega)).trans hf4 (fun x hx => by simp at hx; simp [hx])))
    have HB4 : Hid (Both7 w4 tb sb pb qb mb rb c) := ⟨⟨_, _, _, hr3.fr hf4 (by simpa using HS.out.r1.symm) (by simpa using HS.out.r2.symm) (by simpa using HS.out.r3.symm) (by simpa using HS.out.r4.symm)⟩, f4, hm4⟩
    have HF4 : Hid (Fr [sb, pb, qb, rb] w w4) := (HX.out.mono (G := [sb, pb, qb, rb]) (fun y hy => by cases hy)).trans hf34 (fun y hy => by simp at hy; simp; omega)
    clear hr3 hf3 hm4 hf4 hf34
    go_wp2_with fail
    all_goals
      go_ret
      exact ⟨_, rfl, HB4.out, HF4.out⟩
  · have HM1 : Hid (∀ w', Rg w' tb sb pb qb 64 4 s t m → Calls Try.prog 18 #[.pointer (some ⟨tb, 0, none⟩), .int .i64 a] w' (RAny1 w' tb sb pb qb 64 4)) := fun w' h => rmark_any h a
    have HM2 : Hid (∀ w', Rm w' mb rb c f → Calls Try.prog 32 #[.pointer (some ⟨mb, 0, none⟩), .int .i64 a] w' (MPost1 w' mb rb c)) := fun w' h => mmark_any h a
    go_enter Try.func15, Try.ntmps15
    go_wp2_with fail
    generalize hwx : w.alloc (.cells #[.int .i64 K, .int .i64 a, .int .i64 b, .int .i64 x] 48) = wx at *
    have X1 : wx.cell? ⟨w.heap.size, 1, none⟩ = some (.int .i64 a) := by rw [HXB.out.cell]; rfl
    have XL : w.heap.size < wx.heap.size := HXB.out.lt
    have XN : Hid (w.heap.size ∉ [sb, pb, qb] ∧ w.heap.size ∉ [sb, pb, qb, rb]) := by have := HL.out; exact ⟨by simp; omega, by simp; omega⟩
    clear hwx
    go_region_held3 (fun w' => w'.cell? ⟨w.heap.size, 1, none⟩ = some (.int .i64 a))
      (first | exact X1 | exact (hf3.from_drew.cell (p := ⟨_, 1, none⟩) XL XN.out.1).trans X1 | exact (hf34.cell (p := ⟨_, 1, none⟩) XL XN.out.2).trans X1 | go_keep)
      (first | (go_at_call 18; refine (HM1.out _ HR.out.drew).mono ?_; rintro e w3 ⟨a1, s3, t3, m3, rfl, hr3, hf3⟩; have HM3 := hide (HM.out.fr hf3.from_drew (by have := HS.out; simp [this.m1, this.m2, this.m3]) (by have := HS.out; simp [this.r2, this.r3, this.r4]))) | (go_at_call 32; refine (HM2.out _ HM3.out).mono ?_; rintro e w4 ⟨a2, f4, rfl, hm4, hf4⟩; have hf34 : Fr [sb, pb, qb, rb] wx w4 := (hf3.from_drew.mono (G := [sb, pb, qb, rb]) (fun x hx => by simp at hx; simp; omega)).trans hf4 (fun x hx => by simp at hx; simp [hx])))
    have HB4 : Hid (Both7 w4 tb sb pb qb mb rb c) := ⟨⟨_, _, _, hr3.fr hf4 (by simpa using HS.out.r1.symm) (by simpa using HS.out.r2.symm) (by simpa using HS.out.r3.symm) (by simpa using HS.out.r4.symm)⟩, f4, hm4⟩
    have HF4 : Hid (Fr [sb, pb, qb, rb] w w4) := (HX.out.mono (G := [sb, pb, qb, rb]) (fun y hy => by cases hy)).trans hf34 (fun y hy => by simp at hy; simp; omega)
    clear hr3 hf3 hm4 hf4 hf34
    go_wp2_with fail
    all_goals
      go_ret
      exact ⟨_, rfl, HB4.out, HF4.out⟩
  · have HM1 : Hid (∀ w', Rg w' tb sb pb qb 64 4 s t m → Calls Try.prog 19 #[.pointer (some ⟨tb, 0, none⟩), .int .i64 a, .int .i64 x] w' (RAny1 w' tb sb pb qb 64 4)) := fun w' h => rturn_any h a x
    have HM2 : Hid (∀ w', Rm w' mb rb c f → Calls Try.prog 33 #[.pointer (some ⟨mb, 0, none⟩), .int .i64 a, .int .i64 x] w' (MPost1 w' mb rb c)) := fun w' h => mturn_any h a x
    go_enter Try.func15, Try.ntmps15
    go_wp2_with fail
    generalize hwx : w.alloc (.cells #[.int .i64 K, .int .i64 a, .int .i64 b, .int .i64 x] 48) = wx at *
    have X1 : wx.cell? ⟨w.heap.size, 1, none⟩ = some (.int .i64 a) := by rw [HXB.out.cell]; rfl
    have X3 : wx.cell? ⟨w.heap.size, 3, none⟩ = some (.int .i64 x) := by rw [HXB.out.cell]; rfl
    have XL : w.heap.size < wx.heap.size := HXB.out.lt
    have XN : Hid (w.heap.size ∉ [sb, pb, qb] ∧ w.heap.size ∉ [sb, pb, qb, rb]) := by have := HL.out; exact ⟨by simp; omega, by simp; omega⟩
    clear hwx
    go_region_held3 (fun w' => w'.cell? ⟨w.heap.size, 1, none⟩ = some (.int .i64 a) ∧ w'.cell? ⟨w.heap.size, 3, none⟩ = some (.int .i64 x))
      (first | exact ⟨X1, X3⟩ | exact ⟨(hf3.from_drew.cell (p := ⟨_, 1, none⟩) XL XN.out.1).trans X1, (hf3.from_drew.cell (p := ⟨_, 3, none⟩) XL XN.out.1).trans X3⟩ | exact ⟨(hf34.cell (p := ⟨_, 1, none⟩) XL XN.out.2).trans X1, (hf34.cell (p := ⟨_, 3, none⟩) XL XN.out.2).trans X3⟩ | go_keep)
      (first | (go_at_call 19; refine (HM1.out _ HR.out.drew).mono ?_; rintro e w3 ⟨a1, s3, t3, m3, rfl, hr3, hf3⟩; have HM3 := hide (HM.out.fr hf3.from_drew (by have := HS.out; simp [this.m1, this.m2, this.m3]) (by have := HS.out; simp [this.r2, this.r3, this.r4]))) | (go_at_call 33; refine (HM2.out _ HM3.out).mono ?_; rintro e w4 ⟨a2, f4, rfl, hm4, hf4⟩; have hf34 : Fr [sb, pb, qb, rb] wx w4 := (hf3.from_drew.mono (G := [sb, pb, qb, rb]) (fun x hx => by simp at hx; simp; omega)).trans hf4 (fun x hx => by simp at hx; simp [hx])))
    have HB4 : Hid (Both7 w4 tb sb pb qb mb rb c) := ⟨⟨_, _, _, hr3.fr hf4 (by simpa using HS.out.r1.symm) (by simpa using HS.out.r2.symm) (by simpa using HS.out.r3.symm) (by simpa using HS.out.r4.symm)⟩, f4, hm4⟩
    have HF4 : Hid (Fr [sb, pb, qb, rb] w w4) := (HX.out.mono (G := [sb, pb, qb, rb]) (fun y hy => by cases hy)).trans hf34 (fun y hy => by simp at hy; simp; omega)
    clear hr3 hf3 hm4 hf4 hf34
    go_wp2_with fail
    all_goals
      go_ret
      exact ⟨_, rfl, HB4.out, HF4.out⟩
  · have HM1 : Hid (∀ w', Rg w' tb sb pb qb 64 4 s t m → Calls Try.prog 20 #[.pointer (some ⟨tb, 0, none⟩), .int .i64 a] w' (RAny1 w' tb sb pb qb 64 4)) := fun w' h => rrelease_any h a
    have HM2 : Hid (∀ w', Rm w' mb rb c f → Calls Try.prog 34 #[.pointer (some ⟨mb, 0, none⟩), .int .i64 a] w' (MPost1 w' mb rb c)) := fun w' h => mrelease_any h a
    go_enter Try.func15, Try.ntmps15
    go_wp2_with fail
    generalize hwx : w.alloc (.cells #[.int .i64 K, .int .i64 a, .int .i64 b, .int .i64 x] 48) = wx at *
    have X1 : wx.cell? ⟨w.heap.size, 1, none⟩ = some (.int .i64 a) := by rw [HXB.out.cell]; rfl
    have XL : w.heap.size < wx.heap.size := HXB.out.lt
    have XN : Hid (w.heap.size ∉ [sb, pb, qb] ∧ w.heap.size ∉ [sb, pb, qb, rb]) := by have := HL.out; exact ⟨by simp; omega, by simp; omega⟩
    clear hwx
    go_region_held3 (fun w' => w'.cell? ⟨w.heap.size, 1, none⟩ = some (.int .i64 a))
      (first | exact X1 | exact (hf3.from_drew.cell (p := ⟨_, 1, none⟩) XL XN.out.1).trans X1 | exact (hf34.cell (p := ⟨_, 1, none⟩) XL XN.out.2).trans X1 | go_keep)
      (first | (go_at_call 20; refine (HM1.out _ HR.out.drew).mono ?_; rintro e w3 ⟨a1, s3, t3, m3, rfl, hr3, hf3⟩; have HM3 := hide (HM.out.fr hf3.from_drew (by have := HS.out; simp [this.m1, this.m2, this.m3]) (by have := HS.out; simp [this.r2, this.r3, this.r4]))) | (go_at_call 34; refine (HM2.out _ HM3.out).mono ?_; rintro e w4 ⟨a2, f4, rfl, hm4, hf4⟩; have hf34 : Fr [sb, pb, qb, rb] wx w4 := (hf3.from_drew.mono (G := [sb, pb, qb, rb]) (fun x hx => by simp at hx; simp; omega)).trans hf4 (fun x hx => by simp at hx; simp [hx])))
    have HB4 : Hid (Both7 w4 tb sb pb qb mb rb c) := ⟨⟨_, _, _, hr3.fr hf4 (by simpa using HS.out.r1.symm) (by simpa using HS.out.r2.symm) (by simpa using HS.out.r3.symm) (by simpa using HS.out.r4.symm)⟩, f4, hm4⟩
    have HF4 : Hid (Fr [sb, pb, qb, rb] w w4) := (HX.out.mono (G := [sb, pb, qb, rb]) (fun y hy => by cases hy)).trans hf34 (fun y hy => by simp at hy; simp; omega)
    clear hr3 hf3 hm4 hf4 hf34
    go_wp2_with fail
    all_goals
      go_ret
      exact ⟨_, rfl, HB4.out, HF4.out⟩
end Go.Proofs.Ytjgjcpafdhocfaa
