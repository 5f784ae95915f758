/- The package region: Run. -/
import Derived.Test.YtjgjcpafdhocfaaRt4
import Derived.Deep.RegionHeld3
namespace Go.Proofs.Ytjgjcpafdhocfaa
set_option linter.unusedVariables false
open Go.RowKit Go.Gl

/-- The Tops of a run from region f on, of z words. -/
def runTop (W f z : Nat) : Nat → Int := fun j => if ((j * W + W : Nat) : Int) < ((f * W + z : Nat) : Int) then ((j * W + W : Nat) : Int) else ((f * W + z : Nat) : Int)
theorem runTop_ok {W f z c j : Nat} (h1 : (c - 1) * W < z) (hj : f ≤ j) (hj2 : j < f + c) : ((j * W : Nat) : Int) ≤ runTop W f z j ∧ runTop W f z j ≤ ((j * W + W : Nat) : Int) := by
  have a1 : (j - f) * W ≤ (c - 1) * W := Nat.mul_le_mul_right W (by omega)
  have a2 : j * W = f * W + (j - f) * W := by rw [← Nat.add_mul]; congr 1; omega
  unfold runTop
  split <;> omega
set_option maxHeartbeats 800000 in
theorem run_at {w : World} {tb sb pb mb W n : Nat} {s t m : Nat → Int} (h : Rg w tb sb pb mb W n s t m) {c f z : Nat} (hc : 1 ≤ c) (hz1 : (c - 1) * W < z) (hz2 : z ≤ c * W) (hl : LowRun s n c f) :
    Calls Try.prog 16 #[.pointer (some ⟨tb, 0, none⟩), .int .i64 (c : Int), .int .i64 (z : Int)] w
      (RPost w tb sb pb mb W n (put1 (put2 s f (f + c) fun _ => 5) f 4) (put2 t f (f + c) (runTop W f z)) m (.tuple #[.int .i64 (f : Int), .int .i64 0])) := by
  have hfc := hl.1
  have hn := h.nmax
  have hW := h.pos
  have hzb : f * W + z ≤ 4194304 := by
    have a1 : (f + c) * W ≤ n * W := Nat.mul_le_mul_right W hfc
    have a2 := h.max
    rw [Nat.add_mul] at a1
    omega
  have hcs : (c : Int) = spanE W (z : Int) := (spanE_iff hW hc _).2 ⟨by
    have : ((c - 1 : Nat) : Int) = (c : Int) - 1 := by omega
    rw [← this, ← Int.natCast_mul]; omega, by rw [← Int.natCast_mul]; omega⟩
  have HS : Hid (Calls Try.prog 35 #[.pointer (some ⟨tb, 0, none⟩), .int .i64 (z : Int)] w fun e w' => e = .returned (.int .i64 (c : Int)) ∧ w = w') := by
    have := span_any h (by omega) (z := (z : Int)) (by omega)
    rw [← hcs] at this
    exact this
  have HL : Hid (Calls Try.prog 36 #[.pointer (some ⟨tb, 0, none⟩), .int .i64 (c : Int)] w fun e w' => e = .returned (.int .i64 (f : Int)) ∧ w = w') := (lowrun_any h hc (by omega)).mono fun e w' ⟨x, he, hw, hx⟩ => by
    rcases hx with ⟨f', rfl, hf'⟩ | ⟨_, hno⟩
    · rw [he, hl.unique hf']; exact ⟨rfl, hw⟩
    · exact absurd hl.2.1 (hno f hfc)
  have HB := hide (base_at h (k := f) (by omega))
  have H := hide h
  have HZ := hide hz1
  have HBE : Hid (∀ j, f ≤ j → j < f + c → ((j * W : Nat) : Int) ≤ runTop W f z j ∧ runTop W f z j ≤ ((j * W + W : Nat) : Int)) := fun j hj hj2 => runTop_ok hz1 hj hj2
  have HT : Hid (∀ j, runTop W f z j = if ((j * W + W : Nat) : Int) < ((f * W + z : Nat) : Int) then ((j * W + W : Nat) : Int) else ((f * W + z : Nat) : Int)) := fun j => rfl
  unfold RPost
  clear h hl hz1 hz2 hcs
  generalize runTop W f z = rt at *
  obtain ⟨B, hB⟩ : ∃ B, B = f * W := ⟨_, rfl⟩
  rw [← hB] at HB hzb HT
  clear hB
  go_enter Try.func16, Try.ntmps16
  go_wp2_with (first | (go_at_call 35; refine HS.out.mono ?_; rintro e w' ⟨rfl, rfl⟩) | (go_at_call 36; refine HL.out.mono ?_; rintro e w' ⟨rfl, rfl⟩) | (go_at_call 37; refine HB.out.mono ?_; rintro e w' ⟨rfl, rfl⟩))
  go_loopw [10] (fun i wr => ∃ j : Nat, i = .int .i64 (j : Nat) ∧ f ≤ j ∧ j ≤ f + c ∧ Rg wr tb sb pb mb W n (put2 s f j fun _ => 5) (put2 t f j rt) m ∧ Fr [sb, pb, mb] w wr) (fun i _ => f + c - (intOf i).toNat)
  case atStart => exact ⟨f, rfl, Nat.le_refl _, by omega, by rw [put2_none (Nat.le_refl _), put2_none (Nat.le_refl _)]; exact H.out, Fr.refl _ _⟩
  case round =>
    obtain ⟨j, rfl, hj1, hj2, hr, hfr⟩ := hrel
    have HR := hide hr
    have HF := hide hfr
    by_cases hlt : j < f + c
    · have hlt' : (j : Int) < (f : Int) + (c : Int) := by omega
      have hj : j < n := by omega
      have hj' : (j : Int) < (n : Int) := by omega
      have c1 := hr.c1
      have cs := hr.cs hj
      have cz := hr.st.frozen j
      have HP := hide (hr.putS j 5 (by decide))
      have es := put2_end s (a := f) (k := j) 5 hj1 (fun _ => 5) rfl
      rw [es] at HP
      clear hr hfr es
      generalize (put2 s f j fun _ => 5) j = y at *
      go_wp2_with fail
      have HF1 : Hid (Fr [sb, pb, mb] w (wr.setCell ⟨sb, j, none⟩ (.int .i64 5))) := HF.out.setCell (p := ⟨sb, j, none⟩) (.inl (by simp)) _
      generalize wr.setCell ⟨sb, j, none⟩ (.int .i64 5) = w1 at *
      clear c1 cs cz
      have HE : Hid (∀ w', Rg w' tb sb pb mb W n (put2 s f (j + 1) fun _ => 5) (put2 t f j rt) m → Calls Try.prog 27 #[.pointer (some ⟨tb, 0, none⟩), .int .i64 (j : Int)] w' fun e w'' => e = .returned (.int .i64 ((j * W + W : Nat) : Int)) ∧ ∃ q, w'' = w'.drewN q) := fun w' h' => end_at h' hj
      have c2 := HP.out.c2
      have ct := HP.out.ct hj
      have cz := HP.out.tops.frozen j
      have hbe := HBE.out j (by omega) (by omega)
      have hrt := HT.out j
      have HP2 := hide (HP.out.putT j (rt j) (fun _ => hbe))
      have es := put2_end t (a := f) (k := j) (rt j) hj1 rt rfl
      rw [es] at HP2
      clear es hbe
      have hE4 := HP.out.base_le hj
      generalize put2 t f j rt j = T at *
      generalize j * W + W = E at *
      have HP1 := hide HP.out.drew
      generalize rt j = R at *
      have k2 : (w1.setCell ⟨pb, j, none⟩ (.int .i64 R)).cell? ⟨tb, 2, none⟩ = some (.slice (some ⟨pb, 0, none⟩) n n) := HP2.out.c2
      rw [Int.natCast_add B z] at hrt
      subst hrt
      go_region_held3 (fun w' => w'.cell? ⟨tb, 2, none⟩ = some (.slice (some ⟨pb, 0, none⟩) n n))
        (first | exact c2 | exact k2 | go_keep)
        (first | (go_at_call 27; refine (HE.out _ HP1.out).mono ?_; rintro e w' ⟨rfl, q, rfl⟩))
      go_wp2_with fail
      go_roundw
      case rel => exact ⟨j + 1, by go_num, by omega, by omega, HP2.out.drewN _, (HF1.out.setCell (p := ⟨pb, j, none⟩) (.inl (by simp)) _).drewN _⟩
      case measure => simp [intOf]; omega
    · have hlt' : ¬ (j : Int) < (f : Int) + (c : Int) := by omega
      obtain rfl : j = f + c := by omega
      have hj : f < n := by omega
      have hj' : (f : Int) < (n : Int) := by omega
      have c1 := hr.c1
      have cs := hr.cs hj
      have cz := hr.st.frozen f
      have HP := hide (hr.putS f 4 (by decide))
      clear hr hfr
      generalize (put2 s f (f + c) fun _ => 5) f = y at *
      go_wp2_with fail
      go_ret2
      exact ⟨rfl, HP.out, HF.out.setCell (p := ⟨sb, f, none⟩) (.inl (by simp)) _⟩
theorem run_full {w : World} {tb sb pb mb W n : Nat} {s t m : Nat → Int} (h : Rg w tb sb pb mb W n s t m) (hn1 : 1 ≤ n) {c : Nat} {z : Int} (hc : 1 ≤ c) (hcm : c ≤ 9223372036854775807) (hzm : z ≤ 9223372036854775807) (hz : ((c : Int) - 1) * (W : Int) < z ∧ z ≤ (c : Int) * (W : Int)) (hl : NoRun s n c) :
    Calls Try.prog 16 #[.pointer (some ⟨tb, 0, none⟩), .int .i64 (c : Int), .int .i64 z] w fun e w' => e = .returned (.tuple #[.int .i64 0, .int .i64 6]) ∧ w = w' := by
  have hcs : (c : Int) = spanE W z := (spanE_iff h.pos hc _).2 hz
  have HS : Hid (Calls Try.prog 35 #[.pointer (some ⟨tb, 0, none⟩), .int .i64 z] w fun e w' => e = .returned (.int .i64 (c : Int)) ∧ w = w') := by
    have := span_any h hn1 (z := z) hzm
    rw [← hcs] at this
    exact this
  have HL : Hid (Calls Try.prog 36 #[.pointer (some ⟨tb, 0, none⟩), .int .i64 (c : Int)] w fun e w' => e = .returned (.int .i64 (-1)) ∧ w = w') := (lowrun_any h hc hcm).mono fun e w' ⟨x, he, hw, hx⟩ => by
    rcases hx with ⟨f', rfl, hf'⟩ | ⟨hx, hno⟩
    · exact absurd hf'.2.1 (hl f' hf'.1)
    · rw [he, hx]; exact ⟨rfl, hw⟩
  clear h hl hz hcs
  go_enter Try.func16, Try.ntmps16
  go_wp2_with (first | (go_at_call 35; refine HS.out.mono ?_; rintro e w' ⟨rfl, rfl⟩) | (go_at_call 36; refine HL.out.mono ?_; rintro e w' ⟨rfl, rfl⟩))
  go_ret2
  exact ⟨rfl, rfl⟩
theorem run_range {w : World} {tb sb pb mb W n : Nat} {s t m : Nat → Int} (h : Rg w tb sb pb mb W n s t m) (hn1 : 1 ≤ n) {c z : Int} (hzm : z ≤ 9223372036854775807) (hc : ¬ (1 ≤ c ∧ (c - 1) * (W : Int) < z ∧ z ≤ c * (W : Int))) :
    Calls Try.prog 16 #[.pointer (some ⟨tb, 0, none⟩), .int .i64 c, .int .i64 z] w fun e w' => e = .returned (.tuple #[.int .i64 0, .int .i64 2]) ∧ w = w' := by
  by_cases h1 : c < 1
  · clear hc h
    go_enter Try.func16, Try.ntmps16
    go_wp2
    go_ret2
    exact ⟨rfl, rfl⟩
  · have h2 : ¬ c = spanE W z := fun he => by
      obtain ⟨k, rfl⟩ := Int.eq_ofNat_of_zero_le (a := c) (by omega)
      have := (spanE_iff h.pos (c := k) (by omega) z).1 he
      exact hc ⟨by omega, this⟩
    have HS := hide (span_any h hn1 (z := z) hzm)
    generalize spanE W z = y at *
    clear hc h
    go_enter Try.func16, Try.ntmps16
    go_wp2_with (first | (go_at_call 35; refine HS.out.mono ?_; rintro e w' ⟨rfl, rfl⟩))
    go_ret2
    exact ⟨rfl, rfl⟩
end Go.Proofs.Ytjgjcpafdhocfaa
