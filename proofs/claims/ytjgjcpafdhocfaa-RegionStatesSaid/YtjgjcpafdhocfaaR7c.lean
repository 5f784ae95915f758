/- gleanerref07: Run. -/
import Derived.Test.YtjgjcpafdhocfaaR7
namespace Go.Proofs.Ytjgjcpafdhocfaa
set_option linter.unusedVariables false
open Go.RowKit Go.Gl

set_option maxRecDepth 100000 in
set_option maxHeartbeats 3200000 in
theorem mrun_any {w : World} {mb rb c : Nat} {f : Nat → Int} (h : Rm w mb rb c f) (n z : Int) :
    Calls Try.prog 29 #[.pointer (some ⟨mb, 0, none⟩), .int .i64 n, .int .i64 z] w (MPost2 w mb rb c) := by
  have H := hide h
  have c0 := h.c0
  have c1 := h.c1
  clear h
  by_cases h1 : n < 1
  · go_enter Try.func29, Try.ntmps29
    go_wp2
    go_ret2
    exact ⟨_, _, _, rfl, H.out, Fr.refl _ _⟩
  by_cases h2 : 4194304 < n
  · go_enter Try.func29, Try.ntmps29
    go_wp2
    go_ret2
    exact ⟨_, _, _, rfl, H.out, Fr.refl _ _⟩
  by_cases h3 : z ≤ (n - 1) * 64
  · go_enter Try.func29, Try.ntmps29
    go_wp2
    go_ret2
    exact ⟨_, _, _, rfl, H.out, Fr.refl _ _⟩
  by_cases h4 : n * 64 < z
  · go_enter Try.func29, Try.ntmps29
    go_wp2
    go_ret2
    exact ⟨_, _, _, rfl, H.out, Fr.refl _ _⟩
  obtain ⟨m, rfl⟩ := Int.eq_ofNat_of_zero_le (a := n) (by omega)
  have hm1 : 1 ≤ m := by omega
  have hm2 : m ≤ 4194304 := by omega
  have hz1 : 1 ≤ z := by omega
  have hz2 : z ≤ 268435456 := by omega
  go_enter Try.func29, Try.ntmps29
  go_wp2_with fail
  go_loopw [8] (fun i wr => ∃ r : Nat, i = .int .i64 r ∧ r ≤ 4 ∧ w = wr) (fun i _ => 5 - (intOf i).toNat)
  case atStart => exact ⟨0, rfl, by decide, rfl⟩
  case round =>
    obtain ⟨r, rfl, hr, rfl⟩ := hrel
    by_cases hlt : r + m ≤ 4
    · have hlt' : (r : Int) + (m : Int) ≤ 4 := by omega
      go_wp2_with fail
      go_loopw [9, 10] (fun b i wr => ∃ (q : Nat) (y : Bool), b = .bool y ∧ i = .int .i64 q ∧ r ≤ q ∧ q ≤ r + m ∧ w = wr) (fun _ i _ => r + m - (intOf i).toNat)
      case atStart => exact ⟨r, true, rfl, rfl, Nat.le_refl _, by omega, rfl⟩
      case round =>
        obtain ⟨q, y, rfl, rfl, hq1, hq2, rfl⟩ := hrel
        by_cases hq : q < r + m
        · have hq' : (q : Int) < (r : Int) + (m : Int) := by omega
          have hq4 : (q : Int) < 4 := by omega
          have hc := H.out.cr (k := q * 3) (by omega)
          generalize f (q * 3) = x at hc
          cases y
          · go_wp2_with fail
            go_roundw
            case rel => exact ⟨q + 1, false, rfl, by go_num, by omega, by omega, trivial⟩
            case measure => simp [intOf]; omega
          · go_wp2_with fail
            go_roundw
            case rel => exact ⟨q + 1, x == 0, rfl, by go_num, by omega, by omega, trivial⟩
            case measure => simp [intOf]; omega
        · have hq' : ¬ (q : Int) < (r : Int) + (m : Int) := by omega
          cases y
          · go_wp2_with fail
            go_roundw
            case rel => exact ⟨r + 1, by go_num, by omega, trivial⟩
            case measure => simp [intOf]; omega
          · go_wp2_with fail
            go_loopw [11] (fun i wr => ∃ (q : Nat) (f' : Nat → Int), i = .int .i64 q ∧ r ≤ q ∧ q ≤ r + m ∧ Rm wr mb rb c f' ∧ Fr [rb] w wr) (fun i _ => r + m - (intOf i).toNat)
            case atStart => exact ⟨r, f, rfl, Nat.le_refl _, by omega, H.out, Fr.refl _ _⟩
            case round =>
              obtain ⟨p, f', rfl, hp1, hp2, hr2, hfr⟩ := hrel
              have HR := hide hr2
              have HF := hide hfr
              by_cases hp : p < r + m
              · have hp' : (p : Int) < (r : Int) + (m : Int) := by omega
                have hp4 : (p : Int) < 4 := by omega
                have d1 := hr2.c1
                have dc := hr2.cr (k := p * 3) (by omega)
                have dz := hr2.fz (p * 3)
                have HP := hide (hr2.put (p * 3) 5 (fun j hj he => by omega))
                clear hr2 hfr c0 c1
                generalize f' (p * 3) = x at dc
                go_wp2_with fail
                have HF1 : Hid (Fr [rb] w (wr.setCell ⟨rb, p * 3, none⟩ (.int .i64 5))) := HF.out.setCell (p := ⟨rb, p * 3, none⟩) (.inl (by simp)) _
                generalize wr.setCell ⟨rb, p * 3, none⟩ (.int .i64 5) = w1 at *
                clear d1 dc dz
                generalize put1 f' (p * 3) 5 = f1 at *
                have d0 := HP.out.c0
                have d1 := HP.out.c1
                have dc := HP.out.cr (k := p * 3 + 1) (by omega)
                have dz := HP.out.fz (p * 3 + 1)
                have HP2 := hide (HP.out.put (p * 3 + 1) (if ((p : Int) + 1) * 64 < (r : Int) * 64 + z then ((p : Int) + 1) * 64 else (r : Int) * 64 + z) (fun j hj he => by
                  obtain rfl : j = p := by omega
                  split <;> omega))
                generalize f1 (p * 3 + 1) = T at dc
                have z1 : z ≤ 256 := by omega
                clear hz2 h2 hm2
                refine region_tail 23 (by kernel_rfl) (by kernel_rfl) ?_
                simp only [List.take_succ_cons, List.take_zero, List.drop_succ_cons, List.drop_zero]
                repeat still_step
                refine wpStill_nil ?_
                go_wp2_with fail
                go_roundw
                case rel => exact ⟨p + 1, _, by go_num, by omega, by omega, HP2.out.drew, (HF1.out.setCell (p := ⟨rb, p * 3 + 1, none⟩) (.inl (by simp)) _).drew⟩
                case measure => simp [intOf]; omega
              · have hp' : ¬ (p : Int) < (r : Int) + (m : Int) := by omega
                have hr4 : (r : Int) < 4 := by omega
                have d1 := hr2.c1
                have dc := hr2.cr (k := r * 3) (by omega)
                have dz := hr2.fz (r * 3)
                have HP := hide (hr2.put (r * 3) 4 (fun j hj he => by omega))
                clear hr2 hfr c0 c1
                generalize f' (r * 3) = x at dc
                go_wp2_with fail
                go_ret2
                exact ⟨_, _, _, rfl, HP.out, HF.out.setCell (p := ⟨rb, r * 3, none⟩) (.inl (by simp)) _⟩
    · have hlt' : ¬ (r : Int) + (m : Int) ≤ 4 := by omega
      go_wp2_with fail
      go_ret2
      exact ⟨_, _, _, rfl, H.out, Fr.refl _ _⟩
end Go.Proofs.Ytjgjcpafdhocfaa
