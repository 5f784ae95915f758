/- The package region: List, Run. -/
import Derived.Test.YthacgiajnafpgaaGreatDoorQRt
import Derived.Deep.RegionHeld3
namespace Go.Proofs.YthacgiajnafpgaaGreatDoor
set_option linter.unusedVariables false
set_option maxRecDepth 100000
open Go.RowKit Go.Gl

/-- The regions of a state, rising. -/
def those (s : Nat → Int) (x : Int) (n : Nat) : List Nat := (List.range n).filter fun j => decide (s j = x)
theorem those_succ (s : Nat → Int) (x : Int) (n : Nat) : those s x (n + 1) = those s x n ++ if s n = x then [n] else [] := by
  unfold those
  rw [List.range_succ, List.filter_append]
  by_cases h : s n = x <;> simp [h]
theorem those_len (s : Nat → Int) (x : Int) (n : Nat) : (those s x n).length ≤ n := by
  unfold those
  exact Nat.le_trans (List.length_filter_le _ _) (by simp)
def ListPost7 (w : World) (l : List Nat) (e : Ending) (w' : World) : Prop := ∃ v, e = .returned v ∧ w'.ownsRow w.heap.size 3 1 v l.length (nums l) ∧ Fr [] w w'
theorem rlist_any {w : World} {tb sb pb mb W n : Nat} {s t m : Nat → Int} (h : Rg w tb sb pb mb W n s t m) (x : Int) :
    Calls Tryz.prog 122 #[.pointer (some ⟨tb, 0, none⟩), .int .i64 x] w (ListPost7 w (those s x n)) := by
  obtain ⟨i0, hi, hz0, hz1, hz2⟩ := info_parts Tryz.info_int
  have H := hide h
  have c1 := h.c1
  have hn := h.nmax
  clear h
  go_enter Tryz.func122, Tryz.ntmps122
  go_wp2_with fail
  go_loopw [5, 15] (fun v i wr => ∃ k : Nat, i = .int .i64 k ∧ k ≤ n ∧ wr.ownsRow w.heap.size 3 1 v (those s x k).length (nums (those s x k)) ∧ Fr [] w wr) (fun _ i _ => n - (intOf i).toNat)
  case atStart => exact ⟨0, rfl, Nat.zero_le _, World.ownsRow_nil _ _ _ _, Fr.refl _ _⟩
  case round =>
    obtain ⟨k, rfl, hk, hown, hfr⟩ := hrel
    have HO := hide hown
    have HF := hide hfr
    have HR := hide (H.out.fr0 hfr)
    clear hown hfr
    by_cases hlt : k < n
    · have hlt' : (k : Int) < (n : Int) := by omega
      have hc := HR.out.cs hlt
      have ht := those_succ s x k
      have hl := those_len s x k
      by_cases hx : s k = x
      · rw [if_pos hx] at ht
        rw [hx] at hc
        have HT := hide ht
        clear ht hx
        go_wp2_with (at_builtin; refine wpList_append_own _ rfl _ _ 25 rfl w.heap.size 3 i0 (.int .i64 0) 1 8 Tryz.underlying25 hi hz0 hz1 hz2 rfl (by decide) _ _ _ rfl (HO.out.alloc _) ⟨_, 0, none⟩ 1 1 [.int .i64 (k : Int)] rfl rfl (one_at _ _ _) ?c2 ?c3 ?c4 ?c5 ?_)
        case c2 => intro u hu; simp at hu; subst hu; rfl
        case c3 => unfold maxLen; omega
        case c4 => omega
        case c5 => have := HF.out.size; simp; omega
        intro v' w6 hown6 hgr6 _
        have HV6 : Hid (w6.ownsRow w.heap.size 3 1 v' (those s x (k + 1)).length (nums (those s x (k + 1)))) := by
          rw [HT.out, nums_app, List.length_append]; exact hown6
        have HF6 : Hid (Fr [] w w6) := own_grown (HF.out.alloc _) HO.out hgr6
        clear hown6 hgr6
        go_wp2
        go_roundw
        case rel => exact ⟨k + 1, by go_num, by omega, HV6.out, HF6.out⟩
        case measure => simp [intOf]; omega
      · rw [if_neg hx, List.append_nil] at ht
        generalize hy : s k = y at hc hx
        go_wp2_with fail
        go_roundw
        case rel => exact ⟨k + 1, by go_num, by omega, by rw [ht]; exact HO.out, HF.out⟩
        case measure => simp [intOf]; omega
    · have hlt' : ¬ (k : Int) < (n : Int) := by omega
      obtain rfl : k = n := by omega
      go_wp2_with fail
      go_ret
      exact ⟨_, rfl, HO.out, HF.out⟩

/-- How many regions so many words take. -/
def spanE (W : Nat) (z : Int) : Int := if z < 1 then 0 else (z - 1) / (W : Int) + 1
theorem spanE_iff {W c : Nat} (hW : 1 ≤ W) (hc : 1 ≤ c) (z : Int) : (c : Int) = spanE W z ↔ ((c : Int) - 1) * (W : Int) < z ∧ z ≤ (c : Int) * (W : Int) := by
  unfold spanE
  have hWp : (0 : Int) < (W : Int) := by omega
  have h1 := Int.le_ediv_iff_mul_le (a := (c : Int) - 1) (b := z - 1) hWp
  have h2 := Int.ediv_lt_iff_lt_mul (a := z - 1) (b := (c : Int)) hWp
  have h3 : 0 ≤ ((c : Int) - 1) * (W : Int) := Int.mul_nonneg (by omega) (by omega)
  split
  · constructor
    · intro h; omega
    · intro h; omega
  · constructor
    · intro h
      have a1 := h1.1 (by omega)
      have a2 := h2.1 (by omega)
      omega
    · intro h
      have a1 := h1.2 (by omega)
      have a2 := h2.2 (by omega)
      omega
theorem rspan_any {w : World} {tb sb pb mb W n : Nat} {s t m : Nat → Int} (h : Rg w tb sb pb mb W n s t m) (hn1 : 1 ≤ n) {z : Int} (hz : z ≤ 9223372036854775807) :
    Calls Tryz.prog 217 #[.pointer (some ⟨tb, 0, none⟩), .int .i64 z] w fun e w' => e = .returned (.int .i64 (spanE W z)) ∧ w = w' := by
  have c0 := h.c0
  have hW := h.pos
  have hWm := h.wmax (k := 0) (by omega)
  clear h
  unfold spanE
  by_cases h1 : z < 1
  · rw [if_pos h1]
    go_enter Tryz.func217, Tryz.ntmps217
    go_wp2
    go_ret
    exact ⟨rfl, rfl⟩
  · rw [if_neg h1]
    have e1 : (z - 1).tdiv (W : Int) = (z - 1) / (W : Int) := Int.tdiv_eq_ediv_of_nonneg (by omega)
    have e2 : 0 ≤ (z - 1) / (W : Int) := Int.ediv_nonneg (by omega) (by omega)
    have e3 : (z - 1) / (W : Int) ≤ z - 1 := Int.ediv_le_self _ (by omega)
    have E := hide (And.intro e1 (And.intro e2 e3))
    have hw0 : ¬ (W : Int) = 0 := by omega
    clear e1 e2 e3
    go_enter Tryz.func217, Tryz.ntmps217
    go_wp2
    go_ret
    refine ⟨ret_int ?_, rfl⟩
    obtain ⟨e1, e2, e3⟩ := E.out
    first
      | (rw [IntWalk.wrap64_in (z - 1) ⟨by omega, by omega⟩, e1, IntWalk.wrap64_in _ ⟨by omega, by omega⟩, IntWalk.wrap64_in _ ⟨by omega, by omega⟩])
      | (rw [e1, IntWalk.wrap64_in _ ⟨by omega, by omega⟩, IntWalk.wrap64_in _ ⟨by omega, by omega⟩])
      | (rw [e1, IntWalk.wrap64_in _ ⟨by omega, by omega⟩])
      | (rw [IntWalk.wrap64_in _ ⟨by omega, by omega⟩])
      | rfl

/-- c free regions side by side from f on; the lowest such. -/
def FreeRun (s : Nat → Int) (c f : Nat) : Prop := ∀ j, f ≤ j → j < f + c → s j = 0
def LowRun (s : Nat → Int) (n c f : Nat) : Prop := f + c ≤ n ∧ FreeRun s c f ∧ ∀ g, g < f → ¬ FreeRun s c g
def NoRun (s : Nat → Int) (n c : Nat) : Prop := ∀ f, f + c ≤ n → ¬ FreeRun s c f
theorem LowRun.unique {s : Nat → Int} {n c f g : Nat} (h : LowRun s n c f) (h' : LowRun s n c g) : f = g := by
  rcases Nat.lt_trichotomy f g with hl | hl | hl
  · exact absurd h.2.1 (h'.2.2 f hl)
  · exact hl
  · exact absurd h'.2.1 (h.2.2 g hl)
def LPost (w : World) (s : Nat → Int) (n c : Nat) (e : Ending) (w' : World) : Prop :=
  ∃ z : Int, e = .returned (.int .i64 z) ∧ w = w' ∧ ((∃ f : Nat, z = f ∧ LowRun s n c f) ∨ (z = -1 ∧ NoRun s n c))
/-- What is known as far as i: the last a regions are free, the one ahead of them isn't, and no run was met. -/
structure Met (s : Nat → Int) (c i a : Nat) : Prop where
  le : a ≤ i
  lt : a < c
  free : ∀ j, i - a ≤ j → j < i → s j = 0
  stop : a < i → s (i - a - 1) ≠ 0
  none : ∀ f, f + c ≤ i → ¬ FreeRun s c f
theorem Met.zero (s : Nat → Int) {c : Nat} (hc : 1 ≤ c) : Met s c 0 0 := ⟨by omega, by omega, fun j _ hj => by omega, fun h => by omega, fun f hf => by omega⟩
theorem Met.taken {s : Nat → Int} {c i a : Nat} (h : Met s c i a) (hs : s i ≠ 0) : Met s c (i + 1) 0 :=
  ⟨by omega, by have := h.lt; omega, fun j hj hj2 => by omega, fun _ => by simpa using hs, fun f hf hr => by
    rcases Nat.lt_or_ge i (f + c) with hl | hl
    · exact hs (hr i (by have := h.lt; omega) hl)
    · exact h.none f hl hr⟩
theorem Met.more {s : Nat → Int} {c i a : Nat} (h : Met s c i a) (hs : s i = 0) (hc : a + 1 < c) : Met s c (i + 1) (a + 1) :=
  ⟨by have := h.le; omega, hc, fun j hj hj2 => by
    rcases Nat.lt_or_ge j i with hl | hl
    · exact h.free j (by omega) hl
    · obtain rfl : j = i := by omega
      exact hs, fun hlt => by
    have := h.stop (by omega)
    rwa [show i + 1 - (a + 1) - 1 = i - a - 1 by omega], fun f hf hr => by
    rcases Nat.lt_or_ge i (f + c) with hl | hl
    · have h1 := h.le
      exact h.stop (by omega) (hr _ (by omega) (by omega))
    · exact h.none f hl hr⟩
theorem Met.found {s : Nat → Int} {c i a n : Nat} (h : Met s c i a) (hs : s i = 0) (hc : a + 1 = c) (hn : i < n) : LowRun s n c (i - a) :=
  ⟨by have := h.le; omega, fun j hj hj2 => by
    have := h.le
    rcases Nat.lt_or_ge j i with hl | hl
    · exact h.free j (by omega) hl
    · obtain rfl : j = i := by omega
      exact hs, fun g hg hr => h.none g (by have := h.le; omega) hr⟩
theorem lowrun_any {w : World} {tb sb pb mb W n : Nat} {s t m : Nat → Int} (h : Rg w tb sb pb mb W n s t m) {c : Nat} (hc : 1 ≤ c) (hcm : c ≤ 9223372036854775807) :
    Calls Tryz.prog 218 #[.pointer (some ⟨tb, 0, none⟩), .int .i64 (c : Int)] w (LPost w s n c) := by
  have H := hide h
  have c1 := h.c1
  have hn := h.nmax
  clear h
  go_enter Tryz.func218, Tryz.ntmps218
  go_wp2_with fail
  go_loopw [5, 13] (fun a i wr => ∃ k q : Nat, i = .int .i64 k ∧ a = .int .i64 q ∧ k ≤ n ∧ w = wr ∧ Met s c k q) (fun _ i _ => n - (intOf i).toNat)
  case atStart => exact ⟨0, 0, rfl, rfl, Nat.zero_le _, rfl, Met.zero s hc⟩
  case round =>
    obtain ⟨k, q, rfl, rfl, hk, rfl, hm⟩ := hrel
    have HM := hide hm
    have hq := hm.le
    have hq2 := hm.lt
    clear hm
    by_cases hlt : k < n
    · have hlt' : (k : Int) < (n : Int) := by omega
      have hcell := H.out.cs hlt
      by_cases h0 : s k = 0
      · have H0 := hide h0
        rw [h0] at hcell
        clear h0
        by_cases hf : q + 1 = c
        · have HE := hide (HM.out.found H0.out hf hlt)
          subst hf
          go_wp2_with fail
          go_ret
          have := HE.out
          refine ⟨_, rfl, rfl, .inl ⟨k - q, ?_, this⟩⟩
          push_cast
          omega
        · have HE := hide (HM.out.more H0.out (by omega))
          have hf' : ¬ (q : Int) + 1 = (c : Int) := by omega
          go_wp2_with fail
          go_roundw
          case rel => exact ⟨k + 1, q + 1, by go_num, by go_num, by omega, trivial, HE.out⟩
          case measure => simp [intOf]; omega
      · have HE := hide (HM.out.taken h0)
        generalize s k = x at hcell h0
        go_wp2_with fail
        go_roundw
        case rel => exact ⟨k + 1, 0, by go_num, rfl, by omega, trivial, HE.out⟩
        case measure => simp [intOf]; omega
    · have hlt' : ¬ (k : Int) < (n : Int) := by omega
      obtain rfl : k = n := by omega
      go_wp2_with fail
      go_ret
      exact ⟨_, rfl, rfl, .inr ⟨rfl, HM.out.none⟩⟩
end Go.Proofs.YthacgiajnafpgaaGreatDoor
/- The package region: Run. -/
namespace Go.Proofs.YthacgiajnafpgaaGreatDoor
set_option linter.unusedVariables false
set_option maxRecDepth 100000
open Go.RowKit Go.Gl

/-- The Tops of a run from region f on, of z words. -/
def runTop (W f z : Nat) : Nat → Int := fun j => if ((j * W + W : Nat) : Int) < ((f * W + z : Nat) : Int) then ((j * W + W : Nat) : Int) else ((f * W + z : Nat) : Int)
theorem runTop_ok {W f z c j : Nat} (h1 : (c - 1) * W < z) (hj : f ≤ j) (hj2 : j < f + c) : ((j * W : Nat) : Int) ≤ runTop W f z j ∧ runTop W f z j ≤ ((j * W + W : Nat) : Int) := by
  have a1 : (j - f) * W ≤ (c - 1) * W := Nat.mul_le_mul_right W (by omega)
  have a2 : j * W = f * W + (j - f) * W := by rw [← Nat.add_mul]; congr 1; omega
  unfold runTop
  split <;> omega
set_option maxHeartbeats 800000 in
theorem run_at {w : World} {tb sb pb mb W n : Nat} {s t m : Nat → Int} (h : Rg w tb sb pb mb W n s t m) {c f z : Nat} (hc : 1 ≤ c) (hz1 : (c - 1) * W < z) (hz2 : z ≤ c * W) (hl : LowRun s n c f) :
    Calls Tryz.prog 155 #[.pointer (some ⟨tb, 0, none⟩), .int .i64 (c : Int), .int .i64 (z : Int)] w
      (RPost w tb sb pb mb W n (put1 (put2 s f (f + c) fun _ => 5) f 4) (put2 t f (f + c) (runTop W f z)) m (.tuple #[.int .i64 (f : Int), .int .i64 0])) := by
  have hfc := hl.1
  have hn := h.nmax
  have hW := h.pos
  have hzb : f * W + z ≤ 4194304 := by
    have a1 : (f + c) * W ≤ n * W := Nat.mul_le_mul_right W hfc
    have a2 := h.max
    rw [Nat.add_mul] at a1
    omega
  have hcs : (c : Int) = spanE W (z : Int) := (spanE_iff hW hc _).2 ⟨by
    have : ((c - 1 : Nat) : Int) = (c : Int) - 1 := by omega
    rw [← this, ← Int.natCast_mul]; omega, by rw [← Int.natCast_mul]; omega⟩
  have HS : Hid (Calls Tryz.prog 217 #[.pointer (some ⟨tb, 0, none⟩), .int .i64 (z : Int)] w fun e w' => e = .returned (.int .i64 (c : Int)) ∧ w = w') := by
    have := rspan_any h (by omega) (z := (z : Int)) (by omega)
    rw [← hcs] at this
    exact this
  have HL : Hid (Calls Tryz.prog 218 #[.pointer (some ⟨tb, 0, none⟩), .int .i64 (c : Int)] w fun e w' => e = .returned (.int .i64 (f : Int)) ∧ w = w') := (lowrun_any h hc (by omega)).mono fun e w' ⟨x, he, hw, hx⟩ => by
    rcases hx with ⟨f', rfl, hf'⟩ | ⟨_, hno⟩
    · rw [he, hl.unique hf']; exact ⟨rfl, hw⟩
    · exact absurd hl.2.1 (hno f hfc)
  have HB := hide (base_at h (k := f) (by omega))
  have H := hide h
  have HZ := hide hz1
  have HBE : Hid (∀ j, f ≤ j → j < f + c → ((j * W : Nat) : Int) ≤ runTop W f z j ∧ runTop W f z j ≤ ((j * W + W : Nat) : Int)) := fun j hj hj2 => runTop_ok hz1 hj hj2
  have HT : Hid (∀ j, runTop W f z j = if ((j * W + W : Nat) : Int) < ((f * W + z : Nat) : Int) then ((j * W + W : Nat) : Int) else ((f * W + z : Nat) : Int)) := fun j => rfl
  unfold RPost
  clear h hl hz1 hz2 hcs
  generalize runTop W f z = rt at *
  obtain ⟨B, hB⟩ : ∃ B, B = f * W := ⟨_, rfl⟩
  rw [← hB] at HB hzb HT
  clear hB
  go_enter Tryz.func155, Tryz.ntmps155
  go_wp2_with (first | (go_at_call 217; refine HS.out.mono ?_; rintro e w' ⟨rfl, rfl⟩) | (go_at_call 218; refine HL.out.mono ?_; rintro e w' ⟨rfl, rfl⟩) | (go_at_call 219; refine HB.out.mono ?_; rintro e w' ⟨rfl, rfl⟩))
  go_loopw [10] (fun i wr => ∃ j : Nat, i = .int .i64 (j : Nat) ∧ f ≤ j ∧ j ≤ f + c ∧ Rg wr tb sb pb mb W n (put2 s f j fun _ => 5) (put2 t f j rt) m ∧ Fr [sb, pb, mb] w wr) (fun i _ => f + c - (intOf i).toNat)
  case atStart => exact ⟨f, rfl, Nat.le_refl _, by omega, by rw [put2_none (Nat.le_refl _), put2_none (Nat.le_refl _)]; exact H.out, Fr.refl _ _⟩
  case round =>
    obtain ⟨j, rfl, hj1, hj2, hr, hfr⟩ := hrel
    have HR := hide hr
    have HF := hide hfr
    by_cases hlt : j < f + c
    · have hlt' : (j : Int) < (f : Int) + (c : Int) := by omega
      have hj : j < n := by omega
      have hj' : (j : Int) < (n : Int) := by omega
      have c1 := hr.c1
      have cs := hr.cs hj
      have cz := hr.st.frozen j
      have HP := hide (hr.putS j 5 (by decide))
      have es := put2_end s (a := f) (k := j) 5 hj1 (fun _ => 5) rfl
      rw [es] at HP
      clear hr hfr es
      generalize (put2 s f j fun _ => 5) j = y at *
      go_wp2_with fail
      have HF1 : Hid (Fr [sb, pb, mb] w (wr.setCell ⟨sb, j, none⟩ (.int .i64 5))) := HF.out.setCell (p := ⟨sb, j, none⟩) (.inl (by simp)) _
      generalize wr.setCell ⟨sb, j, none⟩ (.int .i64 5) = w1 at *
      clear c1 cs cz
      have HE : Hid (∀ w', Rg w' tb sb pb mb W n (put2 s f (j + 1) fun _ => 5) (put2 t f j rt) m → Calls Tryz.prog 220 #[.pointer (some ⟨tb, 0, none⟩), .int .i64 (j : Int)] w' fun e w'' => e = .returned (.int .i64 ((j * W + W : Nat) : Int)) ∧ ∃ q, w'' = w'.drewN q) := fun w' h' => end_at h' hj
      have c2 := HP.out.c2
      have ct := HP.out.ct hj
      have cz := HP.out.tops.frozen j
      have hbe := HBE.out j (by omega) (by omega)
      have hrt := HT.out j
      have HP2 := hide (HP.out.putT j (rt j) (fun _ => hbe))
      have es := put2_end t (a := f) (k := j) (rt j) hj1 rt rfl
      rw [es] at HP2
      clear es hbe
      have hE4 := HP.out.base_le hj
      generalize put2 t f j rt j = T at *
      generalize j * W + W = E at *
      have HP1 := hide HP.out.drew
      generalize rt j = R at *
      have k2 : (w1.setCell ⟨pb, j, none⟩ (.int .i64 R)).cell? ⟨tb, 2, none⟩ = some (.slice (some ⟨pb, 0, none⟩) n n) := HP2.out.c2
      rw [Int.natCast_add B z] at hrt
      subst hrt
      go_region_held3 (fun w' => w'.cell? ⟨tb, 2, none⟩ = some (.slice (some ⟨pb, 0, none⟩) n n))
        (first | exact c2 | exact k2 | go_keep)
        (first | (go_at_call 220; refine (HE.out _ HP1.out).mono ?_; rintro e w' ⟨rfl, q, rfl⟩))
      go_wp2_with fail
      go_roundw
      case rel => exact ⟨j + 1, by go_num, by omega, by omega, HP2.out.drewN _, (HF1.out.setCell (p := ⟨pb, j, none⟩) (.inl (by simp)) _).drewN _⟩
      case measure => simp [intOf]; omega
    · have hlt' : ¬ (j : Int) < (f : Int) + (c : Int) := by omega
      obtain rfl : j = f + c := by omega
      have hj : f < n := by omega
      have hj' : (f : Int) < (n : Int) := by omega
      have c1 := hr.c1
      have cs := hr.cs hj
      have cz := hr.st.frozen f
      have HP := hide (hr.putS f 4 (by decide))
      clear hr hfr
      generalize (put2 s f (f + c) fun _ => 5) f = y at *
      go_wp2_with fail
      go_ret2
      exact ⟨rfl, HP.out, HF.out.setCell (p := ⟨sb, f, none⟩) (.inl (by simp)) _⟩
end Go.Proofs.YthacgiajnafpgaaGreatDoor
