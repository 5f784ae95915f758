/- The package region: New, and calls of a table that isn't there. -/
import Derived.Test.YtjgjcpafdhocfaaRt3
import Derived.Deep.RegionHeld3
import Derived.Deep.CutRange
namespace Go.Proofs.Ytjgjcpafdhocfaa
set_option linter.unusedVariables false
open Go.RowKit Go.Gl

/-- A geometry that a table may be made of. -/
structure OkGeo7 (g : Geo) (W n : Nat) : Prop where
  npos : 1 ≤ n
  nmax : n ≤ 65536
  pos : 1 ≤ W
  max : n * W ≤ 4194304
  words : g.words = ((n * W : Nat) : Int)
  rw : g.rw = (W : Int)
  regions : g.regions = (n : Int)
theorem rmay_ok (g : Geo) {W n : Nat} (ok : OkGeo7 g W n) (w : World) : Calls Try.prog 22 #[g.val] w fun e w' => e = .returned (.bool true) ∧ Fr [] w w' := by
  obtain ⟨Wd, rw', C, R, N, M⟩ := g
  obtain ⟨h1, h2, h3, h4, h5, h6, h7⟩ := ok
  simp only at h5 h6 h7
  have e1 : (W : Int) ≤ 4194304 / (n : Int) := by
    rw [Int.le_ediv_iff_mul_le (by omega), Int.mul_comm, ← Int.natCast_mul]
    omega
  have e2 : Wd = R * rw' := by rw [h5, h6, h7, Int.natCast_mul]
  rw [← h6, ← h7] at e1
  have hR : 1 ≤ R ∧ R ≤ 65536 := by omega
  obtain ⟨hR1, hR2⟩ := hR
  have hr : 1 ≤ rw' := by omega
  have hWd : 0 ≤ Wd ∧ Wd ≤ 4194304 := by omega
  have e3 : wrap64 (R * rw') = Wd := by rw [← e2]; exact IntWalk.wrap64_in Wd ⟨by omega, by omega⟩
  obtain ⟨hW1, hW2⟩ := hWd
  clear h1 h2 h3 h4 h5 h6 h7 e2
  have e4 : (4194304 : Int).tdiv R = 4194304 / R := Int.tdiv_eq_ediv_of_nonneg (by decide)
  have e5 : 0 ≤ 4194304 / R := Int.ediv_nonneg (by decide) (by omega)
  have e6 : 4194304 / R ≤ 4194304 := Int.ediv_le_self _ (by decide)
  generalize 4194304 / R = Q at *
  have hR0 : ¬ R = 0 := by omega
  unfold Geo.val
  go_enter Try.func22, Try.ntmps22
  go_wp2_with fail
  go_quiet (fail)
  go_wp2
  go_ret
  exact ⟨rfl, ((Fr.refl _ _).alloc _).drewN _⟩
theorem Try.info_state : (Try.prog.info? 33).map (fun i => (i.zero, i.size, i.bytes)) = some (some (.int .i64 0), 1, 8) := by kernel_rfl
theorem make_row {P : Program} {t e : TypeId} {i : TypeInfo} (ht : P.underlying t = some (.slice e)) (hi : P.info? e = some i) (hz : i.zero = some (.int .i64 0)) (h1 : i.size = 1) (h8 : i.bytes = 8) {n : Nat} (hn : n ≤ 4194304) (w : World) :
    (Instr.makeSlice t (.int .i64 (n : Int)) (.int .i64 (n : Int))).run P w = .ok (.slice (some ⟨w.heap.size, 0, none⟩) n n) (w.alloc (.cells (rowV .i64 n fun _ => 0) e)) := by
  have hr := run_make (P := P) w t e i (.int .i64 0) ht hi hz .i64 .i64 n n (by omega) (Int.le_refl _) (by rw [h8]; omega) (by omega)
  simp only [Int.toNat_natCast] at hr
  rw [hr, h1, Nat.mul_one]
  congr 3
  rw [rowV_const, ← made_one (.int .i64 0) rfl n, Array.toArray_toList]
section
variable (w : World) (t : TypeId) (cs : Array Value) (o1 o2 o3 o4 : Obj)
theorem blk4_1 : Blk ((((w.alloc (.cells cs t)).alloc o2).alloc o3).alloc o4).drew w.heap.size t cs := ((((Blk.new w t cs).alloc o2).alloc o3).alloc o4).drew
theorem blk4_2 : Blk ((((w.alloc o1).alloc (.cells cs t)).alloc o3).alloc o4).drew (w.heap.size + 1) t cs := (((Blk.new_at (w := w.alloc o1) t cs (by simp)).alloc o3).alloc o4).drew
theorem blk4_3 : Blk ((((w.alloc o1).alloc o2).alloc (.cells cs t)).alloc o4).drew (w.heap.size + 1 + 1) t cs := ((Blk.new_at (w := (w.alloc o1).alloc o2) t cs (by simp)).alloc o4).drew
theorem blk4_4 : Blk ((((w.alloc o1).alloc o2).alloc o3).alloc (.cells cs t)).drew (w.heap.size + 1 + 1 + 1) t cs := (Blk.new_at (w := ((w.alloc o1).alloc o2).alloc o3) t cs (by simp)).drew
end
def RMade (w1 : World) (W n : Nat) (p : Value) (w' : World) : Prop :=
  ∃ tb sb pb mb, p = .pointer (some ⟨tb, 0, none⟩) ∧ Rg0 w' tb sb pb mb W n (fun _ => 0) (fun _ => 0) (fun _ => 0) ∧ Fr [] w1 w' ∧ w1.heap.size ≤ tb ∧ w1.heap.size ≤ sb ∧ w1.heap.size ≤ pb ∧ w1.heap.size ≤ mb
def RNew (w : World) (W n : Nat) (e : Ending) (w' : World) : Prop :=
  ∃ tb sb pb mb, e = .returned (.tuple #[.pointer (some ⟨tb, 0, none⟩), .int .i64 0]) ∧ Rg w' tb sb pb mb W n (fun _ => 0) (fun k => ((k * W : Nat) : Int)) (fun k => ((k * W : Nat) : Int)) ∧ Fr [] w w' ∧ w.heap.size ≤ tb ∧ w.heap.size ≤ sb ∧ w.heap.size ≤ pb ∧ w.heap.size ≤ mb
set_option maxHeartbeats 800000 in
theorem rnew_ok (g : Geo) {W n : Nat} (ok : OkGeo7 g W n) (w : World) : Calls Try.prog 7 #[g.val] w (RNew w W n) := by
  have hm := rmay_ok g ok
  obtain ⟨i0, hi, hz0, hz1, hz2⟩ := info_parts Try.info_state
  obtain ⟨j0, hj, hj0, hj1, hj2⟩ := info_parts Try.info_int
  have HOk := hide ok
  have hn := ok.nmax
  obtain ⟨Wd, rw', C, R, N, M⟩ := g
  obtain rfl : rw' = (W : Int) := ok.rw
  obtain rfl : R = (n : Int) := ok.regions
  have HM := hide hm
  unfold Geo.val
  clear ok hm
  go_enter Try.func7, Try.ntmps7
  go_wp2_with fail
  refine (HM.out _).mono ?_
  rintro e w1 ⟨rfl, hf⟩
  have hg := GeoAt.of ((Blk.new w 29 (Geo.cells ⟨Wd, (W : Int), C, (n : Int), N, M⟩)).fr hf (by simp))
  have g1 := hg.c1
  have g3 := hg.c3
  have HF : Hid (Fr [] w w1) := ((Fr.refl _ _).alloc _).trans_same hf
  clear hf hg
  go_wp2_with fail
  have hmk1 : ∀ w', (Instr.makeSlice 55 (.int .i64 (n : Int)) (.int .i64 (n : Int))).run Try.prog w' = .ok (.slice (some ⟨w'.heap.size, 0, none⟩) n n) (w'.alloc (.cells (rowV .i64 n fun _ => 0) 33)) := make_row Try.underlying55 hi hz0 hz1 hz2 (by omega)
  have hmk2 : ∀ w', (Instr.makeSlice 38 (.int .i64 (n : Int)) (.int .i64 (n : Int))).run Try.prog w' = .ok (.slice (some ⟨w'.heap.size, 0, none⟩) n n) (w'.alloc (.cells (rowV .i64 n fun _ => 0) 3)) := make_row Try.underlying38 hj hj0 hj1 hj2 (by omega)
  have K : ∀ w2, Fr [] w1 w2 → w2.cell? ⟨w.heap.size, 1, none⟩ = some (.int .i64 (W : Int)) ∧ w2.cell? ⟨w.heap.size, 3, none⟩ = some (.int .i64 (n : Int)) := fun w2 hf => ⟨(hf.cell (lt_of_cell g1) (by simp)).trans g1, (hf.cell (lt_of_cell g3) (by simp)).trans g3⟩
  have K0 := K _ (Fr.refl [] w1).drew
  have K1 := fun o1 => K _ ((Fr.refl [] w1).alloc o1).drew
  have K2 := fun o1 o2 => K _ (((Fr.refl [] w1).alloc o1).alloc o2).drew
  have K3 := fun o1 o2 o3 => K _ ((((Fr.refl [] w1).alloc o1).alloc o2).alloc o3).drew
  have K4 := fun o1 o2 o3 o4 => K _ (((((Fr.refl [] w1).alloc o1).alloc o2).alloc o3).alloc o4).drew
  have HK := hide K0
  clear K
  go_cut [4] from 9 to 21 (fun p w' => RMade w1 W n p w')
  case first =>
    go_region_held3 (fun w' => w'.cell? ⟨w.heap.size, 1, none⟩ = some (.int .i64 (W : Int)) ∧ w'.cell? ⟨w.heap.size, 3, none⟩ = some (.int .i64 (n : Int)))
      (first | with_reducible exact K0 | with_reducible exact K1 _ | with_reducible exact K2 _ _ | with_reducible exact K3 _ _ _ | with_reducible exact K4 _ _ _ _)
      (first | fail)
    all_goals
      go_wp2_with fail
      go_meet
      case rel =>
        refine ⟨_, _, _, _, rfl, ⟨blk4_4 _ _ _ _ _ _, ?c1, ?c2, ?c3, ?c4, HOk.out.pos, HOk.out.max⟩, ((((((Fr.refl [] w1).alloc _).alloc _).alloc _).alloc _).drew), by omega, by omega, by omega, by omega⟩
        case c1 => first | with_reducible exact blk4_1 _ _ _ _ _ _ | with_reducible exact blk4_2 _ _ _ _ _ _ | with_reducible exact blk4_3 _ _ _ _ _ _
        case c2 => first | with_reducible exact blk4_1 _ _ _ _ _ _ | with_reducible exact blk4_2 _ _ _ _ _ _ | with_reducible exact blk4_3 _ _ _ _ _ _
        case c3 => first | with_reducible exact blk4_1 _ _ _ _ _ _ | with_reducible exact blk4_2 _ _ _ _ _ _ | with_reducible exact blk4_3 _ _ _ _ _ _
        case c4 => omega
  case rest =>
    obtain ⟨tb, sb, pb, mb, rfl, hr, hf, l1, l2, l3, l4⟩ := hcut
    have HR := hide hr
    have HF1 : Hid (Fr [] w wc) := HF.out.trans_same hf
    have HL : Hid (w.heap.size ≤ tb ∧ w.heap.size ≤ sb ∧ w.heap.size ≤ pb ∧ w.heap.size ≤ mb) := by have := HF.out.size; exact ⟨by omega, by omega, by omega, by omega⟩
    have c1 := hr.c1
    clear hr hf l1 l2 l3 l4 hmk1 hmk2 K0 K1 K2 K3 K4 g1 g3 HK
    have hn4 : n ≤ 4194304 := by omega
    go_wp2_with fail
    go_loopw [27] (fun i wr => ∃ k : Nat, i = .int .i64 k ∧ k ≤ n ∧ Rg0 wr tb sb pb mb W n (fun _ => 0) (put2 (fun _ => 0) 0 k fun j => ((j * W : Nat) : Int)) (put2 (fun _ => 0) 0 k fun j => ((j * W : Nat) : Int)) ∧ Fr [] w wr) (fun i _ => n - (intOf i).toNat)
    case atStart => exact ⟨0, rfl, Nat.zero_le _, by rw [put2_none (Nat.le_refl _)]; exact HR.out, HF1.out⟩
    case round =>
      obtain ⟨k, rfl, hk, hr, hfr⟩ := hrel
      have HR2 := hide hr
      have HF2 := hide hfr
      by_cases hlt : k < n
      · have hlt' : (k : Int) < (n : Int) := by omega
        have HE := hide (empty0 hr hlt)
        unfold RPost0 at HE
        rw [put2_end (fun _ => 0) (a := 0) (k := k) ((k * W : Nat) : Int) (by omega) (fun j => ((j * W : Nat) : Int)) rfl, show put1 (fun _ => (0 : Int)) k 0 = fun _ => 0 from by funext j; unfold put1; split <;> rfl] at HE
        clear hr hfr
        go_wp2_with fail
        refine HE.out.mono ?_
        rintro e w4 ⟨rfl, hr4, hf4⟩
        have HR4 := hide hr4
        have HF4 : Hid (Fr [] w w4) := HF2.out.trans hf4 (fun x hx => by have := HL.out; simp at hx; omega)
        clear hr4 hf4
        go_wp2_with fail
        go_roundw
        case rel => exact ⟨k + 1, by go_num, by omega, HR4.out, HF4.out⟩
        case measure => simp [intOf]; omega
      · have hlt' : ¬ (k : Int) < (n : Int) := by omega
        obtain rfl : k = n := by omega
        clear hr hfr
        go_wp2_with fail
        go_ret2
        have h := HR2.out
        have hrow : rowV .i64 k (put2 (fun _ => 0) 0 k fun j => ((j * W : Nat) : Int)) = rowV .i64 k fun j => ((j * W : Nat) : Int) := rowV_congr fun j hj => by unfold put2; rw [if_pos (by omega)]
        refine ⟨tb, sb, pb, mb, rfl, ⟨h.set, h.st, ?_, ?_, h.pm, h.pos, h.max, fun _ _ => by decide, fun j hj => by omega, fun j hj => by omega⟩, HF2.out, HL.out⟩
        · rw [← hrow]; exact h.tops
        · rw [← hrow]; exact h.tams

theorem claim_nil (x : Int) (w : World) : Calls Try.prog 9 #[.pointer none, .int .i64 x] w fun e w' => e = .returned (.tuple #[.int .i64 0, .int .i64 1]) ∧ w = w' := by
  go_enter Try.func9, Try.ntmps9
  go_wp2
  go_ret2
  exact ⟨rfl, rfl⟩
theorem run_nil (a b : Int) (w : World) : Calls Try.prog 16 #[.pointer none, .int .i64 a, .int .i64 b] w fun e w' => e = .returned (.tuple #[.int .i64 0, .int .i64 1]) ∧ w = w' := by
  go_enter Try.func16, Try.ntmps16
  go_wp2
  go_ret2
  exact ⟨rfl, rfl⟩
theorem bump_nil (a b : Int) (w : World) : Calls Try.prog 10 #[.pointer none, .int .i64 a, .int .i64 b] w fun e w' => e = .returned (.tuple #[.int .i64 0, .int .i64 1]) ∧ w = w' := by
  go_enter Try.func10, Try.ntmps10
  go_wp2
  go_ret2
  exact ⟨rfl, rfl⟩
theorem settop_nil (a b : Int) (w : World) : Calls Try.prog 17 #[.pointer none, .int .i64 a, .int .i64 b] w fun e w' => e = .returned (.int .i64 1) ∧ w = w' := by
  go_enter Try.func17, Try.ntmps17
  go_wp2
  go_ret
  exact ⟨rfl, rfl⟩
theorem mark_nil (a : Int) (w : World) : Calls Try.prog 18 #[.pointer none, .int .i64 a] w fun e w' => e = .returned (.int .i64 1) ∧ w = w' := by
  go_enter Try.func18, Try.ntmps18
  go_wp2
  go_ret
  exact ⟨rfl, rfl⟩
theorem turn_nil (a b : Int) (w : World) : Calls Try.prog 19 #[.pointer none, .int .i64 a, .int .i64 b] w fun e w' => e = .returned (.int .i64 1) ∧ w = w' := by
  go_enter Try.func19, Try.ntmps19
  go_wp2
  go_ret
  exact ⟨rfl, rfl⟩
theorem release_nil (a : Int) (w : World) : Calls Try.prog 20 #[.pointer none, .int .i64 a] w fun e w' => e = .returned (.int .i64 1) ∧ w = w' := by
  go_enter Try.func20, Try.ntmps20
  go_wp2
  go_ret
  exact ⟨rfl, rfl⟩
theorem state_nil (a : Int) (w : World) : Calls Try.prog 12 #[.pointer none, .int .i64 a] w fun e w' => e = .returned (.int .i64 0) ∧ w = w' := by
  go_enter Try.func12, Try.ntmps12
  go_wp2
  go_ret
  exact ⟨rfl, rfl⟩
theorem top_nil (a : Int) (w : World) : Calls Try.prog 11 #[.pointer none, .int .i64 a] w fun e w' => e = .returned (.int .i64 0) ∧ w = w' := by
  go_enter Try.func11, Try.ntmps11
  go_wp2
  go_ret
  exact ⟨rfl, rfl⟩
theorem tams_nil (a : Int) (w : World) : Calls Try.prog 21 #[.pointer none, .int .i64 a] w fun e w' => e = .returned (.int .i64 0) ∧ w = w' := by
  go_enter Try.func21, Try.ntmps21
  go_wp2
  go_ret
  exact ⟨rfl, rfl⟩
theorem rlist_nil (a : Int) (w : World) : Calls Try.prog 13 #[.pointer none, .int .i64 a] w fun e w' => e = .returned (.slice none 0 0) ∧ w = w' := by
  go_enter Try.func13, Try.ntmps13
  go_wp2
  go_ret
  exact ⟨rfl, rfl⟩
end Go.Proofs.Ytjgjcpafdhocfaa
