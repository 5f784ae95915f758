/- Package remset: New. -/
import Derived.Test.YtkbffmmomoeaiaaDoorSw
import Derived.Test.YtkbffmmomoeaiaaDoorSt
import Derived.Deep.RegionHeld3
import Derived.Deep.OwnRows
namespace Go.Proofs.YtkbffmmomoeaiaaDoor
set_option linter.unusedVariables false
set_option linter.unusedSimpArgs false
open Go.RowKit Go.Gl

theorem bool_no {p : Prop} {b : Bool} (h : b = true ↔ p) (hp : ¬ p) : Ending.returned (.bool b) = .returned (.bool false) := by
  cases b with
  | false => rfl
  | true => exact absurd (h.1 rfl) hp
theorem bool_yes {p : Prop} {b : Bool} (h : b = true ↔ p) (hp : p) : Ending.returned (.bool b) = .returned (.bool true) := by rw [h.2 hp]
structure OkG (g : Geo) (per n : Nat) : Prop where
  dim : Dim per n
  regions : g.regions = n
  cards : g.cards = ((n * per : Nat) : Int)
  quo : g.rw.tdiv g.cw = (per : Int)
  cw0 : ¬ g.cw = 0
  may : GeoMay g
set_option maxRecDepth 100000 in
theorem okG_of {g : Geo} (h : GeoMay g) : ∃ per n : Nat, OkG g per n := by
  have h' := h
  obtain ⟨Wd, rw', C, R, N, M⟩ := g
  obtain ⟨h1, h2, h3, h4, h5, h6, h7, h8⟩ := h
  simp only at h1 h2 h3 h4 h5 h6 h7 h8
  obtain ⟨n, rfl⟩ := Int.eq_ofNat_of_zero_le (show 0 ≤ R by omega)
  obtain ⟨c, rfl⟩ := Int.eq_ofNat_of_zero_le (show 0 ≤ C by omega)
  obtain ⟨r, rfl⟩ := Int.eq_ofNat_of_zero_le (show 0 ≤ rw' by omega)
  have hc : 1 ≤ c := by omega
  have hm : r % c = 0 := by exact_mod_cast h6
  have hd := Nat.div_add_mod r c
  rw [hm, Nat.add_zero] at hd
  have hle : (n : Int) * (r : Int) ≤ 4194304 := Int.le_trans (Int.mul_le_mul_of_nonneg_left h5 (by omega)) (Int.mul_ediv_self_le (by omega))
  have hle1 : ((n * r : Nat) : Int) ≤ 4194304 := by rw [Int.natCast_mul]; exact hle
  have hle' : n * r ≤ 4194304 := by omega
  have hp : 1 ≤ r / c := Nat.div_pos (by rcases Nat.lt_or_ge r c with h | h; · rw [Nat.div_eq_of_lt h] at hd; omega
                                         · exact h) hc
  have hpr : r / c ≤ r := Nat.div_le_self _ _
  refine ⟨r / c, n, ⟨by omega, by omega, hp, Nat.le_trans (Nat.mul_le_mul_left n hpr) hle'⟩, rfl, ?_, ?_, by simp only; omega, h'⟩
  · show N = _
    rw [h8, h7]
    have e : n * r = c * (n * (r / c)) := by rw [← Nat.mul_assoc, Nat.mul_comm c n, Nat.mul_assoc, hd]
    have : ((n * r : Nat) : Int) / (c : Int) = ((n * r / c : Nat) : Int) := rfl
    rw [← Int.natCast_mul, this, e, Nat.mul_div_cancel_left _ (by omega)]
  · show (r : Int).tdiv (c : Int) = _
    rw [Int.tdiv_eq_ediv_of_nonneg (by omega)]; rfl
theorem Tryd.info_mapI : (Tryd.prog.info? 72).map (fun i => (i.zero, i.size, i.bytes)) = some (some (.map none), 1, 8) := by kernel_rfl
theorem Tryd.info_ints : (Tryd.prog.info? 37).map (fun i => (i.zero, i.size, i.bytes)) = some (some (.slice none 0 0), 1, 24) := by kernel_rfl
theorem made_rowF (n : Nat) (v : Value) (h : v.cells = #[v]) : madeCells #[v] n = rowF n fun _ => v := by
  have := made_one v h n
  rw [h] at this
  rw [rowF_const, ← this, Array.toArray_toList]
theorem make_rowF {P : Program} {t e : TypeId} {z : Value} {by' : Nat} (ht : P.underlying t = some (.slice e)) (hi : (P.info? e).map (fun i => (i.zero, i.size, i.bytes)) = some (some z, 1, by')) (hz : z.cells = #[z]) {n : Nat} (hb : by' ≤ 64) (hn : n ≤ 65536) (w : World) :
    (Instr.makeSlice t (.int .i64 (n : Int)) (.int .i64 (n : Int))).run P w = .ok (.slice (some ⟨w.heap.size, 0, none⟩) n n) (w.alloc (.cells (rowF n fun _ => z) e)) := by
  rw [run_make_row' (P := P) t e z by' ht hi hz .i64 .i64 n (Nat.le_trans (Nat.mul_le_mul hb hn) (by decide)) (by omega) w, made_rowF n z hz]
def freshS : RS := ⟨fun _ _ => 0, fun _ _ => false⟩
def NewSets (w : World) (per n : Nat) (e : Ending) (w' : World) : Prop :=
  ∃ tg sb kb sB hB fB fk Vs Vh Vf, e = .returned (.tuple #[.pointer (some ⟨sb, 0, none⟩), .int .i64 0]) ∧ Rs w' tg sb kb sB hB fB per n freshS fk Vs Vh Vf ∧ Fr [] w w' ∧ ∀ b, b < w.heap.size → (tg b).1 = 0
theorem rs_fresh {w W : World} {sb kb sB hB fB per n : Nat} (d : Dim per n) (hs : St W sb kb sB hB fB per n) (hk : Mp Tryd.prog 76 W kb (fun _ => none)) (h3 : Blk W sB 72 (rowF n fun _ => .map none)) (h4 : Blk W hB 72 (rowF n fun _ => .map none))
    (h5 : Blk W fB 37 (rowF n fun _ => .slice none 0 0)) (hf : Fr [] w W) (hl : w.heap.size ≤ sb ∧ w.heap.size ≤ kb ∧ w.heap.size ≤ sB ∧ w.heap.size ≤ hB ∧ w.heap.size ≤ fB) (hne : sB ≠ hB) :
    NewSets w per n (.returned (.tuple #[.pointer (some ⟨sb, 0, none⟩), .int .i64 0])) W := by
  obtain ⟨l1, l2, l3, l4, l5⟩ := hl
  have n1 : kb ≠ sb := hk.blk_ne hs
  have n2 : kb ≠ sB := hk.blk_ne h3
  have n3 : kb ≠ hB := hk.blk_ne h4
  have n4 : kb ≠ fB := hk.blk_ne h5
  have n5 : sB ≠ sb := Blk.apart h3 hs (by decide)
  have n6 : hB ≠ sb := Blk.apart h4 hs (by decide)
  have n7 : fB ≠ sb := Blk.apart h5 hs (by decide)
  have n8 : sB ≠ fB := Blk.apart h3 h5 (by decide)
  have n9 : hB ≠ fB := Blk.apart h4 h5 (by decide)
  let tg : Tg := setTg (setTg (setTg (setTg (setTg (fun _ => (0, 0, 0)) kb (2, 0, 0)) sB (3, 0, 0)) hB (4, 0, 0)) fB (5, 0, 0)) sb (1, 0, 0)
  have t1 : tg sb = (1, 0, 0) := setTg_at _ _ _
  have t5 : tg fB = (5, 0, 0) := (setTg_ne _ _ n7).trans (setTg_at _ _ _)
  have t4 : tg hB = (4, 0, 0) := (setTg_ne _ _ n6).trans ((setTg_ne _ _ n9).trans (setTg_at _ _ _))
  have t3 : tg sB = (3, 0, 0) := (setTg_ne _ _ n5).trans ((setTg_ne _ _ n8).trans ((setTg_ne _ _ hne).trans (setTg_at _ _ _)))
  have t2 : tg kb = (2, 0, 0) := (setTg_ne _ _ n1).trans ((setTg_ne _ _ n4).trans ((setTg_ne _ _ n3).trans ((setTg_ne _ _ n2).trans (setTg_at _ _ _))))
  have t0 : ∀ b, b ≠ sb → b ≠ kb → b ≠ sB → b ≠ hB → b ≠ fB → tg b = (0, 0, 0) := fun b b1 b2 b3 b4 b5 =>
    (setTg_ne _ _ b1).trans ((setTg_ne _ _ b5).trans ((setTg_ne _ _ b4).trans ((setTg_ne _ _ b3).trans (setTg_ne _ _ b2))))
  refine ⟨tg, sb, kb, sB, hB, fB, _, _, _, _, rfl, ⟨⟨d, fun _ _ h => absurd rfl h, fun _ _ h => by cases h⟩, hs, t1, fun b hb => ?_, ⟨hk, t2, fun _ _ h => (by cases h), fun _ _ _ _ h => absurd rfl h⟩,
    ⟨h3, t3, fun r hr => .inl ⟨rfl, fun _ _ h => absurd rfl h⟩⟩, ⟨h4, t4, fun r hr => .inl ⟨rfl, fun _ _ h => absurd rfl h⟩⟩,
    ⟨h5, t5, fun r hr => ⟨none, 0, [], [], rfl, Lr.nil _ _, fun _ h => (by cases h), List.nodup_nil, fun s => ⟨fun h => (by cases h), fun h => (by cases h.2)⟩⟩⟩⟩, hf, fun b hb => ?_⟩
  · by_cases b1 : b = sb
    · exact b1 ▸ Blk.lt hs
    by_cases b2 : b = kb
    · exact b2 ▸ hk.lt
    by_cases b3 : b = sB
    · exact b3 ▸ h3.lt
    by_cases b4 : b = hB
    · exact b4 ▸ h4.lt
    by_cases b5 : b = fB
    · exact b5 ▸ h5.lt
    rw [t0 b b1 b2 b3 b4 b5] at hb
    exact absurd rfl hb
  · rw [t0 b (by omega) (by omega) (by omega) (by omega) (by omega)]
section
variable (w : World) (t : TypeId) (cs : Array Value) (o1 o2 o3 o4 o5 : Obj)
theorem blk5_1 : Blk (((((w.alloc (.cells cs t)).alloc o2).alloc o3).alloc o4).alloc o5).drew w.heap.size t cs := (((((Blk.new w t cs).alloc o2).alloc o3).alloc o4).alloc o5).drew
theorem blk5_2 : Blk (((((w.alloc o1).alloc (.cells cs t)).alloc o3).alloc o4).alloc o5).drew (w.heap.size + 1) t cs := ((((Blk.new_at (w := w.alloc o1) t cs (by simp)).alloc o3).alloc o4).alloc o5).drew
theorem blk5_3 : Blk (((((w.alloc o1).alloc o2).alloc (.cells cs t)).alloc o4).alloc o5).drew (w.heap.size + 1 + 1) t cs := (((Blk.new_at (w := (w.alloc o1).alloc o2) t cs (by simp)).alloc o4).alloc o5).drew
theorem blk5_4 : Blk (((((w.alloc o1).alloc o2).alloc o3).alloc (.cells cs t)).alloc o5).drew (w.heap.size + 1 + 1 + 1) t cs := ((Blk.new_at (w := ((w.alloc o1).alloc o2).alloc o3) t cs (by simp)).alloc o5).drew
theorem blk5_5 : Blk (((((w.alloc o1).alloc o2).alloc o3).alloc o4).alloc (.cells cs t)).drew (w.heap.size + 1 + 1 + 1 + 1) t cs := (Blk.new_at (w := (((w.alloc o1).alloc o2).alloc o3).alloc o4) t cs (by simp)).drew
theorem mp_made {P : Program} {k : TypeId} {w : World} {n : Nat} (h : w.heap.size = n) : Mp P k (w.alloc (.map #[] 0)) n (fun _ => none) := h ▸ Mp.made w
theorem mp5_1 {P : Program} {k : TypeId} : Mp P k (((((w.alloc (.map #[] 0)).alloc o2).alloc o3).alloc o4).alloc o5).drew w.heap.size (fun _ => none) := (Mp.made w).fr0 ((((((Fr.refl _ _).alloc o2).alloc o3).alloc o4).alloc o5).drew)
theorem mp5_2 {P : Program} {k : TypeId} : Mp P k (((((w.alloc o1).alloc (.map #[] 0)).alloc o3).alloc o4).alloc o5).drew (w.heap.size + 1) (fun _ => none) := (mp_made (w := w.alloc o1) (by simp)).fr0 (((((Fr.refl _ _).alloc o3).alloc o4).alloc o5).drew)
theorem mp5_3 {P : Program} {k : TypeId} : Mp P k (((((w.alloc o1).alloc o2).alloc (.map #[] 0)).alloc o4).alloc o5).drew (w.heap.size + 1 + 1) (fun _ => none) := (mp_made (w := (w.alloc o1).alloc o2) (by simp)).fr0 ((((Fr.refl _ _).alloc o4).alloc o5).drew)
theorem mp5_4 {P : Program} {k : TypeId} : Mp P k (((((w.alloc o1).alloc o2).alloc o3).alloc (.map #[] 0)).alloc o5).drew (w.heap.size + 1 + 1 + 1) (fun _ => none) := (mp_made (w := ((w.alloc o1).alloc o2).alloc o3) (by simp)).fr0 (((Fr.refl _ _).alloc o5).drew)
end
set_option maxRecDepth 100000 in
set_option maxHeartbeats 1600000 in
theorem rnew_no (g : Geo) (h : ¬ GeoMay g) (w : World) : Calls Tryd.prog 8 #[g.val] w fun e w' => e = .returned (.tuple #[.pointer none, .int .i64 20]) ∧ Fr [] w w' := by
  have HM : Hid (∀ w', Calls Tryd.prog 21 #[g.val] w' fun e w'' => e = .returned (.bool false) ∧ Fr [] w' w'') := fun w' => (rmayBe_any g w').mono fun e w'' ⟨b, h1, h2, h3⟩ => ⟨by rw [h1]; exact bool_no h2 h, h3⟩
  clear h
  obtain ⟨Wd, rw', C, R, N, M⟩ := g
  unfold Geo.val at HM ⊢
  go_enter Tryd.func8, Tryd.ntmps8
  go_wp2_with fail
  refine (HM.out _).mono ?_
  rintro e w1 ⟨rfl, hf⟩
  have HF := hide hf
  clear hf
  go_wp2_with fail
  go_ret2
  exact ⟨rfl, ((Fr.refl _ _).alloc _).trans_same HF.out⟩
set_option maxRecDepth 100000 in
set_option maxHeartbeats 3200000 in
theorem rnew_ok (g : Geo) {per n : Nat} (ok : OkG g per n) (w : World) : Calls Tryd.prog 8 #[g.val] w (NewSets w per n) := by
  have HM : Hid (∀ w', Calls Tryd.prog 21 #[g.val] w' fun e w'' => e = .returned (.bool true) ∧ Fr [] w' w'') := fun w' => (rmayBe_any g w').mono fun e w'' ⟨b, h1, h2, h3⟩ => ⟨by rw [h1]; exact bool_yes h2 ok.may, h3⟩
  obtain ⟨Wd, rw', C, R, N, M⟩ := g
  obtain ⟨hd, rfl, rfl, hq, hc0, hmay⟩ := ok
  simp only at hq hc0
  have HD := hide hd
  have hn := hd.n2
  have hp := hd.p3
  have hp1 := hd.p1
  have hwp : IntKind.i64.wrap (per : Int) = (per : Int) := by rw [IntKind.wrap_i64]; omega
  have hmk1 : ∀ w', (Instr.makeSlice 57 (.int .i64 (n : Int)) (.int .i64 (n : Int))).run Tryd.prog w' = .ok (.slice (some ⟨w'.heap.size, 0, none⟩) n n) (w'.alloc (.cells (rowF n fun _ => .map none) 72)) := make_rowF Tryd.underlying57 Tryd.info_mapI rfl (by decide) hn
  have hmk2 : ∀ w', (Instr.makeSlice 58 (.int .i64 (n : Int)) (.int .i64 (n : Int))).run Tryd.prog w' = .ok (.slice (some ⟨w'.heap.size, 0, none⟩) n n) (w'.alloc (.cells (rowF n fun _ => .slice none 0 0) 37)) := make_rowF Tryd.underlying58 Tryd.info_ints rfl (by decide) hn
  have hmm := @run_makeMap Tryd.prog
  unfold Geo.val at HM ⊢
  clear hd hmay
  go_enter Tryd.func8, Tryd.ntmps8
  go_wp2_with fail
  refine (HM.out _).mono ?_
  rintro e w1 ⟨rfl, hf⟩
  have hg := GeoAt.of ((Blk.new w 23 (Geo.cells ⟨Wd, rw', C, (n : Int), ((n * per : Nat) : Int), M⟩)).fr hf (by simp))
  have g1 := hg.c1
  have g2 := hg.c2
  have g3 := hg.c3
  have g4 := hg.c4
  simp only at g1 g2 g3 g4
  have HF : Hid (Fr [] w w1) := ((Fr.refl _ _).alloc _).trans_same hf
  have hlt : w.heap.size < w1.heap.size := lt_of_cell g1
  clear hf hg HM
  generalize hNP : ((n * per : Nat) : Int) = NP at *
  have K : ∀ w2, Fr [] w1 w2 → w2.cell? ⟨w.heap.size, 1, none⟩ = some (.int .i64 rw') ∧ w2.cell? ⟨w.heap.size, 2, none⟩ = some (.int .i64 C) ∧ w2.cell? ⟨w.heap.size, 3, none⟩ = some (.int .i64 (n : Int)) ∧ w2.cell? ⟨w.heap.size, 4, none⟩ = some (.int .i64 NP) := fun w2 hf =>
    ⟨(hf.cell (lt_of_cell g1) (by simp)).trans g1, (hf.cell (lt_of_cell g2) (by simp)).trans g2, (hf.cell (lt_of_cell g3) (by simp)).trans g3, (hf.cell (lt_of_cell g4) (by simp)).trans g4⟩
  have K0 := K _ (Fr.refl [] w1).drew
  have K1 := fun o1 => K _ ((Fr.refl [] w1).alloc o1).drew
  have K2 := fun o1 o2 => K _ (((Fr.refl [] w1).alloc o1).alloc o2).drew
  have K3 := fun o1 o2 o3 => K _ ((((Fr.refl [] w1).alloc o1).alloc o2).alloc o3).drew
  have K4 := fun o1 o2 o3 o4 => K _ (((((Fr.refl [] w1).alloc o1).alloc o2).alloc o3).alloc o4).drew
  have K5 := fun o1 o2 o3 o4 o5 => K _ ((((((Fr.refl [] w1).alloc o1).alloc o2).alloc o3).alloc o4).alloc o5).drew
  clear K
  go_wp2_with fail
  go_region_held3 (fun w' => w'.cell? ⟨w.heap.size, 1, none⟩ = some (.int .i64 rw') ∧ w'.cell? ⟨w.heap.size, 2, none⟩ = some (.int .i64 C) ∧ w'.cell? ⟨w.heap.size, 3, none⟩ = some (.int .i64 (n : Int)) ∧ w'.cell? ⟨w.heap.size, 4, none⟩ = some (.int .i64 NP))
    (first | with_reducible exact K0 | with_reducible exact K1 _ | with_reducible exact K2 _ _ | with_reducible exact K3 _ _ _ | with_reducible exact K4 _ _ _ _ | with_reducible exact K5 _ _ _ _ _)
    (first | fail)
  all_goals
    clear K0 K1 K2 K3 K4 K5
    go_wp2_with fail
    go_ret2
    subst hNP
    refine rs_fresh HD.out (blk5_5 _ _ _ _ _ _ _) ?mp ?b3 ?b4 ?b5 ?hf ?hl ?hne
    case mp => first | with_reducible exact mp5_1 _ _ _ _ _ | with_reducible exact mp5_2 _ _ _ _ _ | with_reducible exact mp5_3 _ _ _ _ _ | with_reducible exact mp5_4 _ _ _ _ _
    case b3 => first | with_reducible exact blk5_1 _ _ _ _ _ _ _ | with_reducible exact blk5_2 _ _ _ _ _ _ _ | with_reducible exact blk5_3 _ _ _ _ _ _ _ | with_reducible exact blk5_4 _ _ _ _ _ _ _
    case b4 => first | with_reducible exact blk5_1 _ _ _ _ _ _ _ | with_reducible exact blk5_2 _ _ _ _ _ _ _ | with_reducible exact blk5_3 _ _ _ _ _ _ _ | with_reducible exact blk5_4 _ _ _ _ _ _ _
    case b5 => first | with_reducible exact blk5_1 _ _ _ _ _ _ _ | with_reducible exact blk5_2 _ _ _ _ _ _ _ | with_reducible exact blk5_3 _ _ _ _ _ _ _ | with_reducible exact blk5_4 _ _ _ _ _ _ _
    case hf => exact HF.out.trans_same ((((((Fr.refl [] w1).alloc _).alloc _).alloc _).alloc _).alloc _).drew
    case hl => refine ⟨?_, ?_, ?_, ?_, ?_⟩ <;> omega
    case hne => omega
end Go.Proofs.YtkbffmmomoeaiaaDoor
