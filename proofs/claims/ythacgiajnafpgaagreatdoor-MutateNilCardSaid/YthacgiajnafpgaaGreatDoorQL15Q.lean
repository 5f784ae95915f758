/- Several texts joined (pack.py): L15Nil. -/
import Derived.Test.YthacgiajnafpgaaGreatDoorQL15R
import Derived.Deep.RegionHeld3
namespace Go.Proofs.YthacgiajnafpgaaGreatDoor.MutateNil
set_option linter.unusedVariables false
set_option linter.unusedSimpArgs false
set_option maxRecDepth 100000
open Go.RowKit Go.Gl HS

theorem mtstep_nil (w : World) : Calls Tryz.prog 27 #[.pointer none] w fun e w' => e = .returned (.agg #[.int .i64 0, .int .i64 0, .int .i64 0, .int .u64 0, .bool false, .bool false, .bool false, .bool false, .slice none 0 0]) ∧ Fr [] w w' := by
  go_enter Tryz.func27, Tryz.ntmps27
  go_wp2
  refine bodyPost_ret (v := .agg #[.int .i64 0, .int .i64 0, .int .i64 0, .int .u64 0, .bool false, .bool false, .bool false, .bool false, .slice none 0 0]) (by simp [results, Tryz.results27, go_sem, *]) rfl ⟨rfl, (Fr.refl _ _).alloc _⟩
theorem new_nilh (t : Int) (sv : Value) (w : World) : Calls Tryz.prog 29 #[.pointer none, .int .i64 t, sv] w fun e w' => e = .returned (.tuple #[.pointer none, .int .i64 1]) ∧ w = w' := by
  go_enter Tryz.func29, Tryz.ntmps29
  go_wp2_with fail
  go_ret2
  exact ⟨rfl, rfl⟩
theorem new_nils (hb : Nat) (t : Int) (w : World) : Calls Tryz.prog 29 #[.pointer (some ⟨hb, 0, none⟩), .int .i64 t, .pointer none] w fun e w' => e = .returned (.tuple #[.pointer none, .int .i64 1]) ∧ w = w' := by
  go_enter Tryz.func29, Tryz.ntmps29
  go_wp2_with fail
  go_ret2
  exact ⟨rfl, rfl⟩
/-- What New gives of a thread, whichever. -/
def NewP (w : World) (th : Int) (T : Nat) (e : Ending) (w' : World) : Prop :=
  ∃ (xv : Option Addr), e = .returned (.tuple #[.pointer xv, .int .i64 (if 0 ≤ th ∧ th < (T : Int) then 0 else 2)]) ∧ (xv = none ↔ ¬ (0 ≤ th ∧ th < (T : Int))) ∧ Fr [] w w'
theorem new_any {w : World} {hb sb T rc oc : Nat} {rA oA : Option Addr} (c27 : w.cell? ⟨hb, 27, none⟩ = some (.slice rA T rc)) (c1 : w.cell? ⟨sb, 1, none⟩ = some (.slice oA T oc)) (th : Int) (hT : T ≤ 64) :
    Calls Tryz.prog 29 #[.pointer (some ⟨hb, 0, none⟩), .int .i64 th, .pointer (some ⟨sb, 0, none⟩)] w (NewP w th T) := by
  by_cases h : 0 ≤ th ∧ th < (T : Int)
  · obtain ⟨t, rfl⟩ := Int.eq_ofNat_of_zero_le h.1
    refine (mtnew_ok c27 c1 (t := t) (by omega) hT).mono ?_
    rintro e w' ⟨mb, rfl, _, _, hf⟩
    exact ⟨_, by rw [if_pos h], by simp; omega, hf⟩
  · refine (mtnew_out c27 c1 h hT).mono ?_
    rintro e w' ⟨rfl, hf⟩
    exact ⟨none, by rw [if_neg h], by simp only [true_iff]; exact h, hf⟩
theorem HM.base_le {W w : World} {L : HL} {X : HX} {h : HS} {x : HT} {s k : Nat} {E : Blks} {D : Nat → Prop} {Q : World → Prop} (H : HM W w L X h x s k E D Q) {b : Nat} {t : TypeId} {cs : Array Value} (hq : (b, t, cs) ∈ E) : W.heap.size ≤ b := by
  obtain ⟨own, h1, h2, h3, h4⟩ := H
  exact (h2 _ hq).2.2.1
set_option maxHeartbeats 6400000 in
theorem walk (c : Cfg) (th : Int) (o : Po) (w : World) (hT : Tab w) : Calls Tryz.prog 7 #[c.val, .int .i64 th, opV o] w fun e w' => e = .returned (.bool true) ∧ Fr [] w w' := by
  have HT := hide hT
  have HBg : Hid (∀ w', Tab w' → Calls Tryz.prog 12 #[c.val, .slice none 0 0] w' (BegP w' c)) := fun w' h => begin_nil c w' h
  have HSt : Hid (∀ w', Calls Tryz.prog 28 #[.pointer none, opV o] w' fun e w'' => e = .returned (.int .i64 1) ∧ Fr [] w' w'') := fun w' => mstart_nil o w'
  have HFl : Hid (∀ w', Calls Tryz.prog 26 #[.pointer none] w' fun e w'' => e = .returned (.tuple #[.agg #[.int .i64 0, .int .i64 0, .int .i64 0, .int .u64 0, .bool false], .int .i64 1]) ∧ Fr [] w' w'') := fun w' => mfail_nil w'
  clear hT
  unfold Cfg.val at HBg ⊢
  unfold opV at HSt ⊢
  go_enter Tryz.func7, Tryz.ntmps7
  go_wp2_with fail
  refine (awake15_any _ ((HT.out.alloc _).alloc _)).mono ?_
  rintro e w1 ⟨rfl, hf⟩
  have HB1 : Hid (Blk w1 w.heap.size 23 c.cells ∧ Blk w1 (w.heap.size + 1) 66 #[.int .i64 o.k, .int .i64 o.a, .int .i64 o.b, .int .i64 o.c, .int .u64 o.v] ∧ Fr [] w w1) :=
    ⟨((Blk.new w 23 c.cells).alloc _).fr hf (by simp), (Blk.new_at _ _ (by simp)).fr hf (by simp), (((Fr.refl _ _).alloc _).alloc _).trans_same hf⟩
  clear hf
  go_wp2_with fail
  refine (HFl.out _).mono ?_
  rintro e w2 ⟨rfl, hf⟩
  have hfA : Fr [] w1 (w2.alloc (.cells #[.int .i64 0, .int .i64 0, .int .i64 0, .int .u64 0, .bool false] 73)) := hf.alloc _
  have HB2 : Hid (Blk (w2.alloc (.cells #[.int .i64 0, .int .i64 0, .int .i64 0, .int .u64 0, .bool false] 73)) w.heap.size 23 c.cells ∧ Blk (w2.alloc (.cells #[.int .i64 0, .int .i64 0, .int .i64 0, .int .u64 0, .bool false] 73)) (w.heap.size + 1) 66 #[.int .i64 o.k, .int .i64 o.a, .int .i64 o.b, .int .i64 o.c, .int .u64 o.v] ∧ Blk (w2.alloc (.cells #[.int .i64 0, .int .i64 0, .int .i64 0, .int .u64 0, .bool false] 73)) w2.heap.size 73 #[.int .i64 0, .int .i64 0, .int .i64 0, .int .u64 0, .bool false] ∧ Fr [] w (w2.alloc (.cells #[.int .i64 0, .int .i64 0, .int .i64 0, .int .u64 0, .bool false] 73))) :=
    ⟨HB1.out.1.fr hfA (by simp), HB1.out.2.1.fr hfA (by simp), Blk.new _ _ _, HB1.out.2.2.trans_same hfA⟩
  clear hf hfA HB1
  go_wp2_with fail
  refine (mtstep_nil _).mono ?_
  rintro e w3 ⟨rfl, hf⟩
  have hfA := hf.alloc (.cells #[.int .i64 0, .int .i64 0, .int .i64 0, .int .u64 0, .bool false, .bool false, .bool false, .bool false, .slice none 0 0] 77)
  have hB3 : Blk (w3.alloc (.cells #[.int .i64 0, .int .i64 0, .int .i64 0, .int .u64 0, .bool false, .bool false, .bool false, .bool false, .slice none 0 0] 77)) w.heap.size 23 c.cells ∧ Blk (w3.alloc (.cells #[.int .i64 0, .int .i64 0, .int .i64 0, .int .u64 0, .bool false, .bool false, .bool false, .bool false, .slice none 0 0] 77)) (w.heap.size + 1) 66 #[.int .i64 o.k, .int .i64 o.a, .int .i64 o.b, .int .i64 o.c, .int .u64 o.v] ∧ Blk (w3.alloc (.cells #[.int .i64 0, .int .i64 0, .int .i64 0, .int .u64 0, .bool false, .bool false, .bool false, .bool false, .slice none 0 0] 77)) w2.heap.size 73 #[.int .i64 0, .int .i64 0, .int .i64 0, .int .u64 0, .bool false] ∧
      Blk (w3.alloc (.cells #[.int .i64 0, .int .i64 0, .int .i64 0, .int .u64 0, .bool false, .bool false, .bool false, .bool false, .slice none 0 0] 77)) w3.heap.size 77 #[.int .i64 0, .int .i64 0, .int .i64 0, .int .u64 0, .bool false, .bool false, .bool false, .bool false, .slice none 0 0] ∧ Fr [] w (w3.alloc (.cells #[.int .i64 0, .int .i64 0, .int .i64 0, .int .u64 0, .bool false, .bool false, .bool false, .bool false, .slice none 0 0] 77)) :=
    ⟨HB2.out.1.fr hfA (by simp), HB2.out.2.1.fr hfA (by simp), HB2.out.2.2.1.fr hfA (by simp), Blk.new _ _ _, HB2.out.2.2.2.trans_same hfA⟩
  have HB3 := hide hB3
  have d0 := (hB3.2.1.fr (F := []) (w' := w3.alloc (.cells #[.int .i64 0, .int .i64 0, .int .i64 0, .int .u64 0, .bool false, .bool false, .bool false, .bool false, .slice none 0 0] 77)) (Fr.refl _ _) (by simp))
  have e0 := d0.cell 0
  have e1 := d0.cell 1
  have e2 := d0.cell 2
  have e3 := d0.cell 3
  have e4 := d0.cell 4
  have NO := d0.lt
  clear d0 hB3 hf hfA HB2
  go_wp2_with (first | (go_at_call 23; refine (midle_nil _).mono ?_; rintro e w' ⟨rfl, rfl⟩))
  refine (HSt.out _).mono ?_
  rintro e w4 ⟨rfl, hf⟩
  have hA4 := HB3.out.2.2.1.fr hf (by simp)
  have hR4 := HB3.out.2.2.2.1.fr hf (by simp)
  have f0 := hA4.cell 0
  have f1 := hA4.cell 1
  have f2 := hA4.cell 2
  have f3 := hA4.cell 3
  have f4 := hA4.cell 4
  have NA := hA4.lt
  have r5 := hR4.cell 5
  have r6 := hR4.cell 6
  have r7 := hR4.cell 7
  have r8 := hR4.cell 8
  have NR := hR4.lt
  have hC4 := HB3.out.1.fr hf (by simp)
  have HB4 : Hid (Blk w4 w.heap.size 23 c.cells ∧ Blk w4 (w.heap.size + 1) 66 #[.int .i64 o.k, .int .i64 o.a, .int .i64 o.b, .int .i64 o.c, .int .u64 o.v] ∧ Fr [] w w4) :=
    ⟨hC4, HB3.out.2.1.fr hf (by simp), HB3.out.2.2.2.2.trans_same hf⟩
  obtain ⟨a0, a1, a2, a3, a4, a5, a6, a7, a8, a9, a10, a11, a12, a13⟩ := CfgAt.of hC4
  have NC := hC4.lt
  clear hA4 hR4 hC4 hf HB3 e0 e1 e2 e3 e4
  go_wp2_with fail
  refine (HBg.out w4 (HT.out.fr HB4.out.2.2 (by simp))).mono ?_
  intro e w5 hP
  clear a0 a1 a2 a3 a4 a5 a6 a7 a8 a9 a10 a11 a12 a13 f0 f1 f2 f3 f4 r5 r6 r7 r8 NA NR NC NO
  rcases hP with ⟨rfl, hf⟩ | ⟨T, B, M, g, W0, R, C, P, qm, s, k, tg, L, X, Λ, rfl, hth, t1, t2, hO⟩
  · have HF5 : Hid (Fr [] w w5) := HB4.out.2.2.trans_same hf
    clear hf
    go_wp2_with fail
    go_ret
    exact ⟨rfl, HF5.out⟩
  · have hf := hO.1.fr
    have hC5 := HB4.out.1.fr hf (by simp)
    have hO5 := HB4.out.2.1.fr hf (by simp)
    have a3 : w5.cell? ⟨w.heap.size, 3, none⟩ = some (.int .i64 (T : Int)) := by rw [← hth]; exact hC5.cell 3
    obtain ⟨k1, k2, k3, k4, -⟩ := hO.cells
    have hbw := hO.1.blk (b := Λ.wb) (t := 37) (cs := wdV L.hb Λ.sb Λ.mA T Λ.mc Λ.pb Λ.nb T g (.slice none 0 0) 0 false) (by simp [ovE]; rfl)
    have hmP : (Λ.P 0, 148, muV L.hb 0 Λ.sb (MU.zero 0)) ∈ ovE Λ L.hb g T T ++ ([] : Blks) := by
      refine List.mem_append_left _ ?_
      unfold ovE
      iterate 5 (refine List.mem_cons_of_mem _ ?_)
      exact List.mem_map.2 ⟨0, List.mem_range.2 (by omega), rfl⟩
    have hbp := hO.1.blk hmP
    have HPb : Hid (w4.heap.size ≤ Λ.P 0) := HM.base_le hO.1 hmP
    obtain ⟨gm, om, hmA, hmG, NGm, hmc, hmz, _⟩ := hO.1.q.1.pos (by omega)
    have hm0 := hmc 0 (by omega)
    have hmk : ∀ w', (Instr.makeSlice 56 (.int .i64 (T : Int)) (.int .i64 (T : Int))).run Tryz.prog w' = .ok (.slice (some ⟨w'.heap.size, 0, none⟩) T T) (w'.alloc (.cells (rowF T fun _ => .slice none 0 0) 62)) := make_rowB Tryz.underlying56 Tryz.info_refsB rfl (by decide) (by omega)
    have b0 := hbw.cell 0
    have b2 := hbw.cell 2
    have k4 : w5.cell? ⟨L.hb, 27, none⟩ = some (.slice L.rA T L.rc) := k4
    have e0 : om + 0 = om := rfl
    rw [e0] at hm0
    have hm0 : w5.cell? ⟨gm, om, none⟩ = some (.pointer (some ⟨Λ.P 0, 0, none⟩)) := by
      rw [hm0]
      unfold ptrs
      rw [List.getElem?_map, List.getElem?_range (by omega)]
      rfl
    rw [hmA] at k2
    have b0 : w5.cell? ⟨Λ.wb, 0, none⟩ = some (.pointer (some ⟨L.hb, 0, none⟩)) := b0
    obtain ⟨wb, hwb⟩ : ∃ wb, wb = Λ.wb := ⟨_, rfl⟩
    obtain ⟨pm, hpm⟩ : ∃ pm, pm = Λ.P 0 := ⟨_, rfl⟩
    obtain ⟨sb, hsb⟩ : ∃ sb, sb = Λ.sb := ⟨_, rfl⟩
    obtain ⟨mc, hmc0⟩ : ∃ mc, mc = Λ.mc := ⟨_, rfl⟩
    obtain ⟨hb, hhb⟩ : ∃ hb, hb = L.hb := ⟨_, rfl⟩
    obtain ⟨rA, hrA⟩ : ∃ rA, rA = L.rA := ⟨_, rfl⟩
    obtain ⟨rc, hrc⟩ : ∃ rc, rc = L.rc := ⟨_, rfl⟩
    rw [← hwb, ← hhb] at b0
    rw [← hwb, ← hmc0] at k2
    rw [← hpm] at hm0 hbp HPb
    rw [← hsb, ← hhb] at hbp
    rw [← hhb, ← hrA, ← hrc] at k4
    rw [← hwb]
    have K : Hid (∀ w', Fr [] w5 w' → w'.cell? ⟨w.heap.size, 3, none⟩ = some (.int .i64 (T : Int)) ∧ w'.cell? ⟨wb, 0, none⟩ = some (.pointer (some ⟨hb, 0, none⟩)) ∧ w'.cell? ⟨wb, 2, none⟩ = some (.slice (some ⟨gm, om, none⟩) T mc) ∧ w'.cell? ⟨gm, om, none⟩ = some (.pointer (some ⟨pm, 0, none⟩)) ∧
        Blk w' (w.heap.size + 1) 66 #[.int .i64 o.k, .int .i64 o.a, .int .i64 o.b, .int .i64 o.c, .int .u64 o.v] ∧ Blk w' pm 148 (muV hb 0 sb (MU.zero 0)) ∧ Fr [] w w') := fun w' hf' =>
      ⟨(hf'.cell (lt_of_cell a3) (by simp)).trans a3, (hf'.cell (lt_of_cell b0) (by simp)).trans b0, (hf'.cell (lt_of_cell k2) (by simp)).trans k2, (hf'.cell (lt_of_cell hm0) (by simp)).trans hm0, hO5.fr hf' (by simp), hbp.fr hf' (by simp), (HB4.out.2.2.trans_same hf).trans_same hf'⟩
    have HPm : Hid (w.heap.size ≤ pm) := by have := HB4.out.2.2.size; have := HPb.out; exact hide (by omega)
    have HApart : Hid (pm ≠ wb ∧ pm ≠ gm ∧ pm ≠ w.heap.size + 1) := by
      obtain ⟨cur, hcur, _⟩ := ‹∃ cur, Blk w5 gm 59 cur ∧ om + Λ.mc ≤ cur.size›
      exact hide ⟨by rw [hwb]; exact hbp.apart hbw (by decide), hbp.apart hcur (by decide), hbp.apart hO5 (by decide)⟩
    have N0 := lt_of_cell a3
    have N1 := lt_of_cell b0
    have N2 := lt_of_cell k4
    have c27 : ((w5.alloc (.cells (rowF T fun _ => .slice none 0 0) 62)).alloc (.cells #[.bool false, .slice (some ⟨w5.heap.size, 0, none⟩) T T] 58)).cell? ⟨hb, 27, none⟩ = some (.slice rA T rc) := ((((Fr.refl [] w5).alloc _).alloc _).cell (lt_of_cell k4) (by simp)).trans k4
    have cs1 : ((w5.alloc (.cells (rowF T fun _ => .slice none 0 0) 62)).alloc (.cells #[.bool false, .slice (some ⟨w5.heap.size, 0, none⟩) T T] 58)).cell? ⟨w5.heap.size + 1, 1, none⟩ = some (.slice (some ⟨w5.heap.size, 0, none⟩) T T) := (Blk.new_at (w := w5.alloc (.cells (rowF T fun _ => .slice none 0 0) 62)) _ _ (by simp)).cell 1
    have HNw := hide (new_any c27 cs1 th t2)
    clear hO hf hC5 hO5 k1 k3 hbw hmP hbp hmA hmG NGm hmc hmz hm0 k2 HB4 c27 cs1 hwb hpm hsb hmc0 hhb hrA hrc HPb hth e0
    go_wp2_with fail
    refine HNw.out.mono ?_
    intro e w6 hN
    unfold NewP at hN
    obtain ⟨xv, rfl, hx, hf6⟩ := hN
    have HF6 : Hid (Fr [] w5 w6) := (((Fr.refl [] w5).alloc _).alloc _).trans_same hf6
    obtain ⟨g0, g1, g2, g3, gO, gP, gF⟩ := K.out w6 HF6.out
    have HFl2 := hide (mfail_no gP (by decide))
    have HGF := hide gF
    unfold ansV An.zero at HFl2
    have M0 := lt_of_cell g0
    have M1 := lt_of_cell g1
    have M2 := lt_of_cell g3
    clear hf6 gO gP gF HNw a3 b0 k4 N0 N1 N2
    have hways : (xv = none ∧ (if 0 ≤ th ∧ th < (T : Int) then (0 : Int) else 2) = 2 ∧ decide (th ≥ 0) = false ∧ decide (0 ≤ th) = false ∧ true = true) ∨ (xv = none ∧ (if 0 ≤ th ∧ th < (T : Int) then (0 : Int) else 2) = 2 ∧ decide (th ≥ 0) = true ∧ decide (0 ≤ th) = true ∧ decide (th < (T : Int)) = false) ∨ ((∃ ad, xv = some ad) ∧ (if 0 ≤ th ∧ th < (T : Int) then (0 : Int) else 2) = 0 ∧ decide (th ≥ 0) = true ∧ decide (0 ≤ th) = true ∧ decide (th < (T : Int)) = true) := by
      by_cases h1 : 0 ≤ th
      · by_cases h2 : th < (T : Int)
        · refine .inr (.inr ⟨?_, by rw [if_pos ⟨h1, h2⟩], by simpa using h1, by simpa using h1, by simpa using h2⟩)
          cases xv with
          | none => exact absurd ⟨h1, h2⟩ (hx.1 rfl)
          | some ad => exact ⟨ad, rfl⟩
        · exact .inr (.inl ⟨hx.2 (fun e => h2 e.2), by rw [if_neg (fun e => h2 e.2)], by simpa using h1, by simpa using h1, by simpa using h2⟩)
      · exact .inl ⟨hx.2 (fun e => h1 e.1), by rw [if_neg (fun e => h1 e.1)], by simpa using h1, by simpa using h1, rfl⟩
    generalize (if 0 ≤ th ∧ th < (T : Int) then (0 : Int) else 2) = fe at *
    clear hx HT HBg HSt HFl hmk
    rcases hways with ⟨rfl, rfl, q1, q2, q3⟩ | ⟨rfl, rfl, q1, q2, q3⟩ | ⟨⟨ad, rfl⟩, rfl, q1, q2, q3⟩
    all_goals
      go_wp2_with fail
      refine (new_nilh _ _ _).mono ?_
      rintro e w' ⟨rfl, rfl⟩
      go_wp2_with fail
      refine (new_nils _ _ _).mono ?_
      rintro e w' ⟨rfl, rfl⟩
      go_wp2_with fail
      refine HFl2.out.mono ?_
      rintro e w7 ⟨rfl, hf7⟩
      have hF7 : Fr [] w5 (w7.alloc (.cells #[.int .i64 0, .int .i64 0, .int .i64 0, .int .u64 0, .bool false] 73)).drew := ((HF6.out.trans_same hf7).alloc _).drew
      clear g0 g1 g2 g3 M0 M1 M2 hf7 HFl2
      obtain ⟨g0, g1, g2, g3, gO, gP, gF⟩ := K.out _ hF7
      have M2 := lt_of_cell g2
      have M3 := lt_of_cell g3
      have MO := gO.lt
      have HKp : Hid (∀ w', Fr [pm] (w7.alloc (.cells #[.int .i64 0, .int .i64 0, .int .i64 0, .int .u64 0, .bool false] 73)).drew w' → w'.cell? ⟨wb, 2, none⟩ = some (.slice (some ⟨gm, om, none⟩) T mc) ∧ w'.cell? ⟨gm, om, none⟩ = some (.pointer (some ⟨pm, 0, none⟩)) ∧
          w'.cell? ⟨w.heap.size + 1, 0, none⟩ = some (.int .i64 o.k) ∧ w'.cell? ⟨w.heap.size + 1, 1, none⟩ = some (.int .i64 o.a) ∧ w'.cell? ⟨w.heap.size + 1, 2, none⟩ = some (.int .i64 o.b) ∧ w'.cell? ⟨w.heap.size + 1, 3, none⟩ = some (.int .i64 o.c) ∧ w'.cell? ⟨w.heap.size + 1, 4, none⟩ = some (.int .u64 o.v)) := fun w' hf' => by
        have hO' := gO.fr hf' (by simp; exact fun e => HApart.out.2.2 e.symm)
        exact ⟨(hf'.cell (lt_of_cell g2) (by simp; exact fun e => HApart.out.1 e.symm)).trans g2, (hf'.cell (lt_of_cell g3) (by simp; exact fun e => HApart.out.2.1 e.symm)).trans g3, hO'.cell 0, hO'.cell 1, hO'.cell 2, hO'.cell 3, hO'.cell 4⟩
      have K0 := HKp.out _ (Fr.refl _ _)
      have HS1 := hide (mstart_any gP rfl o)
      have HGF7 := hide gF
      unfold opV at HS1
      clear g0 g1 gO gP gF hF7 g2 g3
      go_wp2_with fail
      have hT1 : (0 : Int) < (T : Int) := by omega
      have hT0 : 0 < T := by omega
      go_region_held3 (fun w' => w'.cell? ⟨wb, 2, none⟩ = some (.slice (some ⟨gm, om, none⟩) T mc) ∧ w'.cell? ⟨gm, om, none⟩ = some (.pointer (some ⟨pm, 0, none⟩)) ∧
          w'.cell? ⟨w.heap.size + 1, 0, none⟩ = some (.int .i64 o.k) ∧ w'.cell? ⟨w.heap.size + 1, 1, none⟩ = some (.int .i64 o.a) ∧ w'.cell? ⟨w.heap.size + 1, 2, none⟩ = some (.int .i64 o.b) ∧ w'.cell? ⟨w.heap.size + 1, 3, none⟩ = some (.int .i64 o.c) ∧ w'.cell? ⟨w.heap.size + 1, 4, none⟩ = some (.int .u64 o.v))
        (first | with_reducible exact K0)
        (first | (go_at_call 28; refine HS1.out.mono ?_; rintro e w8 ⟨rfl, hb8, hf8⟩; have HB8 := hide hb8; have HF8 := hide hf8; have HS2 := hide (mstart_busy hb8 (show (1 : Int) ≠ 0 by decide) o); unfold opV at HS2; replace K0 := HKp.out _ hf8; clear hb8 hf8) | (go_at_call 28; refine HS2.out.mono ?_; rintro e w9 ⟨rfl, hf9⟩; have HI9 := hide (midle_any (HB8.out.fr hf9 (by simp))); have HF9 := hide (HF8.out.trans hf9 (fun b hb => by cases hb)); replace K0 := HKp.out _ HF9.out; clear hf9) | (go_at_call 23; refine HI9.out.mono ?_; rintro e w10 ⟨rfl, rfl⟩))
      all_goals
        go_wp2_with fail
        go_ret
        exact ⟨rfl, HGF7.out.trans HF9.out (fun b hb => by simp at hb; subst hb; exact .inr HPm.out)⟩
end Go.Proofs.YthacgiajnafpgaaGreatDoor.MutateNil
