/- Package refine: hasMore, enter, step of a place of its own. Written by wip/tools/gen_rf.py. -/
import Derived.Test.YteacgfeiedcdiaaGreatDoorPW31
import Derived.WalkKit
import Derived.BigQuiet
import Derived.Deep.RegionHeld3
import Derived.StillTailTactics
namespace Go.Proofs.YteacgfeiedcdiaaGreatDoor
set_option linter.unusedVariables false
set_option linter.unusedSimpArgs false
set_option maxRecDepth 100000
open Go.RowKit Go.Gl HS

section
variable {W w w' : World} {L : HL} {X : HX} {h : HS} {x : HT} {s k : Nat} {E : Blks} {D : Nat → Prop} {Q : World → Prop} {b : Nat}
theorem rfmore_any {p : Pla} (hb : Blk w b 93 (p.cells)) : Calls Tryz.prog 44 #[.pointer (some ⟨b, 0, none⟩)] w fun e w' => e = .returned (.bool p.more) ∧ Fr [] w w' := by
  obtain ⟨fi, be, fd, la, hd, en, bg⟩ := p
  have c2 : w.cell? ⟨b, 2, none⟩ = some (.int .i64 fd) := hb.cell 2
  have c3 : w.cell? ⟨b, 3, none⟩ = some (.int .i64 la) := hb.cell 3
  have c4 : w.cell? ⟨b, 4, none⟩ = some (.int .i64 hd) := hb.cell 4
  have c5 : w.cell? ⟨b, 5, none⟩ = some (.int .i64 en) := hb.cell 5
  have HV : Hid ((decide (fd < la) || decide (hd < en)) = Pla.more (⟨fi, be, fd, la, hd, en, bg⟩ : Pla)) := rfl
  clear hb
  by_cases h1 : fd < la
  · rw [decide_eq_true h1, Bool.true_or] at HV
    go_enter Tryz.func44, Tryz.ntmps44
    go_wp2_with fail
    go_quiet (fail)
    go_wp2_with fail
    go_ret
    exact ⟨ret_bool HV.out, (Fr.refl _ _).drewN _⟩
  · rw [decide_eq_false h1, Bool.false_or] at HV
    have h1' : decide (fd < la) = false := decide_eq_false h1
    obtain ⟨B, hB⟩ : ∃ B, decide (hd < en) = B := ⟨_, rfl⟩
    rw [hB] at HV
    go_enter Tryz.func44, Tryz.ntmps44
    go_wp2_with fail
    go_quiet (fail)
    go_wp2_with fail
    go_ret
    exact ⟨ret_bool HV.out, (Fr.refl _ _).drewN _⟩
set_option maxHeartbeats 3200000 in
theorem rfenter_any (hS : Lives D Q) (hT : Tab W) {p : Pla} (H : HM W w L X h x s k ((b, 93, p.cells) :: E) D Q) (hne : ∀ q, q ∈ E → q.1 ≠ b) (o : p.Ok) :
    Calls Tryz.prog 95 #[.pointer (some ⟨b, 0, none⟩), .pointer (some ⟨L.hb, 0, none⟩)] w fun e w' => e = .returned (.int .i64 (h.entE p)) ∧ HM W w' L X h x s k ((b, 93, (h.enter p).cells) :: E) D Q ∧ Acc1 w w' L := by
  have HP1 := hide ((H.fr0 hS (Fr.refl _ _).drew).patA hS p.hd)
  have HP2 := hide (((H.alloc hS 157 #[.int .i64 0, .int .i64 0, .int .i64 0, .int .i64 0, .int .i64 0]).fr0 hS (Fr.refl _ _).drew).patA hS p.hd)
  have HLA : Hid (L.ab < w.heap.size) := by
    obtain ⟨c9, h9⟩ := H.hr.ar
    exact h9.set.lt
  have HLE : Hid (∀ q, q ∈ E → q.1 ≠ w.heap.size) := fun q hq => by
    have := (H.blk (b := q.1) (t := q.2.1) (cs := q.2.2) (List.mem_cons_of_mem _ hq)).lt
    omega
  have hb0 := H.blk (List.mem_cons_self ..)
  have c20 := H.hc.c20
  have hbl := hb0.lt
  have HOk := hide (o.enter H.ok)
  have HOp := hide o
  obtain ⟨fi, be, fd, la, hd, en, bg⟩ := p
  have c4 : w.cell? ⟨b, 4, none⟩ = some (.int .i64 hd) := hb0.cell 4
  have HE1 : Hid (h.entE (⟨fi, be, fd, la, hd, en, bg⟩ : Pla) = if atE h.n h.f hd = 0 ∧ ((atH h.n h.f hd).kind = 1 ∨ (bg = false ∧ (atH h.n h.f hd).kind = 2)) then 0 else 30) := rfl
  have HE2 : Hid (∀ e : h.entE (⟨fi, be, fd, la, hd, en, bg⟩ : Pla) = 0, h.enter (⟨fi, be, fd, la, hd, en, bg⟩ : Pla) = ⟨fi, be, max (hd + 1) fi, min (hd + 1 + (atH h.n h.f hd).ptrs) be, hd + (atH h.n h.f hd).size, en, bg⟩) := fun e => by
    unfold HS.enter
    rw [if_pos e]
    rfl
  have HE3 : Hid (∀ e : ¬ h.entE (⟨fi, be, fd, la, hd, en, bg⟩ : Pla) = 0, h.enter (⟨fi, be, fd, la, hd, en, bg⟩ : Pla) = (⟨fi, be, fd, la, hd, en, bg⟩ : Pla)) := fun e => by
    unfold HS.enter
    rw [if_neg e]
  have HIn := hide (fun e => atH_in (n := h.n) (f := h.f) (i := hd) e)
  have HN := hide H.ok.nmax
  have HTW := hide hT
  have HNE := hide hne
  clear H hb0 o hT hne
  unfold Hd.val at HP1 HP2
  generalize atH h.n h.f hd = G at *
  obtain ⟨kd, sz, pt, ag, tt⟩ := G
  dsimp only at HP1 HP2 HE1 HE2 HIn
  generalize atE h.n h.f hd = er at *
  go_enter Tryz.func95, Tryz.ntmps95
  go_wp2_with fail
  go_cut [5, 6] from 8 to 18 (fun v y wc => ∃ rb, v = .pointer (some ⟨rb, 0, none⟩) ∧ y = .int .i64 er ∧ HM W wc L X h x s k ((b, 93, (⟨fi, be, fd, la, hd, en, bg⟩ : Pla).cells) :: (rb, 157, #[.int .i64 kd, .int .i64 sz, .int .i64 pt, .int .i64 ag, .int .i64 tt]) :: E) D Q ∧ b ≠ rb ∧ Acc1 w wc L)
  case first =>
    have K0 : w.cell? ⟨L.hb, 20, none⟩ = some (.pointer (some ⟨L.ab, 0, none⟩)) ∧ w.cell? ⟨b, 4, none⟩ = some (.int .i64 hd) := ⟨c20, c4⟩
    have HK1 : Hid (∀ w' y, HM W w' L X h x s k ((b, 93, (⟨fi, be, fd, la, hd, en, bg⟩ : Pla).cells) :: y) D Q → w'.cell? ⟨L.hb, 20, none⟩ = some (.pointer (some ⟨L.ab, 0, none⟩)) ∧ w'.cell? ⟨b, 4, none⟩ = some (.int .i64 hd)) := fun w' y q => ⟨q.hc.c20, (q.blk (List.mem_cons_self ..)).cell 4⟩
    have HK2 : Hid (∀ w' z y, HM W w' L X h x s k (z :: (b, 93, (⟨fi, be, fd, la, hd, en, bg⟩ : Pla).cells) :: y) D Q → w'.cell? ⟨L.hb, 20, none⟩ = some (.pointer (some ⟨L.ab, 0, none⟩)) ∧ w'.cell? ⟨b, 4, none⟩ = some (.int .i64 hd)) := fun w' z y q => ⟨q.hc.c20, (q.blk (List.mem_cons_of_mem _ (List.mem_cons_self ..))).cell 4⟩
    have N20 : L.hb < w.heap.size := lt_of_cell c20
    have HK3 : Hid (∀ w' z y v0 v1 v2 v3 v4, HM W w' L X h x s k (z :: (b, 93, (⟨fi, be, fd, la, hd, en, bg⟩ : Pla).cells) :: y) D Q → (((((w'.setCell ⟨w.heap.size, 0, none⟩ v0).setCell ⟨w.heap.size, 1, none⟩ v1).setCell ⟨w.heap.size, 2, none⟩ v2).setCell ⟨w.heap.size, 3, none⟩ v3).setCell ⟨w.heap.size, 4, none⟩ v4).cell? ⟨L.hb, 20, none⟩ = some (.pointer (some ⟨L.ab, 0, none⟩)) ∧ (((((w'.setCell ⟨w.heap.size, 0, none⟩ v0).setCell ⟨w.heap.size, 1, none⟩ v1).setCell ⟨w.heap.size, 2, none⟩ v2).setCell ⟨w.heap.size, 3, none⟩ v3).setCell ⟨w.heap.size, 4, none⟩ v4).cell? ⟨b, 4, none⟩ = some (.int .i64 hd)) := fun w' z y v0 v1 v2 v3 v4 q => by
      obtain ⟨k1, k2⟩ := HK2.out _ _ _ q
      have hf := Fr.five (Fr.refl [w.heap.size] w') (g := w.heap.size) (.inl (by simp)) v0 v1 v2 v3 v4
      exact ⟨(hf.cell (p := ⟨L.hb, 20, none⟩) (lt_of_cell k1) (by simp; omega)).trans k1, (hf.cell (p := ⟨b, 4, none⟩) (lt_of_cell k2) (by simp; omega)).trans k2⟩
    go_region_held3 (fun w' => w'.cell? ⟨L.hb, 20, none⟩ = some (.pointer (some ⟨L.ab, 0, none⟩)) ∧ w'.cell? ⟨b, 4, none⟩ = some (.int .i64 hd))
      (first | with_reducible exact K0 | with_reducible exact K5 _ _ _ _ _ | go_keep)
      (first | (go_at_call 146; first | ((with_reducible refine Calls.mono HP1.out ?_); rintro e w1 ⟨rfl, hH1, hA1⟩; have HH1 := hide hH1; have HA1 := hide hA1; have K0 := HK1.out _ _ hH1; clear hH1 hA1) | ((with_reducible refine Calls.mono HP2.out ?_); rintro e w1 ⟨rfl, hH2, hA2⟩; have HHb := hide hH2; have HAb := hide hA2; have K0 := HK2.out _ _ _ hH2; have K5 := fun v0 v1 v2 v3 v4 => HK3.out _ _ _ v0 v1 v2 v3 v4 hH2; have hbz : Blk w1 w.heap.size 157 Hd.zero.cells := hH2.blk (List.mem_cons_self ..); obtain ⟨⟨z0, z1, z2, z3, z4⟩, f0, f1, f2, f3, f4⟩ := Hd.zero_cells hbz; have N2 := hbz.lt; clear hH2 hA2 hbz)))
    all_goals
      go_wp2_with fail
      go_meet
    all_goals first
      | (have _x := HH1
         have hlr : b < w1.heap.size := (HH1.out.blk (List.mem_cons_self ..)).lt
         exact ⟨_, rfl, rfl, (HH1.out.alloc hS 157 #[.int .i64 kd, .int .i64 sz, .int .i64 pt, .int .i64 ag, .int .i64 tt]).sub (fun q hq => by
           simp only [List.mem_cons] at hq ⊢
           rcases hq with e | e | e <;> simp [e]), by omega, (HA1.out.before (Acc0.of (Fr.refl [] w).drew (by simp))).behind (Acc0.of ((Fr.refl [] _).alloc _) (by simp))⟩)
      | (exact ⟨_, rfl, rfl, (HHb.out.turn hS HTW.out ((Fr.refl [w.heap.size] w1).five (.inl (by simp)) _ _ _ _ _) (Blk.fives (HHb.out.blk (List.mem_cons_self ..)) _ _ _ _ _) (fun q hq => by
           rcases List.mem_cons.1 hq with rfl | hq
           · show b ≠ w.heap.size
             omega
           · exact HLE.out q hq)).sub (fun q hq => by
           simp only [List.mem_cons] at hq ⊢
           rcases hq with e | e | e <;> simp [e]), by omega, (HAb.out.before (Acc0.of ((Fr.refl [] w).alloc _).drew (by simp))).behind (Acc0.of ((Fr.refl [w.heap.size] w1).five (.inl (by simp)) _ _ _ _ _) (by have := HLA.out; simp; omega))⟩)
  case rest =>
  obtain ⟨rb, rfl, rfl, hH2, hbr, hA2⟩ := hcut
  have HH2 := hide hH2
  have HA2 := hide hA2
  clear hH2 hA2 HP1 HP2
  generalize wc = w2 at *
  have HNE2 : Hid (∀ q, q ∈ ((rb, 157, #[.int .i64 kd, .int .i64 sz, .int .i64 pt, .int .i64 ag, .int .i64 tt]) :: E : Blks) → q.1 ≠ b) := fun q hq => by
    rcases List.mem_cons.1 hq with rfl | hq
    · exact fun e => hbr e.symm
    · exact HNE.out q hq
  have hb2 := HH2.out.blk (List.mem_cons_self ..)
  have hr2 := HH2.out.blk (b := rb) (List.mem_cons_of_mem _ (List.mem_cons_self ..))
  have d0 := hr2.cell 0
  have d1 := hr2.cell 1
  have d2 := hr2.cell 2
  have d0 : w2.cell? ⟨rb, 0, none⟩ = some (.int .i64 kd) := d0
  have d1 : w2.cell? ⟨rb, 1, none⟩ = some (.int .i64 sz) := d1
  have d2 : w2.cell? ⟨rb, 2, none⟩ = some (.int .i64 pt) := d2
  have nb : b < w2.heap.size := hb2.lt
  have nr : rb < w2.heap.size := hr2.lt
  have fz2 : w2.frozen? ⟨b, 2, none⟩ = false := hb2.frozen 2
  have fz3 : w2.frozen? ⟨b, 3, none⟩ = false := hb2.frozen 3
  have fz4 : w2.frozen? ⟨b, 4, none⟩ = false := hb2.frozen 4
  have HAB : Hid (b ≠ L.ab) := by
    obtain ⟨c9, h9⟩ := HH2.out.hr.ar
    exact hb2.apart h9.set (by decide)
  have b0 : w2.cell? ⟨b, 0, none⟩ = some (.int .i64 fi) := hb2.cell 0
  have b1 : w2.cell? ⟨b, 1, none⟩ = some (.int .i64 be) := hb2.cell 1
  have b2 : w2.cell? ⟨b, 2, none⟩ = some (.int .i64 fd) := hb2.cell 2
  have b3 : w2.cell? ⟨b, 3, none⟩ = some (.int .i64 la) := hb2.cell 3
  have b4 : w2.cell? ⟨b, 4, none⟩ = some (.int .i64 hd) := hb2.cell 4
  have b6 : w2.cell? ⟨b, 6, none⟩ = some (.bool bg) := hb2.cell 6
  by_cases h0 : er = 0
  · subst h0
    have z0 : ((0 : Int) != 0) = false := rfl
    by_cases h1 : kd = 1
    · subst h1
      have HV : Hid (h.entE (⟨fi, be, fd, la, hd, en, bg⟩ : Pla) = 0) := by
        show _ = _
        rw [HE1.out, if_pos (by exact ⟨rfl, .inl rfl⟩)]
      have HV2 := HE2.out HV.out
      have HOk2 := HOk.out
      rw [HV2] at HOk2
      obtain ⟨-, -, ⟨q1, q2⟩, ⟨q3, q4⟩, ⟨q5, q6⟩, -⟩ := HOk2
      dsimp only at q1 q2 q3 q4 q5 q6
      obtain ⟨i0, i1, i2, i3, i4, i5, -⟩ := HIn.out rfl
      have hn := HN.out
      have hrb : rb ≠ b := fun e => hbr e.symm
      have w1' : IntKind.i64.wrap (hd + 1) = hd + 1 := IntWalk.i64_in _ ⟨by omega, by omega⟩
      have w2' : IntKind.i64.wrap (hd + 1 + pt) = hd + 1 + pt := IntWalk.i64_in _ ⟨by omega, by omega⟩
      have w3' : IntKind.i64.wrap (hd + sz) = hd + sz := IntWalk.i64_in _ ⟨by omega, by omega⟩
      go_wp2_with fail
      refine region_tail 13 (by kernel_rfl) (by kernel_rfl) ?_
      simp only [List.take_succ_cons, List.take_zero, List.drop_succ_cons, List.drop_zero]
      repeat still_step
      refine wpStill_nil ?_
      go_wp2_with fail
      refine region_tail 16 (by kernel_rfl) (by kernel_rfl) ?_
      simp only [List.take_succ_cons, List.take_zero, List.drop_succ_cons, List.drop_zero]
      repeat still_step
      refine wpStill_nil ?_
      go_wp2_with fail
      refine region_tail 9 (by kernel_rfl) (by kernel_rfl) ?_
      simp only [List.take_succ_cons, List.take_zero, List.drop_succ_cons, List.drop_zero]
      repeat still_step
      refine wpStill_nil ?_
      go_wp2_with fail
      go_ret
      exact ⟨ret_int HV.out.symm, by
        rw [HV2]
        exact ((((((HH2.out.fr0 hS (Fr.refl _ _).drew).poke hS HTW.out HNE2.out 2 _).fr0 hS (Fr.refl _ _).drew).poke hS HTW.out HNE2.out 3 _).fr0 hS (Fr.refl _ _).drew).poke hS HTW.out HNE2.out 4 _).sub (fun q hq => by
          simp only [List.mem_cons] at hq ⊢
          rcases hq with e | e
          · exact .inl e
          · exact .inr (.inr e)), HA2.out.behind (Acc0.of ((((((Fr.refl [b] w2).drew.setCell (p := ⟨b, 2, none⟩) (.inl (by simp)) _).drew).setCell (p := ⟨b, 3, none⟩) (.inl (by simp)) _).drew).setCell (p := ⟨b, 4, none⟩) (.inl (by simp)) _) (by simp; exact fun e => HAB.out e.symm))⟩
    · have h1' : (kd != 1) = true := by simpa using h1
      by_cases hbg : bg = true
      · subst hbg
        have HV : Hid (h.entE (⟨fi, be, fd, la, hd, en, true⟩ : Pla) = 30) := by
          show _ = _
          rw [HE1.out, if_neg (by rintro ⟨-, q | ⟨q, -⟩⟩; exact h1 q; cases q)]
        have HV2 := HE3.out (by rw [HV.out]; decide)
        go_wp2_with fail
        go_ret
        exact ⟨ret_int HV.out.symm, by (try rw [HV2]); exact HH2.out.sub (fun q hq => by
          simp only [List.mem_cons] at hq ⊢
          rcases hq with e | e <;> simp [e]), HA2.out⟩
      · have hbf : bg = false := by simpa using hbg
        subst hbf
        by_cases h2 : kd = 2
        · subst h2
          have HV : Hid (h.entE (⟨fi, be, fd, la, hd, en, false⟩ : Pla) = 0) := by
            show _ = _
            rw [HE1.out, if_pos (by exact ⟨rfl, .inr ⟨rfl, rfl⟩⟩)]
          have HV2 := HE2.out HV.out
          have HOk2 := HOk.out
          rw [HV2] at HOk2
          obtain ⟨-, -, ⟨q1, q2⟩, ⟨q3, q4⟩, ⟨q5, q6⟩, -⟩ := HOk2
          dsimp only at q1 q2 q3 q4 q5 q6
          obtain ⟨i0, i1, i2, i3, i4, i5, -⟩ := HIn.out rfl
          have hn := HN.out
          have hrb : rb ≠ b := fun e => hbr e.symm
          have w1' : IntKind.i64.wrap (hd + 1) = hd + 1 := IntWalk.i64_in _ ⟨by omega, by omega⟩
          have w2' : IntKind.i64.wrap (hd + 1 + pt) = hd + 1 + pt := IntWalk.i64_in _ ⟨by omega, by omega⟩
          have w3' : IntKind.i64.wrap (hd + sz) = hd + sz := IntWalk.i64_in _ ⟨by omega, by omega⟩
          go_wp2_with fail
          refine region_tail 13 (by kernel_rfl) (by kernel_rfl) ?_
          simp only [List.take_succ_cons, List.take_zero, List.drop_succ_cons, List.drop_zero]
          repeat still_step
          refine wpStill_nil ?_
          go_wp2_with fail
          refine region_tail 16 (by kernel_rfl) (by kernel_rfl) ?_
          simp only [List.take_succ_cons, List.take_zero, List.drop_succ_cons, List.drop_zero]
          repeat still_step
          refine wpStill_nil ?_
          go_wp2_with fail
          refine region_tail 9 (by kernel_rfl) (by kernel_rfl) ?_
          simp only [List.take_succ_cons, List.take_zero, List.drop_succ_cons, List.drop_zero]
          repeat still_step
          refine wpStill_nil ?_
          go_wp2_with fail
          go_ret
          exact ⟨ret_int HV.out.symm, by
            rw [HV2]
            exact ((((((HH2.out.fr0 hS (Fr.refl _ _).drew).poke hS HTW.out HNE2.out 2 _).fr0 hS (Fr.refl _ _).drew).poke hS HTW.out HNE2.out 3 _).fr0 hS (Fr.refl _ _).drew).poke hS HTW.out HNE2.out 4 _).sub (fun q hq => by
              simp only [List.mem_cons] at hq ⊢
              rcases hq with e | e
              · exact .inl e
              · exact .inr (.inr e)), HA2.out.behind (Acc0.of ((((((Fr.refl [b] w2).drew.setCell (p := ⟨b, 2, none⟩) (.inl (by simp)) _).drew).setCell (p := ⟨b, 3, none⟩) (.inl (by simp)) _).drew).setCell (p := ⟨b, 4, none⟩) (.inl (by simp)) _) (by simp; exact fun e => HAB.out e.symm))⟩
        · have h2' : (kd != 2) = true := by simpa using h2
          have HV : Hid (h.entE (⟨fi, be, fd, la, hd, en, false⟩ : Pla) = 30) := by
            show _ = _
            rw [HE1.out, if_neg (by rintro ⟨-, q | ⟨-, q⟩⟩; exact h1 q; exact h2 q)]
          have HV2 := HE3.out (by rw [HV.out]; decide)
          go_wp2_with fail
          go_ret
          exact ⟨ret_int HV.out.symm, by (try rw [HV2]); exact HH2.out.sub (fun q hq => by
            simp only [List.mem_cons] at hq ⊢
            rcases hq with e | e <;> simp [e]), HA2.out⟩
  · have h0' : (er != 0) = true := by simpa using h0
    have HV : Hid (h.entE (⟨fi, be, fd, la, hd, en, bg⟩ : Pla) = 30) := by
      show _ = _
      rw [HE1.out, if_neg (by exact fun q => h0 q.1)]
    have HV2 := HE3.out (by rw [HV.out]; decide)
    go_wp2_with fail
    go_ret
    exact ⟨ret_int HV.out.symm, by (try rw [HV2]); exact HH2.out.sub (fun q hq => by
      simp only [List.mem_cons] at hq ⊢
      rcases hq with e | e <;> simp [e]), HA2.out⟩
set_option maxHeartbeats 1600000 in
theorem rfstep_any (hS : Lives D Q) (hT : Tab W) {p : Pla} (H : HM W w L X h x s k ((b, 93, p.cells) :: E) D Q) (hne : ∀ q, q ∈ E → q.1 ≠ b) (sh : Shf L s k) (o : p.Ok) :
    Calls Tryz.prog 45 #[.pointer (some ⟨b, 0, none⟩), .pointer (some ⟨L.hb, 0, none⟩)] w fun e w' => e = .returned (.int .i64 (h.stpE p)) ∧ HM W w' L X h { x with σ := (h.stp x.per (p, x.σ)).2 } s k ((b, 93, (h.stp x.per (p, x.σ)).1.cells) :: E) D Q ∧ Acc1 w w' L := by
  have hb0 := H.blk (List.mem_cons_self ..)
  have hbl := hb0.lt
  by_cases h1 : p.fd < p.la
  · have HRm := hide (fun m => rfremember_any hS (H.fr0 hS ((Fr.refl _ _).drewN m)) sh p.fd)
    have HV : Hid (h.stpE p = 0) := by
      show _ = _
      unfold HS.stpE
      rw [if_pos h1]
    have HV2 : Hid (h.stp x.per (p, x.σ) = ({ p with fd := p.fd + 1 }, h.remS x.per x.σ p.fd)) := by
      show _ = _
      unfold HS.stp
      dsimp only
      rw [if_pos h1]
    have hfd := o.fd
    have hla := o.la
    rw [HV.out, HV2.out]
    have HTW := hide hT
    have HNE := hide hne
    clear HV HV2 H o hT hne
    obtain ⟨fi, be, fd, la, hd, en, bg⟩ := p
    dsimp only at h1 hfd hla HRm ⊢
    have c2 : w.cell? ⟨b, 2, none⟩ = some (.int .i64 fd) := hb0.cell 2
    have c3 : w.cell? ⟨b, 3, none⟩ = some (.int .i64 la) := hb0.cell 3
    have e1 : IntKind.i64.wrap (fd + 1) = fd + 1 := IntWalk.i64_in _ ⟨by omega, by omega⟩
    clear hb0
    go_enter Tryz.func45, Tryz.ntmps45
    go_wp2_with fail
    go_quiet (fail)
    go_wp2_with fail
    refine (HRm.out _).mono ?_
    rintro e w1 ⟨rfl, hH1, hA1⟩
    have hb1 := hH1.blk (List.mem_cons_self ..)
    have d2 : w1.cell? ⟨b, 2, none⟩ = some (.int .i64 fd) := hb1.cell 2
    have fz2 : w1.frozen? ⟨b, 2, none⟩ = false := hb1.frozen 2
    have NB := hb1.lt
    have hab : b ≠ L.ab := by
      obtain ⟨c9, h9⟩ := hH1.hr.ar
      exact hb1.apart h9.set (by decide)
    have HZ := hide (hH1.poke hS HTW.out HNE.out 2 (.int .i64 (fd + 1)))
    have HAZ := hide ((hA1.before (Acc0.of ((Fr.refl [] w).drewN _) (by simp))).behind (Acc0.of ((Fr.refl [b] w1).setCell (p := ⟨b, 2, none⟩) (.inl (by simp)) (.int .i64 (fd + 1))) (by simp; exact fun e => hab e.symm)))
    clear hH1 hA1 hb1 hab c2 c3
    go_wp2_with fail
    go_ret
    exact ⟨rfl, HZ.out, HAZ.out⟩
  · have HEn := hide (fun m => rfenter_any hS hT (H.fr0 hS ((Fr.refl _ _).drewN m)) hne o)
    have HV : Hid (h.stpE p = h.entE p) := by
      show _ = _
      unfold HS.stpE
      rw [if_neg h1]
    have HV2 : Hid (h.stp x.per (p, x.σ) = (h.enter p, x.σ)) := by
      show _ = _
      unfold HS.stp
      dsimp only
      rw [if_neg h1]
    rw [HV.out, HV2.out]
    clear HV HV2 H o hT hne
    generalize h.entE p = er at *
    generalize h.enter p = p2 at *
    obtain ⟨fi, be, fd, la, hd, en, bg⟩ := p
    dsimp only at h1 ⊢
    have c2 : w.cell? ⟨b, 2, none⟩ = some (.int .i64 fd) := hb0.cell 2
    have c3 : w.cell? ⟨b, 3, none⟩ = some (.int .i64 la) := hb0.cell 3
    clear hb0
    go_enter Tryz.func45, Tryz.ntmps45
    go_wp2_with fail
    go_quiet (fail)
    go_wp2_with fail
    refine (HEn.out _).mono ?_
    rintro e w1 ⟨rfl, hH1, hA1⟩
    have HZ := hide hH1
    have HAZ := hide (hA1.before (Acc0.of ((Fr.refl [] w).drewN _) (by simp)))
    clear hH1 hA1 c2 c3
    go_wp2_with fail
    go_ret
    exact ⟨rfl, HZ.out, HAZ.out⟩
end
end Go.Proofs.YteacgfeiedcdiaaGreatDoor
