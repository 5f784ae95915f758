/- HeapFrees: the walk. -/
import Derived.Test.YtapglokadaibnaaGreatDoorQL14Br
import Derived.Test.YtapglokadaibnaaGreatDoorQYa
namespace Go.Proofs.YtapglokadaibnaaGreatDoor
set_option linter.unusedVariables false
set_option linter.unusedSimpArgs false
set_option maxRecDepth 100000
open Go.RowKit Go.Gl HS

section
variable {W w w' : World} {L : HL} {X : HX} {h : HS} {x : HT} {s k : Nat} {E : Blks} {D : Nat → Prop} {Q : World → Prop}
theorem HM.sok (H : HM W w L X h x s k E D Q) : SOk x.per h.R x.σ := by
  obtain ⟨own, ⟨tg, FS, H, _⟩, _⟩ := H
  obtain ⟨kb, sB, hB, fB, fk, Vs, Vh, Vf, r⟩ := H.se
  exact r.ok
theorem HM.claim (hS : Lives D Q) (H : HM W w L X h x s k E D Q) {y : Int} (hy : Filled y) {j : Nat} (hl : LowFree h.s h.R j) :
    Calls Tryz.prog 34 #[.pointer (some ⟨L.tb, 0, none⟩), .int .i64 y] w fun e w' => e = .returned (.tuple #[.int .i64 (j : Int), .int .i64 0]) ∧ HM W w' L X { h with s := put1 h.s j y } x s k E D Q :=
  H.post hS fun own q => q.claim hy hl
theorem HM.claim_no (hS : Lives D Q) (H : HM W w L X h x s k E D Q) {y : Int} (hy : Filled y) (hl : NoneFree h.s h.R) :
    Calls Tryz.prog 34 #[.pointer (some ⟨L.tb, 0, none⟩), .int .i64 y] w fun e w' => e = .returned (.tuple #[.int .i64 0, .int .i64 6]) ∧ HM W w' L X h x s k E D Q :=
  H.see hS fun own ⟨tg, FS, H⟩ => (claim_full H.rg hy hl).mono (by rintro e w' ⟨rfl, rfl⟩; exact ⟨rfl, Fr.refl _ _⟩)
end
theorem allOf_at {σ : RS} {per n a : Nat} {z : Int} (h : z ∈ allOf σ per n a) : ∃ i : Nat, z = (i : Int) ∧ i < n * per ∧ hasN σ per a i = true := by
  unfold allOf part at h
  obtain ⟨i, hi, rfl⟩ := List.mem_map.1 h
  obtain ⟨h1, h2⟩ := List.mem_filter.1 hi
  refine ⟨i, by simp, List.mem_range.1 h1, by simpa using h2⟩
abbrev HZ (W w : World) (L : HL) (X : HX) (h : HS) (x : HT) (s k : Nat) (E : Blks) : Prop := HM W w L X h x s k E (fun _ => False) (fun _ => True)
/-- What Free leaves, whether there was anything or not. -/
structure Freed (h : HS) (x : HT) (st0 eV : Int) (I : Nat) (h1 : HS) (x1 : HT) : Prop where
  ways : (eV = 5 ∧ st0 = 0) ∨ (eV = 0 ∧ st0 ≠ 0)
  g : h1.g = h.g
  R : h1.R = h.R
  W : h1.W = h.W
  T : h1.T = h.T
  n : h1.n = h.n
  per : x1.per = x.per
  cw : x1.cw = x.cw
  s : h1.s I = 0
  bx : h1.bx = h.bx
  be : h1.be = h.be
  M : eV = 0 → wbit x1.M (I * h.W) = false
  C : eV = 0 → wbit x1.C (I * x.per) = false
  O : eV = 0 → x1.O (I * x.per) = 0
  own : eV = 0 → allOf x1.σ x.per h.R I = []
  all : eV = 0 → ∀ a z, z ∈ allOf x1.σ x.per h.R a → ∃ i : Nat, z = (i : Int) ∧ i < h.R * x.per ∧ i / x.per ≠ I
theorem hfree_all {W w : World} {L : HL} {X : HX} {h : HS} {x : HT} {s k : Nat} {E : Blks} (H : HZ W w L X h x s k E) {I : Nat} (hI : I < h.R) :
    Calls Tryz.prog 27 #[.pointer (some ⟨L.hb, 0, none⟩), .int .i64 (I : Int)] w fun e w' => ∃ eV L1 h1 x1, e = .returned (.int .i64 eV) ∧ Freed h x (h.s I) eV I h1 x1 ∧ (∃ mm, L1 = { L with m := mm }) ∧ HZ W w' L1 X h1 x1 s k E := by
  by_cases hs : h.s I = 0
  · refine (hfree_none Lives.none H hI hs).mono ?_
    rintro e w' ⟨rfl, hA⟩
    exact ⟨5, L, h, x, rfl, ⟨.inl ⟨rfl, hs⟩, rfl, rfl, rfl, rfl, rfl, rfl, rfl, hs, rfl, rfl, (fun e => by cases e), (fun e => by cases e), (fun e => by cases e), (fun e => by cases e), (fun e => by cases e)⟩, ⟨_, rfl⟩, hA⟩
  · refine (hfree_in Lives.none H hI hs).mono ?_
    rintro e w' ⟨rfl, C', M', hM, hC, hA⟩
    have hp := H.dim.p1
    have hW := H.ok.wpos
    have ok := hA.sok
    have ok : SOk x.per h.R ((x.σ.clear I).scrub x.per I) := ok
    have hw : ∀ b, ((x.σ.clear I).scrub x.per I).way I b = 0 := fun b => by
      show (if b = I then 0 else if I = I then 0 else x.σ.way I b) = 0
      split <;> simp
    have hv : ∀ a, ((x.σ.clear I).scrub x.per I).way a I = 0 := fun a => by
      show (if I = I then 0 else _) = 0
      simp
    refine ⟨0, { L with m := put1 L.m I ((I * h.W : Nat) : Int) }, { h with s := put1 h.s I 0, t := put1 h.t I ((I * h.W : Nat) : Int) }, { x with O := put2 x.O (I * x.per) (I * x.per + x.per) (fun _ => 0), σ := (x.σ.clear I).scrub x.per I, M := M', C := C' }, rfl, ⟨.inr ⟨rfl, hs⟩, rfl, rfl, rfl, rfl, rfl, rfl, rfl, ?_, rfl, rfl, fun _ => ?_, fun _ => ?_, fun _ => ?_, fun _ => ?_, fun _ a z hz => ?_⟩, ⟨_, rfl⟩, hA⟩
    · show put1 h.s I 0 I = 0
      unfold put1
      rw [if_pos rfl]
    · rw [hM, if_pos (by omega)]
    · rw [hC, if_pos (by omega)]
    · show put2 x.O (I * x.per) (I * x.per + x.per) (fun _ => 0) (I * x.per) = 0
      unfold put2
      rw [if_pos (by omega)]
    · refine List.eq_nil_iff_forall_not_mem.2 fun z hz => ?_
      obtain ⟨i, rfl, h1, h2⟩ := allOf_at hz
      rw [hasN_none ok (hw _)] at h2
      cases h2
    · obtain ⟨i, rfl, h1, h2⟩ := allOf_at hz
      refine ⟨i, rfl, h1, fun e => ?_⟩
      rw [hasN_none ok (by rw [e]; exact hv _)] at h2
      cases h2
namespace HeapFrees
set_option maxHeartbeats 12800000 in
theorem walk (W : World) (hT : Tab W) (Q : PA) (p : Pl) (hP : PlAt W Q p) (r left : Int) :
    Calls Tryz.prog 4 #[Q.val p, .int .i64 r, .int .i64 left] W fun e w' => e = .returned (.bool true) ∧ Fr [] W w' := by
  have HT := hide hT
  have HP := hide hP
  have hnm := hP.nm
  obtain ⟨tA, htA⟩ : ∃ y, y = Q.tA := ⟨_, rfl⟩
  obtain ⟨hAd, hhA⟩ : ∃ y, y = Q.hA := ⟨_, rfl⟩
  have HTA := hide htA
  have HHA := hide hhA
  have HR : Hid (∀ w', Fr [] W w' → Calls Tryz.prog 11 #[Q.val p] w' fun e w'' => e = .returned (.bool p.rightB) ∧ Fr [] w' w'') := fun w' hf => right14_any (HP.out.fr0 hf)
  have HB : Hid (p.Right → ∀ w', Fr [] W w' → Calls Tryz.prog 12 #[Q.val p] w' (BuiltP w' p)) := fun hr w' hf => build14_any (HT.out.fr hf (by simp)) (Fr.refl _ _) (HP.out.fr0 hf) hr
  unfold PA.val at HR HB ⊢
  rw [← htA, ← hhA] at HR HB ⊢
  clear hT hP htA hhA
  obtain ⟨b, hb⟩ : ∃ b, p.rightB = b := ⟨_, rfl⟩
  rw [hb] at HR
  have HBB := hide hb
  clear hb
  go_enter Tryz.func4, Tryz.ntmps4
  go_wp2_with fail
  refine (awake14_any _ (HT.out.alloc _)).mono ?_
  rintro e w1 ⟨rfl, hf⟩
  have hB := (Blk.new W 27 #[.int .i64 p.c.shift, .int .i64 p.c.regions, .int .i64 p.c.cardShift, .int .i64 p.c.threads, .int .i64 p.c.roots, .int .i64 p.c.refiners, .int .i64 p.c.markers, .int .i64 p.c.young, .int .i64 p.c.tenure, .int .i64 p.c.queue, .int .i64 p.c.stack, .int .i64 p.c.budget, .int .i64 p.c.percent, .int .i64 p.c.fail, .slice tA p.n Q.tc, .slice hAd p.m Q.hc]).fr hf (by simp)
  have HF := hide (((Fr.refl [] W).alloc (.cells #[.int .i64 p.c.shift, .int .i64 p.c.regions, .int .i64 p.c.cardShift, .int .i64 p.c.threads, .int .i64 p.c.roots, .int .i64 p.c.refiners, .int .i64 p.c.markers, .int .i64 p.c.young, .int .i64 p.c.tenure, .int .i64 p.c.queue, .int .i64 p.c.stack, .int .i64 p.c.budget, .int .i64 p.c.percent, .int .i64 p.c.fail, .slice tA p.n Q.tc, .slice hAd p.m Q.hc] 27)).trans_same hf)
  have HPB := hide hB
  have p0 : w1.cell? ⟨W.heap.size, 0, none⟩ = some (.int .i64 p.c.shift) := hB.cell 0
  have p1 : w1.cell? ⟨W.heap.size, 1, none⟩ = some (.int .i64 p.c.regions) := hB.cell 1
  have p2 : w1.cell? ⟨W.heap.size, 2, none⟩ = some (.int .i64 p.c.cardShift) := hB.cell 2
  have p3 : w1.cell? ⟨W.heap.size, 3, none⟩ = some (.int .i64 p.c.threads) := hB.cell 3
  have p4 : w1.cell? ⟨W.heap.size, 4, none⟩ = some (.int .i64 p.c.roots) := hB.cell 4
  have p5 : w1.cell? ⟨W.heap.size, 5, none⟩ = some (.int .i64 p.c.refiners) := hB.cell 5
  have p6 : w1.cell? ⟨W.heap.size, 6, none⟩ = some (.int .i64 p.c.markers) := hB.cell 6
  have p7 : w1.cell? ⟨W.heap.size, 7, none⟩ = some (.int .i64 p.c.young) := hB.cell 7
  have p8 : w1.cell? ⟨W.heap.size, 8, none⟩ = some (.int .i64 p.c.tenure) := hB.cell 8
  have p9 : w1.cell? ⟨W.heap.size, 9, none⟩ = some (.int .i64 p.c.queue) := hB.cell 9
  have p10 : w1.cell? ⟨W.heap.size, 10, none⟩ = some (.int .i64 p.c.stack) := hB.cell 10
  have p11 : w1.cell? ⟨W.heap.size, 11, none⟩ = some (.int .i64 p.c.budget) := hB.cell 11
  have p12 : w1.cell? ⟨W.heap.size, 12, none⟩ = some (.int .i64 p.c.percent) := hB.cell 12
  have p13 : w1.cell? ⟨W.heap.size, 13, none⟩ = some (.int .i64 p.c.fail) := hB.cell 13
  have p14 : w1.cell? ⟨W.heap.size, 14, none⟩ = some (.slice tA p.n Q.tc) := hB.cell 14
  have p15 : w1.cell? ⟨W.heap.size, 15, none⟩ = some (.slice hAd p.m Q.hc) := hB.cell 15
  clear hf hB
  go_wp2_with fail
  refine (HR.out _ HF.out).mono ?_
  rintro e w2 ⟨rfl, hf⟩
  have HF2 := hide (HF.out.trans_same hf)
  have hB := HPB.out.fr hf (by simp)
  have HPB2 := hide hB
  clear hf HF HPB p0 p1 p2 p3 p4 p5 p6 p7 p8 p9 p10 p11 p12 p13 p14 p15
  have p0 : w2.cell? ⟨W.heap.size, 0, none⟩ = some (.int .i64 p.c.shift) := hB.cell 0
  have p1 : w2.cell? ⟨W.heap.size, 1, none⟩ = some (.int .i64 p.c.regions) := hB.cell 1
  have p2 : w2.cell? ⟨W.heap.size, 2, none⟩ = some (.int .i64 p.c.cardShift) := hB.cell 2
  have p3 : w2.cell? ⟨W.heap.size, 3, none⟩ = some (.int .i64 p.c.threads) := hB.cell 3
  have p4 : w2.cell? ⟨W.heap.size, 4, none⟩ = some (.int .i64 p.c.roots) := hB.cell 4
  have p5 : w2.cell? ⟨W.heap.size, 5, none⟩ = some (.int .i64 p.c.refiners) := hB.cell 5
  have p6 : w2.cell? ⟨W.heap.size, 6, none⟩ = some (.int .i64 p.c.markers) := hB.cell 6
  have p7 : w2.cell? ⟨W.heap.size, 7, none⟩ = some (.int .i64 p.c.young) := hB.cell 7
  have p8 : w2.cell? ⟨W.heap.size, 8, none⟩ = some (.int .i64 p.c.tenure) := hB.cell 8
  have p9 : w2.cell? ⟨W.heap.size, 9, none⟩ = some (.int .i64 p.c.queue) := hB.cell 9
  have p10 : w2.cell? ⟨W.heap.size, 10, none⟩ = some (.int .i64 p.c.stack) := hB.cell 10
  have p11 : w2.cell? ⟨W.heap.size, 11, none⟩ = some (.int .i64 p.c.budget) := hB.cell 11
  have p12 : w2.cell? ⟨W.heap.size, 12, none⟩ = some (.int .i64 p.c.percent) := hB.cell 12
  have p13 : w2.cell? ⟨W.heap.size, 13, none⟩ = some (.int .i64 p.c.fail) := hB.cell 13
  have p14 : w2.cell? ⟨W.heap.size, 14, none⟩ = some (.slice tA p.n Q.tc) := hB.cell 14
  have p15 : w2.cell? ⟨W.heap.size, 15, none⟩ = some (.slice hAd p.m Q.hc) := hB.cell 15
  clear hB
  cases b with
  | false =>
    go_wp2_with fail
    go_ret
    exact ⟨rfl, HF2.out⟩
  | true =>
    have HRt := hide (Pl.rightB_yes.1 HBB.out)
    have hT1 : 1 ≤ p.c.threads := by
      have := HRt.out.may
      unfold mayB at this
      simp only [Bool.and_eq_true, wiB_iff] at this
      exact this.2.1.1
    have HT1 := hide hT1
    clear hT1
    go_wp2_with fail
    refine (HB.out HRt.out _ HF2.out).mono ?_
    intro e w3 hres
    rcases hres with ⟨L, X, h, x, s, sh, A, A0, c, E, rfl, hA, hrow, hl⟩ | ⟨rfl, hf⟩
    · have hth : (1 : Int) ≤ (h.T : Int) := by rw [← hl.T]; exact HT1.out
      have hT1 : 1 ≤ h.T := by omega
      have hbx := hl.lay.bx
      have hbe := hl.lay.be
      have HX := hide ((hA.alloc 33 #[.pointer (some ⟨L.hb, 0, none⟩), .slice A0 p.n c]).toM)
      have q0 : (w3.alloc (.cells #[.pointer (some ⟨L.hb, 0, none⟩), .slice A0 p.n c] 33)).cell? ⟨w3.heap.size, 0, none⟩ = some (.pointer (some ⟨L.hb, 0, none⟩)) := (HX.out.blk (List.mem_cons_self ..)).cell 0
      have hok := hA.ok
      have hd := hA.dim
      have c17 := HX.out.hc.c17
      have c21 := HX.out.hc.c21
      rw [hok.rg] at c17
      have hR2 : 0 < h.R := by have := hd.r2; omega
      obtain ⟨I, hI, i1, i2, hIn⟩ := into14 r (n := h.R) hR2
      have hIn1 : (I : Int) < (h.R : Int) := by omega
      have hz9 : ¬ (h.R : Int) = 0 := by omega
      have hR3 := hd.r3
      have hWp := hok.wpos
      have hbase := hok.base_le hIn
      have hnm := hok.nmax
      have HOk := hide hok
      have HDm := hide hd
      have hstI : h.stateOf (I : Int) = h.s I := by unfold HS.stateOf; rw [if_pos ⟨by omega, by omega⟩, Int.toNat_natCast]
      have hcard : h.g.cardOf ((I * h.W : Nat) : Int) = ((I * x.per : Nat) : Int) := by
        have := hd.card_at hIn (i := 0) (by have := hd.p1; omega)
        simpa using this
      have HFree : Hid (∀ x' E' w', x'.per = x.per → HZ w2 w' L X h x' s sh E' → Calls Tryz.prog 27 #[.pointer (some ⟨L.hb, 0, none⟩), .int .i64 (I : Int)] w' fun e w'' => ∃ eV L1 h1 x1, e = .returned (.int .i64 eV) ∧ Freed h x' (h.s I) eV I h1 x1 ∧ (∃ mm, L1 = { L with m := mm }) ∧ HZ w2 w'' L1 X h1 x1 s sh E') := fun x' E' w' _ q => hfree_all q hIn
      have HSt0 : Hid (∀ E' w', HZ w2 w' L X h x s sh E' → Calls Tryz.prog 22 #[.pointer (some ⟨L.tb, 0, none⟩), .int .i64 (I : Int)] w' fun e w'' => e = .returned (.int .i64 (h.s I)) ∧ HZ w2 w'' L X h x s sh E') := fun E' w' q => by
        have := q.state Lives.none (I : Int)
        rwa [hstI] at this
      have HBs : Hid (∀ E' w', HZ w2 w' L X h x s sh E' → Calls Tryz.prog 23 #[.agg #[.int .i64 h.g.words, .int .i64 h.g.rw, .int .i64 h.g.cw, .int .i64 h.g.regions, .int .i64 h.g.cards, .int .i64 h.g.max], .int .i64 (I : Int)] w' fun e w'' => e = .returned (.tuple #[.int .i64 ((I * h.W : Nat) : Int), .int .i64 0]) ∧ HZ w2 w'' L X h x s sh E') := fun E' w' q => q.base_at Lives.none hIn
      have HCc : Hid (∀ x' E' w', HZ w2 w' L X h x' s sh E' → Calls Tryz.prog 26 #[.agg #[.int .i64 h.g.words, .int .i64 h.g.rw, .int .i64 h.g.cw, .int .i64 h.g.regions, .int .i64 h.g.cards, .int .i64 h.g.max], .int .i64 ((I * h.W : Nat) : Int)] w' fun e w'' => e = .returned (.int .i64 ((I * x.per : Nat) : Int)) ∧ HZ w2 w'' L X h x' s sh E') := fun x' E' w' q => by
        have := q.cardC Lives.none ((I * h.W : Nat) : Int)
        rwa [hcard] at this
      have HHc : Hid (∀ x' E' w', HZ w2 w' L X h x' s sh E' → Hcells w' L X h.g h.T) := fun x' E' w' q => q.hc
      have HRg := hide hok.rg
      have HRw := hide hok.rw
      have HF3 := hide (HF2.out.trans_same hA.fr)
      have HFW : Hid (∀ w', Fr [] w2 w' → Fr [] W w') := fun w' hf => HF2.out.trans_same hf
      have HBXE := hide (And.intro hbx hbe)
      have HT1' := hide hT1
      obtain ⟨st0, hst0⟩ : ∃ z, z = h.s I := ⟨_, rfl⟩
      rw [← hst0] at HFree HSt0
      obtain ⟨b0, hb0⟩ : ∃ z : Nat, z = I * h.W := ⟨_, rfl⟩
      obtain ⟨k0, hk0⟩ : ∃ z : Nat, z = I * x.per := ⟨_, rfl⟩
      rw [← hb0] at HBs HCc
      rw [← hk0] at HCc
      have HB0 : Hid (b0 = I * h.W ∧ b0 + h.W ≤ h.n ∧ h.n ≤ 4194304 ∧ k0 = I * x.per ∧ I < h.R ∧ h.R ≤ 65536 ∧ 64 ≤ h.W) := ⟨hb0, by omega, hnm, hk0, hIn, hR3, hWp⟩
      generalize (w3.heap.size, 33, #[Value.pointer (some ⟨L.hb, 0, none⟩), .slice A0 p.n c]) :: E = E1 at *
      clear hA hrow hl hth hbx hbe hok hd hWp hnm hbase hstI hcard hst0 hb0 hk0 hT1 HB HR HP HTA HHA HF2 HPB2 HT HRt HT1 p0 p1 p2 p3 p4 p5 p6 p7 p8 p9 p10 p11 p12 p13 p14 p15
      go_wp2_with fail
      refine (HSt0.out _ _ HX.out).mono ?_
      rintro e w4 ⟨rfl, hA⟩
      have HA := hide hA
      obtain ⟨c14, c15, c16, c17, c18, c19, c20, c21, c22, c23, c24, c25, c26, c27, c28, NH⟩ := HHc.out _ _ _ hA
      clear hA HX q0
      go_wp2_with fail
      refine (HBs.out _ _ HA.out).mono ?_
      rintro e w5 ⟨rfl, hA⟩
      replace HA := hide hA
      clear c14 c15 c16 c17 c18 c19 c20 c21 c22 c23 c24 c25 c26 c27 c28 NH
      obtain ⟨c14, c15, c16, c17, c18, c19, c20, c21, c22, c23, c24, c25, c26, c27, c28, NH⟩ := HHc.out _ _ _ hA
      have HPut := hide (hA.mput Lives.none (b0 : Int))
      clear hA
      go_wp2_with fail
      refine HPut.out.mono ?_
      rintro e w6 ⟨pc, pe, M1, rfl, -, hA⟩
      clear c14 c15 c16 c17 c18 c19 c20 c21 c22 c23 c24 c25 c26 c27 c28 NH HPut
      replace HA := hide hA
      clear hA
      go_wp2_with fail
      -- FROM HERE gen_fr.py
      have HAd := hide (HA.out.fr0 Lives.none (Fr.refl _ _).drew)
      have HC2 : Hid (∀ w' x', HZ w2 w' L X h x' s sh E1 → w'.cell? ⟨L.hb, 14, none⟩ = some (.int .i64 h.g.words) ∧ w'.cell? ⟨L.hb, 15, none⟩ = some (.int .i64 h.g.rw) ∧ w'.cell? ⟨L.hb, 16, none⟩ = some (.int .i64 h.g.cw) ∧ w'.cell? ⟨L.hb, 17, none⟩ = some (.int .i64 h.g.regions) ∧ w'.cell? ⟨L.hb, 18, none⟩ = some (.int .i64 h.g.cards) ∧ w'.cell? ⟨L.hb, 19, none⟩ = some (.int .i64 h.g.max) ∧ w'.cell? ⟨L.hb, 23, none⟩ = some (.pointer (some ⟨X.cb, 0, none⟩))) := fun w' x' q => by
        obtain ⟨a1, a2, a3, a4, a5, a6, a7, a8, a9, a10, a11, a12, a13, a14, a15, a16⟩ := HHc.out _ _ _ q
        exact ⟨a1, a2, a3, a4, a5, a6, a10⟩
      have K0 := HC2.out _ _ HAd.out
      have HDt : Hid (∀ x' w', HZ w2 w' L X h x' s sh E1 → Calls Tryz.prog 25 #[.pointer (some ⟨X.cb, 0, none⟩), .int .i64 (k0 : Int)] w' fun e w'' => ∃ c er C', e = .returned (.tuple #[.bool c, .int .i64 er]) ∧ HZ w2 w'' L X h { x' with C := C' } s sh E1) := fun x' w' q => (q.dirty Lives.none (k0 : Int)).mono (by rintro e w'' ⟨c, er, C', rfl, _, hq⟩; exact ⟨c, er, C', rfl, hq⟩)
      go_cut [] from 77 to 87 (fun wc => ∃ w7 x', w7 = wc ∧ x'.per = x.per ∧ x'.cw = x.cw ∧ HZ w2 w7 L X h x' s sh E1)
      case first =>
        go_region_held3 (fun w' => w'.cell? ⟨L.hb, 14, none⟩ = some (.int .i64 h.g.words) ∧ w'.cell? ⟨L.hb, 15, none⟩ = some (.int .i64 h.g.rw) ∧ w'.cell? ⟨L.hb, 16, none⟩ = some (.int .i64 h.g.cw) ∧ w'.cell? ⟨L.hb, 17, none⟩ = some (.int .i64 h.g.regions) ∧ w'.cell? ⟨L.hb, 18, none⟩ = some (.int .i64 h.g.cards) ∧ w'.cell? ⟨L.hb, 19, none⟩ = some (.int .i64 h.g.max) ∧ w'.cell? ⟨L.hb, 23, none⟩ = some (.pointer (some ⟨X.cb, 0, none⟩)))
          (first | with_reducible exact K0 | go_keep)
          (first | (go_at_call 26; refine (HCc.out _ _ _ HAd.out).mono ?_; rintro e w7 ⟨rfl, hA⟩; replace HAd := hide hA; have K0 := HC2.out _ _ hA; clear hA) | (go_at_call 25; refine (HDt.out _ _ HAd.out).mono ?_; rintro e w8 ⟨cc, er2, C2, rfl, hA⟩; have HAe := hide hA; have K0 := HC2.out _ _ hA; clear hA))
        all_goals
          clear K0
          go_wp2_with fail
          go_meet
          case rel => exact ⟨_, { { x with M := M1 } with C := C2 }, rfl, rfl, rfl, HAe.out⟩
      case rest =>
        obtain ⟨w7, x', rfl, hxp, hxc, hA⟩ := hcut
        have HFr := hide (HFree.out _ _ _ hxp hA)
        have HXP := hide (And.intro hxp hxc)
        clear hA HA HAd HDt HC2 HFree HSt0 HBs K0 hxp hxc
        go_wp2_with fail
        refine HFr.out.mono ?_
        rintro e w8 ⟨eV, L1, h1, x1, rfl, hfd, ⟨mm, rfl⟩, hA⟩
        have HFd := hide hfd
        have HA : Hid (HZ w2 w8 { L with m := mm } X h1 x1 s sh E1) := hA
        have HW1 := hide hfd.ways
        have HCe : Hid (∀ w' E', HZ w2 w' { L with m := mm } X h1 x1 s sh E' → Hcells w' L X h.g h.T) := fun w' E' q => by
          have := q.hc
          rw [hfd.g, hfd.T] at this
          obtain ⟨a1, a2, a3, a4, a5, a6, a7, a8, a9, a10, a11, a12, a13, a14, a15, a16⟩ := this
          exact ⟨a1, a2, a3, a4, a5, a6, a7, a8, a9, a10, a11, a12, a13, a14, a15, a16⟩
        have HS1 : Hid (∀ w', HZ w2 w' { L with m := mm } X h1 x1 s sh E1 → Calls Tryz.prog 22 #[.pointer (some ⟨L.tb, 0, none⟩), .int .i64 (I : Int)] w' fun e w'' => e = .returned (.int .i64 0) ∧ HZ w2 w'' { L with m := mm } X h1 x1 s sh E1) := fun w' q => by
          have := q.state Lives.none (I : Int)
          have e0 : h1.stateOf (I : Int) = 0 := by
            unfold HS.stateOf
            rw [if_pos ⟨by omega, by rw [hfd.R]; omega⟩, Int.toNat_natCast]
            exact hfd.s
          rwa [e0] at this
        have HF1 : Hid (∀ w', HZ w2 w' { L with m := mm } X h1 x1 s sh E1 → Calls Tryz.prog 27 #[.pointer (some ⟨L.hb, 0, none⟩), .int .i64 (h.R : Int)] w' fun e w'' => e = .returned (.int .i64 2) ∧ HZ w2 w'' { L with m := mm } X h1 x1 s sh E1) := fun w' q =>
          hfree_out Lives.none q (r := (h.R : Int)) (by rw [hfd.R]; omega)
        have HCd1 : Hid (∀ w', HZ w2 w' { L with m := mm } X h1 x1 s sh E1 → Calls Tryz.prog 26 #[.agg #[.int .i64 h.g.words, .int .i64 h.g.rw, .int .i64 h.g.cw, .int .i64 h.g.regions, .int .i64 h.g.cards, .int .i64 h.g.max], .int .i64 (b0 : Int)] w' fun e w'' => e = .returned (.int .i64 (k0 : Int)) ∧ HZ w2 w'' { L with m := mm } X h1 x1 s sh E1) := fun w' q => by
          have := q.cardC Lives.none (b0 : Int)
          rw [hfd.g] at this
          have e1 : h.g.cardOf (b0 : Int) = (k0 : Int) := by
            have h1 := HB0.out
            rw [h1.1, h1.2.2.2.1]
            have := HDm.out.card_at hIn (i := 0) (by have := HDm.out.p1; omega)
            simpa using this
          rwa [e1] at this
        have HHs : Hid (eV = 0 → ∀ w', HZ w2 w' { L with m := mm } X h1 x1 s sh E1 → Calls Tryz.prog 28 #[.pointer (some ⟨X.mb, 0, none⟩), .int .i64 (b0 : Int)] w' fun e w'' => e = .returned (.bool false) ∧ HZ w2 w'' { L with m := mm } X h1 x1 s sh E1) := fun he w' q => by
          have := q.mhas Lives.none (b0 : Int)
          have e1 : inSet x1.M (b0 : Int) = false := by
            unfold inSet
            have := hfd.M he
            rw [← HB0.out.1] at this
            simp [this]
          rwa [e1] at this
        have HIs : Hid (eV = 0 → ∀ w', HZ w2 w' { L with m := mm } X h1 x1 s sh E1 → Calls Tryz.prog 29 #[.pointer (some ⟨X.cb, 0, none⟩), .int .i64 (k0 : Int)] w' fun e w'' => e = .returned (.bool false) ∧ HZ w2 w'' { L with m := mm } X h1 x1 s sh E1) := fun he w' q => by
          have := q.cis Lives.none (k0 : Int)
          have e1 : inSet x1.C (k0 : Int) = false := by
            unfold inSet
            have := hfd.C he
            rw [HXP.out.1, ← HB0.out.2.2.2.1] at this
            simp [this]
          rwa [e1] at this
        have HCs : Hid (eV = 0 → ∀ w', HZ w2 w' { L with m := mm } X h1 x1 s sh E1 → Calls Tryz.prog 30 #[.pointer (some ⟨X.zb, 0, none⟩), .int .i64 (I : Int)] w' fun e w'' => (∃ A c, e = .returned (.slice A 0 c)) ∧ HZ w2 w'' { L with m := mm } X h1 x1 s sh E1) := fun he w' q => by
          refine (q.scards Lives.none (a := I) (by rw [hfd.R]; exact hIn)).mono ?_
          rintro e w'' ⟨⟨A, c, G, rfl, _⟩, hq⟩
          have e1 : allOf x1.σ x1.per h1.R I = [] := by rw [hfd.R, hfd.per]; exact hfd.own he
          rw [e1]
          exact ⟨⟨A, c, rfl⟩, hq⟩
        have HK9 : Hid (∀ w', HZ w2 w' { L with m := mm } X h1 x1 s sh E1 → w'.cell? ⟨L.hb, 14, none⟩ = some (.int .i64 h.g.words) ∧ w'.cell? ⟨L.hb, 15, none⟩ = some (.int .i64 h.g.rw) ∧ w'.cell? ⟨L.hb, 16, none⟩ = some (.int .i64 h.g.cw) ∧ w'.cell? ⟨L.hb, 17, none⟩ = some (.int .i64 h.g.regions) ∧ w'.cell? ⟨L.hb, 18, none⟩ = some (.int .i64 h.g.cards) ∧ w'.cell? ⟨L.hb, 19, none⟩ = some (.int .i64 h.g.max) ∧ w'.cell? ⟨L.hb, 23, none⟩ = some (.pointer (some ⟨X.cb, 0, none⟩)) ∧ w'.cell? ⟨L.hb, 25, none⟩ = some (.pointer (some ⟨X.zb, 0, none⟩)) ∧ w'.cell? ⟨L.hb, 26, none⟩ = some (.pointer (some ⟨X.mb, 0, none⟩))) := fun w' q => by
          obtain ⟨a1, a2, a3, a4, a5, a6, a7, a8, a9, a10, a11, a12, a13, a14, a15, a16⟩ := HCe.out _ _ q
          exact ⟨a1, a2, a3, a4, a5, a6, a10, a12, a13⟩
        have c21 := (HCe.out _ _ HA.out).c21
        clear hA hfd HFr
        go_upto_region 16 with fail
        go_cut [110] from 91 to 110 (fun v wc => v = .bool false ∧ ∃ w9, w9 = wc ∧ HZ w2 w9 { L with m := mm } X h1 x1 s sh E1)
        case first =>
          rcases HW1.out with ⟨rfl, rfl⟩ | ⟨rfl, hs0⟩
          · go_wp2_with (first | (go_at_call 22; refine (HS1.out _ HA.out).mono ?_; rintro e w9 ⟨rfl, hA⟩; replace HA := hide hA; clear hA) | (go_at_call 27; refine (HF1.out _ HA.out).mono ?_; rintro e w9 ⟨rfl, hA⟩; replace HA := hide hA; clear hA))
            go_meet
            case rel => exact ⟨rfl, _, rfl, HA.out⟩
          · have hb0 : (st0 == 0) = false := by simpa using hs0
            go_wp2_with (first | (go_at_call 22; refine (HS1.out _ HA.out).mono ?_; rintro e w9 ⟨rfl, hA⟩; replace HA := hide hA; clear hA) | (go_at_call 27; refine (HF1.out _ HA.out).mono ?_; rintro e w9 ⟨rfl, hA⟩; replace HA := hide hA; clear hA))
            go_meet
            case rel => exact ⟨rfl, _, rfl, HA.out⟩
        case rest =>
          obtain ⟨rfl, w9, rfl, hA⟩ := hcut
          replace HA := hide hA
          clear hA c21 HS1 HF1
          go_upto_region 18 with fail
          go_cut [143] from 111 to 143 (fun v wc => v = .bool false ∧ ∃ w10, w10 = wc ∧ HZ w2 w10 { L with m := mm } X h1 x1 s sh E1)
          case first =>
            rcases HW1.out with ⟨rfl, -⟩ | ⟨rfl, -⟩
            · go_quiet (fail)
              go_wp2_with fail
              go_meet
              case rel => exact ⟨rfl, _, rfl, HA.out.fr0 Lives.none ((Fr.refl _ _).drewN _)⟩
            · have HHs0 := hide (HHs.out rfl)
              have HIs0 := hide (HIs.out rfl)
              have HCs0 := hide (HCs.out rfl)
              clear HHs HIs HCs
              have HAd := hide (HA.out.fr0 Lives.none (Fr.refl _ _).drew)
              have K0 := HK9.out _ HAd.out
              refine wp_region_held_drew (S := fun w' => w'.cell? ⟨L.hb, 14, none⟩ = some (.int .i64 h.g.words) ∧ w'.cell? ⟨L.hb, 15, none⟩ = some (.int .i64 h.g.rw) ∧ w'.cell? ⟨L.hb, 16, none⟩ = some (.int .i64 h.g.cw) ∧ w'.cell? ⟨L.hb, 17, none⟩ = some (.int .i64 h.g.regions) ∧ w'.cell? ⟨L.hb, 18, none⟩ = some (.int .i64 h.g.cards) ∧ w'.cell? ⟨L.hb, 19, none⟩ = some (.int .i64 h.g.max) ∧ w'.cell? ⟨L.hb, 23, none⟩ = some (.pointer (some ⟨X.cb, 0, none⟩)) ∧ w'.cell? ⟨L.hb, 25, none⟩ = some (.pointer (some ⟨X.zb, 0, none⟩)) ∧ w'.cell? ⟨L.hb, 26, none⟩ = some (.pointer (some ⟨X.mb, 0, none⟩))) (by decide +kernel) (K0) (fun hHeld => ?_)
              refine wpAnyH_take (i := 0) (v := ?v0x1) rfl (by decide +kernel) (by decide +kernel) (by decide +kernel) (fun _ _ _ h => h) (Or.inl ⟨by rfl, ?hy0x1⟩) (by assumption) ?rest0x1
              case hy0x1 => (intro w' hSw; (try dsimp only at hSw); (try simp only [List.getElem_toArray, List.getElem_cons_succ, List.getElem_cons_zero]); (first | (go_simp; done) | (go_simp; with_reducible rfl)))
              (try simp only [Act.put, List.getElem_toArray, List.getElem_cons_succ, List.getElem_cons_zero, List.setIfInBounds_toArray, List.set_cons_zero, List.set_cons_succ])
              refine wpAnyH_take (i := 1) (v := ?v1x2) rfl (by decide +kernel) (by decide +kernel) (by decide +kernel) (fun _ _ _ h => h) (Or.inl ⟨by rfl, ?hy1x2⟩) (by assumption) ?rest1x2
              case hy1x2 => (intro w' hSw; (try dsimp only at hSw); (try simp only [List.getElem_toArray, List.getElem_cons_succ, List.getElem_cons_zero]); (first | (go_simp; done) | (go_simp; with_reducible rfl)))
              (try simp only [Act.put, List.getElem_toArray, List.getElem_cons_succ, List.getElem_cons_zero, List.setIfInBounds_toArray, List.set_cons_zero, List.set_cons_succ])
              refine wpAnyH_take (i := 2) (v := ?v2x3) rfl (by decide +kernel) (by decide +kernel) (by decide +kernel) (fun _ _ _ h => h) (Or.inl ⟨by rfl, ?hy2x3⟩) (by assumption) ?rest2x3
              case hy2x3 => (intro w' hSw; (try dsimp only at hSw); (try simp only [List.getElem_toArray, List.getElem_cons_succ, List.getElem_cons_zero]); (first | (go_simp; done) | (go_simp; with_reducible rfl)))
              (try simp only [Act.put, List.getElem_toArray, List.getElem_cons_succ, List.getElem_cons_zero, List.setIfInBounds_toArray, List.set_cons_zero, List.set_cons_succ])
              refine wpAnyH_take (i := 3) (v := ?v3x4) rfl (by decide +kernel) (by decide +kernel) (by decide +kernel) (fun _ _ _ h => h) (Or.inl ⟨by rfl, ?hy3x4⟩) (by assumption) ?rest3x4
              case hy3x4 => (intro w' hSw; (try dsimp only at hSw); (try simp only [List.getElem_toArray, List.getElem_cons_succ, List.getElem_cons_zero]); (first | (go_simp; done) | (go_simp; with_reducible rfl)))
              (try simp only [Act.put, List.getElem_toArray, List.getElem_cons_succ, List.getElem_cons_zero, List.setIfInBounds_toArray, List.set_cons_zero, List.set_cons_succ])
              refine wpAnyH_take (i := 4) (v := ?v4x5) rfl (by decide +kernel) (by decide +kernel) (by decide +kernel) (fun _ _ _ h => h) (Or.inl ⟨by rfl, ?hy4x5⟩) (by assumption) ?rest4x5
              case hy4x5 => (intro w' hSw; (try dsimp only at hSw); (try simp only [List.getElem_toArray, List.getElem_cons_succ, List.getElem_cons_zero]); (first | (go_simp; done) | (go_simp; with_reducible rfl)))
              (try simp only [Act.put, List.getElem_toArray, List.getElem_cons_succ, List.getElem_cons_zero, List.setIfInBounds_toArray, List.set_cons_zero, List.set_cons_succ])
              refine wpAnyH_take (i := 5) (v := ?v5x6) rfl (by decide +kernel) (by decide +kernel) (by decide +kernel) (fun _ _ _ h => h) (Or.inl ⟨by rfl, ?hy5x6⟩) (by assumption) ?rest5x6
              case hy5x6 => (intro w' hSw; (try dsimp only at hSw); (try simp only [List.getElem_toArray, List.getElem_cons_succ, List.getElem_cons_zero]); (first | (go_simp; done) | (go_simp; with_reducible rfl)))
              (try simp only [Act.put, List.getElem_toArray, List.getElem_cons_succ, List.getElem_cons_zero, List.setIfInBounds_toArray, List.set_cons_zero, List.set_cons_succ])
              refine wpAnyH_take (i := 6) (v := ?v6x7) rfl (by decide +kernel) (by decide +kernel) (by decide +kernel) (fun _ _ _ h => h) (Or.inl ⟨by rfl, ?hy6x7⟩) (by assumption) ?rest6x7
              case hy6x7 => (intro w' hSw; (try dsimp only at hSw); (try simp only [List.getElem_toArray, List.getElem_cons_succ, List.getElem_cons_zero]); (first | (go_simp; done) | (go_simp; with_reducible rfl)))
              (try simp only [Act.put, List.getElem_toArray, List.getElem_cons_succ, List.getElem_cons_zero, List.setIfInBounds_toArray, List.set_cons_zero, List.set_cons_succ])
              refine wpAnyH_take (i := 7) (v := ?v7x8) rfl (by decide +kernel) (by decide +kernel) (by decide +kernel) (fun _ _ _ h => h) (Or.inl ⟨by rfl, ?hy7x8⟩) (by assumption) ?rest7x8
              case hy7x8 => (intro w' hSw; (try dsimp only at hSw); (try simp only [List.getElem_toArray, List.getElem_cons_succ, List.getElem_cons_zero]); (first | (go_simp; done) | (go_simp; with_reducible rfl)))
              (try simp only [Act.put, List.getElem_toArray, List.getElem_cons_succ, List.getElem_cons_zero, List.setIfInBounds_toArray, List.set_cons_zero, List.set_cons_succ])
              refine wpAnyH_ready (rs := [8]) (by decide +kernel) (by simp) ?_
              refine AllReadyH.cons rfl (fun K hK => ?_) AllReadyH.nil
              (try simp only [List.getElem_toArray, List.getElem_cons_succ, List.getElem_cons_zero])
              go_simp
              (go_at_call 28; refine (HHs0.out _ HAd.out).mono ?_; rintro e w7 ⟨rfl, hA⟩; replace HAd := hide hA; have K0 := HK9.out _ HAd.out; clear hA)
              (try go_wp2_with fail)
              refine hK.out _ _ (K0) (fun hHeld => ?_)
              clear hK K
              (try simp only [Act.put, List.setIfInBounds_toArray, List.set_cons_zero, List.set_cons_succ])
              refine wpAnyH_take (i := 9) (v := ?v9x9) rfl (by decide +kernel) (by decide +kernel) (by decide +kernel) (fun _ _ _ h => h) (Or.inl ⟨by rfl, ?hy9x9⟩) (by assumption) ?rest9x9
              case hy9x9 => (intro w' hSw; (try dsimp only at hSw); (try simp only [List.getElem_toArray, List.getElem_cons_succ, List.getElem_cons_zero]); (first | (go_simp; done) | (go_simp; with_reducible rfl)))
              (try simp only [Act.put, List.getElem_toArray, List.getElem_cons_succ, List.getElem_cons_zero, List.setIfInBounds_toArray, List.set_cons_zero, List.set_cons_succ])
              refine wpAnyH_take (i := 10) (v := ?v10x10) rfl (by decide +kernel) (by decide +kernel) (by decide +kernel) (fun _ _ _ h => h) (Or.inl ⟨by rfl, ?hy10x10⟩) (by assumption) ?rest10x10
              case hy10x10 => (intro w' hSw; (try dsimp only at hSw); (try simp only [List.getElem_toArray, List.getElem_cons_succ, List.getElem_cons_zero]); (first | (go_simp; done) | (go_simp; with_reducible rfl)))
              (try simp only [Act.put, List.getElem_toArray, List.getElem_cons_succ, List.getElem_cons_zero, List.setIfInBounds_toArray, List.set_cons_zero, List.set_cons_succ])
              refine wpAnyH_take (i := 11) (v := ?v11x11) rfl (by decide +kernel) (by decide +kernel) (by decide +kernel) (fun _ _ _ h => h) (Or.inl ⟨by rfl, ?hy11x11⟩) (by assumption) ?rest11x11
              case hy11x11 => (intro w' hSw; (try dsimp only at hSw); (try simp only [List.getElem_toArray, List.getElem_cons_succ, List.getElem_cons_zero]); (first | (go_simp; done) | (go_simp; with_reducible rfl)))
              (try simp only [Act.put, List.getElem_toArray, List.getElem_cons_succ, List.getElem_cons_zero, List.setIfInBounds_toArray, List.set_cons_zero, List.set_cons_succ])
              refine wpAnyH_take (i := 12) (v := ?v12x12) rfl (by decide +kernel) (by decide +kernel) (by decide +kernel) (fun _ _ _ h => h) (Or.inl ⟨by rfl, ?hy12x12⟩) (by assumption) ?rest12x12
              case hy12x12 => (intro w' hSw; (try dsimp only at hSw); (try simp only [List.getElem_toArray, List.getElem_cons_succ, List.getElem_cons_zero]); (first | (go_simp; done) | (go_simp; with_reducible rfl)))
              (try simp only [Act.put, List.getElem_toArray, List.getElem_cons_succ, List.getElem_cons_zero, List.setIfInBounds_toArray, List.set_cons_zero, List.set_cons_succ])
              refine wpAnyH_take (i := 13) (v := ?v13x13) rfl (by decide +kernel) (by decide +kernel) (by decide +kernel) (fun _ _ _ h => h) (Or.inl ⟨by rfl, ?hy13x13⟩) (by assumption) ?rest13x13
              case hy13x13 => (intro w' hSw; (try dsimp only at hSw); (try simp only [List.getElem_toArray, List.getElem_cons_succ, List.getElem_cons_zero]); (first | (go_simp; done) | (go_simp; with_reducible rfl)))
              (try simp only [Act.put, List.getElem_toArray, List.getElem_cons_succ, List.getElem_cons_zero, List.setIfInBounds_toArray, List.set_cons_zero, List.set_cons_succ])
              refine wpAnyH_take (i := 14) (v := ?v14x14) rfl (by decide +kernel) (by decide +kernel) (by decide +kernel) (fun _ _ _ h => h) (Or.inl ⟨by rfl, ?hy14x14⟩) (by assumption) ?rest14x14
              case hy14x14 => (intro w' hSw; (try dsimp only at hSw); (try simp only [List.getElem_toArray, List.getElem_cons_succ, List.getElem_cons_zero]); (first | (go_simp; done) | (go_simp; with_reducible rfl)))
              (try simp only [Act.put, List.getElem_toArray, List.getElem_cons_succ, List.getElem_cons_zero, List.setIfInBounds_toArray, List.set_cons_zero, List.set_cons_succ])
              refine wpAnyH_take (i := 15) (v := ?v15x15) rfl (by decide +kernel) (by decide +kernel) (by decide +kernel) (fun _ _ _ h => h) (Or.inl ⟨by rfl, ?hy15x15⟩) (by assumption) ?rest15x15
              case hy15x15 => (intro w' hSw; (try dsimp only at hSw); (try simp only [List.getElem_toArray, List.getElem_cons_succ, List.getElem_cons_zero]); (first | (go_simp; done) | (go_simp; with_reducible rfl)))
              (try simp only [Act.put, List.getElem_toArray, List.getElem_cons_succ, List.getElem_cons_zero, List.setIfInBounds_toArray, List.set_cons_zero, List.set_cons_succ])
              refine wpAnyH_take (i := 16) (v := ?v16x16) rfl (by decide +kernel) (by decide +kernel) (by decide +kernel) (fun _ _ _ h => h) (Or.inl ⟨by rfl, ?hy16x16⟩) (by assumption) ?rest16x16
              case hy16x16 => (intro w' hSw; (try dsimp only at hSw); (try simp only [List.getElem_toArray, List.getElem_cons_succ, List.getElem_cons_zero]); (first | (go_simp; done) | (go_simp; with_reducible rfl)))
              (try simp only [Act.put, List.getElem_toArray, List.getElem_cons_succ, List.getElem_cons_zero, List.setIfInBounds_toArray, List.set_cons_zero, List.set_cons_succ])
              refine wpAnyH_take (i := 17) (v := ?v17x17) rfl (by decide +kernel) (by decide +kernel) (by decide +kernel) (fun _ _ _ h => h) (Or.inl ⟨by rfl, ?hy17x17⟩) (by assumption) ?rest17x17
              case hy17x17 => (intro w' hSw; (try dsimp only at hSw); (try simp only [List.getElem_toArray, List.getElem_cons_succ, List.getElem_cons_zero]); (first | (go_simp; done) | (go_simp; with_reducible rfl)))
              (try simp only [Act.put, List.getElem_toArray, List.getElem_cons_succ, List.getElem_cons_zero, List.setIfInBounds_toArray, List.set_cons_zero, List.set_cons_succ])
              refine wpAnyH_take (i := 18) (v := ?v18x18) rfl (by decide +kernel) (by decide +kernel) (by decide +kernel) (fun _ _ _ h => h) (Or.inl ⟨by rfl, ?hy18x18⟩) (by assumption) ?rest18x18
              case hy18x18 => (intro w' hSw; (try dsimp only at hSw); (try simp only [List.getElem_toArray, List.getElem_cons_succ, List.getElem_cons_zero]); (first | (go_simp; done) | (go_simp; with_reducible rfl)))
              (try simp only [Act.put, List.getElem_toArray, List.getElem_cons_succ, List.getElem_cons_zero, List.setIfInBounds_toArray, List.set_cons_zero, List.set_cons_succ])
              refine wpAnyH_ready (rs := [19]) (by decide +kernel) (by simp) ?_
              refine AllReadyH.cons rfl (fun K hK => ?_) AllReadyH.nil
              (try simp only [List.getElem_toArray, List.getElem_cons_succ, List.getElem_cons_zero])
              go_simp
              (go_at_call 26; refine (HCd1.out _ HAd.out).mono ?_; rintro e w7 ⟨rfl, hA⟩; replace HAd := hide hA; have K0 := HK9.out _ HAd.out; clear hA)
              (try go_wp2_with fail)
              refine hK.out _ _ (K0) (fun hHeld => ?_)
              clear hK K
              (try simp only [Act.put, List.setIfInBounds_toArray, List.set_cons_zero, List.set_cons_succ])
              refine wpAnyH_ready (rs := [20]) (by decide +kernel) (by simp) ?_
              refine AllReadyH.cons rfl (fun K hK => ?_) AllReadyH.nil
              (try simp only [List.getElem_toArray, List.getElem_cons_succ, List.getElem_cons_zero])
              go_simp
              (go_at_call 29; refine (HIs0.out _ HAd.out).mono ?_; rintro e w7 ⟨rfl, hA⟩; replace HAd := hide hA; have K0 := HK9.out _ HAd.out; clear hA)
              (try go_wp2_with fail)
              refine hK.out _ _ (K0) (fun hHeld => ?_)
              clear hK K
              (try simp only [Act.put, List.setIfInBounds_toArray, List.set_cons_zero, List.set_cons_succ])
              refine wpAnyH_take (i := 21) (v := ?v21x19) rfl (by decide +kernel) (by decide +kernel) (by decide +kernel) (fun _ _ _ h => h) (Or.inl ⟨by rfl, ?hy21x19⟩) (by assumption) ?rest21x19
              case hy21x19 => (intro w' hSw; (try dsimp only at hSw); (try simp only [List.getElem_toArray, List.getElem_cons_succ, List.getElem_cons_zero]); (first | (go_simp; done) | (go_simp; with_reducible rfl)))
              (try simp only [Act.put, List.getElem_toArray, List.getElem_cons_succ, List.getElem_cons_zero, List.setIfInBounds_toArray, List.set_cons_zero, List.set_cons_succ])
              refine wpAnyH_take (i := 22) (v := ?v22x20) rfl (by decide +kernel) (by decide +kernel) (by decide +kernel) (fun _ _ _ h => h) (Or.inl ⟨by rfl, ?hy22x20⟩) (by assumption) ?rest22x20
              case hy22x20 => (intro w' hSw; (try dsimp only at hSw); (try simp only [List.getElem_toArray, List.getElem_cons_succ, List.getElem_cons_zero]); (first | (go_simp; done) | (go_simp; with_reducible rfl)))
              (try simp only [Act.put, List.getElem_toArray, List.getElem_cons_succ, List.getElem_cons_zero, List.setIfInBounds_toArray, List.set_cons_zero, List.set_cons_succ])
              refine wpAnyH_take (i := 23) (v := ?v23x21) rfl (by decide +kernel) (by decide +kernel) (by decide +kernel) (fun _ _ _ h => h) (Or.inl ⟨by rfl, ?hy23x21⟩) (by assumption) ?rest23x21
              case hy23x21 => (intro w' hSw; (try dsimp only at hSw); (try simp only [List.getElem_toArray, List.getElem_cons_succ, List.getElem_cons_zero]); (first | (go_simp; done) | (go_simp; with_reducible rfl)))
              (try simp only [Act.put, List.getElem_toArray, List.getElem_cons_succ, List.getElem_cons_zero, List.setIfInBounds_toArray, List.set_cons_zero, List.set_cons_succ])
              refine wpAnyH_take (i := 24) (v := ?v24x22) rfl (by decide +kernel) (by decide +kernel) (by decide +kernel) (fun _ _ _ h => h) (Or.inl ⟨by rfl, ?hy24x22⟩) (by assumption) ?rest24x22
              case hy24x22 => (intro w' hSw; (try dsimp only at hSw); (try simp only [List.getElem_toArray, List.getElem_cons_succ, List.getElem_cons_zero]); (first | (go_simp; done) | (go_simp; with_reducible rfl)))
              (try simp only [Act.put, List.getElem_toArray, List.getElem_cons_succ, List.getElem_cons_zero, List.setIfInBounds_toArray, List.set_cons_zero, List.set_cons_succ])
              refine wpAnyH_take (i := 25) (v := ?v25x23) rfl (by decide +kernel) (by decide +kernel) (by decide +kernel) (fun _ _ _ h => h) (Or.inl ⟨by rfl, ?hy25x23⟩) (by assumption) ?rest25x23
              case hy25x23 => (intro w' hSw; (try dsimp only at hSw); (try simp only [List.getElem_toArray, List.getElem_cons_succ, List.getElem_cons_zero]); (first | (go_simp; done) | (go_simp; with_reducible rfl)))
              (try simp only [Act.put, List.getElem_toArray, List.getElem_cons_succ, List.getElem_cons_zero, List.setIfInBounds_toArray, List.set_cons_zero, List.set_cons_succ])
              refine wpAnyH_take (i := 26) (v := ?v26x24) rfl (by decide +kernel) (by decide +kernel) (by decide +kernel) (fun _ _ _ h => h) (Or.inl ⟨by rfl, ?hy26x24⟩) (by assumption) ?rest26x24
              case hy26x24 => (intro w' hSw; (try dsimp only at hSw); (try simp only [List.getElem_toArray, List.getElem_cons_succ, List.getElem_cons_zero]); (first | (go_simp; done) | (go_simp; with_reducible rfl)))
              (try simp only [Act.put, List.getElem_toArray, List.getElem_cons_succ, List.getElem_cons_zero, List.setIfInBounds_toArray, List.set_cons_zero, List.set_cons_succ])
              refine wpAnyH_take (i := 27) (v := ?v27x25) rfl (by decide +kernel) (by decide +kernel) (by decide +kernel) (fun _ _ _ h => h) (Or.inl ⟨by rfl, ?hy27x25⟩) (by assumption) ?rest27x25
              case hy27x25 => (intro w' hSw; (try dsimp only at hSw); (try simp only [List.getElem_toArray, List.getElem_cons_succ, List.getElem_cons_zero]); (first | (go_simp; done) | (go_simp; with_reducible rfl)))
              (try simp only [Act.put, List.getElem_toArray, List.getElem_cons_succ, List.getElem_cons_zero, List.setIfInBounds_toArray, List.set_cons_zero, List.set_cons_succ])
              refine wpAnyH_ready (rs := [28]) (by decide +kernel) (by simp) ?_
              refine AllReadyH.cons rfl (fun K hK => ?_) AllReadyH.nil
              (try simp only [List.getElem_toArray, List.getElem_cons_succ, List.getElem_cons_zero])
              go_simp
              (go_at_call 30; refine (HCs0.out _ HAd.out).mono ?_; rintro e w7 ⟨⟨A7, c7, rfl⟩, hA⟩; replace HAd := hide hA; have K0 := HK9.out _ HAd.out; clear hA)
              (try go_wp2_with fail)
              refine hK.out _ _ (K0) (fun hHeld => ?_)
              clear hK K
              (try simp only [Act.put, List.setIfInBounds_toArray, List.set_cons_zero, List.set_cons_succ])
              refine wpAnyH_ready (rs := [29]) (by decide +kernel) (by simp) ?_
              refine AllReadyH.cons rfl (fun K hK => ?_) AllReadyH.nil
              (try simp only [List.getElem_toArray, List.getElem_cons_succ, List.getElem_cons_zero])
              go_simp
              refine hK.out _ _ (K0) (fun hHeld => ?_)
              clear hK K
              (try simp only [Act.put, List.setIfInBounds_toArray, List.set_cons_zero, List.set_cons_succ])
              refine wpAnyH_take (i := 30) (v := ?v30x26) rfl (by decide +kernel) (by decide +kernel) (by decide +kernel) (fun _ _ _ h => h) (Or.inl ⟨by rfl, ?hy30x26⟩) (by assumption) ?rest30x26
              case hy30x26 => (intro w' hSw; (try dsimp only at hSw); (try simp only [List.getElem_toArray, List.getElem_cons_succ, List.getElem_cons_zero]); (first | (go_simp; done) | (go_simp; with_reducible rfl)))
              (try simp only [Act.put, List.getElem_toArray, List.getElem_cons_succ, List.getElem_cons_zero, List.setIfInBounds_toArray, List.set_cons_zero, List.set_cons_succ])
              refine wpAnyH_take (i := 31) (v := ?v31x27) rfl (by decide +kernel) (by decide +kernel) (by decide +kernel) (fun _ _ _ h => h) (Or.inl ⟨by rfl, ?hy31x27⟩) (by assumption) ?rest31x27
              case hy31x27 => (intro w' hSw; (try dsimp only at hSw); (try simp only [List.getElem_toArray, List.getElem_cons_succ, List.getElem_cons_zero]); (first | (go_simp; done) | (go_simp; with_reducible rfl)))
              (try simp only [Act.put, List.getElem_toArray, List.getElem_cons_succ, List.getElem_cons_zero, List.setIfInBounds_toArray, List.set_cons_zero, List.set_cons_succ])
              refine wpAnyH_take (i := 32) (v := ?v32x28) rfl (by decide +kernel) (by decide +kernel) (by decide +kernel) (fun _ _ _ h => h) (Or.inl ⟨by rfl, ?hy32x28⟩) (by assumption) ?rest32x28
              case hy32x28 => (intro w' hSw; (try dsimp only at hSw); (try simp only [List.getElem_toArray, List.getElem_cons_succ, List.getElem_cons_zero]); (first | (go_simp; done) | (go_simp; with_reducible rfl)))
              (try simp only [Act.put, List.getElem_toArray, List.getElem_cons_succ, List.getElem_cons_zero, List.setIfInBounds_toArray, List.set_cons_zero, List.set_cons_succ])
              refine wpAnyH_done (by decide +kernel) ?_ _
              go_wp2_with fail
              go_meet
              case rel => exact ⟨rfl, _, rfl, HAd.out⟩
          case rest =>
            obtain ⟨rfl, w10, rfl, hA⟩ := hcut
            replace HA := hide hA
            clear hA HHs HIs HCs HK9
            have HLp : Hid (∀ w' (a : Nat), a < h.R → HZ w2 w' { L with m := mm } X h1 x1 s sh E1 → Calls Tryz.prog 30 #[.pointer (some ⟨X.zb, 0, none⟩), .int .i64 (a : Int)] w' fun e w'' => ∃ A c G, e = .returned (.slice A (allOf x1.σ x.per h.R a).length c) ∧ Lr w'' 3 A (allOf x1.σ x.per h.R a).length c G (zv (allOf x1.σ x.per h.R a)) ∧ HZ w2 w'' { L with m := mm } X h1 x1 s sh E1) := fun w' a ha q => by
              refine (q.scards Lives.none (a := a) (by rw [HFd.out.R]; exact ha)).mono ?_
              rintro e w'' ⟨⟨A, c, G, rfl, hl, _⟩, hq⟩
              rw [HFd.out.R, HFd.out.per, HXP.out.1] at hl
              rw [HFd.out.R, HFd.out.per, HXP.out.1]
              exact ⟨A, c, G, rfl, hl, hq⟩
            have HFst : Hid (∀ w' (c : Nat), c < h.R * x.per → HZ w2 w' { L with m := mm } X h1 x1 s sh E1 → Calls Tryz.prog 31 #[.agg #[.int .i64 h.g.words, .int .i64 h.g.rw, .int .i64 h.g.cw, .int .i64 h.g.regions, .int .i64 h.g.cards, .int .i64 h.g.max], .int .i64 (c : Int)] w' fun e w'' => e = .returned (.tuple #[.int .i64 ((c * x.cw : Nat) : Int), .int .i64 0]) ∧ Fr [] w' w'') := fun w' c hc q => by
              have := first_any h.g HOk.out.geo (c : Int) w' q.hr.tab
              have e1 : 0 ≤ (c : Int) ∧ (c : Int) < h.g.cards := ⟨by omega, by rw [HDm.out.cd]; omega⟩
              rw [if_pos e1, if_pos e1, HDm.out.cw, ← Int.natCast_mul] at this
              exact this
            have HRgn : Hid (∀ w' (c : Nat), c < h.R * x.per → HZ w2 w' { L with m := mm } X h1 x1 s sh E1 → Calls Tryz.prog 32 #[.agg #[.int .i64 h.g.words, .int .i64 h.g.rw, .int .i64 h.g.cw, .int .i64 h.g.regions, .int .i64 h.g.cards, .int .i64 h.g.max], .int .i64 ((c * x.cw : Nat) : Int)] w' fun e w'' => e = .returned (.int .i64 ((c / x.per : Nat) : Int)) ∧ Fr [] w' w'') := fun w' c hc q => by
              have := region_any h.g HOk.out.geo ((c * x.cw : Nat) : Int) w' q.hr.tab
              have hp := HDm.out.p1
              have hcp := HDm.out.c1
              have hwc := HDm.out.wcards
              have hm : c * x.cw + x.cw ≤ h.R * x.per * x.cw := mul_add_le hc
              rw [Nat.mul_comm x.cw] at hwc
              have e1 : h.g.regionOf ((c * x.cw : Nat) : Int) = ((c / x.per : Nat) : Int) := by
                unfold Geo.regionOf
                rw [if_pos ⟨by omega, by rw [HDm.out.wd]; omega⟩, HDm.out.rw, HDm.out.wp, ← Int.natCast_ediv, Nat.mul_div_mul_right _ _ (by omega)]
              rwa [e1] at this
            have HAll : Hid (eV = 0 → ∀ a z, z ∈ allOf x1.σ x.per h.R a → ∃ i : Nat, z = (i : Int) ∧ i < h.R * x.per ∧ i / x.per ≠ I) := by
              have := HFd.out.all
              rw [HXP.out.1] at this
              exact this
            have HK6 : Hid (∀ w', HZ w2 w' { L with m := mm } X h1 x1 s sh E1 → w'.cell? ⟨L.hb, 14, none⟩ = some (.int .i64 h.g.words) ∧ w'.cell? ⟨L.hb, 15, none⟩ = some (.int .i64 h.g.rw) ∧ w'.cell? ⟨L.hb, 16, none⟩ = some (.int .i64 h.g.cw) ∧ w'.cell? ⟨L.hb, 17, none⟩ = some (.int .i64 h.g.regions) ∧ w'.cell? ⟨L.hb, 18, none⟩ = some (.int .i64 h.g.cards) ∧ w'.cell? ⟨L.hb, 19, none⟩ = some (.int .i64 h.g.max)) := fun w' q => by
              obtain ⟨a1, a2, a3, a4, a5, a6, a7, a8, a9, a10, a11, a12, a13, a14, a15, a16⟩ := HCe.out _ _ q
              exact ⟨a1, a2, a3, a4, a5, a6⟩
            have HLt : Hid (∀ a, (allOf x1.σ x.per h.R a).length ≤ 9223372036854775807) := fun a => by
              have h1 : (allOf x1.σ x.per h.R a).length ≤ h.R * x.per := by
                unfold allOf part
                rw [List.length_map]
                exact Nat.le_trans (List.length_filter_le _ _) (by simp)
              have := HDm.out.pm
              omega
            go_wp2_with fail
            go_loopw [16] (fun v wr => ∃ a : Nat, v = .int .i64 (a : Int) ∧ a ≤ h.R ∧ HZ w2 wr { L with m := mm } X h1 x1 s sh E1) (fun v _ => h.R - (intOf v).toNat)
            case atStart => exact ⟨0, rfl, Nat.zero_le _, HA.out⟩
            case round =>
              obtain ⟨a, rfl, ha, hA⟩ := hrel
              by_cases hlt : a < h.R
              · have hlt1 : (a : Int) < (h.R : Int) := by omega
                have c25 := (HCe.out _ _ hA).c25
                have HL2 := hide (HLp.out _ a hlt hA)
                have HLA := hide hlt
                have HAll2 := hide (fun he => HAll.out he a)
                have HLt2 := HLt.out a
                clear hA HA
                obtain ⟨LA, hLA⟩ : ∃ LA, LA = allOf x1.σ x.per h.R a := ⟨_, rfl⟩
                rw [← hLA] at HL2 HAll2 HLt2
                clear hLA
                go_wp2_with fail
                refine HL2.out.mono ?_
                rintro e w11 ⟨A7, c7, G7, rfl, hl, hA⟩
                have HLr := hide hl
                have HA := hide hA
                clear hl hA c25 HL2
                obtain ⟨ln, hln⟩ : ∃ ln, ln = LA.length := ⟨_, rfl⟩
                rw [← hln] at HLr HLt2 ⊢
                have HLN := hide hln
                clear hln
                go_wp2_with fail
                go_loopw [18] (fun v wq => ∃ i : Nat, v = .int .i64 (i : Int) ∧ i ≤ ln ∧ Fr [] w11 wq ∧ HZ w2 wq { L with m := mm } X h1 x1 s sh E1) (fun v _ => ln - (intOf v).toNat)
                case atStart => exact ⟨0, rfl, Nat.zero_le _, Fr.refl _ _, HA.out⟩
                case round =>
                  obtain ⟨i, rfl, hi9, hf9, hA⟩ := hrel
                  replace HA := hide hA
                  by_cases hli : i < ln
                  · have hli1 : (i : Int) < (ln : Int) := by omega
                    by_cases he : eV = 0
                    · have he0 : (eV == 0) = true := by simpa using he
                      have hlr := HLr.out.fr0 hf9
                      obtain ⟨gb, go, rfl, _, NG, hcell, _, _⟩ := hlr.pos (by omega)
                      have hci := hcell i (by omega)
                      rw [zv_get _ (by rw [← HLN.out]; exact hli)] at hci
                      obtain ⟨z, hz, hz1, hz2⟩ := HAll2.out he (LA.getD i 0) (by rw [List.getD_eq_getElem?_getD, List.getElem?_eq_getElem (by rw [← HLN.out]; exact hli)]; exact List.getElem_mem _)
                      rw [hz] at hci
                      have hq : (((z / x.per : Nat) : Int) == (I : Int)) = false := by
                        simp only [beq_eq_false_iff_ne, ne_eq]
                        omega
                      have HZ1' := hide hz1
                      have HFs := hide (fun w' q => HFst.out w' z hz1 q)
                      have HRs := hide (fun w' q => HRgn.out w' z hz1 q)
                      obtain ⟨fz, hfz⟩ : ∃ fz : Nat, fz = z * x.cw := ⟨_, rfl⟩
                      obtain ⟨rz, hrz⟩ : ∃ rz : Nat, rz = z / x.per := ⟨_, rfl⟩
                      rw [← hfz] at HFs HRs
                      rw [← hrz] at HRs hq
                      have HF9 := hide hf9
                      clear hA hlr hcell hz hfz hrz hf9 he
                      have HKL : Hid (∀ w', Fr [] wr w' → HZ w2 w' { L with m := mm } X h1 x1 s sh E1 → (w'.cell? ⟨L.hb, 14, none⟩ = some (.int .i64 h.g.words) ∧ w'.cell? ⟨L.hb, 15, none⟩ = some (.int .i64 h.g.rw) ∧ w'.cell? ⟨L.hb, 16, none⟩ = some (.int .i64 h.g.cw) ∧ w'.cell? ⟨L.hb, 17, none⟩ = some (.int .i64 h.g.regions) ∧ w'.cell? ⟨L.hb, 18, none⟩ = some (.int .i64 h.g.cards) ∧ w'.cell? ⟨L.hb, 19, none⟩ = some (.int .i64 h.g.max) ∧ w'.cell? ⟨gb, go + i, none⟩ = some (.int .i64 (z : Int)))) := fun w' hf q => by
                        obtain ⟨a1, a2, a3, a4, a5, a6⟩ := HK6.out _ q
                        exact ⟨a1, a2, a3, a4, a5, a6, (hf.cell (p := ⟨gb, go + i, none⟩) NG (by simp)).trans hci⟩
                      go_wp2_with fail
                      have HFd2 : Hid (Fr [] wr wr.drew) := (Fr.refl _ _).drew
                      have HAd := hide (HA.out.fr0 Lives.none HFd2.out)
                      have K0 := HKL.out _ HFd2.out HAd.out
                      go_region_held3 (fun w' => w'.cell? ⟨L.hb, 14, none⟩ = some (.int .i64 h.g.words) ∧ w'.cell? ⟨L.hb, 15, none⟩ = some (.int .i64 h.g.rw) ∧ w'.cell? ⟨L.hb, 16, none⟩ = some (.int .i64 h.g.cw) ∧ w'.cell? ⟨L.hb, 17, none⟩ = some (.int .i64 h.g.regions) ∧ w'.cell? ⟨L.hb, 18, none⟩ = some (.int .i64 h.g.cards) ∧ w'.cell? ⟨L.hb, 19, none⟩ = some (.int .i64 h.g.max) ∧ w'.cell? ⟨gb, go + i, none⟩ = some (.int .i64 (z : Int)))
                        (first | with_reducible exact K0 | go_keep)
                        (first | (go_at_call 31; refine (HFs.out _ HAd.out).mono ?_; rintro e w12 ⟨rfl, hf⟩; replace HAd := hide (HAd.out.fr0 Lives.none hf); replace HFd2 := hide (HFd2.out.trans_same hf); have K0 := HKL.out _ HFd2.out HAd.out; clear hf))
                      all_goals
                        obtain ⟨k14, k15, k16, k17, k18, k19, -⟩ := K0
                        have NH := (HCe.out _ _ HAd.out).lt
                        go_wp2_with fail
                        refine (HRs.out _ HAd.out).mono ?_
                        rintro e w13 ⟨rfl, hf⟩
                        have HAe := hide (HAd.out.fr0 Lives.none hf)
                        have HFe := hide (HF9.out.trans_same (HFd2.out.trans_same hf))
                        clear hf k14 k15 k16 k17 k18 k19 NH
                        go_wp2_with fail
                        go_roundw
                        case rel => exact ⟨i + 1, by go_num, by omega, HFe.out, HAe.out⟩
                        case measure => simp [intOf]; omega
                    · have he1 : (eV == 0) = false := by simpa using he
                      clear hA
                      go_wp2_with fail
                      go_roundw
                      case rel => exact ⟨a + 1, by go_num, HLA.out, HA.out⟩
                      case measure => have := HLA.out; simp [intOf]; omega
                  · have hli1 : ¬ (i : Int) < (ln : Int) := by omega
                    clear hA
                    go_wp2_with fail
                    go_roundw
                    case rel => exact ⟨a + 1, by go_num, HLA.out, HA.out⟩
                    case measure => have := HLA.out; simp [intOf]; omega
              · obtain rfl : a = h.R := by omega
                replace HA := hide hA
                clear hA hlt HLp HFst HRgn HAll HK6 HLt
                have HOf : Hid (∀ w', HZ w2 w' { L with m := mm } X h1 x1 s sh E1 → Calls Tryz.prog 33 #[.pointer (some ⟨X.ob, 0, none⟩), .int .i64 (k0 : Int)] w' fun e w'' => ∃ cv fv : Int, e = .returned (.tuple #[.int .i64 cv, .int .i64 fv]) ∧ (eV = 0 → cv = 0 ∧ fv = 5) ∧ HZ w2 w'' { L with m := mm } X h1 x1 s sh E1) := fun w' q => by
                  have hk0 : k0 < h1.R * x1.per := by
                    rw [HFd.out.R, HFd.out.per, HXP.out.1, HB0.out.2.2.2.1]
                    have := mul_add_le (W := x.per) hIn
                    have := HDm.out.p1
                    omega
                  refine (q.ofirst Lives.none hk0).mono ?_
                  rintro e w'' ⟨rfl, hq⟩
                  refine ⟨_, _, rfl, fun he => ?_, hq⟩
                  have := HFd.out.O he
                  rw [HXP.out.1, ← HB0.out.2.2.2.1] at this
                  rw [this]
                  exact ⟨rfl, rfl⟩
                have HK7 : Hid (∀ w', HZ w2 w' { L with m := mm } X h1 x1 s sh E1 → (w'.cell? ⟨L.hb, 14, none⟩ = some (.int .i64 h.g.words) ∧ w'.cell? ⟨L.hb, 15, none⟩ = some (.int .i64 h.g.rw) ∧ w'.cell? ⟨L.hb, 16, none⟩ = some (.int .i64 h.g.cw) ∧ w'.cell? ⟨L.hb, 17, none⟩ = some (.int .i64 h.g.regions) ∧ w'.cell? ⟨L.hb, 18, none⟩ = some (.int .i64 h.g.cards) ∧ w'.cell? ⟨L.hb, 19, none⟩ = some (.int .i64 h.g.max) ∧ w'.cell? ⟨L.hb, 22, none⟩ = some (.pointer (some ⟨X.ob, 0, none⟩)))) := fun w' q => by
                  obtain ⟨a1, a2, a3, a4, a5, a6, a7, a8, a9, a10, a11, a12, a13, a14, a15, a16⟩ := HCe.out _ _ q
                  exact ⟨a1, a2, a3, a4, a5, a6, a9⟩
                go_upto_region 30 with fail
                have HAd := hide (HA.out.fr0 Lives.none (Fr.refl _ _).drew)
                have K0 := HK7.out _ HAd.out
                go_cut [21, 22] from 190 to 202 (fun cv fv wc => ∃ (cvv fvv : Int) (w12 : World), cv = .int .i64 cvv ∧ fv = .int .i64 fvv ∧ (eV = 0 → cvv = 0 ∧ fvv = 5) ∧ w12 = wc ∧ HZ w2 w12 { L with m := mm } X h1 x1 s sh E1)
                case first =>
                  go_region_held3 (fun w' => w'.cell? ⟨L.hb, 14, none⟩ = some (.int .i64 h.g.words) ∧ w'.cell? ⟨L.hb, 15, none⟩ = some (.int .i64 h.g.rw) ∧ w'.cell? ⟨L.hb, 16, none⟩ = some (.int .i64 h.g.cw) ∧ w'.cell? ⟨L.hb, 17, none⟩ = some (.int .i64 h.g.regions) ∧ w'.cell? ⟨L.hb, 18, none⟩ = some (.int .i64 h.g.cards) ∧ w'.cell? ⟨L.hb, 19, none⟩ = some (.int .i64 h.g.max) ∧ w'.cell? ⟨L.hb, 22, none⟩ = some (.pointer (some ⟨X.ob, 0, none⟩)))
                    (first | with_reducible exact K0 | go_keep)
                    (first | (go_at_call 26; refine (HCd1.out _ HAd.out).mono ?_; rintro e w12 ⟨rfl, hA⟩; replace HAd := hide hA; have K0 := HK7.out _ hA; clear hA) | (go_at_call 33; refine (HOf.out _ HAd.out).mono ?_; rintro e w13 ⟨cv, fv, rfl, hcf, hA⟩; have HAe := hide hA; have HCF := hide hcf; have K0 := HK7.out _ hA; clear hA hcf))
                  all_goals
                    clear K0
                    go_wp2_with fail
                    go_meet
                    case rel => exact ⟨_, _, _, rfl, rfl, HCF.out, rfl, HAe.out⟩
                case rest =>
                  obtain ⟨cvv, fvv, w12, rfl, rfl, hcf, rfl, hA⟩ := hcut
                  replace HA := hide hA
                  have HCF := hide hcf
                  clear hA hcf HAd K0 HOf HK7
                  go_upto_region 31 with fail
                  go_cut [212] from 203 to 212 (fun v wc => v = .bool false ∧ wc = w12)
                  case first =>
                    rcases HW1.out with ⟨rfl, -⟩ | ⟨rfl, -⟩
                    · go_wp2_with fail
                      go_meet
                      case rel => exact ⟨rfl, rfl⟩
                    · obtain ⟨rfl, rfl⟩ := HCF.out rfl
                      go_wp2_with fail
                      go_meet
                      case rel => exact ⟨rfl, rfl⟩
                  case rest =>
                    obtain ⟨rfl, hwc⟩ := hcut
                    subst hwc
                    have c21 := (HCe.out _ _ HA.out).c21
                    have NH := (HCe.out _ _ HA.out).lt
                    rcases free_ways h1.s h1.R with ⟨j, hj⟩ | hnone
                    · have HCl := hide (HA.out.claim Lives.none (y := 1) (.inl rfl) hj)
                      have hjR : j < h.R := by have := hj.1; rwa [HFd.out.R] at this
                      obtain ⟨h2, hh2⟩ : ∃ h2, h2 = ({ h1 with s := put1 h1.s j 1 } : HS) := ⟨_, rfl⟩
                      rw [← hh2] at HCl
                      have HG2 : Hid (h2.g = h.g ∧ h2.T = h.T ∧ h2.W = h.W ∧ h2.R = h.R ∧ h2.s j = 1 ∧ (h2.bx = fun _ => 0) ∧ h2.be = fun _ => 0) := by
                        rw [hh2]
                        exact ⟨HFd.out.g, HFd.out.T, HFd.out.W, HFd.out.R, by show put1 h1.s j 1 j = 1; unfold put1; rw [if_pos rfl], HFd.out.bx.trans HBXE.out.1, HFd.out.be.trans HBXE.out.2⟩
                      clear hh2 hj
                      have HCe2 : Hid (∀ w' t' a b, HZ w2 w' { L with m := mm } X { h2 with t := t', bx := a, be := b } x1 s sh E1 → Hcells w' L X h.g h.T) := fun w' t' a b q => by
                        have := q.hc
                        obtain ⟨a1, a2, a3, a4, a5, a6, a7, a8, a9, a10, a11, a12, a13, a14, a15, a16⟩ := this
                        rw [← HG2.out.1, ← HG2.out.2.1]
                        exact ⟨a1, a2, a3, a4, a5, a6, a7, a8, a9, a10, a11, a12, a13, a14, a15, a16⟩
                      go_wp2_with fail
                      refine HCl.out.mono ?_
                      rintro e w14 ⟨rfl, hA⟩
                      have HA2 := hide hA
                      have k2 := HCe2.out _ h2.t h2.bx h2.be hA
                      obtain ⟨c14, c15, c16, c17, c18, c19, -, -, -, -, -, -, -, -, -, NH⟩ := k2
                      have HBs2 := hide (hA.base_at Lives.none (r := j) (by rw [HG2.out.2.2.2.1]; exact hjR))
                      rw [HG2.out.1, HG2.out.2.2.1] at HBs2
                      have HW0 := HB0.out.2.2.2.2.2.2
                      clear hA HCl c21 HA
                      obtain ⟨f0, hf0⟩ : ∃ f0 : Nat, f0 = j * h.W := ⟨_, rfl⟩
                      rw [← hf0] at HBs2
                      have hfb : f0 + h.W ≤ 4194304 := by
                        have h1 := HB0.out.2.2.1
                        have h2 := HOk.out.base_le hjR
                        omega
                      have HF0 := hide hf0
                      clear hf0
                      go_wp2_with fail
                      refine HBs2.out.mono ?_
                      rintro e w15 ⟨rfl, hA⟩
                      have HA3 := hide hA
                      clear c14 c15 c16 c17 c18 c19 NH HBs2 HA2
                      obtain ⟨c14, c15, c16, c17, c18, c19, -, c21, -, -, -, -, -, -, -, NH⟩ := HCe2.out _ h2.t h2.bx h2.be hA
                      rw [HRw.out] at c15
                      clear hA
                      obtain ⟨l0, hl0, l1, l2, hln⟩ := into14 left (n := h.W) (by omega)
                      have hz8 : ¬ (h.W : Int) = 0 := by omega
                      go_wp2_with fail
                      go_quiet (fail)
                      go_wp2_with fail
                      (try simp only [hl0])
                      clear hl0 l1 l2
                      have HA4 := hide (HA3.out.fr0 Lives.none ((Fr.refl [] w15).drewN nq))
                      clear HA3 c14 c15 c16 c17 c18 c19 c21 NH
                      generalize w15.drewN nq = w16 at *
                      have HAd := hide (HA4.out.fr0 Lives.none (Fr.refl _ _).drew)
                      have HKT : Hid (∀ w' t', HZ w2 w' { L with m := mm } X { h2 with t := t' } x1 s sh E1 → (w'.cell? ⟨L.hb, 15, none⟩ = some (.int .i64 (h.W : Int)) ∧ w'.cell? ⟨L.hb, 21, none⟩ = some (.pointer (some ⟨L.tb, 0, none⟩)))) := fun w' t' q => by
                        obtain ⟨a1, a2, a3, a4, a5, a6, a7, a8, a9, a10, a11, a12, a13, a14, a15, a16⟩ := HCe2.out _ t' h2.bx h2.be q
                        rw [HRw.out] at a2
                        exact ⟨a2, a8⟩
                      have K0 := HKT.out _ h2.t HAd.out
                      have HTp : Hid (∀ w', HZ w2 w' { L with m := mm } X h2 x1 s sh E1 → Calls Tryz.prog 35 #[.pointer (some ⟨L.tb, 0, none⟩), .int .i64 (j : Int), .int .i64 ((f0 : Int) + (h.W : Int))] w' fun e w'' => e = .returned (.int .i64 0) ∧ HZ w2 w'' { L with m := mm } X { h2 with t := put1 h2.t j ((f0 : Int) + (h.W : Int)) } x1 s sh E1) := fun w' q =>
                        q.setTop Lives.none (r := j) (by rw [HG2.out.2.2.2.1]; exact hjR) (by rw [HG2.out.2.2.2.2.1]; exact .inl rfl) (by rw [HG2.out.2.2.1, ← HF0.out]; omega) (by rw [HG2.out.2.2.1, ← HF0.out]; omega)
                      go_cut [] from 253 to 265 (fun wc => ∃ w17, w17 = wc ∧ HZ w2 w17 { L with m := mm } X { h2 with t := put1 h2.t j ((f0 : Int) + (h.W : Int)) } x1 s sh E1)
                      case first =>
                        go_region_held3 (fun w' => w'.cell? ⟨L.hb, 15, none⟩ = some (.int .i64 (h.W : Int)) ∧ w'.cell? ⟨L.hb, 21, none⟩ = some (.pointer (some ⟨L.tb, 0, none⟩)))
                          (first | with_reducible exact K0 | go_keep)
                          (first | (go_at_call 35; (try rw [IntWalk.i64_in ((f0 : Int) + (h.W : Int)) (by omega)]); refine (HTp.out _ HAd.out).mono ?_; rintro e w17 ⟨rfl, hA⟩; have HAe := hide hA; have K0 := HKT.out _ _ hA; clear hA))
                        all_goals
                          clear K0
                          go_wp2_with fail
                          go_meet
                          case rel => exact ⟨_, rfl, HAe.out⟩
                      case rest =>
                        obtain ⟨w17, rfl, hA⟩ := hcut
                        have HA5 := hide hA
                        clear hA HAd K0 HTp HA4
                        have c15 := (HKT.out _ _ HA5.out).1
                        have NH := (HCe2.out _ _ h2.bx h2.be HA5.out).lt
                        have e1 : IntKind.i64.wrap ((f0 : Int) + (l0 : Int)) = ((f0 + l0 : Nat) : Int) := by rw [IntWalk.i64_in _ ⟨by omega, by omega⟩]; omega
                        have e2 : IntKind.i64.wrap ((f0 : Int) + (h.W : Int)) = ((f0 + h.W : Nat) : Int) := by rw [IntWalk.i64_in _ ⟨by omega, by omega⟩]; omega
                        have HBn : Hid (∀ w', Calls Tryz.prog 36 #[.int .i64 ((f0 + l0 : Nat) : Int), .int .i64 ((f0 + h.W : Nat) : Int)] w' fun e w'' => e = .returned (.tuple #[.agg #[.int .i64 ((f0 + l0 : Nat) : Int), .int .i64 ((f0 + h.W : Nat) : Int)], .int .i64 0]) ∧ Fr [] w' w'') := fun w' => by
                          have := bnew_any ((f0 + l0 : Nat) : Int) ((f0 + h.W : Nat) : Int) w'
                          unfold nuV nuX nuY nuE at this
                          rw [if_pos (by omega), if_pos (by omega), if_pos (by omega)] at this
                          exact this
                        have HFL : Hid (f0 + l0 < f0 + h.W ∧ f0 + h.W ≤ 4194304) := ⟨by omega, hfb⟩
                        obtain ⟨fa, hfa⟩ : ∃ fa : Nat, fa = f0 + l0 := ⟨_, rfl⟩
                        obtain ⟨fb, hfb2⟩ : ∃ fb : Nat, fb = f0 + h.W := ⟨_, rfl⟩
                        rw [← hfa, ← hfb2] at HBn HFL
                        rw [← hfa] at e1
                        rw [← hfb2] at e2
                        have HFA := hide (And.intro hfa hfb2)
                        clear hfa hfb2
                        go_wp2_with fail
                        refine (HBn.out _).mono ?_
                        rintro e w18 ⟨rfl, hf⟩
                        have HA6 := hide ((HA5.out.fr0 Lives.none hf).alloc Lives.none 84 #[.int .i64 (fa : Int), .int .i64 (fb : Int)])
                        have HE1 := hide e1
                        clear hf c15 NH HA5 e1 e2
                        go_wp2_with fail
                        have k6 := HCe2.out _ _ h2.bx h2.be (HA6.out.sub (E' := E1) (fun q hq => List.mem_cons_of_mem _ hq))
                        have c28 := k6.c28
                        have NH := k6.lt
                        have hb0 := HA6.out.blk (List.mem_cons_self ..)
                        have y0 : (w18.alloc (.cells #[.int .i64 (fa : Int), .int .i64 (fb : Int)] 84)).cell? ⟨w18.heap.size, 0, none⟩ = some (.int .i64 (fa : Int)) := hb0.cell 0
                        have y1 : (w18.alloc (.cells #[.int .i64 (fa : Int), .int .i64 (fb : Int)] 84)).cell? ⟨w18.heap.size, 1, none⟩ = some (.int .i64 (fb : Int)) := hb0.cell 1
                        have hth : 0 < h2.T := by rw [HG2.out.2.1]; exact HT1'.out
                        have hth2 : (0 : Int) < (h.T : Int) := by have := HT1'.out; omega
                        have xq0 : (w18.alloc (.cells #[.int .i64 (fa : Int), .int .i64 (fb : Int)] 84)).cell? ⟨L.bb, 0, none⟩ = some (.int .i64 (h2.bx 0)) := (HA6.out.bufs hth).1
                        have xq1 : (w18.alloc (.cells #[.int .i64 (fa : Int), .int .i64 (fb : Int)] 84)).cell? ⟨L.bb, 1, none⟩ = some (.int .i64 (h2.be 0)) := (HA6.out.bufs hth).2
                        have hth3 : 0 < h.T := HT1'.out
                        have z0 : (w18.alloc (.cells #[.int .i64 (fa : Int), .int .i64 (fb : Int)] 84)).frozen? ⟨L.bb, 0, none⟩ = false := HA6.out.hr.buf.frozen 0
                        have z1 : (w18.alloc (.cells #[.int .i64 (fa : Int), .int .i64 (fb : Int)] 84)).frozen? ⟨L.bb, 1, none⟩ = false := HA6.out.hr.buf.frozen 1
                        have NB : L.bb < (w18.alloc (.cells #[.int .i64 (fa : Int), .int .i64 (fb : Int)] 84)).heap.size := HA6.out.hr.buf.lt
                        have HBf : Hid (∀ w', w' = (((w18.alloc (.cells #[.int .i64 (fa : Int), .int .i64 (fb : Int)] 84)).drew.setCell ⟨L.bb, 0, none⟩ (.int .i64 (fa : Int))).setCell ⟨L.bb, 1, none⟩ (.int .i64 (fb : Int))) → HZ w2 w' { L with m := mm } X { h2 with t := put1 h2.t j ((f0 : Int) + (h.W : Int)), bx := put1 h2.bx 0 (fa : Int), be := put1 h2.be 0 (fb : Int) } x1 s sh E1) := fun w' hw => by
                          have q := HA6.out.sub (E' := E1) (fun q hq => List.mem_cons_of_mem _ hq)
                          have hbb := ((q.hr.buf.drew).put 0 (.int .i64 (fa : Int))).put 1 (.int .i64 (fb : Int))
                          have e0 := bufV_set0 h2.T h2.bx h2.be (i := 0) (fa : Int) hth
                          have e1 := bufV_set1 h2.T (put1 h2.bx 0 (fa : Int)) h2.be (i := 0) (fb : Int) hth
                          rw [hw]
                          refine q.buffer Lives.none (bx := put1 h2.bx 0 (fa : Int)) (be := put1 h2.be 0 (fb : Int)) ((((Fr.refl _ _).drew).setCell (p := ⟨L.bb, 0, none⟩) (.inl (by simp)) _).setCell (p := ⟨L.bb, 1, none⟩) (.inl (by simp)) _) ?_ (fun i hi => ?_)
                          · have hbb2 := hbb
                            rw [show (0 : Nat) * 2 = 0 from rfl] at e0 e1
                            rw [show bufV (HS.T { h2 with t := put1 h2.t j ((f0 : Int) + (h.W : Int)) }) (HS.bx { h2 with t := put1 h2.t j ((f0 : Int) + (h.W : Int)) }) (HS.be { h2 with t := put1 h2.t j ((f0 : Int) + (h.W : Int)) }) = bufV h2.T h2.bx h2.be from rfl, e0] at hbb2
                            rw [show (1 : Nat) = 0 + 1 from rfl, e1] at hbb2
                            exact hbb2
                          · have hg := HG2.out
                            have hfl := HFL.out
                            have hbx : h2.bx i = 0 := congrFun hg.2.2.2.2.2.1 i
                            have hbe : h2.be i = 0 := congrFun hg.2.2.2.2.2.2 i
                            unfold put1
                            by_cases e : i = 0
                            · rw [if_pos e, if_pos e]; omega
                            · rw [if_neg e, if_neg e, hbx, hbe]; omega
                        clear hb0 k6
                        go_upto_region 42 with fail
                        refine region_tail 6 (by kernel_rfl) (by kernel_rfl) ?_
                        repeat still_step
                        refine wpStill_nil ?_
                        go_wp2_with fail
                        have q7 := HBf.out _ rfl
                        obtain ⟨h3, hh3⟩ : ∃ h3, h3 = ({ h2 with t := put1 h2.t j ((f0 : Int) + (h.W : Int)), bx := put1 h2.bx 0 (fa : Int), be := put1 h2.be 0 (fb : Int) } : HS) := ⟨_, rfl⟩
                        rw [← hh3] at q7
                        have HH3 : Hid (h3.T = h.T ∧ h3.W = h.W ∧ h3.R = h.R ∧ h3.s j = 1 ∧ h3.bx 0 = (fa : Int) ∧ h3.be 0 = (fb : Int) ∧ (∀ i, i ≠ 0 → h3.bx i = 0 ∧ h3.be i = 0) ∧ h3.g = h.g) := by
                          have hg := HG2.out
                          rw [hh3]
                          refine ⟨hg.2.1, hg.2.2.1, hg.2.2.2.1, hg.2.2.2.2.1, ?_, ?_, fun i hi => ?_, hg.1⟩
                          · exact (show put1 h2.bx 0 (fa : Int) 0 = (fa : Int) from by unfold put1; rw [if_pos rfl])
                          · exact (show put1 h2.be 0 (fb : Int) 0 = (fb : Int) from by unfold put1; rw [if_pos rfl])
                          · exact ⟨(if_neg hi).trans (congrFun hg.2.2.2.2.2.1 i), (if_neg hi).trans (congrFun hg.2.2.2.2.2.2 i)⟩
                        have hBI : h3.BufIn := fun i hi hlt => by
                          obtain ⟨g1, g2, g3, g4, g5, g6, g7, g8⟩ := HH3.out
                          by_cases e : i = 0
                          · subst e
                            have hfa := HFA.out
                            have hf0 := HF0.out
                            have hfl := HFL.out
                            exact ⟨j, by rw [g3]; exact hjR, by rw [g4]; exact .inl rfl, by rw [g5, g2]; omega, by rw [g6, g2]; omega⟩
                          · obtain ⟨e1, e2⟩ := g7 i e
                            omega
                        have hret : h3.retT h3.T j = (fa : Int) := by
                          obtain ⟨g1, g2, g3, g4, g5, g6, g7, g8⟩ := HH3.out
                          have hfl := HFL.out
                          have hfa := HFA.out
                          have hf0 := HF0.out
                          have hT0 : 0 < h3.T := by rw [g1]; exact HT1'.out
                          have hreg : h3.g.regionOf (h3.bx 0) = (j : Int) := q7.ok.reg (by rw [g3]; exact hjR) (by rw [g5, g2]; omega) (by rw [g5, g2]; omega)
                          have hm := mem_leftL (h := h3) (i := 0) (by rw [g5, g6]; omega) hreg hT0
                          have hne : h3.leftL (j : Int) h3.T ≠ [] := fun e0 => by rw [e0] at hm; cases hm
                          unfold HS.retT
                          rw [if_neg hne]
                          obtain ⟨i, i1, i2, i3, i4⟩ := leftL_memR (minL_memR hne)
                          rw [i2]
                          by_cases e : i = 0
                          · rw [e]; exact g5
                          · obtain ⟨e1, e2⟩ := g7 i e
                            omega
                        have HRet := hide (hretire_any Lives.none q7 hBI)
                        obtain ⟨P8, hP8⟩ : ∃ P : World → Prop, P = fun w => HZ w2 w { L with m := mm } X { h3 with t := h3.retT h3.T, bx := zap h3.bx h3.T, be := zap h3.be h3.T } x1 s sh E1 := ⟨_, rfl⟩
                        have HRt8 : Hid (Calls Tryz.prog 37 #[.pointer (some ⟨L.hb, 0, none⟩)] (((w18.alloc (.cells #[.int .i64 (fa : Int), .int .i64 (fb : Int)] 84)).drew.setCell ⟨L.bb, 0, none⟩ (.int .i64 (fa : Int))).setCell ⟨L.bb, 1, none⟩ (.int .i64 (fb : Int))) fun e w' => e = .returned (.tuple #[]) ∧ P8 w') := by
                          rw [hP8]
                          exact HRet.out
                        have HC8 : Hid (∀ w', P8 w' → w'.cell? ⟨L.hb, 28, none⟩ = some (.slice (some ⟨L.bb, 0, none⟩) h.T h.T) ∧ w'.cell? ⟨L.hb, 21, none⟩ = some (.pointer (some ⟨L.tb, 0, none⟩)) ∧ L.hb < w'.heap.size ∧ Fr [] w2 w') := fun w' q => by
                          rw [hP8] at q
                          have k1 := q.hc
                          have k2 := k1.c28
                          rw [show HS.T { h3 with t := h3.retT h3.T, bx := zap h3.bx h3.T, be := zap h3.be h3.T } = h.T from HH3.out.1] at k2
                          exact ⟨k2, k1.c21, k1.lt, q.fr⟩
                        have HLf8 : Hid (∀ w', P8 w' → Calls Tryz.prog 38 #[.pointer (some ⟨L.bb, 0, none⟩)] w' fun e w'' => e = .returned (.int .i64 0) ∧ P8 w'') := fun w' q => by
                          rw [hP8] at q ⊢
                          have := q.bleft Lives.none (i := 0) (by show 0 < h3.T; rw [HH3.out.1]; exact HT1'.out)
                          have e0 : zap h3.be h3.T 0 - zap h3.bx h3.T 0 = 0 := by
                            unfold zap
                            rw [if_pos (by rw [HH3.out.1]; exact HT1'.out), if_pos (by rw [HH3.out.1]; exact HT1'.out)]
                            rfl
                          rw [show (HS.be { h3 with t := h3.retT h3.T, bx := zap h3.bx h3.T, be := zap h3.be h3.T } 0) - (HS.bx { h3 with t := h3.retT h3.T, bx := zap h3.bx h3.T, be := zap h3.be h3.T } 0) = 0 from e0] at this
                          exact this
                        have HTp8 : Hid (∀ w', P8 w' → Calls Tryz.prog 39 #[.pointer (some ⟨L.tb, 0, none⟩), .int .i64 (j : Int)] w' fun e w'' => e = .returned (.int .i64 (fa : Int)) ∧ P8 w'') := fun w' q => by
                          rw [hP8] at q ⊢
                          have := q.top Lives.none (r := j) (by show j < h3.R; rw [HH3.out.2.2.1]; exact hjR)
                          rw [show HS.t { h3 with t := h3.retT h3.T, bx := zap h3.bx h3.T, be := zap h3.be h3.T } j = (fa : Int) from hret] at this
                          exact this
                        clear q7 hBI hret HRet hP8 hh3 HBf c28 NH y0 y1 xq0 xq1 z0 z1 NB hth
                        refine HRt8.out.mono ?_
                        rintro e w20 ⟨rfl, q8⟩
                        obtain ⟨c28, c21, NH, -⟩ := HC8.out _ q8
                        have HQ8 := hide q8
                        clear q8
                        have e1 := HE1.out
                        go_wp2_with (first | (go_at_call 38; refine (HLf8.out _ HQ8.out).mono ?_; rintro e w21 ⟨rfl, q9⟩; clear c28 c21 NH; obtain ⟨c28, c21, NH, -⟩ := HC8.out _ q9; replace HQ8 := hide q9; clear q9) | (go_at_call 39; refine (HTp8.out _ HQ8.out).mono ?_; rintro e w22 ⟨rfl, q9⟩; clear c28 c21 NH; replace HQ8 := hide q9; clear q9))
                        have HFin := hide (HFW.out _ (HC8.out _ HQ8.out).2.2.2)
                        go_ret
                        exact ⟨rfl, HFin.out⟩
                    · have HCl := hide (HA.out.claim_no Lives.none (y := 1) (.inl rfl) hnone)
                      go_wp2_with fail
                      refine HCl.out.mono ?_
                      rintro e w14 ⟨rfl, hA⟩
                      have HFin := hide (HFW.out _ hA.fr)
                      clear hA
                      go_wp2_with fail
                      go_ret
                      exact ⟨rfl, HFin.out⟩
    · have HFE := hide (HF2.out.trans_same hf)
      clear hf
      go_wp2_with fail
      go_ret
      exact ⟨rfl, HFE.out.alloc _⟩
end HeapFrees
end Go.Proofs.YtapglokadaibnaaGreatDoor
