/- Several texts joined (pack.py): Ya Yi L14Sh. -/
import Derived.Test.YtapglokadaibnaaGreatDoorSWg
import Derived.Test.YtapglokadaibnaaGreatDoorSL14Br
import Derived.Test.YtapglokadaibnaaGreatDoorSL14ShP
import Derived.Deep.CutRange
import Derived.Deep.RegionHeld3
import Derived.WalkKit
namespace Go.Proofs.YtapglokadaibnaaGreatDoor
set_option linter.unusedVariables false
set_option linter.unusedSimpArgs false
set_option maxRecDepth 100000
open Go.RowKit Go.Gl

/-- Something beside the heap that lives in the blocks D. -/
structure Lives (D : Nat → Prop) (Q : World → Prop) : Prop where
  stay : ∀ w w' F, Q w → Fr F w w' → (∀ b, b ∈ F → ¬ D b) → Q w'
  lt : ∀ w, Q w → ∀ b, D b → b < w.heap.size
/-- The heap, all of it new since W; blocks E that it does not own, known whole; and what lives in the blocks D. -/
def HM (W w : World) (L : HL) (X : HX) (h : HS) (x : HT) (s k : Nat) (E : Blks) (D : Nat → Prop) (Q : World → Prop) : Prop :=
  ∃ own, HpAt W w L X own h x s k ∧ (∀ q, q ∈ E → Blk w q.1 q.2.1 q.2.2 ∧ own q.1 = 0 ∧ W.heap.size ≤ q.1 ∧ ¬ D q.1) ∧ (∀ b, D b → own b = 0 ∧ W.heap.size ≤ b) ∧ Q w
section
variable {W w w' : World} {L L' : HL} {X : HX} {tg tg' : Tg} {own own' : Nat → Nat} {FS FS' : Nat → List Nat} {h h' : HS} {x x' : HT} {s k : Nat} {E : Blks} {F : List Nat} {D : Nat → Prop} {Q : World → Prop}
theorem HE.toM (H : HE W w L X h x s k E) : HM W w L X h x s k E (fun _ => False) (fun _ => True) := by
  obtain ⟨own, h1, h2⟩ := H
  exact ⟨own, h1, fun q hq => ⟨(h2 q hq).1, (h2 q hq).2.1, (h2 q hq).2.2, fun h => h⟩, fun b h => h.elim, trivial⟩
theorem HM.toE (H : HM W w L X h x s k E D Q) : HE W w L X h x s k E := by
  obtain ⟨own, h1, h2, _⟩ := H
  exact ⟨own, h1, fun q hq => ⟨(h2 q hq).1, (h2 q hq).2.1, (h2 q hq).2.2.1⟩⟩
theorem HM.hr (H : HM W w L X h x s k E D Q) : Hr w L h s k := H.toE.hr
theorem HM.cells (H : HM W w L X h x s k E D Q) : w.cell? ⟨L.hb, 20, none⟩ = some (.pointer (some ⟨L.ab, 0, none⟩)) ∧ w.cell? ⟨L.hb, 21, none⟩ = some (.pointer (some ⟨L.tb, 0, none⟩)) ∧ w.cell? ⟨L.hb, 22, none⟩ = some (.pointer (some ⟨X.ob, 0, none⟩)) ∧
    w.cell? ⟨L.hb, 23, none⟩ = some (.pointer (some ⟨X.cb, 0, none⟩)) ∧ w.cell? ⟨L.hb, 24, none⟩ = some (.pointer (some ⟨X.qb, 0, none⟩)) ∧ w.cell? ⟨L.hb, 25, none⟩ = some (.pointer (some ⟨X.zb, 0, none⟩)) ∧ w.cell? ⟨L.hb, 26, none⟩ = some (.pointer (some ⟨X.mb, 0, none⟩)) ∧
    w.cell? ⟨L.hb, 27, none⟩ = some (.slice L.rA h.T L.rc) ∧ w.cell? ⟨L.hb, 28, none⟩ = some (.slice (some ⟨L.bb, 0, none⟩) h.T h.T) := by
  obtain ⟨own, ⟨tg, FS, H, _⟩, _⟩ := H
  have c0 := H.st.cell 20
  have c1 := H.st.cell 21
  have c2 := H.st.cell 22
  have c3 := H.st.cell 23
  have c4 := H.st.cell 24
  have c5 := H.st.cell 25
  have c6 := H.st.cell 26
  have c7 := H.st.cell 27
  have c8 := H.st.cell 28
  refine ⟨c0, c1, ?_, ?_, ?_, ?_, ?_, c7, c8⟩
  · rw [← H.vo]; exact c2
  · rw [← H.vc]; exact c3
  · rw [← H.vq]; exact c4
  · rw [← H.vs]; exact c5
  · rw [← H.vm]; exact c6
/-- The cells of a heap's struct. -/
structure Hcells (w : World) (L : HL) (X : HX) (g : Geo) (T : Nat) : Prop where
  c14 : w.cell? ⟨L.hb, 14, none⟩ = some (.int .i64 g.words)
  c15 : w.cell? ⟨L.hb, 15, none⟩ = some (.int .i64 g.rw)
  c16 : w.cell? ⟨L.hb, 16, none⟩ = some (.int .i64 g.cw)
  c17 : w.cell? ⟨L.hb, 17, none⟩ = some (.int .i64 g.regions)
  c18 : w.cell? ⟨L.hb, 18, none⟩ = some (.int .i64 g.cards)
  c19 : w.cell? ⟨L.hb, 19, none⟩ = some (.int .i64 g.max)
  c20 : w.cell? ⟨L.hb, 20, none⟩ = some (.pointer (some ⟨L.ab, 0, none⟩))
  c21 : w.cell? ⟨L.hb, 21, none⟩ = some (.pointer (some ⟨L.tb, 0, none⟩))
  c22 : w.cell? ⟨L.hb, 22, none⟩ = some (.pointer (some ⟨X.ob, 0, none⟩))
  c23 : w.cell? ⟨L.hb, 23, none⟩ = some (.pointer (some ⟨X.cb, 0, none⟩))
  c24 : w.cell? ⟨L.hb, 24, none⟩ = some (.pointer (some ⟨X.qb, 0, none⟩))
  c25 : w.cell? ⟨L.hb, 25, none⟩ = some (.pointer (some ⟨X.zb, 0, none⟩))
  c26 : w.cell? ⟨L.hb, 26, none⟩ = some (.pointer (some ⟨X.mb, 0, none⟩))
  c27 : w.cell? ⟨L.hb, 27, none⟩ = some (.slice L.rA T L.rc)
  c28 : w.cell? ⟨L.hb, 28, none⟩ = some (.slice (some ⟨L.bb, 0, none⟩) T T)
  lt : L.hb < w.heap.size
theorem HM.hc (H : HM W w L X h x s k E D Q) : Hcells w L X h.g h.T := by
  obtain ⟨a0, a1, a2, a3, a4, a5⟩ := H.hr.geo
  obtain ⟨b0, b1, b2, b3, b4, b5, b6, b7, b8⟩ := H.cells
  exact ⟨a0, a1, a2, a3, a4, a5, b0, b1, b2, b3, b4, b5, b6, b7, b8, lt_of_cell b0⟩
end
end Go.Proofs.YtapglokadaibnaaGreatDoor
/- Package heap: Free. -/
namespace Go.Proofs.YtapglokadaibnaaGreatDoor
set_option linter.unusedVariables false
set_option linter.unusedSimpArgs false
set_option maxRecDepth 100000
open Go.RowKit Go.Gl

/-- What Free leaves of a region that was not free. -/
def FreeP (W : World) (L : HL) (X : HX) (h : HS) (x : HT) (s k : Nat) (E : Blks) (D : Nat → Prop) (Q : World → Prop) (r : Nat) (e : Ending) (w' : World) : Prop :=
  e = .returned (.int .i64 0) ∧ ∃ C' M', (∀ j : Nat, wbit M' j = if r * h.W ≤ j ∧ j < r * h.W + h.W then false else wbit x.M j) ∧ (∀ j : Nat, wbit C' j = if r * x.per ≤ j ∧ j < r * x.per + x.per then false else wbit x.C j) ∧
      HM W w' { L with m := put1 L.m r ((r * h.W : Nat) : Int) } X { h with s := put1 h.s r 0, t := put1 h.t r ((r * h.W : Nat) : Int) } { x with O := put2 x.O (r * x.per) (r * x.per + x.per) (fun _ => 0), σ := (x.σ.clear r).scrub x.per r, M := M', C := C' } s k E D Q
section
variable {W w w' : World} {L : HL} {X : HX} {h : HS} {x : HT} {s k : Nat} {E : Blks} {D : Nat → Prop} {Q : World → Prop}
end
end Go.Proofs.YtapglokadaibnaaGreatDoor
/- A heap's buffers: one of a row, looked at, taken from, dropped, put in its place; Retire. -/
namespace Go.Proofs.YtapglokadaibnaaGreatDoor
set_option linter.unusedVariables false
set_option linter.unusedSimpArgs false
set_option maxRecDepth 100000
open Go.RowKit Go.Gl

section
variable {W w w' : World} {L : HL} {X : HX} {tg : Tg} {own : Nat → Nat} {FS : Nat → List Nat} {h : HS} {x : HT} {s k : Nat} {E : Blks} {F : List Nat} {D : Nat → Prop} {Q : World → Prop}
end
end Go.Proofs.YtapglokadaibnaaGreatDoor
/- Package heap: Retire. -/
namespace Go.Proofs.YtapglokadaibnaaGreatDoor
set_option linter.unusedVariables false
set_option linter.unusedSimpArgs false
set_option maxRecDepth 100000
open Go.RowKit Go.Gl

/-- What buffers have left lies within a region that is filled word by word. -/
def HS.BufIn (h : HS) : Prop := ∀ i, i < h.T → h.bx i < h.be i → ∃ r, r < h.R ∧ Filled (h.s r) ∧ ((r * h.W : Nat) : Int) ≤ h.bx i ∧ h.be i ≤ ((r * h.W + h.W : Nat) : Int)
/-- The Tops when the first j threads' buffers have been looked at. -/
def HS.retT (h : HS) (j : Nat) : Nat → Int := fun r => if h.leftL (r : Int) j = [] then h.t r else HS.minL (h.leftL (r : Int) h.T)
def zap (f : Nat → Int) (j : Nat) : Nat → Int := fun i => if i < j then 0 else f i
section
variable {W w w' : World} {L : HL} {X : HX} {h : HS} {x : HT} {s k : Nat} {E : Blks} {D : Nat → Prop} {Q : World → Prop}
end
end Go.Proofs.YtapglokadaibnaaGreatDoor
namespace Go.Proofs.YtapglokadaibnaaGreatDoor
set_option linter.unusedVariables false
set_option linter.unusedSimpArgs false
set_option maxRecDepth 100000
open Go.RowKit Go.Gl HS

/-- A plan's graph. -/
def plC (p : Pl) : GS where
  st := stP p p.m 0
  done := fun _ => 0
  N := p.n
  np := fun r => if 1 ≤ r ∧ r ≤ (p.n : Int) then (p.T (r.toNat - 1)).rf.length else 0
  nw := fun r => if 1 ≤ r ∧ r ≤ (p.n : Int) then (p.T (r.toNat - 1)).dt.length else 0
  ref := fun r j => if (1 ≤ r ∧ r ≤ (p.n : Int)) ∧ 0 ≤ j ∧ j < ((p.T (r.toNat - 1)).rf.length : Int) then (p.T (r.toNat - 1)).rf.getD j.toNat 0 else 0
  dat := fun r j => (p.T (r.toNat - 1)).dt.getD j.toNat 0
theorem plC_np (p : Pl) {q : Nat} (hq : q < p.n) : (plC p).np ((q : Int) + 1) = (p.T q).rf.length := by
  have e : ((q : Int) + 1).toNat - 1 = q := by omega
  unfold plC
  simp only [e]
  rw [if_pos (by omega)]
theorem plC_nw (p : Pl) {q : Nat} (hq : q < p.n) : (plC p).nw ((q : Int) + 1) = (p.T q).dt.length := by
  have e : ((q : Int) + 1).toNat - 1 = q := by omega
  unfold plC
  simp only [e]
  rw [if_pos (by omega)]
theorem plC_ref (p : Pl) {q j : Nat} (hq : q < p.n) (hj : j < (p.T q).rf.length) : (plC p).ref ((q : Int) + 1) (j : Int) = (p.T q).rf.getD j 0 := by
  have e : ((q : Int) + 1).toNat - 1 = q := by omega
  unfold plC
  simp only [e, Int.toNat_natCast]
  rw [if_pos ⟨by omega, by omega, by omega⟩]
theorem plC_dat (p : Pl) {q : Nat} (j : Nat) : (plC p).dat ((q : Int) + 1) (j : Int) = (p.T q).dt.getD j 0 := by
  have e : ((q : Int) + 1).toNat - 1 = q := by omega
  unfold plC
  simp only [e, Int.toNat_natCast]
theorem plC_kids (p : Pl) {q : Nat} (hq : q < p.n) : kids (plC p) ((q : Int) + 1) = (p.T q).rf := by
  unfold kids
  rw [plC_np p hq]
  exact (List.map_congr_left fun j hj => plC_ref p hq (List.mem_range.1 hj)).trans (range_getD _)
theorem plC_datas (p : Pl) {q : Nat} (hq : q < p.n) : datas (plC p) ((q : Int) + 1) = (p.T q).dt := by
  unfold datas
  rw [plC_nw p hq]
  exact (List.map_congr_left fun j _ => plC_dat p j).trans (range_getD _)
theorem MV.plC {w : World} {Λ : ML} {T B M : Nat} {p : Pl} (h : MV w Λ T T B M (plG p p.n (stP p p.m 0))) : MV w Λ T T B M (plC p) := by
  refine ⟨h.st, h.obj, fun r h1 h2 => ?_, fun r h1 h2 => ?_, h.row, h.stk⟩
  · obtain ⟨q, rfl⟩ := pos_nat h1
    have h2 : (q : Int) + 1 ≤ (p.n : Int) := h2
    have := h.refs _ h1 h2
    rw [plG_kids] at this
    rw [plC_kids p (by omega)]
    exact this
  · obtain ⟨q, rfl⟩ := pos_nat h1
    have h2 : (q : Int) + 1 ≤ (p.n : Int) := h2
    have := h.data _ h1 h2
    rw [plG_datas] at this
    rw [plC_datas p (by omega)]
    exact this
theorem getD_mem {l : List Int} {j : Nat} (h : j < l.length) : l.getD j 0 ∈ l := by
  rw [List.getD_eq_getElem?_getD, List.getElem?_eq_getElem h]
  exact List.getElem_mem _
theorem stP_all (p : Pl) (t : Nat) : stP p p.m 0 t = if t < p.m then p.H t else [] := by
  unfold stP
  by_cases e : t < p.m
  · rw [if_pos e, if_pos e]
  · rw [if_neg e, if_neg e]
    split <;> simp
theorem plC_ok {p : Pl} (hr : p.Right) {T B : Nat} (hB : p.c.roots = (B : Int)) : GOk T B (plC p) := by
  have hn := hr.n
  have hz : ∀ q, q < p.n → (p.T q).rf.length ≤ 1048576 ∧ (p.T q).dt.length ≤ 1048576 := fun q hq => by
    have h5 := (hr.t q hq).zm
    have h6 : p.c.geo.max ≤ 1048576 := Int.min_le_left _ _
    unfold PT.sz at h5
    omega
  refine ⟨by show p.n ≤ 4096; omega, fun t => ?_, fun t r hm => ?_, fun r j => ?_, fun r => ?_, fun r => ?_⟩
  · show (stP p p.m 0 t).length ≤ B
    rw [stP_all]
    split
    · rename_i ht
      have := hr.hl t ht
      omega
    · simp
  · have hm : r ∈ stP p p.m 0 t := hm
    show 0 ≤ r ∧ r ≤ (p.n : Int)
    rw [stP_all] at hm
    split at hm
    · rename_i ht
      exact hr.hr t ht r hm
    · cases hm
  · show 0 ≤ (plC p).ref r j ∧ (plC p).ref r j ≤ (p.n : Int)
    unfold plC
    simp only
    split
    · rename_i hc
      obtain ⟨q, rfl⟩ := pos_nat hc.1.1
      have e : ((q : Int) + 1).toNat - 1 = q := by omega
      rw [e] at hc ⊢
      exact (hr.t q (by omega)).rf _ (getD_mem (by omega))
    · omega
  · show (plC p).np r ≤ 1048576
    unfold plC
    simp only
    split
    · rename_i hc
      obtain ⟨q, rfl⟩ := pos_nat hc.1
      have e : ((q : Int) + 1).toNat - 1 = q := by omega
      rw [e]
      exact (hz q (by omega)).1
    · omega
  · show (plC p).nw r ≤ 1048576
    unfold plC
    simp only
    split
    · rename_i hc
      obtain ⟨q, rfl⟩ := pos_nat hc.1
      have e : ((q : Int) + 1).toNat - 1 = q := by omega
      rw [e]
      exact (hz q (by omega)).2
    · omega
theorem lnk_nat (A : Nat → Nat) (q : Nat) : lnk A ((q : Int) + 1) = A q + 1 := by
  unfold lnk
  rw [if_neg (by omega), show ((q : Int) + 1).toNat - 1 = q by omega]
/-- The heap's graph is the plan's, a thing's name one more than its place. -/
theorem Laid.named {p : Pl} {A : Nat → Nat} {L : HL} {h : HS} {s k : Nat} (l : Laid p A L h) (ok : h.Ok s k) (hr : p.Right) (hd : ∀ i, i < p.n → ∀ j, 0 ≤ (p.T i).dt.getD j 0) : Named (plC p) h.gs h.T (fun r => (lnk A r : Int)) := by
  have hob := fun i (hi : i < p.n) => l.lay.objAt hi
  have hmem := fun i (hi : i < p.n) => (l.lay.mem ok).2 ⟨i, hi, rfl⟩
  have hnp : ∀ i, i < p.n → h.gs.np ((A i : Int) + 1) = (p.T i).rf.length ∧ h.gs.nw ((A i : Int) + 1) = (p.T i).dt.length := fun i hi => by
    have := gs_np (hob i hi) (hmem i hi)
    refine ⟨this.1, this.2.trans ?_⟩
    unfold PT.sz
    omega
  have hln : ∀ i : Nat, ((lnk A ((i : Int) + 1) : Nat) : Int) = (A i : Int) + 1 := fun i => by rw [lnk_nat]; omega
  refine ⟨by unfold lnk; rw [if_pos rfl]; rfl, fun a b a0 a1 b0 b1 e => ?_, fun t ht => ?_, fun r h1 h2 => ?_, fun r h1 h2 => ?_, fun r h1 h2 j hj => ?_, fun r h1 h2 j hj => ?_⟩
  · have a1 : a ≤ (p.n : Int) := a1
    have b1 : b ≤ (p.n : Int) := b1
    by_cases ea : a = 0
    · by_cases eb : b = 0
      · omega
      · obtain ⟨q, rfl⟩ := pos_nat (r := b) (by omega)
        (try dsimp only at e)
        rw [hln, ea] at e
        unfold lnk at e
        rw [if_pos rfl] at e
        omega
    · obtain ⟨i, rfl⟩ := pos_nat (r := a) (by omega)
      by_cases eb : b = 0
      · (try dsimp only at e)
        rw [hln, eb] at e
        unfold lnk at e
        rw [if_pos rfl] at e
        omega
      · obtain ⟨q, rfl⟩ := pos_nat (r := b) (by omega)
        (try dsimp only at e)
        rw [hln, hln] at e
        have z1 := sz_pos (p.T i)
        have z2 := sz_pos (p.T q)
        have := l.lay.dis i q (by omega) (by omega) (A i) (Nat.le_refl _) (by omega) (by omega) (by omega)
        omega
  · show (if t < h.T then h.st t else []) = (stP p p.m 0 t).map _
    rw [if_pos ht, l.st t ht, stP_all]
    split
    · rfl
    · rfl
  · obtain ⟨q, rfl⟩ := pos_nat h1
    have h2 : (q : Int) + 1 ≤ (p.n : Int) := h2
    try dsimp only
    rw [hln, (hnp q (by omega)).1, plC_np p (by omega)]
  · obtain ⟨q, rfl⟩ := pos_nat h1
    have h2 : (q : Int) + 1 ≤ (p.n : Int) := h2
    try dsimp only
    rw [hln, (hnp q (by omega)).2, plC_nw p (by omega)]
  · obtain ⟨q, rfl⟩ := pos_nat h1
    have h2 : (q : Int) + 1 ≤ (p.n : Int) := h2
    have hq : q < p.n := by omega
    rw [plC_np p hq] at hj
    try dsimp only
    rw [hln, plC_ref p hq hj, ← kids_get h.gs ((A q : Int) + 1) (by rw [(hnp q hq).1]; exact hj), gs_kids (hob q hq) (hmem q hq), l.lay.refs hq]
    simp [hj]
  · obtain ⟨q, rfl⟩ := pos_nat h1
    have h2 : (q : Int) + 1 ≤ (p.n : Int) := h2
    have hq : q < p.n := by omega
    rw [plC_nw p hq] at hj
    try dsimp only
    rw [hln, plC_dat]
    have e1 : h.gs.dat ((A q : Int) + 1) (j : Int) = (datas h.gs ((A q : Int) + 1)).getD j 0 := by
      unfold datas
      rw [(hnp q hq).2]
      simp [hj]
    have e2 : (p.T q).sz - 1 - (p.T q).rf.length = (p.T q).dt.length := by unfold PT.sz; omega
    rw [e1, gs_datas (hob q hq) (hmem q hq), e2]
    have e3 := l.lay.dat q hq j hj
    have e4 := hd q hq j
    simp only [List.getD_eq_getElem?_getD, List.getElem?_map, List.getElem?_range hj, Option.map_some, Option.getD_some]
    rw [e3]
    unfold dta
    rw [List.getD_eq_getElem?_getD] at e4 ⊢
    omega
theorem Laid.soundP {p : Pl} {A : Nat → Nat} {L : HL} {h : HS} {s k : Nat} (l : Laid p A L h) (ok : h.Ok s k) (hr : p.Right) : h.Sound := by
  rw [l.lay.sound ok]
  refine ⟨fun i hi j hj => ?_, fun t ht r hm => ?_⟩
  · have := (hr.t i hi).rf _ (getD_mem hj)
    exact leads_lnk this.1 this.2
  · rw [l.st t ht] at hm
    split at hm
    · rename_i hm2
      obtain ⟨q, q1, q2⟩ := List.mem_map.1 hm
      have := hr.hr t hm2 q q1
      have h3 := leads_lnk (A := A) this.1 this.2
      rw [← q2]
      simpa using h3
    · cases hm
theorem GOk.gin {T B : Nat} {σ : GS} (ok : GOk T B σ) : GIn σ := ⟨ok.mem, ok.ref⟩
/-- So it has the same shape. -/
theorem Laid.shapeP {p : Pl} {A : Nat → Nat} {L : HL} {h : HS} {s k : Nat} (l : Laid p A L h) (ok : h.Ok s k) (hr : p.Right) (hd : ∀ i, i < p.n → ∀ j, 0 ≤ (p.T i).dt.getD j 0) {B : Nat} (hB : p.c.roots = (B : Int)) : shape h.gs h.T = shape (plC p) h.T :=
  (l.named ok hr hd).shape (plC_ok (T := h.T) hr hB).gin (gs_in ok (l.soundP ok hr))
/-- How many things lie in the first r regions. -/
def cntT (A : Nat → Nat) (W n r : Nat) : Nat := ((List.range n).filter fun i => decide (A i / W < r)).length
theorem cntT_0 (A : Nat → Nat) (W n : Nat) : cntT A W n 0 = 0 := by
  unfold cntT
  rw [List.filter_eq_nil_iff.2 (fun i _ => by simp)]
  rfl
theorem cnt_split (A : Nat → Nat) (W r : Nat) : ∀ l : List Nat, (l.filter fun i => decide (A i / W < r + 1)).length = (l.filter fun i => decide (A i / W < r)).length + (l.filter fun i => A i / W == r).length
  | [] => rfl
  | a :: l => by
    have ih := cnt_split A W r l
    simp only [List.filter_cons]
    by_cases h1 : A a / W < r
    · have h2 : A a / W < r + 1 := by omega
      have h3 : (A a / W == r) = false := by simp only [beq_eq_false_iff_ne, ne_eq]; omega
      rw [decide_eq_true h1, decide_eq_true h2, h3]
      simp only [if_true, if_false, List.length_cons, Bool.false_eq_true]
      omega
    · by_cases h3 : A a / W = r
      · have h2 : A a / W < r + 1 := by omega
        have h4 : (A a / W == r) = true := by simpa using h3
        rw [decide_eq_false h1, decide_eq_true h2, h4]
        simp only [if_true, if_false, List.length_cons, Bool.false_eq_true]
        omega
      · have h2 : ¬ A a / W < r + 1 := by omega
        have h4 : (A a / W == r) = false := by simpa using h3
        rw [decide_eq_false h1, decide_eq_false h2, h4]
        simp only [if_false, Bool.false_eq_true]
        omega
theorem cntT_succ (A : Nat → Nat) (W n r : Nat) : cntT A W n (r + 1) = cntT A W n r + (rowsOf A W n r).length := cnt_split A W r _
theorem cntT_all {A : Nat → Nat} {W n R : Nat} (h : ∀ i, i < n → A i / W < R) : cntT A W n R = n := by
  unfold cntT
  rw [List.filter_eq_self.2 (fun i hi => by simpa using h i (List.mem_range.1 hi))]
  simp
end Go.Proofs.YtapglokadaibnaaGreatDoor
namespace Go.Proofs.YtapglokadaibnaaGreatDoor
set_option linter.unusedVariables false
set_option linter.unusedSimpArgs false
set_option maxRecDepth 100000
open Go.RowKit Go.Gl HS

namespace HeapShapes
set_option maxHeartbeats 12800000 in
theorem walk (W : World) (hT : Tab W) (Q : PA) (p : Pl) (hP : PlAt W Q p)  :
    Calls Tryz.prog 3 #[Q.val p] W fun e w' => e = .returned (.bool true) ∧ Fr [] W w' := by
  have HT := hide hT
  have HP := hide hP
  have hnm := hP.nm
  obtain ⟨tA, htA⟩ : ∃ y, y = Q.tA := ⟨_, rfl⟩
  obtain ⟨hAd, hhA⟩ : ∃ y, y = Q.hA := ⟨_, rfl⟩
  have HTA := hide htA
  have HHA := hide hhA
  have HR : Hid (∀ w', Fr [] W w' → Calls Tryz.prog 11 #[Q.val p] w' fun e w'' => e = .returned (.bool p.rightB) ∧ Fr [] w' w'') := fun w' hf => right14_any (HP.out.fr0 hf)
  have HB : Hid (p.Right → ∀ w', Fr [] W w' → Calls Tryz.prog 12 #[Q.val p] w' (BuiltP w' p)) := fun hr w' hf => build14_any (HT.out.fr hf (by simp)) (Fr.refl _ _) (HP.out.fr0 hf) hr
  unfold PA.val at HR HB ⊢
  rw [← htA, ← hhA] at HR HB ⊢
  clear hT hP htA hhA
  obtain ⟨b, hb⟩ : ∃ b, p.rightB = b := ⟨_, rfl⟩
  rw [hb] at HR
  have HBB := hide hb
  clear hb
  go_enter Tryz.func3, Tryz.ntmps3
  go_wp2_with fail
  refine (awake14_any _ (HT.out.alloc _)).mono ?_
  rintro e w1 ⟨rfl, hf⟩
  have hB := (Blk.new W 27 #[.int .i64 p.c.shift, .int .i64 p.c.regions, .int .i64 p.c.cardShift, .int .i64 p.c.threads, .int .i64 p.c.roots, .int .i64 p.c.refiners, .int .i64 p.c.markers, .int .i64 p.c.young, .int .i64 p.c.tenure, .int .i64 p.c.queue, .int .i64 p.c.stack, .int .i64 p.c.budget, .int .i64 p.c.percent, .int .i64 p.c.fail, .slice tA p.n Q.tc, .slice hAd p.m Q.hc]).fr hf (by simp)
  have HF := hide (((Fr.refl [] W).alloc (.cells #[.int .i64 p.c.shift, .int .i64 p.c.regions, .int .i64 p.c.cardShift, .int .i64 p.c.threads, .int .i64 p.c.roots, .int .i64 p.c.refiners, .int .i64 p.c.markers, .int .i64 p.c.young, .int .i64 p.c.tenure, .int .i64 p.c.queue, .int .i64 p.c.stack, .int .i64 p.c.budget, .int .i64 p.c.percent, .int .i64 p.c.fail, .slice tA p.n Q.tc, .slice hAd p.m Q.hc] 27)).trans_same hf)
  have HPB := hide hB
  have p0 : w1.cell? ⟨W.heap.size, 0, none⟩ = some (.int .i64 p.c.shift) := hB.cell 0
  have p1 : w1.cell? ⟨W.heap.size, 1, none⟩ = some (.int .i64 p.c.regions) := hB.cell 1
  have p2 : w1.cell? ⟨W.heap.size, 2, none⟩ = some (.int .i64 p.c.cardShift) := hB.cell 2
  have p3 : w1.cell? ⟨W.heap.size, 3, none⟩ = some (.int .i64 p.c.threads) := hB.cell 3
  have p4 : w1.cell? ⟨W.heap.size, 4, none⟩ = some (.int .i64 p.c.roots) := hB.cell 4
  have p5 : w1.cell? ⟨W.heap.size, 5, none⟩ = some (.int .i64 p.c.refiners) := hB.cell 5
  have p6 : w1.cell? ⟨W.heap.size, 6, none⟩ = some (.int .i64 p.c.markers) := hB.cell 6
  have p7 : w1.cell? ⟨W.heap.size, 7, none⟩ = some (.int .i64 p.c.young) := hB.cell 7
  have p8 : w1.cell? ⟨W.heap.size, 8, none⟩ = some (.int .i64 p.c.tenure) := hB.cell 8
  have p9 : w1.cell? ⟨W.heap.size, 9, none⟩ = some (.int .i64 p.c.queue) := hB.cell 9
  have p10 : w1.cell? ⟨W.heap.size, 10, none⟩ = some (.int .i64 p.c.stack) := hB.cell 10
  have p11 : w1.cell? ⟨W.heap.size, 11, none⟩ = some (.int .i64 p.c.budget) := hB.cell 11
  have p12 : w1.cell? ⟨W.heap.size, 12, none⟩ = some (.int .i64 p.c.percent) := hB.cell 12
  have p13 : w1.cell? ⟨W.heap.size, 13, none⟩ = some (.int .i64 p.c.fail) := hB.cell 13
  have p14 : w1.cell? ⟨W.heap.size, 14, none⟩ = some (.slice tA p.n Q.tc) := hB.cell 14
  have p15 : w1.cell? ⟨W.heap.size, 15, none⟩ = some (.slice hAd p.m Q.hc) := hB.cell 15
  clear hf hB
  go_wp2_with fail
  refine (HR.out _ HF.out).mono ?_
  rintro e w2 ⟨rfl, hf⟩
  have HF2 := hide (HF.out.trans_same hf)
  have hB := HPB.out.fr hf (by simp)
  have HPB2 := hide hB
  clear hf HF HPB p0 p1 p2 p3 p4 p5 p6 p7 p8 p9 p10 p11 p12 p13 p14 p15
  have p0 : w2.cell? ⟨W.heap.size, 0, none⟩ = some (.int .i64 p.c.shift) := hB.cell 0
  have p1 : w2.cell? ⟨W.heap.size, 1, none⟩ = some (.int .i64 p.c.regions) := hB.cell 1
  have p2 : w2.cell? ⟨W.heap.size, 2, none⟩ = some (.int .i64 p.c.cardShift) := hB.cell 2
  have p3 : w2.cell? ⟨W.heap.size, 3, none⟩ = some (.int .i64 p.c.threads) := hB.cell 3
  have p4 : w2.cell? ⟨W.heap.size, 4, none⟩ = some (.int .i64 p.c.roots) := hB.cell 4
  have p5 : w2.cell? ⟨W.heap.size, 5, none⟩ = some (.int .i64 p.c.refiners) := hB.cell 5
  have p6 : w2.cell? ⟨W.heap.size, 6, none⟩ = some (.int .i64 p.c.markers) := hB.cell 6
  have p7 : w2.cell? ⟨W.heap.size, 7, none⟩ = some (.int .i64 p.c.young) := hB.cell 7
  have p8 : w2.cell? ⟨W.heap.size, 8, none⟩ = some (.int .i64 p.c.tenure) := hB.cell 8
  have p9 : w2.cell? ⟨W.heap.size, 9, none⟩ = some (.int .i64 p.c.queue) := hB.cell 9
  have p10 : w2.cell? ⟨W.heap.size, 10, none⟩ = some (.int .i64 p.c.stack) := hB.cell 10
  have p11 : w2.cell? ⟨W.heap.size, 11, none⟩ = some (.int .i64 p.c.budget) := hB.cell 11
  have p12 : w2.cell? ⟨W.heap.size, 12, none⟩ = some (.int .i64 p.c.percent) := hB.cell 12
  have p13 : w2.cell? ⟨W.heap.size, 13, none⟩ = some (.int .i64 p.c.fail) := hB.cell 13
  have p14 : w2.cell? ⟨W.heap.size, 14, none⟩ = some (.slice tA p.n Q.tc) := hB.cell 14
  have p15 : w2.cell? ⟨W.heap.size, 15, none⟩ = some (.slice hAd p.m Q.hc) := hB.cell 15
  clear hB
  cases b with
  | false =>
    go_wp2_with fail
    go_ret
    exact ⟨rfl, HF2.out⟩
  | true =>
    have HRt := hide (Pl.rightB_yes.1 HBB.out)
    have hTB : (1 ≤ p.c.threads ∧ p.c.threads ≤ 64) ∧ 1 ≤ p.c.roots ∧ p.c.roots ≤ 64 := by
      have := HRt.out.may
      unfold mayB at this
      simp only [Bool.and_eq_true, wiB_iff] at this
      exact ⟨this.2.1, this.2.2.1⟩
    have HTB := hide hTB
    have HDv : Hid (∀ i, i < p.n → ∀ j, 0 ≤ (p.T i).dt.getD j 0) := fun i hi j => (HP.out.dv i hi j).1
    clear hTB
    go_wp2_with fail
    refine (HB.out HRt.out _ HF2.out).mono ?_
    intro e w3 hres
    rcases hres with ⟨L, X, h, x, s, sh, A, A0, c, E, rfl, hA, hrow, hl⟩ | ⟨rfl, hf⟩
    · have ok := hA.ok
      have hso := hl.soundP ok HRt.out
      have hsh := hl.shapeP ok HRt.out HDv.out hl.B
      have HX := hide (hA.alloc 33 #[.pointer (some ⟨L.hb, 0, none⟩), .slice A0 p.n c])
      have q0 : (w3.alloc (.cells #[.pointer (some ⟨L.hb, 0, none⟩), .slice A0 p.n c] 33)).cell? ⟨w3.heap.size, 0, none⟩ = some (.pointer (some ⟨L.hb, 0, none⟩)) := (HX.out.blk (List.mem_cons_self ..)).cell 0
      have hth := hl.T
      have hro := hl.B
      have hr := hA.dim.r3
      have hGr : Hid (∀ w', Fr [] w2 w' → Calls Tryz.prog 16 #[Q.val p] w' fun e w'' => ∃ Λ : ML, e = .returned (.pointer (some ⟨Λ.m, 0, none⟩)) ∧ MV w'' Λ h.T h.T L.B 1048576 (plC p) ∧ Fr [] w' w'') := fun w' hf => by
        obtain ⟨⟨t1, t2⟩, t3, t4⟩ := HTB.out
        refine (graph14_any (HP.out.fr0 (HF2.out.trans_same hf)) HRt.out hth hro (by omega) (by omega) ⟨by omega, by omega, by decide, by decide⟩).mono ?_
        rintro e w'' ⟨Λ, rfl, hv, hf2⟩
        exact ⟨Λ, rfl, hv.plC, hf2⟩
      have hGs : Hid (∀ w' Λ, MV w' Λ h.T h.T L.B 1048576 (plC p) → Calls Tryz.prog 17 #[.pointer (some ⟨Λ.m, 0, none⟩)] w' (ShapePost w' (shape (plC p) h.T))) := fun w' Λ hv => by
        obtain ⟨⟨t1, t2⟩, t3, t4⟩ := HTB.out
        exact mshapeV hv (plC_ok HRt.out hro) ⟨by omega, by omega, by decide, by decide⟩ (by show p.n < 4096; have := HRt.out.n; omega)
      unfold PA.val at hGr
      rw [← HTA.out, ← HHA.out] at hGr
      obtain ⟨S, hS⟩ : ∃ S, S = shape (plC p) h.T := ⟨_, rfl⟩
      rw [← hS] at hGs hsh
      have HRows : Hid (∀ r : Nat, r < h.R → (h.rowL (r : Int)).length = (rowsOf A h.W p.n r).length ∧ h.rowE (r : Int) = 0) := fun r hr => by
        obtain ⟨r1, r2⟩ := hl.lay.rows ok hr
        exact ⟨by rw [r1, List.length_map], r2⟩
      have HCn : Hid (cntT A h.W p.n h.R = p.n) := cntT_all fun i hi => hl.lay.rlt (hl.lay.alt hi)
      have HObj : Hid (∀ i, i < p.n → A i < 4194304 ∧ h.objE ((A i : Int) + 1) = 0 ∧ h.objV ((A i : Int) + 1) = ⟨1, ((p.T i).sz : Int), ((p.T i).rf.length : Int), 0, 0⟩) := fun i hi => by
        have ho := hl.lay.objAt hi
        have h1 := ok.nmax
        have h2 := ho.lt
        refine ⟨by omega, ho.objE, ?_⟩
        have e1 : h.objV ((A i : Int) + 1) = Hd.of (h.f (A i)) := by
          unfold HS.objV
          rw [if_pos ho.objE, show ((A i : Int) + 1 - 1) = (A i : Int) by omega, ho.hd]
        rw [e1, hl.lay.hdr i hi, of_objW ⟨ho.pos, ho.max⟩ ho.ps]
        rfl
      have HShp : Hid (∀ w' E', HE w2 w' L X h x s sh E' → Calls Tryz.prog 13 #[.pointer (some ⟨L.hb, 0, none⟩)] w' fun e w'' => ∃ A4 c4 G4, e = .returned (.tuple #[.slice A4 S.length c4, .int .i64 0]) ∧ Lr w'' 65 A4 S.length c4 G4 (refV S) ∧ HE w2 w'' L X h x s sh E') := fun w' E' q => by
        refine (hshape_ok q.hr hso).mono ?_
        rintro e w'' ⟨A4, c4, G4, rfl, hL, _, hr, hf⟩
        rw [hsh] at hL ⊢
        exact ⟨A4, c4, G4, rfl, hL, q.looked hr hf⟩
      have HChk : Hid (∀ w' E' A4 c4 G4, Lr w' 65 A4 S.length c4 G4 (refV S) → HE w2 w' L X h x s sh E' → Calls Tryz.prog 14 #[.pointer (some ⟨L.hb, 0, none⟩)] w' fun e w'' => e = .returned (.int .i64 0) ∧ Lr w'' 65 A4 S.length c4 G4 (refV S) ∧ HE w2 w'' L X h x s sh E') := fun w' E' A4 c4 G4 hL q => by
        refine (hcheck_any q.hr).mono ?_
        rw [checkE_ok hso]
        rintro e w'' ⟨rfl, hr, hf⟩
        obtain ⟨ca, hca⟩ := q.hr.ar
        exact ⟨rfl, hL.fr hf (fun g hg hx => by simp at hx; subst hx; exact hL.apart hca.set (by decide) hg), q.looked hr hf⟩
      have HRow : Hid (∀ w' E' (r : Nat), r < h.R → HE w2 w' L X h x s sh E' → Calls Tryz.prog 18 #[.pointer (some ⟨L.hb, 0, none⟩), .int .i64 (r : Int)] w' fun e w'' => ∃ A4 c4, e = .returned (.tuple #[.slice A4 (rowsOf A h.W p.n r).length c4, .int .i64 0]) ∧ HE w2 w'' L X h x s sh E') := fun w' E' r hr9 q => by
        refine (hrow_any q.hr (r : Int)).mono ?_
        rintro e w'' ⟨A4, c4, rfl, _, hr, hf⟩
        obtain ⟨r1, r2⟩ := HRows.out r hr9
        rw [r1, r2]
        exact ⟨A4, c4, rfl, q.looked hr hf⟩
      have HOb : Hid (∀ w' E' i, i < p.n → HE w2 w' L X h x s sh E' → Calls Tryz.prog 19 #[.pointer (some ⟨L.hb, 0, none⟩), .int .u64 ((A i : Int) + 1)] w' fun e w'' => e = .returned (.tuple #[.agg #[.int .i64 1, .int .i64 ((p.T i).sz : Int), .int .i64 ((p.T i).rf.length : Int), .int .i64 0, .int .i64 0], .int .i64 0]) ∧ HE w2 w'' L X h x s sh E') := fun w' E' i hi q => by
        obtain ⟨o1, o2, o3⟩ := HObj.out i hi
        refine (hobject_any q.hr (r := (A i : Int) + 1) (by omega) (by omega)).mono ?_
        rintro e w'' ⟨rfl, hr, hf⟩
        rw [o2, o3]
        exact ⟨rfl, q.looked hr hf⟩
      have HO0 : Hid (∀ w' E', HE w2 w' L X h x s sh E' → Calls Tryz.prog 19 #[.pointer (some ⟨L.hb, 0, none⟩), .int .u64 0] w' fun e w'' => e = .returned (.tuple #[.agg #[.int .i64 0, .int .i64 0, .int .i64 0, .int .i64 0, .int .i64 0], .int .i64 12]) ∧ HE w2 w'' L X h x s sh E') := fun w' E' q => by
        refine (hobject_any q.hr (r := 0) (by omega) (by omega)).mono ?_
        rintro e w'' ⟨rfl, hr, hf⟩
        have e1 : h.objE 0 = 12 := by unfold HS.objE; rw [if_pos rfl]
        have e2 : h.objV 0 = Hd.zero := by unfold HS.objV; rw [if_neg (by rw [e1]; decide)]
        rw [e1, e2]
        exact ⟨rfl, q.looked hr hf⟩
      have HHc : Hid (∀ w' E', HE w2 w' L X h x s sh E' → w'.cell? ⟨L.hb, 17, none⟩ = some (.int .i64 (h.R : Int))) := fun w' E' q => by
        have := q.toM.hc.c17
        rwa [ok.rg] at this
      have HRw := hide hrow
      have HRs : Hid (h.R ≤ 65536 ∧ p.n ≤ 200) := ⟨hr, HRt.out.n⟩
      have N9 := hA.size
      have HEq := hide hS
      have HMono : Hid (∀ r, r ≤ h.R → cntT A h.W p.n r ≤ p.n) := fun r _ => by
        unfold cntT
        exact Nat.le_trans (List.length_filter_le _ _) (by simp)
      clear hA hrow hl ok hso hsh hth hro hr hS HB HR p0 p1 p2 p3 p4 p5 p6 p7 p8 p9 p10 p11 p12 p13 p14 p15
      go_upto_region 8 with fail
      generalize hE9 : (w3.heap.size, 33, #[Value.pointer (some ⟨L.hb, 0, none⟩), .slice A0 p.n c]) :: E = E9 at *
      have HB9 : Hid (∀ w', HE w2 w' L X h x s sh E9 → Blk w' w3.heap.size 33 #[.pointer (some ⟨L.hb, 0, none⟩), .slice A0 p.n c]) := fun w' q => q.blk (by rw [← hE9]; exact List.mem_cons_self ..)
      have HRw9 : Hid (Row E9 A0 c (places A p.n)) := HRw.out.sub (fun q hq => by rw [← hE9]; exact List.mem_cons_of_mem _ hq)
      clear hE9 HRw
      generalize w3.heap.size = b9 at *
      generalize hw33 : w3.alloc (.cells #[.pointer (some ⟨L.hb, 0, none⟩), .slice A0 p.n c] 33) = w33 at *
      have HTw : Hid (Tab w2) := HT.out.fr HF2.out (by simp)
      have HPl : Hid (∀ w', Fr [] w2 w' → Blk w' W.heap.size 27 #[.int .i64 p.c.shift, .int .i64 p.c.regions, .int .i64 p.c.cardShift, .int .i64 p.c.threads, .int .i64 p.c.roots, .int .i64 p.c.refiners, .int .i64 p.c.markers, .int .i64 p.c.young, .int .i64 p.c.tenure, .int .i64 p.c.queue, .int .i64 p.c.stack, .int .i64 p.c.budget, .int .i64 p.c.percent, .int .i64 p.c.fail, .slice tA p.n Q.tc, .slice hAd p.m Q.hc] ∧ PlAt w' Q p) := fun w' hf => ⟨HPB2.out.fr hf (by simp), HP.out.fr0 (HF2.out.trans_same hf)⟩
      go_wp2_with fail
      refine (HShp.out _ _ HX.out).mono ?_
      rintro e w4 ⟨A4, c4, G4, rfl, hL, hA⟩
      have HL4 := hide hL
      have HA4 := hide hA
      have k90 : w4.cell? ⟨b9, 0, none⟩ = some (.pointer (some ⟨L.hb, 0, none⟩)) := (HB9.out _ hA).cell 0
      have hlm : S.length ≤ 9223372036854775807 := by have := hL.max; have := hL.le; unfold maxLen at *; omega
      have HLM := hide hlm
      clear hL hA q0 HX HShp hlm
      go_wp2_with fail
      refine (HChk.out _ _ _ _ _ HL4.out HA4.out).mono ?_
      rintro e w5 ⟨rfl, hL, hA⟩
      have HL5 := hide hL
      have HA5 := hide hA
      obtain ⟨hpl, -⟩ := HPl.out _ hA.fr
      have p0 : w5.cell? ⟨W.heap.size, 0, none⟩ = some (.int .i64 p.c.shift) := hpl.cell 0
      have p1 : w5.cell? ⟨W.heap.size, 1, none⟩ = some (.int .i64 p.c.regions) := hpl.cell 1
      have p2 : w5.cell? ⟨W.heap.size, 2, none⟩ = some (.int .i64 p.c.cardShift) := hpl.cell 2
      have p3 : w5.cell? ⟨W.heap.size, 3, none⟩ = some (.int .i64 p.c.threads) := hpl.cell 3
      have p4 : w5.cell? ⟨W.heap.size, 4, none⟩ = some (.int .i64 p.c.roots) := hpl.cell 4
      have p5 : w5.cell? ⟨W.heap.size, 5, none⟩ = some (.int .i64 p.c.refiners) := hpl.cell 5
      have p6 : w5.cell? ⟨W.heap.size, 6, none⟩ = some (.int .i64 p.c.markers) := hpl.cell 6
      have p7 : w5.cell? ⟨W.heap.size, 7, none⟩ = some (.int .i64 p.c.young) := hpl.cell 7
      have p8 : w5.cell? ⟨W.heap.size, 8, none⟩ = some (.int .i64 p.c.tenure) := hpl.cell 8
      have p9 : w5.cell? ⟨W.heap.size, 9, none⟩ = some (.int .i64 p.c.queue) := hpl.cell 9
      have p10 : w5.cell? ⟨W.heap.size, 10, none⟩ = some (.int .i64 p.c.stack) := hpl.cell 10
      have p11 : w5.cell? ⟨W.heap.size, 11, none⟩ = some (.int .i64 p.c.budget) := hpl.cell 11
      have p12 : w5.cell? ⟨W.heap.size, 12, none⟩ = some (.int .i64 p.c.percent) := hpl.cell 12
      have p13 : w5.cell? ⟨W.heap.size, 13, none⟩ = some (.int .i64 p.c.fail) := hpl.cell 13
      have p14 : w5.cell? ⟨W.heap.size, 14, none⟩ = some (.slice tA p.n Q.tc) := hpl.cell 14
      have p15 : w5.cell? ⟨W.heap.size, 15, none⟩ = some (.slice hAd p.m Q.hc) := hpl.cell 15
      have HG5 := hide (hGr w5 hA.fr)
      clear hL hA HL4 HA4 HChk k90 hpl hGr
      go_wp2_with fail
      refine HG5.out.mono ?_
      rintro e w6 ⟨Λ, rfl, hv, hf6⟩
      have HS6 := hide (hGs w6 Λ hv)
      have HF6 := hide hf6
      clear hv hf6 HG5 p0 p1 p2 p3 p4 p5 p6 p7 p8 p9 p10 p11 p12 p13 p14 p15
      go_wp2_with fail
      refine HS6.out.mono ?_
      rintro e w7 ⟨A7, n7, c7, G7, rfl, hL7, hf7, -⟩
      have hn7 : S.length = n7 := by have := hL7.len; rw [refV_len] at this; exact this
      subst hn7
      have HA7 := hide ((HA5.out.fr0 HF6.out).fr0 hf7)
      have HSm := hide (gsame_any (ca := c4) (cb := c7) (refSl ((HL5.out.fr0 HF6.out).fr0 hf7)) (refSl hL7) HLM.out HLM.out)
      rw [show decide (S = S) = true by simp] at HSm
      clear hL7 hf7 HL5 HA5 HF6 HS6 hGs
      go_wp2_with fail
      refine HSm.out.mono ?_
      rintro e w8 ⟨rfl, q8, rfl⟩
      have HA8 := hide (HA7.out.fr0 ((Fr.refl [] w7).drewN q8))
      clear HA7 HSm
      generalize w7.drewN q8 = w8 at *
      go_wp2_with fail
      go_loopw [8, 9] (fun nv rv wr => ∃ r : Nat, rv = .int .i64 (r : Int) ∧ nv = .int .i64 (cntT A h.W p.n r : Int) ∧ r ≤ h.R ∧ HE w2 wr L X h x s sh E9) (fun _ rv _ => h.R - (intOf rv).toNat)
      case atStart => exact ⟨0, rfl, by rw [cntT_0]; rfl, Nat.zero_le _, HA8.out⟩
      case round =>
        obtain ⟨r, rfl, rfl, hr9, hA⟩ := hrel
        have HA := hide hA
        have k90 : wr.cell? ⟨b9, 0, none⟩ = some (.pointer (some ⟨L.hb, 0, none⟩)) := (HB9.out _ hA).cell 0
        have c17 := HHc.out _ _ hA
        have NH : L.hb < wr.heap.size := lt_of_cell c17
        clear hA
        by_cases hlt : r < h.R
        · have hlt1 : (r : Int) < (h.R : Int) := by omega
          have HRr := hide (HRow.out _ _ r hlt HA.out)
          have HLT := hide hlt
          have hcm := HMono.out (r + 1) (by omega)
          rw [cntT_succ] at hcm
          have hp2 := HRs.out.2
          have hrb := HRs.out.1
          have HSu : Hid (cntT A h.W p.n (r + 1) = cntT A h.W p.n r + (rowsOf A h.W p.n r).length) := cntT_succ A h.W p.n r
          generalize cntT A h.W p.n r = n0 at *
          generalize hzz : (rowsOf A h.W p.n r).length = n1 at *
          clear hzz hlt
          go_wp2_with fail
          refine HRr.out.mono ?_
          rintro e w9 ⟨A9, c9, rfl, hA⟩
          have HA9 := hide hA
          have hws : IntKind.i64.wrap ((n0 : Int) + (n1 : Int)) = ((n0 + n1 : Nat) : Int) := by rw [IntWalk.i64_in _ ⟨by omega, by omega⟩]; omega
          clear hA HRr HA k90 c17 NH
          go_wp2_with fail
          go_roundw
          case rel => exact ⟨r + 1, by go_num, by rw [HSu.out, Int.natCast_add], HLT.out, HA9.out⟩
          case measure => have := HLT.out; simp [intOf]; omega
        · obtain rfl : r = h.R := by omega
          simp only [HCn.out]
          go_wp2_with fail
          clear k90 c17 NH HA8 hlt
          go_loopw [12] (fun v wr => ∃ i : Nat, v = .int .i64 (i : Int) ∧ i ≤ p.n ∧ HE w2 wr L X h x s sh E9) (fun v _ => p.n - (intOf v).toNat)
          case atStart => exact ⟨0, rfl, Nat.zero_le _, HA.out⟩
          case round =>
            obtain ⟨i, rfl, hi9, hA⟩ := hrel
            replace HA := hide hA
            obtain ⟨hpl, hpa⟩ := HPl.out _ hA.fr
            have p14 : wr.cell? ⟨W.heap.size, 14, none⟩ = some (.slice tA p.n Q.tc) := hpl.cell 14
            have NP : W.heap.size < wr.heap.size := hpl.lt
            by_cases hlt : i < p.n
            · have hlt1 : (i : Int) < (p.n : Int) := by omega
              have ta := HTA.out.trans (HP.out.ta (by omega))
              subst ta
              obtain ⟨g, off, hA0, hcell⟩ := HRw9.out.cell (W := w2) (L := L) (X := X) (s := s) (k := sh) (by rw [places_len]; omega)
              subst hA0
              rw [places_len] at hcell
              have HLT := hide hlt
              have HRef : Hid (∀ w' E', HE w2 w' L X h x s sh (E' ++ E9) → Calls Tryz.prog 20 #[.agg #[.pointer (some ⟨L.hb, 0, none⟩), .slice (some ⟨g, off, none⟩) p.n c], .int .i64 ((i : Int) + 1)] w' fun e w'' => e = .returned (.int .u64 ((A i : Int) + 1)) ∧ Fr [] w' w'') := fun w' E' q => by
                have q9 := q.sub (E' := E9) (fun y hy => List.mem_append_right _ hy)
                have := ref14_any (c := c) (v := .pointer (some ⟨L.hb, 0, none⟩)) (A := A) (n := p.n) (r := (i : Int) + 1) (fun j hj => by rw [hcell q9 j hj, places_at A hj]) (fun j hj => (HObj.out j hj).1) (by omega) (by omega) HRs.out.2
                rw [lnk_nat] at this
                rw [show ((A i + 1 : Nat) : Int) = (A i : Int) + 1 by omega] at this
                exact this
              have k90 : wr.cell? ⟨b9, 0, none⟩ = some (.pointer (some ⟨L.hb, 0, none⟩)) := (HB9.out _ hA).cell 0
              have k91 : wr.cell? ⟨b9, 1, none⟩ = some (.slice (some ⟨g, off, none⟩) p.n c) := (HB9.out _ hA).cell 1
              have hp2 := HRs.out.2
              clear hA hpl hpa hlt hcell
              go_upto_region 22 with fail
              clear p14 NP
              have HK9 : Hid (∀ w' E', HE w2 w' L X h x s sh (E' ++ E9) → w'.cell? ⟨b9, 0, none⟩ = some (.pointer (some ⟨L.hb, 0, none⟩)) ∧ w'.cell? ⟨b9, 1, none⟩ = some (.slice (some ⟨g, off, none⟩) p.n c)) := fun w' E' q => by
                have q9 := HB9.out _ (q.sub (E' := E9) (fun y hy => List.mem_append_right _ hy))
                exact ⟨q9.cell 0, q9.cell 1⟩
              have HTurn : Hid (∀ (b : Nat) (w' : World), HE w2 w' L X h x s sh ((b, 62, #[.int .i64 0, .int .i64 0, .int .i64 0, .int .i64 0, .int .i64 0]) :: E9) → (∀ q, q ∈ E9 → q.1 ≠ b) → ∀ v0 v1 v2 v3 v4, HE w2 (((((w'.setCell ⟨b, 0, none⟩ v0).setCell ⟨b, 1, none⟩ v1).setCell ⟨b, 2, none⟩ v2).setCell ⟨b, 3, none⟩ v3).setCell ⟨b, 4, none⟩ v4) L X h x s sh ((b, 62, #[v0, v1, v2, v3, v4]) :: E9)) := fun b w' q hn v0 v1 v2 v3 v4 =>
                q.turn HTw.out ((Fr.refl _ _).five (.inl (by simp)) v0 v1 v2 v3 v4) (Blk.fives (q.blk (List.mem_cons_self ..)) v0 v1 v2 v3 v4) hn
              have HLs : Hid (∀ w' E', HE w2 w' L X h x s sh (E' ++ E9) → ∀ q, q ∈ E9 → q.1 ≠ w'.heap.size) := fun w' E' h9 q hq => by
                have := (h9.blk (b := q.1) (t := q.2.1) (cs := q.2.2) (List.mem_append_right _ hq)).lt
                omega
              obtain ⟨w5, hw5⟩ : ∃ w5, w5 = wr.drew := ⟨_, rfl⟩
              have HW5 := hide hw5
              have HXa : Hid (HE w2 w5 L X h x s sh E9) := by rw [hw5]; exact HA.out.fr0 (Fr.refl _ _).drew
              have HXz := hide (HXa.out.alloc 62 #[.int .i64 0, .int .i64 0, .int .i64 0, .int .i64 0, .int .i64 0])
              have HR1 := hide (HRef.out _ [] HXa.out)
              have HR2 := hide (HRef.out _ [_] HXz.out)
              have HNa := hide (HLs.out _ [] HXa.out)
              have K0 := hide (HK9.out _ [] HXa.out)
              have KA : Hid (∀ (w' : World) (o : Obj), (w'.cell? ⟨b9, 0, none⟩ = some (.pointer (some ⟨L.hb, 0, none⟩)) ∧ w'.cell? ⟨b9, 1, none⟩ = some (.slice (some ⟨g, off, none⟩) p.n c)) → ((w'.alloc o).cell? ⟨b9, 0, none⟩ = some (.pointer (some ⟨L.hb, 0, none⟩)) ∧ (w'.alloc o).cell? ⟨b9, 1, none⟩ = some (.slice (some ⟨g, off, none⟩) p.n c))) := fun w' o q => ⟨(((Fr.refl [] w').alloc o).cell (lt_of_cell q.1) (by simp)).trans q.1, (((Fr.refl [] w').alloc o).cell (lt_of_cell q.2) (by simp)).trans q.2⟩
              have KS : Hid (∀ (w' : World) (b : Nat) v0 v1 v2 v3 v4, b9 < b → (w'.cell? ⟨b9, 0, none⟩ = some (.pointer (some ⟨L.hb, 0, none⟩)) ∧ w'.cell? ⟨b9, 1, none⟩ = some (.slice (some ⟨g, off, none⟩) p.n c)) → ((((((w'.setCell ⟨b, 0, none⟩ v0).setCell ⟨b, 1, none⟩ v1).setCell ⟨b, 2, none⟩ v2).setCell ⟨b, 3, none⟩ v3).setCell ⟨b, 4, none⟩ v4).cell? ⟨b9, 0, none⟩ = some (.pointer (some ⟨L.hb, 0, none⟩)) ∧ (((((w'.setCell ⟨b, 0, none⟩ v0).setCell ⟨b, 1, none⟩ v1).setCell ⟨b, 2, none⟩ v2).setCell ⟨b, 3, none⟩ v3).setCell ⟨b, 4, none⟩ v4).cell? ⟨b9, 1, none⟩ = some (.slice (some ⟨g, off, none⟩) p.n c))) := fun w' b v0 v1 v2 v3 v4 hb q => by
                have hf : Fr [b] w' (((((w'.setCell ⟨b, 0, none⟩ v0).setCell ⟨b, 1, none⟩ v1).setCell ⟨b, 2, none⟩ v2).setCell ⟨b, 3, none⟩ v3).setCell ⟨b, 4, none⟩ v4) := (Fr.refl _ _).five (.inl (by simp)) v0 v1 v2 v3 v4
                exact ⟨(hf.cell (lt_of_cell q.1) (by simp; omega)).trans q.1, (hf.cell (lt_of_cell q.2) (by simp; omega)).trans q.2⟩
              have HLt9 : Hid (∀ w' E', HE w2 w' L X h x s sh (E' ++ E9) → b9 < w'.heap.size) := fun w' E' q => lt_of_cell (HK9.out w' E' q).1
              have NBa := hide (HLt9.out _ [] HXa.out)
              have hwi : IntKind.i64.wrap ((i : Int) + 1) = (i : Int) + 1 := IntWalk.i64_in _ ⟨by omega, by omega⟩
              clear k90 k91 hw5
              go_cut [13, 14] from 84 to 93 (fun u v wc => ∃ (xb : Nat) (w9 : World), w9 = wc ∧ u = .pointer (some ⟨xb, 0, none⟩) ∧ v = .int .i64 0 ∧ HE w2 w9 L X h x s sh ((xb, 62, #[.int .i64 1, .int .i64 ((p.T i).sz : Int), .int .i64 ((p.T i).rf.length : Int), .int .i64 0, .int .i64 0]) :: E9))
              case first =>
                refine wp_region_held_drew (S := fun w' => w'.cell? ⟨b9, 0, none⟩ = some (.pointer (some ⟨L.hb, 0, none⟩)) ∧ w'.cell? ⟨b9, 1, none⟩ = some (.slice (some ⟨g, off, none⟩) p.n c)) (by decide +kernel) (HW5.out ▸ K0.out) (fun hHeld => ?_)
                rw [← HW5.out] at hHeld ⊢
                refine wpAnyH_take (i := 0) (v := ?v0x1) rfl (by decide +kernel) (by decide +kernel) (by decide +kernel) (fun _ _ _ h => h) (Or.inl ⟨by rfl, ?hy0x1⟩) (by assumption) ?rest0x1
                case hy0x1 => (intro w' hSw; (try dsimp only at hSw); (try simp only [List.getElem_toArray, List.getElem_cons_succ, List.getElem_cons_zero]); (first | (go_simp; done) | (go_simp; with_reducible rfl)))
                (try simp only [Act.put, List.getElem_toArray, List.getElem_cons_succ, List.getElem_cons_zero, List.setIfInBounds_toArray, List.set_cons_zero, List.set_cons_succ])
                refine wpAnyH_take (i := 1) (v := ?v1x2) rfl (by decide +kernel) (by decide +kernel) (by decide +kernel) (fun _ _ _ h => h) (Or.inl ⟨by rfl, ?hy1x2⟩) (by assumption) ?rest1x2
                case hy1x2 => (intro w' hSw; (try dsimp only at hSw); (try simp only [List.getElem_toArray, List.getElem_cons_succ, List.getElem_cons_zero]); (first | (go_simp; done) | (go_simp; with_reducible rfl)))
                (try simp only [Act.put, List.getElem_toArray, List.getElem_cons_succ, List.getElem_cons_zero, List.setIfInBounds_toArray, List.set_cons_zero, List.set_cons_succ])
                refine wpAnyH_take (i := 2) (v := ?v2x3) rfl (by decide +kernel) (by decide +kernel) (by decide +kernel) (fun _ _ _ h => h) (Or.inl ⟨by rfl, ?hy2x3⟩) (by assumption) ?rest2x3
                case hy2x3 => (intro w' hSw; (try dsimp only at hSw); (try simp only [List.getElem_toArray, List.getElem_cons_succ, List.getElem_cons_zero]); (first | (go_simp; done) | (go_simp; with_reducible rfl)))
                (try simp only [Act.put, List.getElem_toArray, List.getElem_cons_succ, List.getElem_cons_zero, List.setIfInBounds_toArray, List.set_cons_zero, List.set_cons_succ])
                refine wpAnyH_take (i := 3) (v := ?v3x4) rfl (by decide +kernel) (by decide +kernel) (by decide +kernel) (fun _ _ _ h => h) (Or.inl ⟨by rfl, ?hy3x4⟩) (by assumption) ?rest3x4
                case hy3x4 => (intro w' hSw; (try dsimp only at hSw); (try simp only [List.getElem_toArray, List.getElem_cons_succ, List.getElem_cons_zero]); (first | (go_simp; done) | (go_simp; with_reducible rfl)))
                (try simp only [Act.put, List.getElem_toArray, List.getElem_cons_succ, List.getElem_cons_zero, List.setIfInBounds_toArray, List.set_cons_zero, List.set_cons_succ])
                refine wpAnyH_take (i := 4) (v := ?v4x5) rfl (by decide +kernel) (by decide +kernel) (by decide +kernel) (fun _ _ _ h => h) (Or.inl ⟨by rfl, ?hy4x5⟩) (by assumption) ?rest4x5
                case hy4x5 => (intro w' hSw; (try dsimp only at hSw); (try simp only [List.getElem_toArray, List.getElem_cons_succ, List.getElem_cons_zero]); (first | (go_simp; done) | (go_simp; with_reducible rfl)))
                (try simp only [Act.put, List.getElem_toArray, List.getElem_cons_succ, List.getElem_cons_zero, List.setIfInBounds_toArray, List.set_cons_zero, List.set_cons_succ])
                refine wpAnyH_ready (rs := [5, 10]) (by decide +kernel) (by simp) ?_
                refine AllReadyH.cons rfl (fun K hK => ?_) (AllReadyH.cons rfl (fun K hK => ?_) AllReadyH.nil)
                · (try simp only [List.getElem_toArray, List.getElem_cons_succ, List.getElem_cons_zero])
                  go_simp
                  go_at_call 20
                  refine HR1.out.mono ?_
                  rintro e w8 ⟨rfl, hf⟩
                  have HP1 := hide (HXa.out.fr0 hf)
                  have HP1z := hide ((HXa.out.fr0 hf).alloc 62 #[.int .i64 0, .int .i64 0, .int .i64 0, .int .i64 0, .int .i64 0])
                  have HNb := hide (HLs.out _ [] HP1.out)
                  have NBb := hide (HLt9.out _ [] HP1.out)
                  have K1 := hide (HK9.out _ [] HP1.out)
                  clear hf
                  (try go_wp2_with fail)
                  refine hK.out _ _ (K1.out) (fun hHeld => ?_)
                  clear hK K
                  (try simp only [Act.put, List.setIfInBounds_toArray, List.set_cons_zero, List.set_cons_succ])
                  refine wpAnyH_ready (rs := [6, 10]) (by decide +kernel) (by simp) ?_
                  refine AllReadyH.cons rfl (fun K hK => ?_) (AllReadyH.cons rfl (fun K hK => ?_) AllReadyH.nil)
                  · (try simp only [List.getElem_toArray, List.getElem_cons_succ, List.getElem_cons_zero])
                    go_simp
                    go_at_call 19
                    refine (HOb.out _ _ i HLT.out HP1.out).mono ?_
                    rintro e w9 ⟨rfl, hA⟩
                    have HS1 := hide hA
                    have K2 := hide (HK9.out _ [] hA)
                    clear hA
                    (try go_wp2_with fail)
                    refine hK.out _ _ (K2.out) (fun hHeld => ?_)
                    clear hK K
                    (try simp only [Act.put, List.setIfInBounds_toArray, List.set_cons_zero, List.set_cons_succ])
                    refine wpAnyH_take (i := 7) (v := ?v7x6) rfl (by decide +kernel) (by decide +kernel) (by decide +kernel) (fun _ _ _ h => h) (Or.inl ⟨by rfl, ?hy7x6⟩) (by assumption) ?rest7x6
                    case hy7x6 => (intro w' hSw; (try dsimp only at hSw); (try simp only [List.getElem_toArray, List.getElem_cons_succ, List.getElem_cons_zero]); (first | (go_simp; done) | (go_simp; with_reducible rfl)))
                    (try simp only [Act.put, List.getElem_toArray, List.getElem_cons_succ, List.getElem_cons_zero, List.setIfInBounds_toArray, List.set_cons_zero, List.set_cons_succ])
                    refine wpAnyH_take (i := 8) (v := ?v8x7) rfl (by decide +kernel) (by decide +kernel) (by decide +kernel) (fun _ _ _ h => h) (Or.inl ⟨by rfl, ?hy8x7⟩) (by assumption) ?rest8x7
                    case hy8x7 => (intro w' hSw; (try dsimp only at hSw); (try simp only [List.getElem_toArray, List.getElem_cons_succ, List.getElem_cons_zero]); (first | (go_simp; done) | (go_simp; with_reducible rfl)))
                    (try simp only [Act.put, List.getElem_toArray, List.getElem_cons_succ, List.getElem_cons_zero, List.setIfInBounds_toArray, List.set_cons_zero, List.set_cons_succ])
                    refine wpAnyH_take (i := 9) (v := ?v9x8) rfl (by decide +kernel) (by decide +kernel) (by decide +kernel) (fun _ _ _ h => h) (Or.inl ⟨by rfl, ?hy9x8⟩) (by assumption) ?rest9x8
                    case hy9x8 => (intro w' hSw; (try dsimp only at hSw); (try simp only [List.getElem_toArray, List.getElem_cons_succ, List.getElem_cons_zero]); (first | (go_simp; done) | (go_simp; with_reducible rfl)))
                    (try simp only [Act.put, List.getElem_toArray, List.getElem_cons_succ, List.getElem_cons_zero, List.setIfInBounds_toArray, List.set_cons_zero, List.set_cons_succ])
                    refine wpAnyH_ready (rs := [10]) (by decide +kernel) (by simp) ?_
                    refine AllReadyH.cons rfl (fun K hK => ?_) AllReadyH.nil
                    (try simp only [List.getElem_toArray, List.getElem_cons_succ, List.getElem_cons_zero])
                    go_simp
                    refine hK.out _ _ (KA.out _ _ K2.out) (fun hHeld => ?_)
                    clear hK K
                    (try simp only [Act.put, List.setIfInBounds_toArray, List.set_cons_zero, List.set_cons_succ])
                    refine wpAnyH_ready (rs := [11]) (by decide +kernel) (by simp) ?_
                    refine AllReadyH.cons rfl (fun K hK => ?_) AllReadyH.nil
                    (try simp only [List.getElem_toArray, List.getElem_cons_succ, List.getElem_cons_zero])
                    go_simp
                    refine hK.out _ _ (KA.out _ _ K2.out) (fun hHeld => ?_)
                    clear hK K
                    (try simp only [Act.put, List.setIfInBounds_toArray, List.set_cons_zero, List.set_cons_succ])
                    refine wpAnyH_take (i := 12) (v := ?v12x9) rfl (by decide +kernel) (by decide +kernel) (by decide +kernel) (fun _ _ _ h => h) (Or.inl ⟨by rfl, ?hy12x9⟩) (by assumption) ?rest12x9
                    case hy12x9 => (intro w' hSw; (try dsimp only at hSw); (try simp only [List.getElem_toArray, List.getElem_cons_succ, List.getElem_cons_zero]); (first | (go_simp; done) | (go_simp; with_reducible rfl)))
                    (try simp only [Act.put, List.getElem_toArray, List.getElem_cons_succ, List.getElem_cons_zero, List.setIfInBounds_toArray, List.set_cons_zero, List.set_cons_succ])
                    refine wpAnyH_done (by decide +kernel) ?_ _
                    go_wp2_with fail
                    go_meet
                    case rel => exact ⟨_, _, rfl, rfl, rfl, HS1.out.alloc _ _⟩
                  · (try simp only [List.getElem_toArray, List.getElem_cons_succ, List.getElem_cons_zero])
                    go_simp
                    refine hK.out _ _ (KA.out _ _ K1.out) (fun hHeld => ?_)
                    clear hK K
                    (try simp only [Act.put, List.setIfInBounds_toArray, List.set_cons_zero, List.set_cons_succ])
                    refine wpAnyH_ready (rs := [6]) (by decide +kernel) (by simp) ?_
                    refine AllReadyH.cons rfl (fun K hK => ?_) AllReadyH.nil
                    (try simp only [List.getElem_toArray, List.getElem_cons_succ, List.getElem_cons_zero])
                    go_simp
                    go_at_call 19
                    refine (HOb.out _ _ i HLT.out HP1z.out).mono ?_
                    rintro e w9 ⟨rfl, hA⟩
                    have HS2 := hide hA
                    have K2 := hide (HK9.out _ [_] hA)
                    obtain ⟨⟨z0, z1, z2, z3, z4⟩, f0, f1, f2, f3, f4⟩ := Hd.zero_cells (hA.blk (List.mem_cons_self ..))
                    have N2 := (hA.blk (List.mem_cons_self ..)).lt
                    clear hA
                    (try go_wp2_with fail)
                    refine hK.out _ _ (K2.out) (fun hHeld => ?_)
                    clear hK K
                    (try simp only [Act.put, List.setIfInBounds_toArray, List.set_cons_zero, List.set_cons_succ])
                    refine wpAnyH_take (i := 7) (v := ?v7x10) rfl (by decide +kernel) (by decide +kernel) (by decide +kernel) (fun _ _ _ h => h) (Or.inl ⟨by rfl, ?hy7x10⟩) (by assumption) ?rest7x10
                    case hy7x10 => (intro w' hSw; (try dsimp only at hSw); (try simp only [List.getElem_toArray, List.getElem_cons_succ, List.getElem_cons_zero]); (first | (go_simp; done) | (go_simp; with_reducible rfl)))
                    (try simp only [Act.put, List.getElem_toArray, List.getElem_cons_succ, List.getElem_cons_zero, List.setIfInBounds_toArray, List.set_cons_zero, List.set_cons_succ])
                    refine wpAnyH_take (i := 8) (v := ?v8x11) rfl (by decide +kernel) (by decide +kernel) (by decide +kernel) (fun _ _ _ h => h) (Or.inl ⟨by rfl, ?hy8x11⟩) (by assumption) ?rest8x11
                    case hy8x11 => (intro w' hSw; (try dsimp only at hSw); (try simp only [List.getElem_toArray, List.getElem_cons_succ, List.getElem_cons_zero]); (first | (go_simp; done) | (go_simp; with_reducible rfl)))
                    (try simp only [Act.put, List.getElem_toArray, List.getElem_cons_succ, List.getElem_cons_zero, List.setIfInBounds_toArray, List.set_cons_zero, List.set_cons_succ])
                    refine wpAnyH_take (i := 9) (v := ?v9x12) rfl (by decide +kernel) (by decide +kernel) (by decide +kernel) (fun _ _ _ h => h) (Or.inl ⟨by rfl, ?hy9x12⟩) (by assumption) ?rest9x12
                    case hy9x12 => (intro w' hSw; (try dsimp only at hSw); (try simp only [List.getElem_toArray, List.getElem_cons_succ, List.getElem_cons_zero]); (first | (go_simp; done) | (go_simp; with_reducible rfl)))
                    (try simp only [Act.put, List.getElem_toArray, List.getElem_cons_succ, List.getElem_cons_zero, List.setIfInBounds_toArray, List.set_cons_zero, List.set_cons_succ])
                    refine wpAnyH_ready (rs := [11]) (by decide +kernel) (by simp) ?_
                    refine AllReadyH.cons rfl (fun K hK => ?_) AllReadyH.nil
                    (try simp only [List.getElem_toArray, List.getElem_cons_succ, List.getElem_cons_zero])
                    go_simp
                    refine hK.out _ _ (KS.out _ _ _ _ _ _ _ NBb.out K2.out) (fun hHeld => ?_)
                    clear hK K
                    (try simp only [Act.put, List.setIfInBounds_toArray, List.set_cons_zero, List.set_cons_succ])
                    refine wpAnyH_take (i := 12) (v := ?v12x13) rfl (by decide +kernel) (by decide +kernel) (by decide +kernel) (fun _ _ _ h => h) (Or.inl ⟨by rfl, ?hy12x13⟩) (by assumption) ?rest12x13
                    case hy12x13 => (intro w' hSw; (try dsimp only at hSw); (try simp only [List.getElem_toArray, List.getElem_cons_succ, List.getElem_cons_zero]); (first | (go_simp; done) | (go_simp; with_reducible rfl)))
                    (try simp only [Act.put, List.getElem_toArray, List.getElem_cons_succ, List.getElem_cons_zero, List.setIfInBounds_toArray, List.set_cons_zero, List.set_cons_succ])
                    refine wpAnyH_done (by decide +kernel) ?_ _
                    go_wp2_with fail
                    go_meet
                    case rel => exact ⟨_, _, rfl, rfl, rfl, HTurn.out _ _ HS2.out HNb.out _ _ _ _ _⟩
                · (try simp only [List.getElem_toArray, List.getElem_cons_succ, List.getElem_cons_zero])
                  go_simp
                  refine hK.out _ _ (KA.out _ _ K0.out) (fun hHeld => ?_)
                  clear hK K
                  (try simp only [Act.put, List.setIfInBounds_toArray, List.set_cons_zero, List.set_cons_succ])
                  refine wpAnyH_ready (rs := [5]) (by decide +kernel) (by simp) ?_
                  refine AllReadyH.cons rfl (fun K hK => ?_) AllReadyH.nil
                  (try simp only [List.getElem_toArray, List.getElem_cons_succ, List.getElem_cons_zero])
                  go_simp
                  go_at_call 20
                  refine HR2.out.mono ?_
                  rintro e w8 ⟨rfl, hf⟩
                  have HQ1 := hide (HXz.out.fr0 hf)
                  have K1 := hide (HK9.out _ [_] HQ1.out)
                  clear hf
                  (try go_wp2_with fail)
                  refine hK.out _ _ (K1.out) (fun hHeld => ?_)
                  clear hK K
                  (try simp only [Act.put, List.setIfInBounds_toArray, List.set_cons_zero, List.set_cons_succ])
                  refine wpAnyH_ready (rs := [6]) (by decide +kernel) (by simp) ?_
                  refine AllReadyH.cons rfl (fun K hK => ?_) AllReadyH.nil
                  (try simp only [List.getElem_toArray, List.getElem_cons_succ, List.getElem_cons_zero])
                  go_simp
                  go_at_call 19
                  refine (HOb.out _ _ i HLT.out HQ1.out).mono ?_
                  rintro e w9 ⟨rfl, hA⟩
                  have HS3 := hide hA
                  have K2 := hide (HK9.out _ [_] hA)
                  obtain ⟨⟨z0, z1, z2, z3, z4⟩, f0, f1, f2, f3, f4⟩ := Hd.zero_cells (hA.blk (List.mem_cons_self ..))
                  have N2 := (hA.blk (List.mem_cons_self ..)).lt
                  clear hA
                  (try go_wp2_with fail)
                  refine hK.out _ _ (K2.out) (fun hHeld => ?_)
                  clear hK K
                  (try simp only [Act.put, List.setIfInBounds_toArray, List.set_cons_zero, List.set_cons_succ])
                  refine wpAnyH_take (i := 7) (v := ?v7x14) rfl (by decide +kernel) (by decide +kernel) (by decide +kernel) (fun _ _ _ h => h) (Or.inl ⟨by rfl, ?hy7x14⟩) (by assumption) ?rest7x14
                  case hy7x14 => (intro w' hSw; (try dsimp only at hSw); (try simp only [List.getElem_toArray, List.getElem_cons_succ, List.getElem_cons_zero]); (first | (go_simp; done) | (go_simp; with_reducible rfl)))
                  (try simp only [Act.put, List.getElem_toArray, List.getElem_cons_succ, List.getElem_cons_zero, List.setIfInBounds_toArray, List.set_cons_zero, List.set_cons_succ])
                  refine wpAnyH_take (i := 8) (v := ?v8x15) rfl (by decide +kernel) (by decide +kernel) (by decide +kernel) (fun _ _ _ h => h) (Or.inl ⟨by rfl, ?hy8x15⟩) (by assumption) ?rest8x15
                  case hy8x15 => (intro w' hSw; (try dsimp only at hSw); (try simp only [List.getElem_toArray, List.getElem_cons_succ, List.getElem_cons_zero]); (first | (go_simp; done) | (go_simp; with_reducible rfl)))
                  (try simp only [Act.put, List.getElem_toArray, List.getElem_cons_succ, List.getElem_cons_zero, List.setIfInBounds_toArray, List.set_cons_zero, List.set_cons_succ])
                  refine wpAnyH_take (i := 9) (v := ?v9x16) rfl (by decide +kernel) (by decide +kernel) (by decide +kernel) (fun _ _ _ h => h) (Or.inl ⟨by rfl, ?hy9x16⟩) (by assumption) ?rest9x16
                  case hy9x16 => (intro w' hSw; (try dsimp only at hSw); (try simp only [List.getElem_toArray, List.getElem_cons_succ, List.getElem_cons_zero]); (first | (go_simp; done) | (go_simp; with_reducible rfl)))
                  (try simp only [Act.put, List.getElem_toArray, List.getElem_cons_succ, List.getElem_cons_zero, List.setIfInBounds_toArray, List.set_cons_zero, List.set_cons_succ])
                  refine wpAnyH_ready (rs := [11]) (by decide +kernel) (by simp) ?_
                  refine AllReadyH.cons rfl (fun K hK => ?_) AllReadyH.nil
                  (try simp only [List.getElem_toArray, List.getElem_cons_succ, List.getElem_cons_zero])
                  go_simp
                  refine hK.out _ _ (KS.out _ _ _ _ _ _ _ NBa.out K2.out) (fun hHeld => ?_)
                  clear hK K
                  (try simp only [Act.put, List.setIfInBounds_toArray, List.set_cons_zero, List.set_cons_succ])
                  refine wpAnyH_take (i := 12) (v := ?v12x17) rfl (by decide +kernel) (by decide +kernel) (by decide +kernel) (fun _ _ _ h => h) (Or.inl ⟨by rfl, ?hy12x17⟩) (by assumption) ?rest12x17
                  case hy12x17 => (intro w' hSw; (try dsimp only at hSw); (try simp only [List.getElem_toArray, List.getElem_cons_succ, List.getElem_cons_zero]); (first | (go_simp; done) | (go_simp; with_reducible rfl)))
                  (try simp only [Act.put, List.getElem_toArray, List.getElem_cons_succ, List.getElem_cons_zero, List.setIfInBounds_toArray, List.set_cons_zero, List.set_cons_succ])
                  refine wpAnyH_done (by decide +kernel) ?_ _
                  go_wp2_with fail
                  go_meet
                  case rel => exact ⟨_, _, rfl, rfl, rfl, HTurn.out _ _ HS3.out HNa.out _ _ _ _ _⟩
              case rest =>
                obtain ⟨xb, w9, rfl, rfl, rfl, hA⟩ := hcut
                have HA9 := hide hA
                have hxb := hA.blk (List.mem_cons_self ..)
                obtain ⟨hpl, hpa⟩ := HPl.out _ hA.fr
                have y0 := hpa.t0 i HLT.out
                have y1 := hpa.t1 i HLT.out
                have y2 := hpa.t2 i HLT.out
                have hrl : (p.T i).rf.length ≤ 1048576 ∧ (p.T i).dt.length ≤ 1048576 ∧ (p.T i).sz ≤ 1048576 := by
                  have h5 := (HRt.out.t i HLT.out).zm
                  have h6 : p.c.geo.max ≤ 1048576 := Int.min_le_left _ _
                  unfold PT.sz at h5 ⊢
                  omega
                have c0 : ∀ u : Cls (Fr [] w9), u.w.cell? ⟨xb, 0, none⟩ = some (.int .i64 1) := fun u => u.cell (hxb.cell 0) (by simp)
                have c1 : ∀ u : Cls (Fr [] w9), u.w.cell? ⟨xb, 1, none⟩ = some (.int .i64 ((p.T i).sz : Int)) := fun u => u.cell (hxb.cell 1) (by simp)
                have c2 : ∀ u : Cls (Fr [] w9), u.w.cell? ⟨xb, 2, none⟩ = some (.int .i64 ((p.T i).rf.length : Int)) := fun u => u.cell (hxb.cell 2) (by simp)
                have c3 : ∀ u : Cls (Fr [] w9), u.w.cell? ⟨xb, 3, none⟩ = some (.int .i64 0) := fun u => u.cell (hxb.cell 3) (by simp)
                have c4 : ∀ u : Cls (Fr [] w9), u.w.cell? ⟨xb, 4, none⟩ = some (.int .i64 0) := fun u => u.cell (hxb.cell 4) (by simp)
                have d14 : ∀ u : Cls (Fr [] w9), u.w.cell? ⟨W.heap.size, 14, none⟩ = some (.slice (some ⟨Q.tb, Q.to, none⟩) p.n Q.tc) := fun u => u.cell (hpl.cell 14) (by simp)
                have z0 : ∀ u : Cls (Fr [] w9), u.w.cell? ⟨Q.tb, Q.to + i * 3, none⟩ = some (.int .i64 (p.T i).st) := fun u => u.cell y0 (by simp)
                have z1 : ∀ u : Cls (Fr [] w9), u.w.cell? ⟨Q.tb, Q.to + i * 3 + 1, none⟩ = some (.slice (Q.rA i) (p.T i).rf.length (Q.rc i)) := fun u => u.cell y1 (by simp)
                have z2 : ∀ u : Cls (Fr [] w9), u.w.cell? ⟨Q.tb, Q.to + i * 3 + 2, none⟩ = some (.slice (Q.dA i) (p.T i).dt.length (Q.dc i)) := fun u => u.cell y2 (by simp)
                have HSz : Hid (∀ u : Cls (Fr [] w9), Calls Tryz.prog 21 #[.agg #[.int .i64 (p.T i).st, .slice (Q.rA i) (p.T i).rf.length (Q.rc i), .slice (Q.dA i) (p.T i).dt.length (Q.dc i)]] u.w fun e w'' => e = .returned (.int .i64 ((p.T i).sz : Int)) ∧ ∃ u' : Cls (Fr [] w9), w'' = u'.w) := fun u => Cls.grow (size_now (w := u.w) (rA := Q.rA i) (dA := Q.dA i) (rc := Q.rc i) (dc := Q.dc i) (p.T i).st rfl hrl.2.2)
                clear hA hxb hpl hpa y0 y1 y2 HXa HXz HR1 HR2 HNa K0 KA KS HLt9 NBa HTurn HLs HK9 HRef HA hrl HW5
                generalize (p.T i).rf.length = rn at *
                generalize (p.T i).dt.length = dn at *
                generalize (p.T i).sz = zn at *
                go_wp2_with fail
                refine wp_region_cls (Fr [] w9) (by kernel_rfl) (by kernel_rfl) (Fr.refl _ _).drew ?_
                repeat (go_big_quiet_step ((go_at_call 21; exact HSz.out _)))
                refine wpQuiet_nil ?_
                rintro _ ⟨u, rfl⟩
                have HAu := hide ((HA9.out.fr0 u.ok).sub (E' := E9) (fun q hq => List.mem_cons_of_mem _ hq))
                go_wp2_with fail
                go_roundw
                case rel => exact ⟨i + 1, by go_num, HLT.out, HAu.out⟩
                case measure => have := HLT.out; simp [intOf]; omega
            · obtain rfl : i = p.n := by omega
              have HO9 := hide (HO0.out _ _ HA.out)
              have k90 : wr.cell? ⟨b9, 0, none⟩ = some (.pointer (some ⟨L.hb, 0, none⟩)) := (HB9.out _ hA).cell 0
              clear hA hpl hpa hlt
              go_wp2_with fail
              refine HO9.out.mono ?_
              rintro e w9 ⟨rfl, hA⟩
              have HA9 := hide hA
              obtain ⟨hpl, -⟩ := HPl.out _ hA.fr
              have p14 : w9.cell? ⟨W.heap.size, 14, none⟩ = some (.slice tA p.n Q.tc) := hpl.cell 14
              have NP : W.heap.size < w9.heap.size := hpl.lt
              have HFin := hide (HF2.out.trans_same hA.fr)
              clear hA hpl HO9 k90
              go_wp2_with fail
              go_ret
              exact ⟨rfl, HFin.out.alloc _⟩
    · have HFE := hide (HF2.out.trans_same hf)
      clear hf
      go_wp2_with fail
      go_ret
      exact ⟨rfl, HFE.out.alloc _⟩
end HeapShapes
end Go.Proofs.YtapglokadaibnaaGreatDoor
