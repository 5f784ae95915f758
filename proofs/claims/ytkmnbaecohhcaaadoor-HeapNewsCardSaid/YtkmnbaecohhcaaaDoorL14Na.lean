/- HeapNews: what its calls come to. -/
import Derived.Test.YtkmnbaecohhcaaaDoorVp
import Derived.Test.YtkmnbaecohhcaaaDoorVu
import Derived.Test.YtkmnbaecohhcaaaDoorRt4
import Derived.Deep.RegionHeld3
import Derived.Deep.CutRange
namespace Go.Proofs.YtkmnbaecohhcaaaDoor.HeapNews
set_option linter.unusedVariables false
set_option linter.unusedSimpArgs false
set_option maxRecDepth 100000
open Go.RowKit Go.Gl

theorem bleft_off {w : World} {g off : Nat} {x y : Int} (c0 : w.cell? ⟨g, off, none⟩ = some (.int .i64 x)) (c1 : w.cell? ⟨g, off + 1, none⟩ = some (.int .i64 y)) (h0 : 0 ≤ x) (h1 : x ≤ y) (h2 : y ≤ 4194304) :
    Calls Tryd.prog 13 #[.pointer (some ⟨g, off, none⟩)] w fun e w' => e = .returned (.int .i64 (y - x)) ∧ ∃ k, w' = w.drewN k := by
  have e1 : IntKind.i64.wrap (y - x) = y - x := IntWalk.i64_in _ ⟨by omega, by omega⟩
  go_enter Tryd.func13, Tryd.ntmps13
  go_wp2_with fail
  go_quiet (fail)
  go_wp2
  go_ret
  exact ⟨rfl, _, rfl⟩
theorem those_all (n : Nat) : (those (fun _ => 0) 0 n).length = n := by
  unfold those
  rw [List.filter_eq_self.2 (fun a _ => by simp)]
  simp
/-- The heap, the configuration and the geometry of the law. -/
structure At (W w : World) (L : HL) (X : HX) (own : Nat → Nat) (c : Cfg) (g : Geo) (W0 R T C P qm s k cb gb : Nat) : Prop where
  h : HpAt W w L X own (HSn g W0 R (R * W0) T) (HTn C P R qm (R * W0)) s k
  c : Blk w cb 23 c.cells
  g : Blk w gb 26 g.cells
  oc : own cb = 0
  og : own gb = 0
section
variable {W w w' : World} {L : HL} {X : HX} {own : Nat → Nat} {c : Cfg} {g : Geo} {W0 R T C P qm s k cb gb : Nat}
theorem At.fr0 (a : At W w L X own c g W0 R T C P qm s k cb gb) (hf : Fr [] w w') : At W w' L X own c g W0 R T C P qm s k cb gb := ⟨a.h.fr0 hf, a.c.fr hf (by simp), a.g.fr hf (by simp), a.oc, a.og⟩
theorem At.looked (a : At W w L X own c g W0 R T C P qm s k cb gb) (hr : Hr w' L (HSn g W0 R (R * W0) T) s k) (hf : Fr [L.ab] w w') : At W w' L X own c g W0 R T C P qm s k cb gb := by
  obtain ⟨h1, h2⟩ := a.h.looked hr hf
  exact ⟨h1, (h2.blk a.c a.oc).1, (h2.blk a.g a.og).1, a.oc, a.og⟩
end
section
variable {W w w' : World} {L : HL} {X : HX} {own : Nat → Nat} {c : Cfg} {g : Geo} {W0 R T C P qm s k cb gb : Nat}
def Cells (w : World) (L : HL) (X : HX) (c : Cfg) (g : Geo) (T cb gb : Nat) : Prop := w.cell? ⟨L.hb, 0, none⟩ = some (.int .i64 c.shift) ∧ w.cell? ⟨L.hb, 1, none⟩ = some (.int .i64 c.regions) ∧ w.cell? ⟨L.hb, 2, none⟩ = some (.int .i64 c.cardShift) ∧ w.cell? ⟨L.hb, 3, none⟩ = some (.int .i64 c.threads) ∧ w.cell? ⟨L.hb, 4, none⟩ = some (.int .i64 c.roots) ∧ w.cell? ⟨L.hb, 5, none⟩ = some (.int .i64 c.refiners) ∧ w.cell? ⟨L.hb, 6, none⟩ = some (.int .i64 c.markers) ∧ w.cell? ⟨L.hb, 7, none⟩ = some (.int .i64 c.young) ∧ w.cell? ⟨L.hb, 8, none⟩ = some (.int .i64 c.tenure) ∧ w.cell? ⟨L.hb, 9, none⟩ = some (.int .i64 c.queue) ∧ w.cell? ⟨L.hb, 10, none⟩ = some (.int .i64 c.stack) ∧ w.cell? ⟨L.hb, 11, none⟩ = some (.int .i64 c.budget) ∧ w.cell? ⟨L.hb, 12, none⟩ = some (.int .i64 c.percent) ∧ w.cell? ⟨L.hb, 13, none⟩ = some (.int .i64 c.fail) ∧ w.cell? ⟨L.hb, 14, none⟩ = some (.int .i64 g.words) ∧ w.cell? ⟨L.hb, 15, none⟩ = some (.int .i64 g.rw) ∧ w.cell? ⟨L.hb, 16, none⟩ = some (.int .i64 g.cw) ∧ w.cell? ⟨L.hb, 17, none⟩ = some (.int .i64 g.regions) ∧ w.cell? ⟨L.hb, 18, none⟩ = some (.int .i64 g.cards) ∧ w.cell? ⟨L.hb, 19, none⟩ = some (.int .i64 g.max) ∧ w.cell? ⟨L.hb, 20, none⟩ = some (.pointer (some ⟨L.ab, 0, none⟩)) ∧ w.cell? ⟨L.hb, 21, none⟩ = some (.pointer (some ⟨L.tb, 0, none⟩)) ∧ w.cell? ⟨L.hb, 26, none⟩ = some (.pointer (some ⟨X.mb, 0, none⟩)) ∧ w.cell? ⟨L.hb, 27, none⟩ = some (.slice L.rA T L.rc) ∧ w.cell? ⟨L.hb, 28, none⟩ = some (.slice (some ⟨L.bb, 0, none⟩) T T) ∧ w.cell? ⟨cb, 0, none⟩ = some (.int .i64 c.shift) ∧ w.cell? ⟨cb, 1, none⟩ = some (.int .i64 c.regions) ∧ w.cell? ⟨cb, 2, none⟩ = some (.int .i64 c.cardShift) ∧ w.cell? ⟨cb, 3, none⟩ = some (.int .i64 c.threads) ∧ w.cell? ⟨cb, 4, none⟩ = some (.int .i64 c.roots) ∧ w.cell? ⟨cb, 5, none⟩ = some (.int .i64 c.refiners) ∧ w.cell? ⟨cb, 6, none⟩ = some (.int .i64 c.markers) ∧ w.cell? ⟨cb, 7, none⟩ = some (.int .i64 c.young) ∧ w.cell? ⟨cb, 8, none⟩ = some (.int .i64 c.tenure) ∧ w.cell? ⟨cb, 9, none⟩ = some (.int .i64 c.queue) ∧ w.cell? ⟨cb, 10, none⟩ = some (.int .i64 c.stack) ∧ w.cell? ⟨cb, 11, none⟩ = some (.int .i64 c.budget) ∧ w.cell? ⟨cb, 12, none⟩ = some (.int .i64 c.percent) ∧ w.cell? ⟨cb, 13, none⟩ = some (.int .i64 c.fail) ∧ w.cell? ⟨gb, 0, none⟩ = some (.int .i64 g.words) ∧ w.cell? ⟨gb, 1, none⟩ = some (.int .i64 g.rw) ∧ w.cell? ⟨gb, 2, none⟩ = some (.int .i64 g.cw) ∧ w.cell? ⟨gb, 3, none⟩ = some (.int .i64 g.regions) ∧ w.cell? ⟨gb, 4, none⟩ = some (.int .i64 g.cards) ∧ w.cell? ⟨gb, 5, none⟩ = some (.int .i64 g.max)
theorem At.vm (a : At W w L X own c g W0 R T C P qm s k cb gb) : L.vm = .pointer (some ⟨X.mb, 0, none⟩) := by
  obtain ⟨tg, FS, H, _⟩ := a.h
  exact H.vm
theorem At.cells (a : At W w L X own c g W0 R T C P qm s k cb gb) (hc : L.cfg = c) : Cells w L X c g T cb gb := by
  have st := a.h.hr.st
  subst hc
  exact ⟨st.cell 0, st.cell 1, st.cell 2, st.cell 3, st.cell 4, st.cell 5, st.cell 6, st.cell 7, st.cell 8, st.cell 9, st.cell 10, st.cell 11, st.cell 12, st.cell 13, st.cell 14, st.cell 15, st.cell 16, st.cell 17, st.cell 18, st.cell 19, st.cell 20, st.cell 21, (by rw [← a.vm]; exact st.cell 26), st.cell 27, st.cell 28, a.c.cell 0, a.c.cell 1, a.c.cell 2, a.c.cell 3, a.c.cell 4, a.c.cell 5, a.c.cell 6, a.c.cell 7, a.c.cell 8, a.c.cell 9, a.c.cell 10, a.c.cell 11, a.c.cell 12, a.c.cell 13, a.g.cell 0, a.g.cell 1, a.g.cell 2, a.g.cell 3, a.g.cell 4, a.g.cell 5⟩
theorem At.len (a : At W w L X own c g W0 R T C P qm s k cb gb) (hw : g.words = ((R * W0 : Nat) : Int)) : Calls Tryd.prog 8 #[.pointer (some ⟨L.ab, 0, none⟩)] w fun e w' => e = .returned (.int .i64 g.words) ∧ w = w' := by
  rw [hw]
  obtain ⟨n, hn⟩ := a.h.hr.ar
  exact alen_any hn
theorem At.mlen (a : At W w L X own c g W0 R T C P qm s k cb gb) (hw : g.words = ((R * W0 : Nat) : Int)) : Calls Tryd.prog 9 #[.pointer (some ⟨X.mb, 0, none⟩)] w fun e w' => e = .returned (.int .i64 g.words) ∧ w = w' := by
  rw [hw]
  obtain ⟨tg, FS, H, _⟩ := a.h
  exact len_any H.ma
theorem At.free (a : At W w L X own c g W0 R T C P qm s k cb gb) : Calls Tryd.prog 10 #[.pointer (some ⟨L.tb, 0, none⟩), .int .i64 0] w fun e w' => ∃ A n, e = .returned (.slice A R n) ∧ Fr [] w w' := by
  refine (rlist_any a.h.hr.rg 0).mono ?_
  rintro e w' ⟨v, rfl, ho, hf⟩
  have hl : (those (HSn g W0 R (R * W0) T).s 0 (HSn g W0 R (R * W0) T).R).length = R := those_all R
  rw [hl] at ho
  obtain ⟨A, n, rfl, _⟩ := Sl.own ho
  exact ⟨A, n, rfl, hf⟩
theorem At.check (a : At W w L X own c g W0 R T C P qm s k cb gb) : Calls Tryd.prog 11 #[.pointer (some ⟨L.hb, 0, none⟩)] w fun e w' => e = .returned (.int .i64 0) ∧ At W w' L X own c g W0 R T C P qm s k cb gb := by
  refine (hcheck_any a.h.hr).mono ?_
  rintro e w' ⟨rfl, hr, hf⟩
  rw [checkE_ok HSn.sound]
  exact ⟨rfl, a.looked hr hf⟩
theorem At.shp (a : At W w L X own c g W0 R T C P qm s k cb gb) : Calls Tryd.prog 7 #[.pointer (some ⟨L.hb, 0, none⟩)] w fun e w' => ∃ A n, e = .returned (.tuple #[.slice A T n, .int .i64 0]) ∧ At W w' L X own c g W0 R T C P qm s k cb gb := by
  refine (hshape_ok a.h.hr HSn.sound).mono ?_
  rintro e w' ⟨A, n, G, rfl, _, _, hr, hf⟩
  have hl : (shape (HSn g W0 R (R * W0) T).gs (HSn g W0 R (R * W0) T).T).length = T := HSn.shape_len
  rw [hl]
  exact ⟨A, n, rfl, a.looked hr hf⟩
theorem At.row (a : At W w L X own c g W0 R T C P qm s k cb gb) (r : Int) {er : Int} (hr : (HSn g W0 R (R * W0) T).rowL r = [] ∧ (HSn g W0 R (R * W0) T).rowE r = er) : Calls Tryd.prog 14 #[.pointer (some ⟨L.hb, 0, none⟩), .int .i64 r] w fun e w' => ∃ A n, e = .returned (.tuple #[.slice A 0 n, .int .i64 er]) ∧ At W w' L X own c g W0 R T C P qm s k cb gb := by
  refine (hrow_any a.h.hr r).mono ?_
  rintro e w' ⟨A, n, rfl, _, h1, hf⟩
  rw [hr.1, hr.2]
  exact ⟨A, n, rfl, a.looked h1 hf⟩
theorem At.room (a : At W w L X own c g W0 R T C P qm s k cb gb) {B : Nat} (hB : L.B = B) (h64 : B ≤ 64) {t : Nat} (ht : t < T) : Calls Tryd.prog 12 #[.pointer (some ⟨L.S t, 0, none⟩)] w fun e w' => e = .returned (.int .i64 (B : Int)) ∧ ∃ q, w' = w.drewN q := by
  obtain ⟨F, hF⟩ := a.h.hr.stk t ht
  rw [hB] at hF
  refine (hroom_any hF (Nat.zero_le _) h64).mono ?_
  rintro e w' ⟨rfl, h⟩
  exact ⟨by show Ending.returned (.int .i64 ((B : Int) - ((0 : Nat) : Int))) = _; simp, h⟩
theorem At.left (a : At W w L X own c g W0 R T C P qm s k cb gb) {t : Nat} (ht : t < T) : Calls Tryd.prog 13 #[.pointer (some ⟨L.bb, t * 2, none⟩)] w fun e w' => e = .returned (.int .i64 0) ∧ ∃ q, w' = w.drewN q := by
  have hb := a.h.hr.buf
  have e : bufV T (fun _ => 0) (fun _ => 0) = Array.replicate (T * 2) (.int .i64 0) := (made_bufs T).symm.trans (by
    refine Array.ext (by simp [madeCells]) fun i h1 h2 => ?_
    simp [madeCells]
    rcases (show i % 2 = 0 ∨ i % 2 = 1 by omega) with e | e
    · simp [e]
    · simp [e])
  have hb : Blk w L.bb 54 (Array.replicate (T * 2) (.int .i64 0)) := e ▸ hb
  refine (bleft_off (x := 0) (y := 0) ?_ ?_ (by decide) (by decide) (by decide)).mono fun e w' h => h
  · exact (hb.cell (t * 2)).trans (by rw [Array.getElem?_replicate, if_pos (by omega)])
  · exact (hb.cell (t * 2 + 1)).trans (by rw [Array.getElem?_replicate, if_pos (by omega)])
end
end Go.Proofs.YtkmnbaecohhcaaaDoor.HeapNews
