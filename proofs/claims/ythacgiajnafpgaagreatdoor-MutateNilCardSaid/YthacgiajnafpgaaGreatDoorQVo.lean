/- Package heap: a table's call changes its own table alone. -/
import Derived.Test.YthacgiajnafpgaaGreatDoorQVm
namespace Go.Proofs.YthacgiajnafpgaaGreatDoor
set_option linter.unusedVariables false
set_option linter.unusedSimpArgs false
set_option maxRecDepth 100000
open Go.RowKit Go.Gl

section
variable {w w' : World} {L : HL} {X : HX} {tg : Tg} {own own' : Nat → Nat} {FS : Nat → List Nat} {h : HS} {x : HT} {s k : Nat} {F : List Nat} {c : Nat}
/-- What a call leaves that turns only blocks of one owner. -/
structure HRest (w' : World) (L : HL) (X : HX) (tg : Tg) (own' : Nat → Nat) (FS : Nat → List Nat) (h : HS) (x : HT) (c : Nat) : Prop where
  r1 : c ≠ 1 → Blk w' L.hb 51 (L.cells h.g h.T) ∧ Lr w' 115 L.rA h.T L.rc L.rG (stkV L.S h.T) ∧ Blk w' L.bb 295 (bufV h.T h.bx h.be)
  r2 : c ≠ 2 → ∃ c, Ar w' L.ab L.aw h.n h.f c
  r3 : c ≠ 3 → Rg w' L.tb L.sb L.pb L.mb h.W h.R h.s h.t L.m
  r4 : c ≠ 4 → Of w' X.ob X.oo x.cw (h.R * x.per) x.O
  r5 : c ≠ 5 → Ct w' X.cb X.cs X.cr (h.R * x.per) x.C
  r6 : c ≠ 6 → Qq w' X.qb X.qF h.T x.qm x.qc x.ql
  r7 : c ≠ 7 → SAt w' tg X.zb x.per h.R x.σ
  r8 : c ≠ 8 → BSet w' X.mb X.mr h.n x.M
  r9 : ∀ i, i < h.T → c ≠ 100 + i → HkP w' (L.S i) (FS i) L.B (h.st i)
  rt : Tab w'
  o1 : own' L.hb = 1 ∧ own' L.bb = 1 ∧ ∀ b, b ∈ L.rG → own' b = 1
  o2 : own' L.ab = 2 ∧ own' L.aw = 2
  o3 : own' L.tb = 3 ∧ own' L.sb = 3 ∧ own' L.pb = 3 ∧ own' L.mb = 3
  o4 : own' X.ob = 4 ∧ own' X.oo = 4
  o5 : own' X.cb = 5 ∧ own' X.cs = 5 ∧ own' X.cr = 5
  o6 : ∀ b, b ∈ X.qF → own' b = 6
  o7 : ∀ b, (tg b).1 ≠ 0 → own' b = 7
  o8 : own' X.mb = 8 ∧ own' X.mr = 8
  o100 : ∀ i, i < h.T → ∀ b, b ∈ FS i → own' b = 100 + i
  o0 : own' 0 = 0
theorem Hw.rest (H : Hw w L X tg own FS h x s k) (hf : Fr F w w') (hF : ∀ b, b ∈ F → own b = c) (hc : c ≠ 0) (hu : ∀ b, b < w.heap.size → own' b = own b) : HRest w' L X tg own' FS h x c := by
  have n : ∀ {b d : Nat}, own b = d → c ≠ d → b ∉ F := fun h1 h2 h3 => h2 ((hF _ h3).symm.trans h1)
  have u : ∀ {b d : Nat}, own b = d → d ≠ 0 → own' b = d := fun h1 h2 => (hu _ (H.lt _ (by rw [h1]; exact h2))).trans h1
  refine ⟨fun e => ⟨H.st.fr hf (n H.o1.1 e), H.row.fr hf (fun g hg => n (H.o1.2.2 g hg) e), H.buf.fr hf (n H.o1.2.1 e)⟩, fun e => ?_, fun e => H.rg.fr hf (n H.o3.1 e) (n H.o3.2.1 e) (n H.o3.2.2.1 e) (n H.o3.2.2.2 e), fun e => H.of.fr hf (n H.o4.1 e) (n H.o4.2 e),
    fun e => H.ct.fr hf (n H.o5.1 e) (n H.o5.2.1 e) (n H.o5.2.2 e), fun e => H.qu.fr hf (fun b hb => n (H.o6 b hb) e), fun e => H.se.fr hf (fun b hb => ?_), fun e => H.ma.fr hf (n H.o8.1 e) (n H.o8.2 e), fun i hi e => (H.stk i hi).fr hf (fun b hb => n (H.o100 i hi b hb) e),
    H.tab.fr hf (n H.o0 hc), ⟨u H.o1.1 (by decide), u H.o1.2.1 (by decide), fun b hb => u (H.o1.2.2 b hb) (by decide)⟩, ⟨u H.o2.1 (by decide), u H.o2.2 (by decide)⟩, ⟨u H.o3.1 (by decide), u H.o3.2.1 (by decide), u H.o3.2.2.1 (by decide), u H.o3.2.2.2 (by decide)⟩,
    ⟨u H.o4.1 (by decide), u H.o4.2 (by decide)⟩, ⟨u H.o5.1 (by decide), u H.o5.2.1 (by decide), u H.o5.2.2 (by decide)⟩, fun b hb => u (H.o6 b hb) (by decide), fun b hb => u (H.o7 b hb) (by decide), ⟨u H.o8.1 (by decide), u H.o8.2 (by decide)⟩, fun i hi b hb => u (H.o100 i hi b hb) (by omega),
    (hu _ (lt_of_cell (H.tab 0 (by decide)))).trans H.o0⟩
  · obtain ⟨a, ha⟩ := H.ar
    exact ⟨a, ha.fr hf (n H.o2.1 e) (n H.o2.2 e)⟩
  · by_cases e2 : (tg b).1 = 0
    · exact e2
    · exact absurd ((hF b hb).symm.trans (H.o7 b e2)) e
theorem Hw.regs (H : Hw w L X tg own FS h x s k) {s' t' m' : Nat → Int} (hf : Fr F w w') (hF : ∀ b, b ∈ F → own b = 3) (hr : Rg w' L.tb L.sb L.pb L.mb h.W h.R s' t' m') : Hw w' { L with m := m' } X tg own FS { h with s := s', t := t' } x s k := by
  have r := H.rest (own' := own) hf hF (by decide) (fun _ _ => rfl)
  exact ⟨(r.r1 (by decide)).1, r.r2 (by decide), hr, (r.r1 (by decide)).2.1, fun i hi => r.r9 i hi (by omega), (r.r1 (by decide)).2.2, ⟨H.ok.geo, H.ok.rw, H.ok.rg, H.ok.wd, H.ok.nn, H.ok.fok, hr.sok, hr.tok, H.ok.tm, H.ok.bok, H.ok.rok, H.ok.rlen⟩, r.rt, H.dim, r.r4 (by decide), r.r5 (by decide), r.r6 (by decide), r.r7 (by decide), r.r8 (by decide), H.vo, H.vc, H.vq, H.vs, H.vm, r.o1, r.o2, r.o3, r.o4, r.o5, r.o6, r.o7, r.o8, r.o100, r.o0, fun b hb => Nat.lt_of_lt_of_le (H.lt b hb) hf.size⟩
theorem Hw.arena (H : Hw w L X tg own FS h x s k) {f' : Nat → Nat} {c' : Int} (hf : Fr F w w') (hF : ∀ b, b ∈ F → own b = 2) (ha : Ar w' L.ab L.aw h.n f' c') : Hw w' L X tg own FS { h with f := f' } x s k := by
  have r := H.rest (own' := own) hf hF (by decide) (fun _ _ => rfl)
  exact ⟨(r.r1 (by decide)).1, ⟨_, ha⟩, r.r3 (by decide), (r.r1 (by decide)).2.1, fun i hi => r.r9 i hi (by omega), (r.r1 (by decide)).2.2, ⟨H.ok.geo, H.ok.rw, H.ok.rg, H.ok.wd, H.ok.nn, ha.ok, H.ok.sok, H.ok.tok, H.ok.tm, H.ok.bok, H.ok.rok, H.ok.rlen⟩, r.rt, H.dim, r.r4 (by decide), r.r5 (by decide), r.r6 (by decide), r.r7 (by decide), r.r8 (by decide), H.vo, H.vc, H.vq, H.vs, H.vm, r.o1, r.o2, r.o3, r.o4, r.o5, r.o6, r.o7, r.o8, r.o100, r.o0, fun b hb => Nat.lt_of_lt_of_le (H.lt b hb) hf.size⟩
theorem Hw.offs (H : Hw w L X tg own FS h x s k) {O' : Nat → Int} (hf : Fr F w w') (hF : ∀ b, b ∈ F → own b = 4) (ho : Of w' X.ob X.oo x.cw (h.R * x.per) O') : Hw w' L X tg own FS h { x with O := O' } s k := by
  have r := H.rest (own' := own) hf hF (by decide) (fun _ _ => rfl)
  exact ⟨(r.r1 (by decide)).1, r.r2 (by decide), r.r3 (by decide), (r.r1 (by decide)).2.1, fun i hi => r.r9 i hi (by omega), (r.r1 (by decide)).2.2, H.ok, r.rt, H.dim, ho, r.r5 (by decide), r.r6 (by decide), r.r7 (by decide), r.r8 (by decide), H.vo, H.vc, H.vq, H.vs, H.vm, r.o1, r.o2, r.o3, r.o4, r.o5, r.o6, r.o7, r.o8, r.o100, r.o0, fun b hb => Nat.lt_of_lt_of_le (H.lt b hb) hf.size⟩
theorem Hw.cards (H : Hw w L X tg own FS h x s k) {C' : List Nat} (hf : Fr F w w') (hF : ∀ b, b ∈ F → own b = 5) (ho : Ct w' X.cb X.cs X.cr (h.R * x.per) C') : Hw w' L X tg own FS h { x with C := C' } s k := by
  have r := H.rest (own' := own) hf hF (by decide) (fun _ _ => rfl)
  exact ⟨(r.r1 (by decide)).1, r.r2 (by decide), r.r3 (by decide), (r.r1 (by decide)).2.1, fun i hi => r.r9 i hi (by omega), (r.r1 (by decide)).2.2, H.ok, r.rt, H.dim, r.r4 (by decide), ho, r.r6 (by decide), r.r7 (by decide), r.r8 (by decide), H.vo, H.vc, H.vq, H.vs, H.vm, r.o1, r.o2, r.o3, r.o4, r.o5, r.o6, r.o7, r.o8, r.o100, r.o0, fun b hb => Nat.lt_of_lt_of_le (H.lt b hb) hf.size⟩
theorem Hw.marks (H : Hw w L X tg own FS h x s k) {M' : List Nat} (hf : Fr F w w') (hF : ∀ b, b ∈ F → own b = 8) (ho : BSet w' X.mb X.mr h.n M') : Hw w' L X tg own FS h { x with M := M' } s k := by
  have r := H.rest (own' := own) hf hF (by decide) (fun _ _ => rfl)
  exact ⟨(r.r1 (by decide)).1, r.r2 (by decide), r.r3 (by decide), (r.r1 (by decide)).2.1, fun i hi => r.r9 i hi (by omega), (r.r1 (by decide)).2.2, H.ok, r.rt, H.dim, r.r4 (by decide), r.r5 (by decide), r.r6 (by decide), r.r7 (by decide), ho, H.vo, H.vc, H.vq, H.vs, H.vm, r.o1, r.o2, r.o3, r.o4, r.o5, r.o6, r.o7, r.o8, r.o100, r.o0, fun b hb => Nat.lt_of_lt_of_le (H.lt b hb) hf.size⟩
/-- The owners when new blocks have come to one of them. -/
def ownNew (own : Nat → Nat) (B : Nat) (p : Nat → Prop) [DecidablePred p] (c : Nat) (x : Nat) : Nat := if x < B then own x else if p x then c else 0
theorem Hw.sets (H : Hw w L X tg own FS h x s k) {tg' : Tg} {σ' : RS} (hf : Fr F w w') (hF : ∀ b, b ∈ F → (tg b).1 ≠ 0) (hu : TgUp w tg tg') (ho : SAt w' tg' X.zb x.per h.R σ') :
    ∃ own', Hw w' L X tg' own' FS h { x with σ := σ' } s k ∧ (∀ b, own' b ≠ 0 → own b ≠ 0 ∨ w.heap.size ≤ b) ∧ ∀ b, b < w.heap.size → own' b = own b := by
  have h1 : ∀ b, b < w.heap.size → ownNew own w.heap.size (fun b => (tg' b).1 ≠ 0) 7 b = own b := fun b hb => by unfold ownNew; rw [if_pos hb]
  have r := H.rest (own' := ownNew own w.heap.size (fun b => (tg' b).1 ≠ 0) 7) hf (fun b hb => H.o7 b (hF b hb)) (by decide) h1
  refine ⟨_, ⟨(r.r1 (by decide)).1, r.r2 (by decide), r.r3 (by decide), (r.r1 (by decide)).2.1, fun i hi => r.r9 i hi (by omega), (r.r1 (by decide)).2.2, H.ok, r.rt, H.dim, r.r4 (by decide), r.r5 (by decide), r.r6 (by decide), ho, r.r8 (by decide), H.vo, H.vc, H.vq, H.vs, H.vm, r.o1, r.o2, r.o3, r.o4, r.o5, r.o6, fun b hb => ?_, r.o8, r.o100, r.o0, fun b hb => ?_⟩, fun b hb => ?_, h1⟩
  · by_cases e : b < w.heap.size
    · rw [h1 b e]
      rw [hu b e] at hb
      exact H.o7 b hb
    · unfold ownNew
      rw [if_neg e, if_pos hb]
  · have hs := hf.size
    by_cases e : b < w.heap.size
    · omega
    · unfold ownNew at hb
      rw [if_neg e] at hb
      by_cases e2 : (tg' b).1 ≠ 0
      · exact ho.tok b e2
      · rw [if_neg e2] at hb
        exact absurd rfl hb
  · by_cases e : b < w.heap.size
    · rw [h1 b e] at hb
      exact .inl hb
    · exact .inr (by omega)
theorem Hw.stack (H : Hw w L X tg own FS h x s k) {i : Nat} (hi : i < h.T) {F' : List Nat} {l : List Int} (hf : Fr (FS i) w w') (ho : HkP w' (L.S i) F' L.B l) (hn : ∀ b, b ∈ F' → b ∈ FS i ∨ w.heap.size ≤ b) (hl : l.length ≤ 64) (hr : ∀ r, r ∈ l → 0 ≤ r ∧ r < 18446744073709551616) :
    ∃ own', Hw w' L X tg own' (setN FS i F') { h with st := setN h.st i l } x s k ∧ (∀ b, own' b ≠ 0 → own b ≠ 0 ∨ w.heap.size ≤ b) ∧ ∀ b, b < w.heap.size → own' b = own b := by
  have h1 : ∀ b, b < w.heap.size → ownNew own w.heap.size (fun b => b ∈ F') (100 + i) b = own b := fun b hb => by unfold ownNew; rw [if_pos hb]
  have r := H.rest (own' := ownNew own w.heap.size (fun b => b ∈ F') (100 + i)) hf (fun b hb => H.o100 i hi b hb) (by omega) h1
  refine ⟨_, ⟨(r.r1 (by omega)).1, r.r2 (by omega), r.r3 (by omega), (r.r1 (by omega)).2.1, fun j hj => ?_, (r.r1 (by omega)).2.2, ⟨H.ok.geo, H.ok.rw, H.ok.rg, H.ok.wd, H.ok.nn, H.ok.fok, H.ok.sok, H.ok.tok, H.ok.tm, H.ok.bok, fun j hj => ?_, fun j hj => ?_⟩, r.rt, H.dim, r.r4 (by omega), r.r5 (by omega), r.r6 (by omega), r.r7 (by omega), r.r8 (by omega), H.vo, H.vc, H.vq, H.vs, H.vm, r.o1, r.o2, r.o3, r.o4, r.o5, r.o6, r.o7, r.o8, fun j hj b hb => ?_, r.o0, fun b hb => ?_⟩, fun b hb => ?_, h1⟩
  · show HkP w' (L.S j) (setN FS i F' j) L.B (setN h.st i l j)
    by_cases e : j = i
    · subst e
      rw [setN_at, setN_at]
      exact ho
    · rw [setN_ne _ _ e, setN_ne _ _ e]
      exact r.r9 j hj (by omega)
  · show ∀ r, r ∈ setN h.st i l j → _
    by_cases e : j = i
    · subst e
      rw [setN_at]
      exact hr
    · rw [setN_ne _ _ e]
      exact H.ok.rok j hj
  · show (setN h.st i l j).length ≤ 64
    by_cases e : j = i
    · subst e
      rw [setN_at]
      exact hl
    · rw [setN_ne _ _ e]
      exact H.ok.rlen j hj
  · by_cases e : j = i
    · subst e
      rw [setN_at] at hb
      by_cases e2 : b < w.heap.size
      · rw [h1 b e2]
        rcases hn b hb with h3 | h3
        · exact H.o100 j hj b h3
        · omega
      · unfold ownNew
        rw [if_neg e2, if_pos hb]
    · rw [setN_ne _ _ e] at hb
      exact r.o100 j hj b hb
  · have hs := hf.size
    by_cases e : b < w.heap.size
    · omega
    · unfold ownNew at hb
      rw [if_neg e] at hb
      by_cases e2 : b ∈ F'
      · exact ho.lt b e2
      · rw [if_neg e2] at hb
        exact absurd rfl hb
  · by_cases e : b < w.heap.size
    · rw [h1 b e] at hb
      exact .inl hb
    · exact .inr (by omega)
/-- A call that only looks. -/
theorem Hw.looked (H : Hw w L X tg own FS h x s k) (hr : Hr w' L h s k) (hf : Fr [L.ab] w w') : Hw w' L X tg own FS h x s k := by
  obtain ⟨c', hc⟩ := hr.ar
  exact H.arena hf (fun b hb => by simp at hb; subst hb; exact H.o2.1) hc
theorem Hw.fr0 (H : Hw w L X tg own FS h x s k) (hf : Fr [] w w') : Hw w' L X tg own FS h x s k := H.looked (H.hr.fr0 hf) (hf.mono (fun b hb => by cases hb))
end
end Go.Proofs.YthacgiajnafpgaaGreatDoor
