/- Package heap: the whole heap beside blocks that are known whole, and beside anything else that keeps to its own blocks; calls on its tables. -/
import Derived.Test.YtapglokadaibnaaGreatDoorQWg
namespace Go.Proofs.YtapglokadaibnaaGreatDoor
set_option linter.unusedVariables false
set_option linter.unusedSimpArgs false
set_option maxRecDepth 100000
open Go.RowKit Go.Gl

/-- Something beside the heap that lives in the blocks D. -/
structure Lives (D : Nat → Prop) (Q : World → Prop) : Prop where
  stay : ∀ w w' F, Q w → Fr F w w' → (∀ b, b ∈ F → ¬ D b) → Q w'
  lt : ∀ w, Q w → ∀ b, D b → b < w.heap.size
theorem Lives.none : Lives (fun _ => False) (fun _ => True) := ⟨fun _ _ _ _ _ _ => trivial, fun _ _ _ h => h.elim⟩
/-- The heap, all of it new since W; blocks E that it does not own, known whole; and what lives in the blocks D. -/
def HM (W w : World) (L : HL) (X : HX) (h : HS) (x : HT) (s k : Nat) (E : Blks) (D : Nat → Prop) (Q : World → Prop) : Prop :=
  ∃ own, HpAt W w L X own h x s k ∧ (∀ q, q ∈ E → Blk w q.1 q.2.1 q.2.2 ∧ own q.1 = 0 ∧ W.heap.size ≤ q.1 ∧ ¬ D q.1) ∧ (∀ b, D b → own b = 0 ∧ W.heap.size ≤ b) ∧ Q w
section
variable {W w w' : World} {L L' : HL} {X : HX} {tg tg' : Tg} {own own' : Nat → Nat} {FS FS' : Nat → List Nat} {h h' : HS} {x x' : HT} {s k : Nat} {E : Blks} {F : List Nat} {D : Nat → Prop} {Q : World → Prop}
theorem HE.toM (H : HE W w L X h x s k E) : HM W w L X h x s k E (fun _ => False) (fun _ => True) := by
  obtain ⟨own, h1, h2⟩ := H
  exact ⟨own, h1, fun q hq => ⟨(h2 q hq).1, (h2 q hq).2.1, (h2 q hq).2.2, fun h => h⟩, fun b h => h.elim, trivial⟩
theorem HM.toE (H : HM W w L X h x s k E D Q) : HE W w L X h x s k E := by
  obtain ⟨own, h1, h2, _⟩ := H
  exact ⟨own, h1, fun q hq => ⟨(h2 q hq).1, (h2 q hq).2.1, (h2 q hq).2.2.1⟩⟩
theorem HM.q (H : HM W w L X h x s k E D Q) : Q w := by
  obtain ⟨own, h1, h2, h3, h4⟩ := H
  exact h4
theorem HM.fr0 (hS : Lives D Q) (H : HM W w L X h x s k E D Q) (hf : Fr [] w w') : HM W w' L X h x s k E D Q := by
  obtain ⟨own, h1, h2, h3, h4⟩ := H
  exact ⟨own, h1.fr0 hf, fun q hq => ⟨(h2 q hq).1.fr hf (by simp), (h2 q hq).2⟩, h3, hS.stay w w' [] h4 hf (fun b hb => by cases hb)⟩
theorem HM.blk (H : HM W w L X h x s k E D Q) {b : Nat} {t : TypeId} {cs : Array Value} (hq : (b, t, cs) ∈ E) : Blk w b t cs := H.toE.blk hq
theorem HM.sub {E' : Blks} (H : HM W w L X h x s k E D Q) (hs : ∀ q, q ∈ E' → q ∈ E) : HM W w L X h x s k E' D Q := by
  obtain ⟨own, h1, h2, h3⟩ := H
  exact ⟨own, h1, fun q hq => h2 q (hs q hq), h3⟩
theorem HM.fr (H : HM W w L X h x s k E D Q) : Fr [] W w := H.toE.fr
theorem HM.hr (H : HM W w L X h x s k E D Q) : Hr w L h s k := H.toE.hr
theorem HM.ok (H : HM W w L X h x s k E D Q) : h.Ok s k := H.hr.ok
theorem HM.new (hS : Lives D Q) (H : HM W w L X h x s k E D Q) (hf : Fr [] w w') {b : Nat} {t : TypeId} {cs : Array Value} (hb : Blk w' b t cs) (hb2 : w.heap.size ≤ b) : HM W w' L X h x s k ((b, t, cs) :: E) D Q := by
  obtain ⟨own, h1, h2, h3, h4⟩ := H
  have hsz := h1.fr.size
  have h0 : own b = 0 := by
    obtain ⟨tg, FS, H, _⟩ := h1
    by_cases e : own b = 0
    · exact e
    · have := H.lt b e; omega
  refine ⟨own, h1.fr0 hf, fun q hq => ?_, h3, hS.stay w w' [] h4 hf (fun b hb => by cases hb)⟩
  rcases List.mem_cons.1 hq with rfl | hq
  · exact ⟨hb, h0, by show W.heap.size ≤ b; omega, fun hd => by have := hS.lt w h4 b hd; omega⟩
  · exact ⟨(h2 q hq).1.fr hf (by simp), (h2 q hq).2⟩
theorem HM.alloc (hS : Lives D Q) (H : HM W w L X h x s k E D Q) (t : TypeId) (cs : Array Value) : HM W (w.alloc (.cells cs t)) L X h x s k ((w.heap.size, t, cs) :: E) D Q :=
  H.new hS ((Fr.refl _ _).alloc _) (Blk.new _ _ _) (Nat.le_refl _)
/-- A block beside the heap has turned. -/
theorem HM.turn (hS : Lives D Q) (hT : Tab W) {b : Nat} {t : TypeId} {cs cs' : Array Value} (H : HM W w L X h x s k ((b, t, cs) :: E) D Q) (hf : Fr [b] w w') (hb : Blk w' b t cs') (hne : ∀ q, q ∈ E → q.1 ≠ b) : HM W w' L X h x s k ((b, t, cs') :: E) D Q := by
  obtain ⟨own, h1, h2, h3, h4⟩ := H
  obtain ⟨k1, k2, k3, k4⟩ := h2 _ (List.mem_cons_self ..)
  have hlt := hT.lt
  have k3 : W.heap.size ≤ b := k3
  refine ⟨own, h1.other hf (fun y hy => ?_) (by simp; omega), fun q hq => ?_, h3, hS.stay w w' [b] h4 hf (fun y hy => by simp at hy; subst hy; exact k4)⟩
  · simp at hy; subst hy; exact ⟨k2, k3⟩
  · rcases List.mem_cons.1 hq with rfl | hq
    · exact ⟨hb, k2, k3, k4⟩
    · exact ⟨(h2 q (List.mem_cons_of_mem _ hq)).1.fr hf (by have := hne q hq; simpa using this), (h2 q (List.mem_cons_of_mem _ hq)).2⟩
theorem HM.post (hS : Lives D Q) {f : FuncId} {args : Array Value} {v : Value} (H : HM W w L X h x s k E D Q) (hc : ∀ own, HpAt W w L X own h x s k → Calls Tryz.prog f args w (HpPost W w L X own h' x' s k v)) :
    Calls Tryz.prog f args w fun e w' => e = .returned v ∧ HM W w' L X h' x' s k E D Q := by
  obtain ⟨own, h1, h2, h3, h4⟩ := H
  refine (hc own h1).mono ?_
  rintro e w' ⟨own', rfl, g1, g2⟩
  refine ⟨rfl, own', g1, fun q hq => ?_, fun b hb => ⟨(g2.2 b (hS.lt w h4 b hb)).trans (h3 b hb).1, (h3 b hb).2⟩, ?_⟩
  · obtain ⟨k1, k2, k3, k4⟩ := h2 q hq
    obtain ⟨j1, j2⟩ := g2.blk k1 k2
    exact ⟨j1, j2, k3, k4⟩
  · obtain ⟨⟨F, f1, f2⟩, _⟩ := g2
    exact hS.stay w w' F h4 f1 (fun b hb hd => f2 b hb (h3 b hd).1)
theorem HM.of (hS : Lives D Q) (hE : ∀ q, q ∈ E → Blk w q.1 q.2.1 q.2.2 ∧ own q.1 = 0 ∧ W.heap.size ≤ q.1 ∧ ¬ D q.1) (hD : ∀ b, D b → own b = 0 ∧ W.heap.size ≤ b) (hQ : Q w) (hw : Hw w' L' X tg' own' FS' h' x' s k) (h1 : Fr [] W w) (h2 : ∀ b, own b ≠ 0 → W.heap.size ≤ b)
    (hf : Fr F w w') (hF : ∀ b, b ∈ F → own b ≠ 0) (h3 : ∀ b, own' b ≠ 0 → own b ≠ 0 ∨ w.heap.size ≤ b) (hu : ∀ b, b < w.heap.size → own' b = own b) : HM W w' L' X h' x' s k E D Q := by
  have hsz := h1.size
  refine ⟨own', ⟨tg', FS', hw, h1.trans hf (fun b hb => .inr (h2 b (hF b hb))), fun b hb => ?_⟩, fun q hq => ?_, fun b hb => ⟨(hu b (hS.lt w hQ b hb)).trans (hD b hb).1, (hD b hb).2⟩, hS.stay w w' F hQ hf (fun b hb hd => hF b hb (hD b hd).1)⟩
  · rcases h3 b hb with h4 | h4
    · exact h2 b h4
    · omega
  · obtain ⟨k1, k2, k3, k4⟩ := hE q hq
    exact ⟨k1.fr hf (fun hx => hF _ hx k2), (hu _ k1.lt).trans k2, k3, k4⟩
theorem HM.of' (hS : Lives D Q) (hE : ∀ q, q ∈ E → Blk w q.1 q.2.1 q.2.2 ∧ own q.1 = 0 ∧ W.heap.size ≤ q.1 ∧ ¬ D q.1) (hD : ∀ b, D b → own b = 0 ∧ W.heap.size ≤ b) (hQ : Q w) (hw : Hw w' L' X tg' own FS' h' x' s k) (h1 : Fr [] W w) (h2 : ∀ b, own b ≠ 0 → W.heap.size ≤ b)
    (hf : Fr F w w') (hF : ∀ b, b ∈ F → own b ≠ 0) : HM W w' L' X h' x' s k E D Q := HM.of hS hE hD hQ hw h1 h2 hf hF (fun b hb => .inl hb) (fun _ _ => rfl)
theorem Hw.own3 (H : Hw w L X tg own FS h x s k) : ∀ b, b ∈ [L.sb, L.pb, L.mb] → own b = 3 := fun b hb => by
  simp at hb
  rcases hb with rfl | rfl | rfl
  · exact H.o3.2.1
  · exact H.o3.2.2.1
  · exact H.o3.2.2.2
theorem HM.release (hS : Lives D Q) (H : HM W w L X h x s k E D Q) {r : Nat} (hr : r < h.R) (hs : h.s r ≠ 0) :
    Calls Tryz.prog 89 #[.pointer (some ⟨L.tb, 0, none⟩), .int .i64 (r : Int)] w fun e w' => e = .returned (.int .i64 0) ∧
      HM W w' { L with m := put1 L.m r ((r * h.W : Nat) : Int) } X { h with s := put1 h.s r 0, t := put1 h.t r ((r * h.W : Nat) : Int) } x s k E D Q := by
  obtain ⟨own, ⟨tg, FS, H, h1, h2⟩, hE, hD, hQ⟩ := H
  refine (release_at H.rg hr hs).mono ?_
  rintro e w' ⟨rfl, hg, hf⟩
  exact ⟨rfl, HM.of' hS hE hD hQ (H.regs hf H.own3 hg) h1 h2 hf (fun b hb => by rw [H.own3 b hb]; decide)⟩
theorem HM.release_none (hS : Lives D Q) (H : HM W w L X h x s k E D Q) {r : Nat} (hr : r < h.R) (hs : h.s r = 0) :
    Calls Tryz.prog 89 #[.pointer (some ⟨L.tb, 0, none⟩), .int .i64 (r : Int)] w fun e w' => e = .returned (.int .i64 5) ∧ HM W w' L X h x s k E D Q := by
  have H0 := H
  obtain ⟨own, ⟨tg, FS, H, h1, h2⟩, hE, hD, hQ⟩ := H
  refine (Go.Proofs.YtapglokadaibnaaGreatDoor.release_none H.rg hr hs).mono ?_
  rintro e w' ⟨rfl, rfl⟩
  exact ⟨rfl, H0⟩
theorem HM.release_out (hS : Lives D Q) (H : HM W w L X h x s k E D Q) {r : Int} (hr : ¬ (0 ≤ r ∧ r < (h.R : Int))) :
    Calls Tryz.prog 89 #[.pointer (some ⟨L.tb, 0, none⟩), .int .i64 r] w fun e w' => e = .returned (.int .i64 2) ∧ HM W w' L X h x s k E D Q := by
  have H0 := H
  obtain ⟨own, ⟨tg, FS, H, h1, h2⟩, hE, hD, hQ⟩ := H
  refine (Go.Proofs.YtapglokadaibnaaGreatDoor.release_out H.rg hr).mono ?_
  rintro e w' ⟨rfl, rfl⟩
  exact ⟨rfl, H0⟩
theorem HM.setTop (hS : Lives D Q) (H : HM W w L X h x s k E D Q) {r : Nat} (hr : r < h.R) (hs : Filled (h.s r)) {c : Int} (hc1 : ((r * h.W : Nat) : Int) ≤ c) (hc2 : c ≤ ((r * h.W + h.W : Nat) : Int)) :
    Calls Tryz.prog 35 #[.pointer (some ⟨L.tb, 0, none⟩), .int .i64 (r : Int), .int .i64 c] w fun e w' => e = .returned (.int .i64 0) ∧ HM W w' L X { h with t := put1 h.t r c } x s k E D Q := by
  obtain ⟨own, ⟨tg, FS, H, h1, h2⟩, hE, hD, hQ⟩ := H
  refine (settop_at H.rg hr hs hc1 hc2).mono ?_
  rintro e w' ⟨rfl, hg, hf⟩
  exact ⟨rfl, HM.of' hS hE hD hQ (H.regs hf H.own3 hg) h1 h2 hf (fun b hb => by rw [H.own3 b hb]; decide)⟩
theorem HM.odrop (hS : Lives D Q) (H : HM W w L X h x s k E D Q) {a b : Nat} (hab : a ≤ b) (hm : b ≤ h.n) :
    Calls Tryz.prog 90 #[.pointer (some ⟨X.ob, 0, none⟩), .int .i64 (a : Int), .int .i64 (b : Int)] w fun e w' => e = .returned (.int .i64 0) ∧ HM W w' L X h { x with O := put2 x.O (cb x.cw a) (cb x.cw b) fun _ => 0 } s k E D Q := by
  obtain ⟨own, ⟨tg, FS, H, h1, h2⟩, hE, hD, hQ⟩ := H
  refine (odrop_at H.of hab (by rw [H.dim.wcards]; have := H.ok.nn; omega)).mono ?_
  rintro e w' ⟨rfl, hg, hf⟩
  have hF : ∀ b, b ∈ [X.oo] → own b = 4 := fun b hb => by
    simp at hb
    subst hb
    exact H.o4.2
  exact ⟨rfl, HM.of' hS hE hD hQ (H.offs hf hF hg) h1 h2 hf (fun b hb => by rw [hF b hb]; decide)⟩
theorem HM.setClear (hS : Lives D Q) (H : HM W w L X h x s k E D Q) {a : Nat} (ha : a < h.R) :
    Calls Tryz.prog 91 #[.pointer (some ⟨X.zb, 0, none⟩), .int .i64 (a : Int)] w fun e w' => e = .returned (.int .i64 0) ∧ HM W w' L X h { x with σ := x.σ.clear a } s k E D Q := by
  obtain ⟨own, ⟨tg, FS, H, h1, h2⟩, hE, hD, hQ⟩ := H
  refine (H.se.clear ha).mono ?_
  rintro e w' ⟨tg', F, rfl, hq, hf, hF, hu⟩
  obtain ⟨own', k1, k2, k3⟩ := H.sets hf hF hu hq
  exact ⟨rfl, HM.of hS hE hD hQ k1 h1 h2 hf (fun b hb => by rw [H.o7 b (hF b hb)]; decide) k2 k3⟩
theorem HM.setScrub (hS : Lives D Q) (H : HM W w L X h x s k E D Q) {a : Nat} (ha : a < h.R) :
    Calls Tryz.prog 92 #[.pointer (some ⟨X.zb, 0, none⟩), .int .i64 (a : Int)] w fun e w' => e = .returned (.int .i64 0) ∧ HM W w' L X h { x with σ := x.σ.scrub x.per a } s k E D Q := by
  obtain ⟨own, ⟨tg, FS, H, h1, h2⟩, hE, hD, hQ⟩ := H
  refine (H.se.scrub ha).mono ?_
  rintro e w' ⟨tg', F, rfl, hq, hf, hF, hu⟩
  obtain ⟨own', k1, k2, k3⟩ := H.sets hf hF hu hq
  exact ⟨rfl, HM.of hS hE hD hQ k1 h1 h2 hf (fun b hb => by rw [H.o7 b (hF b hb)]; decide) k2 k3⟩
theorem Hw.own8 (H : Hw w L X tg own FS h x s k) : ∀ b, b ∈ [X.mr] → own b = 8 := fun b hb => by
  simp at hb
  subst hb
  exact H.o8.2
theorem Hw.own5 (H : Hw w L X tg own FS h x s k) : ∀ b, b ∈ [X.cr] → own b = 5 := fun b hb => by
  simp at hb
  subst hb
  exact H.o5.2.2
theorem HM.mfill (hS : Lives D Q) (H : HM W w L X h x s k E D Q) (f t : Int) (on : Bool) (hf0 : -9223372036854775808 ≤ f) (hf1 : f ≤ 9223372036854775807) (ht0 : -9223372036854775808 ≤ t) (ht1 : t ≤ 9223372036854775807) :
    Calls Tryz.prog 93 #[.pointer (some ⟨X.mb, 0, none⟩), .int .i64 f, .int .i64 t, .bool on] w fun e w' => ∃ er M', e = .returned (.int .i64 er) ∧ BFilled x.M h.n f t on er M' ∧ HM W w' L X h { x with M := M' } s k E D Q := by
  obtain ⟨own, ⟨tg, FS, H, h1, h2⟩, hE, hD, hQ⟩ := H
  refine (fill_any H.ma f t on hf0 hf1 ht0 ht1).mono ?_
  rintro e w' ⟨er, M', rfl, hg, hf, hb⟩
  exact ⟨er, M', rfl, hb, HM.of' hS hE hD hQ (H.marks hf H.own8 hg) h1 h2 hf (fun b hb => by rw [H.own8 b hb]; decide)⟩
theorem HM.mput (hS : Lives D Q) (H : HM W w L X h x s k E D Q) (i : Int) :
    Calls Tryz.prog 24 #[.pointer (some ⟨X.mb, 0, none⟩), .int .i64 i] w fun e w' => ∃ c er M', e = .returned (.tuple #[.bool c, .int .i64 er]) ∧ Turned x.M h.n i true c er M' ∧ HM W w' L X h { x with M := M' } s k E D Q := by
  obtain ⟨own, ⟨tg, FS, H, h1, h2⟩, hE, hD, hQ⟩ := H
  refine (put_any H.ma i).mono ?_
  rintro e w' ⟨c, er, M', rfl, hg, hf, hb⟩
  exact ⟨c, er, M', rfl, hb, HM.of' hS hE hD hQ (H.marks hf H.own8 hg) h1 h2 hf (fun b hb => by rw [H.own8 b hb]; decide)⟩
theorem HM.dirty (hS : Lives D Q) (H : HM W w L X h x s k E D Q) (i : Int) :
    Calls Tryz.prog 25 #[.pointer (some ⟨X.cb, 0, none⟩), .int .i64 i] w fun e w' => ∃ c er C', e = .returned (.tuple #[.bool c, .int .i64 er]) ∧ Turned x.C (h.R * x.per) i true c er C' ∧ HM W w' L X h { x with C := C' } s k E D Q := by
  obtain ⟨own, ⟨tg, FS, H, h1, h2⟩, hE, hD, hQ⟩ := H
  refine (cdirty_any H.ct i).mono ?_
  rintro e w' ⟨c, er, M', rfl, hg, hf, hb⟩
  exact ⟨c, er, M', rfl, hb, HM.of' hS hE hD hQ (H.cards hf H.own5 hg) h1 h2 hf (fun b hb => by rw [H.own5 b hb]; decide)⟩
theorem HM.clean (hS : Lives D Q) (H : HM W w L X h x s k E D Q) (i : Int) :
    Calls Tryz.prog 94 #[.pointer (some ⟨X.cb, 0, none⟩), .int .i64 i] w fun e w' => ∃ c er C', e = .returned (.tuple #[.bool c, .int .i64 er]) ∧ Turned x.C (h.R * x.per) i false c er C' ∧ HM W w' L X h { x with C := C' } s k E D Q := by
  obtain ⟨own, ⟨tg, FS, H, h1, h2⟩, hE, hD, hQ⟩ := H
  refine (cclean_any H.ct i).mono ?_
  rintro e w' ⟨c, er, M', rfl, hg, hf, hb⟩
  exact ⟨c, er, M', rfl, hb, HM.of' hS hE hD hQ (H.cards hf H.own5 hg) h1 h2 hf (fun b hb => by rw [H.own5 b hb]; decide)⟩
/-- What only looks at a table, and leaves it. -/
theorem HM.see (hS : Lives D Q) (H : HM W w L X h x s k E D Q) {f : FuncId} {args : Array Value} {P : Ending → World → Prop} (hc : ∀ own, (∃ tg FS, Hw w L X tg own FS h x s k) → Calls Tryz.prog f args w fun e w' => P e w' ∧ Fr [] w w') :
    Calls Tryz.prog f args w fun e w' => P e w' ∧ HM W w' L X h x s k E D Q := by
  have H0 := H
  obtain ⟨own, ⟨tg, FS, H1, h1, h2⟩, hE⟩ := H
  refine (hc own ⟨tg, FS, H1⟩).mono ?_
  rintro e w' ⟨hp, hf⟩
  exact ⟨hp, H0.fr0 hS hf⟩
theorem HM.mhas (hS : Lives D Q) (H : HM W w L X h x s k E D Q) (i : Int) :
    Calls Tryz.prog 28 #[.pointer (some ⟨X.mb, 0, none⟩), .int .i64 i] w fun e w' => e = .returned (.bool (inSet x.M i)) ∧ HM W w' L X h x s k E D Q :=
  H.see hS fun own ⟨tg, FS, H⟩ => (has_any H.ma i).mono (by rintro e w' ⟨rfl, q, rfl⟩; exact ⟨rfl, (Fr.refl _ _).drewN q⟩)
theorem HM.cis (hS : Lives D Q) (H : HM W w L X h x s k E D Q) (i : Int) :
    Calls Tryz.prog 29 #[.pointer (some ⟨X.cb, 0, none⟩), .int .i64 i] w fun e w' => e = .returned (.bool (inSet x.C i)) ∧ HM W w' L X h x s k E D Q :=
  H.see hS fun own ⟨tg, FS, H⟩ => (cis_any H.ct i).mono (by rintro e w' ⟨rfl, q, rfl⟩; exact ⟨rfl, (Fr.refl _ _).drewN q⟩)
theorem HM.ofirst (hS : Lives D Q) (H : HM W w L X h x s k E D Q) {c : Nat} (hc : c < h.R * x.per) :
    Calls Tryz.prog 33 #[.pointer (some ⟨X.ob, 0, none⟩), .int .i64 (c : Int)] w fun e w' => e = .returned (.tuple #[.int .i64 (if x.O c = 0 then 0 else x.O c - 1), .int .i64 (if x.O c = 0 then 5 else 0)]) ∧ HM W w' L X h x s k E D Q :=
  H.see hS fun own ⟨tg, FS, H⟩ => (ofirst_at H.of hc).mono (by rintro e w' ⟨rfl, rfl⟩; exact ⟨rfl, Fr.refl _ _⟩)
theorem HM.state (hS : Lives D Q) (H : HM W w L X h x s k E D Q) (a : Int) :
    Calls Tryz.prog 22 #[.pointer (some ⟨L.tb, 0, none⟩), .int .i64 a] w fun e w' => e = .returned (.int .i64 (h.stateOf a)) ∧ HM W w' L X h x s k E D Q :=
  H.see hS fun own ⟨tg, FS, H⟩ => (hstate_any H.hr a).mono (by rintro e w' ⟨rfl, rfl⟩; exact ⟨rfl, Fr.refl _ _⟩)
theorem HM.top (hS : Lives D Q) (H : HM W w L X h x s k E D Q) {r : Nat} (hr : r < h.R) :
    Calls Tryz.prog 39 #[.pointer (some ⟨L.tb, 0, none⟩), .int .i64 (r : Int)] w fun e w' => e = .returned (.int .i64 (h.t r)) ∧ HM W w' L X h x s k E D Q :=
  H.see hS fun own ⟨tg, FS, H⟩ => (top_at H.rg hr).mono (by rintro e w' ⟨rfl, rfl⟩; exact ⟨rfl, Fr.refl _ _⟩)
theorem HM.scards (hS : Lives D Q) (H : HM W w L X h x s k E D Q) {a : Nat} (ha : a < h.R) :
    Calls Tryz.prog 30 #[.pointer (some ⟨X.zb, 0, none⟩), .int .i64 (a : Int)] w fun e w' => (∃ A c G, e = .returned (.slice A (allOf x.σ x.per h.R a).length c) ∧ Lr w' 3 A (allOf x.σ x.per h.R a).length c G (zv (allOf x.σ x.per h.R a)) ∧ (∀ g, g ∈ G → w.heap.size ≤ g) ∧ Fr [] w w') ∧ HM W w' L X h x s k E D Q :=
  H.see hS fun own ⟨tg, FS, H⟩ => (H.se.cards H.tab ha).mono (by
    rintro e w' ⟨A, c, G, rfl, hl, hf, hg⟩
    exact ⟨⟨A, c, G, rfl, hl, fun g hx => by rcases hg g hx with h1 | h1; cases h1; exact h1, hf⟩, hf⟩)
theorem HM.base (hS : Lives D Q) (H : HM W w L X h x s k E D Q) (a : Int) : Calls Tryz.prog 23 #[.agg #[.int .i64 h.g.words, .int .i64 h.g.rw, .int .i64 h.g.cw, .int .i64 h.g.regions, .int .i64 h.g.cards, .int .i64 h.g.max], .int .i64 a] w fun e w' => e = .returned (.tuple #[.int .i64 (if 0 ≤ a ∧ a < (h.R : Int) then a * (h.W : Int) else 0), .int .i64 (if 0 ≤ a ∧ a < (h.R : Int) then 0 else 2)]) ∧ HM W w' L X h x s k E D Q :=
  H.see hS fun own ⟨tg, FS, H⟩ => (H.hr.base a (Fr.refl _ _))
theorem HM.region (hS : Lives D Q) (H : HM W w L X h x s k E D Q) (a : Int) : Calls Tryz.prog 32 #[.agg #[.int .i64 h.g.words, .int .i64 h.g.rw, .int .i64 h.g.cw, .int .i64 h.g.regions, .int .i64 h.g.cards, .int .i64 h.g.max], .int .i64 a] w fun e w' => e = .returned (.int .i64 (h.g.regionOf a)) ∧ HM W w' L X h x s k E D Q :=
  H.see hS fun own ⟨tg, FS, H⟩ => (H.hr.region a (Fr.refl _ _))
theorem HM.cardC (hS : Lives D Q) (H : HM W w L X h x s k E D Q) (a : Int) : Calls Tryz.prog 26 #[.agg #[.int .i64 h.g.words, .int .i64 h.g.rw, .int .i64 h.g.cw, .int .i64 h.g.regions, .int .i64 h.g.cards, .int .i64 h.g.max], .int .i64 a] w fun e w' => e = .returned (.int .i64 (h.g.cardOf a)) ∧ HM W w' L X h x s k E D Q :=
  H.see hS fun own ⟨tg, FS, H'⟩ => H.toE.card a
theorem HM.cells (H : HM W w L X h x s k E D Q) : w.cell? ⟨L.hb, 20, none⟩ = some (.pointer (some ⟨L.ab, 0, none⟩)) ∧ w.cell? ⟨L.hb, 21, none⟩ = some (.pointer (some ⟨L.tb, 0, none⟩)) ∧ w.cell? ⟨L.hb, 22, none⟩ = some (.pointer (some ⟨X.ob, 0, none⟩)) ∧
    w.cell? ⟨L.hb, 23, none⟩ = some (.pointer (some ⟨X.cb, 0, none⟩)) ∧ w.cell? ⟨L.hb, 24, none⟩ = some (.pointer (some ⟨X.qb, 0, none⟩)) ∧ w.cell? ⟨L.hb, 25, none⟩ = some (.pointer (some ⟨X.zb, 0, none⟩)) ∧ w.cell? ⟨L.hb, 26, none⟩ = some (.pointer (some ⟨X.mb, 0, none⟩)) ∧
    w.cell? ⟨L.hb, 27, none⟩ = some (.slice L.rA h.T L.rc) ∧ w.cell? ⟨L.hb, 28, none⟩ = some (.slice (some ⟨L.bb, 0, none⟩) h.T h.T) := by
  obtain ⟨own, ⟨tg, FS, H, _⟩, _⟩ := H
  have c0 := H.st.cell 20
  have c1 := H.st.cell 21
  have c2 := H.st.cell 22
  have c3 := H.st.cell 23
  have c4 := H.st.cell 24
  have c5 := H.st.cell 25
  have c6 := H.st.cell 26
  have c7 := H.st.cell 27
  have c8 := H.st.cell 28
  refine ⟨c0, c1, ?_, ?_, ?_, ?_, ?_, c7, c8⟩
  · rw [← H.vo]; exact c2
  · rw [← H.vc]; exact c3
  · rw [← H.vq]; exact c4
  · rw [← H.vs]; exact c5
  · rw [← H.vm]; exact c6
/-- The cells of a heap's struct. -/
structure Hcells (w : World) (L : HL) (X : HX) (g : Geo) (T : Nat) : Prop where
  c14 : w.cell? ⟨L.hb, 14, none⟩ = some (.int .i64 g.words)
  c15 : w.cell? ⟨L.hb, 15, none⟩ = some (.int .i64 g.rw)
  c16 : w.cell? ⟨L.hb, 16, none⟩ = some (.int .i64 g.cw)
  c17 : w.cell? ⟨L.hb, 17, none⟩ = some (.int .i64 g.regions)
  c18 : w.cell? ⟨L.hb, 18, none⟩ = some (.int .i64 g.cards)
  c19 : w.cell? ⟨L.hb, 19, none⟩ = some (.int .i64 g.max)
  c20 : w.cell? ⟨L.hb, 20, none⟩ = some (.pointer (some ⟨L.ab, 0, none⟩))
  c21 : w.cell? ⟨L.hb, 21, none⟩ = some (.pointer (some ⟨L.tb, 0, none⟩))
  c22 : w.cell? ⟨L.hb, 22, none⟩ = some (.pointer (some ⟨X.ob, 0, none⟩))
  c23 : w.cell? ⟨L.hb, 23, none⟩ = some (.pointer (some ⟨X.cb, 0, none⟩))
  c24 : w.cell? ⟨L.hb, 24, none⟩ = some (.pointer (some ⟨X.qb, 0, none⟩))
  c25 : w.cell? ⟨L.hb, 25, none⟩ = some (.pointer (some ⟨X.zb, 0, none⟩))
  c26 : w.cell? ⟨L.hb, 26, none⟩ = some (.pointer (some ⟨X.mb, 0, none⟩))
  c27 : w.cell? ⟨L.hb, 27, none⟩ = some (.slice L.rA T L.rc)
  c28 : w.cell? ⟨L.hb, 28, none⟩ = some (.slice (some ⟨L.bb, 0, none⟩) T T)
  lt : L.hb < w.heap.size
theorem HM.hc (H : HM W w L X h x s k E D Q) : Hcells w L X h.g h.T := by
  obtain ⟨a0, a1, a2, a3, a4, a5⟩ := H.hr.geo
  obtain ⟨b0, b1, b2, b3, b4, b5, b6, b7, b8⟩ := H.cells
  exact ⟨a0, a1, a2, a3, a4, a5, b0, b1, b2, b3, b4, b5, b6, b7, b8, lt_of_cell b0⟩
theorem HM.base_at (hS : Lives D Q) (H : HM W w L X h x s k E D Q) {r : Nat} (hr : r < h.R) : Calls Tryz.prog 23 #[.agg #[.int .i64 h.g.words, .int .i64 h.g.rw, .int .i64 h.g.cw, .int .i64 h.g.regions, .int .i64 h.g.cards, .int .i64 h.g.max], .int .i64 (r : Int)] w fun e w' => e = .returned (.tuple #[.int .i64 ((r * h.W : Nat) : Int), .int .i64 0]) ∧ HM W w' L X h x s k E D Q := by
  have := H.base hS (r : Int)
  have e : 0 ≤ (r : Int) ∧ (r : Int) < (h.R : Int) := by omega
  rw [if_pos e, if_pos e] at this
  rw [Int.natCast_mul]
  exact this
theorem HM.dim (H : HM W w L X h x s k E D Q) : GDims h.g h.W h.R x.cw x.per := H.toE.dim
end
end Go.Proofs.YtapglokadaibnaaGreatDoor
/- Package heap: Free. -/
namespace Go.Proofs.YtapglokadaibnaaGreatDoor
set_option linter.unusedVariables false
set_option linter.unusedSimpArgs false
set_option maxRecDepth 100000
open Go.RowKit Go.Gl

theorem cb_mul {cw n : Nat} (h : 1 ≤ cw) : cb cw (n * cw) = n := by
  have h1 := fun k => cb_lt (cw := cw) (a := n * cw) (k := k) h
  have h2 : ∀ k, k < cb cw (n * cw) ↔ k < n := fun k => (h1 k).trans (Nat.mul_lt_mul_right (by omega))
  rcases Nat.lt_trichotomy (cb cw (n * cw)) n with e | e | e
  · have := (h2 _).2 e; omega
  · exact e
  · have := (h2 _).1 e; omega
theorem GDims.card_at {g : Geo} {W R cw per : Nat} (d : GDims g W R cw per) {r i : Nat} (hr : r < R) (hi : i < per) : g.cardOf ((r * W + i * cw : Nat) : Int) = ((r * per + i : Nat) : Int) := by
  have h1 : (r * per + i) * cw = r * W + i * cw := by rw [Nat.add_mul, d.wp, Nat.mul_assoc]
  have h2 : r * W + W ≤ R * W := mul_add_le hr
  have h3 : i * cw + cw ≤ per * cw := mul_add_le hi
  have hw := d.wp
  have hc := d.c1
  unfold Geo.cardOf
  rw [if_pos ⟨by omega, by rw [d.wd]; omega⟩, d.cw, ← h1, ← Int.natCast_ediv, Nat.mul_div_cancel _ (by omega)]
/-- What Free leaves of a region that was not free. -/
def FreeP (W : World) (L : HL) (X : HX) (h : HS) (x : HT) (s k : Nat) (E : Blks) (D : Nat → Prop) (Q : World → Prop) (r : Nat) (e : Ending) (w' : World) : Prop :=
  e = .returned (.int .i64 0) ∧ ∃ C' M', (∀ j : Nat, wbit M' j = if r * h.W ≤ j ∧ j < r * h.W + h.W then false else wbit x.M j) ∧ (∀ j : Nat, wbit C' j = if r * x.per ≤ j ∧ j < r * x.per + x.per then false else wbit x.C j) ∧
      HM W w' { L with m := put1 L.m r ((r * h.W : Nat) : Int) } X { h with s := put1 h.s r 0, t := put1 h.t r ((r * h.W : Nat) : Int) } { x with O := put2 x.O (r * x.per) (r * x.per + x.per) (fun _ => 0), σ := (x.σ.clear r).scrub x.per r, M := M', C := C' } s k E D Q
section
variable {W w w' : World} {L : HL} {X : HX} {h : HS} {x : HT} {s k : Nat} {E : Blks} {D : Nat → Prop} {Q : World → Prop}
theorem hfree_none (hS : Lives D Q) (H : HM W w L X h x s k E D Q) {r : Nat} (hr : r < h.R) (hs : h.s r = 0) :
    Calls Tryz.prog 27 #[.pointer (some ⟨L.hb, 0, none⟩), .int .i64 (r : Int)] w fun e w' => e = .returned (.int .i64 5) ∧ HM W w' L X h x s k E D Q := by
  have HR := hide (H.release_none hS hr hs)
  have c21 := H.hc.c21
  clear H
  go_enter Tryz.func27, Tryz.ntmps27
  go_wp2_with fail
  refine HR.out.mono ?_
  rintro e w1 ⟨rfl, hA⟩
  have HA := hide hA
  clear hA
  go_wp2_with fail
  go_ret
  exact ⟨rfl, HA.out⟩
theorem hfree_out (hS : Lives D Q) (H : HM W w L X h x s k E D Q) {r : Int} (hr : ¬ (0 ≤ r ∧ r < (h.R : Int))) :
    Calls Tryz.prog 27 #[.pointer (some ⟨L.hb, 0, none⟩), .int .i64 r] w fun e w' => e = .returned (.int .i64 2) ∧ HM W w' L X h x s k E D Q := by
  have HR := hide (H.release_out hS hr)
  have c21 := H.hc.c21
  clear H hr
  go_enter Tryz.func27, Tryz.ntmps27
  go_wp2_with fail
  refine HR.out.mono ?_
  rintro e w1 ⟨rfl, hA⟩
  have HA := hide hA
  clear hA
  go_wp2_with fail
  go_ret
  exact ⟨rfl, HA.out⟩
set_option maxHeartbeats 3200000 in
theorem hfree_in (hS : Lives D Q) (H : HM W w L X h x s k E D Q) {r : Nat} (hr : r < h.R) (hs : h.s r ≠ 0) :
    Calls Tryz.prog 27 #[.pointer (some ⟨L.hb, 0, none⟩), .int .i64 (r : Int)] w (FreeP W L X h x s k E D Q r) := by
  have ok := H.ok
  have dm := H.dim
  have hb := ok.base_le hr
  have hn := ok.nmax
  have hc1 := dm.c1
  have hcw := dm.cw
  have hrw := dm.rw
  have hwp := dm.wp
  have e1 : cb x.cw (r * h.W) = r * x.per := by rw [hwp, ← Nat.mul_assoc]; exact cb_mul hc1
  have e2 : cb x.cw (r * h.W + h.W) = r * x.per + x.per := by rw [← Nat.succ_mul, hwp, ← Nat.mul_assoc]; exact (cb_mul hc1).trans (Nat.succ_mul _ _)
  have HRel := hide (H.release hS hr hs)
  have HSt := hide hS
  have c21 := H.hc.c21
  have HCd := hide (fun i (hi : i < x.per) => dm.card_at hr hi)
  obtain ⟨L1, hL1⟩ : ∃ L1, L1 = ({ L with m := put1 L.m r ((r * h.W : Nat) : Int) } : HL) := ⟨_, rfl⟩
  obtain ⟨h1, hh1⟩ : ∃ h1, h1 = ({ h with s := put1 h.s r 0, t := put1 h.t r ((r * h.W : Nat) : Int) } : HS) := ⟨_, rfl⟩
  rw [← hL1, ← hh1] at HRel
  have k1 : h1.g = h.g := by rw [hh1]
  have k2 : h1.R = h.R := by rw [hh1]
  have k3 : h1.W = h.W := by rw [hh1]
  have k4 : h1.n = h.n := by rw [hh1]
  have k5 : h1.T = h.T := by rw [hh1]
  have j1 : L1.hb = L.hb := by rw [hL1]
  have j2 : L1.tb = L.tb := by rw [hL1]
  have HBase : Hid (∀ w', HM W w' L1 X h1 x s k E D Q → Calls Tryz.prog 23 #[.agg #[.int .i64 h.g.words, .int .i64 h.g.rw, .int .i64 h.g.cw, .int .i64 h.g.regions, .int .i64 h.g.cards, .int .i64 h.g.max], .int .i64 (r : Int)] w' fun e w'' => e = .returned (.tuple #[.int .i64 ((r * h.W : Nat) : Int), .int .i64 0]) ∧ HM W w'' L1 X h1 x s k E D Q) := fun w' q => by
    have := q.base_at hS (r := r) (by omega)
    rwa [k1, k3] at this
  obtain ⟨x1, hx1⟩ : ∃ x1, x1 = ({ x with O := put2 x.O (r * x.per) (r * x.per + x.per) fun _ => 0 } : HT) := ⟨_, rfl⟩
  obtain ⟨x2, hx2⟩ : ∃ x2, x2 = ({ x1 with σ := x1.σ.clear r } : HT) := ⟨_, rfl⟩
  obtain ⟨x3, hx3⟩ : ∃ x3, x3 = ({ x2 with σ := x2.σ.scrub x2.per r } : HT) := ⟨_, rfl⟩
  have p3 : x3.per = x.per := by rw [hx3, hx2, hx1]
  have p4 : x3.M = x.M := by rw [hx3, hx2, hx1]
  have p5 : x3.C = x.C := by rw [hx3, hx2, hx1]
  obtain ⟨b0, hb0⟩ : ∃ b0 : Nat, b0 = r * h.W := ⟨_, rfl⟩
  obtain ⟨b1, hb1⟩ : ∃ b1 : Nat, b1 = r * h.W + h.W := ⟨_, rfl⟩
  have HDrop : Hid (∀ w', HM W w' L1 X h1 x s k E D Q → Calls Tryz.prog 90 #[.pointer (some ⟨X.ob, 0, none⟩), .int .i64 (b0 : Int), .int .i64 (b1 : Int)] w' fun e w'' => e = .returned (.int .i64 0) ∧ HM W w'' L1 X h1 x1 s k E D Q) := fun w' q => by
    have := q.odrop hS (a := b0) (b := b1) (by omega) (by omega)
    rw [hb0, hb1, e1, e2, ← hx1] at this
    rwa [hb0, hb1]
  have HClr : Hid (∀ w', HM W w' L1 X h1 x1 s k E D Q → Calls Tryz.prog 91 #[.pointer (some ⟨X.zb, 0, none⟩), .int .i64 (r : Int)] w' fun e w'' => e = .returned (.int .i64 0) ∧ HM W w'' L1 X h1 x2 s k E D Q) := fun w' q => by
    have := q.setClear hS (a := r) (by omega)
    rwa [← hx2] at this
  have HScr : Hid (∀ w', HM W w' L1 X h1 x2 s k E D Q → Calls Tryz.prog 92 #[.pointer (some ⟨X.zb, 0, none⟩), .int .i64 (r : Int)] w' fun e w'' => e = .returned (.int .i64 0) ∧ HM W w'' L1 X h1 x3 s k E D Q) := fun w' q => by
    have := q.setScrub hS (a := r) (by omega)
    rwa [← hx3] at this
  have HFill : Hid (∀ w', HM W w' L1 X h1 x3 s k E D Q → Calls Tryz.prog 93 #[.pointer (some ⟨X.mb, 0, none⟩), .int .i64 (b0 : Int), .int .i64 (b1 : Int), .bool false] w' fun e w'' => ∃ er M', e = .returned (.int .i64 er) ∧ (∀ j : Nat, wbit M' j = if b0 ≤ j ∧ j < b1 then false else wbit x.M j) ∧ HM W w'' L1 X h1 { x3 with M := M' } s k E D Q) := fun w' q => by
    refine (q.mfill hS (b0 : Int) (b1 : Int) false (by omega) (by omega) (by omega) (by omega)).mono ?_
    rintro e w'' ⟨er, M', rfl, hb, hq⟩
    refine ⟨er, M', rfl, fun j => ?_, hq⟩
    rcases hb with ⟨_, _, _, _, hb⟩ | ⟨hb, _⟩
    · rw [hb j, p4]
      by_cases e : b0 ≤ j ∧ j < b1
      · rw [if_pos e, if_pos (by omega)]
      · rw [if_neg e, if_neg (by omega)]
    · exact absurd (by omega) hb
  have HCardC : Hid (∀ w' x' a, HM W w' L1 X h1 x' s k E D Q → Calls Tryz.prog 26 #[.agg #[.int .i64 h.g.words, .int .i64 h.g.rw, .int .i64 h.g.cw, .int .i64 h.g.regions, .int .i64 h.g.cards, .int .i64 h.g.max], .int .i64 a] w' fun e w'' => e = .returned (.int .i64 (h.g.cardOf a)) ∧ HM W w'' L1 X h1 x' s k E D Q) := fun w' x' a q => by
    have := q.cardC hS a
    rwa [k1] at this
  have HClean : Hid (∀ w' M' C' i, i < x.per → (∀ j : Nat, wbit C' j = if r * x.per ≤ j ∧ j < r * x.per + i then false else wbit x.C j) → HM W w' L1 X h1 { x3 with M := M', C := C' } s k E D Q → Calls Tryz.prog 94 #[.pointer (some ⟨X.cb, 0, none⟩), .int .i64 ((r * x.per + i : Nat) : Int)] w' fun e w'' => ∃ c er C'', e = .returned (.tuple #[.bool c, .int .i64 er]) ∧ (∀ j : Nat, wbit C'' j = if r * x.per ≤ j ∧ j < r * x.per + (i + 1) then false else wbit x.C j) ∧ HM W w'' L1 X h1 { x3 with M := M', C := C'' } s k E D Q) := fun w' M' C' i hi hC q => by
    refine (q.clean hS ((r * x.per + i : Nat) : Int)).mono ?_
    rintro e w'' ⟨c, er, C'', rfl, ht, hq⟩
    refine ⟨c, er, C'', rfl, fun j => ?_, hq⟩
    have hlt : r * x.per + x.per ≤ h.R * x.per := mul_add_le hr
    rcases ht with ⟨_, _, _, _, ht⟩ | ⟨ht, _⟩
    · rw [ht j, hC j, Int.toNat_natCast]
      by_cases e : j = r * x.per + i
      · rw [if_pos e, if_pos (by omega)]
      · rw [if_neg e]
        by_cases e2 : r * x.per ≤ j ∧ j < r * x.per + i
        · rw [if_pos e2, if_pos (by omega)]
        · rw [if_neg e2, if_neg (by omega)]
    · exact absurd ⟨by omega, by show ((r * x.per + i : Nat) : Int) < ((h1.R * x3.per : Nat) : Int); rw [k2, p3]; omega⟩ ht
  have HCells : Hid (∀ w' x', HM W w' L1 X h1 x' s k E D Q → Hcells w' L X h.g h.T) := fun w' x' q => by
    have := q.hc
    rw [k1, k5] at this
    obtain ⟨a1, a2, a3, a4, a5, a6, a7, a8, a9, a10, a11, a12, a13, a14, a15, a16⟩ := this
    rw [hL1] at *
    exact ⟨a1, a2, a3, a4, a5, a6, a7, a8, a9, a10, a11, a12, a13, a14, a15, a16⟩
  have HFin : Hid (∀ w' M' C', (∀ j : Nat, wbit M' j = if b0 ≤ j ∧ j < b1 then false else wbit x.M j) → (∀ j : Nat, wbit C' j = if r * x.per ≤ j ∧ j < r * x.per + x.per then false else wbit x.C j) → HM W w' L1 X h1 { x3 with M := M', C := C' } s k E D Q → FreeP W L X h x s k E D Q r (.returned (.int .i64 0)) w') := fun w' M' C' hM hC q => by
    refine ⟨rfl, C', M', by rw [← hb1, ← hb0]; exact hM, hC, ?_⟩
    rw [← hL1, ← hh1]
    rw [hx3, hx2, hx1] at q
    exact q
  have HG := hide (show h.g.rw = (h.W : Int) ∧ h.g.cw = (x.cw : Int) from ⟨hrw, hcw⟩)
  have HW := hide (show b1 = b0 + x.per * x.cw from by rw [hb1, hb0, ← hwp])
  have HB : Hid ((b1 : Int) ≤ 4194304) := by show _ ≤ _; omega
  have HC0 : Hid (x3 = { x3 with C := x.C }) := by show _ = _; rw [← p5]
  rw [← hb0] at HBase HCd
  have HBB : Hid (b1 = b0 + h.W) := by show _ = _; omega
  have HBZ := hide hb0
  have HCP : Hid (1 ≤ x.cw) := hc1
  generalize x.cw = cw at *
  generalize hP : x.per = P at *
  clear ok dm hb hn hc1 hcw hrw hwp e1 e2 hS H k1 k2 k3 k4 k5 j1 j2 hL1 hh1 hx1 hx2 hx3 p3 p4 hb0 hb1 hs
  go_enter Tryz.func27, Tryz.ntmps27
  go_wp2_with fail
  refine HRel.out.mono ?_
  rintro e w1 ⟨rfl, hA⟩
  have HA := hide hA
  obtain ⟨c14, c15, c16, c17, c18, c19, -, -, -, -, -, -, -, -, -, NH⟩ := HCells.out _ _ hA
  clear hA HRel
  go_wp2_with fail
  refine (HBase.out _ HA.out).mono ?_
  rintro e w2 ⟨rfl, hA⟩
  replace HA := hide hA
  clear c14 c15 c16 c17 c18 c19 NH
  obtain ⟨c14, c15, c16, c17, c18, c19, c20, c21, c22, c23, c24, c25, c26, -, -, NH⟩ := HCells.out _ _ hA
  rw [HG.out.1] at c15
  have hs : IntKind.i64.wrap ((b0 : Int) + (h.W : Int)) = (b1 : Int) := by
    have h1 := HB.out
    have h2 := HBB.out
    rw [IntWalk.i64_in _ ⟨by omega, by omega⟩]
    omega
  clear hA
  go_wp2_with fail
  refine (HDrop.out _ HA.out).mono ?_
  rintro e w3 ⟨rfl, hA⟩
  replace HA := hide hA
  clear c14 c15 c16 c17 c18 c19 c20 c21 c22 c23 c24 c25 c26 NH
  obtain ⟨-, -, -, -, -, -, -, -, -, -, -, c25, -, -, -, NH⟩ := HCells.out _ _ hA
  clear hA
  go_wp2_with fail
  refine (HClr.out _ HA.out).mono ?_
  rintro e w4 ⟨rfl, hA⟩
  replace HA := hide hA
  clear c25 NH
  obtain ⟨-, -, -, -, -, -, -, -, -, -, -, c25, -, -, -, NH⟩ := HCells.out _ _ hA
  clear hA
  go_wp2_with fail
  refine (HScr.out _ HA.out).mono ?_
  rintro e w5 ⟨rfl, hA⟩
  replace HA := hide hA
  clear c25 NH
  obtain ⟨-, -, -, -, -, -, -, -, -, -, -, -, c26, -, -, NH⟩ := HCells.out _ _ hA
  clear hA
  go_wp2_with fail
  refine (HFill.out _ HA.out).mono ?_
  rintro e w6 ⟨er, M', rfl, hM, hA⟩
  replace HA := hide hA
  have HM' := hide hM
  clear c26 NH hM
  go_wp2_with fail
  go_loopw [9] (fun a wr => ∃ (i : Nat) (C' : List Nat), a = .int .i64 ((b0 + i * cw : Nat) : Int) ∧ i ≤ P ∧ (∀ j : Nat, wbit C' j = if r * P ≤ j ∧ j < r * P + i then false else wbit x.C j) ∧ HM W wr L1 X h1 { x3 with M := M', C := C' } s k E D Q) (fun a _ => b1 - (intOf a).toNat)
  case atStart => exact ⟨0, x.C, by simp, Nat.zero_le _, fun j => by rw [if_neg (by omega)], by have := HA.out; rw [HC0.out] at this; exact this⟩
  case round =>
    obtain ⟨i, C', rfl, hi, hC, hA⟩ := hrel
    replace HA := hide hA
    have HCi := hide hC
    clear hC hA
    by_cases hlt : i < P
    · have hm := mul_add_le (W := cw) hlt
      have hw2 := HW.out
      have hp2 := HCP.out
      have g1 : ((b0 + i * cw : Nat) : Int) < (b1 : Int) := by omega
      have hB2 := HB.out
      have K0 := HCells.out _ _ HA.out
      have HCa := HCd.out i hlt
      have HLT := hide hlt
      have HI := hide hi
      have HMS : Hid (b0 + i * cw + cw = b0 + (i + 1) * cw) := by show _ = _; rw [Nat.add_mul]; omega
      have HMM := hide hm
      have HIA : Hid (b0 + i * cw + cw ≤ b1 ∧ (b1 : Int) ≤ 4194304) := ⟨by omega, by omega⟩
      obtain ⟨ai, hai⟩ : ∃ ai : Nat, ai = b0 + i * cw := ⟨_, rfl⟩
      rw [← hai] at g1 HCa HMS HIA ⊢
      clear hm hw2 hp2 hB2 hlt hi hai
      have HCA := hide HCa
      clear HCa
      go_wp2_with fail
      have HAd := hide (HA.out.fr0 HSt.out (Fr.refl _ _).drew)
      have K0 := HCells.out _ _ HAd.out
      have HCLi := hide (fun w' q => HClean.out w' M' C' i HLT.out HCi.out q)
      clear HClean HFin HFill HScr HClr HDrop HBase
      obtain ⟨c14, c15, c16, c17, c18, c19, -, -, -, c23, -, -, -, -, -, NH⟩ := K0
      have HC2 : Hid (∀ w' x', HM W w' L1 X h1 x' s k E D Q → w'.cell? ⟨L.hb, 14, none⟩ = some (.int .i64 h.g.words) ∧ w'.cell? ⟨L.hb, 15, none⟩ = some (.int .i64 h.g.rw) ∧ w'.cell? ⟨L.hb, 16, none⟩ = some (.int .i64 h.g.cw) ∧ w'.cell? ⟨L.hb, 17, none⟩ = some (.int .i64 h.g.regions) ∧ w'.cell? ⟨L.hb, 18, none⟩ = some (.int .i64 h.g.cards) ∧ w'.cell? ⟨L.hb, 19, none⟩ = some (.int .i64 h.g.max) ∧ w'.cell? ⟨L.hb, 23, none⟩ = some (.pointer (some ⟨X.cb, 0, none⟩))) := fun w' x' q => by
        obtain ⟨a1, a2, a3, a4, a5, a6, a7, a8, a9, a10, a11, a12, a13, a14, a15, a16⟩ := HCells.out _ _ q
        exact ⟨a1, a2, a3, a4, a5, a6, a10⟩
      have K0 := HC2.out _ _ HAd.out
      have HCA1 : Hid (∀ w' x', HM W w' L1 X h1 x' s k E D Q → Calls Tryz.prog 26 #[.agg #[.int .i64 h.g.words, .int .i64 h.g.rw, .int .i64 h.g.cw, .int .i64 h.g.regions, .int .i64 h.g.cards, .int .i64 h.g.max], .int .i64 (ai : Int)] w' fun e w'' => e = .returned (.int .i64 ((r * P + i : Nat) : Int)) ∧ HM W w'' L1 X h1 x' s k E D Q) := fun w' x' q => by
        have := HCardC.out w' x' (ai : Int) q
        rwa [HCA.out] at this
      obtain ⟨kc, hkc⟩ : ∃ kc : Nat, kc = r * P + i := ⟨_, rfl⟩
      rw [← hkc] at HCLi HCA1
      clear hkc c14 c15 c16 c17 c18 c19 c23
      go_region_held3 (fun w' => w'.cell? ⟨L.hb, 14, none⟩ = some (.int .i64 h.g.words) ∧ w'.cell? ⟨L.hb, 15, none⟩ = some (.int .i64 h.g.rw) ∧ w'.cell? ⟨L.hb, 16, none⟩ = some (.int .i64 h.g.cw) ∧ w'.cell? ⟨L.hb, 17, none⟩ = some (.int .i64 h.g.regions) ∧ w'.cell? ⟨L.hb, 18, none⟩ = some (.int .i64 h.g.cards) ∧ w'.cell? ⟨L.hb, 19, none⟩ = some (.int .i64 h.g.max) ∧ w'.cell? ⟨L.hb, 23, none⟩ = some (.pointer (some ⟨X.cb, 0, none⟩)))
        (first | with_reducible exact K0 | go_keep)
        (first | (go_at_call 26; refine (HCA1.out _ _ HAd.out).mono ?_; rintro e w7 ⟨rfl, hA⟩; replace HAd := hide hA; have K0 := HC2.out _ _ hA; clear hA) | (go_at_call 94; refine (HCLi.out _ HAd.out).mono ?_; rintro e w8 ⟨cc, er2, C2, rfl, hC2, hA⟩; have HAe := hide hA; have HC9 := hide hC2; have K0 := HC2.out _ _ hA; clear hA hC2))
      all_goals
        have c16 := K0.2.2.1
        rw [HG.out.2] at c16
        have hs2 : IntKind.i64.wrap ((ai : Int) + (cw : Int)) = ((ai + cw : Nat) : Int) := by
          have h1 := HIA.out
          rw [IntWalk.i64_in _ ⟨by omega, by omega⟩]
          omega
        have NH := (HCells.out _ _ HAe.out).lt
        clear K0
        go_wp2_with fail
        go_roundw
        case rel => exact ⟨i + 1, C2, by rw [HG.out.2, ← HMS.out]; have h1 := HIA.out; congr 1; unfold wrap64; omega, HLT.out, HC9.out, HAe.out⟩
        case measure =>
          have h1 := HIA.out
          have h2 : 1 ≤ cw := HCP.out
          have h3 : wrap64 ((ai : Int) + h.g.cw) = ((ai + cw : Nat) : Int) := by rw [HG.out.2]; unfold wrap64; omega
          simp only [intOf]
          rw [h3, Int.toNat_natCast, Int.toNat_natCast]
          clear h3
          omega
    · obtain rfl : i = P := by omega
      have g1 : ¬ ((b0 + i * cw : Nat) : Int) < (b1 : Int) := by have := HW.out; omega
      have HEnd := HFin.out _ _ _ HM'.out HCi.out HA.out
      have HEN := hide HEnd
      clear HEnd
      go_wp2_with fail
      go_ret
      exact HEN.out
end
end Go.Proofs.YtapglokadaibnaaGreatDoor
/- A heap's buffers: one of a row, looked at, taken from, dropped, put in its place; Retire. -/
namespace Go.Proofs.YtapglokadaibnaaGreatDoor
set_option linter.unusedVariables false
set_option linter.unusedSimpArgs false
set_option maxRecDepth 100000
open Go.RowKit Go.Gl

theorem bleft_r {w : World} {g o : Nat} {x y : Int} (c0 : w.cell? ⟨g, o, none⟩ = some (.int .i64 x)) (c1 : w.cell? ⟨g, o + 1, none⟩ = some (.int .i64 y)) (h0 : 0 ≤ x) (h1 : x ≤ y) (h2 : y ≤ 4194304) : Calls Tryz.prog 38 #[.pointer (some ⟨g, o, none⟩)] w fun e w' => e = .returned (.int .i64 (y - x)) ∧ ∃ k, w' = w.drewN k := by
  have e1 : IntKind.i64.wrap (y - x) = y - x := IntWalk.i64_in _ ⟨by omega, by omega⟩
  clear h0 h1 h2
  go_enter Tryz.func38, Tryz.ntmps38
  go_wp2_with fail
  go_quiet (fail)
  go_wp2
  go_ret
  exact ⟨rfl, _, rfl⟩
theorem brest_r {w : World} {g o : Nat} {x y : Int} (c0 : w.cell? ⟨g, o, none⟩ = some (.int .i64 x)) (c1 : w.cell? ⟨g, o + 1, none⟩ = some (.int .i64 y)) : Calls Tryz.prog 105 #[.pointer (some ⟨g, o, none⟩)] w fun e w' => e = .returned (.tuple #[.int .i64 x, .int .i64 y]) ∧ ∃ k, w' = w.drewN k := by
  go_enter Tryz.func105, Tryz.ntmps105
  go_wp2_with fail
  go_quiet (fail)
  go_wp2
  go_ret2
  exact ⟨rfl, _, rfl⟩
theorem bdrop_r {w : World} {g o : Nat} {x y : Int} {cs : Array Value} (hb : Blk w g 84 cs) (c0 : w.cell? ⟨g, o, none⟩ = some (.int .i64 x)) (c1 : w.cell? ⟨g, o + 1, none⟩ = some (.int .i64 y)) : Calls Tryz.prog 106 #[.pointer (some ⟨g, o, none⟩)] w fun e w' => e = .returned (.tuple #[.int .i64 x, .int .i64 y]) ∧ Blk w' g 84 ((cs.setIfInBounds o (.int .i64 0)).setIfInBounds (o + 1) (.int .i64 0)) ∧ Fr [g] w w' := by
  have HB := hide hb
  have R := hide (brest_r c0 c1)
  have z0 := hb.frozen o
  have z1 := hb.frozen (o + 1)
  clear hb
  go_enter Tryz.func106, Tryz.ntmps106
  go_wp2_with (go_at_call 105; refine R.out.mono ?_; rintro e w' ⟨rfl, k, rfl⟩)
  go_ret2
  have hq : Blk (w.drewN k) g 84 cs := HB.out
  exact ⟨rfl, (hq.put o (.int .i64 0)).put (o + 1) (.int .i64 0), ((((Fr.refl _ _).drewN _).setCell (p := ⟨g, o, none⟩) (.inl (by simp)) _).setCell (p := ⟨g, o + 1, none⟩) (.inl (by simp)) _)⟩
theorem bufV_size (T : Nat) (x y : Nat → Int) : (bufV T x y).size = T * 2 := by
  unfold bufV
  rw [List.size_toArray, rows2_len]
theorem bufV_get (T : Nat) (x y : Nat → Int) (j : Nat) : (bufV T x y)[j]? = if j < T * 2 then some (.int .i64 (if j % 2 = 0 then x (j / 2) else y (j / 2))) else none := by
  unfold bufV
  rw [List.getElem?_toArray]
  by_cases hj : j < T * 2
  · rw [if_pos hj]
    obtain ⟨a1, a2⟩ := rows2_at (fun i => Value.int .i64 (x i)) (fun i => Value.int .i64 (y i)) (show j / 2 < T by omega)
    by_cases h7 : j % 2 = 0
    · rw [if_pos h7]
      rw [show j / 2 * 2 = j by omega] at a1
      exact a1
    · rw [if_neg h7]
      rw [show j / 2 * 2 + 1 = j by omega] at a2
      exact a2
  · rw [if_neg hj, List.getElem?_eq_none (by rw [rows2_len]; omega)]
theorem bufV_set0 (T : Nat) (x y : Nat → Int) {i : Nat} (v : Int) (hi : i < T) : (bufV T x y).setIfInBounds (i * 2) (.int .i64 v) = bufV T (put1 x i v) y := by
  apply Array.ext_getElem?
  intro j
  rw [Array.getElem?_setIfInBounds, bufV_get, bufV_get, bufV_size]
  unfold put1
  by_cases e : i * 2 = j
  · subst e
    rw [if_pos rfl, if_pos (by omega), if_pos (by omega), if_pos (by omega), if_pos (by omega)]
  · rw [if_neg e]
    by_cases hj : j < T * 2
    · rw [if_pos hj, if_pos hj]
      by_cases h7 : j % 2 = 0
      · rw [if_pos h7, if_pos h7, if_neg (by omega)]
      · rw [if_neg h7, if_neg h7]
    · rw [if_neg hj, if_neg hj]
theorem bufV_set1 (T : Nat) (x y : Nat → Int) {i : Nat} (v : Int) (hi : i < T) : (bufV T x y).setIfInBounds (i * 2 + 1) (.int .i64 v) = bufV T x (put1 y i v) := by
  apply Array.ext_getElem?
  intro j
  rw [Array.getElem?_setIfInBounds, bufV_get, bufV_get, bufV_size]
  unfold put1
  by_cases e : i * 2 + 1 = j
  · subst e
    rw [if_pos rfl, if_pos (by omega), if_pos (by omega), if_neg (by omega), if_pos (by omega)]
  · rw [if_neg e]
    by_cases hj : j < T * 2
    · rw [if_pos hj, if_pos hj]
      by_cases h7 : j % 2 = 0
      · rw [if_pos h7, if_pos h7]
      · rw [if_neg h7, if_neg h7, if_neg (by omega)]
    · rw [if_neg hj, if_neg hj]
section
variable {W w w' : World} {L : HL} {X : HX} {tg : Tg} {own : Nat → Nat} {FS : Nat → List Nat} {h : HS} {x : HT} {s k : Nat} {E : Blks} {F : List Nat} {D : Nat → Prop} {Q : World → Prop}
/-- A buffer is put in its place. -/
theorem Hw.buffer (H : Hw w L X tg own FS h x s k) {bx be : Nat → Int} (hf : Fr [L.bb] w w') (hb : Blk w' L.bb 84 (bufV h.T bx be)) (hok : ∀ i, i < h.T → 0 ≤ bx i ∧ bx i ≤ be i ∧ be i ≤ 4194304) : Hw w' L X tg own FS { h with bx := bx, be := be } x s k := by
  have r := H.rest (own' := own) hf (fun b hb => by simp at hb; subst hb; exact H.o1.2.1) (by decide) (fun _ _ => rfl)
  exact ⟨H.st.fr hf (by simp; exact H.st.apart H.buf (by decide)), r.r2 (by decide), r.r3 (by decide), H.row.fr hf (fun g hg hx => by simp at hx; subst hx; exact H.row.apart H.buf (by decide) hg), fun i hi => r.r9 i hi (by omega), hb, ⟨H.ok.geo, H.ok.rw, H.ok.rg, H.ok.wd, H.ok.nn, H.ok.fok, H.ok.sok, H.ok.tok, H.ok.tm, hok, H.ok.rok, H.ok.rlen⟩, r.rt, H.dim, r.r4 (by decide), r.r5 (by decide), r.r6 (by decide), r.r7 (by decide), r.r8 (by decide), H.vo, H.vc, H.vq, H.vs, H.vm, r.o1, r.o2, r.o3, r.o4, r.o5, r.o6, r.o7, r.o8, r.o100, r.o0, fun b hb => Nat.lt_of_lt_of_le (H.lt b hb) hf.size⟩
theorem HM.buffer (hS : Lives D Q) (H : HM W w L X h x s k E D Q) {bx be : Nat → Int} (hf : Fr [L.bb] w w') (hb : Blk w' L.bb 84 (bufV h.T bx be)) (hok : ∀ i, i < h.T → 0 ≤ bx i ∧ bx i ≤ be i ∧ be i ≤ 4194304) : HM W w' L X { h with bx := bx, be := be } x s k E D Q := by
  obtain ⟨own, ⟨tg, FS, H, h1, h2⟩, hE, hD, hQ⟩ := H
  exact HM.of' hS hE hD hQ (H.buffer hf hb hok) h1 h2 hf (fun b hb => by simp at hb; subst hb; rw [H.o1.2.1]; decide)
theorem HM.bufs (H : HM W w L X h x s k E D Q) {i : Nat} (hi : i < h.T) : w.cell? ⟨L.bb, i * 2, none⟩ = some (.int .i64 (h.bx i)) ∧ w.cell? ⟨L.bb, i * 2 + 1, none⟩ = some (.int .i64 (h.be i)) := H.hr.bufs hi
theorem HM.bdrop (hS : Lives D Q) (H : HM W w L X h x s k E D Q) {i : Nat} (hi : i < h.T) :
    Calls Tryz.prog 106 #[.pointer (some ⟨L.bb, i * 2, none⟩)] w fun e w' => e = .returned (.tuple #[.int .i64 (h.bx i), .int .i64 (h.be i)]) ∧ HM W w' L X { h with bx := put1 h.bx i 0, be := put1 h.be i 0 } x s k E D Q := by
  obtain ⟨b0, b1⟩ := H.bufs hi
  refine (bdrop_r H.hr.buf b0 b1).mono ?_
  rintro e w' ⟨rfl, hb, hf⟩
  rw [bufV_set0 _ _ _ _ hi, bufV_set1 _ _ _ _ hi] at hb
  refine ⟨rfl, H.buffer hS hf hb (fun j hj => ?_)⟩
  unfold put1
  have := H.ok.bok j hj
  split <;> omega
theorem HM.bleft (hS : Lives D Q) (H : HM W w L X h x s k E D Q) {i : Nat} (hi : i < h.T) :
    Calls Tryz.prog 38 #[.pointer (some ⟨L.bb, i * 2, none⟩)] w fun e w' => e = .returned (.int .i64 (h.be i - h.bx i)) ∧ HM W w' L X h x s k E D Q := by
  obtain ⟨b0, b1⟩ := H.bufs hi
  obtain ⟨o1, o2, o3⟩ := H.ok.bok i hi
  refine (bleft_r b0 b1 o1 o2 o3).mono ?_
  rintro e w' ⟨rfl, q, rfl⟩
  exact ⟨rfl, H.fr0 hS ((Fr.refl _ _).drewN _)⟩
theorem HM.hend (hS : Lives D Q) (H : HM W w L X h x s k E D Q) {r : Nat} (hr : r < h.R) : Calls Tryz.prog 80 #[.pointer (some ⟨L.hb, 0, none⟩), .int .i64 (r : Int)] w fun e w' => e = .returned (.int .i64 (h.endOf r)) ∧ HM W w' L X h x s k E D Q :=
  H.see hS fun own ⟨tg, FS, H⟩ => hend_any H.hr hr
end
end Go.Proofs.YtapglokadaibnaaGreatDoor
/- Package heap: Retire. -/
namespace Go.Proofs.YtapglokadaibnaaGreatDoor
set_option linter.unusedVariables false
set_option linter.unusedSimpArgs false
set_option maxRecDepth 100000
open Go.RowKit Go.Gl

theorem foldl_min_mem : ∀ (l : List Int) (a : Int), l.foldl min a = a ∨ l.foldl min a ∈ l
  | [], a => .inl rfl
  | b :: l, a => by
    show l.foldl min (min a b) = a ∨ l.foldl min (min a b) ∈ b :: l
    rcases foldl_min_mem l (min a b) with h | h
    · rw [h]
      rcases Int.le_total a b with h2 | h2
      · left; omega
      · right; rw [show min a b = b by omega]; simp
    · right; simp [h]
theorem minL_memR {l : List Int} (h : l ≠ []) : HS.minL l ∈ l := by
  cases l with
  | nil => exact absurd rfl h
  | cons a l =>
    show l.foldl min a ∈ a :: l
    rcases foldl_min_mem l a with h | h
    · rw [h]; simp
    · simp [h]
theorem leftL_memR {h : HS} {r : Int} {z : Int} : ∀ {n : Nat}, z ∈ h.leftL r n → ∃ i, i < n ∧ z = h.bx i ∧ h.bx i < h.be i ∧ h.g.regionOf (h.bx i) = r
  | 0, hz => by cases hz
  | n + 1, hz => by
    unfold HS.leftL at hz
    rcases List.mem_append.1 hz with hz | hz
    · obtain ⟨i, h1, h2⟩ := leftL_memR hz
      exact ⟨i, by omega, h2⟩
    · split at hz
      · rename_i hc
        simp only [List.mem_singleton] at hz
        exact ⟨n, by omega, hz, hc.1, hc.2⟩
      · cases hz
theorem mem_leftL {h : HS} {r : Int} {i : Nat} (h1 : h.bx i < h.be i) (h2 : h.g.regionOf (h.bx i) = r) : ∀ {n : Nat}, i < n → h.bx i ∈ h.leftL r n
  | n + 1, hn => by
    unfold HS.leftL
    by_cases e : i = n
    · subst e
      rw [if_pos ⟨h1, h2⟩]
      simp
    · exact List.mem_append_left _ (mem_leftL h1 h2 (by omega))
/-- What buffers have left lies within a region that is filled word by word. -/
def HS.BufIn (h : HS) : Prop := ∀ i, i < h.T → h.bx i < h.be i → ∃ r, r < h.R ∧ Filled (h.s r) ∧ ((r * h.W : Nat) : Int) ≤ h.bx i ∧ h.be i ≤ ((r * h.W + h.W : Nat) : Int)
/-- The Tops when the first j threads' buffers have been looked at. -/
def HS.retT (h : HS) (j : Nat) : Nat → Int := fun r => if h.leftL (r : Int) j = [] then h.t r else HS.minL (h.leftL (r : Int) h.T)
def zap (f : Nat → Int) (j : Nat) : Nat → Int := fun i => if i < j then 0 else f i
theorem zap_0 (f : Nat → Int) : zap f 0 = f := by funext i; unfold zap; rw [if_neg (by omega)]
theorem zap_succ (f : Nat → Int) (j : Nat) : put1 (zap f j) j 0 = zap f (j + 1) := by
  funext i
  unfold put1 zap
  by_cases e : i = j
  · rw [if_pos e, if_pos (by omega)]
  · rw [if_neg e]
    by_cases e2 : i < j
    · rw [if_pos e2, if_pos (by omega)]
    · rw [if_neg e2, if_neg (by omega)]
section
variable {W w w' : World} {L : HL} {X : HX} {h : HS} {x : HT} {s k : Nat} {E : Blks} {D : Nat → Prop} {Q : World → Prop}
theorem HS.Ok.reg (ok : h.Ok s k) {r : Nat} {a : Int} (hr : r < h.R) (h1 : ((r * h.W : Nat) : Int) ≤ a) (h2 : a < ((r * h.W + h.W : Nat) : Int)) : h.g.regionOf a = (r : Int) := by
  have hW := ok.wpos
  have hb := ok.base_le hr
  obtain ⟨q, rfl⟩ := Int.eq_ofNat_of_zero_le (show 0 ≤ a by omega)
  unfold Geo.regionOf
  rw [if_pos ⟨by omega, by rw [ok.wd]; omega⟩, ok.rw]
  show (q : Int) / (h.W : Int) = _
  rw [← Int.natCast_ediv, div_in (u := q) (r := r) (W := h.W) (by omega) (by omega) (by omega)]
theorem HS.retT_0 (h : HS) : h.retT 0 = h.t := by funext r; unfold HS.retT HS.leftL; rw [if_pos rfl]
theorem HS.retT_no {j : Nat} (e : ¬ h.bx j < h.be j) : h.retT (j + 1) = h.retT j := by
  funext r
  unfold HS.retT
  rw [leftL_out (h := h) (r := (r : Int)) (k := j) (fun h => e h.1)]
theorem HS.retT_in {j r : Nat} (hj : j < h.T) (e : h.bx j < h.be j) (er : h.g.regionOf (h.bx j) = (r : Int)) : h.retT (j + 1) = put1 (h.retT j) r (HS.minL (h.leftL (r : Int) h.T)) := by
  funext q
  unfold HS.retT put1
  by_cases eq : q = r
  · subst eq
    rw [if_pos rfl, leftL_in (h := h) (r := (q : Int)) (k := j) ⟨e, er⟩, if_neg (by simp)]
  · rw [if_neg eq, leftL_out (h := h) (r := (q : Int)) (k := j) (fun h => eq (by have := h.2; rw [er] at this; omega))]
theorem HS.endOf_ret {j r i : Nat} (hi : i < h.T) (e : h.bx i < h.be i) (er : h.g.regionOf (h.bx i) = (r : Int)) : HS.endOf { h with t := h.retT j } r = HS.minL (h.leftL (r : Int) h.T) := by
  have hl : ∀ n, HS.leftL { h with t := h.retT j } (r : Int) n = h.leftL (r : Int) n := fun n => by
    induction n with
    | zero => rfl
    | succ n ih => unfold HS.leftL; rw [ih]
  unfold HS.endOf
  have h1 : HS.leftL { h with t := h.retT j } (r : Int) (HS.T { h with t := h.retT j }) = h.leftL (r : Int) h.T := hl _
  rw [h1, if_neg]
  intro e0
  have := mem_leftL e er hi
  rw [e0] at this
  cases this
theorem HS.min_in (ok : h.Ok s k) (hb : h.BufIn) {r i : Nat} (hi : i < h.T) (e : h.bx i < h.be i) (er : h.g.regionOf (h.bx i) = (r : Int)) : ((r * h.W : Nat) : Int) ≤ HS.minL (h.leftL (r : Int) h.T) ∧ HS.minL (h.leftL (r : Int) h.T) ≤ ((r * h.W + h.W : Nat) : Int) := by
  have hne : h.leftL (r : Int) h.T ≠ [] := fun e0 => by
    have := mem_leftL e er hi
    rw [e0] at this
    cases this
  obtain ⟨q, q1, q2, q3, q4⟩ := leftL_memR (minL_memR hne)
  obtain ⟨r', r1, r2, r3, r4⟩ := hb q q1 q3
  have := ok.reg r1 r3 (by omega)
  rw [q4] at this
  obtain rfl : r = r' := by omega
  rw [q2]
  omega
set_option maxHeartbeats 3200000 in
theorem hretire_any (hS : Lives D Q) (H : HM W w L X h x s k E D Q) (hB : h.BufIn) :
    Calls Tryz.prog 37 #[.pointer (some ⟨L.hb, 0, none⟩)] w fun e w' => e = .returned (.tuple #[]) ∧ HM W w' L X { h with t := h.retT h.T, bx := zap h.bx h.T, be := zap h.be h.T } x s k E D Q := by
  have ok := H.ok
  have c28 := H.hc.c28
  have hTM := ok.tm
  have HSt := hide hS
  have H0 : HM W w L X { h with t := h.retT 0 } x s k E D Q := by rw [HS.retT_0]; exact H
  have HA0 := hide H0
  have HReg : Hid (∀ i, i < h.T → h.bx i < h.be i → ∃ r : Nat, h.g.regionOf (h.bx i) = (r : Int) ∧ r < h.R ∧ Filled (h.s r) ∧ ((r * h.W : Nat) : Int) ≤ HS.minL (h.leftL (r : Int) h.T) ∧ HS.minL (h.leftL (r : Int) h.T) ≤ ((r * h.W + h.W : Nat) : Int) ∧ (∀ j, HS.endOf { h with t := h.retT j } r = HS.minL (h.leftL (r : Int) h.T)) ∧ h.retT (i + 1) = put1 (h.retT i) r (HS.minL (h.leftL (r : Int) h.T))) := fun i hi e => by
    obtain ⟨r, r1, r2, r3, r4⟩ := hB i hi e
    have er := ok.reg r1 r3 (by omega)
    obtain ⟨m1, m2⟩ := HS.min_in ok hB hi e er
    exact ⟨r, er, r1, r2, m1, m2, fun j => HS.endOf_ret hi e er, HS.retT_in hi e er⟩
  have HNo : Hid (∀ i, ¬ h.bx i < h.be i → h.retT (i + 1) = h.retT i) := fun i e => HS.retT_no e
  have HBok := hide ok.bok
  have HBf : Hid (∀ t' w' i, i < h.T → HM W w' L X { h with t := t' } x s k E D Q → w'.cell? ⟨L.bb, i * 2, none⟩ = some (.int .i64 (h.bx i)) ∧ w'.cell? ⟨L.bb, i * 2 + 1, none⟩ = some (.int .i64 (h.be i)) ∧ L.bb < w'.heap.size) := fun t' w' i hi q => ⟨(q.bufs hi).1, (q.bufs hi).2, lt_of_cell (q.bufs hi).1⟩
  have HCells : Hid (∀ t' w', HM W w' L X { h with t := t' } x s k E D Q → Hcells w' L X h.g h.T) := fun t' w' q => q.hc
  have HCells2 : Hid (∀ t' a b w', HM W w' L X { h with t := t', bx := a, be := b } x s k E D Q → Hcells w' L X h.g h.T) := fun t' a b w' q => q.hc
  have HRg : Hid (∀ t' w' a, HM W w' L X { h with t := t' } x s k E D Q → Calls Tryz.prog 32 #[.agg #[.int .i64 h.g.words, .int .i64 h.g.rw, .int .i64 h.g.cw, .int .i64 h.g.regions, .int .i64 h.g.cards, .int .i64 h.g.max], .int .i64 a] w' fun e w'' => e = .returned (.int .i64 (h.g.regionOf a)) ∧ HM W w'' L X { h with t := t' } x s k E D Q) := fun t' w' a q => q.region hS a
  have HEnd : Hid (∀ t' w' r m, r < h.R → HS.endOf { h with t := t' } r = m → HM W w' L X { h with t := t' } x s k E D Q → Calls Tryz.prog 80 #[.pointer (some ⟨L.hb, 0, none⟩), .int .i64 (r : Int)] w' fun e w'' => e = .returned (.int .i64 m) ∧ HM W w'' L X { h with t := t' } x s k E D Q) := fun t' w' r m hr hm q => by
    have := q.hend hS (r := r) hr
    rwa [hm] at this
  have HTop : Hid (∀ t' t'' w' (r : Nat) m, r < h.R → Filled (h.s r) → ((r * h.W : Nat) : Int) ≤ m → m ≤ ((r * h.W + h.W : Nat) : Int) → t'' = put1 t' r m → HM W w' L X { h with t := t' } x s k E D Q → Calls Tryz.prog 35 #[.pointer (some ⟨L.tb, 0, none⟩), .int .i64 (r : Int), .int .i64 m] w' fun e w'' => e = .returned (.int .i64 0) ∧ HM W w'' L X { h with t := t'' } x s k E D Q) := fun t' t'' w' r m h1 h2 h3 h4 h5 q => by
    subst h5
    exact q.setTop hS (r := r) h1 h2 h3 h4
  have HDrop : Hid (∀ i w', i < h.T → HM W w' L X { h with t := h.retT h.T, bx := zap h.bx i, be := zap h.be i } x s k E D Q → Calls Tryz.prog 106 #[.pointer (some ⟨L.bb, i * 2, none⟩)] w' fun e w'' => ∃ a b, e = .returned (.tuple #[.int .i64 a, .int .i64 b]) ∧ HM W w'' L X { h with t := h.retT h.T, bx := zap h.bx (i + 1), be := zap h.be (i + 1) } x s k E D Q) := fun i w' hi q => by
    refine (q.bdrop hS hi).mono ?_
    rintro e w'' ⟨rfl, hq⟩
    refine ⟨_, _, rfl, ?_⟩
    rw [← zap_succ, ← zap_succ]
    exact hq
  have HZ : Hid (∀ t', ({ h with t := t' } : HS) = { h with t := t', bx := zap h.bx 0, be := zap h.be 0 }) := fun t' => by rw [zap_0, zap_0]
  clear H hB ok H0
  go_enter Tryz.func37, Tryz.ntmps37
  go_wp2_with fail
  go_loopw [15] (fun a wr => ∃ i : Nat, a = .int .i64 (i : Int) ∧ i ≤ h.T ∧ HM W wr L X { h with t := h.retT i } x s k E D Q) (fun a _ => h.T - (intOf a).toNat)
  case atStart => exact ⟨0, rfl, Nat.zero_le _, HA0.out⟩
  case round =>
    obtain ⟨i, rfl, hi, hA⟩ := hrel
    have HA := hide hA
    by_cases hlt : i < h.T
    · have hlt1 : (i : Int) < (h.T : Int) := by omega
      obtain ⟨b0, b1, NB⟩ := HBf.out _ _ i hlt hA
      obtain ⟨o1, o2, o3⟩ := HBok.out i hlt
      have HBR := hide (brest_any (Bu.made wr 84 o1 o2 o3))
      have HLT := hide hlt
      have HRi := hide (HReg.out i hlt)
      have HNi := hide (HNo.out i)
      clear hA
      generalize h.bx i = y0 at *
      generalize h.be i = y1 at *
      by_cases hxy : y0 < y1
      · obtain ⟨r, er, r1, r2, r3, r4, r5, r6⟩ := HRi.out hxy
        have HR1 := hide r1
        have HR2 := hide r2
        have HR34 := hide (And.intro r3 r4)
        have HR5 := hide r5
        have HR6 := hide r6
        generalize HS.minL (h.leftL (r : Int) h.T) = mn at *
        have HRD := hide (fun w' q => HRg.out (h.retT i) w' y0 q)
        rw [er] at HRD
        clear r1 r2 r3 r4 r5 r6 er
        go_wp2_with fail
        refine HBR.out.mono ?_
        rintro e w1 ⟨rfl, q, rfl⟩
        replace HA := hide (HA.out.fr0 HSt.out (((Fr.refl [] wr).alloc (.cells #[.int .i64 y0, .int .i64 y1] 84)).drewN q))
        obtain ⟨c14, c15, c16, c17, c18, c19, -, -, -, -, -, -, -, -, -, NH⟩ := HCells.out _ _ HA.out
        generalize ((wr.alloc (.cells #[.int .i64 y0, .int .i64 y1] 84)).drewN q) = w1 at *
        go_wp2_with fail
        refine (HRD.out _ HA.out).mono ?_
        rintro e w2 ⟨rfl, hA⟩
        replace HA := hide hA
        clear c14 c15 c16 c17 c18 c19 NH b0 b1 NB hA
        have K0 := (HCells.out _ _ HA.out).c21
        go_wp2_with fail
        have HAd := hide (HA.out.fr0 HSt.out (Fr.refl _ _).drew)
        have K0 := (HCells.out _ _ HAd.out).c21
        go_region_held3 (fun w' => w'.cell? ⟨L.hb, 21, none⟩ = some (.pointer (some ⟨L.tb, 0, none⟩)))
          (first | with_reducible exact K0 | go_keep)
          (first | (go_at_call 80; refine (HEnd.out _ _ r mn HR1.out (HR5.out i) HAd.out).mono ?_; rintro e w3 ⟨rfl, hA⟩; replace HAd := hide hA; have K0 := (HCells.out _ _ HAd.out).c21; clear hA) | (go_at_call 35; refine (HTop.out _ _ _ r mn HR1.out HR2.out HR34.out.1 HR34.out.2 HR6.out HAd.out).mono ?_; rintro e w4 ⟨rfl, hA⟩; replace HAd := hide hA; have K0 := (HCells.out _ _ HAd.out).c21; clear hA))
        all_goals
          go_wp2_with fail
          go_roundw
          case rel => exact ⟨i + 1, by go_num, HLT.out, HAd.out⟩
          case measure => have := HLT.out; simp [intOf]; omega
      · have e1 := HNi.out (by omega)
        have HE1 : Hid (h.retT (i + 1) = h.retT i) := e1
        clear e1
        go_wp2_with fail
        refine HBR.out.mono ?_
        rintro e w1 ⟨rfl, q, rfl⟩
        replace HA := hide (HA.out.fr0 HSt.out (((Fr.refl [] wr).alloc (.cells #[.int .i64 y0, .int .i64 y1] 84)).drewN q))
        go_wp2_with fail
        go_roundw
        case rel => exact ⟨i + 1, by go_num, HLT.out, by rw [HE1.out]; exact HA.out⟩
        case measure => have := HLT.out; simp [intOf]; omega
    · obtain rfl : i = h.T := by omega
      have c28 := (HCells.out _ _ hA).c28
      have NH := (HCells.out _ _ hA).lt
      have HB0 : Hid (HM W wr L X { h with t := h.retT h.T, bx := zap h.bx 0, be := zap h.be 0 } x s k E D Q) := by rw [← HZ.out]; exact hA
      clear hA HA HA0 HReg HNo
      go_wp2_with fail
      go_loopw [47] (fun a wq => ∃ i : Nat, a = .int .i64 (i : Int) ∧ i ≤ h.T ∧ HM W wq L X { h with t := h.retT h.T, bx := zap h.bx i, be := zap h.be i } x s k E D Q) (fun a _ => h.T - (intOf a).toNat)
      case atStart => exact ⟨0, rfl, Nat.zero_le _, HB0.out⟩
      case round =>
        obtain ⟨i, rfl, hi, hA⟩ := hrel
        by_cases hlt : i < h.T
        · have hlt1 : (i : Int) < (h.T : Int) := by omega
          have c28 := (HCells2.out _ _ _ _ hA).c28
          have NH := (HCells2.out _ _ _ _ hA).lt
          have HD1 := hide (HDrop.out i _ hlt hA)
          have HLT := hide hlt
          clear hA
          go_wp2_with fail
          refine HD1.out.mono ?_
          rintro e w3 ⟨a, b, rfl, hA⟩
          have HA := hide hA
          clear hA c28 NH
          go_wp2_with fail
          go_roundw
          case rel => exact ⟨i + 1, by go_num, HLT.out, HA.out⟩
          case measure => have := HLT.out; simp [intOf]; omega
        · obtain rfl : i = h.T := by omega
          have HA := hide hA
          clear hA
          go_wp2_with fail
          go_end0
          exact ⟨rfl, HA.out⟩
end
end Go.Proofs.YtapglokadaibnaaGreatDoor
