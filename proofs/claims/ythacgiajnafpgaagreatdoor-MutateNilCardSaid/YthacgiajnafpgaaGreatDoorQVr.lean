/- Package heap: the whole heap, new since some world; what the calls on its tables come to. -/
import Derived.Test.YthacgiajnafpgaaGreatDoorQVo
import Derived.Test.YthacgiajnafpgaaGreatDoorQVg
namespace Go.Proofs.YthacgiajnafpgaaGreatDoor
set_option linter.unusedVariables false
set_option linter.unusedSimpArgs false
set_option maxRecDepth 100000
open Go.RowKit Go.Gl

/-- The heap in memory, all of it new since W. -/
def HpAt (W w : World) (L : HL) (X : HX) (own : Nat → Nat) (h : HS) (x : HT) (s k : Nat) : Prop :=
  ∃ tg FS, Hw w L X tg own FS h x s k ∧ Fr [] W w ∧ ∀ b, own b ≠ 0 → W.heap.size ≤ b
/-- Only owned blocks have turned; what was there has its owner still. -/
def HKp (w : World) (own : Nat → Nat) (w' : World) (own' : Nat → Nat) : Prop := (∃ F, Fr F w w' ∧ ∀ b, b ∈ F → own b ≠ 0) ∧ ∀ b, b < w.heap.size → own' b = own b
def HpPost (W w : World) (L : HL) (X : HX) (own : Nat → Nat) (h : HS) (x : HT) (s k : Nat) (v : Value) (e : Ending) (w' : World) : Prop :=
  ∃ own', e = .returned v ∧ HpAt W w' L X own' h x s k ∧ HKp w own w' own'
section
variable {W w w' w'' : World} {L : HL} {X : HX} {own own' own'' : Nat → Nat} {h : HS} {x : HT} {s k : Nat} {F : List Nat}
theorem HKp.refl (w : World) (own : Nat → Nat) : HKp w own w own := ⟨⟨[], Fr.refl _ _, fun b hb => (by cases hb)⟩, fun _ _ => rfl⟩
theorem HKp.trans (h : HKp w own w' own') (j : HKp w' own' w'' own'') : HKp w own w'' own'' := by
  obtain ⟨⟨F, f1, f2⟩, u1⟩ := h
  obtain ⟨⟨G, g1, g2⟩, u2⟩ := j
  have hs := f1.size
  refine ⟨⟨F ++ G.filter (fun b => decide (b < w.heap.size)), (f1.mono (fun b hb => .inl (List.mem_append.2 (.inl hb)))).trans g1 (fun b hb => ?_), fun b hb => ?_⟩, fun b hb => (u2 b (by omega)).trans (u1 b hb)⟩
  · by_cases e : b < w.heap.size
    · exact .inl (List.mem_append.2 (.inr (List.mem_filter.2 ⟨hb, by simpa using e⟩)))
    · exact .inr (by omega)
  · rcases List.mem_append.1 hb with hb | hb
    · exact f2 b hb
    · obtain ⟨h1, h2⟩ := List.mem_filter.1 hb
      simp at h2
      rw [← u1 b h2]
      exact g2 b h1
theorem HKp.fr0 (hf : Fr [] w w') : HKp w own w' own := ⟨⟨[], hf, fun b hb => (by cases hb)⟩, fun _ _ => rfl⟩
/-- A block that nobody owns is kept. -/
theorem HKp.blk (h : HKp w own w' own') {b : Nat} {t : TypeId} {cs : Array Value} (hb : Blk w b t cs) (h0 : own b = 0) : Blk w' b t cs ∧ own' b = 0 := by
  obtain ⟨⟨F, f1, f2⟩, u⟩ := h
  exact ⟨hb.fr f1 (fun hx => f2 b hx h0), (u b hb.lt).trans h0⟩
theorem HKp.fr (h : HKp w own w' own') : ∃ F, Fr F w w' ∧ ∀ b, b ∈ F → own b ≠ 0 := h.1
theorem HpAt.in (H : HpAt W w L X own h x s k) (hk : HKp w own w' own') : Fr [] W w' := by
  obtain ⟨tg, FS, _, hf, ho⟩ := H
  obtain ⟨⟨F, f1, f2⟩, _⟩ := hk
  exact hf.trans f1 (fun b hb => .inr (ho b (f2 b hb)))
theorem HpAt.hr (H : HpAt W w L X own h x s k) : Hr w L h s k := by
  obtain ⟨tg, FS, H, _⟩ := H
  exact H.hr
theorem HpAt.fr0 (H : HpAt W w L X own h x s k) (hf : Fr [] w w') : HpAt W w' L X own h x s k := by
  obtain ⟨tg, FS, H, h1, h2⟩ := H
  exact ⟨tg, FS, H.fr0 hf, h1.trans_same hf, h2⟩
/-- Other memory turned. -/
theorem HpAt.other (H : HpAt W w L X own h x s k) (hf : Fr F w w') (hF : ∀ b, b ∈ F → own b = 0 ∧ W.heap.size ≤ b) (hg : 0 ∉ F) : HpAt W w' L X own h x s k := by
  obtain ⟨tg, FS, H, h1, h2⟩ := H
  have n : ∀ {b d : Nat}, own b = d → d ≠ 0 → b ∉ F := fun h1 h2 h3 => h2 (h1.symm.trans (hF _ h3).1)
  refine ⟨tg, FS, ⟨H.st.fr hf (n H.o1.1 (by decide)), ?_, H.rg.fr hf (n H.o3.1 (by decide)) (n H.o3.2.1 (by decide)) (n H.o3.2.2.1 (by decide)) (n H.o3.2.2.2 (by decide)), H.row.fr hf (fun g hg => n (H.o1.2.2 g hg) (by decide)), fun i hi => (H.stk i hi).fr hf (fun g hg => n (H.o100 i hi g hg) (by omega)), H.buf.fr hf (n H.o1.2.1 (by decide)), H.ok, H.tab.fr hf hg, H.dim,
    H.of.fr hf (n H.o4.1 (by decide)) (n H.o4.2 (by decide)), H.ct.fr hf (n H.o5.1 (by decide)) (n H.o5.2.1 (by decide)) (n H.o5.2.2 (by decide)), H.qu.fr hf (fun g hg => n (H.o6 g hg) (by decide)), H.se.fr hf (fun b hb => ?_), H.ma.fr hf (n H.o8.1 (by decide)) (n H.o8.2 (by decide)), H.vo, H.vc, H.vq, H.vs, H.vm, H.o1, H.o2, H.o3, H.o4, H.o5, H.o6, H.o7, H.o8, H.o100, H.o0, fun b hb => Nat.lt_of_lt_of_le (H.lt b hb) hf.size⟩, h1.trans hf (fun b hb => .inr (hF b hb).2), h2⟩
  · obtain ⟨a, ha⟩ := H.ar
    exact ⟨a, ha.fr hf (n H.o2.1 (by decide)) (n H.o2.2 (by decide))⟩
  · by_cases e2 : (tg b).1 = 0
    · exact e2
    · exact absurd (hF b hb).1 (by rw [H.o7 b e2]; decide)
theorem HpAt.claim (H : HpAt W w L X own h x s k) {y : Int} (hy : Filled y) {j : Nat} (hl : LowFree h.s h.R j) :
    Calls Tryz.prog 157 #[.pointer (some ⟨L.tb, 0, none⟩), .int .i64 y] w (HpPost W w L X own { h with s := put1 h.s j y } x s k (.tuple #[.int .i64 (j : Int), .int .i64 0])) := by
  obtain ⟨tg, FS, H, h1, h2⟩ := H
  refine (claim_at H.rg hy hl).mono ?_
  rintro e w' ⟨rfl, hr, hf⟩
  have hF : ∀ b, b ∈ [L.sb, L.pb, L.mb] → own b = 3 := fun b hb => by
    simp at hb
    rcases hb with rfl | rfl | rfl
    · exact H.o3.2.1
    · exact H.o3.2.2.1
    · exact H.o3.2.2.2
  exact ⟨own, rfl, ⟨tg, FS, H.regs hf hF hr, h1.trans hf (fun b hb => .inr (h2 b (by rw [hF b hb]; decide))), h2⟩, ⟨_, hf, fun b hb => by rw [hF b hb]; decide⟩, fun _ _ => rfl⟩
theorem HpAt.make (H : HpAt W w L X own h x s k) {I S P : Nat} (hS : 1 ≤ S ∧ S ≤ 1048576) (hP : P < S) (hn : I + S ≤ h.n) :
    Calls Tryz.prog 84 #[.pointer (some ⟨L.ab, 0, none⟩), .int .i64 (I : Int), .int .i64 (S : Int), .int .i64 (P : Int)] w (HpPost W w L X own { h with f := upd (updRow h.f I S (fun _ => 0)) I (objW S P) } x s k (.int .i64 0)) := by
  obtain ⟨tg, FS, H, h1, h2⟩ := H
  obtain ⟨a, ha⟩ := H.ar
  have hm := make_in h.f hS hP hn
  refine (pmake_any ha I S P (by have := ha.max; omega)).mono ?_
  rintro e w' ⟨c', rfl, hr, hf⟩
  rw [hm.1]
  rw [hm.2] at hr
  have hF : ∀ b, b ∈ [L.ab, L.aw] → own b = 2 := fun b hb => by
    simp at hb
    rcases hb with rfl | rfl
    · exact H.o2.1
    · exact H.o2.2
  exact ⟨own, rfl, ⟨tg, FS, H.arena hf hF hr, h1.trans hf (fun b hb => .inr (h2 b (by rw [hF b hb]; decide))), h2⟩, ⟨_, hf, fun b hb => by rw [hF b hb]; decide⟩, fun _ _ => rfl⟩
theorem HpAt.push (H : HpAt W w L X own h x s k) {i : Nat} (hi : i < h.T) (hB : L.B ≤ 64) (hl : (h.st i).length < L.B) {r : Int} (hr : 0 ≤ r ∧ r < 18446744073709551616) :
    Calls Tryz.prog 88 #[.pointer (some ⟨L.S i, 0, none⟩), .int .u64 r] w (HpPost W w L X own { h with st := setN h.st i (h.st i ++ [r]) } x s k (.int .i64 0)) := by
  obtain ⟨tg, FS, H, h1, h2⟩ := H
  refine (hpush_any (H.stk i hi) (Nat.le_of_lt hl) hB r).mono ?_
  rintro e w' ⟨F', rfl, hq, hf, hn⟩
  have e1 : hkPush L.B (h.st i) r = h.st i ++ [r] := if_pos hl
  have e2 : hkPushE L.B (h.st i) = 0 := if_pos hl
  rw [e2]
  rw [e1] at hq
  obtain ⟨own', k1, k2, k3⟩ := H.stack hi hf hq hn (by simp; omega) (fun q hq => by
    rcases List.mem_append.1 hq with h3 | h3
    · exact H.ok.rok i hi q h3
    · simp at h3
      subst h3
      exact hr)
  have hF : ∀ b, b ∈ FS i → own b ≠ 0 := fun b hb => by rw [H.o100 i hi b hb]; omega
  have hsz := h1.size
  refine ⟨own', rfl, ⟨tg, _, k1, h1.trans hf (fun b hb => .inr (h2 b (hF b hb))), fun b hb => ?_⟩, ⟨_, hf, hF⟩, k3⟩
  · rcases k2 b hb with h3 | h3
    · exact h2 b h3
    · omega
theorem HpAt.store (H : HpAt W w L X own h x s k) {i y : Int} {j v : Nat} (hi : i = (j : Int)) (hj : j < h.n) (hy : y = (v : Int)) (hv : v < 18446744073709551616) :
    Calls Tryz.prog 86 #[.pointer (some ⟨L.ab, 0, none⟩), .int .i64 i, .int .u64 y] w (HpPost W w L X own { h with f := upd h.f j v } x s k (.int .i64 0)) := by
  obtain ⟨tg, FS, H, h1, h2⟩ := H
  obtain ⟨a, ha⟩ := H.ar
  refine (store_at ha hi hj hy hv).mono ?_
  rintro e w' ⟨rfl, hr, hf⟩
  have hF : ∀ b, b ∈ [L.ab, L.aw] → own b = 2 := fun b hb => by
    simp at hb
    rcases hb with rfl | rfl
    · exact H.o2.1
    · exact H.o2.2
  exact ⟨own, rfl, ⟨tg, FS, H.arena hf hF hr, h1.trans hf (fun b hb => .inr (h2 b (by rw [hF b hb]; decide))), h2⟩, ⟨_, hf, fun b hb => by rw [hF b hb]; decide⟩, fun _ _ => rfl⟩
/-- A call that only looks. -/
theorem HpAt.looked (H : HpAt W w L X own h x s k) (hr : Hr w' L h s k) (hf : Fr [L.ab] w w') : HpAt W w' L X own h x s k ∧ HKp w own w' own := by
  obtain ⟨tg, FS, H, h1, h2⟩ := H
  have hF : ∀ b, b ∈ [L.ab] → own b ≠ 0 := fun b hb => by simp at hb; subst hb; rw [H.o2.1]; decide
  exact ⟨⟨tg, FS, H.looked hr hf, h1.trans hf (fun b hb => .inr (h2 b (hF b hb))), h2⟩, ⟨_, hf, hF⟩, fun _ _ => rfl⟩
theorem HpAt.fr (H : HpAt W w L X own h x s k) : Fr [] W w := by
  obtain ⟨tg, FS, H, h1, h2⟩ := H
  exact h1
/-- What New leaves. -/
theorem HNewP.at {c : Cfg} {g : Geo} {W0 R n T C P qm B s k : Nat} {e : Ending} (hP : HNewP w c g W0 R n T C P qm B s k e w') (hW : Fr [] W w) :
    ∃ L X own, e = .returned (.tuple #[.pointer (some ⟨L.hb, 0, none⟩), .int .i64 0]) ∧ HpAt W w' L X own (HSn g W0 R n T) (HTn C P R qm n) s k ∧ L.B = B ∧ L.cfg = c ∧ Fr [] w w' ∧ ∀ b, b < w.heap.size → own b = 0 := by
  obtain ⟨L, X, tg, own, FS, rfl, h1, h2, h3, h4, h5⟩ := hP
  refine ⟨L, X, own, rfl, ⟨tg, FS, h1, hW.trans_same h2, fun b hb => Nat.le_trans hW.size (h3 b hb)⟩, h4, h5, h2, fun b hb => ?_⟩
  by_cases e : own b = 0
  · exact e
  · have := h3 b e
    omega
end
end Go.Proofs.YthacgiajnafpgaaGreatDoor
