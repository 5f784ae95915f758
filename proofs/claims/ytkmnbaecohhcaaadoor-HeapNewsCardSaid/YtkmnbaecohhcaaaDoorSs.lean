/- Package remset: its types as keys and elements of maps. -/
import Derived.Test.YtkmnbaecohhcaaaDoorMp
import Derived.Test.YtkmnbaecohhcaaaDoorProg
import Derived.DeepKeys4
import Derived.WalkKit
import Derived.Test.YtkmnbaecohhcaaaDoorLr
import Derived.Test.YtkmnbaecohhcaaaDoorNm
import Derived.Test.YtkmnbaecohhcaaaDoorB1
import Derived.Test.YtkmnbaecohhcaaaDoorShelf
import Derived.BigRegion
import Derived.Deep.RegionLaw
import Derived.Deep.RegionWith
import Derived.Deep.CutRange
import Derived.BigQuiet
import Derived.StillTailTactics
import Derived.WalkSpells
import Derived.Deep.RegionHeld3
namespace Go.Proofs.YtkmnbaecohhcaaaDoor
set_option linter.unusedVariables false
open Go.RowKit Go.Gl
open Go.Maps (Keyed)

theorem Tryd.laidOut : laidOutB Tryd.prog = true := by kernel_rfl
theorem Tryd.pairLaw : Keyed Tryd.prog 184 := Keyed.of_law (deep_law_laid Tryd.laidOut (m := 2) (by omega) (of_decide_eq_true (by kernel_rfl)) (by kernel_rfl) (by kernel_rfl))
theorem Tryd.intLaw : Keyed Tryd.prog 3 := Maps.int_keyed Tryd.underlying3
/-- What a map's key is: a home and a source. -/
def pairV (h s : Int) : Value := .agg #[.int .i64 h, .int .i64 s]
theorem pairV_inj {h s h' s' : Int} (e : pairV h s = pairV h' s') : h = h' ∧ s = s' := by
  unfold pairV at e
  injection e with e
  simp at e
  exact e
theorem Tryd.pk2 : 2 ≤ Tryd.prog.types.size := of_decide_eq_true (by kernel_rfl)
theorem Tryd.pk1 : Tryd.prog.keyTypeAt 3 184 = true := by kernel_rfl
theorem Tryd.pkC : Tryd.prog.cellsOf 184 = 2 := by kernel_rfl
theorem Tryd.pkI : Tryd.prog.cellsOf 3 = 1 := by kernel_rfl
theorem Tryd.pkT : Tryd.prog.keyType 184 = true := by kernel_rfl
theorem pairKey (h s : Int) (wh : (Lit.int .i64 h).wf = true) (ws : (Lit.int .i64 s).wf = true) : ∃ l, keyOf Tryd.prog 184 (pairV h s) = some l := by
  obtain ⟨m, hm⟩ : ∃ m, Tryd.prog.types.size = m + 2 := ⟨Tryd.prog.types.size - 2, by have := Tryd.pk2; omega⟩
  unfold keyOf pairV
  rw [Tryd.underlying184]
  show ∃ l, (if (Tryd.prog.keyType 184 && Value.formed Tryd.prog 184 _) = true then _ else none) = some l
  rw [Tryd.pkT, hm]
  simp [Tryd.underlying184, Value.formed, Tryd.pkC, Program.keyLits, Value.cells, Tryd.pkI, Tryd.underlying3, wh, ws]
theorem intKey (a : Int) (wa : (Lit.int .i64 a).wf = true) : keyOf Tryd.prog 3 (.int .i64 a) = some (.int .i64 a) := Maps.keyOf_int_mk Tryd.underlying3 wa
/-- What is known of a source. -/
def memOf (way : Int) (few many : Value) : Value := .agg #[.int .i64 way, few, many]
theorem zeroMem (w : World) : (zeroValue 187).run Tryd.prog w = .ok (memOf 0 (.slice none 0 0) (.pointer none)) w := by kernel_rfl
theorem field_way (a b c : Value) (w : World) : (Instr.field 187 (.agg #[a, b, c]) 0).run Tryd.prog w = .ok a w := by
  simp [Instr.field, Tryd.underlying187, run_underlying, Tryd.isAgg185, Tryd.sizeOf185, asAgg, go_sem]
theorem field_many (a b c : Value) (w : World) : (Instr.field 187 (.agg #[a, b, c]) 2).run Tryd.prog w = .ok c w := by
  simp [Instr.field, Tryd.underlying187, run_underlying, Tryd.isAgg42, Tryd.sizeOf42, asAgg, go_sem]
theorem zeroUnit (w : World) : (zeroValue 148).run Tryd.prog w = .ok (.agg #[]) w := by kernel_rfl
theorem wf_nat {n : Nat} (h : n ≤ 4611686018427387904) : (Lit.int .i64 (n : Int)).wf = true := WalkArith.wf_i64 (by omega)
end Go.Proofs.YtkmnbaecohhcaaaDoor
/- Package remset: what lies where: each block has a tag that says whose it is. -/
namespace Go.Proofs.YtkmnbaecohhcaaaDoor
set_option linter.unusedVariables false
open Go.RowKit Go.Gl

/-- How each source of each home is remembered, and which cards were added to those that are sparse or fine. -/
structure RS where
  way : Nat → Nat → Nat
  has : Nat → Nat → Bool
/-- A block's tag: a kind (1 the struct, 2 the map of what is known, 3 4 5 the rows, 6 7 a region's index, 8 a home's fine ones, 9 few cards, 10 a set), a home, a source. -/
abbrev Tg := Nat → Nat × Nat × Nat
structure Dim (per n : Nat) : Prop where
  n1 : 1 ≤ n
  n2 : n ≤ 65536
  p1 : 1 ≤ per
  p2 : n * per ≤ 4194304
theorem Dim.p3 {per n : Nat} (h : Dim per n) : per ≤ 4194304 := Nat.le_trans (Nat.le_mul_of_pos_left per h.n1) h.p2
theorem Dim.div {per n c : Nat} (h : Dim per n) (hc : c < n * per) : c / per < n := Nat.div_lt_of_lt_mul (by rw [Nat.mul_comm]; exact hc)
theorem Dim.card {per n s i : Nat} (h : Dim per n) (hs : s < n) (hi : i < per) : s * per + i < n * per ∧ (s * per + i) / per = s ∧ (s * per + i) % per = i := by
  have h1 : s * per + per ≤ n * per := by rw [← Nat.succ_mul]; exact Nat.mul_le_mul_right _ hs
  refine ⟨by omega, ?_, ?_⟩
  · rw [Nat.mul_comm, Nat.mul_add_div (by omega), Nat.div_eq_of_lt hi, Nat.add_zero]
  · rw [Nat.mul_comm, Nat.mul_add_mod, Nat.mod_eq_of_lt hi]
theorem Dim.back {per n c : Nat} (h : Dim per n) : c / per * per + c % per = c ∧ c % per < per := ⟨by rw [Nat.mul_comm]; exact Nat.div_add_mod c per, Nat.mod_lt _ h.p1⟩
def St (w : World) (sb kb sB hB fB per n : Nat) : Prop :=
  Blk w sb 140 #[.int .i64 ((n * per : Nat) : Int), .int .i64 (per : Int), .map (some kb), .slice (some ⟨sB, 0, none⟩) n n, .slice (some ⟨hB, 0, none⟩) n n, .slice (some ⟨fB, 0, none⟩) n n]
structure FewIs (per : Nat) (has : Nat → Bool) (s : Nat) (l : List Int) : Prop where
  up : l.Pairwise (· < ·)
  mem : ∀ x, x ∈ l ↔ ∃ c : Nat, x = (c : Int) ∧ c / per = s ∧ has c = true
  len : l.length ≤ 4
/-- What is known of the source s of the home h. -/
def MemIs (w : World) (tg : Tg) (per : Nat) (has : Nat → Bool) (way h s : Nat) (v : Value) : Prop :=
  (way = 1 ∧ ∃ A c G l, v = memOf 1 (.slice A l.length c) (.pointer none) ∧ Lr w 3 A l.length c G (zv l) ∧ (∀ g, g ∈ G → tg g = (9, h, s)) ∧ FewIs per has s l) ∨
  (way = 2 ∧ ∃ bs bw ws, v = memOf 2 (.slice none 0 0) (.pointer (some ⟨bs, 0, none⟩)) ∧ BSet w bs bw per ws ∧ tg bs = (10, h, s) ∧ tg bw = (10, h, s) ∧ ∀ i, i < per → wbit ws i = has (s * per + i)) ∨
  (way = 3 ∧ v = memOf 3 (.slice none 0 0) (.pointer none))
structure Kn (w : World) (tg : Tg) (kb per n : Nat) (σ : RS) (fk : Value → Option Value) : Prop where
  mp : Mp Tryd.prog 184 w kb fk
  tag : tg kb = (2, 0, 0)
  key : ∀ x v, fk x = some v → ∃ h s : Nat, h < n ∧ s < n ∧ x = pairV h s ∧ σ.way h s ≠ 0
  mem : ∀ h s : Nat, h < n → s < n → σ.way h s ≠ 0 → ∃ v, fk (pairV h s) = some v ∧ MemIs w tg per (σ.has h) (σ.way h s) h s v
/-- One region's map. -/
def IxAt (w : World) (tg : Tg) (kd n r : Nat) (p : Nat → Prop) (v : Value) : Prop :=
  (v = .map none ∧ ∀ x, x < n → ¬ p x) ∨
  ∃ b f, v = .map (some b) ∧ Mp Tryd.prog 3 w b f ∧ tg b = (kd, r, 0) ∧ (∀ x v, f x = some v → ∃ s : Nat, s < n ∧ x = .int .i64 (s : Int)) ∧ ∀ s : Nat, s < n → (f (.int .i64 (s : Int)) ≠ none ↔ p s)
structure Ix (w : World) (tg : Tg) (kd rB n : Nat) (p : Nat → Nat → Prop) (V : Nat → Value) : Prop where
  row : Blk w rB 188 (rowF n V)
  tag : tg rB = (kd - 3, 0, 0)
  own : ∀ r, r < n → IxAt w tg kd n r (p r) (V r)
def FiAt (w : World) (tg : Tg) (n h : Nat) (p : Nat → Prop) (v : Value) : Prop :=
  ∃ A c G, ∃ l : List Nat, v = .slice A l.length c ∧ Lr w 3 A l.length c G (zv (ints l)) ∧ (∀ g, g ∈ G → tg g = (8, h, 0)) ∧ l.Nodup ∧ ∀ s, s ∈ l ↔ s < n ∧ p s
structure Fi (w : World) (tg : Tg) (fB n : Nat) (p : Nat → Nat → Prop) (V : Nat → Value) : Prop where
  row : Blk w fB 48 (rowF n V)
  tag : tg fB = (5, 0, 0)
  own : ∀ h, h < n → FiAt w tg n h (p h) (V h)
def TgOk (w : World) (tg : Tg) : Prop := ∀ b, (tg b).1 ≠ 0 → b < w.heap.size
/-- From tg to tg' only blocks that are new since w have been tagged. -/
def TgUp (w : World) (tg tg' : Tg) : Prop := ∀ b, b < w.heap.size → tg' b = tg b
theorem TgUp.refl (w : World) (tg : Tg) : TgUp w tg tg := fun _ _ => rfl
theorem TgUp.trans {w w' : World} {tg tg' tg'' : Tg} (h : TgUp w tg tg') (k : TgUp w' tg' tg'') (hs : w.heap.size ≤ w'.heap.size) : TgUp w tg tg'' := fun b hb => (k b (by omega)).trans (h b hb)
section
variable {w w' : World} {tg tg' : Tg} {F : List Nat} {per n h s kb sb sB hB fB rB kd way : Nat} {has : Nat → Bool} {v : Value} {σ : RS} {fk : Value → Option Value} {p : Nat → Nat → Prop} {V : Nat → Value}
theorem MemIs.fr (hm : MemIs w tg per has way h s v) (hf : Fr F w w') (hF : ∀ b, b ∈ F → tg b ≠ (9, h, s) ∧ tg b ≠ (10, h, s)) (hu : TgUp w tg tg') : MemIs w' tg' per has way h s v := by
  rcases hm with ⟨e, A, c, G, l, e1, e2, e3, e4⟩ | ⟨e, bs, bw, ws, e1, e2, e3, e4, e5⟩ | hm
  · exact .inl ⟨e, A, c, G, l, e1, e2.fr hf (fun g hg hgF => (hF g hgF).1 (e3 g hg)), fun g hg => (hu g (e2.lt g hg)).trans (e3 g hg), e4⟩
  · exact .inr (.inl ⟨e, bs, bw, ws, e1, e2.fr hf (fun hb => (hF _ hb).2 e3) (fun hb => (hF _ hb).2 e4), (hu _ e2.set.lt).trans e3, (hu _ e2.row.lt).trans e4, e5⟩)
  · exact .inr (.inr hm)
theorem Kn.fr (hk : Kn w tg kb per n σ fk) (hf : Fr F w w') (hF : ∀ b, b ∈ F → (tg b).1 ≠ 2 ∧ (tg b).1 ≠ 9 ∧ (tg b).1 ≠ 10) (hu : TgUp w tg tg') : Kn w' tg' kb per n σ fk :=
  ⟨hk.mp.fr hf (fun hb => (hF _ hb).1 (by rw [hk.tag])), (hu _ hk.mp.lt).trans hk.tag, hk.key, fun h s hh hs hw => by
    obtain ⟨v, e1, e2⟩ := hk.mem h s hh hs hw
    exact ⟨v, e1, e2.fr hf (fun b hb => ⟨fun e => (hF b hb).2.1 (by rw [e]), fun e => (hF b hb).2.2 (by rw [e])⟩) hu⟩⟩
theorem IxAt.fr {r : Nat} {p : Nat → Prop} (hi : IxAt w tg kd n r p v) (hf : Fr F w w') (hF : ∀ b, b ∈ F → tg b ≠ (kd, r, 0)) (hu : TgUp w tg tg') : IxAt w' tg' kd n r p v := by
  rcases hi with hi | ⟨b, f, e1, e2, e3, e4⟩
  · exact .inl hi
  · exact .inr ⟨b, f, e1, e2.fr hf (fun hb => hF _ hb e3), (hu _ e2.lt).trans e3, e4⟩
theorem Ix.fr (hi : Ix w tg kd rB n p V) (hf : Fr F w w') (hF : ∀ b, b ∈ F → (tg b).1 ≠ kd - 3 ∧ (tg b).1 ≠ kd) (hu : TgUp w tg tg') : Ix w' tg' kd rB n p V :=
  ⟨hi.row.fr hf (fun hb => (hF _ hb).1 (by rw [hi.tag])), (hu _ hi.row.lt).trans hi.tag, fun r hr => (hi.own r hr).fr hf (fun b hb e => (hF b hb).2 (by rw [e])) hu⟩
theorem FiAt.fr {p : Nat → Prop} (hi : FiAt w tg n h p v) (hf : Fr F w w') (hF : ∀ b, b ∈ F → tg b ≠ (8, h, 0)) (hu : TgUp w tg tg') : FiAt w' tg' n h p v := by
  obtain ⟨A, c, G, l, e1, e2, e3, e4⟩ := hi
  exact ⟨A, c, G, l, e1, e2.fr hf (fun g hg hgF => hF g hgF (e3 g hg)), fun g hg => (hu g (e2.lt g hg)).trans (e3 g hg), e4⟩
theorem Fi.fr (hi : Fi w tg fB n p V) (hf : Fr F w w') (hF : ∀ b, b ∈ F → (tg b).1 ≠ 5 ∧ (tg b).1 ≠ 8) (hu : TgUp w tg tg') : Fi w' tg' fB n p V :=
  ⟨hi.row.fr hf (fun hb => (hF _ hb).1 (by rw [hi.tag])), (hu _ hi.row.lt).trans hi.tag, fun r hr => (hi.own r hr).fr hf (fun b hb e => (hF b hb).2 (by rw [e])) hu⟩
theorem IxAt.congr {r : Nat} {p q : Nat → Prop} (hi : IxAt w tg kd n r p v) (e : ∀ x, x < n → (p x ↔ q x)) : IxAt w tg kd n r q v := by
  rcases hi with ⟨e1, e2⟩ | ⟨b, f, e1, e2, e3, e4, e5⟩
  · exact .inl ⟨e1, fun x hx => by rw [← e x hx]; exact e2 x hx⟩
  · exact .inr ⟨b, f, e1, e2, e3, e4, fun x hx => (e5 x hx).trans (e x hx)⟩
theorem Ix.congr {q : Nat → Nat → Prop} (hi : Ix w tg kd rB n p V) (e : ∀ r, r < n → ∀ x, x < n → (p r x ↔ q r x)) : Ix w tg kd rB n q V := ⟨hi.row, hi.tag, fun r hr => (hi.own r hr).congr (e r hr)⟩
theorem FiAt.congr {p q : Nat → Prop} (hi : FiAt w tg n h p v) (e : ∀ x, x < n → (p x ↔ q x)) : FiAt w tg n h q v := by
  obtain ⟨A, c, G, l, e1, e2, e3, e4, e5⟩ := hi
  exact ⟨A, c, G, l, e1, e2, e3, e4, fun s => (e5 s).trans (and_congr_right fun hs => e s hs)⟩
theorem Fi.congr {q : Nat → Nat → Prop} (hi : Fi w tg fB n p V) (e : ∀ r, r < n → ∀ x, x < n → (p r x ↔ q r x)) : Fi w tg fB n q V := ⟨hi.row, hi.tag, fun r hr => (hi.own r hr).congr (e r hr)⟩
end
/-- What the ways and the cards keep to. -/
structure SOk (per n : Nat) (σ : RS) : Prop where
  dim : Dim per n
  rng : ∀ h s, σ.way h s ≠ 0 → h < n ∧ s < n ∧ h ≠ s ∧ σ.way h s ≤ 3
  can : ∀ h c, σ.has h c = true → c < n * per ∧ (σ.way h (c / per) = 1 ∨ σ.way h (c / per) = 2)
/-- The sets at sb. -/
structure Rs (w : World) (tg : Tg) (sb kb sB hB fB per n : Nat) (σ : RS) (fk : Value → Option Value) (Vs Vh Vf : Nat → Value) : Prop where
  ok : SOk per n σ
  st : St w sb kb sB hB fB per n
  tst : tg sb = (1, 0, 0)
  tok : TgOk w tg
  kn : Kn w tg kb per n σ fk
  src : Ix w tg 6 sB n (fun h s => σ.way h s ≠ 0) Vs
  hom : Ix w tg 7 hB n (fun s h => σ.way h s ≠ 0) Vh
  fin : Fi w tg fB n (fun h s => σ.way h s = 2) Vf
section
variable {w w' : World} {tg : Tg} {F : List Nat} {sb kb sB hB fB per n : Nat} {σ : RS} {fk : Value → Option Value} {Vs Vh Vf : Nat → Value}
theorem St.fr (h : St w sb kb sB hB fB per n) (hf : Fr F w w') (hb : sb ∉ F) : St w' sb kb sB hB fB per n := Blk.fr h hf hb
theorem St.c0 (h : St w sb kb sB hB fB per n) : w.cell? ⟨sb, 0, none⟩ = some (.int .i64 ((n * per : Nat) : Int)) := by rw [Blk.cell h]; rfl
theorem St.c1 (h : St w sb kb sB hB fB per n) : w.cell? ⟨sb, 1, none⟩ = some (.int .i64 (per : Int)) := by rw [Blk.cell h]; rfl
theorem St.c2 (h : St w sb kb sB hB fB per n) : w.cell? ⟨sb, 2, none⟩ = some (.map (some kb)) := by rw [Blk.cell h]; rfl
theorem St.c3 (h : St w sb kb sB hB fB per n) : w.cell? ⟨sb, 3, none⟩ = some (.slice (some ⟨sB, 0, none⟩) n n) := by rw [Blk.cell h]; rfl
theorem St.c4 (h : St w sb kb sB hB fB per n) : w.cell? ⟨sb, 4, none⟩ = some (.slice (some ⟨hB, 0, none⟩) n n) := by rw [Blk.cell h]; rfl
theorem St.c5 (h : St w sb kb sB hB fB per n) : w.cell? ⟨sb, 5, none⟩ = some (.slice (some ⟨fB, 0, none⟩) n n) := by rw [Blk.cell h]; rfl
/-- What is done elsewhere leaves the sets. -/
theorem Rs.fr (h : Rs w tg sb kb sB hB fB per n σ fk Vs Vh Vf) (hf : Fr F w w') (hF : ∀ b, b ∈ F → (tg b).1 = 0) : Rs w' tg sb kb sB hB fB per n σ fk Vs Vh Vf :=
  ⟨h.ok, h.st.fr hf (fun hb => by have := hF _ hb; rw [h.tst] at this; cases this), h.tst, fun b hb => Nat.lt_of_lt_of_le (h.tok b hb) hf.size,
   h.kn.fr hf (fun b hb => by rw [hF b hb]; decide) (TgUp.refl _ _), h.src.fr hf (fun b hb => by rw [hF b hb]; decide) (TgUp.refl _ _),
   h.hom.fr hf (fun b hb => by rw [hF b hb]; decide) (TgUp.refl _ _), h.fin.fr hf (fun b hb => by rw [hF b hb]; decide) (TgUp.refl _ _)⟩
theorem Rs.fr0 (h : Rs w tg sb kb sB hB fB per n σ fk Vs Vh Vf) (hf : Fr [] w w') : Rs w' tg sb kb sB hB fB per n σ fk Vs Vh Vf := h.fr hf (by simp)
end
/-- What is known at a key. -/
theorem Kn.at {w : World} {tg : Tg} {kb per n : Nat} {σ : RS} {fk : Value → Option Value} (h : Kn w tg kb per n σ fk) (ok : SOk per n σ) (a b : Int) :
    (∃ h s : Nat, a = h ∧ b = s ∧ h < n ∧ s < n ∧ σ.way h s ≠ 0 ∧ ∃ v, fk (pairV a b) = some v ∧ MemIs w tg per (σ.has h) (σ.way h s) h s v) ∨
    (fk (pairV a b) = none ∧ ¬ ∃ h s : Nat, a = h ∧ b = s ∧ σ.way h s ≠ 0) := by
  by_cases e : ∃ h s : Nat, a = h ∧ b = s ∧ σ.way h s ≠ 0
  · obtain ⟨x, s, rfl, rfl, hw⟩ := e
    obtain ⟨h1, h2, _⟩ := ok.rng x s hw
    exact .inl ⟨x, s, rfl, rfl, h1, h2, hw, h.mem x s h1 h2 hw⟩
  · refine .inr ⟨?_, e⟩
    cases hf : fk (pairV a b) with
    | none => rfl
    | some v =>
      obtain ⟨x, s, _, _, e1, hw⟩ := h.key _ _ hf
      obtain ⟨rfl, rfl⟩ := pairV_inj e1
      exact absurd ⟨x, s, rfl, rfl, hw⟩ e
end Go.Proofs.YtkmnbaecohhcaaaDoor
/- The library's slices.Contains, BinarySearch, Insert of whole numbers, and the sorted keys of a map, over lists. -/
namespace Go.Proofs.YtkmnbaecohhcaaaDoor
set_option linter.unusedVariables false
open Go.RowKit Go.Gl Go.Shelf Go.Maps Go.Sort


theorem Fr_setCells {F : List Nat} {g : Nat} (hg : g ∈ F) : ∀ (vs : List Value) (o : Nat) (w : World), Fr F w (w.setCells g o vs)
  | [], _, _ => Fr.refl _ _
  | v :: r, o, w => by
    rw [World.setCells]
    exact ((Fr.refl F w).setCell (p := ⟨g, o, none⟩) (.inl hg) v).trans_same (Fr_setCells hg r (o + 1) _)
theorem Blk_setCells {g : Nat} {t : TypeId} : ∀ (vs : List Value) (o : Nat) (w : World) (cur : Array Value), Blk w g t cur → ∃ cur', Blk (w.setCells g o vs) g t cur' ∧ cur'.size = cur.size
  | [], _, _, cur, h => ⟨cur, h, rfl⟩
  | v :: r, o, w, cur, h => by
    rw [World.setCells]
    obtain ⟨cur', h1, h2⟩ := Blk_setCells r (o + 1) _ _ (h.put o v)
    exact ⟨cur', h1, by rw [h2]; simp⟩
theorem Lr_of_cells {w : World} {e : TypeId} {g off n c : Nat} {cur : Array Value} {xs : List Value} (h : Blk w g e cur) (hn : n ≤ c) (hm : c ≤ maxLen) (h0 : 0 < c) (hs : off + c ≤ cur.size) (hl : xs.length = n) (hx : ∀ j, j < n → w.cell? ⟨g, off + j, none⟩ = xs[j]?) : Lr w e (some ⟨g, off, none⟩) n c [g] xs :=
  ⟨hl, hn, hm, fun h => absurd h (by omega), fun _ => ⟨g, off, cur, rfl, rfl, h, hs, by
    apply List.ext_getElem?
    intro j
    by_cases hj : j < n
    · rw [List.getElem?_take_of_lt hj, List.getElem?_drop, Array.getElem?_toList, ← h.cell, hx j hj]
    · rw [List.getElem?_eq_none (by simp; omega), List.getElem?_eq_none (by omega)]⟩⟩
theorem ins_get (l : List Int) (i : Nat) (x : Int) (hi : i ≤ l.length) (j : Nat) : (zv (l.take i ++ x :: l.drop i))[j]? = if j < i then (zv l)[j]? else if j = i then some (.int .i64 x) else (zv l)[j - 1]? := by
  simp only [zv, List.getElem?_map]
  by_cases h1 : j < i
  · rw [if_pos h1, List.getElem?_append_left (by simp; omega), List.getElem?_take_of_lt h1]
  · rw [if_neg h1, List.getElem?_append_right (by simp; omega), List.length_take, Nat.min_eq_left hi]
    by_cases h2 : j = i
    · subst h2; simp
    · rw [if_neg h2, show j - i = (j - 1 - i) + 1 by omega, List.getElem?_cons_succ, List.getElem?_drop, show i + (j - 1 - i) = j - 1 by omega]
def InsPost (w : World) (G : List Nat) (l : List Int) (e : Ending) (w' : World) : Prop := ∃ A' c' G', e = .returned (.slice A' l.length c') ∧ Lr w' 3 A' l.length c' G' (zv l) ∧ Fr G w w' ∧ ∀ g, g ∈ G' → g ∈ G ∨ g = w.heap.size
end Go.Proofs.YtkmnbaecohhcaaaDoor
/- Package remset: what is asked. -/
namespace Go.Proofs.YtkmnbaecohhcaaaDoor
set_option linter.unusedVariables false
open Go.RowKit Go.Gl

section
variable {w : World} {sb kb sB hB fB per n : Nat}
end
/-- Way, at any numbers. -/
def wayI (σ : RS) (a b : Int) : Nat := if 0 ≤ a ∧ 0 ≤ b then σ.way a.toNat b.toNat else 0
theorem wayI_at (σ : RS) (h s : Nat) : wayI σ (h : Int) (s : Int) = σ.way h s := by simp [wayI]
theorem wayI_no {σ : RS} {a b : Int} (h : ¬ ∃ x s : Nat, a = x ∧ b = s ∧ σ.way x s ≠ 0) : wayI σ a b = 0 := by
  unfold wayI
  split
  · rename_i h1
    obtain ⟨x, rfl⟩ := Int.eq_ofNat_of_zero_le h1.1
    obtain ⟨s, rfl⟩ := Int.eq_ofNat_of_zero_le h1.2
    rcases Nat.eq_zero_or_pos (σ.way x s) with h2 | h2
    · simpa using h2
    · exact absurd ⟨x, s, rfl, rfl, by omega⟩ h
  · rfl
end Go.Proofs.YtkmnbaecohhcaaaDoor
/- Package remset: index.put. -/
namespace Go.Proofs.YtkmnbaecohhcaaaDoor
set_option linter.unusedVariables false
open Go.RowKit Go.Gl

def setTg (tg : Tg) (b : Nat) (t : Nat × Nat × Nat) : Tg := fun x => if x = b then t else tg x
theorem setTg_at (tg : Tg) (b : Nat) (t) : setTg tg b t b = t := by simp [setTg]
theorem setTg_ne (tg : Tg) {b x : Nat} (t) (h : x ≠ b) : setTg tg b t x = tg x := by simp [setTg, h]
theorem TgUp.set {w : World} {tg : Tg} {b : Nat} (t) (h : w.heap.size ≤ b) : TgUp w tg (setTg tg b t) := fun x hx => setTg_ne _ _ (by omega)
def PutPost (w : World) (tg : Tg) (kd rB n : Nat) (p : Nat → Nat → Prop) (e : Ending) (w' : World) : Prop :=
  ∃ V' tg' F, e = .returned (.tuple #[]) ∧ Ix w' tg' kd rB n p V' ∧ Fr F w w' ∧ (∀ b, b ∈ F → (tg b).1 = kd - 3 ∨ (tg b).1 = kd) ∧ TgUp w tg tg' ∧ (TgOk w tg → TgOk w' tg')
end Go.Proofs.YtkmnbaecohhcaaaDoor
/- Package remset: one source of one home remembered otherwise. -/
namespace Go.Proofs.YtkmnbaecohhcaaaDoor
set_option linter.unusedVariables false
open Go.RowKit Go.Gl

/-- The source s of the home h is remembered in the way k, its cards are those of g. -/
def RS.put (σ : RS) (per h s k : Nat) (g : Nat → Bool) : RS := ⟨fun a b => if a = h ∧ b = s then k else σ.way a b, fun a c => if a = h ∧ c / per = s then g c else σ.has a c⟩
theorem RS.way_at (σ : RS) (per h s k : Nat) (g : Nat → Bool) : (σ.put per h s k g).way h s = k := by simp [RS.put]
theorem RS.way_ne (σ : RS) (per : Nat) {h s a b : Nat} (k : Nat) (g : Nat → Bool) (e : ¬ (a = h ∧ b = s)) : (σ.put per h s k g).way a b = σ.way a b := by simp only [RS.put]; rw [if_neg e]
theorem RS.has_at (σ : RS) (per h s k : Nat) (g : Nat → Bool) {c : Nat} (e : c / per = s) : (σ.put per h s k g).has h c = g c := by simp [RS.put, e]
theorem RS.has_ne (σ : RS) (per : Nat) {h s a c : Nat} (k : Nat) (g : Nat → Bool) (e : ¬ (a = h ∧ c / per = s)) : (σ.put per h s k g).has a c = σ.has a c := by simp only [RS.put]; rw [if_neg e]
section
variable {w w1 w2 : World} {tg tg' : Tg} {F : List Nat} {per n h s kb k way : Nat} {has has' g : Nat → Bool} {v : Value} {σ : RS} {fk : Value → Option Value}
theorem MemIs.congr (hm : MemIs w tg per has way h s v) (e : ∀ c, c / per = s → has c = has' c) : MemIs w tg per has' way h s v := by
  rcases hm with ⟨e0, A, c, G, l, e1, e2, e3, e4⟩ | ⟨e0, bs, bw, ws, e1, e2, e3, e4, e5⟩ | hm
  · refine .inl ⟨e0, A, c, G, l, e1, e2, e3, e4.up, fun x => (e4.mem x).trans ?_, e4.len⟩
    constructor
    · rintro ⟨c, h1, h2, h3⟩; exact ⟨c, h1, h2, by rw [← e c h2]; exact h3⟩
    · rintro ⟨c, h1, h2, h3⟩; exact ⟨c, h1, h2, by rw [e c h2]; exact h3⟩
  · refine .inr (.inl ⟨e0, bs, bw, ws, e1, e2, e3, e4, fun i hi => (e5 i hi).trans (e _ ?_)⟩)
    rw [Nat.mul_comm, Nat.mul_add_div (by omega), Nat.div_eq_of_lt hi, Nat.add_zero]
  · exact .inr (.inr hm)
theorem Kn.up (hK : Kn w tg kb per n σ fk) (hh : h < n) (hs : s < n) (hk : k ≠ 0) (hf : Fr F w w1) (hF : ∀ b, b ∈ F → (tg b).1 ≠ 2 ∧ ((tg b).1 = 9 ∨ (tg b).1 = 10 → (tg b).2 = (h, s))) (hu : TgUp w tg tg')
    (hM : Mp Tryd.prog 184 w2 kb (upF fk (pairV h s) v)) (hf2 : Fr [kb] w1 w2) (hm : MemIs w1 tg' per g k h s v) : Kn w2 tg' kb per n (σ.put per h s k g) (upF fk (pairV h s) v) := by
  have hkb : tg' kb = (2, 0, 0) := (hu _ hK.mp.lt).trans hK.tag
  refine ⟨hM, hkb, fun x v' hx => ?_, fun a b ha hb hw => ?_⟩
  · by_cases e : x = pairV h s
    · exact ⟨h, s, hh, hs, e, by rw [RS.way_at]; exact hk⟩
    · rw [upF_ne _ _ e] at hx
      obtain ⟨a, b, h1, h2, h3, h4⟩ := hK.key _ _ hx
      refine ⟨a, b, h1, h2, h3, ?_⟩
      rw [RS.way_ne]
      · exact h4
      · rintro ⟨rfl, rfl⟩; exact e h3
  · by_cases e : a = h ∧ b = s
    · obtain ⟨rfl, rfl⟩ := e
      refine ⟨v, upF_at _ _ _, ?_⟩
      rw [RS.way_at]
      refine (hm.fr hf2 (fun y hy => ?_) (TgUp.refl _ _)).congr fun c hc => (RS.has_at _ _ _ _ _ _ hc).symm
      simp at hy; subst hy; rw [hkb]; simp
    · rw [RS.way_ne _ _ _ _ e] at hw ⊢
      obtain ⟨v', e1, e2⟩ := hK.mem a b ha hb hw
      refine ⟨v', ?_, ?_⟩
      · rw [upF_ne]
        · exact e1
        · intro e3; have := pairV_inj e3; exact e ⟨by omega, by omega⟩
      · refine ((e2.fr hf (fun y hy => ?_) hu).fr hf2 (fun y hy => ?_) (TgUp.refl _ _)).congr fun c hc => (RS.has_ne _ _ _ _ (fun e4 => e ⟨e4.1, hc.symm.trans e4.2⟩)).symm
        · have h1 := (hF y hy).2
          constructor
          · intro e5; rw [e5] at h1; have := h1 (.inl rfl); injection this with h6 h7; exact e ⟨h6, h7⟩
          · intro e5; rw [e5] at h1; have := h1 (.inr rfl); injection this with h6 h7; exact e ⟨h6, h7⟩
        · simp at hy; subst hy; rw [hkb]; simp
theorem Kn.off (hK : Kn w tg kb per n σ fk) (hM : Mp Tryd.prog 184 w2 kb (offF fk (pairV h s))) (hf2 : Fr [kb] w w2) : Kn w2 tg kb per n (σ.put per h s 0 (fun _ => false)) (offF fk (pairV h s)) := by
  refine ⟨hM, hK.tag, fun x v' hx => ?_, fun a b ha hb hw => ?_⟩
  · by_cases e : x = pairV h s
    · subst e; rw [offF_at] at hx; cases hx
    · rw [offF_ne _ e] at hx
      obtain ⟨a, b, h1, h2, h3, h4⟩ := hK.key _ _ hx
      refine ⟨a, b, h1, h2, h3, ?_⟩
      rw [RS.way_ne]
      · exact h4
      · rintro ⟨rfl, rfl⟩; exact e h3
  · by_cases e : a = h ∧ b = s
    · obtain ⟨rfl, rfl⟩ := e; rw [RS.way_at] at hw; exact absurd rfl hw
    · rw [RS.way_ne _ _ _ _ e] at hw ⊢
      obtain ⟨v', e1, e2⟩ := hK.mem a b ha hb hw
      refine ⟨v', ?_, ?_⟩
      · rw [offF_ne]
        · exact e1
        · intro e3; have := pairV_inj e3; exact e ⟨by omega, by omega⟩
      · refine (e2.fr hf2 (fun y hy => ?_) (TgUp.refl _ _)).congr fun c hc => (RS.has_ne _ _ _ _ (fun e4 => e ⟨e4.1, hc.symm.trans e4.2⟩)).symm
        simp at hy; subst hy; rw [hK.tag]; simp
theorem SOk.put (ok : SOk per n σ) (hk : k ≠ 0 → h < n ∧ s < n ∧ h ≠ s ∧ k ≤ 3) (hg : ∀ c, c / per = s → g c = true → c < n * per ∧ (k = 1 ∨ k = 2)) : SOk per n (σ.put per h s k g) := by
  refine ⟨ok.dim, fun a b hw => ?_, fun a c hc => ?_⟩
  · by_cases e : a = h ∧ b = s
    · obtain ⟨rfl, rfl⟩ := e; rw [RS.way_at] at hw ⊢; exact hk hw
    · rw [RS.way_ne _ _ _ _ e] at hw ⊢; exact ok.rng a b hw
  · by_cases e : a = h ∧ c / per = s
    · obtain ⟨rfl, e2⟩ := e; rw [RS.has_at _ _ _ _ _ _ e2] at hc; rw [e2, RS.way_at]; exact hg c e2 hc
    · rw [RS.has_ne _ _ _ _ e] at hc; rw [RS.way_ne _ _ _ _ e]; exact ok.can a c hc
end
end Go.Proofs.YtkmnbaecohhcaaaDoor
/- The sorted keys of a map keyed by int, by the library's contracts. -/
namespace Go.Proofs.YtkmnbaecohhcaaaDoor
set_option linter.unusedVariables false
open Go.RowKit Go.Gl Go.Shelf Go.Maps Go.Sort
open Go.WideElems (Fit rd rg rd_key rg_of rd_mk)

theorem nodup_below : ∀ (n : Nat) (l : List Nat), l.Nodup → (∀ x ∈ l, x < n) → l.length ≤ n
  | 0, l, _, h => by
    cases l with
    | nil => simp
    | cons a r => exact absurd (h a (by simp)) (by omega)
  | n + 1, l, hn, h => by
    have h1 := List.length_eq_countP_add_countP (fun x => x == n) (l := l)
    have h2 : l.countP (fun x => x == n) ≤ 1 := List.nodup_iff_count.1 hn n
    have h3 := nodup_below n (l.filter fun x => !(x == n)) (hn.filter _) (fun x hx => by
      obtain ⟨a, b⟩ := List.mem_filter.1 hx
      have := h x a
      simp at b
      omega)
    rw [← List.countP_eq_length_filter] at h3
    simp only [decide_not, Bool.decide_eq_true] at h1 h3
    have e : l.countP (fun x => !(x == n)) = l.countP (fun x => decide ¬(x == n) = true) := by congr 1; funext x; cases (x == n) <;> rfl
    simp only [decide_not, Bool.decide_eq_true] at e
    omega
def unitR : Value → Option (DataW Unit × List MemPlace) := fun _ => some (.nil, [])
theorem ents_keys {es : Array MapEntry} {clock : Nat} {f : Value → Option Value} (E : Ents Tryd.prog 3 es clock f) {n : Nat} (hn : n ≤ 1048576) (hk : ∀ x v, f x = some v → ∃ s : Nat, s < n ∧ x = .int .i64 (s : Int)) :
    es.size ≤ n ∧ Fit Tryd.prog 3 unitR es clock ∧ ∀ x ∈ es.toList, ∃ s : Nat, s < n ∧ x.key = .int .i64 (s : Int) ∧ (rg Tryd.prog 3 unitR x).1 = .int .i64 (s : Int) := by
  have h1 : ∀ x ∈ es.toList, ∃ s : Nat, s < n ∧ x.key = .int .i64 (s : Int) ∧ rd Tryd.prog 3 unitR x = some (.int .i64 (s : Int), .nil) := fun x hx => by
    obtain ⟨s, h2, h3⟩ := hk _ _ (E.val x hx)
    have h4 := intKey (s : Int) (wf_nat (by omega))
    rw [← h3] at h4
    exact ⟨s, h2, h3, by unfold WideElems.rd; rw [h4]; rfl⟩
  have hsz : es.size ≤ n := by
    have := nodup_below n (es.toList.map fun x => (match x.key with | .int _ a => a.toNat | _ => 0)) (by
      refine List.pairwise_map.2 (((MapKept.stamped_iff es clock).1 E.st).2.2.imp_of_mem fun {p q} hp hq hne e => hne ?_)
      obtain ⟨a, _, ha, _⟩ := h1 p hp
      obtain ⟨b, _, hb, _⟩ := h1 q hq
      rw [ha, hb] at e ⊢
      simp at e
      rw [e]) (fun y hy => by
      obtain ⟨x, hx, rfl⟩ := List.mem_map.1 hy
      obtain ⟨a, h2, ha, _⟩ := h1 x hx
      rw [ha]; simpa using h2)
    simpa using this
  refine ⟨hsz, ⟨by unfold maxLen; omega, E.st, fun x hx => ?_⟩, fun x hx => ?_⟩
  · obtain ⟨s, _, _, h⟩ := h1 x hx
    exact ⟨_, h⟩
  · obtain ⟨s, h2, h3, h⟩ := h1 x hx
    exact ⟨s, h2, h3, by rw [rg_of h]⟩
def KeysPost (w : World) (p : Int → Prop) (e : Ending) (w' : World) : Prop := ∃ (A : Option Addr) (c : Nat) (G : List Nat) (ks : List Int), e = .returned (.slice A ks.length c) ∧ Lr w' 3 A ks.length c G (zv ks) ∧ ks.Pairwise (· < ·) ∧ (∀ x, x ∈ ks ↔ p x) ∧ Fr [] w w' ∧ ∀ g, g ∈ G → w.heap.size ≤ g
end Go.Proofs.YtkmnbaecohhcaaaDoor
/- Package remset: Has. -/
namespace Go.Proofs.YtkmnbaecohhcaaaDoor
set_option linter.unusedVariables false
open Go.RowKit Go.Gl

theorem drewN_two (w : World) (i q : Nat) : (w.drewN i).drewN q = w.drewN (i + q) := by simp [World.drewN, Nat.add_assoc]
/-- What Has answers. -/
def hasI (σ : RS) (per n : Nat) (a c : Int) : Bool := decide (0 ≤ c ∧ c < ((n * per : Nat) : Int)) && decide (0 ≤ a) && (σ.way a.toNat (c.toNat / per) == 3 || σ.has a.toNat c.toNat)
def hasN (σ : RS) (per h c : Nat) : Bool := σ.way h (c / per) == 3 || σ.has h c
theorem hasI_at (σ : RS) (per n h c : Nat) (hc : c < n * per) : hasI σ per n (h : Int) (c : Int) = hasN σ per h c := by
  have h1 : (c : Int) < ((n * per : Nat) : Int) := by omega
  simp [hasI, hasN, -Int.natCast_mul, h1]
theorem hasI_no {σ : RS} {per n : Nat} {a c : Int} (h : ¬ (0 ≤ c ∧ c < ((n * per : Nat) : Int))) : hasI σ per n a c = false := by unfold hasI; rw [decide_eq_false h]; rfl
section
variable {w : World} {tg : Tg} {sb kb sB hB fB per n : Nat} {σ : RS} {fk : Value → Option Value} {Vs Vh Vf : Nat → Value}
end
end Go.Proofs.YtkmnbaecohhcaaaDoor
/- Package remset: how many cards, which source has the most. -/
namespace Go.Proofs.YtkmnbaecohhcaaaDoor
set_option linter.unusedVariables false
set_option linter.unusedSimpArgs false
open Go.RowKit Go.Gl

def cntS (σ : RS) (per h s : Nat) : Nat := cnt (fun i => σ.has h (s * per + i)) 0 per
theorem cntS_le (σ : RS) (per h s : Nat) : cntS σ per h s ≤ per := cnt_le _ _ _
theorem cntR_cntS {ws : List Nat} {per h s : Nat} {σ : RS} (hlen : ws.length = (per + 63) / 64) (hw : ∀ i, i < per → wbit ws i = σ.has h (s * per + i)) : cntR ws 0 (per : Int) = cntS σ per h s := by
  unfold cntR cntS
  rw [show ws.length * 64 = per + (ws.length * 64 - per) by omega, cnt_add, cnt_none (p := fun j => wbit ws j && decide ((0 : Int) ≤ (j : Int) ∧ (j : Int) < (per : Int))) (a := 0 + per) (by intro j hj; simp; intro _; omega), Nat.add_zero]
  refine cnt_congr fun j hj => ?_
  rw [Nat.zero_add, hw j hj]
  have : decide ((0 : Int) ≤ (j : Int) ∧ (j : Int) < (per : Int)) = true := decide_eq_true (by omega)
  rw [this, Bool.and_true]
section
variable {w : World} {tg : Tg} {sb kb sB hB fB per n : Nat} {σ : RS} {fk : Value → Option Value}
end
def cmp3 (x y : Int) : Int := if x < y then -1 else if x > y then 1 else 0
/-- How two sources compare: by the number of cards, then the lower one is the greater. -/
def cmpV (σ : RS) (per h a b : Nat) : Int := if cmp3 (cntS σ per h a) (cntS σ per h b) ≠ 0 then cmp3 (cntS σ per h a) (cntS σ per h b) else cmp3 (b : Int) (a : Int)
theorem cmpV_pos (σ : RS) (per h a b : Nat) : 0 < cmpV σ per h a b ↔ cntS σ per h b < cntS σ per h a ∨ (cntS σ per h b = cntS σ per h a ∧ a < b) := by
  unfold cmpV cmp3
  generalize cntS σ per h a = ca
  generalize cntS σ per h b = cb
  by_cases h1 : (ca : Int) < (cb : Int)
  · rw [if_pos h1]
    simp
    omega
  · rw [if_neg h1]
    by_cases h2 : (ca : Int) > (cb : Int)
    · rw [if_pos h2]
      simp
      omega
    · rw [if_neg h2]
      simp only [ne_eq, not_true_eq_false, if_false]
      by_cases h3 : (b : Int) < (a : Int)
      · rw [if_pos h3]; omega
      · rw [if_neg h3]
        by_cases h4 : (b : Int) > (a : Int)
        · rw [if_pos h4]; omega
        · rw [if_neg h4]; omega
section
variable {w : World} {tg : Tg} {sb kb sB hB fB per n : Nat} {σ : RS} {fk : Value → Option Value}
/-- Is a source at least as good as another one? -/
def Bet (σ : RS) (per h a b : Nat) : Prop := cntS σ per h b < cntS σ per h a ∨ (cntS σ per h b = cntS σ per h a ∧ a ≤ b)
theorem Bet.refl (σ : RS) (per h a : Nat) : Bet σ per h a a := .inr ⟨rfl, Nat.le_refl _⟩
theorem Bet.trans {σ : RS} {per h a b c : Nat} (h1 : Bet σ per h a b) (h2 : Bet σ per h b c) : Bet σ per h a c := by unfold Bet at *; omega
theorem Bet.antisymm {σ : RS} {per h a b : Nat} (h1 : Bet σ per h a b) (h2 : Bet σ per h b a) : a = b := by unfold Bet at *; omega
theorem Bet.of_not {σ : RS} {per h a b : Nat} (h1 : ¬ 0 < cmpV σ per h a b) : Bet σ per h b a := by rw [cmpV_pos] at h1; unfold Bet; omega
theorem Bet.of_pos {σ : RS} {per h a b : Nat} (h1 : 0 < cmpV σ per h a b) : Bet σ per h a b := by rw [cmpV_pos] at h1; unfold Bet; omega
/-- Of these the best. -/
def IsBest (σ : RS) (per h : Nat) (l : List Nat) (m : Nat) : Prop := m ∈ l ∧ ∀ x, x ∈ l → Bet σ per h m x
theorem IsBest.uniq {σ : RS} {per h : Nat} {l : List Nat} {m m' : Nat} (h1 : IsBest σ per h l m) (h2 : IsBest σ per h l m') : m = m' := (h1.2 _ h2.1).antisymm (h2.2 _ h1.1)
end
end Go.Proofs.YtkmnbaecohhcaaaDoor
/- slices.DeleteFunc by leaveFine's closure, over lists. -/
namespace Go.Proofs.YtkmnbaecohhcaaaDoor
set_option linter.unusedVariables false
open Go.RowKit Go.Gl Go.Shelf Go.Sort

theorem Blk_putRow {w : World} {g : Nat} {t : TypeId} {cur : Array Value} (h : Blk w g t cur) (enc : Int → Value) (off : Nat) (d : Array Int) : Blk (putRow enc w g off d) g t (putCells enc off d cur) := by
  unfold Blk at h ⊢
  simp [putRow, mapBlock, Array.getElem?_modify, h, onCells]
theorem Fr_putRow (w : World) (g : Nat) (enc : Int → Value) (off : Nat) (d : Array Int) : Fr [g] w (putRow enc w g off d) :=
  ⟨rfl, rfl, rfl, by simp [putRow, mapBlock], fun i _ hi => by
    have : g ≠ i := fun e => hi (by simp [e])
    simp [putRow, mapBlock, Array.getElem?_modify, this]⟩
end Go.Proofs.YtkmnbaecohhcaaaDoor
/- Package remset: leaveFine, makeCoarse. -/
namespace Go.Proofs.YtkmnbaecohhcaaaDoor
set_option linter.unusedVariables false
set_option linter.unusedSimpArgs false
open Go.RowKit Go.Gl

theorem nodup_ints {l : List Nat} {s : Nat} : (ints l).filter (fun x => !decide (x = (s : Int))) = ints (l.filter fun x => !decide (x = s)) := by
  unfold ints
  rw [List.filter_map]
  congr 1
  apply List.filter_congr
  intro x _
  have : ((x : Int) = (s : Int)) ↔ x = s := by omega
  simp [this]
def FinPost (w : World) (tg : Tg) (fB n : Nat) (p : Nat → Nat → Prop) (e : Ending) (w' : World) : Prop :=
  ∃ V' F, e = .returned (.tuple #[]) ∧ Fi w' tg fB n p V' ∧ Fr F w w' ∧ ∀ b, b ∈ F → (tg b).1 = 5 ∨ (tg b).1 = 8
/-- .. for a source known as coarse. -/
def CoarsePost (w : World) (tg : Tg) (kb fB per n h s : Nat) (σ : RS) (p : Nat → Nat → Prop) (e : Ending) (w' : World) : Prop :=
  ∃ V' F fk', e = .returned (.tuple #[]) ∧ Kn w' tg kb per n (σ.put per h s 3 (fun _ => false)) fk' ∧ Fi w' tg fB n (fun a b => p a b ∧ ¬ (a = h ∧ b = s)) V' ∧ Fr F w w' ∧ ∀ b, b ∈ F → (tg b).1 = 2 ∨ (tg b).1 = 5 ∨ (tg b).1 = 8
end Go.Proofs.YtkmnbaecohhcaaaDoor
