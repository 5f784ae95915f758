/- Package remset: what lies where: each block has a tag that says whose it is. -/
import Derived.Test.YtkbffmmomoeaiaaDoorS0
import Derived.Test.YtkbffmmomoeaiaaDoorLr
import Derived.Test.YtkbffmmomoeaiaaDoorNm
import Derived.Test.YtkbffmmomoeaiaaDoorB4
namespace Go.Proofs.YtkbffmmomoeaiaaDoor
set_option linter.unusedVariables false
open Go.RowKit Go.Gl

/-- How each source of each home is remembered, and which cards were added to those that are sparse or fine. -/
structure RS where
  way : Nat → Nat → Nat
  has : Nat → Nat → Bool
/-- A block's tag: a kind (1 the struct, 2 the map of what is known, 3 4 5 the rows, 6 7 a region's index, 8 a home's fine ones, 9 few cards, 10 a set), a home, a source. -/
abbrev Tg := Nat → Nat × Nat × Nat
structure Dim (per n : Nat) : Prop where
  n1 : 1 ≤ n
  n2 : n ≤ 65536
  p1 : 1 ≤ per
  p2 : n * per ≤ 4194304
theorem Dim.p3 {per n : Nat} (h : Dim per n) : per ≤ 4194304 := Nat.le_trans (Nat.le_mul_of_pos_left per h.n1) h.p2
theorem Dim.div {per n c : Nat} (h : Dim per n) (hc : c < n * per) : c / per < n := Nat.div_lt_of_lt_mul (by rw [Nat.mul_comm]; exact hc)
theorem Dim.card {per n s i : Nat} (h : Dim per n) (hs : s < n) (hi : i < per) : s * per + i < n * per ∧ (s * per + i) / per = s ∧ (s * per + i) % per = i := by
  have h1 : s * per + per ≤ n * per := by rw [← Nat.succ_mul]; exact Nat.mul_le_mul_right _ hs
  refine ⟨by omega, ?_, ?_⟩
  · rw [Nat.mul_comm, Nat.mul_add_div (by omega), Nat.div_eq_of_lt hi, Nat.add_zero]
  · rw [Nat.mul_comm, Nat.mul_add_mod, Nat.mod_eq_of_lt hi]
theorem Dim.back {per n c : Nat} (h : Dim per n) : c / per * per + c % per = c ∧ c % per < per := ⟨by rw [Nat.mul_comm]; exact Nat.div_add_mod c per, Nat.mod_lt _ h.p1⟩
def St (w : World) (sb kb sB hB fB per n : Nat) : Prop :=
  Blk w sb 60 #[.int .i64 ((n * per : Nat) : Int), .int .i64 (per : Int), .map (some kb), .slice (some ⟨sB, 0, none⟩) n n, .slice (some ⟨hB, 0, none⟩) n n, .slice (some ⟨fB, 0, none⟩) n n]
structure FewIs (per : Nat) (has : Nat → Bool) (s : Nat) (l : List Int) : Prop where
  up : l.Pairwise (· < ·)
  mem : ∀ x, x ∈ l ↔ ∃ c : Nat, x = (c : Int) ∧ c / per = s ∧ has c = true
  len : l.length ≤ 4
/-- What is known of the source s of the home h. -/
def MemIs (w : World) (tg : Tg) (per : Nat) (has : Nat → Bool) (way h s : Nat) (v : Value) : Prop :=
  (way = 1 ∧ ∃ A c G l, v = memOf 1 (.slice A l.length c) (.pointer none) ∧ Lr w 3 A l.length c G (zv l) ∧ (∀ g, g ∈ G → tg g = (9, h, s)) ∧ FewIs per has s l) ∨
  (way = 2 ∧ ∃ bs bw ws, v = memOf 2 (.slice none 0 0) (.pointer (some ⟨bs, 0, none⟩)) ∧ BSet w bs bw per ws ∧ tg bs = (10, h, s) ∧ tg bw = (10, h, s) ∧ ∀ i, i < per → wbit ws i = has (s * per + i)) ∨
  (way = 3 ∧ v = memOf 3 (.slice none 0 0) (.pointer none))
structure Kn (w : World) (tg : Tg) (kb per n : Nat) (σ : RS) (fk : Value → Option Value) : Prop where
  mp : Mp Tryd.prog 76 w kb fk
  tag : tg kb = (2, 0, 0)
  key : ∀ x v, fk x = some v → ∃ h s : Nat, h < n ∧ s < n ∧ x = pairV h s ∧ σ.way h s ≠ 0
  mem : ∀ h s : Nat, h < n → s < n → σ.way h s ≠ 0 → ∃ v, fk (pairV h s) = some v ∧ MemIs w tg per (σ.has h) (σ.way h s) h s v
/-- One region's map. -/
def IxAt (w : World) (tg : Tg) (kd n r : Nat) (p : Nat → Prop) (v : Value) : Prop :=
  (v = .map none ∧ ∀ x, x < n → ¬ p x) ∨
  ∃ b f, v = .map (some b) ∧ Mp Tryd.prog 3 w b f ∧ tg b = (kd, r, 0) ∧ (∀ x v, f x = some v → ∃ s : Nat, s < n ∧ x = .int .i64 (s : Int)) ∧ ∀ s : Nat, s < n → (f (.int .i64 (s : Int)) ≠ none ↔ p s)
structure Ix (w : World) (tg : Tg) (kd rB n : Nat) (p : Nat → Nat → Prop) (V : Nat → Value) : Prop where
  row : Blk w rB 72 (rowF n V)
  tag : tg rB = (kd - 3, 0, 0)
  own : ∀ r, r < n → IxAt w tg kd n r (p r) (V r)
def FiAt (w : World) (tg : Tg) (n h : Nat) (p : Nat → Prop) (v : Value) : Prop :=
  ∃ A c G, ∃ l : List Nat, v = .slice A l.length c ∧ Lr w 3 A l.length c G (zv (ints l)) ∧ (∀ g, g ∈ G → tg g = (8, h, 0)) ∧ l.Nodup ∧ ∀ s, s ∈ l ↔ s < n ∧ p s
structure Fi (w : World) (tg : Tg) (fB n : Nat) (p : Nat → Nat → Prop) (V : Nat → Value) : Prop where
  row : Blk w fB 37 (rowF n V)
  tag : tg fB = (5, 0, 0)
  own : ∀ h, h < n → FiAt w tg n h (p h) (V h)
def TgOk (w : World) (tg : Tg) : Prop := ∀ b, (tg b).1 ≠ 0 → b < w.heap.size
/-- From tg to tg' only blocks that are new since w have been tagged. -/
def TgUp (w : World) (tg tg' : Tg) : Prop := ∀ b, b < w.heap.size → tg' b = tg b
theorem TgUp.refl (w : World) (tg : Tg) : TgUp w tg tg := fun _ _ => rfl
theorem TgUp.trans {w w' : World} {tg tg' tg'' : Tg} (h : TgUp w tg tg') (k : TgUp w' tg' tg'') (hs : w.heap.size ≤ w'.heap.size) : TgUp w tg tg'' := fun b hb => (k b (by omega)).trans (h b hb)
section
variable {w w' : World} {tg tg' : Tg} {F : List Nat} {per n h s kb sb sB hB fB rB kd way : Nat} {has : Nat → Bool} {v : Value} {σ : RS} {fk : Value → Option Value} {p : Nat → Nat → Prop} {V : Nat → Value}
theorem MemIs.fr (hm : MemIs w tg per has way h s v) (hf : Fr F w w') (hF : ∀ b, b ∈ F → tg b ≠ (9, h, s) ∧ tg b ≠ (10, h, s)) (hu : TgUp w tg tg') : MemIs w' tg' per has way h s v := by
  rcases hm with ⟨e, A, c, G, l, e1, e2, e3, e4⟩ | ⟨e, bs, bw, ws, e1, e2, e3, e4, e5⟩ | hm
  · exact .inl ⟨e, A, c, G, l, e1, e2.fr hf (fun g hg hgF => (hF g hgF).1 (e3 g hg)), fun g hg => (hu g (e2.lt g hg)).trans (e3 g hg), e4⟩
  · exact .inr (.inl ⟨e, bs, bw, ws, e1, e2.fr hf (fun hb => (hF _ hb).2 e3) (fun hb => (hF _ hb).2 e4), (hu _ e2.set.lt).trans e3, (hu _ e2.row.lt).trans e4, e5⟩)
  · exact .inr (.inr hm)
theorem Kn.fr (hk : Kn w tg kb per n σ fk) (hf : Fr F w w') (hF : ∀ b, b ∈ F → (tg b).1 ≠ 2 ∧ (tg b).1 ≠ 9 ∧ (tg b).1 ≠ 10) (hu : TgUp w tg tg') : Kn w' tg' kb per n σ fk :=
  ⟨hk.mp.fr hf (fun hb => (hF _ hb).1 (by rw [hk.tag])), (hu _ hk.mp.lt).trans hk.tag, hk.key, fun h s hh hs hw => by
    obtain ⟨v, e1, e2⟩ := hk.mem h s hh hs hw
    exact ⟨v, e1, e2.fr hf (fun b hb => ⟨fun e => (hF b hb).2.1 (by rw [e]), fun e => (hF b hb).2.2 (by rw [e])⟩) hu⟩⟩
theorem IxAt.fr {r : Nat} {p : Nat → Prop} (hi : IxAt w tg kd n r p v) (hf : Fr F w w') (hF : ∀ b, b ∈ F → tg b ≠ (kd, r, 0)) (hu : TgUp w tg tg') : IxAt w' tg' kd n r p v := by
  rcases hi with hi | ⟨b, f, e1, e2, e3, e4⟩
  · exact .inl hi
  · exact .inr ⟨b, f, e1, e2.fr hf (fun hb => hF _ hb e3), (hu _ e2.lt).trans e3, e4⟩
theorem Ix.fr (hi : Ix w tg kd rB n p V) (hf : Fr F w w') (hF : ∀ b, b ∈ F → (tg b).1 ≠ kd - 3 ∧ (tg b).1 ≠ kd) (hu : TgUp w tg tg') : Ix w' tg' kd rB n p V :=
  ⟨hi.row.fr hf (fun hb => (hF _ hb).1 (by rw [hi.tag])), (hu _ hi.row.lt).trans hi.tag, fun r hr => (hi.own r hr).fr hf (fun b hb e => (hF b hb).2 (by rw [e])) hu⟩
theorem FiAt.fr {p : Nat → Prop} (hi : FiAt w tg n h p v) (hf : Fr F w w') (hF : ∀ b, b ∈ F → tg b ≠ (8, h, 0)) (hu : TgUp w tg tg') : FiAt w' tg' n h p v := by
  obtain ⟨A, c, G, l, e1, e2, e3, e4⟩ := hi
  exact ⟨A, c, G, l, e1, e2.fr hf (fun g hg hgF => hF g hgF (e3 g hg)), fun g hg => (hu g (e2.lt g hg)).trans (e3 g hg), e4⟩
theorem Fi.fr (hi : Fi w tg fB n p V) (hf : Fr F w w') (hF : ∀ b, b ∈ F → (tg b).1 ≠ 5 ∧ (tg b).1 ≠ 8) (hu : TgUp w tg tg') : Fi w' tg' fB n p V :=
  ⟨hi.row.fr hf (fun hb => (hF _ hb).1 (by rw [hi.tag])), (hu _ hi.row.lt).trans hi.tag, fun r hr => (hi.own r hr).fr hf (fun b hb e => (hF b hb).2 (by rw [e])) hu⟩
theorem IxAt.congr {r : Nat} {p q : Nat → Prop} (hi : IxAt w tg kd n r p v) (e : ∀ x, x < n → (p x ↔ q x)) : IxAt w tg kd n r q v := by
  rcases hi with ⟨e1, e2⟩ | ⟨b, f, e1, e2, e3, e4, e5⟩
  · exact .inl ⟨e1, fun x hx => by rw [← e x hx]; exact e2 x hx⟩
  · exact .inr ⟨b, f, e1, e2, e3, e4, fun x hx => (e5 x hx).trans (e x hx)⟩
theorem Ix.congr {q : Nat → Nat → Prop} (hi : Ix w tg kd rB n p V) (e : ∀ r, r < n → ∀ x, x < n → (p r x ↔ q r x)) : Ix w tg kd rB n q V := ⟨hi.row, hi.tag, fun r hr => (hi.own r hr).congr (e r hr)⟩
theorem FiAt.congr {p q : Nat → Prop} (hi : FiAt w tg n h p v) (e : ∀ x, x < n → (p x ↔ q x)) : FiAt w tg n h q v := by
  obtain ⟨A, c, G, l, e1, e2, e3, e4, e5⟩ := hi
  exact ⟨A, c, G, l, e1, e2, e3, e4, fun s => (e5 s).trans (and_congr_right fun hs => e s hs)⟩
theorem Fi.congr {q : Nat → Nat → Prop} (hi : Fi w tg fB n p V) (e : ∀ r, r < n → ∀ x, x < n → (p r x ↔ q r x)) : Fi w tg fB n q V := ⟨hi.row, hi.tag, fun r hr => (hi.own r hr).congr (e r hr)⟩
end
/-- What the ways and the cards keep to. -/
structure SOk (per n : Nat) (σ : RS) : Prop where
  dim : Dim per n
  rng : ∀ h s, σ.way h s ≠ 0 → h < n ∧ s < n ∧ h ≠ s ∧ σ.way h s ≤ 3
  can : ∀ h c, σ.has h c = true → c < n * per ∧ (σ.way h (c / per) = 1 ∨ σ.way h (c / per) = 2)
/-- The sets at sb. -/
structure Rs (w : World) (tg : Tg) (sb kb sB hB fB per n : Nat) (σ : RS) (fk : Value → Option Value) (Vs Vh Vf : Nat → Value) : Prop where
  ok : SOk per n σ
  st : St w sb kb sB hB fB per n
  tst : tg sb = (1, 0, 0)
  tok : TgOk w tg
  kn : Kn w tg kb per n σ fk
  src : Ix w tg 6 sB n (fun h s => σ.way h s ≠ 0) Vs
  hom : Ix w tg 7 hB n (fun s h => σ.way h s ≠ 0) Vh
  fin : Fi w tg fB n (fun h s => σ.way h s = 2) Vf
section
variable {w w' : World} {tg : Tg} {F : List Nat} {sb kb sB hB fB per n : Nat} {σ : RS} {fk : Value → Option Value} {Vs Vh Vf : Nat → Value}
theorem St.fr (h : St w sb kb sB hB fB per n) (hf : Fr F w w') (hb : sb ∉ F) : St w' sb kb sB hB fB per n := Blk.fr h hf hb
theorem St.c0 (h : St w sb kb sB hB fB per n) : w.cell? ⟨sb, 0, none⟩ = some (.int .i64 ((n * per : Nat) : Int)) := by rw [Blk.cell h]; rfl
theorem St.c1 (h : St w sb kb sB hB fB per n) : w.cell? ⟨sb, 1, none⟩ = some (.int .i64 (per : Int)) := by rw [Blk.cell h]; rfl
theorem St.c2 (h : St w sb kb sB hB fB per n) : w.cell? ⟨sb, 2, none⟩ = some (.map (some kb)) := by rw [Blk.cell h]; rfl
theorem St.c3 (h : St w sb kb sB hB fB per n) : w.cell? ⟨sb, 3, none⟩ = some (.slice (some ⟨sB, 0, none⟩) n n) := by rw [Blk.cell h]; rfl
theorem St.c4 (h : St w sb kb sB hB fB per n) : w.cell? ⟨sb, 4, none⟩ = some (.slice (some ⟨hB, 0, none⟩) n n) := by rw [Blk.cell h]; rfl
theorem St.c5 (h : St w sb kb sB hB fB per n) : w.cell? ⟨sb, 5, none⟩ = some (.slice (some ⟨fB, 0, none⟩) n n) := by rw [Blk.cell h]; rfl
/-- What is done elsewhere leaves the sets. -/
theorem Rs.fr (h : Rs w tg sb kb sB hB fB per n σ fk Vs Vh Vf) (hf : Fr F w w') (hF : ∀ b, b ∈ F → (tg b).1 = 0) : Rs w' tg sb kb sB hB fB per n σ fk Vs Vh Vf :=
  ⟨h.ok, h.st.fr hf (fun hb => by have := hF _ hb; rw [h.tst] at this; cases this), h.tst, fun b hb => Nat.lt_of_lt_of_le (h.tok b hb) hf.size,
   h.kn.fr hf (fun b hb => by rw [hF b hb]; decide) (TgUp.refl _ _), h.src.fr hf (fun b hb => by rw [hF b hb]; decide) (TgUp.refl _ _),
   h.hom.fr hf (fun b hb => by rw [hF b hb]; decide) (TgUp.refl _ _), h.fin.fr hf (fun b hb => by rw [hF b hb]; decide) (TgUp.refl _ _)⟩
theorem Rs.fr0 (h : Rs w tg sb kb sB hB fB per n σ fk Vs Vh Vf) (hf : Fr [] w w') : Rs w' tg sb kb sB hB fB per n σ fk Vs Vh Vf := h.fr hf (by simp)
end
/-- What is known at a key. -/
theorem Kn.at {w : World} {tg : Tg} {kb per n : Nat} {σ : RS} {fk : Value → Option Value} (h : Kn w tg kb per n σ fk) (ok : SOk per n σ) (a b : Int) :
    (∃ h s : Nat, a = h ∧ b = s ∧ h < n ∧ s < n ∧ σ.way h s ≠ 0 ∧ ∃ v, fk (pairV a b) = some v ∧ MemIs w tg per (σ.has h) (σ.way h s) h s v) ∨
    (fk (pairV a b) = none ∧ ¬ ∃ h s : Nat, a = h ∧ b = s ∧ σ.way h s ≠ 0) := by
  by_cases e : ∃ h s : Nat, a = h ∧ b = s ∧ σ.way h s ≠ 0
  · obtain ⟨x, s, rfl, rfl, hw⟩ := e
    obtain ⟨h1, h2, _⟩ := ok.rng x s hw
    exact .inl ⟨x, s, rfl, rfl, h1, h2, hw, h.mem x s h1 h2 hw⟩
  · refine .inr ⟨?_, e⟩
    cases hf : fk (pairV a b) with
    | none => rfl
    | some v =>
      obtain ⟨x, s, _, _, e1, hw⟩ := h.key _ _ hf
      obtain ⟨rfl, rfl⟩ := pairV_inj e1
      exact absurd ⟨x, s, rfl, rfl, hw⟩ e
end Go.Proofs.YtkbffmmomoeaiaaDoor
