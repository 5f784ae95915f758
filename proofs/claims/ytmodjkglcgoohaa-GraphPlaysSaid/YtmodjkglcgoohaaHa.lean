/- gleanerref13: what lies where. -/
import Derived.Test.YtmodjkglcgoohaaGa
import Derived.Test.YtmodjkglcgoohaaRk
import Derived.WalkKit
namespace Go.Proofs.Ytmodjkglcgoohaa
set_option linter.unusedVariables false
set_option linter.unusedSimpArgs false
open Go.RowKit Go.Gl

/-- A row of numbers of its own. -/
def SlAt (w : World) (tg : TG) (e : TypeId) (kd : Nat) (r : Int) (v : Value) (l : List Int) : Prop := ∃ A c G, v = .slice A l.length c ∧ Lr w e A l.length c G (refV l) ∧ ∀ g, g ∈ G → tg g = (kd, r)
/-- Where the document's graph's parts lie. -/
structure ML where
  m : Nat
  ov : Value
  sA : Option Addr
  sc : Nat
  sG : List Nat
  S : Nat → Nat
  db : Nat
  rv : Int → Value
  dv : Int → Value
def ptrs (S : Nat → Nat) (K : Nat) : List Value := (List.range K).map fun i => .pointer (some ⟨S i, 0, none⟩)
theorem ptrs_len (S : Nat → Nat) (K : Nat) : (ptrs S K).length = K := by simp [ptrs]
theorem ptrs_at (S : Nat → Nat) {K i : Nat} (h : i < K) : (ptrs S K)[i]? = some (.pointer (some ⟨S i, 0, none⟩)) := by simp [ptrs, h]
/-- The document's graph at m, of K stacks: tags 11 the struct, 12 the objects' row, 13 the stacks' row, 16 a stack, 14 an object's references, 15 its data, 17 how many operations were done. -/
structure MG (w : World) (tg : TG) (Λ : ML) (K T B M : Nat) (σ : GS) : Prop where
  st : Blk w Λ.m 59 #[.int .i64 (M : Int), Λ.ov, .slice Λ.sA K Λ.sc, .slice (some ⟨Λ.db, 0, none⟩) T T]
  t1 : tg Λ.m = (11, 0)
  obj : R2 w 86 Λ.ov σ.N (fun k => Λ.rv ((k : Int) + 1)) (fun k => Λ.dv ((k : Int) + 1))
  t2 : ∀ b, Λ.ov.ownBlock = some b → tg b = (12, 0)
  refs : ∀ r, 1 ≤ r → r ≤ (σ.N : Int) → SlAt w tg 51 14 r (Λ.rv r) (kids σ r)
  data : ∀ r, 1 ≤ r → r ≤ (σ.N : Int) → SlAt w tg 32 15 r (Λ.dv r) (datas σ r)
  row : Lr w 60 Λ.sA K Λ.sc Λ.sG (ptrs Λ.S K)
  t3 : ∀ g, g ∈ Λ.sG → tg g = (13, 0)
  stk : ∀ i, i < K → ∃ F, HkR w (Λ.S i) F B (σ.st i) ∧ ∀ x, x ∈ F → tg x = (16, (i : Int))
  don : Blk w Λ.db 3 (rowF T fun i => .int .i64 (σ.done i : Int))
  t4 : tg Λ.db = (17, 0)
  tok : GTgOk w tg
section
variable {w w' : World} {tg tg' : TG} {F : List Nat} {Λ : ML} {K T B M : Nat} {σ : GS}
theorem SlAt.fr {e : TypeId} {kd : Nat} {r : Int} {v : Value} {l : List Int} (h : SlAt w tg e kd r v l) (hf : Fr F w w') (hF : ∀ x, x ∈ F → tg x ≠ (kd, r)) (hu : GTgUp w tg tg') : SlAt w' tg' e kd r v l := by
  obtain ⟨A, c, G, h1, h2, h3⟩ := h
  exact ⟨A, c, G, h1, h2.fr hf (fun g hg hx => hF g hx (h3 g hg)), fun g hg => (hu g (h2.lt g hg)).trans (h3 g hg)⟩
theorem MG.st' (h : MG w tg Λ K T B M σ) (hf : Fr F w w') (hF : ∀ x, x ∈ F → (tg x).1 ≠ 11) : Blk w' Λ.m 59 #[.int .i64 (M : Int), Λ.ov, .slice Λ.sA K Λ.sc, .slice (some ⟨Λ.db, 0, none⟩) T T] := h.st.fr hf (fun hx => tagNe hF _ hx h.t1)
theorem MG.obj' (h : MG w tg Λ K T B M σ) (hf : Fr F w w') (hF : ∀ x, x ∈ F → (tg x).1 ≠ 12) : R2 w' 86 Λ.ov σ.N (fun k => Λ.rv ((k : Int) + 1)) (fun k => Λ.dv ((k : Int) + 1)) := h.obj.fr hf (fun b hb hx => tagNe hF _ hx (h.t2 b hb))
theorem MG.refs' (h : MG w tg Λ K T B M σ) (hf : Fr F w w') (hF : ∀ x, x ∈ F → (tg x).1 ≠ 14) (hu : GTgUp w tg tg') : ∀ r, 1 ≤ r → r ≤ (σ.N : Int) → SlAt w' tg' 51 14 r (Λ.rv r) (kids σ r) := fun r h1 h2 => (h.refs r h1 h2).fr hf (tagNe hF) hu
theorem MG.data' (h : MG w tg Λ K T B M σ) (hf : Fr F w w') (hF : ∀ x, x ∈ F → (tg x).1 ≠ 15) (hu : GTgUp w tg tg') : ∀ r, 1 ≤ r → r ≤ (σ.N : Int) → SlAt w' tg' 32 15 r (Λ.dv r) (datas σ r) := fun r h1 h2 => (h.data r h1 h2).fr hf (tagNe hF) hu
theorem MG.row' (h : MG w tg Λ K T B M σ) (hf : Fr F w w') (hF : ∀ x, x ∈ F → (tg x).1 ≠ 13) : Lr w' 60 Λ.sA K Λ.sc Λ.sG (ptrs Λ.S K) := h.row.fr hf (fun g hg hx => tagNe hF _ hx (h.t3 g hg))
theorem MG.stk' (h : MG w tg Λ K T B M σ) (hf : Fr F w w') {i : Nat} (hi : i < K) (hF : ∀ x, x ∈ F → tg x ≠ (16, (i : Int))) (hu : GTgUp w tg tg') : ∃ F, HkR w' (Λ.S i) F B (σ.st i) ∧ ∀ x, x ∈ F → tg' x = (16, (i : Int)) := by
  obtain ⟨G, h1, h2⟩ := h.stk i hi
  exact ⟨G, h1.fr hf (fun x hx hx' => hF x hx' (h2 x hx)), fun x hx => (hu x (h1.lt x hx)).trans (h2 x hx)⟩
theorem MG.don' (h : MG w tg Λ K T B M σ) (hf : Fr F w w') (hF : ∀ x, x ∈ F → (tg x).1 ≠ 17) : Blk w' Λ.db 3 (rowF T fun i => .int .i64 (σ.done i : Int)) := h.don.fr hf (fun hx => tagNe hF _ hx h.t4)
theorem MG.tags (h : MG w tg Λ K T B M σ) (hu : GTgUp w tg tg') : tg' Λ.m = (11, 0) ∧ (∀ b, Λ.ov.ownBlock = some b → tg' b = (12, 0)) ∧ (∀ g, g ∈ Λ.sG → tg' g = (13, 0)) ∧ tg' Λ.db = (17, 0) :=
  ⟨(hu _ h.st.lt).trans h.t1, fun b hb => (hu _ (h.obj.lt hb)).trans (h.t2 b hb), fun g hg => (hu _ (h.row.lt g hg)).trans (h.t3 g hg), (hu _ h.don.lt).trans h.t4⟩
/-- What is done elsewhere leaves it. -/
theorem MG.fr (h : MG w tg Λ K T B M σ) (hf : Fr F w w') (hF : ∀ x, x ∈ F → (tg x).1 = 0) : MG w' tg Λ K T B M σ := by
  have hk : ∀ k, k ≠ 0 → ∀ x, x ∈ F → (tg x).1 ≠ k := fun k hk x hx e => hk (by rw [← e, hF x hx])
  have hu := GTgUp.refl w tg
  exact ⟨h.st' hf (hk 11 (by decide)), h.t1, h.obj' hf (hk 12 (by decide)), h.t2, h.refs' hf (hk 14 (by decide)) hu, h.data' hf (hk 15 (by decide)) hu, h.row' hf (hk 13 (by decide)), h.t3,
    fun i hi => h.stk' hf hi (tagNe (hk 16 (by decide))) hu, h.don' hf (hk 17 (by decide)), h.t4, tok' h.tok hf⟩
theorem MG.fr0 (h : MG w tg Λ K T B M σ) (hf : Fr [] w w') : MG w' tg Λ K T B M σ := h.fr hf (by simp)
theorem MG.c0 (h : MG w tg Λ K T B M σ) : w.cell? ⟨Λ.m, 0, none⟩ = some (.int .i64 (M : Int)) := by rw [h.st.cell]; rfl
theorem MG.c1 (h : MG w tg Λ K T B M σ) : w.cell? ⟨Λ.m, 1, none⟩ = some Λ.ov := by rw [h.st.cell]; rfl
theorem MG.c2 (h : MG w tg Λ K T B M σ) : w.cell? ⟨Λ.m, 2, none⟩ = some (.slice Λ.sA K Λ.sc) := by rw [h.st.cell]; rfl
theorem MG.c3 (h : MG w tg Λ K T B M σ) : w.cell? ⟨Λ.m, 3, none⟩ = some (.slice (some ⟨Λ.db, 0, none⟩) T T) := by rw [h.st.cell]; rfl
/-- A call on a thread's stack. -/
theorem MG.stack (h : MG w tg Λ K T B M σ) {i : Nat} (hi : i < K) {G G' : List Nat} {l : List Int} (h1 : HkR w (Λ.S i) G B (σ.st i)) (h2 : ∀ x, x ∈ G → tg x = (16, (i : Int))) (hf : Fr G w w') (k1 : HkR w' (Λ.S i) G' B l) (k2 : ∀ x, x ∈ G' → x ∈ G ∨ w.heap.size ≤ x) :
    ∃ tg', MG w' tg' Λ K T B M (σ.setSt i l) ∧ GFr w tg w' tg' := by
  have hu : GTgUp w tg (fun x => if w.heap.size ≤ x ∧ x < w'.heap.size then (16, (i : Int)) else tg x) := fun b hb => if_neg (by omega)
  have ht : GTgOk w' (fun x => if w.heap.size ≤ x ∧ x < w'.heap.size then (16, (i : Int)) else tg x) := fun b hb => by
    by_cases e : w.heap.size ≤ b ∧ b < w'.heap.size
    · exact e.2
    · simp only [if_neg e] at hb
      exact Nat.lt_of_lt_of_le (h.tok b hb) hf.size
  have hk : ∀ k, k ≠ 16 → ∀ x, x ∈ G → (tg x).1 ≠ k := fun k hk x hx e => hk (by rw [← e, h2 x hx])
  obtain ⟨a1, a2, a3, a4⟩ := h.tags hu
  refine ⟨_, ⟨h.st' hf (hk 11 (by decide)), a1, h.obj' hf (hk 12 (by decide)), a2, h.refs' hf (hk 14 (by decide)) hu, h.data' hf (hk 15 (by decide)) hu, h.row' hf (hk 13 (by decide)), a3, fun j hj => ?_, h.don' hf (hk 17 (by decide)), a4, ht⟩, ⟨⟨G, hf, hk 0 (by decide)⟩, hu⟩⟩
  by_cases e : j = i
  · subst e
    refine ⟨G', ?_, fun x hx => ?_⟩
    · show HkR w' (Λ.S j) G' B (setF σ.st j l j)
      rw [setF_at]
      exact k1
    · rcases k2 x hx with h3 | h3
      · have h4 : x < w.heap.size := h1.lt x h3
        exact (hu x h4).trans (h2 x h3)
      · exact if_pos ⟨h3, k1.lt x hx⟩
  · obtain ⟨H, h3, h4⟩ := h.stk' hf hj (fun x hx e1 => e (by rw [h2 x hx] at e1; injection e1 with _ e1; omega)) hu
    refine ⟨H, ?_, h4⟩
    show HkR w' (Λ.S j) H B (setF σ.st i l j)
    rw [setF_ne _ _ e]
    exact h3
theorem kids_setRef (σ : GS) (r : Int) {b : Nat} (y : Int) (x : Int) : kids (σ.setRef r (b : Int) y) x = if x = r then (kids σ r).set b y else kids σ x := by
  unfold kids GS.setRef
  by_cases e : x = r
  · subst e
    rw [if_pos rfl]
    apply List.ext_getElem
    · simp
    · intro i h1 h2
      simp only [List.getElem_map, List.getElem_range, List.getElem_set]
      rw [setF_at]
      by_cases e2 : b = i
      · subst e2; rw [if_pos rfl, setF_at]
      · rw [if_neg e2, setF_ne _ _ (by omega)]
  · rw [if_neg e]
    apply List.map_congr_left
    intro i _
    show setF σ.ref r _ x _ = _
    rw [setF_ne _ _ e]
theorem datas_setDat (σ : GS) (r : Int) {b : Nat} (y : Int) (x : Int) : datas (σ.setDat r (b : Int) y) x = if x = r then (datas σ r).set b y else datas σ x := by
  unfold datas GS.setDat
  by_cases e : x = r
  · subst e
    rw [if_pos rfl]
    apply List.ext_getElem
    · simp
    · intro i h1 h2
      simp only [List.getElem_map, List.getElem_range, List.getElem_set]
      rw [setF_at]
      by_cases e2 : b = i
      · subst e2; rw [if_pos rfl, setF_at]
      · rw [if_neg e2, setF_ne _ _ (by omega)]
  · rw [if_neg e]
    apply List.map_congr_left
    intro i _
    show setF σ.dat r _ x _ = _
    rw [setF_ne _ _ e]
/-- A number of such a row stored. -/
theorem SlAt.put {e : TypeId} {kd : Nat} {r : Int} {g off n c b : Nat} {l : List Int} (h : SlAt w tg e kd r (.slice (some ⟨g, off, none⟩) n c) l) (hb : b < l.length) (y : Int) : SlAt (w.setCell ⟨g, off + b, none⟩ (.int .u64 y)) tg e kd r (.slice (some ⟨g, off, none⟩) n c) (l.set b y) ∧ tg g = (kd, r) := by
  obtain ⟨A, c', G, h1, h2, h3⟩ := h
  injection h1 with q1 q2 q3
  subst q1 q2 q3
  obtain ⟨g', off', e1, e2, _⟩ := h2.pos (by omega)
  injection e1 with e1
  injection e1 with e1
  subst e1
  refine ⟨⟨_, c, G, by rw [List.length_set], ?_, h3⟩, h3 g (by simp [e2])⟩
  rw [List.length_set, refV_set]
  exact h2.put hb _
theorem MG.rput (h : MG w tg Λ K T B M σ) {r : Int} {b : Nat} (h1 : 1 ≤ r) (h2 : r ≤ (σ.N : Int)) (hb : b < σ.np r) {g off n c : Nat} (hv : Λ.rv r = .slice (some ⟨g, off, none⟩) n c) (y : Int) :
    MG (w.setCell ⟨g, off + b, none⟩ (.int .u64 y)) tg Λ K T B M (σ.setRef r (b : Int) y) ∧ GFr w tg (w.setCell ⟨g, off + b, none⟩ (.int .u64 y)) tg := by
  have hr := h.refs r h1 h2
  rw [hv] at hr
  obtain ⟨hp, ht⟩ := hr.put (by rw [kids_len]; exact hb) y
  have hf : Fr [g] w (w.setCell ⟨g, off + b, none⟩ (.int .u64 y)) := (Fr.refl _ _).setCell (p := ⟨g, off + b, none⟩) (.inl (by simp)) _
  have hT : ∀ x, x ∈ [g] → tg x = (14, r) := fun x hx => by simp at hx; rw [hx]; exact ht
  have hk : ∀ k, k ≠ 14 → ∀ x, x ∈ [g] → (tg x).1 ≠ k := fun k hk x hx e => hk (by rw [← e, hT x hx])
  have hu := GTgUp.refl w tg
  refine ⟨⟨h.st' hf (hk 11 (by decide)), h.t1, h.obj' hf (hk 12 (by decide)), h.t2, fun x x1 x2 => ?_, h.data' hf (hk 15 (by decide)) hu, h.row' hf (hk 13 (by decide)), h.t3,
    fun i hi => h.stk' hf hi (tagNe (hk 16 (by decide))) hu, h.don' hf (hk 17 (by decide)), h.t4, tok' h.tok hf⟩, GFr.of hf (hk 0 (by decide))⟩
  rw [kids_setRef]
  by_cases e : x = r
  · subst e
    rw [if_pos rfl, hv]
    exact hp
  · rw [if_neg e]
    exact (h.refs x x1 x2).fr hf (fun z hz => by rw [hT z hz]; simp; exact Ne.symm e) hu
theorem MG.dput (h : MG w tg Λ K T B M σ) {r : Int} {b : Nat} (h1 : 1 ≤ r) (h2 : r ≤ (σ.N : Int)) (hb : b < σ.nw r) {g off n c : Nat} (hv : Λ.dv r = .slice (some ⟨g, off, none⟩) n c) (y : Int) :
    MG (w.setCell ⟨g, off + b, none⟩ (.int .u64 y)) tg Λ K T B M (σ.setDat r (b : Int) y) ∧ GFr w tg (w.setCell ⟨g, off + b, none⟩ (.int .u64 y)) tg := by
  have hr := h.data r h1 h2
  rw [hv] at hr
  obtain ⟨hp, ht⟩ := hr.put (by unfold datas; simpa using hb) y
  have hf : Fr [g] w (w.setCell ⟨g, off + b, none⟩ (.int .u64 y)) := (Fr.refl _ _).setCell (p := ⟨g, off + b, none⟩) (.inl (by simp)) _
  have hT : ∀ x, x ∈ [g] → tg x = (15, r) := fun x hx => by simp at hx; rw [hx]; exact ht
  have hk : ∀ k, k ≠ 15 → ∀ x, x ∈ [g] → (tg x).1 ≠ k := fun k hk x hx e => hk (by rw [← e, hT x hx])
  have hu := GTgUp.refl w tg
  refine ⟨⟨h.st' hf (hk 11 (by decide)), h.t1, h.obj' hf (hk 12 (by decide)), h.t2, h.refs' hf (hk 14 (by decide)) hu, fun x x1 x2 => ?_, h.row' hf (hk 13 (by decide)), h.t3,
    fun i hi => h.stk' hf hi (tagNe (hk 16 (by decide))) hu, h.don' hf (hk 17 (by decide)), h.t4, tok' h.tok hf⟩, GFr.of hf (hk 0 (by decide))⟩
  rw [datas_setDat]
  by_cases e : x = r
  · subst e
    rw [if_pos rfl, hv]
    exact hp
  · rw [if_neg e]
    exact (h.data x x1 x2).fr hf (fun z hz => by rw [hT z hz]; simp; exact Ne.symm e) hu
/-- A thread's count stored. -/
theorem MG.done (h : MG w tg Λ K T B M σ) {i : Nat} (hi : i < T) : MG (w.setCell ⟨Λ.db, i, none⟩ (.int .i64 ((σ.done i + 1 : Nat) : Int))) tg Λ K T B M (σ.tick i) ∧ GFr w tg (w.setCell ⟨Λ.db, i, none⟩ (.int .i64 ((σ.done i + 1 : Nat) : Int))) tg := by
  have hf : Fr [Λ.db] w (w.setCell ⟨Λ.db, i, none⟩ (.int .i64 ((σ.done i + 1 : Nat) : Int))) := (Fr.refl _ _).setCell (p := ⟨Λ.db, i, none⟩) (.inl (by simp)) _
  have hk : ∀ k, k ≠ 17 → ∀ x, x ∈ [Λ.db] → (tg x).1 ≠ k := fun k hk x hx e => hk (by simp at hx; rw [← e, hx, h.t4])
  have hu := GTgUp.refl w tg
  refine ⟨⟨h.st' hf (hk 11 (by decide)), h.t1, h.obj' hf (hk 12 (by decide)), h.t2, h.refs' hf (hk 14 (by decide)) hu, h.data' hf (hk 15 (by decide)) hu, h.row' hf (hk 13 (by decide)), h.t3,
    fun i hi => h.stk' hf hi (tagNe (hk 16 (by decide))) hu, ?_, h.t4, tok' h.tok hf⟩, GFr.of hf (hk 0 (by decide))⟩
  have := h.don.put i (.int .i64 ((σ.done i + 1 : Nat) : Int))
  rw [rowF_set] at this
  have e : putF (fun i => Value.int .i64 (σ.done i : Int)) i (.int .i64 ((σ.done i + 1 : Nat) : Int)) = fun j => Value.int .i64 ((σ.tick i).done j : Int) := by
    funext j
    show _ = Value.int .i64 ((setF σ.done i (σ.done i + 1) j : Nat) : Int)
    by_cases e : j = i
    · subst e; rw [putF_at, setF_at]
    · rw [putF_ne _ _ e, setF_ne _ _ e]
  rw [e] at this
  exact this
end
end Go.Proofs.Ytmodjkglcgoohaa
