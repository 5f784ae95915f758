/- Several texts joined (pack.py): Ha Up Uq Uo Ut Hb Hc Ur. -/
import Derived.Test.YthacgiajnafpgaaGreatDoorQGa
import Derived.Test.YthacgiajnafpgaaGreatDoorQRo
import Derived.WalkKit
import Derived.Test.YthacgiajnafpgaaGreatDoorQL15P
import Derived.Deep.OwnRows
import Derived.Deep.CutRange
import Derived.Deep.RegionHeld3
import Derived.BigQuiet
import Derived.Test.YthacgiajnafpgaaGreatDoorQVr
import Derived.Test.YthacgiajnafpgaaGreatDoorQGz
namespace Go.Proofs.YthacgiajnafpgaaGreatDoor
set_option maxRecDepth 100000
set_option linter.unusedVariables false
set_option linter.unusedSimpArgs false
open Go.RowKit Go.Gl

/-- A row of numbers of its own. -/
def SlAt (w : World) (tg : TG) (e : TypeId) (kd : Nat) (r : Int) (v : Value) (l : List Int) : Prop := ∃ A c G, v = .slice A l.length c ∧ Lr w e A l.length c G (refV l) ∧ ∀ g, g ∈ G → tg g = (kd, r)
/-- Where the document's graph's parts lie. -/
structure ML where
  m : Nat
  ov : Value
  sA : Option Addr
  sc : Nat
  sG : List Nat
  S : Nat → Nat
  db : Nat
  rv : Int → Value
  dv : Int → Value
def ptrs (S : Nat → Nat) (K : Nat) : List Value := (List.range K).map fun i => .pointer (some ⟨S i, 0, none⟩)
/-- The document's graph at m, of K stacks: tags 11 the struct, 12 the objects' row, 13 the stacks' row, 16 a stack, 14 an object's references, 15 its data, 17 how many operations were done. -/
structure MG (w : World) (tg : TG) (Λ : ML) (K T B M : Nat) (σ : GS) : Prop where
  st : Blk w Λ.m 124 #[.int .i64 (M : Int), Λ.ov, .slice Λ.sA K Λ.sc, .slice (some ⟨Λ.db, 0, none⟩) T T]
  t1 : tg Λ.m = (11, 0)
  obj : R2 w 237 Λ.ov σ.N (fun k => Λ.rv ((k : Int) + 1)) (fun k => Λ.dv ((k : Int) + 1))
  t2 : ∀ b, Λ.ov.ownBlock = some b → tg b = (12, 0)
  refs : ∀ r, 1 ≤ r → r ≤ (σ.N : Int) → SlAt w tg 67 14 r (Λ.rv r) (kids σ r)
  data : ∀ r, 1 ≤ r → r ≤ (σ.N : Int) → SlAt w tg 64 15 r (Λ.dv r) (datas σ r)
  row : Lr w 213 Λ.sA K Λ.sc Λ.sG (ptrs Λ.S K)
  t3 : ∀ g, g ∈ Λ.sG → tg g = (13, 0)
  stk : ∀ i, i < K → ∃ F, HkR w (Λ.S i) F B (σ.st i) ∧ ∀ x, x ∈ F → tg x = (16, (i : Int))
  don : Blk w Λ.db 3 (rowF T fun i => .int .i64 (σ.done i : Int))
  t4 : tg Λ.db = (17, 0)
  tok : GTgOk w tg
section
variable {w w' : World} {tg tg' : TG} {F : List Nat} {Λ : ML} {K T B M : Nat} {σ : GS}
theorem SlAt.fr {e : TypeId} {kd : Nat} {r : Int} {v : Value} {l : List Int} (h : SlAt w tg e kd r v l) (hf : Fr F w w') (hF : ∀ x, x ∈ F → tg x ≠ (kd, r)) (hu : GTgUp w tg tg') : SlAt w' tg' e kd r v l := by
  obtain ⟨A, c, G, h1, h2, h3⟩ := h
  exact ⟨A, c, G, h1, h2.fr hf (fun g hg hx => hF g hx (h3 g hg)), fun g hg => (hu g (h2.lt g hg)).trans (h3 g hg)⟩
theorem MG.st' (h : MG w tg Λ K T B M σ) (hf : Fr F w w') (hF : ∀ x, x ∈ F → (tg x).1 ≠ 11) : Blk w' Λ.m 124 #[.int .i64 (M : Int), Λ.ov, .slice Λ.sA K Λ.sc, .slice (some ⟨Λ.db, 0, none⟩) T T] := h.st.fr hf (fun hx => tagNe hF _ hx h.t1)
theorem MG.obj' (h : MG w tg Λ K T B M σ) (hf : Fr F w w') (hF : ∀ x, x ∈ F → (tg x).1 ≠ 12) : R2 w' 237 Λ.ov σ.N (fun k => Λ.rv ((k : Int) + 1)) (fun k => Λ.dv ((k : Int) + 1)) := h.obj.fr hf (fun b hb hx => tagNe hF _ hx (h.t2 b hb))
theorem MG.refs' (h : MG w tg Λ K T B M σ) (hf : Fr F w w') (hF : ∀ x, x ∈ F → (tg x).1 ≠ 14) (hu : GTgUp w tg tg') : ∀ r, 1 ≤ r → r ≤ (σ.N : Int) → SlAt w' tg' 67 14 r (Λ.rv r) (kids σ r) := fun r h1 h2 => (h.refs r h1 h2).fr hf (tagNe hF) hu
theorem MG.data' (h : MG w tg Λ K T B M σ) (hf : Fr F w w') (hF : ∀ x, x ∈ F → (tg x).1 ≠ 15) (hu : GTgUp w tg tg') : ∀ r, 1 ≤ r → r ≤ (σ.N : Int) → SlAt w' tg' 64 15 r (Λ.dv r) (datas σ r) := fun r h1 h2 => (h.data r h1 h2).fr hf (tagNe hF) hu
theorem MG.row' (h : MG w tg Λ K T B M σ) (hf : Fr F w w') (hF : ∀ x, x ∈ F → (tg x).1 ≠ 13) : Lr w' 213 Λ.sA K Λ.sc Λ.sG (ptrs Λ.S K) := h.row.fr hf (fun g hg hx => tagNe hF _ hx (h.t3 g hg))
theorem MG.stk' (h : MG w tg Λ K T B M σ) (hf : Fr F w w') {i : Nat} (hi : i < K) (hF : ∀ x, x ∈ F → tg x ≠ (16, (i : Int))) (hu : GTgUp w tg tg') : ∃ F, HkR w' (Λ.S i) F B (σ.st i) ∧ ∀ x, x ∈ F → tg' x = (16, (i : Int)) := by
  obtain ⟨G, h1, h2⟩ := h.stk i hi
  exact ⟨G, h1.fr hf (fun x hx hx' => hF x hx' (h2 x hx)), fun x hx => (hu x (h1.lt x hx)).trans (h2 x hx)⟩
theorem MG.don' (h : MG w tg Λ K T B M σ) (hf : Fr F w w') (hF : ∀ x, x ∈ F → (tg x).1 ≠ 17) : Blk w' Λ.db 3 (rowF T fun i => .int .i64 (σ.done i : Int)) := h.don.fr hf (fun hx => tagNe hF _ hx h.t4)
theorem MG.tags (h : MG w tg Λ K T B M σ) (hu : GTgUp w tg tg') : tg' Λ.m = (11, 0) ∧ (∀ b, Λ.ov.ownBlock = some b → tg' b = (12, 0)) ∧ (∀ g, g ∈ Λ.sG → tg' g = (13, 0)) ∧ tg' Λ.db = (17, 0) :=
  ⟨(hu _ h.st.lt).trans h.t1, fun b hb => (hu _ (h.obj.lt hb)).trans (h.t2 b hb), fun g hg => (hu _ (h.row.lt g hg)).trans (h.t3 g hg), (hu _ h.don.lt).trans h.t4⟩
/-- What is done elsewhere leaves it. -/
theorem MG.fr (h : MG w tg Λ K T B M σ) (hf : Fr F w w') (hF : ∀ x, x ∈ F → (tg x).1 = 0) : MG w' tg Λ K T B M σ := by
  have hk : ∀ k, k ≠ 0 → ∀ x, x ∈ F → (tg x).1 ≠ k := fun k hk x hx e => hk (by rw [← e, hF x hx])
  have hu := GTgUp.refl w tg
  exact ⟨h.st' hf (hk 11 (by decide)), h.t1, h.obj' hf (hk 12 (by decide)), h.t2, h.refs' hf (hk 14 (by decide)) hu, h.data' hf (hk 15 (by decide)) hu, h.row' hf (hk 13 (by decide)), h.t3,
    fun i hi => h.stk' hf hi (tagNe (hk 16 (by decide))) hu, h.don' hf (hk 17 (by decide)), h.t4, tok' h.tok hf⟩
theorem MG.fr0 (h : MG w tg Λ K T B M σ) (hf : Fr [] w w') : MG w' tg Λ K T B M σ := h.fr hf (by simp)
theorem MG.c0 (h : MG w tg Λ K T B M σ) : w.cell? ⟨Λ.m, 0, none⟩ = some (.int .i64 (M : Int)) := by rw [h.st.cell]; rfl
theorem MG.c1 (h : MG w tg Λ K T B M σ) : w.cell? ⟨Λ.m, 1, none⟩ = some Λ.ov := by rw [h.st.cell]; rfl
theorem MG.c2 (h : MG w tg Λ K T B M σ) : w.cell? ⟨Λ.m, 2, none⟩ = some (.slice Λ.sA K Λ.sc) := by rw [h.st.cell]; rfl
theorem MG.c3 (h : MG w tg Λ K T B M σ) : w.cell? ⟨Λ.m, 3, none⟩ = some (.slice (some ⟨Λ.db, 0, none⟩) T T) := by rw [h.st.cell]; rfl
/-- A call on a thread's stack. -/
theorem MG.stack (h : MG w tg Λ K T B M σ) {i : Nat} (hi : i < K) {G G' : List Nat} {l : List Int} (h1 : HkR w (Λ.S i) G B (σ.st i)) (h2 : ∀ x, x ∈ G → tg x = (16, (i : Int))) (hf : Fr G w w') (k1 : HkR w' (Λ.S i) G' B l) (k2 : ∀ x, x ∈ G' → x ∈ G ∨ w.heap.size ≤ x) :
    ∃ tg', MG w' tg' Λ K T B M (σ.setSt i l) ∧ GFr w tg w' tg' := by
  have hu : GTgUp w tg (fun x => if w.heap.size ≤ x ∧ x < w'.heap.size then (16, (i : Int)) else tg x) := fun b hb => if_neg (by omega)
  have ht : GTgOk w' (fun x => if w.heap.size ≤ x ∧ x < w'.heap.size then (16, (i : Int)) else tg x) := fun b hb => by
    by_cases e : w.heap.size ≤ b ∧ b < w'.heap.size
    · exact e.2
    · simp only [if_neg e] at hb
      exact Nat.lt_of_lt_of_le (h.tok b hb) hf.size
  have hk : ∀ k, k ≠ 16 → ∀ x, x ∈ G → (tg x).1 ≠ k := fun k hk x hx e => hk (by rw [← e, h2 x hx])
  obtain ⟨a1, a2, a3, a4⟩ := h.tags hu
  refine ⟨_, ⟨h.st' hf (hk 11 (by decide)), a1, h.obj' hf (hk 12 (by decide)), a2, h.refs' hf (hk 14 (by decide)) hu, h.data' hf (hk 15 (by decide)) hu, h.row' hf (hk 13 (by decide)), a3, fun j hj => ?_, h.don' hf (hk 17 (by decide)), a4, ht⟩, ⟨⟨G, hf, hk 0 (by decide)⟩, hu⟩⟩
  by_cases e : j = i
  · subst e
    refine ⟨G', ?_, fun x hx => ?_⟩
    · show HkR w' (Λ.S j) G' B (setF σ.st j l j)
      rw [setF_at]
      exact k1
    · rcases k2 x hx with h3 | h3
      · have h4 : x < w.heap.size := h1.lt x h3
        exact (hu x h4).trans (h2 x h3)
      · exact if_pos ⟨h3, k1.lt x hx⟩
  · obtain ⟨H, h3, h4⟩ := h.stk' hf hj (fun x hx e1 => e (by rw [h2 x hx] at e1; injection e1 with _ e1; omega)) hu
    refine ⟨H, ?_, h4⟩
    show HkR w' (Λ.S j) H B (setF σ.st i l j)
    rw [setF_ne _ _ e]
    exact h3
/-- A number of such a row stored. -/
theorem SlAt.put {e : TypeId} {kd : Nat} {r : Int} {g off n c b : Nat} {l : List Int} (h : SlAt w tg e kd r (.slice (some ⟨g, off, none⟩) n c) l) (hb : b < l.length) (y : Int) : SlAt (w.setCell ⟨g, off + b, none⟩ (.int .u64 y)) tg e kd r (.slice (some ⟨g, off, none⟩) n c) (l.set b y) ∧ tg g = (kd, r) := by
  obtain ⟨A, c', G, h1, h2, h3⟩ := h
  injection h1 with q1 q2 q3
  subst q1 q2 q3
  obtain ⟨g', off', e1, e2, _⟩ := h2.pos (by omega)
  injection e1 with e1
  injection e1 with e1
  subst e1
  refine ⟨⟨_, c, G, by rw [List.length_set], ?_, h3⟩, h3 g (by simp [e2])⟩
  rw [List.length_set, refV_set]
  exact h2.put hb _
/-- A thread's count stored. -/
theorem MG.done (h : MG w tg Λ K T B M σ) {i : Nat} (hi : i < T) : MG (w.setCell ⟨Λ.db, i, none⟩ (.int .i64 ((σ.done i + 1 : Nat) : Int))) tg Λ K T B M (σ.tick i) ∧ GFr w tg (w.setCell ⟨Λ.db, i, none⟩ (.int .i64 ((σ.done i + 1 : Nat) : Int))) tg := by
  have hf : Fr [Λ.db] w (w.setCell ⟨Λ.db, i, none⟩ (.int .i64 ((σ.done i + 1 : Nat) : Int))) := (Fr.refl _ _).setCell (p := ⟨Λ.db, i, none⟩) (.inl (by simp)) _
  have hk : ∀ k, k ≠ 17 → ∀ x, x ∈ [Λ.db] → (tg x).1 ≠ k := fun k hk x hx e => hk (by simp at hx; rw [← e, hx, h.t4])
  have hu := GTgUp.refl w tg
  refine ⟨⟨h.st' hf (hk 11 (by decide)), h.t1, h.obj' hf (hk 12 (by decide)), h.t2, h.refs' hf (hk 14 (by decide)) hu, h.data' hf (hk 15 (by decide)) hu, h.row' hf (hk 13 (by decide)), h.t3,
    fun i hi => h.stk' hf hi (tagNe (hk 16 (by decide))) hu, ?_, h.t4, tok' h.tok hf⟩, GFr.of hf (hk 0 (by decide))⟩
  have := h.don.put i (.int .i64 ((σ.done i + 1 : Nat) : Int))
  rw [rowF_set] at this
  have e : putF (fun i => Value.int .i64 (σ.done i : Int)) i (.int .i64 ((σ.done i + 1 : Nat) : Int)) = fun j => Value.int .i64 ((σ.tick i).done j : Int) := by
    funext j
    show _ = Value.int .i64 ((setF σ.done i (σ.done i + 1) j : Nat) : Int)
    by_cases e : j = i
    · subst e; rw [putF_at, setF_at]
    · rw [putF_ne _ _ e, setF_ne _ _ e]
  rw [e] at this
  exact this
end
end Go.Proofs.YthacgiajnafpgaaGreatDoor
namespace Go.Proofs.YthacgiajnafpgaaGreatDoor
set_option linter.unusedVariables false
set_option linter.unusedSimpArgs false
set_option maxRecDepth 100000
open Go.RowKit Go.Gl HS

theorem made_rowB (n : Nat) (v : Value) (h : v.cells = #[v]) : madeCells #[v] n = rowF n fun _ => v := by
  have := made_one v h n
  rw [h] at this
  rw [rowF_const, ← this, Array.toArray_toList]
theorem make_rowB {P : Program} {t e : TypeId} {z : Value} {bytes : Nat} (ht : P.underlying t = some (.slice e)) (hi : (P.info? e).map (fun i => (i.zero, i.size, i.bytes)) = some (some z, 1, bytes)) (hz : z.cells = #[z]) {n : Nat} (hb : bytes ≤ 64) (hn : n ≤ 4194304) (w : World) :
    (Instr.makeSlice t (.int .i64 (n : Int)) (.int .i64 (n : Int))).run P w = .ok (.slice (some ⟨w.heap.size, 0, none⟩) n n) (w.alloc (.cells (rowF n fun _ => z) e)) := by
  have hbn : bytes * n ≤ 64 * 4194304 := Nat.mul_le_mul hb hn
  rw [run_make_row' (P := P) t e z bytes ht hi hz .i64 .i64 n (by omega) (by omega) w, made_rowB n z hz]
theorem Tryz.info_refsB : (Tryz.prog.info? 62).map (fun i => (i.zero, i.size, i.bytes)) = some (some (.slice none 0 0), 1, 24) := by kernel_rfl
theorem Tryz.info_opsB : (Tryz.prog.info? 55).map (fun i => (i.zero, i.size, i.bytes)) = some (some (.slice none 0 0), 1, 24) := by kernel_rfl
theorem Tryz.info_intB : (Tryz.prog.info? 3).map (fun i => (i.zero, i.size, i.bytes)) = some (some (.int .i64 0), 1, 8) := by kernel_rfl
theorem Tryz.info_pmutB : (Tryz.prog.info? 59).map (fun i => (i.zero, i.size, i.bytes)) = some (some (.pointer none), 1, 8) := by kernel_rfl
theorem ptrs_succB (S : Nat → Nat) (k s : Nat) : ptrs (setF S k s) (k + 1) = ptrs S k ++ [.pointer (some ⟨s, 0, none⟩)] := by
  unfold ptrs
  rw [List.range_succ, List.map_append, List.map_singleton, setF_at]
  congr 1
  apply List.map_congr_left
  intro i hi
  rw [setF_ne _ _ (by have := List.mem_range.1 hi; omega)]
section
variable {W w w' : World} {L : HL} {X : HX} {h : HS} {x : HT} {s k : Nat} {E : Blks} {D D' : Nat → Prop} {Q Q' : World → Prop} {F : List Nat}
/-- What lives beside the heap turns its own blocks, and grows. -/
theorem HM.live (hT : Tab W) (H : HM W w L X h x s k E D Q) (hf : Fr F w w') (hF : ∀ b, b ∈ F → D b) (hD' : ∀ b, D' b → D b ∨ w.heap.size ≤ b) (hq : Q' w') : HM W w' L X h x s k E D' Q' := by
  obtain ⟨own, h1, h2, h3, h4⟩ := H
  have hlt := hT.lt
  have hsz := h1.fr.size
  have h0 : ∀ b, w.heap.size ≤ b → own b = 0 := fun b hb => by
    obtain ⟨tg, FS, H, _⟩ := h1
    by_cases e : own b = 0
    · exact e
    · have := H.lt b e; omega
  refine ⟨own, h1.other hf (fun y hy => h3 y (hF y hy)) (fun hx => by have := (h3 _ (hF _ hx)).2; omega), fun q hq => ?_, fun b hb => ?_, hq⟩
  · obtain ⟨k1, k2, k3, k4⟩ := h2 q hq
    exact ⟨k1.fr hf (fun hx => k4 (hF _ hx)), k2, k3, fun hd => (hD' _ hd).elim k4 (fun e => by have := k1.lt; omega)⟩
  · rcases hD' b hb with e | e
    · exact h3 b e
    · exact ⟨h0 b e, by omega⟩
theorem HM.news (hS : Lives D Q) (H : HM W w L X h x s k E D Q) (hf : Fr [] w w') (E2 : Blks) (h2 : ∀ q, q ∈ E2 → Blk w' q.1 q.2.1 q.2.2 ∧ w.heap.size ≤ q.1) : HM W w' L X h x s k (E2 ++ E) D Q := by
  obtain ⟨own, h1, h3, h4, h5⟩ := H
  have hsz := h1.fr.size
  refine ⟨own, h1.fr0 hf, fun q hq => ?_, h4, hS.stay w w' [] h5 hf (fun b hb => by cases hb)⟩
  rcases List.mem_append.1 hq with hq | hq
  · obtain ⟨k1, k2⟩ := h2 q hq
    refine ⟨k1, ?_, by omega, fun hd => by have := hS.lt w h5 _ hd; omega⟩
    obtain ⟨tg, FS, H, _⟩ := h1
    by_cases e : own q.1 = 0
    · exact e
    · have := H.lt _ e; omega
  · exact ⟨(h3 q hq).1.fr hf (by simp), (h3 q hq).2⟩
theorem Lives.row (hS : Lives D Q) (e : TypeId) (A : Option Addr) (n c : Nat) (G : List Nat) (xs : List Value) : Lives (fun b => b ∈ G ∨ D b) (fun w => Lr w e A n c G xs ∧ Q w) :=
  ⟨fun w w' F h hf hF => ⟨h.1.fr hf (fun g hg hx => hF g hx (.inl hg)), hS.stay w w' F h.2 hf (fun b hb hd => hF b hb (.inr hd))⟩, fun w h b hb => hb.elim (h.1.lt b) (hS.lt w h.2 b)⟩
/-- A world's cells: where the heap, what all share, the rows of the mutators, of the operations and of the next ones, and the graph lie; cards that were left over; wants. -/
def wdV (hb sb : Nat) (mA : Option Addr) (mn mc pb nb T g : Nat) (dl : Value) (wn : Int) (sy : Bool) : Array Value :=
  #[.pointer (some ⟨hb, 0, none⟩), .pointer (some ⟨sb, 0, none⟩), .slice mA mn mc, .slice (some ⟨pb, 0, none⟩) T T, .slice (some ⟨nb, 0, none⟩) T T, .pointer (some ⟨g, 0, none⟩), dl, .int .i64 wn, .bool sy]
/-- Where a world lies. -/
structure WL where
  wb : Nat
  sb : Nat
  ob : Nat
  pb : Nat
  nb : Nat
  mA : Option Addr
  mc : Nat
  mG : List Nat
  P : Nat → Nat
/-- The blocks of a new world of T threads, k of its mutators made. -/
def ovE (Λ : WL) (hb g T k : Nat) : Blks :=
  (Λ.wb, 37, wdV hb Λ.sb Λ.mA k Λ.mc Λ.pb Λ.nb T g (.slice none 0 0) 0 false) :: (Λ.sb, 58, #[.bool false, .slice (some ⟨Λ.ob, 0, none⟩) T T]) :: (Λ.ob, 62, rowF T fun _ => .slice none 0 0) ::
    (Λ.pb, 55, rowF T fun _ => .slice none 0 0) :: (Λ.nb, 3, rowF T fun _ => .int .i64 0) :: (List.range k).map fun i => (Λ.P i, 148, muV hb i Λ.sb (MU.zero 0))
/-- A new world, k of its mutators made. -/
def OvAt (W w : World) (L : HL) (X : HX) (h : HS) (x : HT) (s k : Nat) (E : Blks) (D : Nat → Prop) (Q : World → Prop) (g n : Nat) (Λ : WL) : Prop :=
  HM W w L X h x s k (ovE Λ L.hb g h.T n ++ E) (fun b => b ∈ Λ.mG ∨ D b) (fun w => Lr w 59 Λ.mA n Λ.mc Λ.mG (ptrs Λ.P n) ∧ Q w) ∧ (∀ b, b ∈ Λ.mG → ¬ D b) ∧
    ∀ q, q ∈ E → q.1 ≠ Λ.wb
theorem OvAt.fr0 {g n : Nat} {Λ : WL} (hS : Lives D Q) (H : OvAt W w L X h x s k E D Q g n Λ) (hf : Fr [] w w') : OvAt W w' L X h x s k E D Q g n Λ :=
  ⟨H.1.fr0 (hS.row _ _ _ _ _ _) hf, H.2⟩
theorem OvAt.cells {g n : Nat} {Λ : WL} (H : OvAt W w L X h x s k E D Q g n Λ) : w.cell? ⟨Λ.wb, 1, none⟩ = some (.pointer (some ⟨Λ.sb, 0, none⟩)) ∧ w.cell? ⟨Λ.wb, 2, none⟩ = some (.slice Λ.mA n Λ.mc) ∧ w.cell? ⟨Λ.sb, 1, none⟩ = some (.slice (some ⟨Λ.ob, 0, none⟩) h.T h.T) ∧ w.cell? ⟨L.hb, 27, none⟩ = some (.slice L.rA h.T L.rc) ∧ w.frozen? ⟨Λ.wb, 2, none⟩ = false := by
  have h1 := H.1.blk (b := Λ.wb) (t := 37) (cs := wdV L.hb Λ.sb Λ.mA n Λ.mc Λ.pb Λ.nb h.T g (.slice none 0 0) 0 false) (by simp [ovE])
  have h2 := H.1.blk (b := Λ.sb) (t := 58) (cs := #[.bool false, .slice (some ⟨Λ.ob, 0, none⟩) h.T h.T]) (by simp [ovE])
  exact ⟨h1.cell 1, h1.cell 2, h2.cell 1, H.1.hr.cR, h1.frozen 2⟩
/-- A mutator more. -/
theorem OvAt.add {g n mb : Nat} {Λ : WL} (hS : Lives D Q) (hT : Tab W) (H : OvAt W w L X h x s k E D Q g n Λ) {w1 w2 : World} (hf1 : Fr [] w w1) (hb : Blk w1 mb 148 (muV L.hb n Λ.sb (MU.zero 0))) (hn : w.heap.size ≤ mb)
    {nv : Array Value} {t0 : TypeId} {A' : Option Addr} {c' : Nat} {G' : List Nat} (hL : Lr w2 59 A' (n + 1) c' G' (ptrs Λ.P n ++ [.pointer (some ⟨mb, 0, none⟩)])) (hg : Fr Λ.mG (w1.alloc (.cells nv t0)) w2) (hG : ∀ g, g ∈ G' → g ∈ Λ.mG ∨ g = (w1.alloc (.cells nv t0)).heap.size) :
    OvAt W (w2.setCell ⟨Λ.wb, 2, none⟩ (.slice A' (n + 1) c')) L X h x s k E D Q g (n + 1) { Λ with mA := A', mc := c', mG := G', P := setF Λ.P n mb } := by
  obtain ⟨H, hDG, hEw⟩ := H
  have hS1 := hS.row 59 Λ.mA n Λ.mc Λ.mG (ptrs Λ.P n)
  have H1 := (H.new hS1 hf1 hb hn).fr0 hS1 ((Fr.refl _ _).alloc (.cells nv t0))
  have hq := hS.stay _ w2 Λ.mG H1.q.2 hg hDG
  have hs1 := hf1.size
  have H2 : HM W w2 L X h x s k ((mb, 148, muV L.hb n Λ.sb (MU.zero 0)) :: (ovE Λ L.hb g h.T n ++ E)) (fun b => b ∈ G' ∨ D b) (fun w => Lr w 59 A' (n + 1) c' G' (ptrs (setF Λ.P n mb) (n + 1)) ∧ Q w) :=
    H1.live hT hg (fun b hb => .inl hb) (fun b hb => by
      rcases hb with hb | hb
      · rcases hG b hb with e | e
        · exact .inl (.inl e)
        · exact .inr (by rw [e]; exact Nat.le_refl _)
      · exact .inl (.inr hb)) ⟨by rw [ptrs_succB]; exact hL, hq⟩
  have hS2 := hS.row 59 A' (n + 1) c' G' (ptrs (setF Λ.P n mb) (n + 1))
  have hbw := H2.blk (b := Λ.wb) (t := 37) (cs := wdV L.hb Λ.sb Λ.mA n Λ.mc Λ.pb Λ.nb h.T g (.slice none 0 0) 0 false) (by simp [ovE])
  refine ⟨?_, fun b hb hd => ?_, hEw⟩
  · have H3 : HM W w2 L X h x s k ((Λ.wb, 37, wdV L.hb Λ.sb Λ.mA n Λ.mc Λ.pb Λ.nb h.T g (.slice none 0 0) 0 false) :: ((Λ.sb, 58, #[.bool false, .slice (some ⟨Λ.ob, 0, none⟩) h.T h.T]) :: (Λ.ob, 62, rowF h.T fun _ => .slice none 0 0) ::
      (Λ.pb, 55, rowF h.T fun _ => .slice none 0 0) :: (Λ.nb, 3, rowF h.T fun _ => .int .i64 0) :: ((List.range (n + 1)).map fun i => (setF Λ.P n mb i, 148, muV L.hb i Λ.sb (MU.zero 0))) ++ E)) (fun b => b ∈ G' ∨ D b) (fun w => Lr w 59 A' (n + 1) c' G' (ptrs (setF Λ.P n mb) (n + 1)) ∧ Q w) :=
      H2.sub (fun q hq => by
        have hr : ∀ i, i ∈ List.range (n + 1) → (setF Λ.P n mb i, 148, muV L.hb i Λ.sb (MU.zero 0)) ∈ (mb, 148, muV L.hb n Λ.sb (MU.zero 0)) :: (ovE Λ L.hb g h.T n ++ E) := fun i hi => by
          by_cases e : i = n
          · subst e; rw [setF_at]; exact List.mem_cons_self ..
          · rw [setF_ne _ _ e]
            have hi := List.mem_range.1 hi
            refine List.mem_cons_of_mem _ (List.mem_append_left _ ?_)
            unfold ovE
            iterate 5 (refine List.mem_cons_of_mem _ ?_)
            exact List.mem_map.2 ⟨i, List.mem_range.2 (by omega), rfl⟩
        simp only [List.mem_cons, List.mem_append, List.mem_map, List.cons_append] at hq
        rcases hq with e | e | e | e | e | ⟨i, hi, e⟩ | e
        · rw [e]; simp [ovE]
        · rw [e]; simp [ovE]
        · rw [e]; simp [ovE]
        · rw [e]; simp [ovE]
        · rw [e]; simp [ovE]
        · rw [← e]; exact hr i hi
        · exact List.mem_cons_of_mem _ (List.mem_append_right _ e))
    have hne : ∀ q, q ∈ ((Λ.sb, 58, #[.bool false, .slice (some ⟨Λ.ob, 0, none⟩) h.T h.T]) :: (Λ.ob, 62, rowF h.T fun _ => .slice none 0 0) ::
      (Λ.pb, 55, rowF h.T fun _ => .slice none 0 0) :: (Λ.nb, 3, rowF h.T fun _ => .int .i64 0) :: ((List.range (n + 1)).map fun i => (setF Λ.P n mb i, 148, muV L.hb i Λ.sb (MU.zero 0))) ++ E : Blks) → q.1 ≠ Λ.wb := fun q hq => by
      have key : ∀ {b : Nat} {t : TypeId} {cs : Array Value}, Blk w2 b t cs → t ≠ 37 → b ≠ Λ.wb := fun hm ht => hm.apart hbw ht
      have hq3 := H3.blk (b := q.1) (t := q.2.1) (cs := q.2.2) (List.mem_cons_of_mem _ hq)
      simp only [List.mem_cons, List.mem_append, List.mem_map, List.cons_append] at hq
      rcases hq with e | e | e | e | ⟨i, hi, e⟩ | e
      · exact key hq3 (by rw [e]; simp only; decide)
      · exact key hq3 (by rw [e]; simp only; decide)
      · exact key hq3 (by rw [e]; simp only; decide)
      · exact key hq3 (by rw [e]; simp only; decide)
      · exact key hq3 (by rw [← e]; simp only; decide)
      · exact hEw q e
    have hp := hbw.put 2 (.slice A' (n + 1) c')
    have H4 := H3.turn hS2 hT ((Fr.refl [Λ.wb] w2).setCell (p := ⟨Λ.wb, 2, none⟩) (.inl (by simp)) (.slice A' (n + 1) c')) (cs' := wdV L.hb Λ.sb A' (n + 1) c' Λ.pb Λ.nb h.T g (.slice none 0 0) 0 false) (by unfold wdV at hp ⊢; simpa using hp) hne
    exact H4
  · rcases hG b hb with e | e
    · exact hDG b e hd
    · have := hS.lt _ (H1.q.2) b hd
      omega
/-- A new world, none of its mutators made. -/
theorem OvAt.zero {g wb sb ob pb nb : Nat} (hS : Lives D Q) (hT : Tab W) (H : HM W w L X h x s k E D Q) (hf : Fr [] w w') (h1 : Blk w' wb 37 (wdV L.hb sb none 0 0 pb nb h.T g (.slice none 0 0) 0 false)) (h2 : Blk w' sb 58 #[.bool false, .slice (some ⟨ob, 0, none⟩) h.T h.T])
    (h3 : Blk w' ob 62 (rowF h.T fun _ => .slice none 0 0)) (h4 : Blk w' pb 55 (rowF h.T fun _ => .slice none 0 0)) (h5 : Blk w' nb 3 (rowF h.T fun _ => .int .i64 0)) (hb : w.heap.size ≤ wb ∧ w.heap.size ≤ sb ∧ w.heap.size ≤ ob ∧ w.heap.size ≤ pb ∧ w.heap.size ≤ nb) :
    OvAt W w' L X h x s k E D Q g 0 ⟨wb, sb, ob, pb, nb, none, 0, [], fun _ => 0⟩ := by
  have hl : ∀ q, q ∈ E → q.1 < w.heap.size := fun q hq => (H.blk (b := q.1) (t := q.2.1) (cs := q.2.2) hq).lt
  have H1 := H.news hS hf (ovE ⟨wb, sb, ob, pb, nb, none, 0, [], fun _ => 0⟩ L.hb g h.T 0) (fun q hq => by
    simp only [ovE, List.range_zero, List.map_nil, List.mem_cons, List.not_mem_nil, or_false] at hq
    rcases hq with e | e | e | e | e
    · rw [e]; exact ⟨h1, hb.1⟩
    · rw [e]; exact ⟨h2, hb.2.1⟩
    · rw [e]; exact ⟨h3, hb.2.2.1⟩
    · rw [e]; exact ⟨h4, hb.2.2.2.1⟩
    · rw [e]; exact ⟨h5, hb.2.2.2.2⟩)
  refine ⟨H1.live (F := []) hT (Fr.refl _ _) (fun b hb => by cases hb) (fun b hb => ?_) ⟨Lr.nil _ _, H1.q⟩, (fun b hb => by cases hb), fun q hq e => ?_⟩
  · rcases hb with hb | hb
    · cases hb
    · exact .inl hb
  · have := hl q hq
    have : q.1 = wb := e
    omega
theorem blkU_1 {o1 o2 o3 o4 : Obj} {t : TypeId} {cs : Array Value} : Blk (((((w.alloc (.cells cs t)).alloc o1).alloc o2).alloc o3).alloc o4).drew w.heap.size t cs := (((((Blk.new w t cs).alloc o1).alloc o2).alloc o3).alloc o4).drew
theorem blkU_2 {o1 o2 o3 o4 : Obj} {t : TypeId} {cs : Array Value} : Blk (((((w.alloc o1).alloc (.cells cs t)).alloc o2).alloc o3).alloc o4).drew (w.heap.size + 1) t cs := ((((Blk.new_at (w := w.alloc o1) t cs (by simp)).alloc o2).alloc o3).alloc o4).drew
theorem blkU_3 {o1 o2 o3 o4 : Obj} {t : TypeId} {cs : Array Value} : Blk (((((w.alloc o1).alloc o2).alloc (.cells cs t)).alloc o3).alloc o4).drew (w.heap.size + 1 + 1) t cs := (((Blk.new_at (w := (w.alloc o1).alloc o2) t cs (by simp)).alloc o3).alloc o4).drew
theorem blkU_4 {o1 o2 o3 o4 : Obj} {t : TypeId} {cs : Array Value} : Blk (((((w.alloc o1).alloc o2).alloc o3).alloc (.cells cs t)).alloc o4).drew (w.heap.size + 1 + 1 + 1) t cs := ((Blk.new_at (w := ((w.alloc o1).alloc o2).alloc o3) t cs (by simp)).alloc o4).drew
theorem blkU_5 {o1 o2 o3 o4 : Obj} {t : TypeId} {cs : Array Value} : Blk (((((w.alloc o1).alloc o2).alloc o3).alloc o4).alloc (.cells cs t)).drew (w.heap.size + 1 + 1 + 1 + 1) t cs := (Blk.new_at (w := (((w.alloc o1).alloc o2).alloc o3).alloc o4) t cs (by simp)).drew
end
end Go.Proofs.YthacgiajnafpgaaGreatDoor
namespace Go.Proofs.YthacgiajnafpgaaGreatDoor
set_option linter.unusedVariables false
set_option linter.unusedSimpArgs false
set_option maxRecDepth 100000
open Go.RowKit Go.Gl HS

/-- What a thread's handles alone say of an operation: a graph of stacks and nothing else. -/
def HS.hG (h : HS) : GS := { G0 with st := h.st }
section
variable {W w w' : World} {L : HL} {X : HX} {own : Nat → Nat} {h : HS} {x : HT} {s k : Nat} {E : Blks} {D : Nat → Prop} {Q : World → Prop} {mb t sb : Nat} {m : MU}
theorem HM.slen (hS : Lives D Q) (H : HM W w L X h x s k E D Q) {i : Nat} (hi : i < h.T) :
    Calls Tryz.prog 49 #[.pointer (some ⟨L.S i, 0, none⟩)] w fun e w' => e = .returned (.int .i64 ((h.st i).length : Int)) ∧ HM W w' L X h x s k E D Q :=
  H.see hS fun own ⟨tg, FS, H⟩ => (hlen_any (H.stk i hi)).mono (by rintro e w' ⟨rfl, rfl⟩; exact ⟨rfl, Fr.refl _ _⟩)
theorem HM.rA (H : HM W w L X h x s k E D Q) (hT : 0 < h.T) : ∃ gb go, L.rA = some ⟨gb, go, none⟩ := by
  obtain ⟨gb, go, hA, _⟩ := H.hr.row.pos (by omega)
  exact ⟨gb, go, hA⟩
theorem HM.rowc (H : HM W w L X h x s k E D Q) {gb go : Nat} (hA : L.rA = some ⟨gb, go, none⟩) {i : Nat} (hi : i < h.T) : w.cell? ⟨gb, go + i, none⟩ = some (.pointer (some ⟨L.S i, 0, none⟩)) := by
  obtain ⟨gb', go', hA', hG, NG, hcell, hfz, _⟩ := H.hr.row.pos (by omega)
  rw [hA] at hA'
  injection hA' with hA'
  injection hA' with e1 e2
  subst e1 e2
  rw [hcell i hi]
  unfold stkV
  simp [hi]
end
end Go.Proofs.YthacgiajnafpgaaGreatDoor
namespace Go.Proofs.YthacgiajnafpgaaGreatDoor
set_option linter.unusedVariables false
set_option linter.unusedSimpArgs false
set_option maxRecDepth 100000
open Go.RowKit Go.Gl HS

def cfg15 : Cfg := ⟨6, 4, 3, 1, 4, 0, 0, 2, 0, 0, 0, 0, 0, 0⟩
theorem may15 : mayB cfg15 = true := by decide +kernel
theorem nw15 : NwOk cfg15 64 4 8 8 1 4 0 6 3 :=
  ⟨⟨by decide, by decide, by decide, by decide, by decide +kernel, by decide +kernel, by decide +kernel, by decide +kernel, by decide +kernel, by decide +kernel, by decide +kernel, by decide +kernel⟩,
    ⟨by decide +kernel, by decide +kernel, by decide +kernel, by decide +kernel, by decide +kernel, by decide, by decide, by decide, by decide, by decide, by decide, by decide⟩, rfl, rfl, rfl, by decide, by decide, by decide, by decide, by decide⟩
theorem small15_any (w : World) : Calls Tryz.prog 48 #[] w fun e w' => e = .returned cfg15.val ∧ Fr [] w w' := by
  go_enter Tryz.func48, Tryz.ntmps48
  go_wp2_with fail
  refine bodyPost_ret (v := cfg15.val) (by simp [results, Tryz.results48, go_sem, *]; rfl) rfl ⟨rfl, (Fr.refl _ _).alloc _⟩
section
variable {W w w' : World} {L : HL} {X : HX} {h : HS} {x : HT} {s k : Nat} {E : Blks} {D : Nat → Prop} {Q : World → Prop}
end
theorem HM.of0 {W w : World} {L : HL} {X : HX} {own : Nat → Nat} {h : HS} {x : HT} {s k : Nat} (hH : HpAt W w L X own h x s k) : HM W w L X h x s k [] (fun _ => False) (fun _ => True) :=
  ⟨own, hH, fun q hq => (by cases hq), fun b hb => hb.elim, trivial⟩
/-- The heap of the example, new; when the words of the first object are taken; when it is made. -/
def h15 : HS := HSn cfg15.geo 64 4 256 1
noncomputable def h15b : HS := { fillH (dropH h15 0) 0 0 with bx := put1 (fillH (dropH h15 0) 0 0).bx 0 ((((0 * h15.W : Nat)) : Int) + (1 + 1 + 1)) }
noncomputable def h15c : HS := { h15b with f := upd (updRow h15b.f 0 3 (fun _ => 0)) 0 (objW 3 1), st := setN h15b.st 0 (h15b.st 0 ++ [((0 : Nat) : Int) + 1]) }
theorem step15a {W w : World} {L : HL} {X : HX} {E : Blks} {mb sb : Nat} (hT : Tab W) (hB : L.B = 4) (hc : L.cfg = cfg15) (H : HM W w L X h15 (HTn 8 8 4 0 256) 6 3 ((mb, 148, muV L.hb 0 sb ⟨0, 1, 1, 1, 0, 0, 1, 0⟩) :: E) (fun _ => False) (fun _ => True)) (hne : ∀ q, q ∈ E → q.1 ≠ mb) :
    Calls Tryz.prog 27 #[.pointer (some ⟨mb, 0, none⟩)] w fun e w' => e = .returned (.agg #[.int .i64 0, .int .i64 0, .int .i64 0, .int .u64 0, .bool false, .bool false, .bool true, .bool false, .slice none 0 0]) ∧
      HM W w' L X h15b (HTn 8 8 4 0 256) 6 3 ((mb, 148, muV L.hb 0 sb ⟨0, 1, 1, 1, 0, 0, 5, ((0 * h15.W : Nat) : Int)⟩) :: E) (fun _ => False) (fun _ => True) := by
  refine mtstep_begun Lives.none hT H hne rfl (fun w1 rb1 c1 n1 n2 H1 => ?_)
  have hne1 : ∀ q, q ∈ ((rb1, 77, c1) :: E : Blks) → q.1 ≠ mb := fun q hq => by
    rcases List.mem_cons.1 hq with rfl | hq
    · exact n1
    · exact hne q hq
  refine mtbegin_alloc Lives.none hT H1 hne1 rfl (fun w2 rb2 c2 n3 n4 H2 => ?_)
  have hne2 : ∀ q, q ∈ ((rb2, 77, c2) :: (rb1, 77, c1) :: E : Blks) → q.1 ≠ mb := fun q hq => by
    rcases List.mem_cons.1 hq with rfl | hq
    · exact n3
    · exact hne1 q hq
  exact mtalloc_ok (M := 192) Lives.none hT H2 hne2 (by decide) (by rw [hB]; decide) (by rw [hB]; decide) (by decide +kernel) (by decide) (by decide) ⟨by decide, by decide⟩ (fun w' E' hm q =>
    mtwords_new Lives.none q hm (by decide) (fun i hi hb => absurd hb (by show ¬ (0 : Int) < 0; decide)) (by decide +kernel) (by decide) (by decide) (by decide) (by rw [hc]; decide +kernel) ⟨by decide, rfl, fun j hj => absurd hj (by omega)⟩)
theorem step15b {W w : World} {L : HL} {X : HX} {E : Blks} {mb sb : Nat} (hT : Tab W) (hB : L.B = 4) (hc : L.cfg = cfg15) (H : HM W w L X h15b (HTn 8 8 4 0 256) 6 3 ((mb, 148, muV L.hb 0 sb ⟨0, 1, 1, 1, 0, 0, 5, ((0 * h15.W : Nat) : Int)⟩) :: E) (fun _ => False) (fun _ => True)) (hne : ∀ q, q ∈ E → q.1 ≠ mb) :
    Calls Tryz.prog 27 #[.pointer (some ⟨mb, 0, none⟩)] w fun e w' => e = .returned (.agg #[.int .i64 0, .int .i64 0, .int .i64 0, .int .u64 0, .bool false, .bool true, .bool false, .bool false, .slice none 0 0]) ∧
      HM W w' L X h15c (HTn 8 8 4 0 256) 6 3 ((mb, 148, muV L.hb 0 sb (MU.zero 1)) :: E) (fun _ => False) (fun _ => True) := by
  refine mtstep_taken Lives.none hT H hne rfl (fun w1 rb1 c1 n1 n2 H1 => ?_)
  have hne1 : ∀ q, q ∈ ((rb1, 77, c1) :: E : Blks) → q.1 ≠ mb := fun q hq => by
    rcases List.mem_cons.1 hq with rfl | hq
    · exact n1
    · exact hne q hq
  exact mtmake_small (I := 0) (S := 3) (P := 1) Lives.none hT H1 hne1 (by decide) (by rw [hB]; decide) (by rw [hB]; decide) rfl rfl rfl (by decide) (by decide) (by decide) (by decide +kernel) (by decide)
set_option maxHeartbeats 3200000 in
theorem awake15_any (w : World) (tab : Tab w) : Calls Tryz.prog 11 #[] w fun e w' => e = .returned (.bool true) ∧ Fr [] w w' := by
  have HN : Hid (∀ w1, Tab w1 → Calls Tryz.prog 47 #[cfg15.val] w1 (HNewP w1 cfg15 cfg15.geo 64 4 256 1 8 8 0 4 6 3)) := fun w1 hT => heapnew_ok may15 nw15 w1 hT
  have HT := hide tab
  clear tab
  have hmk : ∀ w', (Instr.makeSlice 56 (.int .i64 1) (.int .i64 1)).run Tryz.prog w' = .ok (.slice (some ⟨w'.heap.size, 0, none⟩) 1 1) (w'.alloc (.cells #[.slice none 0 0] 62)) := fun w' => (make_rowB (n := 1) Tryz.underlying56 Tryz.info_refsB rfl (by decide) (by decide) w')
  go_enter Tryz.func11, Tryz.ntmps11
  go_wp2_with fail
  refine (small15_any _).mono ?_
  rintro e w1 ⟨rfl, hf⟩
  have HF1 := hide hf
  clear hf
  have HN1 := hide (HN.out w1 (HT.out.fr HF1.out (by simp)))
  clear HN
  go_wp2_with fail
  refine HN1.out.mono ?_
  intro e w2 hP
  obtain ⟨L, X, own, rfl, hH, hB, hcf, -⟩ := hP.at HF1.out
  have hM : HM w w2 L X h15 (HTn 8 8 4 0 256) 6 3 [] (fun _ => False) (fun _ => True) := HM.of0 hH
  have HB : Hid (L.B = 4 ∧ L.cfg = cfg15) := ⟨hB, hcf⟩
  have hM2 := (hM.alloc Lives.none 62 #[.slice none 0 0]).alloc Lives.none 58 #[.bool false, .slice (some ⟨w2.heap.size, 0, none⟩) 1 1]
  have HM2 := hide hM2
  have c27 : ((w2.alloc (.cells #[.slice none 0 0] 62)).alloc (.cells #[.bool false, .slice (some ⟨w2.heap.size, 0, none⟩) 1 1] 58)).cell? ⟨L.hb, 27, none⟩ = some (.slice L.rA 1 L.rc) := hM2.hr.cR
  have cs1 : ((w2.alloc (.cells #[.slice none 0 0] 62)).alloc (.cells #[.bool false, .slice (some ⟨w2.heap.size, 0, none⟩) 1 1] 58)).cell? ⟨w2.heap.size + 1, 1, none⟩ = some (.slice (some ⟨w2.heap.size, 0, none⟩) 1 1) := by
    have := (hM2.blk (List.mem_cons_self ..)).cell 1
    rw [show (w2.alloc (.cells #[.slice none 0 0] 62)).heap.size = w2.heap.size + 1 by simp] at this
    exact this
  have HNw := hide (mtnew_ok c27 cs1 (t := 0) (by decide) (by decide))
  clear hP hH hB hcf hM hM2 HN1 c27 cs1
  go_wp2_with fail
  refine HNw.out.mono ?_
  rintro e w3 ⟨mb, rfl, hl, hb, hf⟩
  obtain ⟨E, sb, hM3, hne, hsb⟩ : ∃ (E : Blks) (sb' : Nat), HM w w3 L X h15 (HTn 8 8 4 0 256) 6 3 ((mb, 148, muV L.hb 0 sb' (MU.zero 0)) :: E) (fun _ => False) (fun _ => True) ∧ (∀ q, q ∈ E → q.1 ≠ mb) ∧ sb' = w2.heap.size + 1 :=
    ⟨_, _, HM2.out.new Lives.none hf hb hl, fun q hq => by have := (HM2.out.blk (b := q.1) (t := q.2.1) (cs := q.2.2) hq).lt; omega, rfl⟩
  have HI := hide (midle_any (hM3.blk (List.mem_cons_self ..)))
  rw [show ((MU.zero 0).st == 0) = true by rfl] at HI
  have HSt := hide (hM3.mut (P := fun e => e = .returned (.int .i64 0)) Lives.none HT.out (m' := ⟨0, 1, 1, 1, 0, 0, 1, 0⟩) hne (fun hb => mstart_any hb rfl ⟨1, 1, 1, 0, 0⟩))
  unfold opV at HSt
  have HNE := hide hne
  clear hM3 hne hf hb hl HM2 HNw hsb
  go_wp2_with (first | (go_at_call 23; refine HI.out.mono ?_; rintro e w' ⟨rfl, rfl⟩))
  refine HSt.out.mono ?_
  rintro e w4 ⟨rfl, hM4⟩
  have HS1 := hide (step15a HT.out HB.out.1 HB.out.2 hM4 HNE.out)
  clear hM4 HSt HI
  go_wp2_with fail
  refine HS1.out.mono ?_
  rintro e w5 ⟨rfl, hM5⟩
  have hM6 := hM5.alloc Lives.none 77 #[.int .i64 0, .int .i64 0, .int .i64 0, .int .u64 0, .bool false, .bool false, .bool true, .bool false, .slice none 0 0]
  obtain ⟨E2, hE2⟩ : ∃ E2 : Blks, E2 = (w5.heap.size, 77, #[.int .i64 0, .int .i64 0, .int .i64 0, .int .u64 0, .bool false, .bool false, .bool true, .bool false, .slice none 0 0]) :: E := ⟨_, rfl⟩
  have hlm := (hM5.blk (List.mem_cons_self ..)).lt
  have HNE2 : Hid (∀ q, q ∈ E2 → q.1 ≠ mb) := fun q hq => by
    rw [hE2] at hq
    rcases List.mem_cons.1 hq with rfl | hq
    · show w5.heap.size ≠ mb
      omega
    · exact HNE.out q hq
  have hM7 : HM w _ L X h15b (HTn 8 8 4 0 256) 6 3 ((mb, 148, muV L.hb 0 sb ⟨0, 1, 1, 1, 0, 0, 5, ((0 * h15.W : Nat) : Int)⟩) :: E2) (fun _ => False) (fun _ => True) := hM6.sub (fun y hy => by rw [hE2] at hy; simp only [List.mem_cons] at hy ⊢; rcases hy with e | e | e <;> simp [e])
  have HS2 := hide (step15b HT.out HB.out.1 HB.out.2 hM7 HNE2.out)
  have HE2 : Hid ((w5.heap.size, 77, #[.int .i64 0, .int .i64 0, .int .i64 0, .int .u64 0, .bool false, .bool false, .bool true, .bool false, .slice none 0 0]) ∈ E2) := by rw [hE2]; exact List.mem_cons_self ..
  clear hM5 hM6 hM7 HS1 hE2
  go_wp2_with fail
  refine HS2.out.mono ?_
  rintro e w6 ⟨rfl, hM8⟩
  have hr0 := hM8.blk (List.mem_cons_of_mem _ HE2.out)
  have a1 := hr0.cell 5
  have a2 := hr0.cell 6
  have NA := hr0.lt
  have hM9 := hM8.alloc Lives.none 77 #[.int .i64 0, .int .i64 0, .int .i64 0, .int .u64 0, .bool false, .bool true, .bool false, .bool false, .slice none 0 0]
  have HI9 := hide (midle_any (hM9.blk (List.mem_cons_of_mem _ (List.mem_cons_self ..))))
  have NM := (hM8.blk (List.mem_cons_self ..)).lt
  obtain ⟨gr, offr, hrA⟩ := hM9.rA (by decide)
  have c27 : (w6.alloc (.cells #[.int .i64 0, .int .i64 0, .int .i64 0, .int .u64 0, .bool false, .bool true, .bool false, .bool false, .slice none 0 0] 77)).cell? ⟨L.hb, 27, none⟩ = some (.slice (some ⟨gr, offr, none⟩) 1 L.rc) := by rw [← hrA]; exact hM9.hr.cR
  have cr := hM9.rowc hrA (i := 0) (by decide)
  rw [Nat.add_zero] at cr
  have N27 := lt_of_cell c27
  have NCR := lt_of_cell cr
  have HLn := hide (hM9.slen Lives.none (i := 0) (by decide))
  have HFin : Hid (Fr [] w (w6.alloc (.cells #[.int .i64 0, .int .i64 0, .int .i64 0, .int .u64 0, .bool false, .bool true, .bool false, .bool false, .slice none 0 0] 77))) := hM9.fr
  rw [show ((MU.zero 1).st == 0) = true by rfl] at HI9
  rw [show ((h15c.st 0).length : Int) = 1 by rfl] at HLn
  clear hM8 hM9 hr0 HS2 hrA
  go_wp2_with fail
  refine HI9.out.mono ?_
  rintro e w7 ⟨rfl, rfl⟩
  go_wp2_with fail
  refine HLn.out.mono ?_
  rintro e w8 ⟨rfl, hM10⟩
  have HFin2 := hide hM10.fr
  clear hM10 HFin
  go_wp2_with fail
  go_ret
  exact ⟨rfl, HFin2.out⟩
end Go.Proofs.YthacgiajnafpgaaGreatDoor
namespace Go.Proofs.YthacgiajnafpgaaGreatDoor
set_option linter.unusedVariables false
set_option linter.unusedSimpArgs false
set_option maxRecDepth 100000
open Go.RowKit Go.Gl HS

section
variable {W w w' : World} {L : HL} {X : HX} {h : HS} {x : HT} {s k : Nat} {E : Blks} {D D' : Nat → Prop} {Q Q' : World → Prop} {F : List Nat}
set_option maxHeartbeats 3200000 in
theorem over_nil (hS : Lives D Q) (hT : Tab W) (H : HM W w L X h x s k E D Q) (g : Nat) : Calls Tryz.prog 52 #[.pointer (some ⟨L.hb, 0, none⟩), .pointer (some ⟨g, 0, none⟩), .slice none 0 0] w fun e w' =>
    ∃ Λ, e = .returned (.tuple #[.pointer (some ⟨Λ.wb, 0, none⟩), .bool true]) ∧ OvAt W w' L X h x s k E D Q g h.T Λ := by
  obtain ⟨i0, hi, hz0, hz1, hz2⟩ := info_parts Tryz.info_pmutB
  have hT64 := H.ok.tm
  obtain ⟨T, hTe⟩ : ∃ T, T = h.T := ⟨_, rfl⟩
  obtain ⟨rA, hrA⟩ : ∃ rA, rA = L.rA := ⟨_, rfl⟩
  have hmk1 : ∀ w', (Instr.makeSlice 56 (.int .i64 (T : Int)) (.int .i64 (T : Int))).run Tryz.prog w' = .ok (.slice (some ⟨w'.heap.size, 0, none⟩) T T) (w'.alloc (.cells (rowF T fun _ => .slice none 0 0) 62)) := make_rowB Tryz.underlying56 Tryz.info_refsB rfl (by decide) (by omega)
  have hmk2 : ∀ w', (Instr.makeSlice 24 (.int .i64 (T : Int)) (.int .i64 (T : Int))).run Tryz.prog w' = .ok (.slice (some ⟨w'.heap.size, 0, none⟩) T T) (w'.alloc (.cells (rowF T fun _ => .slice none 0 0) 55)) := make_rowB Tryz.underlying24 Tryz.info_opsB rfl (by decide) (by omega)
  have hmk3 : ∀ w', (Instr.makeSlice 25 (.int .i64 (T : Int)) (.int .i64 (T : Int))).run Tryz.prog w' = .ok (.slice (some ⟨w'.heap.size, 0, none⟩) T T) (w'.alloc (.cells (rowF T fun _ => .int .i64 0) 3)) := make_rowB Tryz.underlying25 Tryz.info_intB rfl (by decide) (by omega)
  have c27 : w.cell? ⟨L.hb, 27, none⟩ = some (.slice rA T L.rc) := by rw [hrA, hTe]; exact H.hr.cR
  have HH := hide H
  have HZ : Hid (∀ w' wb sb ob pb nb, Fr [] w w' → Blk w' wb 37 (wdV L.hb sb none 0 0 pb nb T g (.slice none 0 0) 0 false) → Blk w' sb 58 #[.bool false, .slice (some ⟨ob, 0, none⟩) T T] → Blk w' ob 62 (rowF T fun _ => .slice none 0 0) → Blk w' pb 55 (rowF T fun _ => .slice none 0 0) → Blk w' nb 3 (rowF T fun _ => .int .i64 0) → (w.heap.size ≤ wb ∧ w.heap.size ≤ sb ∧ w.heap.size ≤ ob ∧ w.heap.size ≤ pb ∧ w.heap.size ≤ nb) → OvAt W w' L X h x s k E D Q g 0 ⟨wb, sb, ob, pb, nb, none, 0, [], fun _ => 0⟩) := fun w' wb sb ob pb nb hf h1 h2 h3 h4 h5 hb => by
    rw [hTe] at h1 h2 h3 h4 h5
    exact OvAt.zero hS hT H hf h1 h2 h3 h4 h5 hb
  have HTE := hide (show T = h.T ∧ rA = L.rA ∧ T ≤ 64 from ⟨hTe, hrA, by omega⟩)
  clear H hT64 hTe hrA
  go_enter Tryz.func52, Tryz.ntmps52
  go_wp2_with fail
  go_cut [9] from 18 to 29 (fun p wc => ∃ Λ : WL, p = .pointer (some ⟨Λ.wb, 0, none⟩) ∧ OvAt W wc L X h x s k E D Q g 0 Λ)
  case first =>
    go_region_held3 (fun w' => True)
      (exact trivial)
      (first | fail)
    all_goals
      go_wp2_with fail
      go_meet
      case rel =>
        exact ⟨⟨_, _, _, _, _, none, 0, [], fun _ => 0⟩, rfl, HZ.out _ _ _ _ _ _ (((((((Fr.refl [] w).alloc _).alloc _).alloc _).alloc _).alloc _).drew) blkU_5 (by first | with_reducible exact blkU_1 | with_reducible exact blkU_2 | with_reducible exact blkU_3 | with_reducible exact blkU_4) (by first | with_reducible exact blkU_1 | with_reducible exact blkU_2 | with_reducible exact blkU_3 | with_reducible exact blkU_4) (by first | with_reducible exact blkU_1 | with_reducible exact blkU_2 | with_reducible exact blkU_3 | with_reducible exact blkU_4) (by first | with_reducible exact blkU_1 | with_reducible exact blkU_2 | with_reducible exact blkU_3 | with_reducible exact blkU_4) (by refine ⟨?_, ?_, ?_, ?_, ?_⟩ <;> omega)⟩
  case rest =>
    obtain ⟨Λ0, rfl, hO⟩ := hcut
    have HO := hide hO
    clear hO HZ hmk1 hmk2 hmk3 c27
    go_wp2_with fail
    go_loopw [10] (fun i wr => ∃ (n : Nat) (Λ : WL), i = .int .i64 n ∧ n ≤ T ∧ Λ.wb = Λ0.wb ∧ OvAt W wr L X h x s k E D Q g n Λ) (fun i _ => T - (intOf i).toNat)
    case atStart => exact ⟨0, Λ0, rfl, Nat.zero_le _, rfl, HO.out⟩
    case round =>
      obtain ⟨n, Λ, rfl, hn, hwb, hO⟩ := hrel
      obtain ⟨k1, k2, k3, k4, -⟩ := hO.cells
      rw [← HTE.out.1] at k3 k4
      rw [← HTE.out.2.1] at k4
      have HOn := hide hO
      by_cases hlt : n < T
      · have hlt1 : (n : Int) < (T : Int) := by omega
        have hT64 : (T : Int) ≤ 64 := by have := HTE.out.2.2; omega
        have HNw := hide (mtnew_ok k4 k3 hlt HTE.out.2.2)
        have HL := hide hlt
        rw [hwb] at k1 k2
        have HWb := hide hwb
        clear hO HO hwb k4 k3
        go_wp2_with fail
        refine HNw.out.mono ?_
        rintro e w1 ⟨mb, rfl, hl, hb, hf⟩
        have HB1 : Hid (w.heap.size ≤ w.heap.size ∧ wr.heap.size ≤ mb ∧ Blk w1 mb 148 (muV L.hb n Λ.sb (MU.zero 0)) ∧ Fr [] wr w1) := ⟨Nat.le_refl _, hl, hb, hf⟩
        have hO1 := HOn.out.fr0 hS hf
        obtain ⟨j1, j2, j3, j4, j5⟩ := hO1.cells
        rw [HWb.out] at j2
        have NW := lt_of_cell j2
        have HFZ : Hid (∀ w', Fr Λ.mG (w1.alloc (.cells #[.pointer (some ⟨mb, 0, none⟩)] 59)) w' → w'.cell? ⟨Λ0.wb, 2, none⟩ = some (.slice Λ.mA n Λ.mc) ∧ w'.frozen? ⟨Λ0.wb, 2, none⟩ = false) := fun w' hg => by
          have hb0 := hO1.1.blk (b := Λ.wb) (t := 37) (cs := wdV L.hb Λ.sb Λ.mA n Λ.mc Λ.pb Λ.nb h.T g (.slice none 0 0) 0 false) (by simp [ovE])
          have hnm : Λ.wb ∉ Λ.mG := fun hx => hO1.1.q.1.apart hb0 (by decide) hx
          have hb1 := (hb0.fr ((Fr.refl [] w1).alloc (.cells #[.pointer (some ⟨mb, 0, none⟩)] 59)) (by simp)).fr hg hnm
          rw [HWb.out] at hb1
          exact ⟨hb1.cell 2, hb1.frozen 2⟩
        have HLR : Hid (Lr (w1.alloc (.cells #[.pointer (some ⟨mb, 0, none⟩)] 59)) 59 Λ.mA n Λ.mc Λ.mG (ptrs Λ.P n)) := hO1.1.q.1.alloc _
        have HN : Hid (n + 1 ≤ maxLen ∧ (n + 1) * 8 ≤ 140737488355328) := by have := HTE.out.2.2; exact ⟨by unfold maxLen; omega, by omega⟩
        clear hl hb hf hO1 j1 j3 j4 j5 k1 k2 HNw
        go_wp2_with (first | (at_builtin; refine wpList_append_lr rfl _ _ 34 rfl 59 i0 (.pointer none) 8 Tryz.underlying34 hi hz0 hz1 hz2 rfl rfl HLR.out rfl rfl (fun _ => one_of w1 _ 59 rfl _ (Fr.refl _ _)) (by intro u hu; simp at hu; rw [hu]; rfl) HN.out.1 HN.out.2 ?_; intro A' c' G' w2 HLn HFn HGn; have d0 := (HFZ.out _ HFn.out).1; have dz := (HFZ.out _ HFn.out).2))
        have HR : Hid (OvAt W (w2.setCell ⟨Λ0.wb, 2, none⟩ (.slice A' (n + 1) c')) L X h x s k E D Q g (n + 1) { Λ with mA := A', mc := c', mG := G', P := setF Λ.P n mb }) := by
          have := HOn.out.add hS hT HB1.out.2.2.2 HB1.out.2.2.1 HB1.out.2.1 HLn.out HFn.out (fun g hg => (HGn.out g hg).imp id (fun h => h.1))
          refine hide ?_
          rw [← HWb.out]
          exact this
        go_roundw
        case rel => exact ⟨n + 1, { Λ with mA := A', mc := c', mG := G', P := setF Λ.P n mb }, by go_num, by have := HL.out; omega, HWb.out, HR.out⟩
        case measure => simp [intOf]; have := HL.out; omega
      · obtain rfl : n = T := by omega
        have HO2 : Hid (∃ Λ : WL, Λ.wb = Λ0.wb ∧ OvAt W wr L X h x s k E D Q g h.T Λ) := ⟨Λ, hwb, by rw [← HTE.out.1]; exact hO⟩
        clear hO HO hwb k1 k2 k3 k4 HOn
        go_wp2_with fail
        go_ret2
        obtain ⟨Λ, e1, hO⟩ := HO2.out
        exact ⟨Λ, by rw [e1]; rfl, hO⟩
end
end Go.Proofs.YthacgiajnafpgaaGreatDoor
namespace Go.Proofs.YthacgiajnafpgaaGreatDoor
set_option maxRecDepth 100000
set_option linter.unusedVariables false
set_option linter.unusedSimpArgs false
open Go.RowKit Go.Gl

theorem made_rowH (n : Nat) (v : Value) (h : v.cells = #[v]) : madeCells #[v] n = rowF n fun _ => v := by
  have := made_one v h n
  rw [h] at this
  rw [rowF_const, ← this, Array.toArray_toList]
theorem make_rowH {P : Program} {t e : TypeId} {z : Value} (ht : P.underlying t = some (.slice e)) (hi : (P.info? e).map (fun i => (i.zero, i.size, i.bytes)) = some (some z, 1, 8)) (hz : z.cells = #[z]) {n : Nat} (hn : n ≤ 4194304) (w : World) :
    (Instr.makeSlice t (.int .i64 (n : Int)) (.int .i64 (n : Int))).run P w = .ok (.slice (some ⟨w.heap.size, 0, none⟩) n n) (w.alloc (.cells (rowF n fun _ => z) e)) := by
  rw [run_make_row' (P := P) t e z 8 ht hi hz .i64 .i64 n (by omega) (by omega) w, made_rowH n z hz]
theorem Tryz.info_iH : (Tryz.prog.info? 3).map (fun i => (i.zero, i.size, i.bytes)) = some (some (.int .i64 0), 1, 8) := by kernel_rfl
theorem Tryz.info_pR12 : (Tryz.prog.info? 213).map (fun i => (i.zero, i.size, i.bytes)) = some (some (.pointer none), 1, 8) := by kernel_rfl
theorem ptrs_succ (S : Nat → Nat) (k s : Nat) : ptrs (setF S k s) (k + 1) = ptrs S k ++ [.pointer (some ⟨s, 0, none⟩)] := by
  unfold ptrs
  rw [List.range_succ, List.map_append, List.map_singleton, setF_at]
  congr 1
  apply List.map_congr_left
  intro i hi
  rw [setF_ne _ _ (by have := List.mem_range.1 hi; omega)]
section
variable {w w' : World} {tg : TG} {Λ : ML} {k T B M : Nat}
theorem MG.addStack (h : MG w tg Λ k T B M G0) {w1 : World} {s : Nat} {F : List Nat} (hf1 : Fr [] w w1) (hs : HkR w1 s F B []) (hn : ∀ x, x ∈ F → w.heap.size ≤ x) {nv : Array Value} {t0 : TypeId} {A' : Option Addr} {c' : Nat} {G' : List Nat}
    (hL : Lr w' 213 A' (k + 1) c' G' (ptrs Λ.S k ++ [.pointer (some ⟨s, 0, none⟩)])) (hgr : Fr Λ.sG (w1.alloc (.cells nv t0)) w') (hG : ∀ g, g ∈ G' → g ∈ Λ.sG ∨ g = (w1.alloc (.cells nv t0)).heap.size) :
    ∃ tg', MG (w'.setCell ⟨Λ.m, 2, none⟩ (.slice A' (k + 1) c')) tg' { Λ with sA := A', sc := c', sG := G', S := setF Λ.S k s } (k + 1) T B M G0 ∧ GFr w tg (w'.setCell ⟨Λ.m, 2, none⟩ (.slice A' (k + 1) c')) tg' := by
  have hfa : Fr [] w (w1.alloc (.cells nv t0)) := hf1.alloc _
  have hf2 : Fr Λ.sG w w' := (hfa.mono (fun x hx => by cases hx)).trans hgr (fun x hx => .inl hx)
  have hf3 : Fr [Λ.m] w' (w'.setCell ⟨Λ.m, 2, none⟩ (.slice A' (k + 1) c')) := (Fr.refl _ _).setCell (p := ⟨Λ.m, 2, none⟩) (.inl (by simp)) _
  obtain ⟨w3, hw3⟩ : ∃ w3, w3 = w'.setCell ⟨Λ.m, 2, none⟩ (.slice A' (k + 1) c') := ⟨_, rfl⟩
  rw [← hw3] at hf3 ⊢
  have hf : Fr (Λ.m :: Λ.sG) w w3 := (hf2.mono (fun x hx => .inl (by simp [hx]))).trans hf3 (fun x hx => .inl (by simp at hx; simp [hx]))
  have hT : ∀ x, x ∈ Λ.m :: Λ.sG → tg x = (11, 0) ∨ tg x = (13, 0) := fun x hx => by
    rcases List.mem_cons.1 hx with rfl | hx
    · exact .inl h.t1
    · exact .inr (h.t3 x hx)
  have hk : ∀ n, n ≠ 11 → n ≠ 13 → ∀ x, x ∈ Λ.m :: Λ.sG → (tg x).1 ≠ n := fun n h1 h2 x hx e => by
    rcases hT x hx with e1 | e1
    · rw [e1] at e; exact h1 e.symm
    · rw [e1] at e; exact h2 e.symm
  have hs1 := hf1.size
  have hs2 : w1.heap.size < w'.heap.size := by
    have := hgr.size
    simp at this
    omega
  have hs3 : w'.heap.size = w3.heap.size := by rw [hw3]; simp
  have hGl : ∀ g, g ∈ G' → g < w'.heap.size := hL.lt
  obtain ⟨tg', htg⟩ : ∃ tg' : TG, tg' = fun x => if x ∈ G' then (13, 0) else if w.heap.size ≤ x ∧ x < w3.heap.size then (16, (k : Int)) else tg x := ⟨_, rfl⟩
  have tgg : ∀ g, g ∈ G' → tg' g = (13, 0) := fun g hg => by rw [htg]; exact if_pos hg
  have hu : GTgUp w tg tg' := fun x hx => by
    rw [htg]
    dsimp only
    by_cases e : x ∈ G'
    · rw [if_pos e]
      rcases hG x e with e1 | e1
      · rw [h.t3 x e1]
      · simp at e1; omega
    · rw [if_neg e, if_neg (by omega)]
  have hok : GTgOk w3 tg' := fun x hx => by
    by_cases e : x ∈ G'
    · rw [← hs3]; exact hGl x e
    · by_cases e2 : w.heap.size ≤ x ∧ x < w3.heap.size
      · exact e2.2
      · rw [htg] at hx
        dsimp only at hx
        rw [if_neg e, if_neg e2] at hx
        have := h.tok x hx
        omega
  have hgF : ∀ g, g ∈ F → g ∉ G' := fun g hg hx => by
    have := hs.lt g hg
    have h4 := hn g hg
    rcases hG g hx with e1 | e1
    · have := h.row.lt g e1
      omega
    · simp at e1; omega
  obtain ⟨a1, a2, a3, a4⟩ := h.tags hu
  have hb2 := h.st.fr hf2 (fun hx => by have := h.t3 _ hx; rw [h.t1] at this; cases this)
  have hmG : Λ.m ∉ G' := fun hx => by
    have := tgg _ hx
    rw [a1] at this
    cases this
  refine ⟨tg', ⟨?_, a1, h.obj' hf (hk 12 (by decide) (by decide)), a2, fun r h1 h2 => absurd h2 (by show ¬ r ≤ 0; omega), fun r h1 h2 => absurd h2 (by show ¬ r ≤ 0; omega), ?_, tgg, fun i hi => ?_, h.don' hf (hk 17 (by decide) (by decide)), a4, hok⟩, ⟨⟨_, hf, hk 0 (by decide) (by decide)⟩, hu⟩⟩
  · have := hb2.put 2 (.slice A' (k + 1) c')
    rw [hw3]
    simpa using this
  · rw [ptrs_succ]
    exact hL.fr hf3 (fun g hg hx => by simp at hx; exact hmG (hx ▸ hg))
  · by_cases e : i = k
    · subst e
      refine ⟨F, ?_, fun x hx => ?_⟩
      · show HkR w3 (setF Λ.S i s i) F B []
        rw [setF_at]
        have hsx : HkR w' s F B [] := (hs.fr0 ((Fr.refl _ _).alloc (.cells nv t0))).fr hgr (fun x hx hx' => by
          have := hn x hx
          have := h.row.lt x hx'
          omega)
        exact hsx.fr hf3 (fun x hx hx' => by simp at hx'; have := hn x hx; have := h.st.lt; omega)
      · have h3 := hn x hx
        have h4 := hs.lt x hx
        rw [htg]
        dsimp only
        rw [if_neg (hgF x hx), if_pos ⟨h3, by omega⟩]
    · obtain ⟨H, h3, h4⟩ := h.stk' hf (i := i) (by omega) (tagNe (hk 16 (by decide) (by decide))) hu
      refine ⟨H, ?_, h4⟩
      show HkR w3 (setF Λ.S k s i) H B (G0.st i)
      rw [setF_ne _ _ e]
      exact h3
end
theorem MG.zero (w : World) (T B M : Nat) : MG ((w.alloc (.cells (rowF T fun _ => .int .i64 0) 3)).alloc (.cells #[.int .i64 (M : Int), .slice none 0 0, .slice none 0 0, .slice (some ⟨w.heap.size, 0, none⟩) T T] 124)) (fun x => if x = w.heap.size then (17, 0) else if x = w.heap.size + 1 then (11, 0) else (0, 0))
    ⟨w.heap.size + 1, .slice none 0 0, none, 0, [], fun _ => 0, w.heap.size, fun _ => .slice none 0 0, fun _ => .slice none 0 0⟩ 0 T B M G0 := by
  refine ⟨Blk.new_at _ _ (by simp), by simp, R2.nil _ _ _ _, fun b hb => (by cases hb), fun r h1 h2 => absurd h2 (by show ¬ r ≤ 0; omega), fun r h1 h2 => absurd h2 (by show ¬ r ≤ 0; omega), Lr.nil _ _, fun g hg => (by cases hg), fun i hi => absurd hi (by omega), (Blk.new _ _ _).alloc _, by simp, fun b hb => ?_⟩
  by_cases e : b = w.heap.size
  · simp; omega
  · by_cases e2 : b = w.heap.size + 1
    · simp; omega
    · simp [e, e2] at hb
/-- The document's graph at m, its stacks at S. -/
def MAt (w : World) (tg : TG) (m T B M : Nat) (σ : GS) : Prop := ∃ Λ, MG w tg Λ T T B M σ ∧ Λ.m = m
def MNew (w : World) (T B M : Nat) (e : Ending) (w' : World) : Prop :=
  ∃ g tg, e = .returned (.tuple #[.pointer (some ⟨g, 0, none⟩), .int .i64 0]) ∧ MAt w' tg g T B M G0 ∧ Fr [] w w' ∧ ∀ b, (tg b).1 ≠ 0 → w.heap.size ≤ b
set_option maxRecDepth 100000 in
set_option maxHeartbeats 1600000 in
theorem mnew_ok (T B M : Nat) (hT : 1 ≤ T) (h1 : 1 ≤ B) (hd : GDim T B M) (w : World) : Calls Tryz.prog 51 #[.int .i64 (T : Int), .int .i64 (B : Int), .int .i64 (M : Int)] w (MNew w T B M) := by
  obtain ⟨i0, hi, hz0, hz1, hz2⟩ := info_parts Tryz.info_pR12
  have g1 : ¬ ((T : Int) < 1) := by omega
  have g2 : ¬ ((T : Int) > 64) := by have := hd.t; omega
  have g3 : ¬ ((M : Int) < 1) := by have := hd.m1; omega
  have g4 : ¬ ((M : Int) > 1048576) := by have := hd.m; omega
  have g5 : ¬ ((B : Int) < 1) := by omega
  have g6 : ¬ ((B : Int) > 64) := by have := hd.b; omega
  have hmk : ∀ w', (Instr.makeSlice 25 (.int .i64 (T : Int)) (.int .i64 (T : Int))).run Tryz.prog w' = .ok (.slice (some ⟨w'.heap.size, 0, none⟩) T T) (w'.alloc (.cells (rowF T fun _ => .int .i64 0) 3)) := make_rowH Tryz.underlying25 Tryz.info_iH rfl (by have := hd.t; omega)
  have HD := hide hd
  have HB1 := hide h1
  have HT0 := hide hT
  clear hd hT h1
  go_enter Tryz.func51, Tryz.ntmps51
  go_wp2_with fail
  have HZ := hide (MG.zero w T B M)
  have HF : Hid (Fr [] w ((w.alloc (.cells (rowF T fun _ => .int .i64 0) 3)).alloc (.cells #[.int .i64 (M : Int), .slice none 0 0, .slice none 0 0, .slice (some ⟨w.heap.size, 0, none⟩) T T] 124))) := ((Fr.refl _ _).alloc _).alloc _
  have HTG : Hid (∀ b : Nat, ((fun x => if x = w.heap.size then (17, 0) else if x = w.heap.size + 1 then (11, 0) else (0, 0) : TG) b).1 ≠ 0 → w.heap.size ≤ b) := fun b hb => by
    by_cases e : b = w.heap.size
    · omega
    · by_cases e2 : b = w.heap.size + 1
      · omega
      · simp [e, e2] at hb
  go_loopw [9] (fun i wr => ∃ (k : Nat) (tg : TG) (Λ : ML), i = .int .i64 k ∧ k ≤ T ∧ MG wr tg Λ k T B M G0 ∧ Λ.m = w.heap.size + 1 ∧ Fr [] w wr ∧ ∀ b, (tg b).1 ≠ 0 → w.heap.size ≤ b) (fun i _ => T - (intOf i).toNat)
  case atStart => exact ⟨0, _, _, rfl, Nat.zero_le _, HZ.out, rfl, HF.out, HTG.out⟩
  case round =>
    obtain ⟨k, tg, Λ, rfl, hk, hp, hg, hf, ht⟩ := hrel
    by_cases hlt : k < T
    · have hlt1 : (k : Int) < (T : Int) := by omega
      have HA := hide (r12new_ok B HB1.out HD.out.b wr)
      have HG := hide hg
      have HP := hide hp
      have HFr := hide hf
      have HTr := hide ht
      have HL := hide hlt
      clear hp hg hf ht HZ HF HTG
      go_wp2_with fail
      refine HA.out.mono ?_
      rintro e w1 ⟨s, F, rfl, hq, hf1, hn⟩
      have hp1 := HP.out.fr0 hf1
      have c2 : w1.cell? ⟨w.heap.size + 1, 2, none⟩ = some (.slice Λ.sA k Λ.sc) := by rw [← HG.out]; exact hp1.c2
      have NG : w.heap.size + 1 < w1.heap.size := lt_of_cell c2
      have HQ := hide hq
      have HF1 := hide hf1
      have HNN := hide hn
      have HP1 := hide hp1
      have HFZ : Hid (∀ w', Fr Λ.sG (w1.alloc (.cells #[.pointer (some ⟨s, 0, none⟩)] 213)) w' → w'.cell? ⟨w.heap.size + 1, 2, none⟩ = some (.slice Λ.sA k Λ.sc) ∧ w'.frozen? ⟨w.heap.size + 1, 2, none⟩ = false) := fun w' hg => by
        have hb := ((hp1.st.fr ((Fr.refl [] w1).alloc (.cells #[.pointer (some ⟨s, 0, none⟩)] 213)) (by simp)).fr hg (fun hx => by have := hp1.t3 _ hx; rw [hp1.t1] at this; cases this))
        rw [HG.out] at hb
        exact ⟨by rw [hb.cell]; rfl, hb.frozen 2⟩
      have HLR : Hid (Lr (w1.alloc (.cells #[.pointer (some ⟨s, 0, none⟩)] 213)) 213 Λ.sA k Λ.sc Λ.sG (ptrs Λ.S k)) := hp1.row.alloc _
      have HN : Hid (k + 1 ≤ maxLen ∧ (k + 1) * 8 ≤ 140737488355328) := by have := HD.out.t; exact ⟨by unfold maxLen; omega, by omega⟩
      clear hq hf1 hn hp1
      go_wp2_with (first | (at_builtin; refine wpList_append_lr rfl _ _ 122 rfl 213 i0 (.pointer none) 8 Tryz.underlying122 hi hz0 hz1 hz2 rfl rfl HLR.out rfl rfl (fun _ => one_of w1 _ 213 rfl _ (Fr.refl _ _)) (by intro u hu; simp at hu; rw [hu]; rfl) HN.out.1 HN.out.2 ?_; intro A' c' G' w2 HLn HFn HGn; have d0 := (HFZ.out _ HFn.out).1; have dz := (HFZ.out _ HFn.out).2))
      have HR : Hid (∃ tg' Λ', MG (w2.setCell ⟨w.heap.size + 1, 2, none⟩ (.slice A' (k + 1) c')) tg' Λ' (k + 1) T B M G0 ∧ Λ'.m = w.heap.size + 1 ∧ Fr [] w (w2.setCell ⟨w.heap.size + 1, 2, none⟩ (.slice A' (k + 1) c')) ∧ ∀ b, (tg' b).1 ≠ 0 → w.heap.size ≤ b) := by
        obtain ⟨tg', k1, k2⟩ := HP.out.addStack HF1.out HQ.out HNN.out HLn.out HFn.out (fun g hg => (HGn.out g hg).imp id (fun h => h.1))
        rw [HG.out] at k1 k2
        exact ⟨tg', _, k1, rfl, GFr.inside HFr.out HTr.out k2, GFr.new HFr.out HTr.out k2⟩
      go_roundw
      case rel =>
        obtain ⟨tg', Λ', r1, r2, r3, r4⟩ := HR.out
        exact ⟨k + 1, tg', Λ', by go_num, by have := HL.out; omega, r1, r2, r3, r4⟩
      case measure => simp [intOf]; have := HL.out; omega
    · obtain rfl : k = T := by omega
      have HR : Hid (∃ tg, MAt wr tg (w.heap.size + 1) k B M G0 ∧ Fr [] w wr ∧ ∀ b, (tg b).1 ≠ 0 → w.heap.size ≤ b) := ⟨tg, ⟨Λ, hp, hg⟩, hf, ht⟩
      clear hp hg hf ht HZ HF HTG
      go_wp2_with fail
      go_ret2
      obtain ⟨tg', r1, r2, r3⟩ := HR.out
      exact ⟨w.heap.size + 1, tg', rfl, r1, r2, r3⟩
end Go.Proofs.YthacgiajnafpgaaGreatDoor
namespace Go.Proofs.YthacgiajnafpgaaGreatDoor
set_option maxRecDepth 100000
set_option linter.unusedVariables false
set_option linter.unusedSimpArgs false
open Go.RowKit Go.Gl

/-- What step leaves, and answers. -/
def MActPost (w : World) (tg : TG) (m T B M : Nat) (σ : GS) (ab : Nat) (th dn : Int) (x : An) (e : Ending) (w' : World) : Prop :=
  e = .returned (.int .i64 x.code) ∧ ∃ tg', MAt w' tg' m T B M σ ∧ Blk w' ab 73 (ansC th dn ⟨0, x.word, x.bit⟩) ∧ (∃ F, Fr F w w' ∧ ∀ x, x ∈ F → x = ab ∨ (tg x).1 ≠ 0) ∧ GTgUp w tg tg'
section
variable {w w' : World} {tg tg' : TG} {F : List Nat} {Λ : ML} {K T B M : Nat} {σ : GS} {t : Nat}
theorem MAt.fr {m : Nat} (h : MAt w tg m T B M σ) (hf : Fr F w w') (hF : ∀ x, x ∈ F → (tg x).1 = 0) : MAt w' tg m T B M σ := by
  obtain ⟨Λ, h1, h2⟩ := h
  exact ⟨Λ, h1.fr hf hF, h2⟩
theorem MAt.fr0 {m : Nat} (h : MAt w tg m T B M σ) (hf : Fr [] w w') : MAt w' tg m T B M σ := h.fr hf (by simp)
theorem MAt.tok {m : Nat} (h : MAt w tg m T B M σ) : GTgOk w tg := by
  obtain ⟨Λ, h1, h2⟩ := h
  exact h1.tok
theorem MG.at (h : MG w tg Λ T T B M σ) : MAt w tg Λ.m T B M σ := ⟨Λ, h, rfl⟩
theorem MActPost.of {w1 w2 w3 : World} {tg2 : TG} {m ab : Nat} {th dn : Int} {x : An} {cs : Array Value} (hf : Fr [] w w1) (hg : GFr w1 tg w2 tg2) (hq : MAt w2 tg2 m T B M σ) (hb : Blk w ab 73 cs) (ha : (tg ab).1 = 0)
    (hf3 : Fr [ab] w2 w3) (hb3 : Blk w3 ab 73 (ansC th dn ⟨0, x.word, x.bit⟩)) : MActPost w tg m T B M σ ab th dn x (.returned (.int .i64 x.code)) w3 := by
  have h2 : (tg2 ab).1 = 0 := by rw [hg.up ab (Nat.lt_of_lt_of_le hb.lt hf.size)]; exact ha
  have hfg := (GFr.fr0 (tg := tg) hf).trans hg
  obtain ⟨F, h4, h5⟩ := hfg.fr
  refine ⟨rfl, tg2, hq.fr hf3 (fun z hz => by simp at hz; rw [hz]; exact h2), hb3, ⟨ab :: F, (h4.mono (fun z hz => .inl (by simp [hz]))).trans hf3 (fun z hz => .inl (by simp at hz; simp [hz])), fun z hz => ?_⟩, hfg.up⟩
  rcases List.mem_cons.1 hz with h6 | h6
  · exact .inl h6
  · exact .inr (h5 z h6)
/-- .. where nothing is put into the answer. -/
theorem MActPost.of0 {w1 w2 w3 : World} {tg2 : TG} {m ab : Nat} {th dn : Int} {c : Int} (hf : Fr [] w w1) (hg : GFr w1 tg w2 tg2) (hq : MAt w2 tg2 m T B M σ) (hb : Blk w ab 73 (ansC th dn ⟨0, 0, false⟩)) (ha : (tg ab).1 = 0) (hf3 : Fr [] w2 w3) :
    MActPost w tg m T B M σ ab th dn ⟨c, 0, false⟩ (.returned (.int .i64 c)) w3 :=
  MActPost.of hf hg hq hb ha (hf3.mono (fun x hx => by cases hx)) ((hg.blk (hb.fr hf (by simp)) ha).fr hf3 (by simp))
def MSt (w : World) (tg : TG) (Λ : ML) (K T B M : Nat) (σ : GS) (v : Value) (e : Ending) (w' : World) : Prop := e = .returned v ∧ ∃ tg', MG w' tg' Λ K T B M σ ∧ GFr w tg w' tg'
/-- An object's place. -/
def obP (Λ : ML) (r : Int) : Value := if r = 0 then .pointer none else match Λ.ov.ownBlock with
  | some b => .pointer (some ⟨b, (r - 1).toNat * 2, none⟩)
  | none => .pointer none
theorem MG.ob (h : MG w tg Λ K T B M σ) {r : Int} (h1 : 1 ≤ r) (h2 : r ≤ (σ.N : Int)) : ∃ (b c k : Nat), r = (k : Int) + 1 ∧ k < σ.N ∧ Λ.ov = .slice (some ⟨b, 0, none⟩) σ.N c ∧ obP Λ r = .pointer (some ⟨b, k * 2, none⟩) ∧ b < w.heap.size ∧
    w.cell? ⟨b, k * 2, none⟩ = some (Λ.rv r) ∧ w.cell? ⟨b, k * 2 + 1, none⟩ = some (Λ.dv r) := by
  obtain ⟨k, hk⟩ : ∃ k : Nat, r - 1 = (k : Int) := Int.eq_ofNat_of_zero_le (by omega)
  have hr : r = (k : Int) + 1 := by omega
  obtain ⟨b, c, e1, e2, _, e3⟩ := h.obj.pos (by omega)
  obtain ⟨e4, e5⟩ := e3 k (by omega)
  rw [← hr] at e4 e5
  refine ⟨b, c, k, hr, by omega, e1, ?_, e2, e4, e5⟩
  unfold obP
  rw [if_neg (by omega), e1]
  show Value.pointer (some ⟨b, (r - 1).toNat * 2, none⟩) = _
  rw [hk, Int.toNat_natCast]
end
end Go.Proofs.YthacgiajnafpgaaGreatDoor
namespace Go.Proofs.YthacgiajnafpgaaGreatDoor
set_option linter.unusedVariables false
set_option linter.unusedSimpArgs false
set_option maxRecDepth 100000
open Go.RowKit Go.Gl HS

theorem livesM (tg : TG) (g T B M : Nat) (σ : GS) : Lives (fun b => (tg b).1 ≠ 0) (fun w => MAt w tg g T B M σ) :=
  ⟨fun w w' F h hf hF => h.fr hf (fun b hb => Classical.byContradiction fun e => hF b hb e), fun w h b hb => h.tok b hb⟩
/-- The greatest size, of a geometry that is right. -/
theorem geo_max {g : Geo} {s k : Nat} (h : g.Ok s k) : ∃ M : Nat, g.max = (M : Int) ∧ 1 ≤ M ∧ M ≤ 1048576 := by
  have h1 := h.max
  have h2 := h.r2
  have hp := pw_pos s
  have h3 : 1 * 1 ≤ (g.regions - 1) * pw s := Int.mul_le_mul (by omega) (by omega) (by decide) (by omega)
  have h4 : 1 ≤ g.max ∧ g.max ≤ 1048576 := by rw [h1]; omega
  exact ⟨g.max.toNat, by omega, by omega, by omega⟩
/-- What Begin comes to, no operations given. -/
def BegP (w : World) (c : Cfg) (e : Ending) (w' : World) : Prop :=
  (e = .returned (.tuple #[.pointer none, .bool true]) ∧ Fr [] w w') ∨
  ∃ (T B M g W0 R C P qm s k : Nat) (tg : TG) (L : HL) (X : HX) (Λ : WL), e = .returned (.tuple #[.pointer (some ⟨Λ.wb, 0, none⟩), .bool true]) ∧ c.threads = (T : Int) ∧ 1 ≤ T ∧ T ≤ 64 ∧
    OvAt w w' L X (HSn c.geo W0 R (R * W0) T) (HTn C P R qm (R * W0)) s k [] (fun b => (tg b).1 ≠ 0) (fun w => MAt w tg g T B M G0) g T Λ
set_option maxHeartbeats 3200000 in
theorem begin_nil (c : Cfg) (w : World) (hT : Tab w) : Calls Tryz.prog 12 #[c.val, .slice none 0 0] w (BegP w c) := by
  have HT := hide hT
  clear hT
  by_cases hm : mayB c = false
  · have HG : Hid (∀ w', Calls Tryz.prog 50 #[c.val] w' fun e w'' => e = .returned (.tuple #[.agg #[.int .i64 0, .int .i64 0, .int .i64 0, .int .i64 0, .int .i64 0, .int .i64 0], .int .i64 20]) ∧ Fr [] w' w'') := fun w' => (gnew_any c w').mono fun e w'' ⟨h1, h2⟩ => ⟨by rw [h1]; unfold Cfg.ans Cfg.err; rw [hm]; rfl, h2⟩
    have HP : Hid (∀ w', Fr [] w w' → BegP w c (.returned (.tuple #[.pointer none, .bool true])) w') := fun w' hf => .inl ⟨rfl, hf⟩
    unfold Cfg.val at HG ⊢
    generalize BegP w c = Post at *
    clear hm
    go_enter Tryz.func12, Tryz.ntmps12
    go_wp2_with fail
    refine (HG.out _).mono ?_
    rintro e w2 ⟨rfl, hf⟩
    have HF2 : Hid (Fr [] w w2) := ((Fr.refl _ _).alloc _).trans_same hf
    clear hf
    go_wp2_with fail
    exact HP.out _ (HF2.out.alloc _)
  · have hm : mayB c = true := by simpa using hm
    obtain ⟨W0, R, C, P, T, B, qm, s, k, ok⟩ := nwOk_of hm
    obtain ⟨M, hM, hM1, hM2⟩ := geo_max ok.ok
    have HG : Hid (∀ w', Calls Tryz.prog 50 #[c.val] w' fun e w'' => e = .returned (.tuple #[c.geo.val, .int .i64 0]) ∧ Fr [] w' w'') := fun w' => (gnew_any c w').mono fun e w'' ⟨h1, h2⟩ => ⟨by rw [h1]; unfold Cfg.ans Cfg.err; rw [hm]; rfl, h2⟩
    have HN : Hid (∀ w', Tab w' → Calls Tryz.prog 47 #[c.val] w' (HNewP w' c c.geo W0 R (R * W0) T C P qm B s k)) := fun w' hT => heapnew_ok hm ok w' hT
    have HR : Hid (∀ w', Calls Tryz.prog 51 #[.int .i64 (T : Int), .int .i64 (B : Int), .int .i64 (M : Int)] w' (MNew w' T B M)) := fun w' => mnew_ok T B M ok.t1 ok.b1 ⟨ok.t2, ok.b2, hM1, hM2⟩ w'
    have HP1 : Hid (∀ w', Fr [] w w' → BegP w c (.returned (.tuple #[.pointer none, .bool true])) w') := fun w' hf => .inl ⟨rfl, hf⟩
    have HP2 : Hid (∀ w' g tg L X Λ, OvAt w w' L X (HSn c.geo W0 R (R * W0) T) (HTn C P R qm (R * W0)) s k [] (fun b => (tg b).1 ≠ 0) (fun w => MAt w tg g T B M G0) g T Λ → BegP w c (.returned (.tuple #[.pointer (some ⟨Λ.wb, 0, none⟩), .bool true])) w') := fun w' g tg L X Λ hO => .inr ⟨T, B, M, g, W0, R, C, P, qm, s, k, tg, L, X, Λ, rfl, ok.th, ok.t1, ok.t2, hO⟩
    have hth := hide ok.th
    have hro := hide ok.ro
    obtain ⟨h0, hh0⟩ : ∃ h0, h0 = HSn c.geo W0 R (R * W0) T := ⟨_, rfl⟩
    have HT0 : Hid (h0.T = T) := by rw [hh0]; rfl
    have HH0 := hide hh0
    rw [← hh0] at HP2
    obtain ⟨g, hg⟩ : ∃ g, g = c.geo := ⟨_, rfl⟩
    rw [← hg] at HG HN hM
    have HGg := hide hg
    have HM0 := hide hM
    generalize BegP w c = Post at *
    have HBC := hide (Blk.new w 23 c.cells)
    clear hm ok hg hh0 hM
    unfold Cfg.val at HG HN ⊢
    unfold Geo.val at HG
    go_enter Tryz.func12, Tryz.ntmps12
    go_wp2_with fail
    refine (HG.out _).mono ?_
    rintro e w2 ⟨rfl, hf⟩
    have HF2 : Hid (Fr [] w w2) := ((Fr.refl _ _).alloc _).trans_same hf
    have HB2 := hide (HBC.out.fr hf (by simp))
    have HGB : Hid (Blk (w2.alloc (.cells #[.int .i64 g.words, .int .i64 g.rw, .int .i64 g.cw, .int .i64 g.regions, .int .i64 g.cards, .int .i64 g.max] 40)) w2.heap.size 40 g.cells) := Blk.new _ _ _
    obtain ⟨a0, a1, a2, a3, a4, a5, a6, a7, a8, a9, a10, a11, a12, a13⟩ := CfgAt.of HB2.out
    have N0 : w.heap.size < w2.heap.size := lt_of_cell a0
    clear hf HBC
    by_cases hbig : g.words > 8192
    · have hb1 : decide (g.words > 8192) = true := by simpa using hbig
      have hb2 : decide (8192 < g.words) = true := by simpa using hbig
      go_wp2_with fail
      exact HP1.out _ (HF2.out.alloc _)
    · have hb1 : decide (g.words > 8192) = false := by simpa using hbig
      have hb2 : decide (8192 < g.words) = false := by simpa using hbig
      go_wp2_with fail
      refine (HN.out _ ((HT.out.fr HF2.out (by simp)).alloc _)).mono ?_
      intro e w4 hP
      obtain ⟨L, X, own, rfl, hH, hB, hcf, hf, hown⟩ := hP.at (HF2.out.alloc _)
      rw [HGg.out, ← HH0.out] at hH
      have HM4 := hide (HM.of0 hH)
      have HB4 := (HB2.out.alloc (.cells #[.int .i64 g.words, .int .i64 g.rw, .int .i64 g.cw, .int .i64 g.regions, .int .i64 g.cards, .int .i64 g.max] 40)).fr hf (by simp)
      have HG4 := HGB.out.fr hf (by simp)
      have e3 : w4.cell? ⟨w.heap.size, 3, none⟩ = some (.int .i64 (T : Int)) := by rw [← hth.out]; exact HB4.cell 3
      have e4 : w4.cell? ⟨w.heap.size, 4, none⟩ = some (.int .i64 (B : Int)) := by rw [← hro.out]; exact HB4.cell 4
      have e5 : w4.cell? ⟨w2.heap.size, 5, none⟩ = some (.int .i64 (M : Int)) := by rw [← HM0.out]; exact HG4.cell 5
      clear hP hH hB hcf hf hown HB4 HG4 HN HG HB2 HF2 a0 a1 a2 a3 a4 a5 a6 a7 a8 a9 a10 a11 a12 a13
      go_wp2_with fail
      refine (HR.out _).mono ?_
      intro e w5 hR
      unfold MNew at hR
      obtain ⟨gb, tg, rfl, hq, hf5, hn5⟩ := hR
      have hM5 : HM w w5 L X h0 _ s k [] (fun b => (tg b).1 ≠ 0) (fun w => MAt w tg gb T B M G0) := HM4.out.live HT.out (F := []) hf5 (fun b hb => by cases hb) (fun b hb => .inr (hn5 b hb)) hq
      have HOv := hide (over_nil (livesM tg gb T B M G0) HT.out hM5 gb)
      clear hq hf5 hn5 hM5 HR HM4 e3 e4 e5
      go_wp2_with fail
      refine HOv.out.mono ?_
      rintro e w6 ⟨Λ, rfl, hO⟩
      rw [HT0.out] at hO
      have HO6 := hide hO
      clear hO HOv
      go_wp2_with fail
      exact HP2.out _ _ _ _ _ _ HO6.out
end Go.Proofs.YthacgiajnafpgaaGreatDoor
