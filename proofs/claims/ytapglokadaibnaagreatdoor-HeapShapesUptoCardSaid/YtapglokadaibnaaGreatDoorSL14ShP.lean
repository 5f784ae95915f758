/- Several texts joined (pack.py): Gz Ha Hb Hc Hh Hi Hj Hl Yr Yg Yh. -/
import Derived.Test.YtapglokadaibnaaGreatDoorSGa
import Derived.WalkKit
import Derived.BigQuiet
import Derived.Deep.RegionLaw
import Derived.Deep.AppendLies
import Derived.Deep.CutRange
import Derived.Deep.RegionHeld3
import Derived.Test.YtapglokadaibnaaGreatDoorSRo
import Derived.Deep.OwnRows
import Derived.Test.YtapglokadaibnaaGreatDoorSVa
import Derived.Test.YtapglokadaibnaaGreatDoorSWb
namespace Go.Proofs.YtapglokadaibnaaGreatDoor
set_option maxRecDepth 100000
set_option linter.unusedVariables false
set_option linter.unusedSimpArgs false
open Go.RowKit Go.Gl

/-- What the bounds keep to. -/
structure GDim (T B M : Nat) : Prop where
  t : T ≤ 64
  b : B ≤ 64
  m1 : 1 ≤ M
  m : M ≤ 1048576
theorem cnt_le {st : Nat → List Int} {B : Nat} (h : ∀ t, (st t).length ≤ B) (r : Int) : ∀ T, cntG st T r ≤ T * B
  | 0 => Nat.zero_le _
  | T + 1 => by
    have h1 := cnt_le h r T
    have h2 : (st T).count r ≤ B := Nat.le_trans List.count_le_length (h T)
    simp only [cntG]
    rw [Nat.succ_mul]
    omega
theorem objE_0 {σ : GS} {t : Nat} {a : Int} : objE σ t a = 0 ↔ hkIn (σ.st t) a ∧ hkAt (σ.st t) a ≠ 0 := by
  unfold objE
  repeat' split
  all_goals simp_all
theorem objE_ways (σ : GS) (t : Nat) (a : Int) : objE σ t a = 0 ∨ objE σ t a = 12 ∨ objE σ t a = 10 := by
  unfold objE
  repeat' split
  all_goals simp
def opV (o : Po) : Value := .agg #[.int .i64 o.k, .int .i64 o.a, .int .i64 o.b, .int .i64 o.c, .int .u64 o.v]
/-- An operation's numbers are such as a word holds. -/
structure PoOk (o : Po) : Prop where
  a : -9223372036854775808 ≤ o.a ∧ o.a ≤ 9223372036854775807
  b : -9223372036854775808 ≤ o.b ∧ o.b ≤ 9223372036854775807
def ansC (th dn : Int) (x : An) : Array Value := #[.int .i64 th, .int .i64 dn, .int .i64 x.code, .int .u64 x.word, .bool x.bit]
theorem news_at (w : World) (cs : Array Value) (t : TypeId) {b : Nat} (hb : w.heap.size = b) (w' : World) (hf : Fr [] (w.alloc (.cells cs t)) w') : ∃ ad, some (⟨b, 0, none⟩ : Addr) = some ad ∧ ∀ j u, cs.toList[j]? = some u → w'.cell? (ad.add j) = some u := by
  subst hb
  exact ⟨_, rfl, World.news_of_block ((Blk.new w t cs).fr hf (by simp))⟩
theorem refV_snoc (l : List Int) (x : Int) : refV (l ++ [x]) = refV l ++ [.int .u64 x] := by simp [refV]
theorem Tryz.info_u64G : (Tryz.prog.info? 65).map (fun i => (i.zero, i.size, i.bytes)) = some (some (.int .u64 0), 1, 8) := by kernel_rfl
theorem Tryz.info_ob13 : (Tryz.prog.info? 156).map (fun i => (i.zero, i.size, i.bytes)) = some (some (.agg #[.slice none 0 0, .slice none 0 0]), 2, 48) := by kernel_rfl
def ShapePost (W : World) (l : List Int) (e : Ending) (w' : World) : Prop := ∃ A n c G, e = .returned (.slice A n c) ∧ Lr w' 65 A n c G (refV l) ∧ Fr [] W w' ∧ ∀ g, g ∈ G → W.heap.size ≤ g
theorem take_succ_getD {l : List Int} {k : Nat} (h : k < l.length) : l.take (k + 1) = l.take k ++ [l.getD k 0] := by
  rw [List.take_add_one]
  congr 1
  simp [h]
end Go.Proofs.YtapglokadaibnaaGreatDoor
namespace Go.Proofs.YtapglokadaibnaaGreatDoor
set_option maxRecDepth 100000
set_option linter.unusedVariables false
set_option linter.unusedSimpArgs false
open Go.RowKit Go.Gl

/-- A row of numbers of its own. -/
def SlAt (w : World) (tg : TG) (e : TypeId) (kd : Nat) (r : Int) (v : Value) (l : List Int) : Prop := ∃ A c G, v = .slice A l.length c ∧ Lr w e A l.length c G (refV l) ∧ ∀ g, g ∈ G → tg g = (kd, r)
/-- Where the document's graph's parts lie. -/
structure ML where
  m : Nat
  ov : Value
  sA : Option Addr
  sc : Nat
  sG : List Nat
  S : Nat → Nat
  db : Nat
  rv : Int → Value
  dv : Int → Value
def ptrs (S : Nat → Nat) (K : Nat) : List Value := (List.range K).map fun i => .pointer (some ⟨S i, 0, none⟩)
theorem ptrs_at (S : Nat → Nat) {K i : Nat} (h : i < K) : (ptrs S K)[i]? = some (.pointer (some ⟨S i, 0, none⟩)) := by simp [ptrs, h]
/-- The document's graph at m, of K stacks: tags 11 the struct, 12 the objects' row, 13 the stacks' row, 16 a stack, 14 an object's references, 15 its data, 17 how many operations were done. -/
structure MG (w : World) (tg : TG) (Λ : ML) (K T B M : Nat) (σ : GS) : Prop where
  st : Blk w Λ.m 160 #[.int .i64 (M : Int), Λ.ov, .slice Λ.sA K Λ.sc, .slice (some ⟨Λ.db, 0, none⟩) T T]
  t1 : tg Λ.m = (11, 0)
  obj : R2 w 156 Λ.ov σ.N (fun k => Λ.rv ((k : Int) + 1)) (fun k => Λ.dv ((k : Int) + 1))
  t2 : ∀ b, Λ.ov.ownBlock = some b → tg b = (12, 0)
  refs : ∀ r, 1 ≤ r → r ≤ (σ.N : Int) → SlAt w tg 66 14 r (Λ.rv r) (kids σ r)
  data : ∀ r, 1 ≤ r → r ≤ (σ.N : Int) → SlAt w tg 65 15 r (Λ.dv r) (datas σ r)
  row : Lr w 161 Λ.sA K Λ.sc Λ.sG (ptrs Λ.S K)
  t3 : ∀ g, g ∈ Λ.sG → tg g = (13, 0)
  stk : ∀ i, i < K → ∃ F, HkR w (Λ.S i) F B (σ.st i) ∧ ∀ x, x ∈ F → tg x = (16, (i : Int))
  don : Blk w Λ.db 3 (rowF T fun i => .int .i64 (σ.done i : Int))
  t4 : tg Λ.db = (17, 0)
  tok : GTgOk w tg
section
variable {w w' : World} {tg tg' : TG} {F : List Nat} {Λ : ML} {K T B M : Nat} {σ : GS}
theorem SlAt.fr {e : TypeId} {kd : Nat} {r : Int} {v : Value} {l : List Int} (h : SlAt w tg e kd r v l) (hf : Fr F w w') (hF : ∀ x, x ∈ F → tg x ≠ (kd, r)) (hu : GTgUp w tg tg') : SlAt w' tg' e kd r v l := by
  obtain ⟨A, c, G, h1, h2, h3⟩ := h
  exact ⟨A, c, G, h1, h2.fr hf (fun g hg hx => hF g hx (h3 g hg)), fun g hg => (hu g (h2.lt g hg)).trans (h3 g hg)⟩
theorem MG.st' (h : MG w tg Λ K T B M σ) (hf : Fr F w w') (hF : ∀ x, x ∈ F → (tg x).1 ≠ 11) : Blk w' Λ.m 160 #[.int .i64 (M : Int), Λ.ov, .slice Λ.sA K Λ.sc, .slice (some ⟨Λ.db, 0, none⟩) T T] := h.st.fr hf (fun hx => tagNe hF _ hx h.t1)
theorem MG.obj' (h : MG w tg Λ K T B M σ) (hf : Fr F w w') (hF : ∀ x, x ∈ F → (tg x).1 ≠ 12) : R2 w' 156 Λ.ov σ.N (fun k => Λ.rv ((k : Int) + 1)) (fun k => Λ.dv ((k : Int) + 1)) := h.obj.fr hf (fun b hb hx => tagNe hF _ hx (h.t2 b hb))
theorem MG.refs' (h : MG w tg Λ K T B M σ) (hf : Fr F w w') (hF : ∀ x, x ∈ F → (tg x).1 ≠ 14) (hu : GTgUp w tg tg') : ∀ r, 1 ≤ r → r ≤ (σ.N : Int) → SlAt w' tg' 66 14 r (Λ.rv r) (kids σ r) := fun r h1 h2 => (h.refs r h1 h2).fr hf (tagNe hF) hu
theorem MG.data' (h : MG w tg Λ K T B M σ) (hf : Fr F w w') (hF : ∀ x, x ∈ F → (tg x).1 ≠ 15) (hu : GTgUp w tg tg') : ∀ r, 1 ≤ r → r ≤ (σ.N : Int) → SlAt w' tg' 65 15 r (Λ.dv r) (datas σ r) := fun r h1 h2 => (h.data r h1 h2).fr hf (tagNe hF) hu
theorem MG.row' (h : MG w tg Λ K T B M σ) (hf : Fr F w w') (hF : ∀ x, x ∈ F → (tg x).1 ≠ 13) : Lr w' 161 Λ.sA K Λ.sc Λ.sG (ptrs Λ.S K) := h.row.fr hf (fun g hg hx => tagNe hF _ hx (h.t3 g hg))
theorem MG.stk' (h : MG w tg Λ K T B M σ) (hf : Fr F w w') {i : Nat} (hi : i < K) (hF : ∀ x, x ∈ F → tg x ≠ (16, (i : Int))) (hu : GTgUp w tg tg') : ∃ F, HkR w' (Λ.S i) F B (σ.st i) ∧ ∀ x, x ∈ F → tg' x = (16, (i : Int)) := by
  obtain ⟨G, h1, h2⟩ := h.stk i hi
  exact ⟨G, h1.fr hf (fun x hx hx' => hF x hx' (h2 x hx)), fun x hx => (hu x (h1.lt x hx)).trans (h2 x hx)⟩
theorem MG.don' (h : MG w tg Λ K T B M σ) (hf : Fr F w w') (hF : ∀ x, x ∈ F → (tg x).1 ≠ 17) : Blk w' Λ.db 3 (rowF T fun i => .int .i64 (σ.done i : Int)) := h.don.fr hf (fun hx => tagNe hF _ hx h.t4)
theorem MG.tags (h : MG w tg Λ K T B M σ) (hu : GTgUp w tg tg') : tg' Λ.m = (11, 0) ∧ (∀ b, Λ.ov.ownBlock = some b → tg' b = (12, 0)) ∧ (∀ g, g ∈ Λ.sG → tg' g = (13, 0)) ∧ tg' Λ.db = (17, 0) :=
  ⟨(hu _ h.st.lt).trans h.t1, fun b hb => (hu _ (h.obj.lt hb)).trans (h.t2 b hb), fun g hg => (hu _ (h.row.lt g hg)).trans (h.t3 g hg), (hu _ h.don.lt).trans h.t4⟩
/-- What is done elsewhere leaves it. -/
theorem MG.fr (h : MG w tg Λ K T B M σ) (hf : Fr F w w') (hF : ∀ x, x ∈ F → (tg x).1 = 0) : MG w' tg Λ K T B M σ := by
  have hk : ∀ k, k ≠ 0 → ∀ x, x ∈ F → (tg x).1 ≠ k := fun k hk x hx e => hk (by rw [← e, hF x hx])
  have hu := GTgUp.refl w tg
  exact ⟨h.st' hf (hk 11 (by decide)), h.t1, h.obj' hf (hk 12 (by decide)), h.t2, h.refs' hf (hk 14 (by decide)) hu, h.data' hf (hk 15 (by decide)) hu, h.row' hf (hk 13 (by decide)), h.t3,
    fun i hi => h.stk' hf hi (tagNe (hk 16 (by decide))) hu, h.don' hf (hk 17 (by decide)), h.t4, tok' h.tok hf⟩
theorem MG.fr0 (h : MG w tg Λ K T B M σ) (hf : Fr [] w w') : MG w' tg Λ K T B M σ := h.fr hf (by simp)
theorem MG.c2 (h : MG w tg Λ K T B M σ) : w.cell? ⟨Λ.m, 2, none⟩ = some (.slice Λ.sA K Λ.sc) := by rw [h.st.cell]; rfl
end
end Go.Proofs.YtapglokadaibnaaGreatDoor
namespace Go.Proofs.YtapglokadaibnaaGreatDoor
set_option maxRecDepth 100000
set_option linter.unusedVariables false
set_option linter.unusedSimpArgs false
open Go.RowKit Go.Gl

theorem made_rowH (n : Nat) (v : Value) (h : v.cells = #[v]) : madeCells #[v] n = rowF n fun _ => v := by
  have := made_one v h n
  rw [h] at this
  rw [rowF_const, ← this, Array.toArray_toList]
theorem make_rowH {P : Program} {t e : TypeId} {z : Value} (ht : P.underlying t = some (.slice e)) (hi : (P.info? e).map (fun i => (i.zero, i.size, i.bytes)) = some (some z, 1, 8)) (hz : z.cells = #[z]) {n : Nat} (hn : n ≤ 4194304) (w : World) :
    (Instr.makeSlice t (.int .i64 (n : Int)) (.int .i64 (n : Int))).run P w = .ok (.slice (some ⟨w.heap.size, 0, none⟩) n n) (w.alloc (.cells (rowF n fun _ => z) e)) := by
  rw [run_make_row' (P := P) t e z 8 ht hi hz .i64 .i64 n (by omega) (by omega) w, made_rowH n z hz]
theorem Tryz.info_iH : (Tryz.prog.info? 3).map (fun i => (i.zero, i.size, i.bytes)) = some (some (.int .i64 0), 1, 8) := by kernel_rfl
theorem Tryz.info_pR12 : (Tryz.prog.info? 161).map (fun i => (i.zero, i.size, i.bytes)) = some (some (.pointer none), 1, 8) := by kernel_rfl
theorem ptrs_succ (S : Nat → Nat) (k s : Nat) : ptrs (setF S k s) (k + 1) = ptrs S k ++ [.pointer (some ⟨s, 0, none⟩)] := by
  unfold ptrs
  rw [List.range_succ, List.map_append, List.map_singleton, setF_at]
  congr 1
  apply List.map_congr_left
  intro i hi
  rw [setF_ne _ _ (by have := List.mem_range.1 hi; omega)]
section
variable {w w' : World} {tg : TG} {Λ : ML} {k T B M : Nat}
theorem MG.addStack (h : MG w tg Λ k T B M G0) {w1 : World} {s : Nat} {F : List Nat} (hf1 : Fr [] w w1) (hs : HkR w1 s F B []) (hn : ∀ x, x ∈ F → w.heap.size ≤ x) {nv : Array Value} {t0 : TypeId} {A' : Option Addr} {c' : Nat} {G' : List Nat}
    (hL : Lr w' 161 A' (k + 1) c' G' (ptrs Λ.S k ++ [.pointer (some ⟨s, 0, none⟩)])) (hgr : Fr Λ.sG (w1.alloc (.cells nv t0)) w') (hG : ∀ g, g ∈ G' → g ∈ Λ.sG ∨ g = (w1.alloc (.cells nv t0)).heap.size) :
    ∃ tg', MG (w'.setCell ⟨Λ.m, 2, none⟩ (.slice A' (k + 1) c')) tg' { Λ with sA := A', sc := c', sG := G', S := setF Λ.S k s } (k + 1) T B M G0 ∧ GFr w tg (w'.setCell ⟨Λ.m, 2, none⟩ (.slice A' (k + 1) c')) tg' := by
  have hfa : Fr [] w (w1.alloc (.cells nv t0)) := hf1.alloc _
  have hf2 : Fr Λ.sG w w' := (hfa.mono (fun x hx => by cases hx)).trans hgr (fun x hx => .inl hx)
  have hf3 : Fr [Λ.m] w' (w'.setCell ⟨Λ.m, 2, none⟩ (.slice A' (k + 1) c')) := (Fr.refl _ _).setCell (p := ⟨Λ.m, 2, none⟩) (.inl (by simp)) _
  obtain ⟨w3, hw3⟩ : ∃ w3, w3 = w'.setCell ⟨Λ.m, 2, none⟩ (.slice A' (k + 1) c') := ⟨_, rfl⟩
  rw [← hw3] at hf3 ⊢
  have hf : Fr (Λ.m :: Λ.sG) w w3 := (hf2.mono (fun x hx => .inl (by simp [hx]))).trans hf3 (fun x hx => .inl (by simp at hx; simp [hx]))
  have hT : ∀ x, x ∈ Λ.m :: Λ.sG → tg x = (11, 0) ∨ tg x = (13, 0) := fun x hx => by
    rcases List.mem_cons.1 hx with rfl | hx
    · exact .inl h.t1
    · exact .inr (h.t3 x hx)
  have hk : ∀ n, n ≠ 11 → n ≠ 13 → ∀ x, x ∈ Λ.m :: Λ.sG → (tg x).1 ≠ n := fun n h1 h2 x hx e => by
    rcases hT x hx with e1 | e1
    · rw [e1] at e; exact h1 e.symm
    · rw [e1] at e; exact h2 e.symm
  have hs1 := hf1.size
  have hs2 : w1.heap.size < w'.heap.size := by
    have := hgr.size
    simp at this
    omega
  have hs3 : w'.heap.size = w3.heap.size := by rw [hw3]; simp
  have hGl : ∀ g, g ∈ G' → g < w'.heap.size := hL.lt
  obtain ⟨tg', htg⟩ : ∃ tg' : TG, tg' = fun x => if x ∈ G' then (13, 0) else if w.heap.size ≤ x ∧ x < w3.heap.size then (16, (k : Int)) else tg x := ⟨_, rfl⟩
  have tgg : ∀ g, g ∈ G' → tg' g = (13, 0) := fun g hg => by rw [htg]; exact if_pos hg
  have hu : GTgUp w tg tg' := fun x hx => by
    rw [htg]
    dsimp only
    by_cases e : x ∈ G'
    · rw [if_pos e]
      rcases hG x e with e1 | e1
      · rw [h.t3 x e1]
      · simp at e1; omega
    · rw [if_neg e, if_neg (by omega)]
  have hok : GTgOk w3 tg' := fun x hx => by
    by_cases e : x ∈ G'
    · rw [← hs3]; exact hGl x e
    · by_cases e2 : w.heap.size ≤ x ∧ x < w3.heap.size
      · exact e2.2
      · rw [htg] at hx
        dsimp only at hx
        rw [if_neg e, if_neg e2] at hx
        have := h.tok x hx
        omega
  have hgF : ∀ g, g ∈ F → g ∉ G' := fun g hg hx => by
    have := hs.lt g hg
    have h4 := hn g hg
    rcases hG g hx with e1 | e1
    · have := h.row.lt g e1
      omega
    · simp at e1; omega
  obtain ⟨a1, a2, a3, a4⟩ := h.tags hu
  have hb2 := h.st.fr hf2 (fun hx => by have := h.t3 _ hx; rw [h.t1] at this; cases this)
  have hmG : Λ.m ∉ G' := fun hx => by
    have := tgg _ hx
    rw [a1] at this
    cases this
  refine ⟨tg', ⟨?_, a1, h.obj' hf (hk 12 (by decide) (by decide)), a2, fun r h1 h2 => absurd h2 (by show ¬ r ≤ 0; omega), fun r h1 h2 => absurd h2 (by show ¬ r ≤ 0; omega), ?_, tgg, fun i hi => ?_, h.don' hf (hk 17 (by decide) (by decide)), a4, hok⟩, ⟨⟨_, hf, hk 0 (by decide) (by decide)⟩, hu⟩⟩
  · have := hb2.put 2 (.slice A' (k + 1) c')
    rw [hw3]
    simpa using this
  · rw [ptrs_succ]
    exact hL.fr hf3 (fun g hg hx => by simp at hx; exact hmG (hx ▸ hg))
  · by_cases e : i = k
    · subst e
      refine ⟨F, ?_, fun x hx => ?_⟩
      · show HkR w3 (setF Λ.S i s i) F B []
        rw [setF_at]
        have hsx : HkR w' s F B [] := (hs.fr0 ((Fr.refl _ _).alloc (.cells nv t0))).fr hgr (fun x hx hx' => by
          have := hn x hx
          have := h.row.lt x hx'
          omega)
        exact hsx.fr hf3 (fun x hx hx' => by simp at hx'; have := hn x hx; have := h.st.lt; omega)
      · have h3 := hn x hx
        have h4 := hs.lt x hx
        rw [htg]
        dsimp only
        rw [if_neg (hgF x hx), if_pos ⟨h3, by omega⟩]
    · obtain ⟨H, h3, h4⟩ := h.stk' hf (i := i) (by omega) (tagNe (hk 16 (by decide) (by decide))) hu
      refine ⟨H, ?_, h4⟩
      show HkR w3 (setF Λ.S k s i) H B (G0.st i)
      rw [setF_ne _ _ e]
      exact h3
end
theorem MG.zero (w : World) (T B M : Nat) : MG ((w.alloc (.cells (rowF T fun _ => .int .i64 0) 3)).alloc (.cells #[.int .i64 (M : Int), .slice none 0 0, .slice none 0 0, .slice (some ⟨w.heap.size, 0, none⟩) T T] 160)) (fun x => if x = w.heap.size then (17, 0) else if x = w.heap.size + 1 then (11, 0) else (0, 0))
    ⟨w.heap.size + 1, .slice none 0 0, none, 0, [], fun _ => 0, w.heap.size, fun _ => .slice none 0 0, fun _ => .slice none 0 0⟩ 0 T B M G0 := by
  refine ⟨Blk.new_at _ _ (by simp), by simp, R2.nil _ _ _ _, fun b hb => (by cases hb), fun r h1 h2 => absurd h2 (by show ¬ r ≤ 0; omega), fun r h1 h2 => absurd h2 (by show ¬ r ≤ 0; omega), Lr.nil _ _, fun g hg => (by cases hg), fun i hi => absurd hi (by omega), (Blk.new _ _ _).alloc _, by simp, fun b hb => ?_⟩
  by_cases e : b = w.heap.size
  · simp; omega
  · by_cases e2 : b = w.heap.size + 1
    · simp; omega
    · simp [e, e2] at hb
/-- The document's graph at m, its stacks at S. -/
def MAt (w : World) (tg : TG) (m T B M : Nat) (σ : GS) : Prop := ∃ Λ, MG w tg Λ T T B M σ ∧ Λ.m = m
def MNew (w : World) (T B M : Nat) (e : Ending) (w' : World) : Prop :=
  ∃ g tg, e = .returned (.tuple #[.pointer (some ⟨g, 0, none⟩), .int .i64 0]) ∧ MAt w' tg g T B M G0 ∧ Fr [] w w' ∧ ∀ b, (tg b).1 ≠ 0 → w.heap.size ≤ b
set_option maxRecDepth 100000 in
set_option maxHeartbeats 1600000 in
theorem mnew_ok (T B M : Nat) (hT : 1 ≤ T) (h1 : 1 ≤ B) (hd : GDim T B M) (w : World) : Calls Tryz.prog 76 #[.int .i64 (T : Int), .int .i64 (B : Int), .int .i64 (M : Int)] w (MNew w T B M) := by
  obtain ⟨i0, hi, hz0, hz1, hz2⟩ := info_parts Tryz.info_pR12
  have g1 : ¬ ((T : Int) < 1) := by omega
  have g2 : ¬ ((T : Int) > 64) := by have := hd.t; omega
  have g3 : ¬ ((M : Int) < 1) := by have := hd.m1; omega
  have g4 : ¬ ((M : Int) > 1048576) := by have := hd.m; omega
  have g5 : ¬ ((B : Int) < 1) := by omega
  have g6 : ¬ ((B : Int) > 64) := by have := hd.b; omega
  have hmk : ∀ w', (Instr.makeSlice 31 (.int .i64 (T : Int)) (.int .i64 (T : Int))).run Tryz.prog w' = .ok (.slice (some ⟨w'.heap.size, 0, none⟩) T T) (w'.alloc (.cells (rowF T fun _ => .int .i64 0) 3)) := make_rowH Tryz.underlying31 Tryz.info_iH rfl (by have := hd.t; omega)
  have HD := hide hd
  have HB1 := hide h1
  have HT0 := hide hT
  clear hd hT h1
  go_enter Tryz.func76, Tryz.ntmps76
  go_wp2_with fail
  have HZ := hide (MG.zero w T B M)
  have HF : Hid (Fr [] w ((w.alloc (.cells (rowF T fun _ => .int .i64 0) 3)).alloc (.cells #[.int .i64 (M : Int), .slice none 0 0, .slice none 0 0, .slice (some ⟨w.heap.size, 0, none⟩) T T] 160))) := ((Fr.refl _ _).alloc _).alloc _
  have HTG : Hid (∀ b : Nat, ((fun x => if x = w.heap.size then (17, 0) else if x = w.heap.size + 1 then (11, 0) else (0, 0) : TG) b).1 ≠ 0 → w.heap.size ≤ b) := fun b hb => by
    by_cases e : b = w.heap.size
    · omega
    · by_cases e2 : b = w.heap.size + 1
      · omega
      · simp [e, e2] at hb
  go_loopw [9] (fun i wr => ∃ (k : Nat) (tg : TG) (Λ : ML), i = .int .i64 k ∧ k ≤ T ∧ MG wr tg Λ k T B M G0 ∧ Λ.m = w.heap.size + 1 ∧ Fr [] w wr ∧ ∀ b, (tg b).1 ≠ 0 → w.heap.size ≤ b) (fun i _ => T - (intOf i).toNat)
  case atStart => exact ⟨0, _, _, rfl, Nat.zero_le _, HZ.out, rfl, HF.out, HTG.out⟩
  case round =>
    obtain ⟨k, tg, Λ, rfl, hk, hp, hg, hf, ht⟩ := hrel
    by_cases hlt : k < T
    · have hlt1 : (k : Int) < (T : Int) := by omega
      have HA := hide (r12new_ok B HB1.out HD.out.b wr)
      have HG := hide hg
      have HP := hide hp
      have HFr := hide hf
      have HTr := hide ht
      have HL := hide hlt
      clear hp hg hf ht HZ HF HTG
      go_wp2_with fail
      refine HA.out.mono ?_
      rintro e w1 ⟨s, F, rfl, hq, hf1, hn⟩
      have hp1 := HP.out.fr0 hf1
      have c2 : w1.cell? ⟨w.heap.size + 1, 2, none⟩ = some (.slice Λ.sA k Λ.sc) := by rw [← HG.out]; exact hp1.c2
      have NG : w.heap.size + 1 < w1.heap.size := lt_of_cell c2
      have HQ := hide hq
      have HF1 := hide hf1
      have HNN := hide hn
      have HP1 := hide hp1
      have HFZ : Hid (∀ w', Fr Λ.sG (w1.alloc (.cells #[.pointer (some ⟨s, 0, none⟩)] 161)) w' → w'.cell? ⟨w.heap.size + 1, 2, none⟩ = some (.slice Λ.sA k Λ.sc) ∧ w'.frozen? ⟨w.heap.size + 1, 2, none⟩ = false) := fun w' hg => by
        have hb := ((hp1.st.fr ((Fr.refl [] w1).alloc (.cells #[.pointer (some ⟨s, 0, none⟩)] 161)) (by simp)).fr hg (fun hx => by have := hp1.t3 _ hx; rw [hp1.t1] at this; cases this))
        rw [HG.out] at hb
        exact ⟨by rw [hb.cell]; rfl, hb.frozen 2⟩
      have HLR : Hid (Lr (w1.alloc (.cells #[.pointer (some ⟨s, 0, none⟩)] 161)) 161 Λ.sA k Λ.sc Λ.sG (ptrs Λ.S k)) := hp1.row.alloc _
      have HN : Hid (k + 1 ≤ maxLen ∧ (k + 1) * 8 ≤ 140737488355328) := by have := HD.out.t; exact ⟨by unfold maxLen; omega, by omega⟩
      clear hq hf1 hn hp1
      go_wp2_with (first | (at_builtin; refine wpList_append_lr rfl _ _ 158 rfl 161 i0 (.pointer none) 8 Tryz.underlying158 hi hz0 hz1 hz2 rfl rfl HLR.out rfl rfl (fun _ => one_of w1 _ 161 rfl _ (Fr.refl _ _)) (by intro u hu; simp at hu; rw [hu]; rfl) HN.out.1 HN.out.2 ?_; intro A' c' G' w2 HLn HFn HGn; have d0 := (HFZ.out _ HFn.out).1; have dz := (HFZ.out _ HFn.out).2))
      have HR : Hid (∃ tg' Λ', MG (w2.setCell ⟨w.heap.size + 1, 2, none⟩ (.slice A' (k + 1) c')) tg' Λ' (k + 1) T B M G0 ∧ Λ'.m = w.heap.size + 1 ∧ Fr [] w (w2.setCell ⟨w.heap.size + 1, 2, none⟩ (.slice A' (k + 1) c')) ∧ ∀ b, (tg' b).1 ≠ 0 → w.heap.size ≤ b) := by
        obtain ⟨tg', k1, k2⟩ := HP.out.addStack HF1.out HQ.out HNN.out HLn.out HFn.out (fun g hg => (HGn.out g hg).imp id (fun h => h.1))
        rw [HG.out] at k1 k2
        exact ⟨tg', _, k1, rfl, GFr.inside HFr.out HTr.out k2, GFr.new HFr.out HTr.out k2⟩
      go_roundw
      case rel =>
        obtain ⟨tg', Λ', r1, r2, r3, r4⟩ := HR.out
        exact ⟨k + 1, tg', Λ', by go_num, by have := HL.out; omega, r1, r2, r3, r4⟩
      case measure => simp [intOf]; have := HL.out; omega
    · obtain rfl : k = T := by omega
      have HR : Hid (∃ tg, MAt wr tg (w.heap.size + 1) k B M G0 ∧ Fr [] w wr ∧ ∀ b, (tg b).1 ≠ 0 → w.heap.size ≤ b) := ⟨tg, ⟨Λ, hp, hg⟩, hf, ht⟩
      clear hp hg hf ht HZ HF HTG
      go_wp2_with fail
      go_ret2
      obtain ⟨tg', r1, r2, r3⟩ := HR.out
      exact ⟨w.heap.size + 1, tg', rfl, r1, r2, r3⟩
end Go.Proofs.YtapglokadaibnaaGreatDoor
namespace Go.Proofs.YtapglokadaibnaaGreatDoor
set_option maxRecDepth 100000
set_option linter.unusedVariables false
set_option linter.unusedSimpArgs false
open Go.RowKit Go.Gl

/-- What step leaves, and answers. -/
def MActPost (w : World) (tg : TG) (m T B M : Nat) (σ : GS) (ab : Nat) (th dn : Int) (x : An) (e : Ending) (w' : World) : Prop :=
  e = .returned (.int .i64 x.code) ∧ ∃ tg', MAt w' tg' m T B M σ ∧ Blk w' ab 114 (ansC th dn ⟨0, x.word, x.bit⟩) ∧ (∃ F, Fr F w w' ∧ ∀ x, x ∈ F → x = ab ∨ (tg x).1 ≠ 0) ∧ GTgUp w tg tg'
section
variable {w w' : World} {tg tg' : TG} {F : List Nat} {Λ : ML} {K T B M : Nat} {σ : GS} {t : Nat}
def MSt (w : World) (tg : TG) (Λ : ML) (K T B M : Nat) (σ : GS) (v : Value) (e : Ending) (w' : World) : Prop := e = .returned v ∧ ∃ tg', MG w' tg' Λ K T B M σ ∧ GFr w tg w' tg'
/-- An object's place. -/
def obP (Λ : ML) (r : Int) : Value := if r = 0 then .pointer none else match Λ.ov.ownBlock with
  | some b => .pointer (some ⟨b, (r - 1).toNat * 2, none⟩)
  | none => .pointer none
end
end Go.Proofs.YtapglokadaibnaaGreatDoor
namespace Go.Proofs.YtapglokadaibnaaGreatDoor
set_option maxRecDepth 100000
set_option linter.unusedVariables false
set_option linter.unusedSimpArgs false
open Go.RowKit Go.Gl

theorem num_snoc {L : List Int} {r : Int} (h : r ∉ L) (x : Int) : num (L ++ [r]) x = if x = r then ((L.length + 1 : Nat) : Int) else num L x := by
  by_cases e : x = r
  · subst e
    rw [if_pos rfl, num_last h]
  · rw [if_neg e]
    unfold num
    by_cases hx : x ∈ L
    · rw [if_pos hx, if_pos (by simp [hx]), List.idxOf_append, if_pos hx]
    · rw [if_neg hx, if_neg (by simp [hx, e])]
def numRow (N : Nat) (L : List Int) : Array Value := rowF (N + 1) fun j => .int .u64 (num L (j : Int))
/-- The order under way since W: the list, and each object's number. -/
def TrAt (W w : World) (N nb : Nat) (A : Option Addr) (n c : Nat) (L : List Int) : Prop :=
  Fr [] W w ∧ ∃ G, Lr w 3 A n c G (zv L) ∧ Blk w nb 65 (numRow N L) ∧ (∀ g, g ∈ G → W.heap.size ≤ g) ∧ W.heap.size ≤ nb
section
variable {W w w1 w' : World} {N nb n c : Nat} {A : Option Addr} {L : List Int}
theorem TrAt.fr0 (h : TrAt W w N nb A n c L) (hf : Fr [] w w') : TrAt W w' N nb A n c L := by
  obtain ⟨h0, G, h1, h2, h3, h4⟩ := h
  exact ⟨h0.trans_same hf, G, h1.fr0 hf, h2.fr hf (by simp), h3, h4⟩
theorem take_getD {l : List Int} {k : Nat} (h : k < l.length) : l.take (k + 1) = l.take k ++ [l.getD k 0] := by
  rw [List.take_add_one]
  congr 1
  simp [h]
set_option maxRecDepth 100000 in
set_option maxHeartbeats 1600000 in
theorem mmeet_any (ht : TrAt W w N nb A n c L) (hn : n = L.length) {la : Option Addr} {l : List Int} {lc : Nat} (hl : Sl W la l.length (fun k => .int .u64 (l.getD k 0))) (hr : ∀ r, r ∈ l → 0 ≤ r ∧ r ≤ (N : Int)) (hN : N ≤ 4096) (hll : l.length ≤ 1048576) (h0 : (0 : Int) ∉ L) {O : List Int} (hO : visits L l <+: O) (hOl : O.length ≤ 4096) :
    Calls Tryz.prog 148 #[.slice A n c, .slice (some ⟨nb, 0, none⟩) (N + 1) (N + 1), .slice la l.length lc] w fun e w' => ∃ A' n' c', e = .returned (.slice A' n' c') ∧ n' = (visits L l).length ∧ TrAt W w' N nb A' n' c' (visits L l) := by
  obtain ⟨i0, hi, hz0, hz1, hz2⟩ := info_parts Tryz.info_iH
  have HTR := hide ht
  have HN := hide hn
  have HR : Hid (∀ k, k < l.length → 0 ≤ l.getD k 0 ∧ l.getD k 0 ≤ (N : Int)) := fun k hk => hr _ (by simp [hk])
  have HLS := hide hl
  have H0 := hide h0
  have HPRE : Hid (∀ k, visits L (l.take k) <+: O) := fun k => by
    have e : visits L l = visits (visits L (l.take k)) (l.drop k) := by rw [← visits_app, List.take_append_drop]
    exact (e ▸ visits_pre _ _ : visits L (l.take k) <+: visits L l).trans hO
  have HB : Hid (N ≤ 4096 ∧ O.length ≤ 4096 ∧ l.length ≤ 1048576) := ⟨hN, hOl, hll⟩
  have HZ : Hid (∀ k, (0 : Int) ∉ visits L (l.take k)) := fun k hm => by
    rw [visits_mem] at hm
    rcases hm with hm | ⟨_, hm⟩
    · exact h0 hm
    · exact hm rfl
  clear ht hl hr hN hll h0 hO hOl hn
  go_enter Tryz.func148, Tryz.ntmps148
  go_wp2_with fail
  go_loopw [0, 7] (fun s i wr => ∃ (k : Nat) (A' : Option Addr) (n' c' : Nat), i = .int .i64 k ∧ s = .slice A' n' c' ∧ n' = (visits L (l.take k)).length ∧ k ≤ l.length ∧ TrAt W wr N nb A' n' c' (visits L (l.take k))) (fun _ i _ => l.length - (intOf i).toNat)
  case atStart => exact ⟨0, A, n, c, rfl, rfl, by simpa [visits_nil] using HN.out, Nat.zero_le _, by simpa [visits_nil] using HTR.out⟩
  case round =>
    obtain ⟨k, A1, n1, c1, rfl, rfl, hn1, hk, ht1⟩ := hrel
    by_cases hlt : k < l.length
    · have hlt1 : (k : Int) < (l.length : Int) := by omega
      obtain ⟨g, off, rfl, hgl, hcs⟩ := HLS.out (by omega)
      have hrb := HR.out k hlt
      have hv : visit (visits L (l.take k)) (l.getD k 0) = visits L (l.take (k + 1)) := by rw [take_getD hlt, visits_app, visits_one]
      have hpre1 := HPRE.out (k + 1)
      obtain ⟨q, hq⟩ := Int.eq_ofNat_of_zero_le hrb.1
      have x0 : wr.cell? ⟨g, off + k, none⟩ = some (.int .u64 (q : Int)) := by rw [← hq, ht1.1.cell (p := ⟨g, off + k, none⟩) hgl (by simp)]; exact hcs k hlt
      have hqN : q ≤ N := by omega
      have hkb : k < 1048576 := by have := HB.out.2.2; omega
      rw [hq] at hv
      obtain ⟨hf, G, k1, k2, k3, k4⟩ := ht1
      obtain ⟨L1, hL1⟩ : ∃ L1, L1 = visits L (l.take k) := ⟨_, rfl⟩
      rw [← hL1] at hv k1 k2 hn1
      have hz : (0 : Int) ∉ L1 := by rw [hL1]; exact HZ.out k
      have hN := HB.out.1
      have hq1 : (q : Int) < ((N : Int) + 1) := by omega
      have y0 : wr.cell? ⟨nb, q, none⟩ = some (.int .u64 (num L1 (q : Int))) := by
        rw [k2.cell]
        exact rowF_at (by omega)
      have HL1 := hide hL1
      have HLT := hide hlt
      by_cases e0 : q = 0
      · subst e0
        have HR1 : Hid (n1 = (visits L (l.take (k + 1))).length ∧ TrAt W wr N nb A1 n1 c1 (visits L (l.take (k + 1)))) := by
          rw [← hv, show visit L1 ((0 : Nat) : Int) = L1 by unfold visit; rw [if_pos (.inl rfl)]]
          exact ⟨hn1, hf, G, k1, k2, k3, k4⟩
        clear hf k1 k2 k3 k4 hcs hv hpre1 hq hrb hL1 hn1 hz y0
        go_wp2_with fail
        go_roundw
        case rel => exact ⟨k + 1, A1, n1, c1, by go_num, rfl, HR1.out.1, by have := HLT.out; omega, HR1.out.2⟩
        case measure => simp [intOf]; have := HLT.out; omega
      · have e1 : ((q : Int) == 0) = false := by simp; omega
        have e2 : ((q : Int) != 0) = true := by simp; omega
        by_cases hm : (q : Int) ∈ L1
        · have e3 : num L1 (q : Int) ≠ 0 := num_pos.2 hm
          have e4 : (num L1 (q : Int) == 0) = false := by simpa using e3
          have HR1 : Hid (n1 = (visits L (l.take (k + 1))).length ∧ TrAt W wr N nb A1 n1 c1 (visits L (l.take (k + 1)))) := by
            rw [← hv, show visit L1 (q : Int) = L1 by unfold visit; rw [if_pos (.inr hm)]]
            exact ⟨hn1, hf, G, k1, k2, k3, k4⟩
          generalize num L1 (q : Int) = x at *
          clear hf k1 k2 k3 k4 hcs hv hpre1 hq hrb hL1 hn1 hz e0 hm e3
          go_wp2_with fail
          go_roundw
          case rel => exact ⟨k + 1, A1, n1, c1, by go_num, rfl, HR1.out.1, by have := HLT.out; omega, HR1.out.2⟩
          case measure => simp [intOf]; have := HLT.out; omega
        · have e3 : num L1 (q : Int) = 0 := by unfold num; rw [if_neg hm]
          rw [e3] at y0
          have e5 : visit L1 (q : Int) = L1 ++ [(q : Int)] := by unfold visit; rw [if_neg (fun h => h.elim (fun h => by omega) hm)]
          have hlen : n1 < 4096 := by
            have h1 := hpre1.length_le
            rw [← hv, e5, List.length_append] at h1
            have := HB.out.2.1
            simp at h1
            omega
          have hw1 : IntKind.i64.wrap (q : Int) = (q : Int) := IntWalk.i64_in _ ⟨by omega, by omega⟩
          have hw2 : IntKind.u64.wrap ((n1 : Int) + 1) = (n1 : Int) + 1 := IntWalk.u64_in _ ⟨by omega, by omega⟩
          have HNB : Hid (n1 + 1 ≤ maxLen ∧ (n1 + 1) * 8 ≤ 140737488355328) := ⟨by unfold maxLen; omega, by omega⟩
          have hnG : nb ∉ G := k1.apart k2 (by decide)
          have NB0 : nb < wr.heap.size := k2.lt
          have NG0 : g < wr.heap.size := Nat.lt_of_lt_of_le hgl hf.size
          have HFZ : Hid (∀ w2, Fr G (wr.alloc (.cells #[.int .i64 (q : Int)] 3)) w2 → w2.cell? ⟨g, off + k, none⟩ = some (.int .u64 (q : Int)) ∧ w2.cell? ⟨nb, q, none⟩ = some (.int .u64 0) ∧ w2.frozen? ⟨nb, q, none⟩ = false) := fun w2 hF => by
            have hfa : Fr [] wr (wr.alloc (.cells #[.int .i64 (q : Int)] 3)) := (Fr.refl _ _).alloc _
            have hb := (k2.fr hfa (by simp)).fr hF hnG
            refine ⟨?_, ?_, hb.frozen q⟩
            · rw [hF.cell (p := ⟨g, off + k, none⟩) (Nat.lt_of_lt_of_le NG0 hfa.size) (fun hx => by have h8 : W.heap.size ≤ g := k3 _ hx; omega), hfa.cell (p := ⟨g, off + k, none⟩) NG0 (by simp)]
              exact x0
            · rw [hb.cell, ← e3]
              exact rowF_at (by omega)
          have HLR : Hid (Lr (wr.alloc (.cells #[.int .i64 (q : Int)] 3)) 3 A1 n1 c1 G (zv L1)) := k1.alloc _
          have HEND : Hid (∀ w2 A' c' G', Fr G (wr.alloc (.cells #[.int .i64 (q : Int)] 3)) w2 → Lr w2 3 A' (n1 + 1) c' G' (zv L1 ++ [.int .i64 (q : Int)]) → (∀ g, g ∈ G' → g ∈ G ∨ wr.heap.size ≤ g) →
              n1 + 1 = (visits L (l.take (k + 1))).length ∧ TrAt W (w2.setCell ⟨nb, q, none⟩ (.int .u64 ((n1 : Int) + 1))) N nb A' (n1 + 1) c' (visits L (l.take (k + 1)))) := fun w2 A' c' G' hF hLn hGn => by
            have hfa : Fr [] wr (wr.alloc (.cells #[.int .i64 (q : Int)] 3)) := (Fr.refl _ _).alloc _
            have hb := (k2.fr hfa (by simp)).fr hF hnG
            have hf3 : Fr [nb] w2 (w2.setCell ⟨nb, q, none⟩ (.int .u64 ((n1 : Int) + 1))) := (Fr.refl _ _).setCell (p := ⟨nb, q, none⟩) (.inl (by simp)) _
            rw [← hv, e5]
            refine ⟨by rw [List.length_append, ← hn1]; rfl, ((hf.trans_same hfa).trans hF (fun x hx => .inr (k3 x hx))).trans hf3 (fun x hx => .inr (by simp at hx; rw [hx]; exact k4)), G', ?_, ?_, fun g hg => ?_, k4⟩
            · rw [zv_app]
              refine hLn.fr hf3 (fun g hg hx => ?_)
              simp at hx
              exact (hLn.apart hb (by decide)) (hx ▸ hg)
            · have hp := hb.put q (.int .u64 ((n1 : Int) + 1))
              unfold numRow at hp ⊢
              rw [rowF_set] at hp
              have e : putF (fun j : Nat => Value.int .u64 (num L1 (j : Int))) q (.int .u64 ((n1 : Int) + 1)) = fun j : Nat => Value.int .u64 (num (L1 ++ [(q : Int)]) (j : Int)) := by
                funext j
                rw [num_snoc hm]
                by_cases e : j = q
                · subst e; rw [putF_at, if_pos rfl, ← hn1]; rfl
                · rw [putF_ne _ _ e, if_neg (by omega)]
              rw [e] at hp
              exact hp
            · rcases hGn g hg with h | h
              · exact k3 g h
              · exact Nat.le_trans hf.size h
          clear hf k1 k2 k3 k4 hcs hv hpre1 hq hrb hL1 hn1 hz e0 hm e3 e5 hnG HTR
          go_wp2_with (first | (at_builtin; refine wpList_append_lr rfl _ _ 31 rfl 3 i0 (.int .i64 0) 8 Tryz.underlying31 hi hz0 hz1 hz2 rfl rfl HLR.out rfl rfl (fun _ => one_of wr _ 3 rfl _ (Fr.refl _ _)) (by intro u hu; simp at hu; rw [hu]; rfl) HNB.out.1 HNB.out.2 ?_; intro A' c' G' w2 HLn HFn HGn; have d0 := (HFZ.out _ HFn.out).1; have d1 := (HFZ.out _ HFn.out).2.1; have dz := (HFZ.out _ HFn.out).2.2; have ND := lt_of_cell d1))
          have HR1 := hide (HEND.out w2 A' c' G' HFn.out HLn.out (fun g hg => (HGn.out g hg).imp id (fun h => by rw [h.1]; simp)))
          go_roundw
          case rel => exact ⟨k + 1, A', n1 + 1, c', by go_num, rfl, HR1.out.1, by have := HLT.out; omega, HR1.out.2⟩
          case measure => simp [intOf]; have := HLT.out; omega
    · obtain rfl : k = l.length := by omega
      rw [List.take_of_length_le (Nat.le_refl _)] at hn1 ht1
      have HE : Hid (n1 = (visits L l).length ∧ TrAt W wr N nb A1 n1 c1 (visits L l)) := ⟨hn1, ht1⟩
      clear ht1 hn1 HTR
      go_wp2_with fail
      go_ret
      exact ⟨A1, n1, c1, rfl, HE.out.1, HE.out.2⟩
end
end Go.Proofs.YtapglokadaibnaaGreatDoor
namespace Go.Proofs.YtapglokadaibnaaGreatDoor
set_option maxRecDepth 100000
set_option linter.unusedVariables false
set_option linter.unusedSimpArgs false
open Go.RowKit Go.Gl

def OrdPost (W : World) (N : Nat) (O : List Int) (e : Ending) (w' : World) : Prop :=
  ∃ A n c nb, e = .returned (.tuple #[.slice A n c, .slice (some ⟨nb, 0, none⟩) (N + 1) (N + 1)]) ∧ n = O.length ∧ TrAt W w' N nb A n c O
section
variable {W : World} {tg : TG} {Λ : ML} {T B M : Nat} {σ : GS}
theorem TrAt.new (W : World) (N : Nat) : TrAt W (W.alloc (.cells (rowF (N + 1) fun _ => .int .u64 0) 65)) N W.heap.size none 0 0 [] :=
  ⟨(Fr.refl _ _).alloc _, [], Lr.nil _ _, Blk.new _ _ _, fun g hg => (by cases hg), Nat.le_refl _⟩
/-- The document's graph as far as what only looks goes: rows of data may be anyone's. -/
structure MV (w : World) (Λ : ML) (K T B M : Nat) (σ : GS) : Prop where
  st : Blk w Λ.m 160 #[.int .i64 (M : Int), Λ.ov, .slice Λ.sA K Λ.sc, .slice (some ⟨Λ.db, 0, none⟩) T T]
  obj : R2 w 156 Λ.ov σ.N (fun k => Λ.rv ((k : Int) + 1)) (fun k => Λ.dv ((k : Int) + 1))
  refs : ∀ r, 1 ≤ r → r ≤ (σ.N : Int) → ∃ A c G, Λ.rv r = .slice A (kids σ r).length c ∧ Lr w 66 A (kids σ r).length c G (refV (kids σ r))
  data : ∀ r, 1 ≤ r → r ≤ (σ.N : Int) → ∃ A c, Λ.dv r = .slice A (datas σ r).length c ∧ Sl w A (datas σ r).length (fun k => .int .u64 ((datas σ r).getD k 0))
  row : Lr w 161 Λ.sA K Λ.sc Λ.sG (ptrs Λ.S K)
  stk : ∀ i, i < K → ∃ F, HkR w (Λ.S i) F B (σ.st i)
theorem sl_read {w : World} {A : Option Addr} {xs : List Int} {n : Nat} (hn : xs.length = n) (h : Sl w A n (fun k => .int .u64 (xs.getD k 0))) : 0 < n → ∃ ad, A = some ad ∧ ∀ j u, (refV xs)[j]? = some u → w.cell? (ad.add j) = some u := fun h0 => by
  obtain ⟨b, off, h1, _, h3⟩ := h h0
  refine ⟨_, h1, fun j u hu => ?_⟩
  have hj : j < xs.length := by have := (List.getElem?_eq_some_iff.1 hu).1; simpa [refV] using this
  rw [show (⟨b, off, none⟩ : Addr).add j = ⟨b, off + j, none⟩ from Go.WideShapes.add_plain _ _ _, h3 j (by omega), ← hu]
  simp [refV, hj]
theorem MV.fr0 {w' : World} {K : Nat} (h : MV W Λ K T B M σ) (hf : Fr [] W w') : MV w' Λ K T B M σ :=
  ⟨h.st.fr hf (by simp), h.obj.fr hf (fun _ _ => by simp), fun r h1 h2 => by obtain ⟨A, c, G, e1, e2⟩ := h.refs r h1 h2; exact ⟨A, c, G, e1, e2.fr0 hf⟩, fun r h1 h2 => by obtain ⟨A, c, e1, e2⟩ := h.data r h1 h2; exact ⟨A, c, e1, e2.fr hf (by simp)⟩, h.row.fr0 hf, fun i hi => by obtain ⟨F, k1⟩ := h.stk i hi; exact ⟨F, k1.fr0 hf⟩⟩
theorem MV.c1 {K : Nat} (h : MV W Λ K T B M σ) : W.cell? ⟨Λ.m, 1, none⟩ = some Λ.ov := by rw [h.st.cell]; rfl
theorem MV.c2 {K : Nat} (h : MV W Λ K T B M σ) : W.cell? ⟨Λ.m, 2, none⟩ = some (.slice Λ.sA K Λ.sc) := by rw [h.st.cell]; rfl
theorem MV.ob {K : Nat} (h : MV W Λ K T B M σ) {r : Int} (h1 : 1 ≤ r) (h2 : r ≤ (σ.N : Int)) : ∃ (b c k : Nat), r = (k : Int) + 1 ∧ k < σ.N ∧ Λ.ov = .slice (some ⟨b, 0, none⟩) σ.N c ∧ b < W.heap.size ∧
    W.cell? ⟨b, k * 2, none⟩ = some (Λ.rv r) ∧ W.cell? ⟨b, k * 2 + 1, none⟩ = some (Λ.dv r) := by
  obtain ⟨k, hk⟩ : ∃ k : Nat, r - 1 = (k : Int) := Int.eq_ofNat_of_zero_le (by omega)
  have hr : r = (k : Int) + 1 := by omega
  obtain ⟨b, c, e1, e2, _, e3⟩ := h.obj.pos (by omega)
  obtain ⟨e4, e5⟩ := e3 k (by omega)
  rw [← hr] at e4 e5
  exact ⟨b, c, k, hr, by omega, e1, e2, e4, e5⟩
theorem MV.rsl {K : Nat} (h : MV W Λ K T B M σ) {r : Int} (h1 : 1 ≤ r) (h2 : r ≤ (σ.N : Int)) : ∃ A c, Λ.rv r = .slice A (kids σ r).length c ∧ Sl W A (kids σ r).length (fun k => .int .u64 ((kids σ r).getD k 0)) := by
  obtain ⟨A, c, G, e1, e2⟩ := h.refs r h1 h2
  exact ⟨A, c, e1, refSl e2⟩
theorem MV.stAt (h : MV W Λ T T B M σ) {t : Nat} (ht : t < T) : ∃ g off A c, Λ.sA = some ⟨g, off, none⟩ ∧ g < W.heap.size ∧ W.cell? ⟨g, off + t, none⟩ = some (.pointer (some ⟨Λ.S t, 0, none⟩)) ∧ W.cell? ⟨Λ.S t, 1, none⟩ = some (.slice A (σ.st t).length c) ∧ Sl W A (σ.st t).length (fun k => .int .u64 ((σ.st t).getD k 0)) := by
  obtain ⟨g, off, e1, _, e2, e3, _, _⟩ := h.row.pos (by omega)
  obtain ⟨G, k1⟩ := h.stk t ht
  obtain ⟨A, c, c1, _, hs⟩ := k1.sl
  exact ⟨g, off, A, c, e1, e2, by rw [e3 t ht]; exact ptrs_at _ ht, c1, hs⟩
set_option maxRecDepth 100000 in
set_option maxHeartbeats 1600000 in
theorem morder_any (h : MV W Λ T T B M σ) (ok : GOk T B σ) (hd : GDim T B M) (hN : σ.N < 4096) : Calls Tryz.prog 78 #[.pointer (some ⟨Λ.m, 0, none⟩)] W (OrdPost W σ.N (order σ T)) := by
  obtain ⟨O, hO⟩ : ∃ O, O = order σ T := ⟨_, rfl⟩
  have hOl : O.length ≤ 4096 := by rw [hO]; have := order_len (T := T) ok; omega
  have HPR : Hid (∀ t, t < T → visits (visits [] (rootsOf σ t)) (σ.st t) <+: O) := fun t ht => by
    rw [hO, ← visits_app, ← rootsOf_succ]
    have e : ∀ n, t + 1 ≤ n → visits [] (rootsOf σ (t + 1)) <+: visits [] (rootsOf σ n) := fun n hn => by
      induction n with
      | zero => omega
      | succ n ih =>
        rcases Nat.eq_or_lt_of_le hn with e | e
        · rw [e]; exact List.prefix_refl _
        · rw [rootsOf_succ σ n, visits_app]
          exact (ih (by omega)).trans (visits_pre _ _)
    exact (e T (by omega)).trans (bfs_order ok 0)
  have HMEET : Hid (∀ w' nb A n c L la l lc, TrAt W w' σ.N nb A n c L → n = L.length → Sl W la l.length (fun k => .int .u64 (l.getD k 0)) → (∀ r, r ∈ l → 0 ≤ r ∧ r ≤ (σ.N : Int)) → l.length ≤ 1048576 → (0 : Int) ∉ L → visits L l <+: O →
      Calls Tryz.prog 148 #[.slice A n c, .slice (some ⟨nb, 0, none⟩) (σ.N + 1) (σ.N + 1), .slice la l.length lc] w' fun e w'' => ∃ A' n' c', e = .returned (.slice A' n' c') ∧ n' = (visits L l).length ∧ TrAt W w'' σ.N nb A' n' c' (visits L l)) :=
    fun w' nb A n c L la l lc a1 a2 a3 a4 a5 a6 a7 => mmeet_any a1 a2 a3 a4 (by omega) a5 a6 a7 hOl
  have HST : Hid (∀ t, t < T → ∃ g off A c, Λ.sA = some ⟨g, off, none⟩ ∧ g < W.heap.size ∧ W.cell? ⟨g, off + t, none⟩ = some (.pointer (some ⟨Λ.S t, 0, none⟩)) ∧ W.cell? ⟨Λ.S t, 1, none⟩ = some (.slice A (σ.st t).length c) ∧ Sl W A (σ.st t).length (fun k => .int .u64 ((σ.st t).getD k 0)) ∧ (∀ r, r ∈ σ.st t → 0 ≤ r ∧ r ≤ (σ.N : Int)) ∧ (σ.st t).length ≤ 1048576) := fun t ht => by
    obtain ⟨g, off, A, c, e1, e2, e3, e4, e5⟩ := h.stAt ht
    exact ⟨g, off, A, c, e1, e2, e3, e4, e5, ok.mem t, by have := ok.len t; have := hd.b; omega⟩
  have HRZ : Hid (∀ t, (0 : Int) ∉ visits [] (rootsOf σ t)) := fun t hm => by
    rw [visits_mem] at hm
    rcases hm with hm | ⟨_, hm⟩
    · cases hm
    · exact hm rfl
  have HBZ : Hid (∀ k, (0 : Int) ∉ bfs σ T k) := fun k hm => by have := bfs_in ok k 0 hm; omega
  have HBP : Hid (∀ k, bfs σ T k <+: O) := fun k => hO ▸ bfs_order ok k
  have HBE : Hid (∀ k, (bfs σ T k).length ≤ k → O = bfs σ T k) := fun k hk => hO ▸ bfs_end ok hk
  have HOB : Hid (∀ k r, (bfs σ T k)[k]? = some r → ∃ (b cc q : Nat) (A : Option Addr) (c : Nat), r = (q : Int) + 1 ∧ q < σ.N ∧ Λ.ov = .slice (some ⟨b, 0, none⟩) σ.N cc ∧ b < W.heap.size ∧ W.cell? ⟨b, q * 2, none⟩ = some (.slice A (kids σ r).length c) ∧ Sl W A (kids σ r).length (fun k => .int .u64 ((kids σ r).getD k 0)) ∧ (∀ x, x ∈ kids σ r → 0 ≤ x ∧ x ≤ (σ.N : Int)) ∧ (kids σ r).length ≤ 1048576) := fun k r hr => by
    obtain ⟨h1, h2⟩ := bfs_in ok k r (List.mem_of_getElem? hr)
    obtain ⟨b, cc, q, q1, q2, q3, q5, q6, q7⟩ := h.ob h1 h2
    obtain ⟨A, c, e1, e2⟩ := h.rsl h1 h2
    refine ⟨b, cc, q, A, c, q1, q2, q3, q5, by rw [q6, e1], e2, fun x hx => ?_, by rw [kids_len]; exact ok.np r⟩
    obtain ⟨j, _, rfl⟩ := kids_mem.1 hx
    exact ok.ref r j
  obtain ⟨oA, oc, hov, _⟩ := h.obj.form
  have c1 := h.c1
  have c2 := h.c2
  rw [hov] at c1
  have HC1 := hide c1
  have HC2 := hide c2
  have hT := hd.t
  have NM : Λ.m < W.heap.size := h.st.lt
  have HOV := hide hov
  have HO := hide hO
  have hw0 : IntKind.i64.wrap ((σ.N : Int) + 1) = (σ.N : Int) + 1 := IntWalk.i64_in _ ⟨by omega, by omega⟩
  have hmk : ∀ w', (Instr.makeSlice 36 (.int .i64 ((σ.N : Int) + 1)) (.int .i64 ((σ.N : Int) + 1))).run Tryz.prog w' = .ok (.slice (some ⟨w'.heap.size, 0, none⟩) (σ.N + 1) (σ.N + 1)) (w'.alloc (.cells (rowF (σ.N + 1) fun _ => .int .u64 0) 65)) := fun w' => by
    have := make_rowH (P := Tryz.prog) (t := 36) (e := 65) (z := .int .u64 0) Tryz.underlying36 Tryz.info_u64G rfl (n := σ.N + 1) (by omega) w'
    rwa [show ((σ.N + 1 : Nat) : Int) = (σ.N : Int) + 1 by omega] at this
  have HOL := hide hOl
  have HT0 := hide (TrAt.new W σ.N)
  have hbfs0 : Hid (bfs σ T 0 = visits [] (rootsOf σ T)) := rfl
  clear h ok hd hO hOl hov
  rw [← HO.out]
  go_enter Tryz.func78, Tryz.ntmps78
  go_wp2_with fail
  clear hmk hw0
  generalize W.alloc (.cells (rowF (σ.N + 1) fun _ => .int .u64 0) 65) = w0 at *
  obtain ⟨nb, hnb⟩ : ∃ nb, nb = W.heap.size := ⟨_, rfl⟩
  rw [← hnb] at HT0 ⊢
  have HNB := hide hnb
  clear hnb c1 c2
  go_loopw [4, 6] (fun s i wr => ∃ (t : Nat) (A' : Option Addr) (n' c' : Nat), i = .int .i64 t ∧ s = .slice A' n' c' ∧ n' = (visits [] (rootsOf σ t)).length ∧ t ≤ T ∧ TrAt W wr σ.N nb A' n' c' (visits [] (rootsOf σ t))) (fun _ i _ => T - (intOf i).toNat)
  case atStart => exact ⟨0, none, 0, 0, rfl, rfl, rfl, Nat.zero_le _, HT0.out⟩
  case round =>
    obtain ⟨t, A1, n1, c1', rfl, rfl, hn1, htT, ht1⟩ := hrel
    have x2 : wr.cell? ⟨Λ.m, 2, none⟩ = some (.slice Λ.sA T Λ.sc) := by rw [ht1.1.cell (p := ⟨Λ.m, 2, none⟩) NM (by simp)]; exact HC2.out
    by_cases hlt : t < T
    · have hlt1 : (t : Int) < (T : Int) := by omega
      obtain ⟨g, off, A2, c2, s1, s2, s3, s4, s5, s6, s7⟩ := HST.out t hlt
      rw [s1] at x2
      have y1 : wr.cell? ⟨g, off + t, none⟩ = some (.pointer (some ⟨Λ.S t, 0, none⟩)) := by rw [ht1.1.cell (p := ⟨g, off + t, none⟩) s2 (by simp)]; exact s3
      have y2 : wr.cell? ⟨Λ.S t, 1, none⟩ = some (.slice A2 (σ.st t).length c2) := by rw [ht1.1.cell (p := ⟨Λ.S t, 1, none⟩) (lt_of_cell s4) (by simp)]; exact s4
      have HM := hide (HMEET.out wr nb A1 n1 c1' _ A2 (σ.st t) c2 ht1 hn1 s5 s6 s7 (HRZ.out t) (HPR.out t hlt))
      rw [← visits_app, ← rootsOf_succ] at HM
      have HLT := hide hlt
      clear ht1 hn1 s1 s2 s3 s4 s5 s6 s7 HT0
      generalize (σ.st t).length = ll at *
      go_wp2_with fail
      refine HM.out.mono ?_
      rintro e w3 ⟨A3, n3, c3, rfl, hn3, ht3⟩
      have HR : Hid (n3 = (visits [] (rootsOf σ (t + 1))).length ∧ TrAt W w3 σ.N nb A3 n3 c3 (visits [] (rootsOf σ (t + 1)))) := ⟨hn3, ht3⟩
      clear hn3 ht3 HM x2 y1 y2
      go_wp2_with fail
      go_roundw
      case rel => exact ⟨t + 1, A3, n3, c3, by go_num, rfl, HR.out.1, by have := HLT.out; omega, HR.out.2⟩
      case measure => simp [intOf]; have := HLT.out; omega
    · obtain rfl : t = T := by omega
      have HR : Hid (n1 = (bfs σ t 0).length ∧ TrAt W wr σ.N nb A1 n1 c1' (bfs σ t 0)) := ⟨hn1, ht1⟩
      clear ht1 hn1 HT0
      go_wp2_with fail
      go_loopw [4, 7] (fun s i wr => ∃ (k : Nat) (A' : Option Addr) (n' c' : Nat), i = .int .i64 k ∧ s = .slice A' n' c' ∧ n' = (bfs σ t k).length ∧ k ≤ 4096 ∧ TrAt W wr σ.N nb A' n' c' (bfs σ t k)) (fun _ i _ => 4096 - (intOf i).toNat)
      case atStart => exact ⟨0, A1, n1, c1', rfl, rfl, HR.out.1, by omega, HR.out.2⟩
      case round =>
        obtain ⟨k, A2, n2, c2, rfl, rfl, hn2, hk, ht2⟩ := hrel
        by_cases hlt2 : k < n2
        · have hlt3 : (k : Int) < (n2 : Int) := by omega
          obtain ⟨r, hr⟩ : ∃ r, (bfs σ t k)[k]? = some r := ⟨_, List.getElem?_eq_getElem (by omega)⟩
          obtain ⟨b, cc, q, A4, c4, s1, s2, s3, s4, s5, s6, s7, s8⟩ := HOB.out k r hr
          have hst := bfs_step σ t hr
          have HM := hide (HMEET.out wr.drew nb A2 n2 c2 _ A4 (kids σ r) c4 (ht2.fr0 ((Fr.refl _ _).drew)) hn2 s6 s7 s8 (HBZ.out k) (by rw [← hst]; exact HBP.out (k + 1)))
          rw [← hst] at HM
          have hk5 : k < 4096 := by
            have := (HBP.out k).length_le
            have := HOL.out
            omega
          have z1 : wr.cell? ⟨Λ.m, 1, none⟩ = some (.slice (some ⟨b, 0, none⟩) σ.N cc) := by rw [ht2.1.cell (p := ⟨Λ.m, 1, none⟩) NM (by simp), HC1.out, ← HOV.out, s3]
          have z2 : wr.cell? ⟨b, q * 2, none⟩ = some (.slice A4 (kids σ r).length c4) := by rw [ht2.1.cell (p := ⟨b, q * 2, none⟩) s4 (by simp)]; exact s5
          obtain ⟨hf, G, k1, k2, k3, k4⟩ := ht2
          obtain ⟨gl, ol, rfl, _, _, hcell, _, _⟩ := k1.pos (by omega)
          have z3 : wr.cell? ⟨gl, ol + k, none⟩ = some (.int .i64 ((q : Int) + 1)) := by
            rw [hcell k hlt2, zv_get _ (by omega), ← s1]
            simp [hr]
          have hw1 : IntKind.i64.wrap ((q : Int) + 1 - 1) = (q : Int) := by
            rw [show (q : Int) + 1 - 1 = (q : Int) by omega]
            exact IntWalk.i64_in _ ⟨by omega, by omega⟩
          have hq1 : (q : Int) < (σ.N : Int) := by omega
          have hqb : q < 4096 := by omega
          have hw2 : IntKind.i64.wrap (q : Int) = (q : Int) := IntWalk.i64_in _ ⟨by omega, by omega⟩
          have HK5 := hide hk5
          clear hf k1 k2 k3 k4 hn2 hcell s1 s2 s3 s4 s5 s6 s7 s8 hst hr HR x2
          generalize (kids σ r).length = ll at *
          go_wp2_with fail
          refine region_tail 14 (by kernel_rfl) (by kernel_rfl) ?_
          simp only [List.take_succ_cons, List.take_zero, List.drop_succ_cons, List.drop_zero]
          repeat still_step
          refine wpStill_nil ?_
          go_wp2_with fail
          refine HM.out.mono ?_
          rintro e w3 ⟨A3, n3, c3, rfl, hn3, ht3⟩
          have HR : Hid (n3 = (bfs σ t (k + 1)).length ∧ TrAt W w3 σ.N nb A3 n3 c3 (bfs σ t (k + 1))) := ⟨hn3, ht3⟩
          clear hn3 ht3 HM z1 z2 z3
          go_wp2_with fail
          go_roundw
          case rel => exact ⟨k + 1, A3, n3, c3, by go_num, rfl, HR.out.1, by have := HK5.out; omega, HR.out.2⟩
          case measure => simp [intOf]; have := HK5.out; omega
        · have hOe := HBE.out k (by omega)
          have HE : Hid (n2 = O.length ∧ TrAt W wr σ.N nb A2 n2 c2 O) := by rw [hOe]; exact ⟨hn2, ht2⟩
          clear ht2 hn2 hOe HR x2
          have hlt3 : ¬ (k : Int) < (n2 : Int) := by omega
          go_wp2_with fail
          go_ret2
          exact ⟨A2, n2, c2, nb, rfl, HE.out.1, HE.out.2⟩
end
end Go.Proofs.YtapglokadaibnaaGreatDoor
namespace Go.Proofs.YtapglokadaibnaaGreatDoor
set_option maxRecDepth 100000
set_option linter.unusedVariables false
set_option linter.unusedSimpArgs false
open Go.RowKit Go.Gl
def ReadAt (w1 : World) (Λ : ML) (σ : GS) (A : Option Addr) (k : Nat) (r : Int) : Prop :=
    ∃ (b cc q gl ol : Nat) (rA : Option Addr) (rc : Nat) (dA : Option Addr) (dc : Nat) (dG : List Nat), A = some ⟨gl, ol, none⟩ ∧ r = (q : Int) + 1 ∧ q < σ.N ∧ (∀ w, Fr [] w1 w →
      w.cell? ⟨Λ.m, 1, none⟩ = some (.slice (some ⟨b, 0, none⟩) σ.N cc) ∧ w.cell? ⟨gl, ol + k, none⟩ = some (.int .i64 ((q : Int) + 1)) ∧ w.cell? ⟨b, q * 2, none⟩ = some (.slice rA (σ.np r) rc) ∧ w.cell? ⟨b, q * 2 + 1, none⟩ = some (.slice dA (σ.nw r) dc) ∧
      Sl w rA (σ.np r) (fun j => .int .u64 ((kids σ r).getD j 0)) ∧ Sl w dA (σ.nw r) (fun j => .int .u64 ((datas σ r).getD j 0)))
section
variable {W w1 : World} {tg : TG} {Λ : ML} {T B M : Nat} {σ : GS} {nb n c : Nat} {A : Option Addr} {O : List Int}
/-- An object of the order: what is read of it wherever nothing old has turned. -/
theorem MV.read (h : MV W Λ T T B M σ) (ok : GOk T B σ) (ht : TrAt W w1 σ.N nb A n c (order σ T)) (hn : n = (order σ T).length) {k : Nat} {r : Int} (hr : (order σ T)[k]? = some r) : ReadAt w1 Λ σ A k r := by
  obtain ⟨h1, h2⟩ := order_in ok (List.mem_of_getElem? hr)
  obtain ⟨b, cc, q, q1, q2, q3, q5, q6, q7⟩ := h.ob h1 h2
  obtain ⟨rA, rc, e1, e2⟩ := h.rsl h1 h2
  obtain ⟨dA, dc, e3, e4⟩ := h.data r h1 h2
  have hdl : (datas σ r).length = σ.nw r := by simp [datas]
  rw [kids_len] at e1 e2
  rw [hdl] at e3 e4
  obtain ⟨hf, G, k1, k2, k3, k4⟩ := ht
  obtain ⟨hk, _⟩ := List.getElem?_eq_some_iff.1 hr
  obtain ⟨gl, ol, rfl, _, hgl, hcell, _, _⟩ := k1.pos (by omega)
  refine ⟨b, cc, q, gl, ol, rA, rc, dA, dc, [], rfl, q1, q2, fun w hw => ?_⟩
  have hfw := hf.trans_same hw
  have c1 := h.c1
  refine ⟨?_, ?_, ?_, ?_, e2.fr hfw (by simp), e4.fr hfw (by simp)⟩
  · rw [hfw.cell (p := ⟨Λ.m, 1, none⟩) h.st.lt (by simp), c1, q3]
  · rw [hw.cell (p := ⟨gl, ol + k, none⟩) hgl (by simp), hcell k (by omega), zv_get _ hk, ← q1]
    simp [hr]
  · rw [hfw.cell (p := ⟨b, q * 2, none⟩) q5 (by simp), q6, e1]
  · rw [hfw.cell (p := ⟨b, q * 2 + 1, none⟩) q5 (by simp), q7, e3]
theorem TrAt.num (ht : TrAt W w1 σ.N nb A n c O) {q : Nat} (hq : q ≤ σ.N) {w : World} (hw : Fr [] w1 w) : w.cell? ⟨nb, q, none⟩ = some (.int .u64 (num O (q : Int))) := by
  obtain ⟨hf, G, k1, k2, k3, k4⟩ := ht
  rw [(k2.fr hw (by simp)).cell]
  exact rowF_at (by omega)
end
end Go.Proofs.YtapglokadaibnaaGreatDoor
namespace Go.Proofs.YtapglokadaibnaaGreatDoor
set_option maxRecDepth 100000
set_option linter.unusedVariables false
set_option linter.unusedSimpArgs false
open Go.RowKit Go.Gl

/-- The numbers told since w1. -/
def OutAt (w1 w : World) (A : Option Addr) (n c : Nat) (out : List Int) : Prop := Fr [] w1 w ∧ ∃ G, Lr w 65 A n c G (refV out) ∧ ∀ g, g ∈ G → w1.heap.size ≤ g
theorem OutAt.app {w1 w wa w' : World} {Go G' : List Nat} {A' : Option Addr} {n' c' : Nat} {out' : List Int} (hf : Fr [] w1 w) (k4 : ∀ g, g ∈ Go → w1.heap.size ≤ g) (hfa : Fr [] w wa) (hF : Fr Go wa w') (hL : Lr w' 65 A' n' c' G' (refV out')) (hG : ∀ g, g ∈ G' → g ∈ Go ∨ w.heap.size ≤ g) : OutAt w1 w' A' n' c' out' :=
  ⟨(hf.trans_same hfa).trans hF (fun x hx => .inr (k4 x hx)), G', hL, fun g hg => (hG g hg).elim (k4 g) (fun h => Nat.le_trans hf.size h)⟩
theorem OutAt.fr0 {w1 w w' : World} {A : Option Addr} {n c : Nat} {out : List Int} (h : OutAt w1 w A n c out) (hf : Fr [] w w') : OutAt w1 w' A n c out := by
  obtain ⟨h1, G, h2, h3⟩ := h
  exact ⟨h1.trans_same hf, G, h2.fr0 hf, h3⟩
section
variable {W w1 : World} {tg : TG} {Λ : ML} {T B M : Nat} {σ : GS}
set_option maxRecDepth 100000 in
set_option maxHeartbeats 3200000 in
theorem mshapeV (h : MV W Λ T T B M σ) (ok : GOk T B σ) (hd : GDim T B M) (hN : σ.N < 4096) : Calls Tryz.prog 17 #[.pointer (some ⟨Λ.m, 0, none⟩)] W (ShapePost W (shape σ T)) := by
  obtain ⟨i0, hi, hz0, hz1, hz2⟩ := info_parts Tryz.info_u64G
  have HO := hide (morder_any h ok hd hN)
  have hOl : (order σ T).length ≤ 4096 := by have := order_len (T := T) ok; omega
  have HOL := hide hOl
  have HH := hide h
  have HK := hide ok
  have NM : Λ.m < W.heap.size := h.st.lt
  have hT := hd.t
  have HB64 : Hid (B ≤ 64) := hd.b
  have HLEN : Hid (∀ t, (σ.st t).length ≤ 64) := fun t => Nat.le_trans (ok.len t) hd.b
  have HMEM : Hid (∀ t k, k < (σ.st t).length → ∃ q : Nat, (σ.st t).getD k 0 = (q : Int) ∧ q ≤ σ.N) := fun t k hk => by
    have := ok.mem t ((σ.st t).getD k 0) (by simp [hk])
    obtain ⟨q, hq⟩ := Int.eq_ofNat_of_zero_le this.1
    exact ⟨q, hq, by omega⟩
  have HKM : Hid (∀ r j, j < σ.np r → ∃ q : Nat, (kids σ r).getD j 0 = (q : Int) ∧ q ≤ σ.N) := fun r j hj => by
    rw [kids_get σ r hj]
    obtain ⟨q, hq⟩ := Int.eq_ofNat_of_zero_le (ok.ref r j).1
    exact ⟨q, hq, by have := (ok.ref r j).2; omega⟩
  have HSH : Hid (shape σ T = (List.range T).flatMap (shapeT σ (order σ T)) ++ (order σ T).flatMap (shapeO σ (order σ T))) := rfl
  clear h ok hd hOl
  go_enter Tryz.func17, Tryz.ntmps17
  go_wp2_with fail
  refine HO.out.mono ?_
  rintro e w1 ⟨A, n, c, nb, rfl, hn, ht⟩
  have HR : Hid (∀ k r, (order σ T)[k]? = some r → ReadAt w1 Λ σ A k r) := fun k r hr => HH.out.read HK.out ht hn hr
  have HNUM : Hid (∀ (q : Nat) (w : World), q ≤ σ.N → Fr [] w1 w → w.cell? ⟨nb, q, none⟩ = some (.int .u64 (num (order σ T) (q : Int)))) := fun q w hq hw => ht.num hq hw
  have HF1 := hide ht.1
  have HN := hide hn
  have HNB : Hid (∀ q : Nat, 0 ≤ num (order σ T) (q : Int) ∧ num (order σ T) (q : Int) ≤ 4096) := fun q => by have := num_bounds (order σ T) (q : Int); have := HOL.out; omega
  have HROW : Hid (∀ w t, Fr [] w1 w → t < T → ∃ g off A2 c2, Λ.sA = some ⟨g, off, none⟩ ∧ w.cell? ⟨g, off + t, none⟩ = some (.pointer (some ⟨Λ.S t, 0, none⟩)) ∧ w.cell? ⟨Λ.S t, 1, none⟩ = some (.slice A2 (σ.st t).length c2) ∧ Sl w A2 (σ.st t).length (fun k => .int .u64 ((σ.st t).getD k 0))) := fun w t hw htT => by
    obtain ⟨g, off, A2, c2, s1, s2, s3, s4, s5⟩ := HH.out.stAt htT
    have hfw := HF1.out.trans_same hw
    exact ⟨g, off, A2, c2, s1, by rw [hfw.cell (p := ⟨g, off + t, none⟩) s2 (by simp)]; exact s3, by rw [hfw.cell (p := ⟨Λ.S t, 1, none⟩) (lt_of_cell s4) (by simp)]; exact s4, s5.fr hfw (by simp)⟩
  have HC2 : Hid (∀ w, Fr [] w1 w → w.cell? ⟨Λ.m, 2, none⟩ = some (.slice Λ.sA T Λ.sc) ∧ Λ.m < w.heap.size) := fun w hw => ⟨(HH.out.fr0 (HF1.out.trans_same hw)).c2, (HH.out.fr0 (HF1.out.trans_same hw)).st.lt⟩
  clear hn ht HO NM
  generalize hO : order σ T = O at *
  clear hO
  go_wp2_with fail
  go_loopw [5, 6] (fun s i wr => ∃ (t : Nat) (A' : Option Addr) (n' c' : Nat), i = .int .i64 t ∧ s = .slice A' n' c' ∧ n' ≤ t * 65 ∧ t ≤ T ∧ OutAt w1 wr A' n' c' ((List.range t).flatMap (shapeT σ O))) (fun _ i _ => T - (intOf i).toNat)
  case atStart => exact ⟨0, none, 0, 0, rfl, rfl, Nat.zero_le _, Nat.zero_le _, Fr.refl _ _, [], Lr.nil _ _, fun g hg => by cases hg⟩
  case round =>
    obtain ⟨t, A1, n1, c1, rfl, rfl, hn1, htT, hs1⟩ := hrel
    obtain ⟨x2, NM⟩ := HC2.out wr hs1.1
    by_cases hlt : t < T
    · have hlt1 : (t : Int) < (T : Int) := by omega
      obtain ⟨g, off, A2, c2, s1, y1, y2, s5⟩ := HROW.out wr t hs1.1 hlt
      rw [s1] at x2
      have HLT := hide hlt
      have HLN := HLEN.out t
      obtain ⟨ln, hln⟩ : ∃ ln, ln = (σ.st t).length := ⟨_, rfl⟩
      have HLL := hide hln
      rw [← hln] at y2 HLN
      have hwl : IntKind.u64.wrap (ln : Int) = (ln : Int) := IntWalk.u64_in _ ⟨by omega, by omega⟩
      obtain ⟨hf, Go, k2, k4⟩ := hs1
      have HF := hide hf
      have K4 := hide k4
      have HB : Hid (n1 + 1 ≤ maxLen ∧ (n1 + 1) * 8 ≤ 140737488355328) := ⟨by unfold maxLen; omega, by omega⟩
      have HLR2 : Hid (Lr (wr.alloc (.cells #[.int .u64 (ln : Int)] 65)) 65 A1 n1 c1 Go (refV ((List.range t).flatMap (shapeT σ O)))) := k2.alloc _
      have NG := lt_of_cell y1
      have NS := lt_of_cell y2
      clear hf k2 k4 hln s1 s5
      go_wp2_with (first | (at_builtin; refine wpList_append_lr rfl _ _ 36 rfl 65 i0 (.int .u64 0) 8 Tryz.underlying36 hi hz0 hz1 hz2 rfl rfl HLR2.out rfl (by rfl) (fun _ => one_of wr (.int .u64 (ln : Int)) 65 rfl _ (Fr.refl _ _)) (by intro u hu; simp at hu; subst hu; rfl) HB.out.1 HB.out.2 ?_; intro A' c' G' w4 HLn HFn HGn))
      have HS : Hid (OutAt w1 w4 A' (n1 + 1) c' ((List.range t).flatMap (shapeT σ O) ++ [(ln : Int)])) := OutAt.app HF.out K4.out ((Fr.refl [] wr).alloc _) HFn.out (by rw [refV_snoc]; exact HLn.out) (fun g hg => (HGn.out g hg).imp id (fun h => by rw [h.1]; simp))
      clear HF K4 HB HLR2 HLn HFn HGn hwl x2 y1 y2 NG NS NM
      have hn2 : n1 + 1 ≤ t * 65 + 1 := by omega
      clear hn1
      generalize n1 + 1 = n2 at *
      go_loopw [5, 7] (fun s i wr => ∃ (k : Nat) (A' : Option Addr) (n' c' : Nat), i = .int .i64 k ∧ s = .slice A' n' c' ∧ n' ≤ t * 65 + 1 + k ∧ k ≤ ln ∧ OutAt w1 wr A' n' c' ((List.range t).flatMap (shapeT σ O) ++ [(ln : Int)] ++ ((σ.st t).take k).map (num O))) (fun _ i _ => ln - (intOf i).toNat)
      case atStart => exact ⟨0, A', n2, c', rfl, rfl, by omega, Nat.zero_le _, by simpa using HS.out⟩
      case round =>
        obtain ⟨k, A5, n5, c5, rfl, rfl, hn5, hk, hs5⟩ := hrel
        obtain ⟨x2, NM⟩ := HC2.out wr hs5.1
        obtain ⟨g, off, A2, c2, s1, y1, y2, s5⟩ := HROW.out wr t hs5.1 HLT.out
        rw [s1] at x2
        rw [← HLL.out] at y2 s5
        by_cases hkl : k < ln
        · have hkl1 : (k : Int) < (ln : Int) := by omega
          have hks : k < (σ.st t).length := by have := HLL.out; omega
          obtain ⟨q, hq, hqN⟩ := HMEM.out t k hks
          obtain ⟨gs, os, rfl, _, hcs⟩ := s5 (by omega)
          have y3 : wr.cell? ⟨gs, os + k, none⟩ = some (.int .u64 (q : Int)) := by rw [← hq]; exact hcs k hkl
          have y4 := HNUM.out q wr hqN hs5.1
          have hq1 : (q : Int) < ((σ.N : Int) + 1) := by omega
          obtain ⟨hf, Go, k2, k4⟩ := hs5
          have HF := hide hf
          have K4 := hide k4
          have HB : Hid (n5 + 1 ≤ maxLen ∧ (n5 + 1) * 8 ≤ 140737488355328) := ⟨by unfold maxLen; omega, by omega⟩
          have HQ := hide hq
          have HKS := hide hks
          have HLT2 := hide hkl
          obtain ⟨y, hy⟩ : ∃ y, y = num O (q : Int) := ⟨_, rfl⟩
          rw [← hy] at y4
          have HY := hide hy
          have HLR2 : Hid (Lr (wr.alloc (.cells #[.int .u64 y] 65)) 65 A5 n5 c5 Go (refV ((List.range t).flatMap (shapeT σ O) ++ [(ln : Int)] ++ ((σ.st t).take k).map (num O)))) := k2.alloc _
          clear hf k2 k4 hcs hq hks hy s1 s5 HS
          go_wp2_with (first | (at_builtin; refine wpList_append_lr rfl _ _ 36 rfl 65 i0 (.int .u64 0) 8 Tryz.underlying36 hi hz0 hz1 hz2 rfl rfl HLR2.out rfl (by rfl) (fun _ => one_of wr (.int .u64 y) 65 rfl _ (Fr.refl _ _)) (by intro u hu; simp at hu; subst hu; rfl) HB.out.1 HB.out.2 ?_; intro A' c' G' w4 HLn HFn HGn))
          have HS' : Hid (OutAt w1 w4 A' (n5 + 1) c' ((List.range t).flatMap (shapeT σ O) ++ [(ln : Int)] ++ ((σ.st t).take (k + 1)).map (num O))) := OutAt.app HF.out K4.out ((Fr.refl [] wr).alloc _) HFn.out (by rw [take_succ_getD HKS.out, List.map_append, ← List.append_assoc, show [(σ.st t).getD k 0].map (num O) = [y] by rw [HY.out, HQ.out]; rfl, refV_snoc]; exact HLn.out) (fun g hg => (HGn.out g hg).imp id (fun h => by rw [h.1]; simp))
          go_roundw
          case rel => exact ⟨k + 1, A', n5 + 1, c', by go_num, rfl, by omega, by have := HLT2.out; omega, HS'.out⟩
          case measure => simp [intOf]; have := HLT2.out; omega
        · obtain rfl : k = ln := by omega
          have htk : (σ.st t).take k = σ.st t := by rw [List.take_of_length_le]; have := HLL.out; omega
          rw [htk] at hs5
          have HS5 : Hid (OutAt w1 wr A5 n5 c5 ((List.range (t + 1)).flatMap (shapeT σ O))) := by
            rw [List.range_succ, List.flatMap_append]
            have e : [t].flatMap (shapeT σ O) = [(k : Int)] ++ (σ.st t).map (num O) := by simp [shapeT, HLL.out]
            rw [e, ← List.append_assoc]
            exact hs5
          have hn6 : n5 ≤ (t + 1) * 65 := by omega
          clear hs5 htk HS s1 s5
          go_wp2_with fail
          go_roundw
          case rel => exact ⟨t + 1, A5, n5, c5, by go_num, rfl, hn6, by have := HLT.out; omega, HS5.out⟩
          case measure => simp [intOf]; have := HLT.out; omega
    · obtain rfl : t = T := by omega
      have HS1 := hide hs1
      have hn2 : n1 ≤ 4160 := by omega
      have HN2 := hide hn2
      clear hs1 hn1
      go_wp2_with fail
      clear x2 NM
      go_loopw [5, 8] (fun s i wr => ∃ (k : Nat) (A' : Option Addr) (n' c' : Nat), i = .int .i64 k ∧ s = .slice A' n' c' ∧ n' ≤ 4160 + k * 2097154 ∧ k ≤ n ∧ OutAt w1 wr A' n' c' ((List.range t).flatMap (shapeT σ O) ++ (O.take k).flatMap (shapeO σ O))) (fun _ i _ => n - (intOf i).toNat)
      case atStart => exact ⟨0, A1, n1, c1, rfl, rfl, by omega, Nat.zero_le _, by simpa using HS1.out⟩
      case round =>
        obtain ⟨k, A2, n2, c2, rfl, rfl, hn3, hk, hs2⟩ := hrel
        by_cases hlt2 : k < n
        · have hlt3 : (k : Int) < (n : Int) := by omega
          obtain ⟨r, hr⟩ : ∃ r, O[k]? = some r := ⟨_, List.getElem?_eq_getElem (by have := HN.out; omega)⟩
          obtain ⟨b, cc, q, gl, ol, rA, rc, dA, dc, dG, rfl, q1, q2, q3⟩ := HR.out k r hr
          have hnp := HK.out.np r
          have hnw := HK.out.nw r
          have hkb : k < 4096 := by have := HN.out; have := HOL.out; omega
          have HOK := hide hr
          obtain ⟨rn, hrn⟩ : ∃ rn, rn = σ.np r := ⟨_, rfl⟩
          obtain ⟨dn, hdn⟩ : ∃ dn, dn = σ.nw r := ⟨_, rfl⟩
          have HRN := hide hrn
          have HDN := hide hdn
          have HSC : Hid (∀ w' : World, Fr [] wr w' → (fun w' : World => w'.cell? ⟨Λ.m, 1, none⟩ = some (.slice (some ⟨b, 0, none⟩) σ.N cc) ∧ w'.cell? ⟨gl, ol + k, none⟩ = some (.int .i64 ((q : Int) + 1)) ∧ w'.cell? ⟨b, q * 2, none⟩ = some (.slice rA rn rc) ∧ w'.cell? ⟨b, q * 2 + 1, none⟩ = some (.slice dA dn dc)) w') := fun w' hw => by
            obtain ⟨a1, a2, a3, a4, _, _⟩ := q3 w' (hs2.1.trans_same hw)
            rw [hrn, hdn]
            exact ⟨a1, a2, a3, a4⟩
          have HKD : Hid (∀ w', Fr [] w1 w' → Sl w' rA rn (fun j => .int .u64 ((kids σ r).getD j 0)) ∧ Sl w' dA dn (fun j => .int .u64 ((datas σ r).getD j 0))) := fun w' hw => by
            obtain ⟨_, _, _, _, a5, a6⟩ := q3 w' hw
            rw [hrn, hdn]
            exact ⟨a5, a6⟩
          rw [← hrn] at hnp
          rw [← hdn] at hnw
          have hw1 : IntKind.i64.wrap ((q : Int) + 1 - 1) = (q : Int) := by
            rw [show (q : Int) + 1 - 1 = (q : Int) by omega]
            exact IntWalk.i64_in _ ⟨by omega, by omega⟩
          have hw2 : IntKind.i64.wrap (q : Int) = (q : Int) := IntWalk.i64_in _ ⟨by omega, by omega⟩
          have hw3 : IntKind.u64.wrap (rn : Int) = (rn : Int) := IntWalk.u64_in _ ⟨by omega, by omega⟩
          have hw4 : IntKind.u64.wrap (dn : Int) = (dn : Int) := IntWalk.u64_in _ ⟨by omega, by omega⟩
          have hqb : q < 4096 := by omega
          have hq1 : (q : Int) < (σ.N : Int) := by omega
          have HS2 := hide hs2
          have HLT := hide hlt2
          have HFD : Hid (Fr [] wr wr.drew) := (Fr.refl _ _).drew
          clear q3 hr hrn hdn q1 HS1 hs2 HR
          go_upto_region 14 with fail
          go_cut [9] from 74 to 123 (fun p wc => ∃ xb, p = .pointer (some ⟨xb, 0, none⟩) ∧ Blk wc xb 156 #[.slice rA rn rc, .slice dA dn dc] ∧ Fr [] wr wc)
          case first =>
            refine wp_region_held_drew (S := fun w' => w'.cell? ⟨Λ.m, 1, none⟩ = some (.slice (some ⟨b, 0, none⟩) σ.N cc) ∧ w'.cell? ⟨gl, ol + k, none⟩ = some (.int .i64 ((q : Int) + 1)) ∧ w'.cell? ⟨b, q * 2, none⟩ = some (.slice rA rn rc) ∧ w'.cell? ⟨b, q * 2 + 1, none⟩ = some (.slice dA dn dc)) (by kernel_rfl) (HSC.out _ HFD.out) (fun hHeld => ?_)
            refine wpAnyH_take (i := 0) (v := ?v0x12) rfl (by kernel_rfl) (by kernel_rfl) (by kernel_rfl) (fun _ _ _ h => h) (Or.inl ⟨by rfl, ?hy0x12⟩) (by assumption) ?rest0x12
            case hy0x12 => (intro w' hSw; (try dsimp only at hSw); (try simp only [List.getElem_toArray, List.getElem_cons_succ, List.getElem_cons_zero]); (first | (go_simp; done) | (go_simp; with_reducible rfl)))
            (try simp only [Act.put, List.getElem_toArray, List.getElem_cons_succ, List.getElem_cons_zero, List.setIfInBounds_toArray, List.set_cons_zero, List.set_cons_succ])
            refine wpAnyH_take (i := 1) (v := ?v1x13) rfl (by kernel_rfl) (by kernel_rfl) (by kernel_rfl) (fun _ _ _ h => h) (Or.inl ⟨by rfl, ?hy1x13⟩) (by assumption) ?rest1x13
            case hy1x13 => (intro w' hSw; (try dsimp only at hSw); (try simp only [List.getElem_toArray, List.getElem_cons_succ, List.getElem_cons_zero]); (first | (go_simp; done) | (go_simp; with_reducible rfl)))
            (try simp only [Act.put, List.getElem_toArray, List.getElem_cons_succ, List.getElem_cons_zero, List.setIfInBounds_toArray, List.set_cons_zero, List.set_cons_succ])
            refine wpAnyH_take (i := 2) (v := ?v2x14) rfl (by kernel_rfl) (by kernel_rfl) (by kernel_rfl) (fun _ _ _ h => h) (Or.inl ⟨by rfl, ?hy2x14⟩) (by assumption) ?rest2x14
            case hy2x14 => (intro w' hSw; (try dsimp only at hSw); (try simp only [List.getElem_toArray, List.getElem_cons_succ, List.getElem_cons_zero]); (first | (go_simp; done) | (go_simp; with_reducible rfl)))
            (try simp only [Act.put, List.getElem_toArray, List.getElem_cons_succ, List.getElem_cons_zero, List.setIfInBounds_toArray, List.set_cons_zero, List.set_cons_succ])
            refine wpAnyH_take (i := 3) (v := ?v3x15) rfl (by kernel_rfl) (by kernel_rfl) (by kernel_rfl) (fun _ _ _ h => h) (Or.inl ⟨by rfl, ?hy3x15⟩) (by assumption) ?rest3x15
            case hy3x15 => (intro w' hSw; (try dsimp only at hSw); (try simp only [List.getElem_toArray, List.getElem_cons_succ, List.getElem_cons_zero]); (first | (go_simp; done) | (go_simp; with_reducible rfl)))
            (try simp only [Act.put, List.getElem_toArray, List.getElem_cons_succ, List.getElem_cons_zero, List.setIfInBounds_toArray, List.set_cons_zero, List.set_cons_succ])
            refine wpAnyH_take (i := 4) (v := ?v4x16) rfl (by kernel_rfl) (by kernel_rfl) (by kernel_rfl) (fun _ _ _ h => h) (Or.inl ⟨by rfl, ?hy4x16⟩) (by assumption) ?rest4x16
            case hy4x16 => (intro w' hSw; (try dsimp only at hSw); (try simp only [List.getElem_toArray, List.getElem_cons_succ, List.getElem_cons_zero]); (first | (go_simp; done) | (go_simp; with_reducible rfl)))
            (try simp only [Act.put, List.getElem_toArray, List.getElem_cons_succ, List.getElem_cons_zero, List.setIfInBounds_toArray, List.set_cons_zero, List.set_cons_succ])
            refine wpAnyH_take (i := 5) (v := ?v5x17) rfl (by kernel_rfl) (by kernel_rfl) (by kernel_rfl) (fun _ _ _ h => h) (Or.inl ⟨by rfl, ?hy5x17⟩) (by assumption) ?rest5x17
            case hy5x17 => (intro w' hSw; (try dsimp only at hSw); (try simp only [List.getElem_toArray, List.getElem_cons_succ, List.getElem_cons_zero]); (first | (go_simp; done) | (go_simp; with_reducible rfl)))
            (try simp only [Act.put, List.getElem_toArray, List.getElem_cons_succ, List.getElem_cons_zero, List.setIfInBounds_toArray, List.set_cons_zero, List.set_cons_succ])
            refine wpAnyH_take (i := 6) (v := ?v6x18) rfl (by kernel_rfl) (by kernel_rfl) (by kernel_rfl) (fun _ _ _ h => h) (Or.inl ⟨by rfl, ?hy6x18⟩) (by assumption) ?rest6x18
            case hy6x18 => (intro w' hSw; (try dsimp only at hSw); (try simp only [List.getElem_toArray, List.getElem_cons_succ, List.getElem_cons_zero]); (first | (go_simp; done) | (go_simp; with_reducible rfl)))
            (try simp only [Act.put, List.getElem_toArray, List.getElem_cons_succ, List.getElem_cons_zero, List.setIfInBounds_toArray, List.set_cons_zero, List.set_cons_succ])
            refine wpAnyH_take (i := 7) (v := ?v7x19) rfl (by kernel_rfl) (by kernel_rfl) (by kernel_rfl) (fun _ _ _ h => h) (Or.inl ⟨by rfl, ?hy7x19⟩) (by assumption) ?rest7x19
            case hy7x19 => (intro w' hSw; (try dsimp only at hSw); (try simp only [List.getElem_toArray, List.getElem_cons_succ, List.getElem_cons_zero]); (first | (go_simp; done) | (go_simp; with_reducible rfl)))
            (try simp only [Act.put, List.getElem_toArray, List.getElem_cons_succ, List.getElem_cons_zero, List.setIfInBounds_toArray, List.set_cons_zero, List.set_cons_succ])
            refine wpAnyH_take (i := 8) (v := ?v8x20) rfl (by kernel_rfl) (by kernel_rfl) (by kernel_rfl) (fun _ _ _ h => h) (Or.inl ⟨by rfl, ?hy8x20⟩) (by assumption) ?rest8x20
            case hy8x20 => (intro w' hSw; (try dsimp only at hSw); (try simp only [List.getElem_toArray, List.getElem_cons_succ, List.getElem_cons_zero]); (first | (go_simp; done) | (go_simp; with_reducible rfl)))
            (try simp only [Act.put, List.getElem_toArray, List.getElem_cons_succ, List.getElem_cons_zero, List.setIfInBounds_toArray, List.set_cons_zero, List.set_cons_succ])
            refine wpAnyH_take (i := 9) (v := ?v9x21) rfl (by kernel_rfl) (by kernel_rfl) (by kernel_rfl) (fun _ _ _ h => h) (Or.inl ⟨by rfl, ?hy9x21⟩) (by assumption) ?rest9x21
            case hy9x21 => (intro w' hSw; (try dsimp only at hSw); (try simp only [List.getElem_toArray, List.getElem_cons_succ, List.getElem_cons_zero]); (first | (go_simp; done) | (go_simp; with_reducible rfl)))
            (try simp only [Act.put, List.getElem_toArray, List.getElem_cons_succ, List.getElem_cons_zero, List.setIfInBounds_toArray, List.set_cons_zero, List.set_cons_succ])
            refine wpAnyH_take (i := 10) (v := ?v10x22) rfl (by kernel_rfl) (by kernel_rfl) (by kernel_rfl) (fun _ _ _ h => h) (Or.inl ⟨by rfl, ?hy10x22⟩) (by assumption) ?rest10x22
            case hy10x22 => (intro w' hSw; (try dsimp only at hSw); (try simp only [List.getElem_toArray, List.getElem_cons_succ, List.getElem_cons_zero]); (first | (go_simp; done) | (go_simp; with_reducible rfl)))
            (try simp only [Act.put, List.getElem_toArray, List.getElem_cons_succ, List.getElem_cons_zero, List.setIfInBounds_toArray, List.set_cons_zero, List.set_cons_succ])
            refine wpAnyH_ready (rs := [11]) (by kernel_rfl) (by simp) ?_
            refine AllReadyH.cons rfl (fun K hK => ?_) AllReadyH.nil
            (try simp only [List.getElem_toArray, List.getElem_cons_succ, List.getElem_cons_zero])
            go_simp
            refine hK.out _ _ ((HSC.out _ (HFD.out.alloc _))) (fun hHeld => ?_)
            clear hK K
            (try simp only [Act.put, List.setIfInBounds_toArray, List.set_cons_zero, List.set_cons_succ])
            refine wpAnyH_ready (rs := [12]) (by kernel_rfl) (by simp) ?_
            refine AllReadyH.cons rfl (fun K hK => ?_) AllReadyH.nil
            (try simp only [List.getElem_toArray, List.getElem_cons_succ, List.getElem_cons_zero])
            go_simp
            refine hK.out _ _ ((HSC.out _ (HFD.out.alloc _))) (fun hHeld => ?_)
            clear hK K
            (try simp only [Act.put, List.setIfInBounds_toArray, List.set_cons_zero, List.set_cons_succ])
            refine wpAnyH_done (by kernel_rfl) ?_ _
            go_wp2_with fail
            go_meet
            case rel => exact ⟨_, rfl, Blk.new_at _ _ (by simp), HFD.out.alloc _⟩
          case rest =>
            obtain ⟨xb, rfl, hx, hf⟩ := hcut
            have hsc := HS2.out.fr0 hf
            have HSC2 := hide hsc
            have HXB := hide hx
            have HX : Hid (∀ w', Fr [] wc w' → w'.cell? ⟨xb, 0, none⟩ = some (.slice rA rn rc) ∧ w'.cell? ⟨xb, 1, none⟩ = some (.slice dA dn dc) ∧ xb < w'.heap.size) := fun w' hw => by
              have hb := hx.fr hw (by simp)
              exact ⟨by rw [hb.cell]; rfl, by rw [hb.cell]; rfl, hb.lt⟩
            obtain ⟨x0, x1, NX⟩ := HX.out wc (Fr.refl _ _)
            obtain ⟨hf5, Go, k2, k4⟩ := hsc
            have HXlt : Hid (w1.heap.size ≤ xb → True) := fun _ => trivial
            have HF := hide hf5
            have K4 := hide k4
            have HB : Hid (n2 + 2 ≤ maxLen ∧ (n2 + 2) * 8 ≤ 140737488355328) := ⟨by unfold maxLen; omega, by omega⟩
            have HLR2 : Hid (Lr (wc.alloc (.cells #[.int .u64 (rn : Int), .int .u64 (dn : Int)] 65)) 65 A2 n2 c2 Go (refV ((List.range t).flatMap (shapeT σ O) ++ (O.take k).flatMap (shapeO σ O)))) := k2.alloc _
            have HXG : Hid (xb ∉ Go) := k2.apart hx (by decide)
            have HGX : Hid (∀ w', Fr Go wc w' → Blk w' xb 156 #[.slice rA rn rc, .slice dA dn dc]) := fun w' hF => hx.fr hF HXG.out
            clear hf hf5 hx k2 k4 HSC HFD
            go_wp2_with (first | (at_builtin; refine wpList_append_lr rfl _ _ 36 rfl 65 i0 (.int .u64 0) 8 Tryz.underlying36 hi hz0 hz1 hz2 rfl rfl HLR2.out rfl (by rfl) (fun _ => news_at wc #[.int .u64 (rn : Int), .int .u64 (dn : Int)] 65 rfl _ (Fr.refl _ _)) (by intro u hu; simp at hu; rcases hu with rfl | rfl <;> rfl) HB.out.1 HB.out.2 ?_; intro A' c' G' w4 HLn HFn HGn))
            have HS4 : Hid (OutAt w1 w4 A' (n2 + 2) c' ((List.range t).flatMap (shapeT σ O) ++ (O.take k).flatMap (shapeO σ O) ++ [(rn : Int), (dn : Int)]) ∧ Blk w4 xb 156 #[.slice rA rn rc, .slice dA dn dc]) :=
              ⟨OutAt.app HF.out K4.out ((Fr.refl [] wc).alloc _) HFn.out (by rw [refV_app]; exact HLn.out) (fun g hg => (HGn.out g hg).imp id (fun h => by rw [h.1]; simp)), (HXB.out.alloc _).fr HFn.out HXG.out⟩
            clear HF K4 HB HLR2 HLn HFn HGn HXG HGX HSC2 HXB HX x0 x1 NX HXlt HS2
            have hn4 : n2 + 2 ≤ 4160 + k * 2097154 + 2 := by omega
            clear hn3
            generalize n2 + 2 = n3 at *
            go_loopw [5, 10] (fun s i wr => ∃ (j : Nat) (A' : Option Addr) (n' c' : Nat), i = .int .i64 j ∧ s = .slice A' n' c' ∧ n' ≤ 4160 + k * 2097154 + 2 + j ∧ j ≤ rn ∧ OutAt w1 wr A' n' c' ((List.range t).flatMap (shapeT σ O) ++ (O.take k).flatMap (shapeO σ O) ++ [(rn : Int), (dn : Int)] ++ ((kids σ r).take j).map (num O)) ∧ Blk wr xb 156 #[.slice rA rn rc, .slice dA dn dc]) (fun _ i _ => rn - (intOf i).toNat)
            case atStart => exact ⟨0, A', n3, c', rfl, rfl, by omega, Nat.zero_le _, by simpa using HS4.out.1, HS4.out.2⟩
            case round =>
              obtain ⟨j, A5, n5, c5, rfl, rfl, hn5, hj, hs5, hx5⟩ := hrel
              have x0 : wr.cell? ⟨xb, 0, none⟩ = some (.slice rA rn rc) := by rw [hx5.cell]; rfl
              have x1 : wr.cell? ⟨xb, 1, none⟩ = some (.slice dA dn dc) := by rw [hx5.cell]; rfl
              have NX : xb < wr.heap.size := hx5.lt
              by_cases hjl : j < rn
              · have hjl1 : (j : Int) < (rn : Int) := by omega
                have hjs : j < σ.np r := by have := HRN.out; omega
                obtain ⟨q, hq, hqN⟩ := HKM.out r j hjs
                obtain ⟨gs, os, rfl, _, hcs⟩ := (HKD.out wr hs5.1).1 (by omega)
                have y3 : wr.cell? ⟨gs, os + j, none⟩ = some (.int .u64 (q : Int)) := by rw [← hq]; exact hcs j hjl
                have y4 := HNUM.out q wr hqN hs5.1
                have hq1 : (q : Int) < ((σ.N : Int) + 1) := by omega
                obtain ⟨hf, Go, k2, k4⟩ := hs5
                have HF := hide hf
                have K4 := hide k4
                have HB : Hid (n5 + 1 ≤ maxLen ∧ (n5 + 1) * 8 ≤ 140737488355328) := ⟨by unfold maxLen; omega, by omega⟩
                have HQ := hide hq
                have HKS := hide hjs
                have HLT2 := hide hjl
                obtain ⟨y, hy⟩ : ∃ y, y = num O (q : Int) := ⟨_, rfl⟩
                rw [← hy] at y4
                have HY := hide hy
                have HXG : Hid (xb ∉ Go) := k2.apart hx5 (by decide)
                have HXB := hide hx5
                have HLR2 : Hid (Lr (wr.alloc (.cells #[.int .u64 y] 65)) 65 A5 n5 c5 Go (refV ((List.range t).flatMap (shapeT σ O) ++ (O.take k).flatMap (shapeO σ O) ++ [(rn : Int), (dn : Int)] ++ ((kids σ r).take j).map (num O)))) := k2.alloc _
                clear hf k2 k4 hcs hq hjs hy HS4 hx5 x1
                go_wp2_with (first | (at_builtin; refine wpList_append_lr rfl _ _ 36 rfl 65 i0 (.int .u64 0) 8 Tryz.underlying36 hi hz0 hz1 hz2 rfl rfl HLR2.out rfl (by rfl) (fun _ => one_of wr (.int .u64 y) 65 rfl _ (Fr.refl _ _)) (by intro u hu; simp at hu; subst hu; rfl) HB.out.1 HB.out.2 ?_; intro A' c' G' w4 HLn HFn HGn))
                have HS' : Hid (OutAt w1 w4 A' (n5 + 1) c' ((List.range t).flatMap (shapeT σ O) ++ (O.take k).flatMap (shapeO σ O) ++ [(rn : Int), (dn : Int)] ++ ((kids σ r).take (j + 1)).map (num O)) ∧ Blk w4 xb 156 #[.slice (some ⟨gs, os, none⟩) rn rc, .slice dA dn dc]) :=
                  ⟨OutAt.app HF.out K4.out ((Fr.refl [] wr).alloc _) HFn.out (by rw [take_succ_getD (by rw [kids_len]; exact HKS.out), List.map_append, ← List.append_assoc, show [(kids σ r).getD j 0].map (num O) = [y] by rw [HY.out, HQ.out]; rfl, refV_snoc]; exact HLn.out) (fun g hg => (HGn.out g hg).imp id (fun h => by rw [h.1]; simp)), (HXB.out.alloc _).fr HFn.out HXG.out⟩
                go_roundw
                case rel => exact ⟨j + 1, A', n5 + 1, c', by go_num, rfl, by omega, by have := HLT2.out; omega, HS'.out.1, HS'.out.2⟩
                case measure => simp [intOf]; have := HLT2.out; omega
              · obtain rfl : j = rn := by omega
                have htk : (kids σ r).take j = kids σ r := by rw [List.take_of_length_le]; rw [kids_len]; have := HRN.out; omega
                rw [htk] at hs5
                obtain ⟨hf, Go, k2, k4⟩ := hs5
                have HDL := hide (sl_read (by have := HDN.out; simp [datas]; omega) (HKD.out wr hf).2)
                have HF := hide hf
                have K4 := hide k4
                have hdl : (refV (datas σ r)).length = dn := by rw [refV_len]; have := HDN.out; simp [datas]; omega
                have HB : Hid ((refV (datas σ r)).length = dn ∧ (∀ u ∈ refV (datas σ r), u.oneCell' = true) ∧ n5 + dn ≤ maxLen ∧ (n5 + dn) * 8 ≤ 140737488355328) := ⟨hdl, refV_one _, by unfold maxLen; omega, by omega⟩
                have HLR2 : Hid (Lr wr 65 A5 n5 c5 Go (refV ((List.range t).flatMap (shapeT σ O) ++ (O.take k).flatMap (shapeO σ O) ++ [(j : Int), (dn : Int)] ++ (kids σ r).map (num O)))) := k2
                have HJN : Hid (j = σ.np r) := by have := HRN.out; show j = σ.np r; omega
                have HNX : Hid (n5 + dn ≤ 4160 + (k + 1) * 2097154) := by show _ ≤ _; omega
                clear hf k2 k4 htk HS4 hdl hx5
                go_upto_region 20 with fail
                go_wp2_with (at_builtin; refine wpList_append_lr rfl _ _ 36 rfl 65 i0 (.int .u64 0) 8 Tryz.underlying36 hi hz0 hz1 hz2 rfl rfl HLR2.out rfl HB.out.1 HDL.out HB.out.2.1 HB.out.2.2.1 HB.out.2.2.2 ?_; intro A' c' G' w4 HLn HFn HGn)
                have HS' : Hid (OutAt w1 w4 A' (n5 + dn) c' ((List.range t).flatMap (shapeT σ O) ++ (O.take (k + 1)).flatMap (shapeO σ O))) := by
                  have e1 : O.take (k + 1) = O.take k ++ [r] := by rw [List.take_add_one, HOK.out]; rfl
                  have e2 : (List.range t).flatMap (shapeT σ O) ++ (O.take (k + 1)).flatMap (shapeO σ O) = ((List.range t).flatMap (shapeT σ O) ++ (O.take k).flatMap (shapeO σ O) ++ [(j : Int), (dn : Int)] ++ (kids σ r).map (num O)) ++ datas σ r := by
                    rw [e1, List.flatMap_append, show [r].flatMap (shapeO σ O) = shapeO σ O r by simp]
                    unfold shapeO
                    rw [HJN.out, HDN.out]
                    simp [List.append_assoc]
                  rw [e2]
                  exact OutAt.app HF.out K4.out (Fr.refl [] wr) HFn.out (by rw [refV_app]; exact HLn.out) (fun g hg => (HGn.out g hg).imp id (fun h => by rw [h.1]; exact Nat.le_refl _))
                go_roundw
                case rel => exact ⟨k + 1, A', n5 + dn, c', by go_num, rfl, HNX.out, by have := HLT.out; omega, HS'.out⟩
                case measure => simp [intOf]; have := HLT.out; omega
        · obtain rfl : k = n := by omega
          have hlt3 : ¬ (k : Int) < (k : Int) := by omega
          have HE : Hid (ShapePost W (shape σ t) (.returned (.slice A2 n2 c2)) wr) := by
            obtain ⟨hf, Go, k2, k4⟩ := hs2
            refine ⟨A2, n2, c2, Go, rfl, ?_, HF1.out.trans_same hf, fun g hg => Nat.le_trans HF1.out.size (k4 g hg)⟩
            rw [HSH.out]
            rwa [List.take_of_length_le (by have := HN.out; omega)] at k2
          clear hs2 HR HS1
          go_wp2_with fail
          go_ret
          exact HE.out
end
end Go.Proofs.YtapglokadaibnaaGreatDoor
namespace Go.Proofs.YtapglokadaibnaaGreatDoor
set_option maxRecDepth 100000
set_option linter.unusedVariables false
set_option linter.unusedSimpArgs false
open Go.RowKit Go.Gl

/-- The second graph is the first one, its objects by other names. -/
structure Named (σ τ : GS) (T : Nat) (φ : Int → Int) : Prop where
  zero : φ 0 = 0
  inj : ∀ a b, 0 ≤ a → a ≤ (σ.N : Int) → 0 ≤ b → b ≤ (σ.N : Int) → φ a = φ b → a = b
  st : ∀ t, t < T → τ.st t = (σ.st t).map φ
  np : ∀ r, 1 ≤ r → r ≤ (σ.N : Int) → τ.np (φ r) = σ.np r
  nw : ∀ r, 1 ≤ r → r ≤ (σ.N : Int) → τ.nw (φ r) = σ.nw r
  ref : ∀ r, 1 ≤ r → r ≤ (σ.N : Int) → ∀ j : Nat, j < σ.np r → τ.ref (φ r) (j : Int) = φ (σ.ref r (j : Int))
  dat : ∀ r, 1 ≤ r → r ≤ (σ.N : Int) → ∀ j : Nat, j < σ.nw r → τ.dat (φ r) (j : Int) = σ.dat r (j : Int)
section
variable {σ τ : GS} {T : Nat} {φ : Int → Int}
def InN (σ : GS) (r : Int) : Prop := 0 ≤ r ∧ r ≤ (σ.N : Int)
theorem Named.eq0 (h : Named σ τ T φ) {r : Int} (hr : InN σ r) : φ r = 0 ↔ r = 0 := by
  constructor
  · intro e
    exact h.inj r 0 hr.1 hr.2 (Int.le_refl _) (by omega) (e.trans h.zero.symm)
  · intro e
    rw [e]
    exact h.zero
theorem Named.mem (h : Named σ τ T φ) {r : Int} (hr : InN σ r) {L : List Int} (hL : ∀ x, x ∈ L → InN σ x) : φ r ∈ L.map φ ↔ r ∈ L := by
  constructor
  · intro hm
    obtain ⟨x, hx, e⟩ := List.mem_map.1 hm
    obtain rfl := h.inj x r (hL x hx).1 (hL x hx).2 hr.1 hr.2 e
    exact hx
  · intro hm
    exact List.mem_map.2 ⟨r, hm, rfl⟩
theorem Named.visit (h : Named σ τ T φ) {r : Int} (hr : InN σ r) {L : List Int} (hL : ∀ x, x ∈ L → InN σ x) : visit (L.map φ) (φ r) = (visit L r).map φ := by
  unfold Go.Proofs.YtapglokadaibnaaGreatDoor.visit
  by_cases e : r = 0 ∨ r ∈ L
  · rw [if_pos e, if_pos]
    rcases e with e | e
    · exact .inl ((h.eq0 hr).2 e)
    · exact .inr ((h.mem hr hL).2 e)
  · rw [if_neg e, if_neg]
    · simp
    · rintro (e2 | e2)
      · exact e (.inl ((h.eq0 hr).1 e2))
      · exact e (.inr ((h.mem hr hL).1 e2))
theorem Named.visits (h : Named σ τ T φ) : ∀ (l : List Int) {L : List Int}, (∀ x, x ∈ l → InN σ x) → (∀ x, x ∈ L → InN σ x) → visits (L.map φ) (l.map φ) = (visits L l).map φ
  | [], L, _, _ => rfl
  | a :: l, L, hl, hL => by
    rw [List.map_cons, visits_cons, visits_cons, h.visit (hl a (by simp)) hL]
    refine h.visits l (fun x hx => hl x (by simp [hx])) (fun x hx => ?_)
    rw [visit_mem] at hx
    rcases hx with hx | ⟨rfl, _⟩
    · exact hL x hx
    · exact hl _ (by simp)
theorem Named.kids (h : Named σ τ T φ) {r : Int} (h1 : 1 ≤ r) (h2 : r ≤ (σ.N : Int)) : kids τ (φ r) = (kids σ r).map φ := by
  unfold Go.Proofs.YtapglokadaibnaaGreatDoor.kids
  rw [h.np r h1 h2, List.map_map]
  refine List.map_congr_left fun j hj => ?_
  exact h.ref r h1 h2 j (List.mem_range.1 hj)
theorem Named.datas (h : Named σ τ T φ) {r : Int} (h1 : 1 ≤ r) (h2 : r ≤ (σ.N : Int)) : datas τ (φ r) = datas σ r := by
  unfold Go.Proofs.YtapglokadaibnaaGreatDoor.datas
  rw [h.nw r h1 h2]
  refine List.map_congr_left fun j hj => ?_
  exact h.dat r h1 h2 j (List.mem_range.1 hj)
theorem Named.roots (h : Named σ τ T φ) : ∀ n, n ≤ T → rootsOf τ n = (rootsOf σ n).map φ
  | 0, _ => rfl
  | n + 1, hn => by rw [rootsOf_succ, rootsOf_succ, h.roots n (by omega), h.st n (by omega), List.map_append]
theorem GIn.roots (ok : GIn σ) {r : Int} (h : r ∈ rootsOf σ T) : InN σ r := by
  obtain ⟨t, _, ht⟩ := rootsOf_mem.1 h
  exact ok.mem t r ht
theorem GIn.kids (ok : GIn σ) {r x : Int} (h : x ∈ kids σ r) : InN σ x := by
  obtain ⟨j, _, rfl⟩ := kids_mem.1 h
  exact ok.ref r j
theorem Named.bfs (h : Named σ τ T φ) (ok : GIn σ) : ∀ n, bfs τ T n = (bfs σ T n).map φ
  | 0 => by
    show Go.Proofs.YtapglokadaibnaaGreatDoor.visits [] (rootsOf τ T) = (Go.Proofs.YtapglokadaibnaaGreatDoor.visits [] (rootsOf σ T)).map φ
    rw [h.roots T (Nat.le_refl _)]
    exact h.visits _ (L := []) (fun x hx => ok.roots hx) (fun x hx => by cases hx)
  | n + 1 => by
    have ih := h.bfs ok n
    rcases Nat.lt_or_ge n (Go.Proofs.YtapglokadaibnaaGreatDoor.bfs σ T n).length with hl | hl
    · have e1 := List.getElem?_eq_getElem hl
      have hin := gbfs_in (T := T) ok n _ (List.getElem_mem hl)
      have e2 : (Go.Proofs.YtapglokadaibnaaGreatDoor.bfs τ T n)[n]? = some (φ ((Go.Proofs.YtapglokadaibnaaGreatDoor.bfs σ T n)[n]'hl)) := by
        rw [ih, List.getElem?_map, e1]
        rfl
      rw [bfs_step σ T e1, bfs_step τ T e2, ih, h.kids hin.1 hin.2]
      refine h.visits _ (fun x hx => ok.kids hx) (fun x hx => ?_)
      have := gbfs_in ok n x hx
      exact ⟨by omega, this.2⟩
    · rw [bfs_stay σ T hl, bfs_stay τ T (by rw [ih, List.length_map]; exact hl), ih]
theorem Named.order (h : Named σ τ T φ) (ok : GIn σ) (ok' : GIn τ) : order τ T = (order σ T).map φ := by
  have h1 := gbfs_len (T := T) ok (σ.N + τ.N)
  have h2 := gbfs_len (T := T) ok' (σ.N + τ.N)
  rw [gbfs_end ok (n := σ.N + τ.N) (by omega), gbfs_end ok' (n := σ.N + τ.N) (by omega), h.bfs ok]
theorem idx_map (h : Named σ τ T φ) {r : Int} (hr : InN σ r) : ∀ {L : List Int}, (∀ x, x ∈ L → InN σ x) → (L.map φ).idxOf (φ r) = L.idxOf r
  | [], _ => rfl
  | a :: l, hL => by
    have ih := idx_map h hr (L := l) (fun x hx => hL x (by simp [hx]))
    rw [List.map_cons, List.idxOf_cons, List.idxOf_cons, ih]
    have e : (φ a == φ r) = (a == r) := by
      by_cases e : a = r
      · subst e; simp
      · have e2 : φ a ≠ φ r := fun e2 => e (h.inj a r (hL a (by simp)).1 (hL a (by simp)).2 hr.1 hr.2 e2)
        rw [beq_eq_false_iff_ne.2 e, beq_eq_false_iff_ne.2 e2]
    rw [e]
theorem Named.num (h : Named σ τ T φ) {r : Int} (hr : InN σ r) {L : List Int} (hL : ∀ x, x ∈ L → InN σ x) : num (L.map φ) (φ r) = num L r := by
  unfold Go.Proofs.YtapglokadaibnaaGreatDoor.num
  by_cases e : r ∈ L
  · rw [if_pos e, if_pos ((h.mem hr hL).2 e), idx_map h hr hL]
  · rw [if_neg e, if_neg (fun e2 => e ((h.mem hr hL).1 e2))]
theorem Named.shape (h : Named σ τ T φ) (ok : GIn σ) (ok' : GIn τ) : shape τ T = shape σ T := by
  have hO : ∀ x, x ∈ Go.Proofs.YtapglokadaibnaaGreatDoor.order σ T → InN σ x := fun x hx => by
    have := gorder_in ok hx
    exact ⟨by omega, this.2⟩
  have hnum : ∀ l : List Int, (∀ x, x ∈ l → InN σ x) → (l.map φ).map (Go.Proofs.YtapglokadaibnaaGreatDoor.num ((Go.Proofs.YtapglokadaibnaaGreatDoor.order σ T).map φ)) = l.map (Go.Proofs.YtapglokadaibnaaGreatDoor.num (Go.Proofs.YtapglokadaibnaaGreatDoor.order σ T)) := fun l hl => by
    rw [List.map_map]
    exact List.map_congr_left fun x hx => h.num (hl x hx) hO
  unfold Go.Proofs.YtapglokadaibnaaGreatDoor.shape
  rw [h.order ok ok']
  congr 1
  · refine flatMap_same fun t ht => ?_
    unfold shapeT
    rw [h.st t (List.mem_range.1 ht), List.length_map, hnum _ (fun x hx => ok.mem t x hx)]
  · rw [List.flatMap_map]
    refine flatMap_same fun r hr => ?_
    have hin := gorder_in ok hr
    unfold shapeO
    rw [h.np r hin.1 hin.2, h.nw r hin.1 hin.2, h.kids hin.1 hin.2, h.datas hin.1 hin.2, hnum _ (fun x hx => ok.kids hx)]
end
end Go.Proofs.YtapglokadaibnaaGreatDoor
namespace Go.Proofs.YtapglokadaibnaaGreatDoor
set_option linter.unusedVariables false
set_option linter.unusedSimpArgs false
set_option maxRecDepth 100000
open Go.RowKit Go.Gl

/-- The graph of a plan's first i things, its handles st. -/
def plG (p : Pl) (i : Nat) (st : Nat → List Int) : GS where
  st := st
  done := fun _ => 0
  N := i
  np := fun r => (p.T (r.toNat - 1)).rf.length
  nw := fun r => (p.T (r.toNat - 1)).dt.length
  ref := fun r j => (p.T (r.toNat - 1)).rf.getD j.toNat 0
  dat := fun r j => (p.T (r.toNat - 1)).dt.getD j.toNat 0
theorem range_getD (l : List Int) : (List.range l.length).map (fun j => l.getD j 0) = l := by
  apply List.ext_getElem
  · simp
  · intro i h1 h2
    simp at h1
    simp [h1]
theorem plG_kids (p : Pl) (i : Nat) (st : Nat → List Int) (q : Nat) : kids (plG p i st) ((q : Int) + 1) = (p.T q).rf := by
  have e : ((q : Int) + 1).toNat - 1 = q := by omega
  unfold kids plG
  simp only [e, Int.toNat_natCast]
  exact range_getD _
theorem plG_datas (p : Pl) (i : Nat) (st : Nat → List Int) (q : Nat) : datas (plG p i st) ((q : Int) + 1) = (p.T q).dt := by
  have e : ((q : Int) + 1).toNat - 1 = q := by omega
  unfold datas plG
  simp only [e, Int.toNat_natCast]
  exact range_getD _
theorem pos_nat {r : Int} (h : 1 ≤ r) : ∃ q : Nat, r = (q : Int) + 1 := by
  obtain ⟨q, hq⟩ := Int.eq_ofNat_of_zero_le (show 0 ≤ r - 1 by omega)
  exact ⟨q, by have hq : r - 1 = (q : Int) := hq; omega⟩
/-- A graph that is being built since W0: its objects' data lie in what was there. -/
structure MQ (W0 w : World) (tg : TG) (Λ : ML) (T B M : Nat) (σ : GS) : Prop where
  st : Blk w Λ.m 160 #[.int .i64 (M : Int), Λ.ov, .slice Λ.sA T Λ.sc, .slice (some ⟨Λ.db, 0, none⟩) T T]
  t1 : tg Λ.m = (11, 0)
  obj : R2 w 156 Λ.ov σ.N (fun k => Λ.rv ((k : Int) + 1)) (fun k => Λ.dv ((k : Int) + 1))
  t2 : ∀ b, Λ.ov.ownBlock = some b → tg b = (12, 0)
  refs : ∀ r, 1 ≤ r → r ≤ (σ.N : Int) → SlAt w tg 66 14 r (Λ.rv r) (kids σ r)
  data : ∀ r, 1 ≤ r → r ≤ (σ.N : Int) → ∃ A c, Λ.dv r = .slice A (datas σ r).length c ∧ Sl W0 A (datas σ r).length (fun k => .int .u64 ((datas σ r).getD k 0))
  row : Lr w 161 Λ.sA T Λ.sc Λ.sG (ptrs Λ.S T)
  t3 : ∀ g, g ∈ Λ.sG → tg g = (13, 0)
  stk : ∀ i, i < T → ∃ F, HkR w (Λ.S i) F B (σ.st i) ∧ ∀ x, x ∈ F → tg x = (16, (i : Int))
  tok : GTgOk w tg
  fr : Fr [] W0 w
  new : ∀ b, (tg b).1 ≠ 0 → W0.heap.size ≤ b
section
variable {W0 w w' : World} {tg tg' : TG} {F : List Nat} {Λ : ML} {T B M : Nat} {σ : GS}
theorem MQ.toV (h : MQ W0 w tg Λ T B M σ) : MV w Λ T T B M σ :=
  ⟨h.st, h.obj, fun r h1 h2 => by obtain ⟨A, c, G, e1, e2, _⟩ := h.refs r h1 h2; exact ⟨A, c, G, e1, e2⟩, fun r h1 h2 => by obtain ⟨A, c, e1, e2⟩ := h.data r h1 h2; exact ⟨A, c, e1, e2.fr h.fr (by simp)⟩, h.row, fun i hi => by obtain ⟨F, k1, _⟩ := h.stk i hi; exact ⟨F, k1⟩⟩
/-- What is done in other new memory leaves it. -/
theorem MQ.fro (h : MQ W0 w tg Λ T B M σ) (hf : Fr F w w') (hF : ∀ x, x ∈ F → (tg x).1 = 0 ∧ W0.heap.size ≤ x) : MQ W0 w' tg Λ T B M σ := by
  have hk : ∀ k i, k ≠ 0 → ∀ x, x ∈ F → tg x ≠ (k, i) := fun k i hk x hx e => hk (by have := (hF x hx).1; rw [e] at this; exact this)
  have hu := GTgUp.refl w tg
  exact ⟨h.st.fr hf (fun hx => hk 11 0 (by decide) _ hx h.t1), h.t1, h.obj.fr hf (fun b hb hx => hk 12 0 (by decide) _ hx (h.t2 b hb)), h.t2, fun r h1 h2 => (h.refs r h1 h2).fr hf (fun x hx => hk 14 r (by decide) x hx) hu, h.data, h.row.fr hf (fun g hg hx => hk 13 0 (by decide) _ hx (h.t3 g hg)), h.t3,
    fun i hi => by obtain ⟨G, h1, h2⟩ := h.stk i hi; exact ⟨G, h1.fr hf (fun x hx hx' => hk 16 i (by decide) _ hx' (h2 x hx)), h2⟩, tok' h.tok hf, h.fr.trans hf (fun x hx => .inr (hF x hx).2), h.new⟩
theorem MQ.fr0 (h : MQ W0 w tg Λ T B M σ) (hf : Fr [] w w') : MQ W0 w' tg Λ T B M σ := h.fro hf (by simp)
/-- What New makes. -/
theorem MG.toQ (h : MG w tg Λ T T B M G0) (hf : Fr [] W0 w) (hn : ∀ b, (tg b).1 ≠ 0 → W0.heap.size ≤ b) (p : Pl) : MQ W0 w tg Λ T B M (plG p 0 fun _ => []) :=
  ⟨h.st, h.t1, h.obj, h.t2, fun r h1 h2 => absurd h2 (by show ¬ r ≤ 0; omega), fun r h1 h2 => absurd h2 (by show ¬ r ≤ 0; omega), h.row, h.t3, h.stk, h.tok, hf, hn⟩
/-- A handle is pushed. -/
theorem MQ.stack {p : Pl} {n : Nat} {st : Nat → List Int} (h : MQ W0 w tg Λ T B M (plG p n st)) {i : Nat} (hi : i < T) {G G' : List Nat} {l : List Int} (h1 : HkR w (Λ.S i) G B (st i)) (h2 : ∀ x, x ∈ G → tg x = (16, (i : Int))) (hf : Fr G w w') (k1 : HkR w' (Λ.S i) G' B l) (k2 : ∀ x, x ∈ G' → x ∈ G ∨ w.heap.size ≤ x) :
    ∃ tg', MQ W0 w' tg' Λ T B M (plG p n (setF st i l)) := by
  have hu : GTgUp w tg (fun x => if w.heap.size ≤ x ∧ x < w'.heap.size then (16, (i : Int)) else tg x) := fun b hb => if_neg (by omega)
  have hs0 := h.fr.size
  have ht : GTgOk w' (fun x => if w.heap.size ≤ x ∧ x < w'.heap.size then (16, (i : Int)) else tg x) := fun b hb => by
    by_cases e : w.heap.size ≤ b ∧ b < w'.heap.size
    · exact e.2
    · simp only [if_neg e] at hb
      exact Nat.lt_of_lt_of_le (h.tok b hb) hf.size
  have hn : ∀ b, ((fun x => if w.heap.size ≤ x ∧ x < w'.heap.size then (16, (i : Int)) else tg x : TG) b).1 ≠ 0 → W0.heap.size ≤ b := fun b hb => by
    by_cases e : w.heap.size ≤ b ∧ b < w'.heap.size
    · omega
    · simp only [if_neg e] at hb
      exact h.new b hb
  have hk : ∀ k j, k ≠ 16 → ∀ x, x ∈ G → tg x ≠ (k, j) := fun k j hk x hx e => hk (by have := h2 x hx; rw [e] at this; injection this)
  have up : ∀ {b v}, b < w.heap.size → tg b = v → (fun x => if w.heap.size ≤ x ∧ x < w'.heap.size then (16, (i : Int)) else tg x : TG) b = v := fun hb e => (hu _ hb).trans e
  refine ⟨_, ⟨h.st.fr hf (fun hx => hk 11 0 (by decide) _ hx h.t1), up h.st.lt h.t1, h.obj.fr hf (fun b hb hx => hk 12 0 (by decide) _ hx (h.t2 b hb)), fun b hb => up (h.obj.lt hb) (h.t2 b hb), fun r a1 a2 => (h.refs r a1 a2).fr hf (fun x hx => hk 14 r (by decide) x hx) hu, h.data, h.row.fr hf (fun g hg hx => hk 13 0 (by decide) _ hx (h.t3 g hg)), fun g hg => up (h.row.lt g hg) (h.t3 g hg), fun j hj => ?_, ht, h.fr.trans hf (fun x hx => .inr (h.new x (by rw [h2 x hx]; show (16 : Nat) ≠ 0; decide))), hn⟩⟩
  by_cases e : j = i
  · subst e
    refine ⟨G', ?_, fun x hx => ?_⟩
    · show HkR w' (Λ.S j) G' B (setF st j l j)
      rw [setF_at]
      exact k1
    · rcases k2 x hx with h3 | h3
      · exact up (h1.lt x h3) (h2 x h3)
      · exact if_pos ⟨h3, k1.lt x hx⟩
  · obtain ⟨H, h3, h4⟩ := h.stk j hj
    refine ⟨H, ?_, fun x hx => up (h3.lt x hx) (h4 x hx)⟩
    show HkR w' (Λ.S j) H B (setF st i l j)
    rw [setF_ne _ _ e]
    exact h3.fr hf (fun x hx hx' => e (by have a1 := h4 x hx; have a2 := h2 x hx'; rw [a1] at a2; injection a2 with _ a2; omega))
/-- An object is appended. -/
theorem MQ.addOb {p : Pl} {n : Nat} {st : Nat → List Int} (h : MQ W0 w tg Λ T B M (plG p n st)) {w2 w3 : World} {A dA : Option Addr} {c dc g cap : Nat} {Gx : List Nat} {nv : Array Value} {t0 : TypeId} (hf1 : Fr [] w w2) (hx : Lr w2 66 A (p.T n).rf.length c Gx (refV (p.T n).rf)) (hxn : ∀ x, x ∈ Gx → w.heap.size ≤ x)
    (hd : Sl W0 dA (p.T n).dt.length (fun k => .int .u64 ((p.T n).dt.getD k 0)))
    (hown : w3.ownsRow 0 156 2 (.slice (some ⟨g, 0, none⟩) (n + 1) cap) (n + 1) (rows2 (fun k => Λ.rv ((k : Int) + 1)) (fun k => Λ.dv ((k : Int) + 1)) n ++ [.slice A (p.T n).rf.length c, .slice dA (p.T n).dt.length dc]))
    (hgr : (w2.alloc (.cells nv t0)).grownBy w3 Λ.ov.ownBlock) (hat : Λ.ov.ownBlock = some g ∨ g = w2.heap.size + 1) (hgl : g < w3.heap.size) :
    ∃ tg' Λ', MQ W0 (w3.setCell ⟨Λ.m, 1, none⟩ (.slice (some ⟨g, 0, none⟩) (n + 1) cap)) tg' Λ' T B M (plG p (n + 1) st) ∧ Λ'.m = Λ.m := by
  have hfa : Fr [] w (w2.alloc (.cells nv t0)) := hf1.alloc _
  have hgf : Fr Λ.ov.ownBlock.toList (w2.alloc (.cells nv t0)) w3 := grown_fr hgr
  have hf2 : Fr Λ.ov.ownBlock.toList w w3 := (hfa.mono (fun x hx => by cases hx)).trans hgf (fun x hx => .inl hx)
  have hf3 : Fr [Λ.m] w3 (w3.setCell ⟨Λ.m, 1, none⟩ (.slice (some ⟨g, 0, none⟩) (n + 1) cap)) := (Fr.refl _ _).setCell (p := ⟨Λ.m, 1, none⟩) (.inl (by simp)) _
  obtain ⟨w4, hw4⟩ : ∃ w4, w4 = w3.setCell ⟨Λ.m, 1, none⟩ (.slice (some ⟨g, 0, none⟩) (n + 1) cap) := ⟨_, rfl⟩
  rw [← hw4] at hf3 ⊢
  have h2 : ∀ x, x ∈ Λ.ov.ownBlock.toList → tg x = (12, 0) := fun x hx => h.t2 x (by simpa using hx)
  have hf : Fr (Λ.m :: Λ.ov.ownBlock.toList) w w4 := (hf2.mono (fun x hx => .inl (by simp [hx]))).trans hf3 (fun x hx => .inl (by simp at hx; simp [hx]))
  have hT : ∀ x, x ∈ Λ.m :: Λ.ov.ownBlock.toList → tg x = (11, 0) ∨ tg x = (12, 0) := fun x hx => by
    rcases List.mem_cons.1 hx with rfl | hx
    · exact .inl h.t1
    · exact .inr (h2 x hx)
  have hk : ∀ k j, k ≠ 11 → k ≠ 12 → ∀ x, x ∈ Λ.m :: Λ.ov.ownBlock.toList → tg x ≠ (k, j) := fun k j a1 a2 x hx e => by
    rcases hT x hx with e1 | e1
    · rw [e1] at e; injection e with e; exact a1 e.symm
    · rw [e1] at e; injection e with e; exact a2 e.symm
  have hs0 := h.fr.size
  have hs1 := hf1.size
  have hs2 : w2.heap.size < w3.heap.size := by
    have := hgr.size
    simp at this
    omega
  have hs3 : w3.heap.size = w4.heap.size := by rw [hw4]; simp
  have gnx : g ∉ Gx := fun hx' => by
    have a1 := hxn g hx'
    have a2 := hx.lt g hx'
    rcases hat with e1 | e1
    · have := h.obj.lt e1; omega
    · omega
  obtain ⟨tg', htg⟩ : ∃ tg' : TG, tg' = fun x => if x = g then (12, 0) else if x ∈ Gx then (14, (n : Int) + 1) else tg x := ⟨_, rfl⟩
  have tgg : tg' g = (12, 0) := by rw [htg]; exact if_pos rfl
  have tgx : ∀ x, x ∈ Gx → tg' x = (14, (n : Int) + 1) := fun x hx' => by rw [htg]; dsimp only; rw [if_neg (fun e : x = g => gnx (by rw [← e]; exact hx')), if_pos hx']
  have hu : GTgUp w tg tg' := fun x hx' => by
    rw [htg]
    dsimp only
    by_cases e : x = g
    · rw [if_pos e]
      rcases hat with e1 | e1
      · rw [e, h.t2 g e1]
      · omega
    · rw [if_neg e, if_neg (fun e2 => by have := hxn x e2; omega)]
  have hok : GTgOk w4 tg' := fun x hx' => by
    by_cases e : x = g
    · rw [e, ← hs3]; exact hgl
    · by_cases e2 : x ∈ Gx
      · have := hx.lt x e2; omega
      · rw [htg] at hx'
        dsimp only at hx'
        rw [if_neg e, if_neg e2] at hx'
        have := h.tok x hx'
        omega
  have hnew : ∀ b, (tg' b).1 ≠ 0 → W0.heap.size ≤ b := fun b hb => by
    by_cases e : b = g
    · rcases hat with e1 | e1
      · exact h.new b (by rw [e, h.t2 g e1]; decide)
      · omega
    · by_cases e2 : b ∈ Gx
      · have := hxn b e2; omega
      · rw [htg] at hb
        dsimp only at hb
        rw [if_neg e, if_neg e2] at hb
        exact h.new b hb
  have up : ∀ {b v}, b < w.heap.size → tg b = v → tg' b = v := fun hb e => (hu _ hb).trans e
  have a1 : tg' Λ.m = (11, 0) := up h.st.lt h.t1
  have hb2 := h.st.fr hf2 (fun hx => by have := h2 _ hx; rw [h.t1] at this; cases this)
  have hgne : g ≠ Λ.m := fun e => by rw [e, a1] at tgg; cases tgg
  have hnm : ∀ z, w.heap.size ≤ z → z ∉ Λ.ov.ownBlock.toList := fun z hz hx => by
    have := h.obj.lt (b := z) (by simpa using hx)
    omega
  have hx3 : Lr w4 66 A (p.T n).rf.length c Gx (refV (p.T n).rf) := ((hx.alloc _).fr hgf (fun g' hg' hx' => hnm g' (hxn g' hg') hx')).fr hf3 (fun g' hg' hx' => by simp at hx'; have := hxn g' hg'; have := h.st.lt; omega)
  refine ⟨tg', { Λ with ov := .slice (some ⟨g, 0, none⟩) (n + 1) cap, rv := setF Λ.rv ((n : Int) + 1) (.slice A (p.T n).rf.length c), dv := setF Λ.dv ((n : Int) + 1) (.slice dA (p.T n).dt.length dc) }, ⟨?_, a1, ?_, fun b hb => ?_, fun r h1 h2 => ?_, fun r h1 h2 => ?_, h.row.fr hf (fun g hg hx => hk 13 0 (by decide) (by decide) _ hx (h.t3 g hg)), fun g hg => up (h.row.lt g hg) (h.t3 g hg), fun i hi => ?_, hok, h.fr.trans hf (fun x hx => .inr (h.new x (by rcases hT x hx with e | e <;> rw [e] <;> decide))), hnew⟩, rfl⟩
  · have := hb2.put 1 (.slice (some ⟨g, 0, none⟩) (n + 1) cap)
    rw [hw4]
    simpa using this
  · show R2 w4 156 _ (n + 1) _ _
    have hown' : w3.ownsRow 0 156 2 (.slice (some ⟨g, 0, none⟩) (n + 1) cap) (n + 1) (rows2 (fun (k : Nat) => setF Λ.rv ((n : Int) + 1) (.slice A (p.T n).rf.length c) ((k : Int) + 1)) (fun (k : Nat) => setF Λ.dv ((n : Int) + 1) (.slice dA (p.T n).dt.length dc) ((k : Int) + 1)) (n + 1)) := by
      rw [rows2_succ, setF_at, setF_at]
      rw [rows2_congr (f' := fun (k : Nat) => Λ.rv ((k : Int) + 1)) (g' := fun (k : Nat) => Λ.dv ((k : Int) + 1)) (fun i hi => ⟨by rw [setF_ne _ _ (by omega)], by rw [setF_ne _ _ (by omega)]⟩)]
      exact hown
    exact own_fr hown' hf3 (fun x hx => by
      have hx' : some g = some x := hx
      injection hx' with hx'
      subst hx'
      simpa using hgne)
  · have hb' : some g = some b := hb
    injection hb' with hb'
    rw [← hb']
    exact tgg
  · have h2 : r ≤ ((n + 1 : Nat) : Int) := h2
    show SlAt w4 tg' 66 14 r (setF Λ.rv ((n : Int) + 1) _ r) _
    by_cases e : r = (n : Int) + 1
    · subst e
      rw [setF_at, plG_kids]
      exact ⟨A, c, Gx, rfl, hx3, tgx⟩
    · rw [setF_ne _ _ e]
      have := h.refs r h1 (by show r ≤ (n : Int); omega)
      exact this.fr hf (fun x hx => hk 14 r (by decide) (by decide) x hx) hu
  · have h2 : r ≤ ((n + 1 : Nat) : Int) := h2
    show ∃ A c, setF Λ.dv ((n : Int) + 1) _ r = .slice A _ c ∧ _
    by_cases e : r = (n : Int) + 1
    · subst e
      rw [setF_at, plG_datas]
      exact ⟨dA, dc, rfl, hd⟩
    · rw [setF_ne _ _ e]
      exact h.data r h1 (by show r ≤ (n : Int); omega)
  · obtain ⟨H, h3, h4⟩ := h.stk i hi
    exact ⟨H, h3.fr hf (fun x hx hx' => hk 16 i (by decide) (by decide) _ hx' (h4 x hx)), fun x hx => up (h3.lt x hx) (h4 x hx)⟩
end
end Go.Proofs.YtapglokadaibnaaGreatDoor
namespace Go.Proofs.YtapglokadaibnaaGreatDoor
set_option linter.unusedVariables false
set_option linter.unusedSimpArgs false
set_option maxRecDepth 100000
open Go.RowKit Go.Gl

/-- A plan's handles, as far as k threads go, of the next one j. -/
def stP (p : Pl) (k j : Nat) : Nat → List Int := fun t => if t < k then p.H t else if t = k then (p.H t).take j else []
theorem stP_next (p : Pl) (k : Nat) : stP p k (p.H k).length = stP p (k + 1) 0 := by
  funext t
  unfold stP
  by_cases e : t < k
  · rw [if_pos e, if_pos (by omega)]
  · rw [if_neg e]
    by_cases e2 : t = k
    · subst e2
      rw [if_pos rfl, if_pos (by omega), List.take_length]
    · rw [if_neg e2, if_neg (by omega)]
      split <;> simp
theorem stP_push (p : Pl) (k j : Nat) (h : j < (p.H k).length) : setF (stP p k j) k ((p.H k).take j ++ [(p.H k).getD j 0]) = stP p k (j + 1) := by
  funext t
  unfold setF stP
  by_cases e : t = k
  · subst e
    rw [if_pos rfl, if_neg (by omega), if_pos rfl, List.take_add_one]
    simp [h]
  · rw [if_neg e]
    by_cases e2 : t < k
    · rw [if_pos e2, if_pos e2]
    · rw [if_neg e2, if_neg e2, if_neg e, if_neg e]
theorem stP_0 (p : Pl) : stP p 0 0 = fun _ => [] := by
  funext t
  unfold stP
  rw [if_neg (by omega)]
  split <;> simp
set_option maxHeartbeats 12800000 in
theorem graph14_any {W : World} {Q : PA} {p : Pl} {T B : Nat} (hP : PlAt W Q p) (hr : p.Right) (hT : p.c.threads = (T : Int)) (hB : p.c.roots = (B : Int)) (hT1 : 1 ≤ T) (hB1 : 1 ≤ B) (hd : GDim T B 1048576) :
    Calls Tryz.prog 16 #[Q.val p] W fun e w' => ∃ Λ : ML, e = .returned (.pointer (some ⟨Λ.m, 0, none⟩)) ∧ MV w' Λ T T B 1048576 (plG p p.n (stP p p.m 0)) ∧ Fr [] W w' := by
  obtain ⟨i0, hi, hz0, hz1, hz2⟩ := info_parts Tryz.info_ref
  obtain ⟨i1, hi', hz0', hz1', hz2'⟩ := info_parts Tryz.info_ob13
  obtain ⟨tA, htA⟩ : ∃ y, y = Q.tA := ⟨_, rfl⟩
  obtain ⟨hAd, hhA⟩ : ∃ y, y = Q.hA := ⟨_, rfl⟩
  have HTA := hide htA
  have HHA := hide hhA
  have HP := hide hP
  have HRt := hide hr
  have HD := hide hd
  have HB9 := hide hB
  have HNew : Hid (∀ w, Calls Tryz.prog 76 #[.int .i64 p.c.threads, .int .i64 p.c.roots, .int .i64 1048576] w (MNew w T B 1048576)) := fun w => by
    rw [hT, hB]
    exact mnew_ok T B 1048576 hT1 hB1 hd w
  have hnm := hP.nm
  have hp200 := hr.n
  have hpm : p.m ≤ T := by have := hr.m; omega
  have hT64 := hd.t
  have HPM := hide hpm
  unfold PA.val
  rw [← htA, ← hhA]
  clear htA hhA hP hr hd hT hB
  go_enter Tryz.func16, Tryz.ntmps16
  go_wp2_with fail
  refine (HNew.out _).mono ?_
  rintro e w2 ⟨g, tg, rfl, ⟨Λ, hg, rfl⟩, hf, hn⟩
  have HB0 := Blk.new W 27 #[.int .i64 p.c.shift, .int .i64 p.c.regions, .int .i64 p.c.cardShift, .int .i64 p.c.threads, .int .i64 p.c.roots, .int .i64 p.c.refiners, .int .i64 p.c.markers, .int .i64 p.c.young, .int .i64 p.c.tenure, .int .i64 p.c.queue, .int .i64 p.c.stack, .int .i64 p.c.budget, .int .i64 p.c.percent, .int .i64 p.c.fail, .slice tA p.n Q.tc, .slice hAd p.m Q.hc]
  have HQ0 := hide (hg.toQ hf hn p)
  have HPl := hide (HP.out.fr0 ((Fr.refl [] W).alloc (.cells #[.int .i64 p.c.shift, .int .i64 p.c.regions, .int .i64 p.c.cardShift, .int .i64 p.c.threads, .int .i64 p.c.roots, .int .i64 p.c.refiners, .int .i64 p.c.markers, .int .i64 p.c.young, .int .i64 p.c.tenure, .int .i64 p.c.queue, .int .i64 p.c.stack, .int .i64 p.c.budget, .int .i64 p.c.percent, .int .i64 p.c.fail, .slice tA p.n Q.tc, .slice hAd p.m Q.hc] 27)))
  have HFW : Hid (Fr [] W (W.alloc (.cells #[.int .i64 p.c.shift, .int .i64 p.c.regions, .int .i64 p.c.cardShift, .int .i64 p.c.threads, .int .i64 p.c.roots, .int .i64 p.c.refiners, .int .i64 p.c.markers, .int .i64 p.c.young, .int .i64 p.c.tenure, .int .i64 p.c.queue, .int .i64 p.c.stack, .int .i64 p.c.budget, .int .i64 p.c.percent, .int .i64 p.c.fail, .slice tA p.n Q.tc, .slice hAd p.m Q.hc] 27))) := (Fr.refl [] W).alloc _
  clear hg hf hn HNew
  generalize W.alloc (.cells #[.int .i64 p.c.shift, .int .i64 p.c.regions, .int .i64 p.c.cardShift, .int .i64 p.c.threads, .int .i64 p.c.roots, .int .i64 p.c.refiners, .int .i64 p.c.markers, .int .i64 p.c.young, .int .i64 p.c.tenure, .int .i64 p.c.queue, .int .i64 p.c.stack, .int .i64 p.c.budget, .int .i64 p.c.percent, .int .i64 p.c.fail, .slice tA p.n Q.tc, .slice hAd p.m Q.hc] 27) = W1 at *
  generalize W.heap.size = pb at *
  have HBP := hide HB0
  clear HB0
  have HCp : Hid (∀ w', Fr [] W1 w' → w'.cell? ⟨pb, 14, none⟩ = some (.slice tA p.n Q.tc) ∧ w'.cell? ⟨pb, 15, none⟩ = some (.slice hAd p.m Q.hc) ∧ pb < w'.heap.size) := fun w' hf => ⟨(HBP.out.fr hf (by simp)).cell 14, (HBP.out.fr hf (by simp)).cell 15, (HBP.out.fr hf (by simp)).lt⟩
  go_wp2_with fail
  go_loopw [5] (fun v wr => ∃ (i : Nat) (tg : TG) (Λ' : ML), v = .int .i64 i ∧ i ≤ p.n ∧ MQ W1 wr tg Λ' T B 1048576 (plG p i fun _ => []) ∧ Λ'.m = Λ.m) (fun v _ => p.n - (intOf v).toNat)
  case atStart => exact ⟨0, tg, Λ, rfl, Nat.zero_le _, HQ0.out, rfl⟩
  case round =>
    obtain ⟨i, tg1, Λ1, rfl, hi9, hq, hm⟩ := hrel
    obtain ⟨q14, q15, NP⟩ := HCp.out _ hq.fr
    by_cases hlt : i < p.n
    · have hlt1 : (i : Int) < (p.n : Int) := by omega
      have ta := HTA.out.trans (HPl.out.ta (by omega))
      subst ta
      obtain ⟨wO, hwO⟩ : ∃ wO, wO = wr := ⟨_, rfl⟩
      subst hwO
      have HNP0 := hide NP
      have HQi := hide hq
      have HMm := hide hm
      have hPw := HPl.out.fr0 hq.fr
      have y2 := hPw.t2 i hlt
      have NT : Q.tb < wO.heap.size := lt_of_cell y2
      have HNT0 := hide NT
      have HRs0 : Hid (Sl wO (Q.rA i) (p.T i).rf.length fun j => .int .i64 ((p.T i).rf.getD j 0)) := hPw.rs i hlt
      have HT1c : Hid (∀ w', Fr [] wO w' → w'.cell? ⟨Q.tb, Q.to + i * 3 + 1, none⟩ = some (.slice (Q.rA i) (p.T i).rf.length (Q.rc i)) ∧ Q.tb < w'.heap.size) := fun w' hf => ⟨(hPw.fr0 hf).t1 i hlt, lt_of_cell ((hPw.fr0 hf).t1 i hlt)⟩
      have HDs : Hid (Sl W1 (Q.dA i) (p.T i).dt.length fun j => .int .u64 ((p.T i).dt.getD j 0)) := HPl.out.ds i hlt
      have HRf : Hid (RefsOk (p.T i).rf p.n) := (HRt.out.t i hlt).rf
      have hrs : (p.T i).rf.length ≤ 1048576 ∧ (p.T i).dt.length ≤ 1048576 := by
        have h5 := (HRt.out.t i hlt).zm
        have h6 : p.c.geo.max ≤ 1048576 := Int.min_le_left _ _
        unfold PT.sz at h5
        omega
      have HLT := hide hlt
      have HQfr := hide hq.fr
      obtain ⟨rn, hrn⟩ : ∃ rn, rn = (p.T i).rf.length := ⟨_, rfl⟩
      obtain ⟨dn, hdn⟩ : ∃ dn, dn = (p.T i).dt.length := ⟨_, rfl⟩
      have HRN := hide hrn
      have HDN := hide hdn
      rw [← hrn] at hrs HT1c HRs0
      rw [← hdn] at hrs HDs y2
      clear hq hm hPw hrn hdn hlt
      go_wp2_with fail
      have HX0 : Hid (Blk (wO.alloc (.cells #[.slice none 0 0, .slice (Q.dA i) dn (Q.dc i)] 156)) wO.heap.size 156 #[.slice none 0 0, .slice (Q.dA i) dn (Q.dc i)]) := Blk.new _ _ _
      have HF0 : Hid (Fr [] wO (wO.alloc (.cells #[.slice none 0 0, .slice (Q.dA i) dn (Q.dc i)] 156))) := (Fr.refl _ _).alloc _
      have HXB : Hid (wO.heap.size ≤ wO.heap.size) := Nat.le_refl _
      have HXP : pb ≠ wO.heap.size := by omega
      have HXT : Q.tb ≠ wO.heap.size := by omega
      generalize hxb : wO.heap.size = xb at *
      have HXE := hide hxb
      clear hxb y2
      go_loopw [7] (fun v wq => ∃ (j : Nat) (A' : Option Addr) (c' : Nat) (G' : List Nat), v = .int .i64 j ∧ j ≤ rn ∧ Blk wq xb 156 #[.slice A' j c', .slice (Q.dA i) dn (Q.dc i)] ∧ Lr wq 66 A' j c' G' (refV ((p.T i).rf.take j)) ∧ (∀ g, g ∈ G' → xb < g) ∧ Fr [] wO wq) (fun v _ => rn - (intOf v).toNat)
      case atStart => exact ⟨0, none, 0, [], rfl, Nat.zero_le _, HX0.out, Lr.nil _ _, (fun g hg => by cases hg), HF0.out⟩
      case round =>
        obtain ⟨j, A5, c5, G5, rfl, hj, hxk, hl5, hg5, hf5⟩ := hrel
        obtain ⟨q14, q15, NP⟩ := HCp.out _ (HQfr.out.trans_same hf5)
        obtain ⟨y1, NT⟩ := HT1c.out _ hf5
        by_cases hlj : j < rn
        · have hlj1 : (j : Int) < (rn : Int) := by omega
          obtain ⟨lb, lo, hrA, NL, hcl⟩ := HRs0.out (by omega)
          have hel : wr.cell? ⟨lb, lo + j, none⟩ = some (.int .i64 ((p.T i).rf.getD j 0)) := (hf5.cell (p := ⟨lb, lo + j, none⟩) NL (by simp)).trans (hcl j hlj)
          have hzz : 0 ≤ (p.T i).rf.getD j 0 ∧ (p.T i).rf.getD j 0 ≤ (p.n : Int) := HRf.out _ (by rw [List.getD_eq_getElem?_getD, List.getElem?_eq_getElem (by rw [← HRN.out]; exact hlj)]; exact List.getElem_mem _)
          rw [hrA] at y1
          have HTK : Hid ((p.T i).rf.take (j + 1) = (p.T i).rf.take j ++ [(p.T i).rf.getD j 0]) := by
            show _ = _
            rw [List.take_add_one]
            simp [show j < (p.T i).rf.length by rw [← HRN.out]; exact hlj]
          obtain ⟨z, hz⟩ : ∃ z, z = (p.T i).rf.getD j 0 := ⟨_, rfl⟩
          rw [← hz] at hel hzz HTK
          clear hz
          have hwz : IntKind.u64.wrap z = z := IntWalk.u64_in _ ⟨by omega, by omega⟩
          have HLJ := hide hlj
          go_upto_region 9 with fail
          clear q14 q15 NP NT y1
          have hxn : xb ∉ G5 := fun h9 => Nat.lt_irrefl _ (hg5 _ h9)
          obtain ⟨w4, hw4⟩ : ∃ w4, w4 = wr.drew := ⟨_, rfl⟩
          have HW4 := hide hw4
          have hf4 : Fr [] wr w4 := by rw [hw4]; exact (Fr.refl _ _).drew
          have hx4 := hxk.fr hf4 (by simp)
          have c0 : w4.cell? ⟨xb, 0, none⟩ = some (.slice A5 j c5) := hx4.cell 0
          have HL4 := hide (hl5.fr0 hf4)
          have HFO4 := hide (hf5.trans_same hf4)
          have hs4 : (fun w' : World => w'.cell? ⟨pb, 14, none⟩ = some (.slice (some ⟨Q.tb, Q.to, none⟩) p.n Q.tc) ∧ w'.cell? ⟨Q.tb, Q.to + i * 3 + 1, none⟩ = some (.slice (some ⟨lb, lo, none⟩) rn (Q.rc i)) ∧ w'.cell? ⟨lb, lo + j, none⟩ = some (.int .i64 z)) w4 := by
            have hfo := hf5.trans_same hf4
            obtain ⟨b14, _, _⟩ := HCp.out _ (HQfr.out.trans_same hfo)
            obtain ⟨b1, _⟩ := HT1c.out _ hfo
            rw [hrA] at b1
            exact ⟨b14, b1, (hf4.cell (p := ⟨lb, lo + j, none⟩) (lt_of_cell hel) (by simp)).trans hel⟩
          have K0 : Hid ((fun w' : World => w'.cell? ⟨pb, 14, none⟩ = some (.slice (some ⟨Q.tb, Q.to, none⟩) p.n Q.tc) ∧ w'.cell? ⟨Q.tb, Q.to + i * 3 + 1, none⟩ = some (.slice (some ⟨lb, lo, none⟩) rn (Q.rc i)) ∧ w'.cell? ⟨lb, lo + j, none⟩ = some (.int .i64 z)) wr.drew) := by rw [← hw4]; exact hs4
          have HBL : Hid (pb < xb ∧ Q.tb < xb ∧ lb < xb) := ⟨by have := HXE.out; have := HNP0.out; omega, by have := HXE.out; have := HNT0.out; omega, by have := HXE.out; omega⟩
          have hfar : ∀ (F : List Nat) (w2 w3 : World), Fr F w2 w3 → (∀ x, x ∈ F → xb ≤ x) → (fun w' : World => w'.cell? ⟨pb, 14, none⟩ = some (.slice (some ⟨Q.tb, Q.to, none⟩) p.n Q.tc) ∧ w'.cell? ⟨Q.tb, Q.to + i * 3 + 1, none⟩ = some (.slice (some ⟨lb, lo, none⟩) rn (Q.rc i)) ∧ w'.cell? ⟨lb, lo + j, none⟩ = some (.int .i64 z)) w2 → (fun w' : World => w'.cell? ⟨pb, 14, none⟩ = some (.slice (some ⟨Q.tb, Q.to, none⟩) p.n Q.tc) ∧ w'.cell? ⟨Q.tb, Q.to + i * 3 + 1, none⟩ = some (.slice (some ⟨lb, lo, none⟩) rn (Q.rc i)) ∧ w'.cell? ⟨lb, lo + j, none⟩ = some (.int .i64 z)) w3 := fun F w2 w3 hf hF ⟨s1, s2, s3⟩ =>
            ⟨(hf.cell (p := ⟨pb, 14, none⟩) (lt_of_cell s1) (fun h9 => by have := hF _ h9; have := HBL.out.1; simp at *; omega)).trans s1, (hf.cell (p := ⟨Q.tb, Q.to + i * 3 + 1, none⟩) (lt_of_cell s2) (fun h9 => by have := hF _ h9; have := HBL.out.2.1; simp at *; omega)).trans s2, (hf.cell (p := ⟨lb, lo + j, none⟩) (lt_of_cell s3) (fun h9 => by have := hF _ h9; have := HBL.out.2.2; simp at *; omega)).trans s3⟩
          have KA : Hid (∀ (w2 : World) o, (fun w' : World => w'.cell? ⟨pb, 14, none⟩ = some (.slice (some ⟨Q.tb, Q.to, none⟩) p.n Q.tc) ∧ w'.cell? ⟨Q.tb, Q.to + i * 3 + 1, none⟩ = some (.slice (some ⟨lb, lo, none⟩) rn (Q.rc i)) ∧ w'.cell? ⟨lb, lo + j, none⟩ = some (.int .i64 z)) w2 → (fun w' : World => w'.cell? ⟨pb, 14, none⟩ = some (.slice (some ⟨Q.tb, Q.to, none⟩) p.n Q.tc) ∧ w'.cell? ⟨Q.tb, Q.to + i * 3 + 1, none⟩ = some (.slice (some ⟨lb, lo, none⟩) rn (Q.rc i)) ∧ w'.cell? ⟨lb, lo + j, none⟩ = some (.int .i64 z)) (w2.alloc o)) := fun w2 o h9 => hfar [] _ _ ((Fr.refl _ _).alloc _) (fun x hx => by cases hx) h9
          have HC4 : Hid (∀ w', Fr G5 (w4.alloc (.cells #[.int .u64 z] 66)) w' → (fun w' : World => w'.cell? ⟨pb, 14, none⟩ = some (.slice (some ⟨Q.tb, Q.to, none⟩) p.n Q.tc) ∧ w'.cell? ⟨Q.tb, Q.to + i * 3 + 1, none⟩ = some (.slice (some ⟨lb, lo, none⟩) rn (Q.rc i)) ∧ w'.cell? ⟨lb, lo + j, none⟩ = some (.int .i64 z)) w' ∧ (∀ v, (fun w' : World => w'.cell? ⟨pb, 14, none⟩ = some (.slice (some ⟨Q.tb, Q.to, none⟩) p.n Q.tc) ∧ w'.cell? ⟨Q.tb, Q.to + i * 3 + 1, none⟩ = some (.slice (some ⟨lb, lo, none⟩) rn (Q.rc i)) ∧ w'.cell? ⟨lb, lo + j, none⟩ = some (.int .i64 z)) (w'.setCell ⟨xb, 0, none⟩ v)) ∧ w'.cell? ⟨xb, 0, none⟩ = some (.slice A5 j c5) ∧ w'.frozen? ⟨xb, 0, none⟩ = false ∧ Blk w' xb 156 #[.slice A5 j c5, .slice (Q.dA i) dn (Q.dc i)]) := fun w' hf => by
            have h9 := hfar G5 _ _ hf (fun x hx => Nat.le_of_lt (hg5 x hx)) (KA.out _ _ hs4)
            have hb9 := (hx4.alloc (.cells #[.int .u64 z] 66)).fr hf hxn
            exact ⟨h9, fun v => hfar [xb] _ _ ((Fr.refl _ _).setCell (p := ⟨xb, 0, none⟩) (.inl (by simp)) _) (fun x hx => by simp at hx; omega) h9, hb9.cell 0, hb9.frozen 0, hb9⟩
          have HN : Hid (([Value.int .u64 z]).length = 1 ∧ (∀ u ∈ [Value.int .u64 z], u.oneCell' = true) ∧ j + 1 ≤ maxLen ∧ (j + 1) * 8 ≤ 140737488355328) := ⟨rfl, by simp [Value.oneCell'], by unfold maxLen; omega, by omega⟩
          have HEnd : Hid (∀ A' c' G' w', Lr w' 66 A' (j + 1) c' G' (refV ((p.T i).rf.take j) ++ [.int .u64 z]) → Fr G5 (w4.alloc (.cells #[.int .u64 z] 66)) w' → (∀ g, g ∈ G' → g ∈ G5 ∨ (w4.alloc (.cells #[.int .u64 z] 66)).heap.size ≤ g) →
              ∃ (A6 : Option Addr) (c6 : Nat) (G6 : List Nat) (w6 : World), w6 = w'.setCell ⟨xb, 0, none⟩ (.slice A' (j + 1) c') ∧ Blk w6 xb 156 #[.slice A6 (j + 1) c6, .slice (Q.dA i) dn (Q.dc i)] ∧ Lr w6 66 A6 (j + 1) c6 G6 (refV ((p.T i).rf.take (j + 1))) ∧ (∀ g, g ∈ G6 → xb < g) ∧ Fr [] wO w6) := fun A' c' G' w' hL hF hG => by
            have hb9 := (HC4.out w' hF).2.2.2.2
            have hg' : ∀ g, g ∈ G' → xb < g := fun g hg => by
              rcases hG g hg with h9 | h9
              · exact hg5 g h9
              · have := hx4.lt; simp at h9; omega
            have hsf : Fr [xb] w' (w'.setCell ⟨xb, 0, none⟩ (.slice A' (j + 1) c')) := (Fr.refl _ _).setCell (p := ⟨xb, 0, none⟩) (.inl (by simp)) _
            refine ⟨A', c', G', _, rfl, ?_, ?_, hg', ?_⟩
            · have := hb9.put 0 (.slice A' (j + 1) c')
              simpa using this
            · rw [HTK.out, refV_snoc]
              exact hL.fr hsf (fun g hg hx => by simp at hx; have := hg' g hg; omega)
            · have hxo : wO.heap.size ≤ xb := Nat.le_of_eq HXE.out
              exact ((HFO4.out.alloc _).trans hF (fun x hx => .inr (by have := hg5 x hx; omega))).trans hsf (fun x hx => .inr (by simp at hx; omega))
          clear hxk hl5 hg5 hf5 hel hzz hf4 hx4 hs4 hfar hxn hcl hw4 hlj
          have N4 : xb < w4.heap.size := lt_of_cell c0
          refine wp_region_held_drew (S := fun w' => w'.cell? ⟨pb, 14, none⟩ = some (.slice (some ⟨Q.tb, Q.to, none⟩) p.n Q.tc) ∧ w'.cell? ⟨Q.tb, Q.to + i * 3 + 1, none⟩ = some (.slice (some ⟨lb, lo, none⟩) rn (Q.rc i)) ∧ w'.cell? ⟨lb, lo + j, none⟩ = some (.int .i64 z)) (by kernel_rfl) (K0.out) (fun hHeld => ?_)
          rw [← HW4.out] at hHeld ⊢
          refine wpAnyH_take (i := 0) (v := ?v0x1) rfl (by kernel_rfl) (by kernel_rfl) (by kernel_rfl) (fun _ _ _ h => h) (Or.inl ⟨by rfl, ?hy0x1⟩) (by assumption) ?rest0x1
          case hy0x1 => (intro w' hSw; (try dsimp only at hSw); (try simp only [List.getElem_toArray, List.getElem_cons_succ, List.getElem_cons_zero]); (first | (go_simp; done) | (go_simp; with_reducible rfl)))
          (try simp only [Act.put, List.getElem_toArray, List.getElem_cons_succ, List.getElem_cons_zero, List.setIfInBounds_toArray, List.set_cons_zero, List.set_cons_succ])
          refine wpAnyH_take (i := 2) (v := ?v2x2) rfl (by kernel_rfl) (by kernel_rfl) (by kernel_rfl) (fun _ _ _ h => h) (Or.inl ⟨by rfl, ?hy2x2⟩) (by assumption) ?rest2x2
          case hy2x2 => (intro w' hSw; (try dsimp only at hSw); (try simp only [List.getElem_toArray, List.getElem_cons_succ, List.getElem_cons_zero]); (first | (go_simp; done) | (go_simp; with_reducible rfl)))
          (try simp only [Act.put, List.getElem_toArray, List.getElem_cons_succ, List.getElem_cons_zero, List.setIfInBounds_toArray, List.set_cons_zero, List.set_cons_succ])
          refine wpAnyH_take (i := 3) (v := ?v3x3) rfl (by kernel_rfl) (by kernel_rfl) (by kernel_rfl) (fun _ _ _ h => h) (Or.inl ⟨by rfl, ?hy3x3⟩) (by assumption) ?rest3x3
          case hy3x3 => (intro w' hSw; (try dsimp only at hSw); (try simp only [List.getElem_toArray, List.getElem_cons_succ, List.getElem_cons_zero]); (first | (go_simp; done) | (go_simp; with_reducible rfl)))
          (try simp only [Act.put, List.getElem_toArray, List.getElem_cons_succ, List.getElem_cons_zero, List.setIfInBounds_toArray, List.set_cons_zero, List.set_cons_succ])
          refine wpAnyH_take (i := 4) (v := ?v4x4) rfl (by kernel_rfl) (by kernel_rfl) (by kernel_rfl) (fun _ _ _ h => h) (Or.inl ⟨by rfl, ?hy4x4⟩) (by assumption) ?rest4x4
          case hy4x4 => (intro w' hSw; (try dsimp only at hSw); (try simp only [List.getElem_toArray, List.getElem_cons_succ, List.getElem_cons_zero]); (first | (go_simp; done) | (go_simp; with_reducible rfl)))
          (try simp only [Act.put, List.getElem_toArray, List.getElem_cons_succ, List.getElem_cons_zero, List.setIfInBounds_toArray, List.set_cons_zero, List.set_cons_succ])
          refine wpAnyH_take (i := 5) (v := ?v5x5) rfl (by kernel_rfl) (by kernel_rfl) (by kernel_rfl) (fun _ _ _ h => h) (Or.inl ⟨by rfl, ?hy5x5⟩) (by assumption) ?rest5x5
          case hy5x5 => (intro w' hSw; (try dsimp only at hSw); (try simp only [List.getElem_toArray, List.getElem_cons_succ, List.getElem_cons_zero]); (first | (go_simp; done) | (go_simp; with_reducible rfl)))
          (try simp only [Act.put, List.getElem_toArray, List.getElem_cons_succ, List.getElem_cons_zero, List.setIfInBounds_toArray, List.set_cons_zero, List.set_cons_succ])
          refine wpAnyH_take (i := 6) (v := ?v6x6) rfl (by kernel_rfl) (by kernel_rfl) (by kernel_rfl) (fun _ _ _ h => h) (Or.inl ⟨by rfl, ?hy6x6⟩) (by assumption) ?rest6x6
          case hy6x6 => (intro w' hSw; (try dsimp only at hSw); (try simp only [List.getElem_toArray, List.getElem_cons_succ, List.getElem_cons_zero]); (first | (go_simp; done) | (go_simp; with_reducible rfl)))
          (try simp only [Act.put, List.getElem_toArray, List.getElem_cons_succ, List.getElem_cons_zero, List.setIfInBounds_toArray, List.set_cons_zero, List.set_cons_succ])
          refine wpAnyH_take (i := 7) (v := ?v7x7) rfl (by kernel_rfl) (by kernel_rfl) (by kernel_rfl) (fun _ _ _ h => h) (Or.inl ⟨by rfl, ?hy7x7⟩) (by assumption) ?rest7x7
          case hy7x7 => (intro w' hSw; (try dsimp only at hSw); (try simp only [List.getElem_toArray, List.getElem_cons_succ, List.getElem_cons_zero]); (first | (go_simp; done) | (go_simp; with_reducible rfl)))
          (try simp only [Act.put, List.getElem_toArray, List.getElem_cons_succ, List.getElem_cons_zero, List.setIfInBounds_toArray, List.set_cons_zero, List.set_cons_succ])
          refine wpAnyH_take (i := 8) (v := ?v8x8) rfl (by kernel_rfl) (by kernel_rfl) (by kernel_rfl) (fun _ _ _ h => h) (Or.inl ⟨by rfl, ?hy8x8⟩) (by assumption) ?rest8x8
          case hy8x8 => (intro w' hSw; (try dsimp only at hSw); (try simp only [List.getElem_toArray, List.getElem_cons_succ, List.getElem_cons_zero]); (first | (go_simp; done) | (go_simp; with_reducible rfl)))
          (try simp only [Act.put, List.getElem_toArray, List.getElem_cons_succ, List.getElem_cons_zero, List.setIfInBounds_toArray, List.set_cons_zero, List.set_cons_succ])
          refine wpAnyH_take (i := 9) (v := ?v9x9) rfl (by kernel_rfl) (by kernel_rfl) (by kernel_rfl) (fun _ _ _ h => h) (Or.inl ⟨by rfl, ?hy9x9⟩) (by assumption) ?rest9x9
          case hy9x9 => (intro w' hSw; (try dsimp only at hSw); (try simp only [List.getElem_toArray, List.getElem_cons_succ, List.getElem_cons_zero]); (first | (go_simp; done) | (go_simp; with_reducible rfl)))
          (try simp only [Act.put, List.getElem_toArray, List.getElem_cons_succ, List.getElem_cons_zero, List.setIfInBounds_toArray, List.set_cons_zero, List.set_cons_succ])
          refine wpAnyH_take (i := 10) (v := ?v10x10) rfl (by kernel_rfl) (by kernel_rfl) (by kernel_rfl) (fun _ _ _ h => h) (Or.inl ⟨by rfl, ?hy10x10⟩) (by assumption) ?rest10x10
          case hy10x10 => (intro w' hSw; (try dsimp only at hSw); (try simp only [List.getElem_toArray, List.getElem_cons_succ, List.getElem_cons_zero]); (first | (go_simp; done) | (go_simp; with_reducible rfl)))
          (try simp only [Act.put, List.getElem_toArray, List.getElem_cons_succ, List.getElem_cons_zero, List.setIfInBounds_toArray, List.set_cons_zero, List.set_cons_succ])
          refine wpAnyH_take (i := 11) (v := ?v11x11) rfl (by kernel_rfl) (by kernel_rfl) (by kernel_rfl) (fun _ _ _ h => h) (Or.inl ⟨by rfl, ?hy11x11⟩) (by assumption) ?rest11x11
          case hy11x11 => (intro w' hSw; (try dsimp only at hSw); (try simp only [List.getElem_toArray, List.getElem_cons_succ, List.getElem_cons_zero]); (first | (go_simp; done) | (go_simp; with_reducible rfl)))
          (try simp only [Act.put, List.getElem_toArray, List.getElem_cons_succ, List.getElem_cons_zero, List.setIfInBounds_toArray, List.set_cons_zero, List.set_cons_succ])
          refine wpAnyH_ready (rs := [1, 12]) (by kernel_rfl) (by simp) ?_
          refine AllReadyH.cons rfl (fun K hK => ?_) (AllReadyH.cons rfl (fun K hK => ?_) AllReadyH.nil)
          · (try simp only [List.getElem_toArray, List.getElem_cons_succ, List.getElem_cons_zero])
            go_simp
            refine hK.out _ _ (hHeld) (fun hHeld => ?_)
            clear hK K
            (try simp only [Act.put, List.setIfInBounds_toArray, List.set_cons_zero, List.set_cons_succ])
            refine wpAnyH_ready (rs := [12]) (by kernel_rfl) (by simp) ?_
            refine AllReadyH.cons rfl (fun K hK => ?_) AllReadyH.nil
            (try simp only [List.getElem_toArray, List.getElem_cons_succ, List.getElem_cons_zero])
            go_simp
            refine hK.out _ _ (KA.out _ _ hHeld) (fun hHeld => ?_)
            clear hK K
            (try simp only [Act.put, List.setIfInBounds_toArray, List.set_cons_zero, List.set_cons_succ])
            refine wpAnyH_ready (rs := [13]) (by kernel_rfl) (by simp) ?_
            refine AllReadyH.cons rfl (fun K hK => ?_) AllReadyH.nil
            (try simp only [List.getElem_toArray, List.getElem_cons_succ, List.getElem_cons_zero])
            rw [if_pos (by rfl)]
            refine wp_append_lr _ _ 106 rfl 66 i0 (.int .u64 0) 8 Tryz.underlying106 hi hz0 hz1 hz2 rfl rfl (HL4.out.fr0 ((Fr.refl _ _).alloc _)) rfl HN.out.1 (fun _ => one_of w4 _ 66 rfl _ (Fr.refl _ _)) HN.out.2.1 HN.out.2.2.1 HN.out.2.2.2 ?_
            intro A' c' G' w' HLn HFn HGn
            have d4 := (HC4.out w' HFn.out).2.2.1
            have d5 := (HC4.out w' HFn.out).2.2.2
            have N4 : xb < w'.heap.size := lt_of_cell d4
            refine hK.out _ _ ((HC4.out w' HFn.out).1) (fun hHeld => ?_)
            clear hK K
            (try simp only [Act.put, List.setIfInBounds_toArray, List.set_cons_zero, List.set_cons_succ])
            refine wpAnyH_take (i := 14) (v := ?v14x12) rfl (by kernel_rfl) (by kernel_rfl) (by kernel_rfl) (fun _ _ _ h => h) (Or.inl ⟨by rfl, ?hy14x12⟩) (by assumption) ?rest14x12
            case hy14x12 => (intro w' hSw; (try dsimp only at hSw); (try simp only [List.getElem_toArray, List.getElem_cons_succ, List.getElem_cons_zero]); (first | (go_simp; done) | (go_simp; with_reducible rfl)))
            (try simp only [Act.put, List.getElem_toArray, List.getElem_cons_succ, List.getElem_cons_zero, List.setIfInBounds_toArray, List.set_cons_zero, List.set_cons_succ])
            refine wpAnyH_ready (rs := [15]) (by kernel_rfl) (by simp) ?_
            refine AllReadyH.cons rfl (fun K hK => ?_) AllReadyH.nil
            (try simp only [List.getElem_toArray, List.getElem_cons_succ, List.getElem_cons_zero])
            go_simp
            refine hK.out _ _ ((HC4.out w' HFn.out).2.1 _) (fun hHeld => ?_)
            clear hK K
            (try simp only [Act.put, List.setIfInBounds_toArray, List.set_cons_zero, List.set_cons_succ])
            refine wpAnyH_done (by kernel_rfl) ?_ _
            obtain ⟨A6, c6, G6, w6, hw6, r1, r2, r3, r4⟩ := HEnd.out _ _ _ _ HLn.out HFn.out (fun g hg => (HGn.out g hg).imp id (fun h9 => by rw [h9.1]; exact Nat.le_refl _))
            rw [hw6] at r1 r2 r4
            have R1 := hide r1
            have R2 := hide r2
            have R34 := hide (And.intro r3 r4)
            clear r1 r2 r3 r4 hw6
            go_wp2_with fail
            go_roundw
            case rel => exact ⟨j + 1, A6, c6, G6, by go_num, HLJ.out, R1.out, R2.out, R34.out.1, R34.out.2⟩
            case measure => have := HLJ.out; simp [intOf]; omega
          · (try simp only [List.getElem_toArray, List.getElem_cons_succ, List.getElem_cons_zero])
            go_simp
            refine hK.out _ _ (KA.out _ _ hHeld) (fun hHeld => ?_)
            clear hK K
            (try simp only [Act.put, List.setIfInBounds_toArray, List.set_cons_zero, List.set_cons_succ])
            refine wpAnyH_ready (rs := [1]) (by kernel_rfl) (by simp) ?_
            refine AllReadyH.cons rfl (fun K hK => ?_) AllReadyH.nil
            (try simp only [List.getElem_toArray, List.getElem_cons_succ, List.getElem_cons_zero])
            go_simp
            refine hK.out _ _ (hHeld) (fun hHeld => ?_)
            clear hK K
            (try simp only [Act.put, List.setIfInBounds_toArray, List.set_cons_zero, List.set_cons_succ])
            refine wpAnyH_ready (rs := [13]) (by kernel_rfl) (by simp) ?_
            refine AllReadyH.cons rfl (fun K hK => ?_) AllReadyH.nil
            (try simp only [List.getElem_toArray, List.getElem_cons_succ, List.getElem_cons_zero])
            rw [if_pos (by rfl)]
            refine wp_append_lr _ _ 106 rfl 66 i0 (.int .u64 0) 8 Tryz.underlying106 hi hz0 hz1 hz2 rfl rfl (HL4.out.fr0 ((Fr.refl _ _).alloc _)) rfl HN.out.1 (fun _ => one_of w4 _ 66 rfl _ (Fr.refl _ _)) HN.out.2.1 HN.out.2.2.1 HN.out.2.2.2 ?_
            intro A' c' G' w' HLn HFn HGn
            have d4 := (HC4.out w' HFn.out).2.2.1
            have d5 := (HC4.out w' HFn.out).2.2.2
            have N4 : xb < w'.heap.size := lt_of_cell d4
            refine hK.out _ _ ((HC4.out w' HFn.out).1) (fun hHeld => ?_)
            clear hK K
            (try simp only [Act.put, List.setIfInBounds_toArray, List.set_cons_zero, List.set_cons_succ])
            refine wpAnyH_take (i := 14) (v := ?v14x13) rfl (by kernel_rfl) (by kernel_rfl) (by kernel_rfl) (fun _ _ _ h => h) (Or.inl ⟨by rfl, ?hy14x13⟩) (by assumption) ?rest14x13
            case hy14x13 => (intro w' hSw; (try dsimp only at hSw); (try simp only [List.getElem_toArray, List.getElem_cons_succ, List.getElem_cons_zero]); (first | (go_simp; done) | (go_simp; with_reducible rfl)))
            (try simp only [Act.put, List.getElem_toArray, List.getElem_cons_succ, List.getElem_cons_zero, List.setIfInBounds_toArray, List.set_cons_zero, List.set_cons_succ])
            refine wpAnyH_ready (rs := [15]) (by kernel_rfl) (by simp) ?_
            refine AllReadyH.cons rfl (fun K hK => ?_) AllReadyH.nil
            (try simp only [List.getElem_toArray, List.getElem_cons_succ, List.getElem_cons_zero])
            go_simp
            refine hK.out _ _ ((HC4.out w' HFn.out).2.1 _) (fun hHeld => ?_)
            clear hK K
            (try simp only [Act.put, List.setIfInBounds_toArray, List.set_cons_zero, List.set_cons_succ])
            refine wpAnyH_done (by kernel_rfl) ?_ _
            obtain ⟨A6, c6, G6, w6, hw6, r1, r2, r3, r4⟩ := HEnd.out _ _ _ _ HLn.out HFn.out (fun g hg => (HGn.out g hg).imp id (fun h9 => by rw [h9.1]; exact Nat.le_refl _))
            rw [hw6] at r1 r2 r4
            have R1 := hide r1
            have R2 := hide r2
            have R34 := hide (And.intro r3 r4)
            clear r1 r2 r3 r4 hw6
            go_wp2_with fail
            go_roundw
            case rel => exact ⟨j + 1, A6, c6, G6, by go_num, HLJ.out, R1.out, R2.out, R34.out.1, R34.out.2⟩
            case measure => have := HLJ.out; simp [intOf]; omega
        · obtain rfl : j = rn := by omega
          have htk : (p.T i).rf.take j = (p.T i).rf := by rw [HRN.out, List.take_length]
          rw [htk] at hl5
          go_upto_region 10 with fail
          clear q14 q15 NP NT y1
          obtain ⟨w5, hw5⟩ : ∃ w5, w5 = wr.drew := ⟨_, rfl⟩
          have HW5 := hide hw5
          have hfd : Fr [] wr w5 := by rw [hw5]; exact (Fr.refl _ _).drew
          have hf6 := hf5.trans_same hfd
          have hx5 := hxk.fr hfd (by simp)
          have hxo : wO.heap.size = xb := HXE.out
          have hq5 := HQi.out.fr0 hf6
          have hov : xb ∉ Λ1.ov.ownBlock.toList := fun h9 => by have := HQi.out.obj.lt (b := xb) (by simpa using h9); omega
          have hmx : Λ1.m ≠ xb := fun h9 => by have := HQi.out.st.lt; omega
          have c1 : w5.cell? ⟨Λ1.m, 1, none⟩ = some Λ1.ov := hq5.toV.c1
          have NM : Λ1.m < w5.heap.size := hq5.st.lt
          have hs5 : (fun w' : World => w'.cell? ⟨xb, 0, none⟩ = some (.slice A5 j c5) ∧ w'.cell? ⟨xb, 1, none⟩ = some (.slice (Q.dA i) dn (Q.dc i))) w5 := ⟨hx5.cell 0, hx5.cell 1⟩
          have K0 : Hid ((fun w' : World => w'.cell? ⟨xb, 0, none⟩ = some (.slice A5 j c5) ∧ w'.cell? ⟨xb, 1, none⟩ = some (.slice (Q.dA i) dn (Q.dc i))) wr.drew) := by rw [← hw5]; exact hs5
          have hgo : ∀ (w2 w3 : World) (F : List Nat), Fr F w2 w3 → xb ∉ F → (fun w' : World => w'.cell? ⟨xb, 0, none⟩ = some (.slice A5 j c5) ∧ w'.cell? ⟨xb, 1, none⟩ = some (.slice (Q.dA i) dn (Q.dc i))) w2 → (fun w' : World => w'.cell? ⟨xb, 0, none⟩ = some (.slice A5 j c5) ∧ w'.cell? ⟨xb, 1, none⟩ = some (.slice (Q.dA i) dn (Q.dc i))) w3 := fun w2 w3 F hf hn hs => ⟨by rw [hf.cell (p := ⟨xb, 0, none⟩) (lt_of_cell hs.1) hn]; exact hs.1, by rw [hf.cell (p := ⟨xb, 1, none⟩) (lt_of_cell hs.2) hn]; exact hs.2⟩
          have KA : Hid (∀ (w2 : World) o, (fun w' : World => w'.cell? ⟨xb, 0, none⟩ = some (.slice A5 j c5) ∧ w'.cell? ⟨xb, 1, none⟩ = some (.slice (Q.dA i) dn (Q.dc i))) w2 → (fun w' : World => w'.cell? ⟨xb, 0, none⟩ = some (.slice A5 j c5) ∧ w'.cell? ⟨xb, 1, none⟩ = some (.slice (Q.dA i) dn (Q.dc i))) (w2.alloc o)) := fun w2 o hs => hgo _ _ [] ((Fr.refl _ _).alloc _) (by simp) hs
          have KP : Hid (∀ (w2 : World) v, (fun w' : World => w'.cell? ⟨xb, 0, none⟩ = some (.slice A5 j c5) ∧ w'.cell? ⟨xb, 1, none⟩ = some (.slice (Q.dA i) dn (Q.dc i))) w2 → (fun w' : World => w'.cell? ⟨xb, 0, none⟩ = some (.slice A5 j c5) ∧ w'.cell? ⟨xb, 1, none⟩ = some (.slice (Q.dA i) dn (Q.dc i))) (w2.setCell ⟨Λ1.m, 1, none⟩ v)) := fun w2 v hs => hgo _ _ [Λ1.m] ((Fr.refl _ _).setCell (p := ⟨Λ1.m, 1, none⟩) (.inl (by simp)) _) (by simpa using Ne.symm hmx) hs
          have KG : Hid (∀ (w2 w3 : World), w2.grownBy w3 Λ1.ov.ownBlock → (fun w' : World => w'.cell? ⟨xb, 0, none⟩ = some (.slice A5 j c5) ∧ w'.cell? ⟨xb, 1, none⟩ = some (.slice (Q.dA i) dn (Q.dc i))) w2 → (fun w' : World => w'.cell? ⟨xb, 0, none⟩ = some (.slice A5 j c5) ∧ w'.cell? ⟨xb, 1, none⟩ = some (.slice (Q.dA i) dn (Q.dc i))) w3) := fun w2 w3 hg hs => hgo _ _ _ (grown_fr hg) hov hs
          have HFZ : Hid (∀ (w2 w3 : World), Fr [] w5 w2 → w2.grownBy w3 Λ1.ov.ownBlock → w3.cell? ⟨Λ1.m, 1, none⟩ = some Λ1.ov ∧ w3.frozen? ⟨Λ1.m, 1, none⟩ = false) := fun w2 w3 hf hg => by
            have hb := (hq5.st.fr hf (by simp)).fr (grown_fr hg) (fun hx => by have := hq5.t2 Λ1.m (by simpa using hx); rw [hq5.t1] at this; cases this)
            exact ⟨by rw [hb.cell]; rfl, hb.frozen 1⟩
          have HRow : Hid (w5.ownsRow 0 156 2 Λ1.ov i (rows2 (fun k => Λ1.rv ((k : Int) + 1)) (fun k => Λ1.dv ((k : Int) + 1)) i)) := hq5.obj
          have hL5 := hl5.fr0 hfd
          have HEND : Hid (∀ (w3 : World) (g cap : Nat) (nv : Array Value) (t0 : TypeId),
              w3.ownsRow 0 156 2 (.slice (some ⟨g, 0, none⟩) (i + 1) cap) (i + 1) (rows2 (fun k => Λ1.rv ((k : Int) + 1)) (fun k => Λ1.dv ((k : Int) + 1)) i ++ [.slice A5 j c5, .slice (Q.dA i) dn (Q.dc i)]) → (w5.alloc (.cells nv t0)).grownBy w3 Λ1.ov.ownBlock → (Λ1.ov.ownBlock = some g ∨ g = w5.heap.size + 1) → g < w3.heap.size →
              ∃ tg6 Λ6 w6, w6 = w3.setCell ⟨Λ1.m, 1, none⟩ (.slice (some ⟨g, 0, none⟩) (i + 1) cap) ∧ MQ W1 w6 tg6 Λ6 T B 1048576 (plG p (i + 1) fun _ => []) ∧ Λ6.m = Λ.m) := fun w3 g cap nv t0 i7 i8 i9 i10 => by
            have e1 := HRN.out
            have e2 := HDN.out
            rw [e1, e2] at i7
            rw [e1] at hL5
            obtain ⟨tg6, Λ6, r1, r2⟩ := HQi.out.addOb hf6 hL5 (fun x hx => by have := hg5 x hx; omega) (by rw [← e2]; exact HDs.out) i7 i8 i9 i10
            exact ⟨tg6, Λ6, _, rfl, r1, r2.trans HMm.out⟩
          have HK : Hid (i + 1 ≤ maxLen ∧ (i + 1) * 48 ≤ 140737488355328) := ⟨by unfold maxLen; omega, by omega⟩
          clear hxk hl5 hg5 hf5 hfd hf6 hx5 hq5 hov hmx hs5 hgo hL5 htk hw5 hlj hxo
          rw [HMm.out] at c1 NM KP HFZ HEND
          generalize hRW : rows2 (fun (k : Nat) => Λ1.rv ((k : Int) + 1)) (fun (k : Nat) => Λ1.dv ((k : Int) + 1)) i = RW at *
          generalize Λ1.ov = ov at *
          refine wp_region_held_drew (S := fun w' => w'.cell? ⟨xb, 0, none⟩ = some (.slice A5 j c5) ∧ w'.cell? ⟨xb, 1, none⟩ = some (.slice (Q.dA i) dn (Q.dc i))) (by kernel_rfl) (K0.out) (fun hHeld => ?_)
          rw [← HW5.out] at hHeld ⊢
          refine wpAnyH_take (i := 0) (v := ?v0x14) rfl (by kernel_rfl) (by kernel_rfl) (by kernel_rfl) (fun _ _ _ h => h) (Or.inl ⟨by rfl, ?hy0x14⟩) (by assumption) ?rest0x14
          case hy0x14 => (intro w' hSw; (try dsimp only at hSw); (try simp only [List.getElem_toArray, List.getElem_cons_succ, List.getElem_cons_zero]); (first | (go_simp; done) | (go_simp; with_reducible rfl)))
          (try simp only [Act.put, List.getElem_toArray, List.getElem_cons_succ, List.getElem_cons_zero, List.setIfInBounds_toArray, List.set_cons_zero, List.set_cons_succ])
          refine wpAnyH_take (i := 1) (v := ?v1x15) rfl (by kernel_rfl) (by kernel_rfl) (by kernel_rfl) (fun _ _ _ h => h) (Or.inl ⟨by rfl, ?hy1x15⟩) (by assumption) ?rest1x15
          case hy1x15 => (intro w' hSw; (try dsimp only at hSw); (try simp only [List.getElem_toArray, List.getElem_cons_succ, List.getElem_cons_zero]); (first | (go_simp; done) | (go_simp; with_reducible rfl)))
          (try simp only [Act.put, List.getElem_toArray, List.getElem_cons_succ, List.getElem_cons_zero, List.setIfInBounds_toArray, List.set_cons_zero, List.set_cons_succ])
          refine wpAnyH_take (i := 2) (v := ?v2x16) rfl (by kernel_rfl) (by kernel_rfl) (by kernel_rfl) (fun _ _ _ h => h) (Or.inl ⟨by rfl, ?hy2x16⟩) (by assumption) ?rest2x16
          case hy2x16 => (intro w' hSw; (try dsimp only at hSw); (try simp only [List.getElem_toArray, List.getElem_cons_succ, List.getElem_cons_zero]); (first | (go_simp; done) | (go_simp; with_reducible rfl)))
          (try simp only [Act.put, List.getElem_toArray, List.getElem_cons_succ, List.getElem_cons_zero, List.setIfInBounds_toArray, List.set_cons_zero, List.set_cons_succ])
          refine wpAnyH_take (i := 3) (v := ?v3x17) rfl (by kernel_rfl) (by kernel_rfl) (by kernel_rfl) (fun _ _ _ h => h) (Or.inl ⟨by rfl, ?hy3x17⟩) (by assumption) ?rest3x17
          case hy3x17 => (intro w' hSw; (try dsimp only at hSw); (try simp only [List.getElem_toArray, List.getElem_cons_succ, List.getElem_cons_zero]); (first | (go_simp; done) | (go_simp; with_reducible rfl)))
          (try simp only [Act.put, List.getElem_toArray, List.getElem_cons_succ, List.getElem_cons_zero, List.setIfInBounds_toArray, List.set_cons_zero, List.set_cons_succ])
          refine wpAnyH_take (i := 5) (v := ?v5x18) rfl (by kernel_rfl) (by kernel_rfl) (by kernel_rfl) (fun _ _ _ h => h) (Or.inl ⟨by rfl, ?hy5x18⟩) (by assumption) ?rest5x18
          case hy5x18 => (intro w' hSw; (try dsimp only at hSw); (try simp only [List.getElem_toArray, List.getElem_cons_succ, List.getElem_cons_zero]); (first | (go_simp; done) | (go_simp; with_reducible rfl)))
          (try simp only [Act.put, List.getElem_toArray, List.getElem_cons_succ, List.getElem_cons_zero, List.setIfInBounds_toArray, List.set_cons_zero, List.set_cons_succ])
          refine wpAnyH_ready (rs := [4, 6]) (by kernel_rfl) (by simp) ?_
          refine AllReadyH.cons rfl (fun K hK => ?_) (AllReadyH.cons rfl (fun K hK => ?_) AllReadyH.nil)
          · (try simp only [List.getElem_toArray, List.getElem_cons_succ, List.getElem_cons_zero])
            go_simp
            refine hK.out _ _ (hHeld) (fun hHeld => ?_)
            clear hK K
            (try simp only [Act.put, List.setIfInBounds_toArray, List.set_cons_zero, List.set_cons_succ])
            refine wpAnyH_ready (rs := [6]) (by kernel_rfl) (by simp) ?_
            refine AllReadyH.cons rfl (fun K hK => ?_) AllReadyH.nil
            (try simp only [List.getElem_toArray, List.getElem_cons_succ, List.getElem_cons_zero])
            go_simp
            refine hK.out _ _ (KA.out _ _ hHeld) (fun hHeld => ?_)
            clear hK K
            (try simp only [Act.put, List.setIfInBounds_toArray, List.set_cons_zero, List.set_cons_succ])
            refine wpAnyH_ready (rs := [7]) (by kernel_rfl) (by simp) ?_
            refine AllReadyH.cons rfl (fun K hK => ?_) AllReadyH.nil
            (try simp only [List.getElem_toArray, List.getElem_cons_succ, List.getElem_cons_zero])
            rw [if_pos (by rfl)]
            refine wp_append_lies _ _ _ 157 rfl 0 156 i1 (.agg #[.slice none 0 0, .slice none 0 0]) 2 48 Tryz.underlying157 hi' hz0' hz1' hz2' rfl (by decide) ov i RW rfl (own_fr HRow.out ((Fr.refl [] _).alloc _) (fun _ _ => by simp)) ⟨w5.heap.size, 0, none⟩ 1 1 [.slice A5 j c5, .slice (Q.dA i) dn (Q.dc i)] rfl rfl (World.news_of_block (cs := #[.slice A5 j c5, .slice (Q.dA i) dn (Q.dc i)]) (Blk.new _ _ _)) (by intro u hu; simp at hu; rcases hu with rfl | rfl <;> rfl) (by decide) HK.out.1 HK.out.2 (Nat.zero_le _) _ rfl ?_
            intro g cap w3 hown hgr hat hlt
            have HOWN := hide hown
            have HGR := hide hgr
            have HAT := hide hat
            have HLT3 := hide hlt
            have d0 := (HFZ.out _ w3 ((Fr.refl [] _).alloc _) hgr).1
            have dz := (HFZ.out _ w3 ((Fr.refl [] _).alloc _) hgr).2
            have N3 : Λ.m < w3.heap.size := lt_of_cell d0
            clear hown hat hlt
            refine hK.out _ _ (KG.out _ _ HGR.out hHeld) (fun hHeld => ?_)
            clear hK K
            (try simp only [Act.put, List.setIfInBounds_toArray, List.set_cons_zero, List.set_cons_succ])
            refine wpAnyH_take (i := 8) (v := ?v8x19) rfl (by kernel_rfl) (by kernel_rfl) (by kernel_rfl) (fun _ _ _ h => h) (Or.inl ⟨by rfl, ?hy8x19⟩) (by assumption) ?rest8x19
            case hy8x19 => (intro w' hSw; (try dsimp only at hSw); (try simp only [List.getElem_toArray, List.getElem_cons_succ, List.getElem_cons_zero]); (first | (go_simp; done) | (go_simp; with_reducible rfl)))
            (try simp only [Act.put, List.getElem_toArray, List.getElem_cons_succ, List.getElem_cons_zero, List.setIfInBounds_toArray, List.set_cons_zero, List.set_cons_succ])
            refine wpAnyH_take (i := 9) (v := ?v9x20) rfl (by kernel_rfl) (by kernel_rfl) (by kernel_rfl) (fun _ _ _ h => h) (Or.inl ⟨by rfl, ?hy9x20⟩) (by assumption) ?rest9x20
            case hy9x20 => (intro w' hSw; (try dsimp only at hSw); (try simp only [List.getElem_toArray, List.getElem_cons_succ, List.getElem_cons_zero]); (first | (go_simp; done) | (go_simp; with_reducible rfl)))
            (try simp only [Act.put, List.getElem_toArray, List.getElem_cons_succ, List.getElem_cons_zero, List.setIfInBounds_toArray, List.set_cons_zero, List.set_cons_succ])
            refine wpAnyH_ready (rs := [10]) (by kernel_rfl) (by simp) ?_
            refine AllReadyH.cons rfl (fun K hK => ?_) AllReadyH.nil
            (try simp only [List.getElem_toArray, List.getElem_cons_succ, List.getElem_cons_zero])
            go_simp
            refine hK.out _ _ (KP.out _ _ hHeld) (fun hHeld => ?_)
            clear hK K
            (try simp only [Act.put, List.setIfInBounds_toArray, List.set_cons_zero, List.set_cons_succ])
            refine wpAnyH_done (by kernel_rfl) ?_ _
            obtain ⟨tg6, Λ6, w6, hw6, r1, r2⟩ := HEND.out _ _ _ _ _ HOWN.out HGR.out (by simpa using HAT.out) HLT3.out
            rw [hw6] at r1
            have R1 := hide r1
            have R2 := hide r2
            clear r1 r2 hw6
            go_wp2_with fail
            go_roundw
            case rel => exact ⟨i + 1, tg6, Λ6, by go_num, HLT.out, R1.out, R2.out⟩
            case measure => have := HLT.out; simp [intOf]; omega
          · (try simp only [List.getElem_toArray, List.getElem_cons_succ, List.getElem_cons_zero])
            go_simp
            refine hK.out _ _ (KA.out _ _ hHeld) (fun hHeld => ?_)
            clear hK K
            (try simp only [Act.put, List.setIfInBounds_toArray, List.set_cons_zero, List.set_cons_succ])
            refine wpAnyH_ready (rs := [4]) (by kernel_rfl) (by simp) ?_
            refine AllReadyH.cons rfl (fun K hK => ?_) AllReadyH.nil
            (try simp only [List.getElem_toArray, List.getElem_cons_succ, List.getElem_cons_zero])
            go_simp
            refine hK.out _ _ (hHeld) (fun hHeld => ?_)
            clear hK K
            (try simp only [Act.put, List.setIfInBounds_toArray, List.set_cons_zero, List.set_cons_succ])
            refine wpAnyH_ready (rs := [7]) (by kernel_rfl) (by simp) ?_
            refine AllReadyH.cons rfl (fun K hK => ?_) AllReadyH.nil
            (try simp only [List.getElem_toArray, List.getElem_cons_succ, List.getElem_cons_zero])
            rw [if_pos (by rfl)]
            refine wp_append_lies _ _ _ 157 rfl 0 156 i1 (.agg #[.slice none 0 0, .slice none 0 0]) 2 48 Tryz.underlying157 hi' hz0' hz1' hz2' rfl (by decide) ov i RW rfl (own_fr HRow.out ((Fr.refl [] _).alloc _) (fun _ _ => by simp)) ⟨w5.heap.size, 0, none⟩ 1 1 [.slice A5 j c5, .slice (Q.dA i) dn (Q.dc i)] rfl rfl (World.news_of_block (cs := #[.slice A5 j c5, .slice (Q.dA i) dn (Q.dc i)]) (Blk.new _ _ _)) (by intro u hu; simp at hu; rcases hu with rfl | rfl <;> rfl) (by decide) HK.out.1 HK.out.2 (Nat.zero_le _) _ rfl ?_
            intro g cap w3 hown hgr hat hlt
            have HOWN := hide hown
            have HGR := hide hgr
            have HAT := hide hat
            have HLT3 := hide hlt
            have d0 := (HFZ.out _ w3 ((Fr.refl [] _).alloc _) hgr).1
            have dz := (HFZ.out _ w3 ((Fr.refl [] _).alloc _) hgr).2
            have N3 : Λ.m < w3.heap.size := lt_of_cell d0
            clear hown hat hlt
            refine hK.out _ _ (KG.out _ _ HGR.out hHeld) (fun hHeld => ?_)
            clear hK K
            (try simp only [Act.put, List.setIfInBounds_toArray, List.set_cons_zero, List.set_cons_succ])
            refine wpAnyH_take (i := 8) (v := ?v8x21) rfl (by kernel_rfl) (by kernel_rfl) (by kernel_rfl) (fun _ _ _ h => h) (Or.inl ⟨by rfl, ?hy8x21⟩) (by assumption) ?rest8x21
            case hy8x21 => (intro w' hSw; (try dsimp only at hSw); (try simp only [List.getElem_toArray, List.getElem_cons_succ, List.getElem_cons_zero]); (first | (go_simp; done) | (go_simp; with_reducible rfl)))
            (try simp only [Act.put, List.getElem_toArray, List.getElem_cons_succ, List.getElem_cons_zero, List.setIfInBounds_toArray, List.set_cons_zero, List.set_cons_succ])
            refine wpAnyH_take (i := 9) (v := ?v9x22) rfl (by kernel_rfl) (by kernel_rfl) (by kernel_rfl) (fun _ _ _ h => h) (Or.inl ⟨by rfl, ?hy9x22⟩) (by assumption) ?rest9x22
            case hy9x22 => (intro w' hSw; (try dsimp only at hSw); (try simp only [List.getElem_toArray, List.getElem_cons_succ, List.getElem_cons_zero]); (first | (go_simp; done) | (go_simp; with_reducible rfl)))
            (try simp only [Act.put, List.getElem_toArray, List.getElem_cons_succ, List.getElem_cons_zero, List.setIfInBounds_toArray, List.set_cons_zero, List.set_cons_succ])
            refine wpAnyH_ready (rs := [10]) (by kernel_rfl) (by simp) ?_
            refine AllReadyH.cons rfl (fun K hK => ?_) AllReadyH.nil
            (try simp only [List.getElem_toArray, List.getElem_cons_succ, List.getElem_cons_zero])
            go_simp
            refine hK.out _ _ (KP.out _ _ hHeld) (fun hHeld => ?_)
            clear hK K
            (try simp only [Act.put, List.setIfInBounds_toArray, List.set_cons_zero, List.set_cons_succ])
            refine wpAnyH_done (by kernel_rfl) ?_ _
            obtain ⟨tg6, Λ6, w6, hw6, r1, r2⟩ := HEND.out _ _ _ _ _ HOWN.out HGR.out (by simpa using HAT.out) HLT3.out
            rw [hw6] at r1
            have R1 := hide r1
            have R2 := hide r2
            clear r1 r2 hw6
            go_wp2_with fail
            go_roundw
            case rel => exact ⟨i + 1, tg6, Λ6, by go_num, HLT.out, R1.out, R2.out⟩
            case measure => have := HLT.out; simp [intOf]; omega
    · obtain rfl : i = p.n := by omega
      have HQn : Hid (MQ W1 wr tg1 Λ1 T B 1048576 (plG p p.n (stP p 0 0))) := by rw [stP_0]; exact hq
      have HMm := hide hm
      clear hq hm
      go_wp2_with fail
      clear q14 q15 NP
      go_loopw [8] (fun v wq => ∃ (k : Nat) (tg : TG) (Λ' : ML), v = .int .i64 k ∧ k ≤ p.m ∧ MQ W1 wq tg Λ' T B 1048576 (plG p p.n (stP p k 0)) ∧ Λ'.m = Λ.m) (fun v _ => p.m - (intOf v).toNat)
      case atStart => exact ⟨0, tg1, Λ1, rfl, Nat.zero_le _, HQn.out, HMm.out⟩
      case round =>
        obtain ⟨k, tg3, Λ3, rfl, hk, hq, hm⟩ := hrel
        obtain ⟨q14, q15, NP⟩ := HCp.out _ hq.fr
        by_cases hlt : k < p.m
        · have hlt1 : (k : Int) < (p.m : Int) := by omega
          have ta := HHA.out.trans (HPl.out.ha (by omega))
          subst ta
          have HQk := hide hq
          have HMk := hide hm
          have HLT := hide hlt
          have hlB : (p.H k).length ≤ B := by have := HRt.out.hl k hlt; rw [HB9.out] at this; omega
          have hB64 := HD.out.b
          have HRf : Hid (RefsOk (p.H k) p.n) := HRt.out.hr k hlt
          obtain ⟨ln, hln⟩ : ∃ ln, ln = (p.H k).length := ⟨_, rfl⟩
          have HLN := hide hln
          rw [← hln] at hlB
          clear hq hm hln hlt
          go_wp2_with fail
          clear q14 q15 NP
          go_loopw [9] (fun v wq => ∃ (j : Nat) (tg : TG) (Λ' : ML), v = .int .i64 j ∧ j ≤ ln ∧ MQ W1 wq tg Λ' T B 1048576 (plG p p.n (stP p k j)) ∧ Λ'.m = Λ.m) (fun v _ => ln - (intOf v).toNat)
          case atStart => exact ⟨0, tg3, Λ3, rfl, Nat.zero_le _, HQk.out, HMk.out⟩
          case round =>
            obtain ⟨j, tg4, Λ4, rfl, hj, hq, hm⟩ := hrel
            obtain ⟨q14, q15, NP⟩ := HCp.out _ hq.fr
            have y0 := (HPl.out.fr0 hq.fr).h0 k HLT.out
            rw [← HLN.out] at y0
            have NH : Q.hb < wr.heap.size := lt_of_cell y0
            have HMj := hide hm
            by_cases hlj : j < ln
            · have hlj1 : (j : Int) < (ln : Int) := by omega
              obtain ⟨lb, lo, hlA, NL, hcl⟩ := HPl.out.ls k HLT.out (by rw [← HLN.out]; omega)
              have hel : wr.cell? ⟨lb, lo + j, none⟩ = some (.int .i64 ((p.H k).getD j 0)) := (hq.fr.cell (p := ⟨lb, lo + j, none⟩) NL (by simp)).trans (hcl j (by rw [← HLN.out]; exact hlj))
              have NHW : Q.hb < W1.heap.size := lt_of_cell (HPl.out.h0 k HLT.out)
              have NPW : pb < W1.heap.size := HBP.out.lt
              have hzz : 0 ≤ (p.H k).getD j 0 ∧ (p.H k).getD j 0 ≤ (p.n : Int) := HRf.out _ (by rw [List.getD_eq_getElem?_getD, List.getElem?_eq_getElem (by rw [← HLN.out]; exact hlj)]; exact List.getElem_mem _)
              have hkT : k < T := by have := HLT.out; omega
              obtain ⟨G3, hk3, ht3⟩ := hq.stk k hkT
              have hk3 : HkR wr (Λ4.S k) G3 B ((p.H k).take j) := by
                have e : (plG p p.n (stP p k j)).st k = (p.H k).take j := by show stP p k j k = _; unfold stP; rw [if_neg (by omega), if_pos rfl]
                rw [← e]
                exact hk3
              have HSP : Hid (setF (stP p k j) k ((p.H k).take j ++ [(p.H k).getD j 0]) = stP p k (j + 1)) := stP_push p k j (by rw [← HLN.out]; exact hlj)
              obtain ⟨z, hz⟩ : ∃ z, z = (p.H k).getD j 0 := ⟨_, rfl⟩
              rw [← hz] at hel hzz HSP
              have hwz : IntKind.u64.wrap z = z := IntWalk.u64_in _ ⟨by omega, by omega⟩
              have hlen : ((p.H k).take j).length < B := by rw [List.length_take]; omega
              obtain ⟨gs, os, A9, c9, s1, s2, s3, _⟩ := hq.toV.stAt hkT
              have c2 := hq.toV.c2
              rw [s1, HMj.out] at c2
              rw [hlA] at y0
              have NM : Λ.m < wr.heap.size := lt_of_cell c2
              have HS5 : Hid (∀ w', Fr [] wr w' → (w'.cell? ⟨Λ.m, 2, none⟩ = some (.slice (some ⟨gs, os, none⟩) T Λ4.sc) ∧ w'.cell? ⟨gs, os + k, none⟩ = some (.pointer (some ⟨Λ4.S k, 0, none⟩)) ∧ w'.cell? ⟨pb, 15, none⟩ = some (.slice (some ⟨Q.hb, Q.ho, none⟩) p.m Q.hc) ∧ w'.cell? ⟨Q.hb, Q.ho + k, none⟩ = some (.slice (some ⟨lb, lo, none⟩) ln (Q.lc k)) ∧ w'.cell? ⟨lb, lo + j, none⟩ = some (.int .i64 z))) := fun w' hf =>
                ⟨(hf.cell (p := ⟨Λ.m, 2, none⟩) NM (by simp)).trans c2, (hf.cell (p := ⟨gs, os + k, none⟩) s2 (by simp)).trans s3, (hf.cell (p := ⟨pb, 15, none⟩) NP (by simp)).trans q15, (hf.cell (p := ⟨Q.hb, Q.ho + k, none⟩) NH (by simp)).trans y0, (hf.cell (p := ⟨lb, lo + j, none⟩) (lt_of_cell hel) (by simp)).trans hel⟩
              have HPU : Hid (∀ w', Fr [] wr w' → Calls Tryz.prog 77 #[.pointer (some ⟨Λ4.S k, 0, none⟩), .int .u64 z] w' fun e w'' => ∃ v, e = .returned v ∧ ∃ tg6, MQ W1 w'' tg6 Λ4 T B 1048576 (plG p p.n (stP p k (j + 1))) ∧ (w''.cell? ⟨Λ.m, 2, none⟩ = some (.slice (some ⟨gs, os, none⟩) T Λ4.sc) ∧ w''.cell? ⟨gs, os + k, none⟩ = some (.pointer (some ⟨Λ4.S k, 0, none⟩)) ∧ w''.cell? ⟨pb, 15, none⟩ = some (.slice (some ⟨Q.hb, Q.ho, none⟩) p.m Q.hc) ∧ w''.cell? ⟨Q.hb, Q.ho + k, none⟩ = some (.slice (some ⟨lb, lo, none⟩) ln (Q.lc k)) ∧ w''.cell? ⟨lb, lo + j, none⟩ = some (.int .i64 z))) := fun w' hf => by
                refine (r12push_any (hk3.fr0 hf) (Nat.le_of_lt hlen) hB64 z).mono ?_
                rintro e w'' ⟨F', rfl, hr9, hf9, hn9⟩
                refine ⟨_, rfl, ?_⟩
                rw [show hkPush B ((p.H k).take j) z = (p.H k).take j ++ [z] from if_pos hlen] at hr9
                obtain ⟨tg6, h9⟩ := (hq.fr0 hf).stack hkT (by
                  have e : stP p k j k = (p.H k).take j := by unfold stP; rw [if_neg (by omega), if_pos rfl]
                  rw [e]
                  exact hk3.fr0 hf) ht3 hf9 hr9 hn9
                rw [HSP.out] at h9
                refine ⟨tg6, h9, ?_⟩
                obtain ⟨d1, d2, d3, d4, d5⟩ := HS5.out w' hf
                have hG : ∀ x, x ∈ G3 → W1.heap.size ≤ x := fun x hx => hq.new x (by rw [ht3 x hx]; show (16 : Nat) ≠ 0; decide)
                have c2' := h9.toV.c2
                rw [s1, HMj.out] at c2'
                obtain ⟨g7, o7, _, _, t1, t2, t3, _⟩ := h9.toV.stAt hkT
                rw [s1] at t1
                injection t1 with t1
                injection t1 with t1 t1'
                subst t1 t1'
                exact ⟨c2', t3, (hf9.cell (p := ⟨pb, 15, none⟩) (lt_of_cell d3) (fun h => by have := hG _ h; simp at this; omega)).trans d3, (hf9.cell (p := ⟨Q.hb, Q.ho + k, none⟩) (lt_of_cell d4) (fun h => by have := hG _ h; simp at this; omega)).trans d4, (hf9.cell (p := ⟨lb, lo + j, none⟩) (lt_of_cell d5) (fun h => by have := hG _ h; simp at this; omega)).trans d5⟩
              have HLJ := hide hlj
              clear hz hq hm hk3 ht3 hlen hcl hlA s1 s2 s3 hlj
              go_upto_region 17 with fail
              clear c2 q14 q15 NP NH y0 hel NM NL
              have HFd : Hid (Fr [] wr wr.drew) := (Fr.refl _ _).drew
              have K0 := HS5.out _ HFd.out
              go_region_held3 (fun w' => w'.cell? ⟨Λ.m, 2, none⟩ = some (.slice (some ⟨gs, os, none⟩) T Λ4.sc) ∧ w'.cell? ⟨gs, os + k, none⟩ = some (.pointer (some ⟨Λ4.S k, 0, none⟩)) ∧ w'.cell? ⟨pb, 15, none⟩ = some (.slice (some ⟨Q.hb, Q.ho, none⟩) p.m Q.hc) ∧ w'.cell? ⟨Q.hb, Q.ho + k, none⟩ = some (.slice (some ⟨lb, lo, none⟩) ln (Q.lc k)) ∧ w'.cell? ⟨lb, lo + j, none⟩ = some (.int .i64 z))
                (first | with_reducible exact K0 | go_keep)
                (first | (go_at_call 77; refine (HPU.out _ HFd.out).mono ?_; rintro e w6 ⟨v6, rfl, tg6, hq6, hc6⟩; have HQ6 := hide hq6; have K0 := hc6; clear hq6 hc6))
              all_goals
                clear K0
                go_wp2_with fail
                go_roundw
                case rel => exact ⟨j + 1, tg6, Λ4, by go_num, HLJ.out, HQ6.out, HMj.out⟩
                case measure => have := HLJ.out; simp [intOf]; omega
            · obtain rfl : j = ln := by omega
              have HQj : Hid (MQ W1 wr tg4 Λ4 T B 1048576 (plG p p.n (stP p (k + 1) 0))) := by
                have := hq
                rw [HLN.out, stP_next] at this
                exact this
              clear hq hm
              go_wp2_with fail
              go_roundw
              case rel => exact ⟨k + 1, tg4, Λ4, by go_num, HLT.out, HQj.out, HMj.out⟩
              case measure => have := HLT.out; simp [intOf]; omega
        · obtain rfl : k = p.m := by omega
          have HV : Hid (MV wr Λ3 T T B 1048576 (plG p p.n (stP p p.m 0)) ∧ Fr [] W wr) := ⟨hq.toV, HFW.out.trans_same hq.fr⟩
          have HMk := hide hm
          clear hq hm
          go_wp2_with fail
          go_ret
          exact ⟨Λ3, by simp [HMk.out], HV.out.1, HV.out.2⟩
end Go.Proofs.YtapglokadaibnaaGreatDoor
