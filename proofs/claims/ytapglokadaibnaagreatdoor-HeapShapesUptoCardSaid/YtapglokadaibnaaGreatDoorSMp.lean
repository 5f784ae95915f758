/- A map's block as a function from keys to elements: looked up, written, deleted from, ranged over while entries are deleted. -/
import Derived.Test.YtapglokadaibnaaGreatDoorSKit
import Derived.Maps.RangeWalk
namespace Go.Gl
set_option linter.unusedVariables false
open Go.RowKit Go.ChangeMaps Go.MapKept
open Go.Maps (Keyed)

structure Ents (P : Program) (k : TypeId) (es : Array MapEntry) (clock : Nat) (f : Value → Option Value) : Prop where
  st : Stamped es clock
  key : ∀ e ∈ es.toList, ∃ l, keyOf P k e.key = some l
  val : ∀ e ∈ es.toList, f e.key = some e.val
  ofF : ∀ x v, f x = some v → ∃ e ∈ es.toList, e.key = x ∧ e.val = v
/-- Block b is a map whose keys are of the type k; f: what it has at each key. -/
def Mp (P : Program) (k : TypeId) (w : World) (b : Nat) (f : Value → Option Value) : Prop := ∃ es clock, w.heap[b]? = some (.map es clock) ∧ Ents P k es clock f
/-- From w to w' block b has lost its entry at key, if it had one; no other has turned. -/
def Lost (w w' : World) (b : Nat) (key : Value) : Prop := ∀ es clock, w.heap[b]? = some (.map es clock) → ∃ es', w'.heap[b]? = some (.map es' clock) ∧ es'.toList.Sublist es.toList ∧ ∀ x, x ∈ es'.toList ↔ x ∈ es.toList ∧ x.key ≠ key
open Classical in
noncomputable def upF (f : Value → Option Value) (key v : Value) : Value → Option Value := fun x => if x = key then some v else f x
open Classical in
noncomputable def offF (f : Value → Option Value) (key : Value) : Value → Option Value := fun x => if x = key then none else f x
theorem upF_at (f : Value → Option Value) (key v : Value) : upF f key v key = some v := by simp [upF]
theorem upF_ne (f : Value → Option Value) {key x : Value} (v : Value) (h : x ≠ key) : upF f key v x = f x := by simp [upF, h]
theorem fr_setBlock (w : World) (b : Nat) (o : Obj) : Fr [b] w (setBlock w b o) :=
  ⟨rfl, rfl, rfl, by simp [setBlock], fun i _ hi => by
    have : i ≠ b := by simpa using hi
    simp only [setBlock, Array.getElem?_setIfInBounds]
    rw [if_neg (Ne.symm this)]⟩
section
variable {P : Program} {k : TypeId} {w w' : World} {b : Nat} {f g : Value → Option Value} {F : List Nat}
theorem Mp.lt (h : Mp P k w b f) : b < w.heap.size := by
  obtain ⟨es, clock, hb, _⟩ := h
  exact (Array.getElem?_eq_some_iff.1 hb).1
theorem Mp.fr (h : Mp P k w b f) (hf : Fr F w w') (hb : b ∉ F) : Mp P k w' b f := by
  have hl := h.lt
  obtain ⟨es, clock, hb', E⟩ := h
  exact ⟨es, clock, (hf.block b hl hb).trans hb', E⟩
theorem Mp.fr0 (h : Mp P k w b f) (hf : Fr [] w w') : Mp P k w' b f := h.fr hf (by simp)
theorem Mp.blk_ne {c : Nat} {t : TypeId} {cs : Array Value} (h : Mp P k w b f) (hc : Blk w c t cs) : b ≠ c := by
  rintro rfl
  obtain ⟨es, clock, hb, _⟩ := h
  unfold Blk at hc
  rw [hb] at hc
  cases hc
theorem Mp.made (w : World) : Mp P k (w.alloc (.map #[] 0)) w.heap.size (fun _ => none) :=
  ⟨#[], 0, heap_alloc_new w _, stamped_empty 0, by simp, by simp, by simp⟩
theorem Mp.look {t e : TypeId} {z key : Value} {kl : Lit} (h : Mp P k w b f) (K : Keyed P k) (ht : P.underlying t = some (.map k e)) (hz : (zeroValue e).run P w = .ok z w) (hkey : keyOf P k key = some kl) :
    (Instr.lookup t (.map (some b)) key false).run P w = .ok ((f key).getD z) w := by
  obtain ⟨es, clock, hb, E⟩ := h
  rcases K.find w hkey es.toList E.key with ⟨h1, h2⟩ | ⟨j, e0, h1, h2, h3⟩
  · have : f key = none := by
      cases hf : f key with
      | none => rfl
      | some v => obtain ⟨x, hx, h5, _⟩ := E.ofF key v hf; exact absurd h5 (h2 x hx)
    simp [Instr.lookup, run_underlying ht, MapKept.run_getObj_map hb, K.check w _ hkey, h1, hz, Result.andThen, this]
  · have : f key = some e0.val := h3 ▸ E.val e0 (List.mem_of_getElem? h2)
    simp [Instr.lookup, run_underlying ht, MapKept.run_getObj_map hb, K.check w _ hkey, h1, Result.andThen, this]
theorem other_key' {es : Array MapEntry} {clock : Nat} (h : Stamped es clock) {j i : Nat} {e0 x : MapEntry} (h0 : es.toList[j]? = some e0) (hx : es.toList[i]? = some x) (hne : i ≠ j) : x.key ≠ e0.key := by
  have hp := ((stamped_iff es clock).1 h).2.2
  rw [List.pairwise_iff_getElem] at hp
  obtain ⟨hj, rfl⟩ := List.getElem?_eq_some_iff.1 h0
  obtain ⟨hi, rfl⟩ := List.getElem?_eq_some_iff.1 hx
  rcases Nat.lt_or_gt_of_ne hne with h1 | h1
  · exact hp i j hi hj h1
  · exact (hp j i hj hi h1).symm
theorem Mp.update {t e : TypeId} {key val : Value} {kl : Lit} (h : Mp P k w b f) (K : Keyed P k) (ht : P.underlying t = some (.map k e)) (hkey : keyOf P k key = some kl) :
    ∃ w', (Instr.mapUpdate t (.map (some b)) key val).run P w = .ok () w' ∧ Mp P k w' b (upF f key val) ∧ Fr [b] w w' := by
  obtain ⟨es, clock, hb, E⟩ := h
  rcases K.find w hkey es.toList E.key with ⟨h1, h2⟩ | ⟨j, e0, h1, h2, h3⟩
  · refine ⟨setBlock w b (.map (es.push ⟨key, val, clock⟩) (clock + 1)), ?_, ⟨_, _, heap_setBlock_same hb _, stamped_push E.st h2, ?_, ?_, ?_⟩, fr_setBlock _ _ _⟩
    · simp [Instr.mapUpdate, run_underlying ht, MapKept.run_getObj_map hb, K.check w false hkey, h1, MapKept.run_setObj_map _ hb, Result.andThen, setBlock]
    · intro x hx
      simp only [Array.toList_push, List.mem_append, List.mem_singleton] at hx
      rcases hx with hx | rfl
      · exact E.key x hx
      · exact ⟨_, hkey⟩
    · intro x hx
      simp only [Array.toList_push, List.mem_append, List.mem_singleton] at hx
      rcases hx with hx | rfl
      · rw [upF_ne _ _ (h2 x hx)]; exact E.val x hx
      · exact upF_at _ _ _
    · intro x v hx
      by_cases e : x = key
      · subst e
        rw [upF_at] at hx
        cases hx
        exact ⟨⟨x, val, clock⟩, by simp, rfl, rfl⟩
      · rw [upF_ne _ _ e] at hx
        obtain ⟨y, hy, h5, h6⟩ := E.ofF x v hx
        exact ⟨y, by simp at hy ⊢; exact .inl hy, h5, h6⟩
  · have hj : es[j]? = some e0 := by simpa using h2
    have hlist : (es.modify j (fun e' => { e' with key := key, val := val })).toList = es.toList.set j { e0 with key := key, val := val } := by rw [Array.toList_modify, modify_eq_set _ _ _ _ h2]
    have hjl : j < es.toList.length := (List.getElem?_eq_some_iff.1 h2).1
    have who : ∀ x ∈ es.toList.set j { e0 with key := key, val := val }, x = { e0 with key := key, val := val } ∨ (x ∈ es.toList ∧ x.key ≠ key) := by
      intro x hx
      obtain ⟨i, hi, ex⟩ := List.getElem_of_mem hx
      rw [List.getElem_set] at ex
      split at ex
      · exact .inl ex.symm
      · rename_i hne
        have hi' : i < es.toList.length := by simpa using hi
        refine .inr ⟨ex ▸ List.getElem_mem hi', ?_⟩
        rw [← h3]
        exact other_key' E.st h2 (by rw [List.getElem?_eq_getElem hi', ex]) (fun e1 => hne e1.symm)
    refine ⟨setBlock w b (.map (es.modify j (fun e' => { e' with key := key, val := val })) clock), ?_, ⟨_, _, heap_setBlock_same hb _, stamped_modify E.st _ _ (fun _ _ => rfl) (fun e' _ he' => by rw [hj] at he'; cases he'; exact h3.symm), ?_, ?_, ?_⟩, fr_setBlock _ _ _⟩
    · simp [Instr.mapUpdate, run_underlying ht, MapKept.run_getObj_map hb, K.check w false hkey, h1, hj, h3, K.stays w hkey, MapKept.run_setObj_map _ hb, Result.andThen, setBlock]
    · intro x hx
      rw [hlist] at hx
      rcases who x hx with rfl | ⟨hx', _⟩
      · exact ⟨_, hkey⟩
      · exact E.key x hx'
    · intro x hx
      rw [hlist] at hx
      rcases who x hx with rfl | ⟨hx', hne⟩
      · exact upF_at _ _ _
      · rw [upF_ne _ _ hne]; exact E.val x hx'
    · intro x v hx
      rw [hlist]
      by_cases e : x = key
      · subst e
        rw [upF_at] at hx
        cases hx
        exact ⟨{ e0 with key := x, val := val }, List.mem_iff_getElem.2 ⟨j, by simpa using hjl, by simp⟩, rfl, rfl⟩
      · rw [upF_ne _ _ e] at hx
        obtain ⟨y, hy, h5, h6⟩ := E.ofF x v hx
        obtain ⟨i, hi⟩ := List.getElem?_of_mem hy
        have hne : j ≠ i := by
          rintro rfl
          rw [h2] at hi
          cases hi
          exact e (h5.symm.trans h3)
        exact ⟨y, List.mem_of_getElem? (by rw [List.getElem?_set_ne hne]; exact hi), h5, h6⟩
/-- 'for k := range m' under way: r: the iterator's block; left: is this key still to come? cnt: how many are. -/
def Rng (P : Program) (k : TypeId) (w : World) (b r : Nat) (f : Value → Option Value) (left : Value → Prop) (cnt : Nat) : Prop :=
  ∃ es clock since seen c0, w.heap[b]? = some (.map es clock) ∧ Ents P k es clock f ∧ w.heap[r]? = some (.mapIter (some b) since seen c0) ∧ (∀ x ∈ es.toList, x.born < since) ∧ since ≤ c0 ∧ since ≤ clock ∧
    (leftOf es seen).size = cnt ∧ ∀ x ∈ es.toList, left x.key ↔ seen.contains x.born = false
/-- How many entries are still to come, read off the world. -/
def rngLeft (w : World) (b r : Nat) : Nat :=
  match w.heap[b]?, w.heap[r]? with
  | some (.map es _), some (.mapIter _ _ seen _) => (leftOf es seen).size
  | _, _ => 0
variable {r cnt : Nat} {left : Value → Prop}
end

/-! At the operations. -/
section
variable {P : Program} {k : TypeId} {w w0 : World} {b : Nat} {f : Value → Option Value} {ops : Array Oper} {o : Oper} {a : Act} {K : Act → World → Prop} {Q : Exit → Act → World → Prop}
theorem wp_update (m x y : Operand) (t : TypeId) (hop : o.op = Op.mapUpdate t m x y) {e : TypeId} (Ky : Keyed P k) (ht : P.underlying t = some (.map k e))
    (h : Mp P k w0 b f) (hf : Fr [] w0 w) (hm : a.eval m = .map (some b)) {key v : Value} {kl : Lit} (hx : a.eval x = key) (hkey : keyOf P k key = some kl) (hy : a.eval y = v)
    (hK : ∀ w', Hid (Mp P k w' b (upF f key v)) → Hid (Fr [b] w w') → K (a.put o.dst undef) w') : Oper.wp P o a w K Q := by
  obtain ⟨w', hrun, r1, r2⟩ := (h.fr0 hf).update (val := v) Ky ht hkey
  unfold Oper.wp
  simp [execOp, hop, hm, hx, hy, hrun, Result.andThen]
  exact hK w' r1 r2
/-- An operation's law is a step of the walk .. -/
theorem list_of {rest : List Oper} (hg : o.guard = none) (h : ∀ K : Act → World → Prop, (∀ a' w', wpList P ops Q rest a' w' → K a' w') → Oper.wp P o a w K Q) : wpList P ops Q (o :: rest) a w := wpList_plain hg h
end
end Go.Gl
