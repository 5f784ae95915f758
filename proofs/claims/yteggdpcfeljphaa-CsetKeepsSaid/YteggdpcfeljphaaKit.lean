/- The builtins copy and clear over a row that is known whole, and a row of whole numbers given by a function. -/
import Derived.Below
import Derived.OwnWalk
import Derived.Deep.Draws
import Derived.Deep.QuietTactic
import Derived.BigQuiet
import Derived.Laws.Rows
import Derived.StillTailTactics
import Derived.Laws.CopyOwn
import Derived.Lib.SliceRun
namespace Go.Gl
set_option linter.unusedVariables false
open Go.RowKit

/-- Only the blocks of F, and what is new, may have turned. -/
structure Fr (F : List Nat) (w w' : World) : Prop where
  os : w'.os = w.os
  tape : w'.tape = w.tape
  output : w'.output = w.output
  size : w.heap.size ≤ w'.heap.size
  block : ∀ k, k < w.heap.size → k ∉ F → w'.heap[k]? = w.heap[k]?

section
variable {F G : List Nat} {a b c w w' : World}
theorem Fr.refl (F : List Nat) (w : World) : Fr F w w := ⟨rfl, rfl, rfl, Nat.le_refl _, fun _ _ _ => rfl⟩
theorem Fr.trans (h : Fr F a b) (k : Fr G b c) (hG : ∀ x, x ∈ G → x ∈ F ∨ a.heap.size ≤ x) : Fr F a c :=
  ⟨k.os.trans h.os, k.tape.trans h.tape, k.output.trans h.output, Nat.le_trans h.size k.size, fun i hi hF => by
    have hs := h.size
    refine (k.block i (by omega) fun hg => ?_).trans (h.block i hi hF)
    rcases hG i hg with hx | hx
    · exact hF hx
    · omega⟩
theorem Fr.trans_nil (h : Fr F a b) (k : Fr [] b c) : Fr F a c := h.trans k (fun _ hx => by cases hx)
theorem Fr.trans_same (h : Fr F a b) (k : Fr F b c) : Fr F a c := h.trans k (fun _ hx => .inl hx)
theorem Fr.mono (h : Fr F a b) (hF : ∀ x, x ∈ F → x ∈ G ∨ a.heap.size ≤ x) : Fr G a b :=
  ⟨h.os, h.tape, h.output, h.size, fun i hi hG => h.block i hi fun hf => by
    rcases hF i hf with hx | hx
    · exact hG hx
    · omega⟩
theorem Fr.drew (h : Fr F a b) : Fr F a b.drew := ⟨h.os, h.tape, h.output, h.size, h.block⟩
theorem Fr.drewN (h : Fr F a b) (n : Nat) : Fr F a (b.drewN n) := ⟨h.os, h.tape, h.output, h.size, h.block⟩
theorem Fr.from_drewN {n : Nat} (h : Fr F (a.drewN n) b) : Fr F a b := ⟨h.os, h.tape, h.output, h.size, h.block⟩
theorem Fr.from_drew (h : Fr F a.drew b) : Fr F a b := ⟨h.os, h.tape, h.output, h.size, h.block⟩
theorem Fr.alloc (h : Fr F a b) (o : Obj) : Fr F a (b.alloc o) :=
  h.trans_nil ⟨rfl, rfl, rfl, by simp, fun k hk _ => Below.heap_alloc _ _ _ hk⟩
theorem Fr.setCell (h : Fr F a b) {p : Addr} (hp : p.block ∈ F ∨ a.heap.size ≤ p.block) (u : Value) : Fr F a (b.setCell p u) :=
  h.trans (G := [p.block]) ⟨rfl, rfl, rfl, by simp [World.setCell], fun k _ hk => Below.heap_setCell _ _ _ _ (by simpa using hk)⟩
    (fun x hx => by rw [List.mem_singleton] at hx; subst hx; exact hp)
theorem Fr.grown {row : Option Nat} (h : Fr F a b) (hg : b.grownBy c row) (hr : ∀ k, row = some k → k ∈ F ∨ a.heap.size ≤ k) : Fr F a c :=
  h.trans (G := row.toList) ⟨hg.os, hg.tape, hg.output, hg.size, fun k hk hn => hg.block k hk (fun e => hn (by rw [← e]; simp))⟩
    (fun x hx => hr x (by simpa using hx))
theorem Fr.below (h : Fr F a b) {B : Nat} (hB : B ≤ a.heap.size) (hF : ∀ x, x ∈ F → B ≤ x) : Below B a b :=
  ⟨h.os, h.tape, h.output, h.size, fun k hk => h.block k (by omega) (fun hx => by have := hF k hx; omega)⟩
theorem Fr.below_nil (h : Fr [] a b) : Below a.heap.size a b := h.below (Nat.le_refl _) (fun _ hx => by cases hx)
theorem Fr.of_below (h : Below a.heap.size a b) : Fr F a b := ⟨h.os, h.tape, h.output, h.size, fun k hk _ => h.block k hk⟩
theorem Fr.cell (h : Fr F a b) {p : Addr} (hp : p.block < a.heap.size) (hF : p.block ∉ F) : b.cell? p = a.cell? p := World.cell?_of_block (w := a) (h.block p.block hp hF)
theorem Fr.frozen (h : Fr F a b) {p : Addr} (hp : p.block < a.heap.size) (hF : p.block ∉ F) : b.frozen? p = a.frozen? p := World.frozen?_of_block (w := a) (h.block p.block hp hF)
end

/-- Block g is just the cells cs of the element type t, none of them frozen. -/
def Blk (w : World) (g : Nat) (t : TypeId) (cs : Array Value) : Prop := w.heap[g]? = some (.cells cs t (0, 0))

section
variable {w w' : World} {g : Nat} {t : TypeId} {cs : Array Value} {F : List Nat}
theorem Blk.lt (h : Blk w g t cs) : g < w.heap.size := by
  rcases Nat.lt_or_ge g w.heap.size with hlt | hge
  · exact hlt
  · unfold Blk at h; rw [Array.getElem?_eq_none hge] at h; cases h
theorem Blk.cell (h : Blk w g t cs) (i : Nat) : w.cell? ⟨g, i, none⟩ = cs[i]? := cell_of_row w g i cs t (0, 0) h
theorem Blk.frozen (h : Blk w g t cs) (i : Nat) : w.frozen? ⟨g, i, none⟩ = false := by
  unfold Blk at h
  simp [World.frozen?, h]
theorem Blk.new (w : World) (t : TypeId) (cs : Array Value) : Blk (w.alloc (.cells cs t)) w.heap.size t cs := heap_alloc_new w _
theorem Blk.new_at {w : World} {n : Nat} (t : TypeId) (cs : Array Value) (h : w.heap.size = n) : Blk (w.alloc (.cells cs t)) n t cs := h ▸ Blk.new w t cs
theorem Blk.drewN (h : Blk w g t cs) (n : Nat) : Blk (w.drewN n) g t cs := h
theorem Blk.drew (h : Blk w g t cs) : Blk w.drew g t cs := h
theorem Blk.alloc (h : Blk w g t cs) (o : Obj) : Blk (w.alloc o) g t cs := (Below.heap_alloc w o g h.lt).trans h
theorem Blk.put (h : Blk w g t cs) (i : Nat) (u : Value) : Blk (w.setCell ⟨g, i, none⟩ u) g t (cs.setIfInBounds i u) := by
  unfold Blk at h ⊢
  simp [World.setCell, Array.getElem?_modify, h]
theorem Blk.far (h : Blk w g t cs) {p : Addr} (hp : g ≠ p.block) (u : Value) : Blk (w.setCell p u) g t cs := (Below.heap_setCell w p u g hp).trans h
theorem Blk.fr (h : Blk w g t cs) (hf : Fr F w w') (hg : g ∉ F) : Blk w' g t cs := (hf.block g h.lt hg).trans h
theorem Blk.apart {g' : Nat} {t' : TypeId} {cs' : Array Value} (h : Blk w g t cs) (h' : Blk w g' t' cs') (hne : t ≠ t') : g ≠ g' := by
  rintro rfl
  unfold Blk at h h'
  rw [h] at h'
  injection h' with h'
  injection h' with _ ht
  exact hne ht
theorem Blk.same {t' : TypeId} {cs' : Array Value} (h : Blk w g t cs) (h' : Blk w g t' cs') : cs = cs' := by
  unfold Blk at h h'
  rw [h] at h'
  injection h' with h'
  injection h' with hc
end

/-- A row that was made whole is a block of its own. -/
theorem own_full {w : World} {base g n size : Nat} {e : TypeId} {xs : List Value} (h : w.ownsRow base e size (.slice (some ⟨g, 0, none⟩) n n) n xs) : Blk w g e xs.toArray := by
  rcases h.2 with ⟨h1, _⟩ | ⟨g', cap, cur, hv, _, hh, _, _, hs, hx⟩
  · cases h1
  · injection hv with h1 h2 h3
    injection h1 with h1
    injection h1 with h1 _ _
    subst h1 h3
    unfold Blk
    rw [hh]
    have : cur.toList = xs := by rw [← hx, List.take_of_length_le (by simp [hs])]
    rw [← this, Array.toArray_toList]
theorem made_one (v : Value) (h : v.cells = #[v]) (n : Nat) : (madeCells v.cells n).toList = List.replicate n v := by
  rw [h]
  apply List.ext_getElem
  · simp [madeCells]
  · intro i h1 h2
    simp [madeCells, Nat.mod_one]
/-- Behind an append onto a row of the call's own. -/
theorem own_grown {F : List Nat} {w b b0 c : World} {e : TypeId} {size n : Nat} {v : Value} {xs : List Value} (h : Fr F w b) (ho : b0.ownsRow w.heap.size e size v n xs) (hg : b.grownBy c v.ownBlock) : Fr F w c :=
  h.grown hg fun k hk => by
    rcases ho.2 with ⟨rfl, _⟩ | ⟨g, cap, cur, rfl, hb, _⟩
    · cases hk
    · injection hk with hk
      subst hk
      exact .inr hb
/-- What an owned row of one-cell elements is: nil, or the head of a block of its own. -/
theorem own_blk {w : World} {base n : Nat} {e : TypeId} {v : Value} {xs : List Value} (h : w.ownsRow base e 1 v n xs) :
    (v = .slice none 0 0 ∧ n = 0 ∧ xs = []) ∨ ∃ g cap cur, v = .slice (some ⟨g, 0, none⟩) n cap ∧ base ≤ g ∧ Blk w g e cur ∧ n ≤ cap ∧ cap ≤ maxLen ∧ cur.size = cap ∧ cur.toList.take n = xs ∧ xs.length = n := by
  obtain ⟨hl, h⟩ := h
  rcases h with ⟨h1, h2⟩ | ⟨g, cap, cur, h1, h2, h3, h4, h5, h6, h7⟩
  · subst h2
    exact .inl ⟨h1, rfl, List.eq_nil_of_length_eq_zero (by simpa using hl)⟩
  · exact .inr ⟨g, cap, cur, h1, h2, h3, h4, h5, by simpa using h6, by simpa using h7, by simpa using hl⟩
theorem own_fr {F : List Nat} {w w' : World} {base n size : Nat} {e : TypeId} {v : Value} {xs : List Value} (h : w.ownsRow base e size v n xs) (hf : Fr F w w') (hg : ∀ g, v.ownBlock = some g → g ∉ F) : w'.ownsRow base e size v n xs := by
  obtain ⟨hl, h⟩ := h
  refine ⟨hl, ?_⟩
  rcases h with h | ⟨g, cap, cur, h1, h2, h3, h4⟩
  · exact .inl h
  · refine .inr ⟨g, cap, cur, h1, h2, ?_, h4⟩
    subst h1
    exact Blk.fr (t := e) h3 hf (hg g rfl)
/-- The slice at A reads as the n cells f: an address is asked for only where there is an element. -/
def Sl (w : World) (A : Option Addr) (n : Nat) (f : Nat → Value) : Prop :=
  0 < n → ∃ b off, A = some ⟨b, off, none⟩ ∧ b < w.heap.size ∧ ∀ k, k < n → w.cell? ⟨b, off + k, none⟩ = some (f k)
theorem Sl.below {W w w' : World} {A : Option Addr} {n : Nat} {f : Nat → Value} (h : Sl w A n f) (hb : Below w.heap.size w w') : Sl w' A n f := fun hn => by
  obtain ⟨b, off, h1, h2, h3⟩ := h hn
  exact ⟨b, off, h1, Nat.lt_of_lt_of_le h2 hb.size, fun k hk => (hb.cell (p := ⟨b, off + k, none⟩) h2).trans (h3 k hk)⟩
theorem Sl.fr {F : List Nat} {w w' : World} {A : Option Addr} {n : Nat} {f : Nat → Value} (h : Sl w A n f) (hf : Fr F w w') (hF : ∀ x, x ∈ F → w.heap.size ≤ x) : Sl w' A n f :=
  h.below (W := w) (hf.below (Nat.le_refl _) hF)
theorem Sl.own {w : World} {base n : Nat} {e : TypeId} {v : Value} {xs : List Value} (h : w.ownsRow base e 1 v n xs) : ∃ A c, v = .slice A n c ∧ Sl w A n (fun k => xs.getD k undef) := by
  rcases own_blk h with ⟨rfl, rfl, rfl⟩ | ⟨g, cap, cur, rfl, _, hb, h1, _, h2, h3, h4⟩
  · exact ⟨none, 0, rfl, fun h => absurd h (by decide)⟩
  · refine ⟨_, _, rfl, fun _ => ⟨g, 0, rfl, hb.lt, fun k hk => ?_⟩⟩
    rw [hb.cell, Nat.zero_add]
    subst h3
    have hlt : k < cur.size := by omega
    simp [hk, hlt]
theorem own_ne {w : World} {base n size : Nat} {e : TypeId} {v : Value} {xs : List Value} (h : w.ownsRow base e size v n xs) {g : Nat} {t : TypeId} {cs : Array Value} (hb : Blk w g t cs) (hne : e ≠ t) : ∀ x, v.ownBlock = some x → x ≠ g := by
  rcases h.2 with ⟨rfl, _⟩ | ⟨g', cap, cur, rfl, _, hh, _⟩
  · intro x hx; cases hx
  · intro x hx
    injection hx with hx
    subst hx
    exact Blk.apart (t := e) hh hb hne
theorem own_open {w : World} {base n : Nat} {e : TypeId} {v : Value} {xs : List Value} (h : w.ownsRow base e 1 v n xs) :
    ∃ A c G, v = .slice A n c ∧ n ≤ maxLen ∧ v.ownBlock.toList = G ∧ (∀ x, x ∈ G → base ≤ x ∧ ∃ cs, Blk w x e cs) ∧ (0 < n → ∃ g cur, A = some ⟨g, 0, none⟩ ∧ G = [g] ∧ Blk w g e cur ∧ n ≤ cur.size ∧ cur.toList.take n = xs) := by
  rcases own_blk h with ⟨rfl, rfl, rfl⟩ | ⟨g, cap, cur, rfl, hbase, hb, h1, h0, h2, h3, h4⟩
  · exact ⟨none, 0, [], rfl, Nat.zero_le _, rfl, (fun x hx => by cases hx), (fun h => absurd h (by decide))⟩
  · exact ⟨_, _, [g], rfl, by omega, rfl, (fun x hx => by simp at hx; subst hx; exact ⟨hbase, cur, hb⟩), fun _ => ⟨g, cur, rfl, rfl, hb, by omega, h3⟩⟩
/-- The least, the greatest of three. -/
theorem wpList_min3 {P : Program} (w : World) {ops : Array Oper} {rest : List Oper} {o : Oper} {a : Act} {Q : Exit → Act → World → Prop} (hg : o.guard = none) (x y z : Operand) (ts : Array TypeId)
    (ho : o.op = Op.call { callee := .builtin .min, args := #[x, y, z], argTypes := ts }) (k : IntKind) (X Y Z : Int) (hx : a.eval x = .int k X) (hy : a.eval y = .int k Y) (hz : a.eval z = .int k Z)
    (h : ∀ m : Int, m ≤ X → m ≤ Y → m ≤ Z → (m = X ∨ m = Y ∨ m = Z) → wpList P ops Q rest (a.put o.dst (.int k m)) w) : wpList P ops Q (o :: rest) a w := by
  refine wpList_plain hg fun K hK => ?_
  have hrun : (Builtin.min_ ts o.type #[.int k X, .int k Y, .int k Z]).run P w = .ok (.int k (if Z < (if Y < X then Y else X) then Z else (if Y < X then Y else X))) w := by simp [Builtin.min_, Builtin.min2]
  unfold Oper.wp
  simp [execOp, ho, resolve, invoke, builtin, hx, hy, hz, hrun, Result.andThen]
  refine hK _ _ (h _ ?_ ?_ ?_ ?_) <;> split <;> split <;> omega
theorem wpList_max3 {P : Program} (w : World) {ops : Array Oper} {rest : List Oper} {o : Oper} {a : Act} {Q : Exit → Act → World → Prop} (hg : o.guard = none) (x y z : Operand) (ts : Array TypeId)
    (ho : o.op = Op.call { callee := .builtin .max, args := #[x, y, z], argTypes := ts }) (k : IntKind) (X Y Z : Int) (hx : a.eval x = .int k X) (hy : a.eval y = .int k Y) (hz : a.eval z = .int k Z)
    (h : ∀ m : Int, X ≤ m → Y ≤ m → Z ≤ m → (m = X ∨ m = Y ∨ m = Z) → wpList P ops Q rest (a.put o.dst (.int k m)) w) : wpList P ops Q (o :: rest) a w := by
  refine wpList_plain hg fun K hK => ?_
  have hrun : (Builtin.max_ ts o.type #[.int k X, .int k Y, .int k Z]).run P w = .ok (.int k (if Z > (if Y > X then Y else X) then Z else (if Y > X then Y else X))) w := by simp [Builtin.max_, Builtin.max2]
  unfold Oper.wp
  simp [execOp, ho, resolve, invoke, builtin, hx, hy, hz, hrun, Result.andThen]
  refine hK _ _ (h _ ?_ ?_ ?_ ?_) <;> split <;> split <;> omega
theorem own_far {w : World} {base n size : Nat} {e : TypeId} {v : Value} {xs : List Value} (h : w.ownsRow base e size v n xs) {g : Nat} (hg : g < base) : g ∉ v.ownBlock.toList := by
  rcases h.2 with ⟨rfl, _⟩ | ⟨g', cap, cur, rfl, hb, _⟩
  · simp [Value.ownBlock]
  · simp [Value.ownBlock]; omega
/-- Behind an append onto a row of one's own: only that row's block has turned. -/
theorem grown_fr {w c : World} {row : Option Nat} (hg : w.grownBy c row) : Fr row.toList w c := (Fr.refl _ _).grown hg fun k hk => .inl (by simp [hk])
theorem lt_of_cell {w : World} {p : Addr} {v : Value} (h : w.cell? p = some v) : p.block < w.heap.size := by
  rcases Nat.lt_or_ge p.block w.heap.size with hl | hl
  · exact hl
  · simp [World.cell?, Array.getElem?_eq_none hl] at h
/-- The worlds of a class, as things that are named. -/
structure Cls (C : World → Prop) where
  w : World
  ok : C w
/-- A region that draws its order, whose operations each yield one value in every world of a class and leave a world of it: one walk of the text's order. -/
theorem wp_region_cls {P : Program} {id : Nat} {Q : Exit → Act → World → Prop} {a : Act} {w : World} {l : List Oper} (C : World → Prop) (hm : P.follows .mixedOrders = true) (hB : Region.lexB .any l.toArray = true) (h0 : C w.drew)
    (h : wpQuiet P l.toArray (fun w' => ∃ u : Cls C, w' = u.w) (fun a' => ∀ w', (∃ u : Cls C, w' = u.w) → Q .normal a' w') l a) : (Code.region id l.toArray true).wp P Q a w :=
  wp_region_quiet (C := fun w' => ∃ u : Cls C, w' = u.w) hm hB ⟨⟨w.drew, h0⟩, rfl⟩ (by simpa using h)
instance Cls.there {F : List Nat} {w : World} : Nonempty (Cls (Fr F w)) := ⟨⟨w, Fr.refl _ _⟩⟩
/-- A call that yields one value in such a world. -/
theorem Cls.call {P : Program} {f : FuncId} {args : Array Value} {C : World → Prop} {v : Value} {u : Cls C} (h : Calls P f args u.w fun e w' => e = .returned v ∧ C w') : Calls P f args u.w fun e w'' => e = .returned v ∧ ∃ u' : Cls C, w'' = u'.w :=
  h.mono fun _ w' ⟨he, hc⟩ => ⟨he, ⟨w', hc⟩, rfl⟩
theorem Cls.grow {P : Program} {f : FuncId} {args : Array Value} {w : World} {v : Value} {u : Cls (Fr [] w)} (h : Calls P f args u.w fun e w' => e = .returned v ∧ Fr [] u.w w') : Calls P f args u.w fun e w'' => e = .returned v ∧ ∃ u' : Cls (Fr [] w), w'' = u'.w :=
  Cls.call (h.mono fun _ _ ⟨he, hf⟩ => ⟨he, u.ok.trans_same hf⟩)
/-- A class that new memory does not leave. -/
def Stable (C : World → Prop) : Prop := ∀ w w', C w → Fr [] w w' → C w'
theorem Cls.grows {P : Program} {f : FuncId} {args : Array Value} {C : World → Prop} (hs : Stable C) {v : Value} {u : Cls C} (h : Calls P f args u.w fun e w' => e = .returned v ∧ Fr [] u.w w') : Calls P f args u.w fun e w'' => e = .returned v ∧ ∃ u' : Cls C, w'' = u'.w :=
  Cls.call (h.mono fun _ _ ⟨he, hf⟩ => ⟨he, hs _ _ u.ok hf⟩)
theorem Cls.drew {C : World → Prop} (hs : Stable C) (u : Cls C) : C u.w.drew := hs _ _ u.ok (Fr.refl _ _).drew
theorem Cls.cell {w : World} {F : List Nat} {p : Addr} {v : Value} (u : Cls (Fr F w)) (h : w.cell? p = some v) (hF : p.block ∉ F) : u.w.cell? p = some v := (u.ok.cell (lt_of_cell h) hF).trans h
theorem hide {p : Prop} (h : p) : Hid p := h
theorem ret_int {k : IntKind} {a b : Int} (h : a = b) : Ending.returned (.int k a) = .returned (.int k b) := by rw [h]
theorem ret_bool {a b : Bool} (h : a = b) : Ending.returned (.bool a) = .returned (.bool b) := by rw [h]
theorem ret_ii {k k' : IntKind} {a b c d : Int} (h : a = b) (h' : c = d) : Ending.returned (.tuple #[.int k a, .int k' c]) = .returned (.tuple #[.int k b, .int k' d]) := by rw [h, h']
theorem call_right {P : Program} {f : FuncId} {args : Array Value} {w : World} {v : Value} (h : Calls P f args w fun e w' => e = .returned v ∧ w = w') : Calls P f args w fun e w' => e = .returned v ∧ w' = w :=
  h.mono fun _ _ ⟨he, hm⟩ => ⟨he, hm.symm⟩
theorem region_tail {P : Program} {id : Nat} {Q : Exit → Act → World → Prop} {a : Act} {w : World} {l : List Oper} (n : Nat) (hm : P.follows .mixedOrders = true) (hB : Region.lexTailB .any l.toArray n = true)
    (h : wpStill P l.toArray w.drew (fun a' => wpList P l.toArray Q (l.drop n) a' w.drew) (l.take n) a) : (Code.region id l.toArray true).wp P Q a w := wp_region_still_tail n hm hB h
theorem quiet_left {P : Program} {f : FuncId} {args : Array Value} {w : World} {n : Nat} {v : Value}
    (h : Calls P f args (w.drewN n) fun e w' => e = .returned v ∧ w.drewN n = w') : Calls P f args (w.drewN n) fun e w'' => e = .returned v ∧ ∃ m, w'' = w.drewN m :=
  h.mono fun _ _ ⟨he, hm⟩ => ⟨he, n, hm.symm⟩
theorem quiet_add_left {P : Program} {f : FuncId} {args : Array Value} {w : World} {a n : Nat} {v : Value}
    (h : Calls P f args (w.drewN (a + n)) fun e w' => e = .returned v ∧ w.drewN (a + n) = w') :
    Calls P f args (w.drewN (a + n)) fun e w'' => e = .returned v ∧ ∃ m, w'' = w.drewN (a + m) :=
  h.mono fun _ _ ⟨he, hm⟩ => ⟨he, n, hm.symm⟩
end Go.Gl
namespace Go.Gl
set_option linter.unusedVariables false
open Go.RowKit

theorem Fr.setRow {F : List Nat} {w : World} {g : Nat} (hg : g ∈ F) (cs : Array Value) : Fr F w (w.setRow g cs) :=
  ⟨rfl, rfl, rfl, by simp [World.setRow], fun k _ hk => setRow_other w g k cs (fun e => hk (e ▸ hg))⟩
theorem Blk.setRow {w : World} {g : Nat} {t : TypeId} {cs : Array Value} (h : Blk w g t cs) (cs' : Array Value) : Blk (w.setRow g cs') g t cs' := setRow_heap w g cs cs' t _ h

/-- copy(dst, src): dst in a row that is known whole. -/
theorem wpList_copy_blk {P : Program} {w : World} {ops : Array Oper} {rest : List Oper} {o : Oper} {a : Act} {Q : Exit → Act → World → Prop} (hgd : o.guard = none) (d s : Operand) (dT sT : TypeId)
    (ho : o.op = .call { callee := .builtin .copy, args := #[d, s], argTypes := #[dT, sT] }) (elem : TypeId) (hu : P.underlying dT = some (.slice elem)) (hsz : (P.info? elem).map (·.size) = some 1)
    (dp sp : Option Addr) (n dCap sCap : Nat) (hd : a.eval d = .slice dp n dCap) (hs : a.eval s = .slice sp n sCap)
    (g off : Nat) (cur : Array Value) (t : TypeId) (hg : Blk w g t cur) (cs : List Value) (hn : cs.length = n)
    (hpos : 0 < n → dp = some ⟨g, off, none⟩ ∧ ∃ ad, sp = some ad ∧ ∀ j v, cs[j]? = some v → w.cell? (ad.add j) = some v)
    (hfit : off + n ≤ cur.size) (h1 : ∀ v ∈ cs, v.oneCell' = true)
    (h : ∀ w', Hid (Blk w' g t (splice cur.toList off cs).toArray) → Hid (Fr [g] w w') → wpList P ops Q rest (a.put o.dst (goInt n)) w') :
    wpList P ops Q (o :: rest) a w := by
  by_cases h0 : n = 0
  · subst h0
    obtain rfl : cs = [] := List.eq_nil_of_length_eq_zero hn
    refine wpList_copy_nothing hgd d s dT sT ho elem hu hsz dp sp 0 dCap 0 sCap hd hs rfl ?_
    exact h w (show Blk _ _ _ _ by simpa [splice] using hg) (Fr.refl _ _)
  · obtain ⟨rfl, ad, rfl, hsrc⟩ := hpos (by omega)
    refine wpList_copy_own hgd d s dT sT ho elem hu hsz g off n dCap ad n sCap hd hs cur t hg cs (by simp [hn]) hsrc (by omega) h1 ?_
    rw [hn]
    have h2 := h (w.setRow g (splice cur.toList off cs).toArray) (hg.setRow _) (Fr.setRow (by simp) _)
    unfold splice at h2
    rw [hn] at h2
    exact h2

theorem run_clear_blk {P : Program} {w : World} {t e ty : TypeId} {z : Value} (ht : P.underlying t = some (.slice e)) (hv : ∀ w, (zeroValue e).run P w = .ok z w) (hz : z.cells = #[z]) (h1 : z.oneCell' = true)
    (dp : Option Addr) (n c g off : Nat) (cur : Array Value) (tt : TypeId) (hg : Blk w g tt cur) (hpos : 0 < n → dp = some ⟨g, off, none⟩) (hfit : off + n ≤ cur.size) :
    ∃ w', (Builtin.clear_ #[t] ty #[.slice dp n c]).run P w = .ok (.tuple #[]) w' ∧ Blk w' g tt (splice cur.toList off (List.replicate n z)).toArray ∧ Fr [g] w w' := by
  by_cases h0 : n = 0
  · subst h0
    refine ⟨w, ?_, by simpa [splice] using hg, Fr.refl _ _⟩
    cases dp <;> simp [Builtin.clear_, run_underlying ht]
  · obtain rfl := hpos (by omega)
    have hzc : (Builtin.zeroCells z.cells n).toList = List.replicate n z := by
      rw [hz]
      simp [Builtin.zeroCells]
      apply List.ext_getElem
      · simp
      · intro i h1 h2
        simp [Nat.mod_one]
    have hst := run_storeCells_at P g off tt (List.replicate n z) 0 cur w hg (by simp; omega) (by intro v hv'; rw [List.eq_of_mem_replicate hv']; exact h1)
    simp only [Nat.add_zero] at hst
    obtain ⟨m, rfl⟩ : ∃ m, n = m + 1 := ⟨n - 1, by omega⟩
    refine ⟨w.setRow g (splice cur.toList off (List.replicate (m + 1) z)).toArray, ?_, hg.setRow _, Fr.setRow (by simp) _⟩
    simp [Builtin.clear_, run_underlying ht, hv, hzc, hst, splice]
/-- clear(s): s in a row that is known whole. -/
theorem wpList_clear_blk {P : Program} {w : World} {ops : Array Oper} {rest : List Oper} {o : Oper} {a : Act} {Q : Exit → Act → World → Prop} (hgd : o.guard = none) (d : Operand) (dT : TypeId)
    (ho : o.op = .call { callee := .builtin .clear, args := #[d], argTypes := #[dT] }) (e : TypeId) {z : Value} (ht : P.underlying dT = some (.slice e)) (hv : ∀ w, (zeroValue e).run P w = .ok z w) (hz : z.cells = #[z]) (h1 : z.oneCell' = true)
    (dp : Option Addr) (n c : Nat) (hd : a.eval d = .slice dp n c) (g off : Nat) (cur : Array Value) (tt : TypeId) (hg : Blk w g tt cur) (hpos : 0 < n → dp = some ⟨g, off, none⟩) (hfit : off + n ≤ cur.size)
    (h : ∀ w', Hid (Blk w' g tt (splice cur.toList off (List.replicate n z)).toArray) → Hid (Fr [g] w w') → wpList P ops Q rest (a.put o.dst (.tuple #[])) w') :
    wpList P ops Q (o :: rest) a w := by
  refine wpList_plain hgd fun K hK => ?_
  obtain ⟨w', hrun, hb, hf⟩ := run_clear_blk (ty := o.type) ht hv hz h1 dp n c g off cur tt hg hpos hfit
  unfold Oper.wp
  simp [execOp, ho, resolve, invoke, builtin, hd, hrun, Result.andThen]
  exact hK _ _ (h w' hb hf)

/-- A row of words, given by a function. -/
def memV (n : Nat) (f : Nat → Nat) : Array Value := ((List.range n).map fun k => Value.int .u64 (f k : Int)).toArray
/-- One word turned. -/
def upd (f : Nat → Nat) (k x : Nat) : Nat → Nat := fun j => if j = k then x else f j
/-- The words from off on, m of them, turned into what g says. -/
def updRow (f : Nat → Nat) (off m : Nat) (g : Nat → Nat) : Nat → Nat := fun j => if off ≤ j ∧ j < off + m then g (j - off) else f j
theorem memV_size (n : Nat) (f : Nat → Nat) : (memV n f).size = n := by simp [memV]
theorem memV_get (n : Nat) (f : Nat → Nat) (k : Nat) : (memV n f)[k]? = if k < n then some (.int .u64 (f k : Int)) else none := by
  unfold memV
  by_cases h : k < n
  · simp [h]
  · simp [h]
theorem memV_at {n : Nat} {f : Nat → Nat} {k : Nat} (h : k < n) : (memV n f)[k]? = some (.int .u64 (f k : Int)) := by rw [memV_get, if_pos h]
theorem memV_ext {n : Nat} {f : Nat → Nat} {cs : Array Value} (hs : cs.size = n) (h : ∀ k, k < n → cs[k]? = some (.int .u64 (f k : Int))) : cs = memV n f := by
  apply Array.ext
  · rw [hs, memV_size]
  · intro i h1 h2
    have a1 := h i (by omega)
    have a2 := memV_at (f := f) (show i < n by omega)
    rw [Array.getElem?_eq_getElem h1] at a1
    rw [Array.getElem?_eq_getElem h2] at a2
    exact Option.some.inj (a1.trans a2.symm)
theorem memV_congr {n : Nat} {f g : Nat → Nat} (h : ∀ k, k < n → f k = g k) : memV n f = memV n g :=
  memV_ext (memV_size _ _) fun k hk => by rw [memV_at hk, h k hk]
theorem memV_set (n : Nat) (f : Nat → Nat) (k x : Nat) : (memV n f).setIfInBounds k (.int .u64 (x : Int)) = memV n (upd f k x) := by
  refine memV_ext (by simp [memV_size]) fun j hj => ?_
  rw [Array.getElem?_setIfInBounds]
  unfold upd
  by_cases h : k = j
  · subst h
    rw [if_pos rfl, if_pos (by rw [memV_size]; exact hj), if_pos rfl]
  · rw [if_neg h, if_neg (Ne.symm h), memV_at hj]
theorem memV_splice {n : Nat} {f : Nat → Nat} {off m : Nat} {cs : List Value} {g : Nat → Nat} (hl : cs.length = m) (hm : off + m ≤ n) (hc : ∀ j, j < m → cs[j]? = some (.int .u64 (g j : Int))) :
    (splice (memV n f).toList off cs).toArray = memV n (updRow f off m g) := by
  have hs : (memV n f).toList.length = n := by simp [memV_size]
  refine memV_ext (by simp [length_splice _ _ _ (show off + cs.length ≤ (memV n f).toList.length by omega), memV_size]) fun j hj => ?_
  rw [List.getElem?_toArray]
  unfold splice updRow
  by_cases h1 : j < off
  · rw [if_neg (by omega), List.getElem?_append_left (by rw [List.length_take]; omega), List.getElem?_take_of_lt h1, Array.getElem?_toList, memV_at hj]
  · have e1 : ((memV n f).toList.take off).length = off := by rw [List.length_take]; omega
    rw [List.getElem?_append_right (by omega), e1]
    by_cases h2 : j < off + m
    · rw [if_pos (by omega), List.getElem?_append_left (by omega), hc _ (by omega)]
    · rw [if_neg (by omega), List.getElem?_append_right (by omega), List.getElem?_drop, Array.getElem?_toList, show off + cs.length + (j - off - cs.length) = j by omega, memV_at hj]
end Go.Gl
