/- Package graph: what lies where: each block has a tag that says whose it is. -/
import Derived.Test.YtmodjkglcgoohaaGp
import Derived.Test.YtmodjkglcgoohaaMp
import Derived.WalkKit
namespace Go.Gl
set_option linter.unusedVariables false
open Go.RowKit
/-- A row of structs of two cells. -/
def rows2 (f g : Nat → Value) (n : Nat) : List Value := (List.range n).flatMap fun i => [f i, g i]
theorem rows2_succ (f g : Nat → Value) (n : Nat) : rows2 f g (n + 1) = rows2 f g n ++ [f n, g n] := by
  unfold rows2
  rw [List.range_succ, List.flatMap_append]
  simp
theorem rows2_len (f g : Nat → Value) : ∀ n, (rows2 f g n).length = n * 2
  | 0 => rfl
  | n + 1 => by rw [rows2_succ, List.length_append, rows2_len f g n]; simp; omega
theorem rows2_at (f g : Nat → Value) : ∀ {n i : Nat}, i < n → (rows2 f g n)[i * 2]? = some (f i) ∧ (rows2 f g n)[i * 2 + 1]? = some (g i)
  | n + 1, i, h => by
    rw [rows2_succ]
    have hl := rows2_len f g n
    rcases Nat.lt_or_ge i n with h1 | h1
    · obtain ⟨a, b⟩ := rows2_at f g h1
      exact ⟨by rw [List.getElem?_append_left (by omega)]; exact a, by rw [List.getElem?_append_left (by omega)]; exact b⟩
    · obtain rfl : i = n := by omega
      refine ⟨?_, ?_⟩
      · rw [List.getElem?_append_right (by omega), hl, Nat.sub_self]; rfl
      · rw [List.getElem?_append_right (by omega), hl, show i * 2 + 1 - i * 2 = 1 by omega]; rfl
theorem rows2_congr {f g f' g' : Nat → Value} : ∀ {n : Nat}, (∀ i, i < n → f i = f' i ∧ g i = g' i) → rows2 f g n = rows2 f' g' n
  | 0, _ => rfl
  | n + 1, h => by
    rw [rows2_succ, rows2_succ, rows2_congr (fun i hi => h i (by omega)), (h n (by omega)).1, (h n (by omega)).2]
def R2 (w : World) (e : TypeId) (v : Value) (n : Nat) (f g : Nat → Value) : Prop := w.ownsRow 0 e 2 v n (rows2 f g n)
section
variable {w w' : World} {e : TypeId} {v : Value} {n : Nat} {f g : Nat → Value} {F : List Nat}
theorem R2.nil (w : World) (e : TypeId) (f g : Nat → Value) : R2 w e (.slice none 0 0) 0 f g := World.ownsRow_nil _ _ _ _
theorem R2.fr (h : R2 w e v n f g) (hf : Fr F w w') (hg : ∀ b, v.ownBlock = some b → b ∉ F) : R2 w' e v n f g := own_fr h hf hg
theorem R2.lt (h : R2 w e v n f g) {b : Nat} (hb : v.ownBlock = some b) : b < w.heap.size := by
  rcases h.2 with ⟨rfl, _⟩ | ⟨g', cap, cur, rfl, _, hh, _⟩
  · cases hb
  · injection hb with hb
    exact hb ▸ Blk.lt (t := e) hh
theorem R2.form (h : R2 w e v n f g) : ∃ A c, v = .slice A n c ∧ n ≤ maxLen := by
  rcases h.2 with ⟨h1, h2⟩ | ⟨b, cap, cur, h1, _, _, h3, h4, _⟩
  · exact ⟨none, 0, by rw [h1, h2], by rw [h2]; exact Nat.zero_le _⟩
  · exact ⟨_, _, h1, Nat.le_trans h3 h4⟩
theorem R2.pos (h : R2 w e v n f g) (hn : 0 < n) : ∃ b c, v = .slice (some ⟨b, 0, none⟩) n c ∧ b < w.heap.size ∧ (∀ k, w.frozen? ⟨b, k, none⟩ = false) ∧
    ∀ i, i < n → w.cell? ⟨b, i * 2, none⟩ = some (f i) ∧ w.cell? ⟨b, i * 2 + 1, none⟩ = some (g i) := by
  rcases h.2 with ⟨h1, h2⟩ | ⟨b, cap, cur, h1, _, hb, h3, h4, h5, h6⟩
  · exact absurd h2 (by omega)
  · have hb : Blk w b e cur := hb
    refine ⟨b, cap, h1, hb.lt, fun k => hb.frozen k, fun i hi => ?_⟩
    have key : ∀ j, j < n * 2 → cur[j]? = (rows2 f g n)[j]? := fun j hj => by
      rw [← h6, List.getElem?_take_of_lt hj, Array.getElem?_toList]
    rw [hb.cell, hb.cell, key _ (by omega), key _ (by omega)]
    exact rows2_at f g hi
theorem R2.congr {f' g' : Nat → Value} (h : R2 w e v n f g) (hc : ∀ i, i < n → f i = f' i ∧ g i = g' i) : R2 w e v n f' g' := by
  unfold R2
  rw [← rows2_congr hc]
  exact h
theorem R2.set1 {b c i : Nat} (h : R2 w e (.slice (some ⟨b, 0, none⟩) n c) n f g) (hi : i < n) (u : Value) : R2 (w.setCell ⟨b, i * 2 + 1, none⟩ u) e (.slice (some ⟨b, 0, none⟩) n c) n f (putF g i u) := by
  refine ⟨rows2_len _ _ _, ?_⟩
  rcases h.2 with ⟨h1, h2⟩ | ⟨b', cap, cur, h1, h0, hb, h3, h4, h5, h6⟩
  · cases h1
  · injection h1 with h1 h1' h1''
    injection h1 with h1
    injection h1 with h1
    subst h1 h1''
    have hb : Blk w b e cur := hb
    refine .inr ⟨b, c, _, rfl, h0, hb.put (i * 2 + 1) u, h3, h4, by simpa using h5, ?_⟩
    have key : ∀ j, j < n * 2 → cur[j]? = (rows2 f g n)[j]? := fun j hj => by
      rw [← h6, List.getElem?_take_of_lt hj, Array.getElem?_toList]
    apply List.ext_getElem?
    intro j
    rcases Nat.lt_or_ge j (n * 2) with hj | hj
    · rw [List.getElem?_take_of_lt hj, Array.getElem?_toList, Array.getElem?_setIfInBounds]
      have hd : j / 2 < n := by omega
      obtain ⟨a1, a2⟩ := rows2_at f g hd
      obtain ⟨b1, b2⟩ := rows2_at f (putF g i u) hd
      by_cases hij : i * 2 + 1 = j
      · subst hij
        rw [if_pos rfl, if_pos (by omega)]
        have e1 : (i * 2 + 1) / 2 = i := by omega
        rw [e1] at b2
        rw [b2, putF_at]
      · rw [if_neg hij, key j hj]
        obtain h7 | h7 : j = j / 2 * 2 ∨ j = j / 2 * 2 + 1 := by omega
        · rw [← h7] at a1 b1; rw [a1, b1]
        · rw [← h7] at a2 b2; rw [a2, b2, putF_ne _ _ (by omega)]
    · rw [List.getElem?_eq_none (by simp; omega), List.getElem?_eq_none (by rw [rows2_len]; omega)]
end
abbrev TG := Nat → Nat × Int
def GTgOk (w : World) (tg : TG) : Prop := ∀ b, (tg b).1 ≠ 0 → b < w.heap.size
/-- From tg to tg' only blocks that are new since w have been tagged. -/
def GTgUp (w : World) (tg tg' : TG) : Prop := ∀ b, b < w.heap.size → tg' b = tg b
theorem GTgUp.refl (w : World) (tg : TG) : GTgUp w tg tg := fun _ _ => rfl
/-- Only tagged blocks, and new ones, have turned. -/
structure GFr (w : World) (tg : TG) (w' : World) (tg' : TG) : Prop where
  fr : ∃ F, Fr F w w' ∧ ∀ x, x ∈ F → (tg x).1 ≠ 0
  up : GTgUp w tg tg'
section
variable {w w' w'' : World} {tg tg' tg'' : TG} {F : List Nat}
theorem GFr.refl (w : World) (tg : TG) : GFr w tg w tg := ⟨⟨[], Fr.refl _ _, fun _ h => by cases h⟩, GTgUp.refl _ _⟩
theorem GFr.of (hf : Fr F w w') (hF : ∀ x, x ∈ F → (tg x).1 ≠ 0) : GFr w tg w' tg := ⟨⟨F, hf, hF⟩, GTgUp.refl _ _⟩
theorem GFr.fr0 (hf : Fr [] w w') : GFr w tg w' tg := GFr.of hf (fun _ h => by cases h)
theorem GFr.size (h : GFr w tg w' tg') : w.heap.size ≤ w'.heap.size := by
  obtain ⟨F, h1, _⟩ := h.fr
  exact h1.size
theorem GFr.trans (h : GFr w tg w' tg') (k : GFr w' tg' w'' tg'') : GFr w tg w'' tg'' := by
  obtain ⟨F, h1, h2⟩ := h.fr
  obtain ⟨G, k1, k2⟩ := k.fr
  have hs := h1.size
  refine ⟨⟨F ++ G.filter (fun x => decide (x < w.heap.size)), (h1.mono (fun x hx => .inl (by simp [hx]))).trans k1 (fun x hx => ?_), fun x hx => ?_⟩, fun b hb => (k.up b (by omega)).trans (h.up b hb)⟩
  · rcases Nat.lt_or_ge x w.heap.size with h3 | h3
    · exact .inl (by simp [hx, h3])
    · exact .inr h3
  · rcases List.mem_append.1 hx with h3 | h3
    · exact h2 x h3
    · rw [List.mem_filter] at h3
      have h4 : x < w.heap.size := by simpa using h3.2
      rw [← h.up x h4]
      exact k2 x h3.1
theorem GFr.trans0 (h : GFr w tg w' tg') (k : Fr [] w' w'') : GFr w tg w'' tg' := h.trans (GFr.fr0 k)
/-- A block that isn't tagged stays. -/
theorem GFr.blk (h : GFr w tg w' tg') {g : Nat} {t : TypeId} {cs : Array Value} (hb : Blk w g t cs) (hg : (tg g).1 = 0) : Blk w' g t cs := by
  obtain ⟨F, h1, h2⟩ := h.fr
  exact hb.fr h1 (fun hx => h2 g hx hg)
theorem GFr.cell (h : GFr w tg w' tg') {p : Addr} (hp : p.block < w.heap.size) (hg : (tg p.block).1 = 0) : w'.cell? p = w.cell? p := by
  obtain ⟨F, h1, h2⟩ := h.fr
  exact h1.cell hp (fun hx => h2 _ hx hg)
/-- Where all that is tagged is new since W, W is as it was. -/
theorem GFr.inside {W : World} (h : Fr [] W w) (ht : ∀ b, (tg b).1 ≠ 0 → W.heap.size ≤ b) (k : GFr w tg w' tg') : Fr [] W w' := by
  obtain ⟨F, h1, h2⟩ := k.fr
  exact h.trans h1 (fun x hx => .inr (ht x (h2 x hx)))
theorem GFr.new {W : World} (hw : Fr [] W w) (ht : ∀ b, (tg b).1 ≠ 0 → W.heap.size ≤ b) (k : GFr w tg w' tg') : ∀ b, (tg' b).1 ≠ 0 → W.heap.size ≤ b := fun b hb => by
  rcases Nat.lt_or_ge b w.heap.size with h1 | h1
  · rw [k.up b h1] at hb
    exact ht b hb
  · exact Nat.le_trans hw.size h1
end
end Go.Gl
namespace Go.Proofs.Ytmodjkglcgoohaa
set_option linter.unusedVariables false
open Go.RowKit Go.Gl
open Go.Maps (Keyed)

theorem Try.intLaw : Keyed Try.prog 3 := Maps.int_keyed Try.underlying3
theorem Try.refLaw : Keyed Try.prog 51 := Maps.int_keyed Try.underlying51
theorem intKey (a : Int) (wa : (Lit.int .i64 a).wf = true) : keyOf Try.prog 3 (.int .i64 a) = some (.int .i64 a) := Maps.keyOf_int_mk Try.underlying3 wa
theorem refKey (a : Int) (wa : (Lit.int .u64 a).wf = true) : keyOf Try.prog 51 (.int .u64 a) = some (.int .u64 a) := Maps.keyOf_int_mk Try.underlying51 wa
theorem wf_i64_of {n : Int} (h : -9223372036854775808 ≤ n ∧ n ≤ 9223372036854775807) : (Lit.int .i64 n).wf = true := by
  simpa [Lit.wf, IntKind.min, IntKind.max, IntKind.signed, IntKind.bits] using h
theorem wf_u64_of {n : Int} (h : 0 ≤ n ∧ n < 18446744073709551616) : (Lit.int .u64 n).wf = true := by
  have : 0 ≤ n ∧ n ≤ 18446744073709551615 := by omega
  simpa [Lit.wf, IntKind.min, IntKind.max, IntKind.signed, IntKind.bits] using this
def ptrV (ob : Int → Nat) (r : Int) : Value := if r = 0 then .pointer none else .pointer (some ⟨ob r, 0, none⟩)
theorem ptrV_0 (ob : Int → Nat) : ptrV ob 0 = .pointer none := rfl
theorem ptrV_pos (ob : Int → Nat) {r : Int} (h : r ≠ 0) : ptrV ob r = .pointer (some ⟨ob r, 0, none⟩) := if_neg h
/-- An object: its struct at ob r, its references' map at rb r, its data's at db r. -/
structure ObAt (w : World) (tg : TG) (ob rb db : Int → Nat) (c np nw : Nat) (ref dat : Int → Int) (r : Int) : Prop where
  st : Blk w (ob r) 90 #[.int .u64 r, .int .i64 (c : Int), .int .i64 (np : Int), .int .i64 (nw : Int), .map (some (rb r)), .map (some (db r))]
  t1 : tg (ob r) = (4, r)
  t2 : tg (rb r) = (5, r)
  t3 : tg (db r) = (6, r)
  refs : ∃ f, Mp Try.prog 3 w (rb r) f ∧ (∀ j, (f (.int .i64 j)).getD (.pointer none) = ptrV ob (ref j)) ∧ ∀ x v, f x = some v → ∃ j : Int, 0 ≤ j ∧ j < (np : Int) ∧ x = .int .i64 j
  data : ∃ f, Mp Try.prog 3 w (db r) f ∧ ∀ j, (f (.int .i64 j)).getD (.int .u64 0) = .int .u64 (dat j)
/-- Where a graph's parts lie. -/
structure GL where
  g : Nat
  tv : Value
  hb : Nat
  S : Nat → Nat
  ob : Int → Nat
  rb : Int → Nat
  db : Int → Nat
/-- A graph at g: tags 1 the struct, 2 the threads' row, 3 a thread's stack, 4 an object, 5 its references, 6 its data, 7 what is held. c: the handles' counts; hd: which objects are held; nn: the newest. -/
structure PG (w : World) (tg : TG) (Λ : GL) (T B M : Nat) (nn : Int) (σ : GS) (c : Int → Nat) (hd : Int → Prop) : Prop where
  st : Blk w Λ.g 53 #[Λ.tv, .int .i64 (M : Int), .map (some Λ.hb), .int .u64 nn]
  t1 : tg Λ.g = (1, 0)
  row : R2 w 67 Λ.tv T (fun i => .pointer (some ⟨Λ.S i, 0, none⟩)) (fun i => .int .i64 (σ.done i : Int))
  t2 : ∀ b, Λ.tv.ownBlock = some b → tg b = (2, 0)
  held : ∃ f, Mp Try.prog 51 w Λ.hb f ∧ (∀ r, hd r → f (.int .u64 r) = some (ptrV Λ.ob r)) ∧ (∀ r, ¬ hd r → f (.int .u64 r) = none) ∧ ∀ x v, f x = some v → ∃ r, x = .int .u64 r
  t3 : tg Λ.hb = (7, 0)
  stk : ∀ i, i < T → ∃ F, HkP w (Λ.S i) F B (σ.st i) ∧ ∀ x, x ∈ F → tg x = (3, (i : Int))
  obs : ∀ r, 1 ≤ r → r ≤ (σ.N : Int) → ObAt w tg Λ.ob Λ.rb Λ.db (c r) (σ.np r) (σ.nw r) (σ.ref r) (σ.dat r) r
  tok : GTgOk w tg
/-- .. at rest. -/
abbrev PGn (w : World) (tg : TG) (Λ : GL) (T B M : Nat) (σ : GS) : Prop := PG w tg Λ T B M (σ.N : Int) σ (cnt σ.st T) (fun r => 1 ≤ r ∧ 0 < cnt σ.st T r)
section
variable {w w' : World} {tg tg' : TG} {F : List Nat} {ob rb db : Int → Nat} {c np nw : Nat} {ref dat : Int → Int} {r : Int}
theorem ObAt.fr (h : ObAt w tg ob rb db c np nw ref dat r) (hf : Fr F w w') (hF : ∀ x, x ∈ F → tg x ≠ (4, r) ∧ tg x ≠ (5, r) ∧ tg x ≠ (6, r)) (hu : GTgUp w tg tg') : ObAt w' tg' ob rb db c np nw ref dat r := by
  obtain ⟨f, f1, f2⟩ := h.refs
  obtain ⟨d, d1, d2⟩ := h.data
  exact ⟨h.st.fr hf (fun hx => (hF _ hx).1 h.t1), (hu _ h.st.lt).trans h.t1, (hu _ f1.lt).trans h.t2, (hu _ d1.lt).trans h.t3,
    ⟨f, f1.fr hf (fun hx => (hF _ hx).2.1 h.t2), f2⟩, ⟨d, d1.fr hf (fun hx => (hF _ hx).2.2 h.t3), d2⟩⟩
end
section
variable {w w' : World} {tg tg' : TG} {F : List Nat} {Λ : GL} {T B M : Nat} {nn : Int} {σ : GS} {c : Int → Nat} {hd : Int → Prop}
theorem PG.lt (h : PG w tg Λ T B M nn σ c hd) {b : Nat} (hb : (tg b).1 ≠ 0) : b < w.heap.size := h.tok b hb
theorem tagNe {tg : TG} {F : List Nat} {k : Nat} {i : Int} (hF : ∀ x, x ∈ F → (tg x).1 ≠ k) : ∀ x, x ∈ F → tg x ≠ (k, i) := fun x hx e => hF x hx (by rw [e])
theorem PG.st' (h : PG w tg Λ T B M nn σ c hd) (hf : Fr F w w') (hF : ∀ x, x ∈ F → (tg x).1 ≠ 1) : Blk w' Λ.g 53 #[Λ.tv, .int .i64 (M : Int), .map (some Λ.hb), .int .u64 nn] := h.st.fr hf (fun hx => tagNe hF _ hx h.t1)
theorem PG.row' (h : PG w tg Λ T B M nn σ c hd) (hf : Fr F w w') (hF : ∀ x, x ∈ F → (tg x).1 ≠ 2) : R2 w' 67 Λ.tv T (fun i => .pointer (some ⟨Λ.S i, 0, none⟩)) (fun i => .int .i64 (σ.done i : Int)) := h.row.fr hf (fun b hb hx => tagNe hF _ hx (h.t2 b hb))
theorem PG.held' (h : PG w tg Λ T B M nn σ c hd) (hf : Fr F w w') (hF : ∀ x, x ∈ F → (tg x).1 ≠ 7) :
    ∃ f, Mp Try.prog 51 w' Λ.hb f ∧ (∀ r, hd r → f (.int .u64 r) = some (ptrV Λ.ob r)) ∧ (∀ r, ¬ hd r → f (.int .u64 r) = none) ∧ ∀ x v, f x = some v → ∃ r, x = .int .u64 r := by
  obtain ⟨f, f1, f2⟩ := h.held
  exact ⟨f, f1.fr hf (fun hx => tagNe hF _ hx h.t3), f2⟩
theorem PG.stk' (h : PG w tg Λ T B M nn σ c hd) (hf : Fr F w w') {i : Nat} (hi : i < T) (hF : ∀ x, x ∈ F → tg x ≠ (3, (i : Int))) (hu : GTgUp w tg tg') : ∃ F, HkP w' (Λ.S i) F B (σ.st i) ∧ ∀ x, x ∈ F → tg' x = (3, (i : Int)) := by
  obtain ⟨G, h1, h2⟩ := h.stk i hi
  exact ⟨G, h1.fr hf (fun x hx hx' => hF x hx' (h2 x hx)), fun x hx => (hu x (h1.lt x hx)).trans (h2 x hx)⟩
theorem PG.obs' (h : PG w tg Λ T B M nn σ c hd) (hf : Fr F w w') (hF : ∀ x, x ∈ F → (tg x).1 ≠ 4 ∧ (tg x).1 ≠ 5 ∧ (tg x).1 ≠ 6) (hu : GTgUp w tg tg') : ∀ r, 1 ≤ r → r ≤ (σ.N : Int) → ObAt w' tg' Λ.ob Λ.rb Λ.db (c r) (σ.np r) (σ.nw r) (σ.ref r) (σ.dat r) r :=
  fun r h1 h2 => (h.obs r h1 h2).fr hf (fun x hx => ⟨tagNe (fun y hy => (hF y hy).1) x hx, tagNe (fun y hy => (hF y hy).2.1) x hx, tagNe (fun y hy => (hF y hy).2.2) x hx⟩) hu
theorem PG.tags (h : PG w tg Λ T B M nn σ c hd) (hu : GTgUp w tg tg') : tg' Λ.g = (1, 0) ∧ (∀ b, Λ.tv.ownBlock = some b → tg' b = (2, 0)) ∧ tg' Λ.hb = (7, 0) := by
  obtain ⟨f, f1, _⟩ := h.held
  exact ⟨(hu _ h.st.lt).trans h.t1, fun b hb => (hu _ (h.row.lt hb)).trans (h.t2 b hb), (hu _ f1.lt).trans h.t3⟩
theorem tok' (h : GTgOk w tg) (hf : Fr F w w') : GTgOk w' tg := fun b hb => Nat.lt_of_lt_of_le (h b hb) hf.size
/-- What is done elsewhere leaves the graph. -/
theorem PG.fr (h : PG w tg Λ T B M nn σ c hd) (hf : Fr F w w') (hF : ∀ x, x ∈ F → (tg x).1 = 0) : PG w' tg Λ T B M nn σ c hd := by
  have hk : ∀ k, k ≠ 0 → ∀ x, x ∈ F → (tg x).1 ≠ k := fun k hk x hx e => hk (by rw [← e, hF x hx])
  have hu := GTgUp.refl w tg
  exact ⟨h.st' hf (hk 1 (by decide)), h.t1, h.row' hf (hk 2 (by decide)), h.t2, h.held' hf (hk 7 (by decide)), h.t3, fun i hi => h.stk' hf hi (tagNe (hk 3 (by decide))) hu,
    h.obs' hf (fun x hx => ⟨hk 4 (by decide) x hx, hk 5 (by decide) x hx, hk 6 (by decide) x hx⟩) hu, tok' h.tok hf⟩
theorem PG.fr0 (h : PG w tg Λ T B M nn σ c hd) (hf : Fr [] w w') : PG w' tg Λ T B M nn σ c hd := h.fr hf (by simp)
theorem PG.congr (h : PG w tg Λ T B M nn σ c hd) {c' : Int → Nat} {hd' : Int → Prop} (hc : ∀ r, 1 ≤ r → r ≤ (σ.N : Int) → c r = c' r) (hh : ∀ r, hd r ↔ hd' r) : PG w tg Λ T B M nn σ c' hd' := by
  obtain ⟨f, f1, f2, f3, f4⟩ := h.held
  exact ⟨h.st, h.t1, h.row, h.t2, ⟨f, f1, fun r hr => f2 r ((hh r).2 hr), fun r hr => f3 r (fun h => hr ((hh r).1 h)), f4⟩, h.t3, h.stk, fun r h1 h2 => by rw [← hc r h1 h2]; exact h.obs r h1 h2, h.tok⟩
/-- A call on a thread's stack. -/
theorem PG.stack (h : PG w tg Λ T B M nn σ c hd) {i : Nat} (hi : i < T) {G G' : List Nat} {l : List Int} (h1 : HkP w (Λ.S i) G B (σ.st i)) (h2 : ∀ x, x ∈ G → tg x = (3, (i : Int))) (hf : Fr G w w') (k1 : HkP w' (Λ.S i) G' B l) (k2 : ∀ x, x ∈ G' → x ∈ G ∨ w.heap.size ≤ x) :
    ∃ tg', PG w' tg' Λ T B M nn (σ.setSt i l) c hd ∧ GFr w tg w' tg' := by
  have hu : GTgUp w tg (fun x => if w.heap.size ≤ x ∧ x < w'.heap.size then (3, (i : Int)) else tg x) := fun b hb => if_neg (by omega)
  have ht : GTgOk w' (fun x => if w.heap.size ≤ x ∧ x < w'.heap.size then (3, (i : Int)) else tg x) := fun b hb => by
    by_cases e : w.heap.size ≤ b ∧ b < w'.heap.size
    · exact e.2
    · simp only [if_neg e] at hb
      exact Nat.lt_of_lt_of_le (h.tok b hb) hf.size
  have hk : ∀ k, k ≠ 3 → ∀ x, x ∈ G → (tg x).1 ≠ k := fun k hk x hx e => hk (by rw [← e, h2 x hx])
  obtain ⟨a1, a2, a3⟩ := h.tags hu
  refine ⟨_, ⟨h.st' hf (hk 1 (by decide)), a1, h.row' hf (hk 2 (by decide)), a2, h.held' hf (hk 7 (by decide)), a3, fun j hj => ?_,
    h.obs' hf (fun x hx => ⟨hk 4 (by decide) x hx, hk 5 (by decide) x hx, hk 6 (by decide) x hx⟩) hu, ht⟩, ⟨⟨G, hf, hk 0 (by decide)⟩, hu⟩⟩
  by_cases e : j = i
  · subst e
    refine ⟨G', ?_, fun x hx => ?_⟩
    · show HkP w' (Λ.S j) G' B (setF σ.st j l j)
      rw [setF_at]
      exact k1
    · rcases k2 x hx with h3 | h3
      · have h4 : x < w.heap.size := h1.lt x h3
        exact (hu x h4).trans (h2 x h3)
      · exact if_pos ⟨h3, k1.lt x hx⟩
  · obtain ⟨H, h3, h4⟩ := h.stk' hf hj (fun x hx e1 => e (by rw [h2 x hx] at e1; injection e1 with _ e1; omega)) hu
    refine ⟨H, ?_, h4⟩
    show HkP w' (Λ.S j) H B (setF σ.st i l j)
    rw [setF_ne _ _ e]
    exact h3
theorem Blk_put1 {w : World} {g : Nat} {t : TypeId} {a b c d e f : Value} (h : Blk w g t #[a, b, c, d, e, f]) (u : Value) : Blk (w.setCell ⟨g, 1, none⟩ u) g t #[a, u, c, d, e, f] := by
  have := h.put 1 u
  simpa using this
/-- An object's count stored. -/
theorem PG.hand (h : PG w tg Λ T B M nn σ c hd) {r : Int} (h1 : 1 ≤ r) (h2 : r ≤ (σ.N : Int)) (k : Nat) : PG (w.setCell ⟨Λ.ob r, 1, none⟩ (.int .i64 (k : Int))) tg Λ T B M nn σ (setF c r k) hd := by
  have ho := h.obs r h1 h2
  have hf : Fr [Λ.ob r] w (w.setCell ⟨Λ.ob r, 1, none⟩ (.int .i64 (k : Int))) := (Fr.refl _ _).setCell (p := ⟨Λ.ob r, 1, none⟩) (.inl (by simp)) _
  have hT : ∀ x, x ∈ [Λ.ob r] → tg x = (4, r) := fun x hx => by simp at hx; rw [hx]; exact ho.t1
  have hk : ∀ k, k ≠ 4 → ∀ x, x ∈ [Λ.ob r] → (tg x).1 ≠ k := fun k hk x hx e => hk (by rw [← e, hT x hx])
  have hu := GTgUp.refl w tg
  refine ⟨h.st' hf (hk 1 (by decide)), h.t1, h.row' hf (hk 2 (by decide)), h.t2, h.held' hf (hk 7 (by decide)), h.t3, fun i hi => h.stk' hf hi (tagNe (hk 3 (by decide))) hu, fun x hx1 hx2 => ?_, tok' h.tok hf⟩
  by_cases e : x = r
  · subst e
    rw [setF_at]
    obtain ⟨f, f1, f2⟩ := ho.refs
    obtain ⟨d, d1, d2⟩ := ho.data
    exact ⟨Blk_put1 ho.st _, ho.t1, ho.t2, ho.t3, ⟨f, f1.fr hf (fun hx => by have := hT _ hx; rw [ho.t2] at this; simp at this), f2⟩, ⟨d, d1.fr hf (fun hx => by have := hT _ hx; rw [ho.t3] at this; simp at this), d2⟩⟩
  · rw [setF_ne _ _ e]
    exact (h.obs x hx1 hx2).fr hf (fun y hy => by rw [hT y hy]; exact ⟨by simp; exact Ne.symm e, by simp, by simp⟩) hu
theorem PG.only7 (h : PG w tg Λ T B M nn σ c hd) (hf : Fr [Λ.hb] w w') {hd' : Int → Prop}
    (hh : ∃ f, Mp Try.prog 51 w' Λ.hb f ∧ (∀ r, hd' r → f (.int .u64 r) = some (ptrV Λ.ob r)) ∧ (∀ r, ¬ hd' r → f (.int .u64 r) = none) ∧ ∀ x v, f x = some v → ∃ r, x = .int .u64 r) : PG w' tg Λ T B M nn σ c hd' := by
  have hk : ∀ k, k ≠ 7 → ∀ x, x ∈ [Λ.hb] → (tg x).1 ≠ k := fun k hk x hx e => hk (by simp at hx; rw [← e, hx, h.t3])
  have hu := GTgUp.refl w tg
  exact ⟨h.st' hf (hk 1 (by decide)), h.t1, h.row' hf (hk 2 (by decide)), h.t2, hh, h.t3, fun i hi => h.stk' hf hi (tagNe (hk 3 (by decide))) hu,
    h.obs' hf (fun x hx => ⟨hk 4 (by decide) x hx, hk 5 (by decide) x hx, hk 6 (by decide) x hx⟩) hu, tok' h.tok hf⟩
/-- What a map of held objects is. -/
def HeldF (Λ : GL) (hd : Int → Prop) (f : Value → Option Value) : Prop := (∀ r, hd r → f (.int .u64 r) = some (ptrV Λ.ob r)) ∧ (∀ r, ¬ hd r → f (.int .u64 r) = none) ∧ ∀ x v, f x = some v → ∃ r, x = .int .u64 r
theorem PG.hput (h : PG w tg Λ T B M nn σ c hd) {f : Value → Option Value} (hF : HeldF Λ hd f) {r : Int} (hM : Mp Try.prog 51 w' Λ.hb (upF f (.int .u64 r) (ptrV Λ.ob r))) (hf : Fr [Λ.hb] w w') : PG w' tg Λ T B M nn σ c (fun x => x = r ∨ hd x) := by
  refine h.only7 hf ⟨_, hM, fun x hx => ?_, fun x hx => ?_, fun x v hx => ?_⟩
  · by_cases e : x = r
    · subst e; rw [upF_at]
    · rw [upF_ne _ _ (by simpa using e)]
      rcases hx with hx | hx
      · exact absurd hx e
      · exact hF.1 x hx
  · rw [upF_ne _ _ (by simp; exact fun e => hx (.inl e))]
    exact hF.2.1 x (fun h => hx (.inr h))
  · by_cases e : x = .int .u64 r
    · exact ⟨r, e⟩
    · rw [upF_ne _ _ e] at hx
      exact hF.2.2 x v hx
theorem PG.hdrop (h : PG w tg Λ T B M nn σ c hd) {f : Value → Option Value} (hF : HeldF Λ hd f) {r : Int} (hM : Mp Try.prog 51 w' Λ.hb (offF f (.int .u64 r))) (hf : Fr [Λ.hb] w w') : PG w' tg Λ T B M nn σ c (fun x => x ≠ r ∧ hd x) := by
  refine h.only7 hf ⟨_, hM, fun x hx => ?_, fun x hx => ?_, fun x v hx => ?_⟩
  · rw [offF_ne _ (by simpa using hx.1)]
    exact hF.1 x hx.2
  · by_cases e : x = r
    · subst e; rw [offF_at]
    · rw [offF_ne _ (by simpa using e)]
      exact hF.2.1 x (fun h => hx ⟨e, h⟩)
  · by_cases e : x = .int .u64 r
    · exact ⟨r, e⟩
    · rw [offF_ne _ e] at hx
      exact hF.2.2 x v hx
/-- A reference stored. -/
theorem PG.rput (h : PG w tg Λ T B M nn σ c hd) {r b y : Int} (h1 : 1 ≤ r) (h2 : r ≤ (σ.N : Int)) (hb : fieldIn (σ.np r) b) {f : Value → Option Value} (f1 : ∀ j, (f (.int .i64 j)).getD (.pointer none) = ptrV Λ.ob (σ.ref r j)) (f2 : ∀ x v, f x = some v → ∃ j : Int, 0 ≤ j ∧ j < (σ.np r : Int) ∧ x = .int .i64 j)
    (hM : Mp Try.prog 3 w' (Λ.rb r) (upF f (.int .i64 b) (ptrV Λ.ob y))) (hf : Fr [Λ.rb r] w w') : PG w' tg Λ T B M nn (σ.setRef r b y) c hd := by
  have ho := h.obs r h1 h2
  have hT : ∀ x, x ∈ [Λ.rb r] → tg x = (5, r) := fun x hx => by simp at hx; rw [hx]; exact ho.t2
  have hk : ∀ k, k ≠ 5 → ∀ x, x ∈ [Λ.rb r] → (tg x).1 ≠ k := fun k hk x hx e => hk (by rw [← e, hT x hx])
  have hu := GTgUp.refl w tg
  refine ⟨h.st' hf (hk 1 (by decide)), h.t1, h.row' hf (hk 2 (by decide)), h.t2, h.held' hf (hk 7 (by decide)), h.t3, fun i hi => h.stk' hf hi (tagNe (hk 3 (by decide))) hu, fun x hx1 hx2 => ?_, tok' h.tok hf⟩
  show ObAt w' tg Λ.ob Λ.rb Λ.db (c x) (σ.np x) (σ.nw x) (setF σ.ref r (setF (σ.ref r) b y) x) (σ.dat x) x
  by_cases e : x = r
  · subst e
    rw [setF_at]
    obtain ⟨d, d1, d2⟩ := ho.data
    refine ⟨ho.st.fr hf (fun hx => by have := hT _ hx; rw [ho.t1] at this; simp at this), ho.t1, ho.t2, ho.t3, ⟨_, hM, fun j => ?_, fun z v hz => ?_⟩, ⟨d, d1.fr hf (fun hx => by have := hT _ hx; rw [ho.t3] at this; simp at this), d2⟩⟩
    · by_cases e2 : j = b
      · subst e2; rw [upF_at, setF_at]; rfl
      · rw [upF_ne _ _ (by simpa using e2), setF_ne _ _ e2]; exact f1 j
    · by_cases e2 : z = .int .i64 b
      · exact ⟨b, hb.1, hb.2, e2⟩
      · rw [upF_ne _ _ e2] at hz
        exact f2 z v hz
  · rw [setF_ne _ _ e]
    exact (h.obs x hx1 hx2).fr hf (fun y hy => by rw [hT y hy]; exact ⟨by simp, by simp; exact Ne.symm e, by simp⟩) hu
/-- A data word stored. -/
theorem PG.dput (h : PG w tg Λ T B M nn σ c hd) {r b y : Int} (h1 : 1 ≤ r) (h2 : r ≤ (σ.N : Int)) {f : Value → Option Value} (f1 : ∀ j, (f (.int .i64 j)).getD (.int .u64 0) = .int .u64 (σ.dat r j))
    (hM : Mp Try.prog 3 w' (Λ.db r) (upF f (.int .i64 b) (.int .u64 y))) (hf : Fr [Λ.db r] w w') : PG w' tg Λ T B M nn (σ.setDat r b y) c hd := by
  have ho := h.obs r h1 h2
  have hT : ∀ x, x ∈ [Λ.db r] → tg x = (6, r) := fun x hx => by simp at hx; rw [hx]; exact ho.t3
  have hk : ∀ k, k ≠ 6 → ∀ x, x ∈ [Λ.db r] → (tg x).1 ≠ k := fun k hk x hx e => hk (by rw [← e, hT x hx])
  have hu := GTgUp.refl w tg
  refine ⟨h.st' hf (hk 1 (by decide)), h.t1, h.row' hf (hk 2 (by decide)), h.t2, h.held' hf (hk 7 (by decide)), h.t3, fun i hi => h.stk' hf hi (tagNe (hk 3 (by decide))) hu, fun x hx1 hx2 => ?_, tok' h.tok hf⟩
  show ObAt w' tg Λ.ob Λ.rb Λ.db (c x) (σ.np x) (σ.nw x) (σ.ref x) (setF σ.dat r (setF (σ.dat r) b y) x) x
  by_cases e : x = r
  · subst e
    rw [setF_at]
    obtain ⟨d, d1, d2⟩ := ho.refs
    refine ⟨ho.st.fr hf (fun hx => by have := hT _ hx; rw [ho.t1] at this; simp at this), ho.t1, ho.t2, ho.t3, ⟨d, d1.fr hf (fun hx => by have := hT _ hx; rw [ho.t2] at this; simp at this), d2⟩, ⟨_, hM, fun j => ?_⟩⟩
    by_cases e2 : j = b
    · subst e2; rw [upF_at, setF_at]; rfl
    · rw [upF_ne _ _ (by simpa using e2), setF_ne _ _ e2]; exact f1 j
  · rw [setF_ne _ _ e]
    exact (h.obs x hx1 hx2).fr hf (fun y hy => by rw [hT y hy]; exact ⟨by simp, by simp, by simp; exact Ne.symm e⟩) hu
/-- The newest stored. -/
theorem PG.newest (h : PG w tg Λ T B M nn σ c hd) (m : Int) : PG (w.setCell ⟨Λ.g, 3, none⟩ (.int .u64 m)) tg Λ T B M m σ c hd := by
  have hf : Fr [Λ.g] w (w.setCell ⟨Λ.g, 3, none⟩ (.int .u64 m)) := (Fr.refl _ _).setCell (p := ⟨Λ.g, 3, none⟩) (.inl (by simp)) _
  have hk : ∀ k, k ≠ 1 → ∀ x, x ∈ [Λ.g] → (tg x).1 ≠ k := fun k hk x hx e => hk (by simp at hx; rw [← e, hx, h.t1])
  have hu := GTgUp.refl w tg
  exact ⟨by have := h.st.put 3 (.int .u64 m); simpa using this, h.t1, h.row' hf (hk 2 (by decide)), h.t2, h.held' hf (hk 7 (by decide)), h.t3, fun i hi => h.stk' hf hi (tagNe (hk 3 (by decide))) hu,
    h.obs' hf (fun x hx => ⟨hk 4 (by decide) x hx, hk 5 (by decide) x hx, hk 6 (by decide) x hx⟩) hu, tok' h.tok hf⟩
/-- A thread's count stored. -/
theorem PG.done (h : PG w tg Λ T B M nn σ c hd) {b cp i : Nat} (hv : Λ.tv = .slice (some ⟨b, 0, none⟩) T cp) (hi : i < T) : PG (w.setCell ⟨b, i * 2 + 1, none⟩ (.int .i64 ((σ.done i + 1 : Nat) : Int))) tg Λ T B M nn (σ.tick i) c hd := by
  have hf : Fr [b] w (w.setCell ⟨b, i * 2 + 1, none⟩ (.int .i64 ((σ.done i + 1 : Nat) : Int))) := (Fr.refl _ _).setCell (p := ⟨b, i * 2 + 1, none⟩) (.inl (by simp)) _
  have hb : tg b = (2, 0) := h.t2 b (by rw [hv]; rfl)
  have hk : ∀ k, k ≠ 2 → ∀ x, x ∈ [b] → (tg x).1 ≠ k := fun k hk x hx e => hk (by simp at hx; rw [← e, hx, hb])
  have hu := GTgUp.refl w tg
  refine ⟨h.st' hf (hk 1 (by decide)), h.t1, ?_, h.t2, h.held' hf (hk 7 (by decide)), h.t3, fun j hj => h.stk' hf hj (tagNe (hk 3 (by decide))) hu,
    h.obs' hf (fun x hx => ⟨hk 4 (by decide) x hx, hk 5 (by decide) x hx, hk 6 (by decide) x hx⟩) hu, tok' h.tok hf⟩
  have hr := h.row
  rw [hv] at hr ⊢
  refine (hr.set1 hi _).congr fun j hj => ⟨rfl, ?_⟩
  show putF (fun i => Value.int .i64 (σ.done i : Int)) i _ j = Value.int .i64 ((setF σ.done i (σ.done i + 1) j : Nat) : Int)
  by_cases e : j = i
  · subst e; rw [putF_at, setF_at]
  · rw [putF_ne _ _ e, setF_ne _ _ e]
end
end Go.Proofs.Ytmodjkglcgoohaa
