/- Package graph: what lies where: each block has a tag that says whose it is. -/
import Derived.Test.YthacgiajnafpgaaGreatDoorQGp
import Derived.Test.YthacgiajnafpgaaGreatDoorQMp
import Derived.WalkKit
namespace Go.Gl
set_option linter.unusedVariables false
open Go.RowKit
/-- A row of structs of two cells. -/
def rows2 (f g : Nat → Value) (n : Nat) : List Value := (List.range n).flatMap fun i => [f i, g i]
theorem rows2_succ (f g : Nat → Value) (n : Nat) : rows2 f g (n + 1) = rows2 f g n ++ [f n, g n] := by
  unfold rows2
  rw [List.range_succ, List.flatMap_append]
  simp
theorem rows2_len (f g : Nat → Value) : ∀ n, (rows2 f g n).length = n * 2
  | 0 => rfl
  | n + 1 => by rw [rows2_succ, List.length_append, rows2_len f g n]; simp; omega
theorem rows2_at (f g : Nat → Value) : ∀ {n i : Nat}, i < n → (rows2 f g n)[i * 2]? = some (f i) ∧ (rows2 f g n)[i * 2 + 1]? = some (g i)
  | n + 1, i, h => by
    rw [rows2_succ]
    have hl := rows2_len f g n
    rcases Nat.lt_or_ge i n with h1 | h1
    · obtain ⟨a, b⟩ := rows2_at f g h1
      exact ⟨by rw [List.getElem?_append_left (by omega)]; exact a, by rw [List.getElem?_append_left (by omega)]; exact b⟩
    · obtain rfl : i = n := by omega
      refine ⟨?_, ?_⟩
      · rw [List.getElem?_append_right (by omega), hl, Nat.sub_self]; rfl
      · rw [List.getElem?_append_right (by omega), hl, show i * 2 + 1 - i * 2 = 1 by omega]; rfl
theorem rows2_congr {f g f' g' : Nat → Value} : ∀ {n : Nat}, (∀ i, i < n → f i = f' i ∧ g i = g' i) → rows2 f g n = rows2 f' g' n
  | 0, _ => rfl
  | n + 1, h => by
    rw [rows2_succ, rows2_succ, rows2_congr (fun i hi => h i (by omega)), (h n (by omega)).1, (h n (by omega)).2]
def R2 (w : World) (e : TypeId) (v : Value) (n : Nat) (f g : Nat → Value) : Prop := w.ownsRow 0 e 2 v n (rows2 f g n)
section
variable {w w' : World} {e : TypeId} {v : Value} {n : Nat} {f g : Nat → Value} {F : List Nat}
theorem R2.nil (w : World) (e : TypeId) (f g : Nat → Value) : R2 w e (.slice none 0 0) 0 f g := World.ownsRow_nil _ _ _ _
theorem R2.fr (h : R2 w e v n f g) (hf : Fr F w w') (hg : ∀ b, v.ownBlock = some b → b ∉ F) : R2 w' e v n f g := own_fr h hf hg
theorem R2.lt (h : R2 w e v n f g) {b : Nat} (hb : v.ownBlock = some b) : b < w.heap.size := by
  rcases h.2 with ⟨rfl, _⟩ | ⟨g', cap, cur, rfl, _, hh, _⟩
  · cases hb
  · injection hb with hb
    exact hb ▸ Blk.lt (t := e) hh
theorem R2.pos (h : R2 w e v n f g) (hn : 0 < n) : ∃ b c, v = .slice (some ⟨b, 0, none⟩) n c ∧ b < w.heap.size ∧ (∀ k, w.frozen? ⟨b, k, none⟩ = false) ∧
    ∀ i, i < n → w.cell? ⟨b, i * 2, none⟩ = some (f i) ∧ w.cell? ⟨b, i * 2 + 1, none⟩ = some (g i) := by
  rcases h.2 with ⟨h1, h2⟩ | ⟨b, cap, cur, h1, _, hb, h3, h4, h5, h6⟩
  · exact absurd h2 (by omega)
  · have hb : Blk w b e cur := hb
    refine ⟨b, cap, h1, hb.lt, fun k => hb.frozen k, fun i hi => ?_⟩
    have key : ∀ j, j < n * 2 → cur[j]? = (rows2 f g n)[j]? := fun j hj => by
      rw [← h6, List.getElem?_take_of_lt hj, Array.getElem?_toList]
    rw [hb.cell, hb.cell, key _ (by omega), key _ (by omega)]
    exact rows2_at f g hi
theorem R2.congr {f' g' : Nat → Value} (h : R2 w e v n f g) (hc : ∀ i, i < n → f i = f' i ∧ g i = g' i) : R2 w e v n f' g' := by
  unfold R2
  rw [← rows2_congr hc]
  exact h
end
abbrev TG := Nat → Nat × Int
def GTgOk (w : World) (tg : TG) : Prop := ∀ b, (tg b).1 ≠ 0 → b < w.heap.size
/-- From tg to tg' only blocks that are new since w have been tagged. -/
def GTgUp (w : World) (tg tg' : TG) : Prop := ∀ b, b < w.heap.size → tg' b = tg b
theorem GTgUp.refl (w : World) (tg : TG) : GTgUp w tg tg := fun _ _ => rfl
/-- Only tagged blocks, and new ones, have turned. -/
structure GFr (w : World) (tg : TG) (w' : World) (tg' : TG) : Prop where
  fr : ∃ F, Fr F w w' ∧ ∀ x, x ∈ F → (tg x).1 ≠ 0
  up : GTgUp w tg tg'
section
variable {w w' w'' : World} {tg tg' tg'' : TG} {F : List Nat}
theorem GFr.refl (w : World) (tg : TG) : GFr w tg w tg := ⟨⟨[], Fr.refl _ _, fun _ h => by cases h⟩, GTgUp.refl _ _⟩
theorem GFr.of (hf : Fr F w w') (hF : ∀ x, x ∈ F → (tg x).1 ≠ 0) : GFr w tg w' tg := ⟨⟨F, hf, hF⟩, GTgUp.refl _ _⟩
theorem GFr.fr0 (hf : Fr [] w w') : GFr w tg w' tg := GFr.of hf (fun _ h => by cases h)
theorem GFr.size (h : GFr w tg w' tg') : w.heap.size ≤ w'.heap.size := by
  obtain ⟨F, h1, _⟩ := h.fr
  exact h1.size
theorem GFr.trans (h : GFr w tg w' tg') (k : GFr w' tg' w'' tg'') : GFr w tg w'' tg'' := by
  obtain ⟨F, h1, h2⟩ := h.fr
  obtain ⟨G, k1, k2⟩ := k.fr
  have hs := h1.size
  refine ⟨⟨F ++ G.filter (fun x => decide (x < w.heap.size)), (h1.mono (fun x hx => .inl (by simp [hx]))).trans k1 (fun x hx => ?_), fun x hx => ?_⟩, fun b hb => (k.up b (by omega)).trans (h.up b hb)⟩
  · rcases Nat.lt_or_ge x w.heap.size with h3 | h3
    · exact .inl (by simp [hx, h3])
    · exact .inr h3
  · rcases List.mem_append.1 hx with h3 | h3
    · exact h2 x h3
    · rw [List.mem_filter] at h3
      have h4 : x < w.heap.size := by simpa using h3.2
      rw [← h.up x h4]
      exact k2 x h3.1
/-- A block that isn't tagged stays. -/
theorem GFr.blk (h : GFr w tg w' tg') {g : Nat} {t : TypeId} {cs : Array Value} (hb : Blk w g t cs) (hg : (tg g).1 = 0) : Blk w' g t cs := by
  obtain ⟨F, h1, h2⟩ := h.fr
  exact hb.fr h1 (fun hx => h2 g hx hg)
theorem GFr.cell (h : GFr w tg w' tg') {p : Addr} (hp : p.block < w.heap.size) (hg : (tg p.block).1 = 0) : w'.cell? p = w.cell? p := by
  obtain ⟨F, h1, h2⟩ := h.fr
  exact h1.cell hp (fun hx => h2 _ hx hg)
/-- Where all that is tagged is new since W, W is as it was. -/
theorem GFr.inside {W : World} (h : Fr [] W w) (ht : ∀ b, (tg b).1 ≠ 0 → W.heap.size ≤ b) (k : GFr w tg w' tg') : Fr [] W w' := by
  obtain ⟨F, h1, h2⟩ := k.fr
  exact h.trans h1 (fun x hx => .inr (ht x (h2 x hx)))
theorem GFr.new {W : World} (hw : Fr [] W w) (ht : ∀ b, (tg b).1 ≠ 0 → W.heap.size ≤ b) (k : GFr w tg w' tg') : ∀ b, (tg' b).1 ≠ 0 → W.heap.size ≤ b := fun b hb => by
  rcases Nat.lt_or_ge b w.heap.size with h1 | h1
  · rw [k.up b h1] at hb
    exact ht b hb
  · exact Nat.le_trans hw.size h1
end
end Go.Gl
namespace Go.Proofs.YthacgiajnafpgaaGreatDoor
set_option linter.unusedVariables false
open Go.RowKit Go.Gl
open Go.Maps (Keyed)

theorem Tryz.refLaw : Keyed Tryz.prog 67 := Maps.int_keyed Tryz.underlying67
theorem refKey (a : Int) (wa : (Lit.int .u64 a).wf = true) : keyOf Tryz.prog 67 (.int .u64 a) = some (.int .u64 a) := Maps.keyOf_int_mk Tryz.underlying67 wa
theorem wf_u64_of {n : Int} (h : 0 ≤ n ∧ n < 18446744073709551616) : (Lit.int .u64 n).wf = true := by
  have : 0 ≤ n ∧ n ≤ 18446744073709551615 := by omega
  simpa [Lit.wf, IntKind.min, IntKind.max, IntKind.signed, IntKind.bits] using this
def ptrV (ob : Int → Nat) (r : Int) : Value := if r = 0 then .pointer none else .pointer (some ⟨ob r, 0, none⟩)
theorem tagNe {tg : TG} {F : List Nat} {k : Nat} {i : Int} (hF : ∀ x, x ∈ F → (tg x).1 ≠ k) : ∀ x, x ∈ F → tg x ≠ (k, i) := fun x hx e => hF x hx (by rw [e])
theorem tok' {w w' : World} {tg : TG} {F : List Nat} (h : GTgOk w tg) (hf : Fr F w w') : GTgOk w' tg := fun b hb => Nat.lt_of_lt_of_le (h b hb) hf.size
end Go.Proofs.YthacgiajnafpgaaGreatDoor
