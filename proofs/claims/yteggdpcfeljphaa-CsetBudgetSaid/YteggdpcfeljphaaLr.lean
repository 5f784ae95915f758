/- A slice that holds a list, wherever in its block it lies: appended to, cut, stored into; and many such lists apart from one another. -/
import Derived.Test.YteggdpcfeljphaaKit
import Derived.Deep.AppendSrc
import Derived.Deep.Upon
namespace Go.Gl
set_option linter.unusedVariables false
open Go.RowKit

/-- The slice at A, of n elements and room for c, holds the cells xs; G: its block, if it has room for any. -/
structure Lr (w : World) (e : TypeId) (A : Option Addr) (n c : Nat) (G : List Nat) (xs : List Value) : Prop where
  len : xs.length = n
  le : n ≤ c
  max : c ≤ maxLen
  zero : c = 0 → G = []
  blk : 0 < c → ∃ g off cur, A = some ⟨g, off, none⟩ ∧ G = [g] ∧ Blk w g e cur ∧ off + c ≤ cur.size ∧ (cur.toList.drop off).take n = xs
section
variable {w w' : World} {e : TypeId} {A : Option Addr} {n c : Nat} {G F : List Nat} {xs : List Value}
theorem Lr.nil (w : World) (e : TypeId) : Lr w e none 0 0 [] [] := ⟨rfl, Nat.le_refl _, Nat.zero_le _, fun _ => rfl, fun h => absurd h (by decide)⟩
theorem Lr.fr (h : Lr w e A n c G xs) (hf : Fr F w w') (hd : ∀ g, g ∈ G → g ∉ F) : Lr w' e A n c G xs :=
  ⟨h.len, h.le, h.max, h.zero, fun hc => by
    obtain ⟨g, off, cur, h1, h2, h3, h4, h5⟩ := h.blk hc
    exact ⟨g, off, cur, h1, h2, h3.fr hf (hd g (by simp [h2])), h4, h5⟩⟩
theorem Lr.fr0 (h : Lr w e A n c G xs) (hf : Fr [] w w') : Lr w' e A n c G xs := h.fr hf (fun _ _ => by simp)
theorem Lr.drew (h : Lr w e A n c G xs) : Lr w.drew e A n c G xs := h.fr0 ((Fr.refl _ _).drew)
theorem Lr.drewN (h : Lr w e A n c G xs) (k : Nat) : Lr (w.drewN k) e A n c G xs := h.fr0 ((Fr.refl _ _).drewN k)
theorem Lr.alloc (h : Lr w e A n c G xs) (o : Obj) : Lr (w.alloc o) e A n c G xs := h.fr0 ((Fr.refl _ _).alloc o)
theorem Lr.form (h : Lr w e A n c G xs) : (A = none ∧ c = 0) ∨ ∃ a, A = some a := by
  rcases Nat.eq_zero_or_pos c with h0 | h0
  · cases A with
    | none => exact .inl ⟨rfl, h0⟩
    | some a => exact .inr ⟨a, rfl⟩
  · obtain ⟨g, off, cur, h1, _⟩ := h.blk h0
    exact .inr ⟨_, h1⟩
theorem Lr.lt (h : Lr w e A n c G xs) : ∀ g, g ∈ G → g < w.heap.size := by
  intro g hg
  rcases Nat.eq_zero_or_pos c with h0 | h0
  · rw [h.zero h0] at hg; cases hg
  · obtain ⟨g', off, cur, h1, h2, h3, _⟩ := h.blk h0
    rw [h2] at hg
    simp at hg
    exact hg ▸ h3.lt
theorem Lr.apart (h : Lr w e A n c G xs) {g : Nat} {t : TypeId} {cs : Array Value} (hb : Blk w g t cs) (hne : e ≠ t) : g ∉ G := by
  intro hg
  rcases Nat.eq_zero_or_pos c with h0 | h0
  · rw [h.zero h0] at hg; cases hg
  · obtain ⟨g', off, cur, h1, h2, h3, _⟩ := h.blk h0
    rw [h2] at hg
    simp at hg
    exact Blk.apart h3 hb hne hg.symm
/-- Where there is an element. -/
theorem Lr.pos (h : Lr w e A n c G xs) (hn : 0 < n) : ∃ g off, A = some ⟨g, off, none⟩ ∧ G = [g] ∧ g < w.heap.size ∧ (∀ k, k < n → w.cell? ⟨g, off + k, none⟩ = xs[k]?) ∧ (∀ k, w.frozen? ⟨g, k, none⟩ = false) ∧ ∃ cur, Blk w g e cur ∧ off + c ≤ cur.size := by
  obtain ⟨g, off, cur, h1, h2, h3, h4, h5⟩ := h.blk (by have := h.le; omega)
  refine ⟨g, off, h1, h2, h3.lt, fun k hk => ?_, fun k => h3.frozen k, cur, h3, h4⟩
  rw [h3.cell, ← h5, List.getElem?_take_of_lt hk, List.getElem?_drop, Array.getElem?_toList]
theorem Lr.sl (h : Lr w e A n c G xs) : Sl w A n (fun k => xs.getD k undef) := fun hn => by
  obtain ⟨g, off, h1, _, h2, h3, _⟩ := h.pos hn
  refine ⟨g, off, h1, h2, fun k hk => ?_⟩
  rw [h3 k hk]
  have : k < xs.length := by rw [h.len]; exact hk
  simp [this]
theorem Lr.read (h : Lr w e A n c G xs) : 0 < n → ∃ ad, A = some ad ∧ ∀ j u, xs[j]? = some u → w.cell? (ad.add j) = some u := fun hn => by
  obtain ⟨g, off, h1, _, h2, h3, _⟩ := h.pos hn
  refine ⟨_, h1, fun j u hu => ?_⟩
  have hj : j < n := by rw [← h.len]; exact (List.getElem?_eq_some_iff.1 hu).1
  rw [show (⟨g, off, none⟩ : Addr).add j = ⟨g, off + j, none⟩ from Go.WideShapes.add_plain _ _ _, h3 j hj, hu]
/-- Without its first k elements. -/
theorem Lr.cut (h : Lr w e A n c G xs) (k : Nat) (hk : k ≤ n) : Lr w e (if c = k then A else A.map (·.add k)) (n - k) (c - k) (if c = k then [] else G) (xs.drop k) := by
  refine ⟨by simp [h.len], by have := h.le; omega, by have := h.max; omega, fun h0 => by rw [if_pos (by have := h.le; omega)], fun hc => ?_⟩
  rw [if_neg (by omega), if_neg (by omega)]
  obtain ⟨g, off, cur, h1, h2, h3, h4, h5⟩ := h.blk (by omega)
  refine ⟨g, off + k, cur, ?_, h2, h3, by omega, ?_⟩
  · rw [h1]; simp [Go.WideShapes.add_plain]
  · rw [← h5, ← List.drop_drop, List.drop_take]
/-- Its first k elements. -/
theorem Lr.keep (h : Lr w e A n c G xs) (k : Nat) (hk : k ≤ n) : Lr w e A k c G (xs.take k) := by
  refine ⟨by simp [h.len]; omega, by have := h.le; omega, h.max, h.zero, fun hc => ?_⟩
  obtain ⟨g, off, cur, h1, h2, h3, h4, h5⟩ := h.blk hc
  refine ⟨g, off, cur, h1, h2, h3, h4, ?_⟩
  rw [← h5, List.take_take]
  congr 1; omega
/-- One element turned. -/
theorem Lr.put {g off k : Nat} (h : Lr w e (some ⟨g, off, none⟩) n c G xs) (hk : k < n) (u : Value) : Lr (w.setCell ⟨g, off + k, none⟩ u) e (some ⟨g, off, none⟩) n c G (xs.set k u) := by
  refine ⟨by simp [h.len], h.le, h.max, h.zero, fun hc => ?_⟩
  obtain ⟨g', off', cur, h1, h2, h3, h4, h5⟩ := h.blk hc
  have hle := h.le
  injection h1 with h1
  injection h1 with h1 h1'
  subst h1 h1'
  refine ⟨_, _, _, rfl, h2, h3.put (off + k) u, by simp; omega, ?_⟩
  rw [← h5]
  apply List.ext_getElem?
  intro j
  rw [List.getElem?_take, List.getElem?_drop, Array.getElem?_toList, Array.getElem?_setIfInBounds, List.getElem?_set, List.getElem?_take, List.getElem?_drop, Array.getElem?_toList]
  by_cases hj : k = j
  · subst hj
    have h1 : off + k < cur.size := by omega
    simp [hk, h1]
    omega
  · simp [hj]
/-- A row of the call's own. -/
theorem Lr.of_own {base : Nat} {v : Value} (h : w.ownsRow base e 1 v n xs) : ∃ A c G, v = .slice A n c ∧ Lr w e A n c G xs ∧ ∀ g, g ∈ G → base ≤ g := by
  rcases own_blk h with ⟨rfl, rfl, rfl⟩ | ⟨g, cap, cur, rfl, hb, h1, h2, h3, h4, h5, h6⟩
  · exact ⟨none, 0, [], rfl, Lr.nil _ _, fun _ h => by cases h⟩
  · rcases Nat.eq_zero_or_pos cap with h0 | h0
    · refine ⟨_, cap, [], rfl, ⟨h6, h2, h3, fun _ => rfl, fun h => absurd h (by omega)⟩, fun _ h => by cases h⟩
    · exact ⟨_, cap, [g], rfl, ⟨h6, h2, h3, fun h => absurd h (by omega), fun _ => ⟨g, 0, cur, rfl, rfl, h1, by omega, by simpa using h5⟩⟩, fun x hx => by simp at hx; omega⟩
end

section
variable {P : Program} {w : World}
/-- append onto such a slice, of whatever lies behind another one. -/
theorem run_append_lr (t ty e : TypeId) (i : TypeInfo) (z : Value) (bytes : Nat) (ht : P.underlying t = some (.slice e)) (hi : P.info? e = some i) (hz : i.zero = some z) (hsize : i.size = 1) (hby : i.bytes = bytes) (hzs : z.cells.size = 1)
    {A : Option Addr} {n c : Nat} {G : List Nat} {xs : List Value} (h : Lr w e A n c G xs) {X : Option Addr} {m cx : Nat} {news : List Value} (hl : news.length = m)
    (hx : 0 < m → ∃ ad, X = some ad ∧ ∀ j u, news[j]? = some u → w.cell? (ad.add j) = some u) (h1 : ∀ u ∈ news, u.oneCell' = true) (h63 : n + m ≤ maxLen) (hb : (n + m) * bytes ≤ 140737488355328) :
    ∃ A' c' G' w', (Builtin.append_ #[t, t] ty #[.slice A n c, .slice X m cx]).run P w = .ok (.slice A' (n + m) c') w' ∧ Lr w' e A' (n + m) c' G' (xs ++ news) ∧ Fr G w w' ∧ (∀ g, g ∈ G' → g ∈ G ∨ (g = w.heap.size ∧ 0 < m)) := by
  subst hby
  rcases Nat.eq_zero_or_pos m with h0 | hm
  · subst h0
    obtain rfl : news = [] := List.eq_nil_of_length_eq_zero hl
    refine ⟨A, c, G, w, ?_, by simpa using h, Fr.refl _ _, fun g hg => .inl hg⟩
    cases X with
    | none => exact run_append_nothing w t t ty e i ht hi A n c h.le _ (Src.ofNil w ht cx)
    | some a => exact run_append_nothing w t t ty e i ht hi A n c h.le _ (Src.ofSlice w ht a 0 cx [] (by simp) (fun j u hu => by simp at hu) (fun _ hu => by cases hu))
  · obtain ⟨ad, rfl, hn⟩ := hx hm
    have hle := h.le
    by_cases hr : n + m ≤ c
    · obtain ⟨g, off, cur, rfl, rfl, hb, hsz, htk⟩ := h.blk (by omega)
      have hf := run_firstCells_some (P := P) w i.size m ad m cx news (by rw [hsize]; omega) hn
      have hst := run_storeCells_at P g (off + n) e news 0 cur w hb (by omega) h1
      simp only [Nat.add_zero] at hst
      rw [hsize] at hf
      refine ⟨some ⟨g, off, none⟩, c, [g], w.setRow g (cur.toList.take (off + n) ++ news ++ cur.toList.drop (off + n + news.length)).toArray, ?_, ⟨by simp [h.len, hl], hr, h.max, fun h => absurd h (by omega), fun _ => ⟨g, off, _, rfl, rfl, Blk.setRow hb _, ?_, ?_⟩⟩, Fr.setRow (by simp) _, fun x hx => .inl hx⟩
      · simp [Builtin.append_, run_underlying ht, sizeOf, typeInfo, hi, Builtin.lenOf, hr, hsize, hf, Addr.add_lit, hst]
      · simp; omega
      · have e1 : (cur.toList.take (off + n)).length = off + n := by simp; omega
        rw [List.append_assoc, List.drop_append_of_le_length (by omega), List.take_append, List.take_of_length_le (by simp; omega)]
        have e2 : ((cur.toList.take (off + n)).drop off) = xs := by
          rw [← htk, List.drop_take]; congr 1; omega
        rw [e2, h.len, show n + m - n = m by omega, List.take_append_of_le_length (by omega), List.take_of_length_le (by omega)]
    · have hsmall : n + m ≤ 9223372036854775807 := by simp only [maxLen] at h63; omega
      have hge := grownCap_ge w (n + m) c e
      have hcm : grownCap w (n + m) c e ≤ maxLen := grownCap_le_maxLen w (n + m) c e h63
      have hold : (Builtin.firstCells i.size n (.slice A n c)).run P w.drew = .ok xs.toArray w.drew := by
        rcases Nat.eq_zero_or_pos n with hn0 | hn0
        · subst hn0
          obtain rfl : xs = [] := List.eq_nil_of_length_eq_zero h.len
          cases A with
          | none => exact run_firstCells_none w.drew i.size 0 0 c
          | some a => exact run_firstCells_some w.drew i.size 0 a 0 c [] (by simp) (fun j u hu => by simp at hu)
        · obtain ⟨a, rfl, ha⟩ := h.read hn0
          exact run_firstCells_some w.drew i.size n a n c xs (by rw [hsize, h.len]; omega) (by simpa using ha)
      have hr := run_append_grow_src (P := P) w t t ty e i z ht hi hz A n c xs hold (.slice (some ad) m cx) m news (Src.ofSlice w ht ad m cx news (by rw [hsize]; omega) hn h1) (by omega) (by omega) (growslice_fits (by omega) hb)
      refine ⟨_, _, [w.heap.size], _, hr, ⟨by simp [h.len, hl], hge, hcm, fun h => absurd h (by omega), fun _ => ⟨w.heap.size, 0, _, rfl, rfl, Blk.new w.drew _ _, ?_, ?_⟩⟩, ((Fr.refl _ _).drew).alloc _, fun x hx => .inr ⟨by simpa using hx, hm⟩⟩
      · simp [size_zeroCells, hzs, h.len, hl]; omega
      · simp only [Array.toList_append, List.drop_zero]
        rw [List.take_append_of_le_length (by simp [h.len, hl]), List.take_of_length_le (by simp [h.len, hl])]
/-- .. for the walk. -/
theorem wpList_append_lr {ops : Array Oper} {rest : List Oper} {o : Oper} {a : Act} {Q : Exit → Act → World → Prop} (hgd : o.guard = none) (s x : Operand) (t : TypeId)
    (ho : o.op = .call { callee := .builtin .append, args := #[s, x], argTypes := #[t, t] })
    (e : TypeId) (i : TypeInfo) (z : Value) (bytes : Nat) (ht : P.underlying t = some (.slice e)) (hi : P.info? e = some i) (hz : i.zero = some z) (hsize : i.size = 1) (hby : i.bytes = bytes) (hzs : z.cells.size = 1)
    {A : Option Addr} {n c : Nat} {G : List Nat} {xs : List Value} (hs : a.eval s = .slice A n c) (h : Lr w e A n c G xs) {X : Option Addr} {m cx : Nat} {news : List Value} (hxv : a.eval x = .slice X m cx) (hl : news.length = m)
    (hx : 0 < m → ∃ ad, X = some ad ∧ ∀ j u, news[j]? = some u → w.cell? (ad.add j) = some u) (h1 : ∀ u ∈ news, u.oneCell' = true) (h63 : n + m ≤ maxLen) (hb : (n + m) * bytes ≤ 140737488355328)
    (hK : ∀ A' c' G' w', Hid (Lr w' e A' (n + m) c' G' (xs ++ news)) → Hid (Fr G w w') → Hid (∀ g, g ∈ G' → g ∈ G ∨ (g = w.heap.size ∧ 0 < m)) → wpList P ops Q rest (a.put o.dst (.slice A' (n + m) c')) w') : wpList P ops Q (o :: rest) a w := by
  refine wpList_plain hgd fun K hK' => ?_
  obtain ⟨A', c', G', w', hrun, r1, r2, r3⟩ := run_append_lr (P := P) t o.type e i z bytes ht hi hz hsize hby hzs h hl hx h1 h63 hb (cx := cx)
  unfold Oper.wp
  simp [execOp, ho, resolve, invoke, builtin, hs, hxv, hrun, Result.andThen]
  exact hK' _ _ (hK A' c' G' w' r1 r2 r3)
/-- .. at the operation. -/
theorem wp_append_lr {o : Oper} {a : Act} {K : Act → World → Prop} {Q : Exit → Act → World → Prop} (s x : Operand) (t : TypeId)
    (ho : o.op = .call { callee := .builtin .append, args := #[s, x], argTypes := #[t, t] })
    (e : TypeId) (i : TypeInfo) (z : Value) (bytes : Nat) (ht : P.underlying t = some (.slice e)) (hi : P.info? e = some i) (hz : i.zero = some z) (hsize : i.size = 1) (hby : i.bytes = bytes) (hzs : z.cells.size = 1)
    {A : Option Addr} {n c : Nat} {G : List Nat} {xs : List Value} (hs : a.eval s = .slice A n c) (h : Lr w e A n c G xs) {X : Option Addr} {m cx : Nat} {news : List Value} (hxv : a.eval x = .slice X m cx) (hl : news.length = m)
    (hx : 0 < m → ∃ ad, X = some ad ∧ ∀ j u, news[j]? = some u → w.cell? (ad.add j) = some u) (h1 : ∀ u ∈ news, u.oneCell' = true) (h63 : n + m ≤ maxLen) (hb : (n + m) * bytes ≤ 140737488355328)
    (hK : ∀ A' c' G' w', Hid (Lr w' e A' (n + m) c' G' (xs ++ news)) → Hid (Fr G w w') → Hid (∀ g, g ∈ G' → g ∈ G ∨ (g = w.heap.size ∧ 0 < m)) → K (a.put o.dst (.slice A' (n + m) c')) w') : Oper.wp P o a w K Q := by
  obtain ⟨A', c', G', w', hrun, r1, r2, r3⟩ := run_append_lr (P := P) t o.type e i z bytes ht hi hz hsize hby hzs h hl hx h1 h63 hb (cx := cx)
  unfold Oper.wp
  simp [execOp, ho, resolve, invoke, builtin, hs, hxv, hrun, Result.andThen]
  exact hK A' c' G' w' r1 r2 r3
/-- .. as a step of a region that draws. -/
theorem step_append_lr {ops : Array Oper} {o : Oper} {a : Act} {K : Act → World → Prop} {Q : Exit → Act → World → Prop} {E : Prop} (hgd : o.guard = none) (s x : Operand) (t : TypeId)
    (ho : o.op = .call { callee := .builtin .append, args := #[s, x], argTypes := #[t, t] })
    (e : TypeId) (i : TypeInfo) (z : Value) (bytes : Nat) (ht : P.underlying t = some (.slice e)) (hi : P.info? e = some i) (hz : i.zero = some z) (hsize : i.size = 1) (hby : i.bytes = bytes) (hzs : z.cells.size = 1)
    {A : Option Addr} {n c : Nat} {G : List Nat} {xs : List Value} (hs : a.eval s = .slice A n c) (h : Lr w e A n c G xs) {X : Option Addr} {m cx : Nat} {news : List Value} (hxv : a.eval x = .slice X m cx) (hl : news.length = m)
    (hx : 0 < m → ∃ ad, X = some ad ∧ ∀ j u, news[j]? = some u → w.cell? (ad.add j) = some u) (h1 : ∀ u ∈ news, u.oneCell' = true) (h63 : n + m ≤ maxLen) (hb : (n + m) * bytes ≤ 140737488355328)
    (hK : ∀ A' c' G' w', Hid (Lr w' e A' (n + m) c' G' (xs ++ news)) → Hid (Fr G w w') → Hid (∀ g, g ∈ G' → g ∈ G ∨ (g = w.heap.size ∧ 0 < m)) → K (a.put o.dst (.slice A' (n + m) c')) w') :
    if Region.wanted o (yielded ops a.tmps) = true then Oper.wp P o a w K Q else E := by
  have hw : Region.wanted o (yielded ops a.tmps) = true := by simp [Region.wanted, hgd]
  rw [if_pos hw]
  obtain ⟨A', c', G', w', hrun, r1, r2, r3⟩ := run_append_lr (P := P) t o.type e i z bytes ht hi hz hsize hby hzs h hl hx h1 h63 hb (cx := cx)
  unfold Oper.wp
  simp [execOp, ho, resolve, invoke, builtin, hs, hxv, hrun, Result.andThen]
  exact hK A' c' G' w' r1 r2 r3
end

/-- A list of whole numbers, as values. -/
def zv (l : List Int) : List Value := l.map (Value.int .i64)
theorem zv_len (l : List Int) : (zv l).length = l.length := by simp [zv]
theorem zv_app (a b : List Int) : zv (a ++ b) = zv a ++ zv b := by simp [zv]
theorem zv_take (l : List Int) (k : Nat) : zv (l.take k) = (zv l).take k := by simp [zv, List.map_take]
theorem zv_drop (l : List Int) (k : Nat) : zv (l.drop k) = (zv l).drop k := by simp [zv, List.map_drop]
theorem zv_one (l : List Int) : ∀ u ∈ zv l, u.oneCell' = true := by
  intro u hu
  obtain ⟨x, _, rfl⟩ := List.mem_map.1 hu
  rfl
theorem zv_get (l : List Int) {k : Nat} (h : k < l.length) : (zv l)[k]? = some (.int .i64 (l.getD k 0)) := by simp [zv, h]
theorem Lr.slz {w : World} {e : TypeId} {A : Option Addr} {n c : Nat} {G : List Nat} {l : List Int} (h : Lr w e A n c G (zv l)) : Sl w A n (fun k => .int .i64 (l.getD k 0)) := fun hn => by
  obtain ⟨g, off, h1, _, h2, h3, _⟩ := h.pos hn
  refine ⟨g, off, h1, h2, fun k hk => ?_⟩
  rw [h3 k hk, zv_get _ (by have := h.len; rw [zv_len] at this; omega)]
theorem one_of (w : World) (v : Value) (t : TypeId) {b : Nat} (hb : w.heap.size = b) (w' : World) (hf : Fr [] (w.alloc (.cells #[v] t)) w') : ∃ ad, some (⟨b, 0, none⟩ : Addr) = some ad ∧ ∀ j u, [v][j]? = some u → w'.cell? (ad.add j) = some u := by
  subst hb
  refine ⟨_, rfl, fun j u hj => ?_⟩
  have hb := (Blk.new w t #[v]).fr hf (by simp)
  match j, hj with
  | 0, hj =>
    simp only [List.getElem?_cons_zero, Option.some.injEq] at hj
    subst hj
    exact hb.cell 0

/-- A row of values, given by a function. -/
def rowF (n : Nat) (f : Nat → Value) : Array Value := ((List.range n).map f).toArray
def putF {α : Type} (f : Nat → α) (k : Nat) (v : α) : Nat → α := fun j => if j = k then v else f j
theorem putF_at {α : Type} (f : Nat → α) (k : Nat) (v : α) : putF f k v k = v := by simp [putF]
theorem putF_ne {α : Type} (f : Nat → α) {k j : Nat} (v : α) (h : j ≠ k) : putF f k v j = f j := by simp [putF, h]
theorem rowF_size (n : Nat) (f : Nat → Value) : (rowF n f).size = n := by simp [rowF]
theorem rowF_at {n : Nat} {f : Nat → Value} {k : Nat} (h : k < n) : (rowF n f)[k]? = some (f k) := by simp [rowF, h]
theorem rowF_ext {n : Nat} {f : Nat → Value} {cs : Array Value} (hs : cs.size = n) (h : ∀ k, k < n → cs[k]? = some (f k)) : cs = rowF n f := by
  apply Array.ext
  · rw [hs, rowF_size]
  · intro i h1 h2
    have a1 := h i (by omega)
    have a2 := rowF_at (f := f) (show i < n by omega)
    rw [Array.getElem?_eq_getElem h1] at a1
    rw [Array.getElem?_eq_getElem h2] at a2
    exact Option.some.inj (a1.trans a2.symm)
theorem rowF_set (n : Nat) (f : Nat → Value) (k : Nat) (v : Value) : (rowF n f).setIfInBounds k v = rowF n (putF f k v) := by
  refine rowF_ext (by simp [rowF_size]) fun j hj => ?_
  rw [Array.getElem?_setIfInBounds]
  unfold putF
  by_cases h : k = j
  · subst h
    rw [if_pos rfl, if_pos (by rw [rowF_size]; exact hj), if_pos rfl]
  · rw [if_neg h, if_neg (Ne.symm h), rowF_at hj]
theorem rowF_const (n : Nat) (v : Value) : rowF n (fun _ => v) = (List.replicate n v).toArray := by
  unfold rowF
  congr 1
  apply List.ext_getElem <;> simp

/-- n slices in a row at tb, each a list of whole numbers, apart from one another and from H; all within F. -/
structure Ls (ti ts : TypeId) (w : World) (tb n : Nat) (V : Nat → Value) (G : Nat → List Nat) (O : Nat → List Int) : Prop where
  tab : Blk w tb ts (rowF n V)
  own : ∀ i, i < n → ∃ A c, V i = .slice A (O i).length c ∧ Lr w ti A (O i).length c (G i) (zv (O i))
  apart : ∀ i j, i < n → j < n → i ≠ j → ∀ g, g ∈ G i → g ∉ G j
section
variable {ti ts : TypeId} {w w' : World} {tb n : Nat} {V : Nat → Value} {G : Nat → List Nat} {O : Nat → List Int} {F : List Nat}
theorem Ls.fr (h : Ls ti ts w tb n V G O) (hf : Fr F w w') (h1 : tb ∉ F) (h2 : ∀ i, i < n → ∀ g, g ∈ G i → g ∉ F) : Ls ti ts w' tb n V G O :=
  ⟨h.tab.fr hf h1, fun i hi => by
    obtain ⟨A, c, e1, e2⟩ := h.own i hi
    exact ⟨A, c, e1, e2.fr hf (h2 i hi)⟩, h.apart⟩
theorem Ls.fr0 (h : Ls ti ts w tb n V G O) (hf : Fr [] w w') : Ls ti ts w' tb n V G O := h.fr hf (by simp) (fun _ _ _ _ => by simp)
theorem Ls.cw (h : Ls ti ts w tb n V G O) {k : Nat} (hk : k < n) : w.cell? ⟨tb, k, none⟩ = some (V k) := by rw [h.tab.cell, rowF_at hk]
theorem Ls.far (h : Ls ti ts w tb n V G O) (hne : ti ≠ ts) {k : Nat} (hk : k < n) : tb ∉ G k := by
  obtain ⟨A, c, e1, e2⟩ := h.own k hk
  exact e2.apart h.tab hne
theorem Ls.lt (h : Ls ti ts w tb n V G O) {k : Nat} (hk : k < n) : ∀ g, g ∈ G k → g < w.heap.size := by
  obtain ⟨A, c, e1, e2⟩ := h.own k hk
  exact e2.lt
/-- List k turned into another one, its slice stored. -/
theorem Ls.put (h : Ls ti ts w tb n V G O) (hne : ti ≠ ts) {k : Nat} (hk : k < n) {A : Option Addr} {c : Nat} {G1 : List Nat} {l : List Int} (hf : Fr (G k) w w') (hl : Lr w' ti A l.length c G1 (zv l)) (hg : ∀ g, g ∈ G1 → g ∈ G k ∨ w.heap.size ≤ g) :
    Ls ti ts (w'.setCell ⟨tb, k, none⟩ (.slice A l.length c)) tb n (putF V k (.slice A l.length c)) (putF G k G1) (putF O k l) := by
  have hF : Fr [tb] w' (w'.setCell ⟨tb, k, none⟩ (.slice A l.length c)) := (Fr.refl _ _).setCell (p := ⟨tb, k, none⟩) (.inl (by simp)) _
  have ht := h.tab.fr hf (h.far hne hk)
  refine ⟨by have := ht.put k (.slice A l.length c); rw [rowF_set] at this; exact this, fun i hi => ?_, fun i j hi hj hij g hgi hgj => ?_⟩
  · by_cases hik : i = k
    · subst hik
      rw [putF_at, putF_at, putF_at]
      refine ⟨A, c, rfl, hl.fr hF fun g hg1 => ?_⟩
      have := hl.apart ht hne
      intro h0
      simp at h0
      subst h0
      exact this hg1
    · rw [putF_ne _ _ hik, putF_ne _ _ hik, putF_ne _ _ hik]
      obtain ⟨A', c', e1, e2⟩ := h.own i hi
      refine ⟨A', c', e1, (e2.fr hf (h.apart i k hi hk hik)).fr hF fun g hg1 => ?_⟩
      have := e2.apart h.tab hne
      intro h0
      simp at h0
      subst h0
      exact this hg1
  · by_cases hik : i = k
    · subst hik
      rw [putF_at] at hgi
      rw [putF_ne _ _ (fun h => hij h.symm)] at hgj
      rcases hg g hgi with h1 | h1
      · exact h.apart i j hi hj hij g h1 hgj
      · have := h.lt hj g hgj; omega
    · rw [putF_ne _ _ hik] at hgi
      by_cases hjk : j = k
      · subst hjk
        rw [putF_at] at hgj
        rcases hg g hgj with h1 | h1
        · exact h.apart i j hi hj hij g hgi h1
        · have := h.lt hi g hgi; omega
      · rw [putF_ne _ _ hjk] at hgj
        exact h.apart i j hi hj hij g hgi hgj
end
end Go.Gl
