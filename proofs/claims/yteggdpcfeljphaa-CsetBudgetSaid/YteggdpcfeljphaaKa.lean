/- Sets told as rising lists; candidates by their keys; what a budget is enough for; what a sort leaves behind in a block. -/
import Derived.Test.YteggdpcfeljphaaLr
import Derived.Sort.OwnSortedInts
import Derived.Lib.SlicesCompact
namespace Go.Gl
set_option linter.unusedVariables false
open Go.RowKit Go.Sort

/-- A rising list that tells just the numbers of S. -/
structure IsSet (S : Int → Prop) (r : List Int) : Prop where
  up : r.Pairwise (· < ·)
  mem : ∀ x, x ∈ r ↔ S x
theorem up_eq : ∀ (a b : List Int), a.Pairwise (· < ·) → b.Pairwise (· < ·) → (∀ x, x ∈ a ↔ x ∈ b) → a = b
  | [], [], _, _, _ => rfl
  | [], y :: b, _, _, h => by have := (h y).2 (by simp); cases this
  | x :: a, [], _, _, h => by have := (h x).1 (by simp); cases this
  | x :: a, y :: b, ha, hb, h => by
    obtain ⟨ha1, ha2⟩ := List.pairwise_cons.1 ha
    obtain ⟨hb1, hb2⟩ := List.pairwise_cons.1 hb
    have e : x = y := by
      have h1 : x ∈ y :: b := (h x).1 (by simp)
      have h2 : y ∈ x :: a := (h y).2 (by simp)
      rcases List.mem_cons.1 h1 with h1 | h1
      · exact h1
      · rcases List.mem_cons.1 h2 with h2 | h2
        · exact h2.symm
        · have := hb1 _ h1; have := ha1 _ h2; omega
    subst e
    rw [up_eq a b ha2 hb2 fun z => ?_]
    have hz := h z
    simp only [List.mem_cons] at hz
    constructor
    · intro hm
      rcases hz.1 (.inr hm) with h1 | h1
      · have := ha1 _ hm; omega
      · exact h1
    · intro hm
      rcases hz.2 (.inr hm) with h1 | h1
      · have := hb1 _ hm; omega
      · exact h1
theorem IsSet.eq {S T : Int → Prop} {a b : List Int} (h : IsSet S a) (h' : IsSet T b) (hST : ∀ x, S x ↔ T x) : a = b :=
  up_eq a b h.up h'.up fun x => by rw [h.mem, h'.mem, hST]
theorem IsSet.congr {S T : Int → Prop} {a : List Int} (h : IsSet S a) (hST : ∀ x, S x ↔ T x) : IsSet T a := ⟨h.up, fun x => by rw [h.mem, hST]⟩

/-- A candidate is told by its region and how many words of it live; its key by its cost and its region. -/
def keyC (c : Int × Int) : Int × Int := (max c.2 0, c.1)
/-- Ahead of the other, or the same. -/
def kle (a b : Int × Int) : Prop := a.1 < b.1 ∨ (a.1 = b.1 ∧ a.2 ≤ b.2)
theorem kle_antisymm {a b : Int × Int} (h : kle a b) (h' : kle b a) : a = b := by
  unfold kle at h h'
  exact Prod.ext (by omega) (by omega)
theorem kle_total (a b : Int × Int) : kle a b ∨ kle b a := by unfold kle; omega
theorem kle_trans {a b c : Int × Int} (h : kle a b) (h' : kle b c) : kle a c := by unfold kle at *; omega
theorem kle_refl (a : Int × Int) : kle a a := by unfold kle; omega
instance (a b : Int × Int) : Decidable (kle a b) := by unfold kle; exact inferInstance
/-- The keys K in their order. -/
structure Srt (K s : List (Int × Int)) : Prop where
  perm : s.Perm K
  up : s.Pairwise kle
theorem Srt.eq {K s s' : List (Int × Int)} (h : Srt K s) (h' : Srt K s') : s = s' :=
  List.Perm.eq_of_pairwise (fun a b _ _ h1 h2 => kle_antisymm h1 h2) h.up h'.up (h.perm.trans h'.perm.symm)
theorem Srt.some (K : List (Int × Int)) : ∃ s, Srt K s :=
  ⟨K.mergeSort fun a b => decide (kle a b), List.mergeSort_perm _ _, by
    have h := List.pairwise_mergeSort (le := fun a b : Int × Int => decide (kle a b)) (fun a b c h1 h2 => by simp only [decide_eq_true_eq] at *; exact kle_trans h1 h2)
      (fun a b => by rcases kle_total a b with h | h <;> simp [h]) K
    exact h.imp fun h => by simpa using h⟩
theorem Srt.congr {K K' s : List (Int × Int)} (h : Srt K s) (hp : K.Perm K') : Srt K' s := ⟨h.perm.trans hp, h.up⟩
/-- What a budget is enough for, of keys in their order. -/
def takeB : List (Int × Int) → Int → List (Int × Int)
  | [], _ => []
  | k :: s, b => if b < k.1 then [] else k :: takeB s (b - k.1)
theorem takeB_sub : ∀ (s : List (Int × Int)) (b : Int), (takeB s b).Sublist s
  | [], _ => List.Sublist.refl _
  | k :: s, b => by
    unfold takeB
    split
    · exact List.nil_sublist _
    · exact (takeB_sub s _).cons_cons _
/-- Which regions are chosen. -/
def Chosen (Y : List Int) (L : List (Int × Int)) (b : Int) (x : Int) : Prop := x ∈ Y ∨ ∃ s, Srt (L.map keyC) s ∧ x ∈ (takeB s b).map (·.2)
theorem chosen_iff {Y : List Int} {L s : List (Int × Int)} {b x : Int} (h : Srt (L.map keyC) s) : Chosen Y L b x ↔ x ∈ Y ∨ x ∈ (takeB s b).map (·.2) := by
  constructor
  · rintro (h1 | ⟨s', h1, h2⟩)
    · exact .inl h1
    · rw [h.eq h1]; exact .inr h2
  · rintro (h1 | h1)
    · exact .inl h1
    · exact .inr ⟨s, h, h1⟩
theorem chosen_perm {Y : List Int} {L L' : List (Int × Int)} {b x : Int} (h : L.Perm L') : Chosen Y L b x ↔ Chosen Y L' b x := by
  obtain ⟨s, hs⟩ := Srt.some (L.map keyC)
  rw [chosen_iff hs, chosen_iff (hs.congr (h.map keyC))]

/-! Going through the keys in their order. -/
/-- Behind the first k: what is left of the budget. -/
def leftB (s : List (Int × Int)) (b : Int) : Nat → Int
  | 0 => b
  | k + 1 => leftB s b k - (s.getD k (0, 0)).1
/-- The first k are taken. -/
def TakenB (s : List (Int × Int)) (b : Int) (k : Nat) : Prop := ∀ j, j < k → (s.getD j (0, 0)).1 ≤ leftB s b j
theorem leftB_cons (a : Int × Int) (s : List (Int × Int)) (b : Int) : ∀ k, leftB (a :: s) b (k + 1) = leftB s (b - a.1) k
  | 0 => by simp [leftB]
  | k + 1 => by
    show leftB (a :: s) b (k + 1) - ((a :: s).getD (k + 1) (0, 0)).1 = leftB s (b - a.1) k - (s.getD k (0, 0)).1
    rw [leftB_cons a s b k]; simp
theorem takenB_take : ∀ (s : List (Int × Int)) (b : Int) (k : Nat), k ≤ s.length → TakenB s b k → (takeB s b).take k = s.take k ∧ k ≤ (takeB s b).length
  | _, _, 0, _, _ => by simp
  | [], _, k + 1, h, _ => by simp at h
  | a :: s, b, k + 1, h, ht => by
    have h0 := ht 0 (by omega)
    simp only [leftB, List.getD_cons_zero] at h0
    have h1 : TakenB s (b - a.1) k := fun j hj => by
      have := ht (j + 1) (by omega)
      rwa [leftB_cons, List.getD_cons_succ] at this
    obtain ⟨e1, e2⟩ := takenB_take s (b - a.1) k (by simp at h; omega) h1
    unfold takeB
    rw [if_neg (by omega)]
    exact ⟨by rw [List.take_succ_cons, List.take_succ_cons, e1], by simp; omega⟩
/-- The first k are taken, and the next one is too much. -/
theorem takenB_stop : ∀ (s : List (Int × Int)) (b : Int) (k : Nat), k < s.length → TakenB s b k → leftB s b k < (s.getD k (0, 0)).1 → takeB s b = s.take k
  | [], _, _, h, _, _ => by simp at h
  | a :: s, b, 0, _, _, hs => by
    unfold takeB
    rw [if_pos (by simpa [leftB] using hs)]; simp
  | a :: s, b, k + 1, h, ht, hs => by
    have h0 := ht 0 (by omega)
    simp only [leftB, List.getD_cons_zero] at h0
    have h1 : TakenB s (b - a.1) k := fun j hj => by
      have := ht (j + 1) (by omega)
      rwa [leftB_cons, List.getD_cons_succ] at this
    rw [leftB_cons, List.getD_cons_succ] at hs
    unfold takeB
    rw [if_neg (by omega), takenB_stop s (b - a.1) k (by simp at h; omega) h1 hs, List.take_succ_cons]
theorem takenB_all {s : List (Int × Int)} {b : Int} (h : TakenB s b s.length) : takeB s b = s := by
  obtain ⟨e1, e2⟩ := takenB_take s b s.length (Nat.le_refl _) h
  rw [List.take_length] at e1
  have h3 := (takeB_sub s b).length_le
  rw [List.take_of_length_le h3] at e1
  exact e1
theorem leftB_le {s : List (Int × Int)} {b : Int} (h0 : ∀ c, c ∈ s → 0 ≤ c.1) : ∀ k, k ≤ s.length → leftB s b k ≤ b
  | 0, _ => Int.le_refl _
  | k + 1, h => by
    have h1 := leftB_le (b := b) h0 k (by omega)
    have hk : k < s.length := by omega
    have h2 := h0 (s.getD k (0, 0)) (by simp [hk])
    show leftB s b k - _ ≤ b
    omega
theorem leftB_nn {s : List (Int × Int)} {b : Int} {k : Nat} (h : TakenB s b k) (hb : k = 0 → 0 ≤ leftB s b k) : 0 ≤ leftB s b k := by
  cases k with
  | zero => exact hb rfl
  | succ k =>
    have := h k (by omega)
    show 0 ≤ leftB s b k - _
    omega

/-! What is read of candidates among arguments: by functions. -/
/-- Such a list, by a function. -/
def candL (n : Nat) (f : Nat → Nat → Int) : List (Int × Int) := (List.range n).map fun i => (f i 0, f i 1)
theorem candL_len (n : Nat) (f : Nat → Nat → Int) : (candL n f).length = n := by simp [candL]
theorem candL_get {n : Nat} (f : Nat → Nat → Int) {i : Nat} (h : i < n) : (candL n f).getD i (0, 0) = (f i 0, f i 1) := by simp [candL, h]
/-- Candidates as cells. -/
def pv (l : List (Int × Int)) : List Value := l.flatMap fun c => [.int .i64 c.1, .int .i64 c.2]
theorem pv_len : ∀ l : List (Int × Int), (pv l).length = l.length * 2
  | [] => rfl
  | c :: l => by
    have := pv_len l
    simp only [pv, List.flatMap_cons, List.length_append, List.length_cons, List.length_nil] at *
    omega
theorem pv_app (a b : List (Int × Int)) : pv (a ++ b) = pv a ++ pv b := by simp [pv]
theorem pv_one : ∀ (l : List (Int × Int)) (u : Value), u ∈ pv l → u.oneCell' = true := by
  intro l u hu
  obtain ⟨c, _, hc⟩ := List.mem_flatMap.1 hu
  simp at hc
  rcases hc with rfl | rfl <;> rfl
theorem pv_get : ∀ (l : List (Int × Int)) (i : Nat), i < l.length → (pv l)[i * 2]? = some (.int .i64 (l.getD i (0, 0)).1) ∧ (pv l)[i * 2 + 1]? = some (.int .i64 (l.getD i (0, 0)).2)
  | [], i, h => by simp at h
  | c :: l, 0, _ => by simp [pv]
  | c :: l, i + 1, h => by
    obtain ⟨e1, e2⟩ := pv_get l i (by simp at h; omega)
    have hp : pv (c :: l) = .int .i64 c.1 :: .int .i64 c.2 :: pv l := by simp [pv]
    rw [hp, show (i + 1) * 2 = i * 2 + 1 + 1 by omega, List.getD_cons_succ]
    exact ⟨by simpa using e1, by simpa using e2⟩

/-! What a sort leaves behind. -/
theorem Fr.sortW {α : Type} [Inhabited α] {enc : α → Value} {w : World} {g off n : Nat} (d : Array α) (os : Array Obj) : Fr [g] w (grow (putRow enc (Sort.ahead w n) g off d) os) := by
  refine ⟨rfl, rfl, rfl, by simp [putRow, mapBlock, Sort.ahead], fun k hk hne => ?_⟩
  have hg : g ≠ k := fun e => hne (by simp [e])
  rw [heap_grow_old _ _ (by simpa [putRow, mapBlock, Sort.ahead] using hk)]
  simp [putRow, mapBlock, Sort.ahead, Array.getElem?_modify, hg]
theorem Blk.sortW {α : Type} [Inhabited α] {enc : α → Value} {w : World} {g off n : Nat} {t : TypeId} {cur : Array Value} (h : Blk w g t cur) (d : Array α) (os : Array Obj) :
    Blk (grow (putRow enc (Sort.ahead w n) g off d) os) g t (putCells enc off d cur) := by
  have hg := h.lt
  unfold Blk at h ⊢
  rw [heap_grow_old _ _ (by simpa [putRow, mapBlock, Sort.ahead] using hg)]
  simp [putRow, mapBlock, Sort.ahead, Array.getElem?_modify, h, onCells]
theorem putCells_size {α : Type} [Inhabited α] (enc : α → Value) (off : Nat) (d : Array α) (cur : Array Value) : (putCells enc off d cur).size = cur.size := by simp [putCells]
theorem putCells_at {α : Type} [Inhabited α] (enc : α → Value) {off j : Nat} (d : Array α) {cur : Array Value} (hj : j < d.size) (h : off + d.size ≤ cur.size) : (putCells enc off d cur)[off + j]? = some (enc d[j]!) := by
  have h1 : off + j < cur.size := by omega
  simp [putCells, h1, hj]
theorem putCells_take {enc : Int → Value} {off : Nat} {l : List Int} {cur : Array Value} (h : off + l.length ≤ cur.size) : ((putCells enc off l.toArray cur).toList.drop off).take l.length = l.map enc := by
  apply List.ext_getElem?
  intro j
  by_cases hj : j < l.length
  · rw [List.getElem?_take_of_lt hj, List.getElem?_drop, Array.getElem?_toList, putCells_at enc _ (by simpa using hj) (by simpa using h)]
    simp [hj]
  · rw [List.getElem?_take_eq_none (by omega), List.getElem?_eq_none (by simp; omega)]
/-- A list of whole numbers, as the sort's contracts ask it. -/
theorem Lr.holds {w : World} {e : TypeId} {n c g off : Nat} {G : List Nat} {l : List Int} (h : Lr w e (some ⟨g, off, none⟩) n c G (zv l)) (hn : 0 < n) : Sort.Holds (Value.int .i64) w g off l.toArray ∧ g < w.heap.size := by
  obtain ⟨g', off', h1, _, h2, h3, h4, _⟩ := h.pos hn
  injection h1 with h1
  injection h1 with h1 h1'
  subst h1 h1'
  refine ⟨fun j hj => ?_, h2⟩
  have hl : l.length = n := by have := h.len; rwa [zv_len] at this
  have hj' : j < l.length := by simpa using hj
  refine ⟨?_, h4 _⟩
  rw [h3 j (by omega), zv_get _ hj']
  simp [hj']
theorem Lr.sortW {w : World} {e : TypeId} {n c g off q : Nat} {G : List Nat} {l l' : List Int} (h : Lr w e (some ⟨g, off, none⟩) n c G (zv l)) (hn : 0 < n) (hl : l'.length = l.length) (os : Array Obj) :
    Lr (grow (putRow (Value.int .i64) (Sort.ahead w q) g off l'.toArray) os) e (some ⟨g, off, none⟩) n c G (zv l') ∧ Fr G w (grow (putRow (Value.int .i64) (Sort.ahead w q) g off l'.toArray) os) := by
  have hlen : l.length = n := by have := h.len; rwa [zv_len] at this
  have hle := h.le
  obtain ⟨g', off', cur, h1, h2, h3, h4, h5⟩ := h.blk (by omega)
  injection h1 with h1
  injection h1 with h1 h1'
  subst h1 h1'
  refine ⟨⟨by rw [zv_len]; omega, h.le, h.max, h.zero, fun _ => ⟨_, _, _, rfl, h2, h3.sortW _ os, by rw [putCells_size]; exact h4, ?_⟩⟩, h2 ▸ Fr.sortW _ os⟩
  have := putCells_take (enc := Value.int .i64) (off := off) (l := l') (cur := cur) (by omega)
  rw [hl, hlen] at this
  exact this

/-! What the library's Compact leaves of a list that is in order. -/
theorem compact_up (d : Array Int) (hs : ∀ i j, i < j → j < d.size → d[i]! ≤ d[j]!) : ∀ m, m ≤ d.size → (Lib.compactUpTo d m).Pairwise (· < ·) ∧ (∀ x, x ∈ Lib.compactUpTo d m ↔ ∃ j, j < m ∧ d[j]! = x)
  | 0, _ => by simp [Lib.compactUpTo]
  | m + 1, hm => by
    obtain ⟨h1, h2⟩ := compact_up d hs m (by omega)
    rw [Lib.compactUpTo_succ]
    by_cases hk : Lib.keeps d m = true
    · rw [if_pos hk]
      have hlt : ∀ x, x ∈ Lib.compactUpTo d m → x < d[m]! := by
        intro x hx
        obtain ⟨j, hj, rfl⟩ := (h2 x).1 hx
        have hne : d[m]! ≠ d[m - 1]! := by
          intro e
          rw [Lib.keeps_neg (by omega) e] at hk
          cases hk
        have a1 : d[j]! ≤ d[m - 1]! := by
          rcases Nat.lt_or_ge j (m - 1) with h | h
          · exact hs _ _ h (by omega)
          · rw [show j = m - 1 by omega]; exact Int.le_refl _
        have a2 := hs (m - 1) m (by omega) (by omega)
        omega
      refine ⟨List.pairwise_append.2 ⟨h1, by simp, fun a ha b hb => by simp at hb; subst hb; exact hlt a ha⟩, fun x => ?_⟩
      simp only [List.mem_append, List.mem_singleton, h2]
      constructor
      · rintro (⟨j, hj, rfl⟩ | rfl)
        · exact ⟨j, by omega, rfl⟩
        · exact ⟨m, by omega, rfl⟩
      · rintro ⟨j, hj, rfl⟩
        rcases Nat.lt_or_ge j m with h | h
        · exact .inl ⟨j, h, rfl⟩
        · exact .inr (by rw [show j = m by omega])
    · have hkf : Lib.keeps d m = false := by simpa using hk
      rw [if_neg hk, List.append_nil]
      have hm0 : 0 < m := by
        rcases Nat.eq_zero_or_pos m with h | h
        · subst h; rw [Lib.keeps_lt_one d 0 (by omega)] at hkf; cases hkf
        · exact h
      have e : d[m]! = d[m - 1]! := Classical.byContradiction fun hne => by rw [Lib.keeps_pos hne] at hkf; cases hkf
      refine ⟨h1, fun x => ?_⟩
      rw [h2]
      constructor
      · rintro ⟨j, hj, rfl⟩; exact ⟨j, by omega, rfl⟩
      · rintro ⟨j, hj, rfl⟩
        rcases Nat.lt_or_ge j m with h | h
        · exact ⟨j, h, rfl⟩
        · exact ⟨m - 1, by omega, by rw [show j = m by omega, e]⟩
theorem compact_set {l : List Int} (hs : l.Pairwise (· ≤ ·)) : IsSet (· ∈ l) (Lib.compactUpTo l.toArray l.toArray.size) := by
  have h := compact_up l.toArray (fun i j hij hj => by
    have hj' : j < l.length := by simpa using hj
    have := List.pairwise_iff_getElem.1 hs i j (by omega) hj' hij
    simpa [hj', show i < l.length by omega] using this) _ (Nat.le_refl _)
  refine ⟨h.1, fun x => ?_⟩
  rw [h.2]
  constructor
  · rintro ⟨j, hj, rfl⟩
    have hj' : j < l.length := by simpa using hj
    simp [hj']
  · intro hx
    obtain ⟨j, hj, rfl⟩ := List.getElem_of_mem hx
    exact ⟨j, by simpa using hj, by simp [hj]⟩
end Go.Gl
