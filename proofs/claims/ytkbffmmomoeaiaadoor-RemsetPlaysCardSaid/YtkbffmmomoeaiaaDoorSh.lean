/- The library's slices.Contains, BinarySearch, Insert of whole numbers, and the sorted keys of a map, over lists. -/
import Derived.Test.YtkbffmmomoeaiaaDoorLr
import Derived.Test.YtkbffmmomoeaiaaDoorNm
import Derived.Test.YtkbffmmomoeaiaaDoorShelf
namespace Go.Proofs.YtkbffmmomoeaiaaDoor
set_option linter.unusedVariables false
open Go.RowKit Go.Gl Go.Shelf Go.Maps Go.Sort

theorem contains_sl {w : World} {A : Option Addr} {c : Nat} {l : List Int} (h : Sl w A l.length (fun k => .int .i64 (l.getD k 0))) (hl : l.length ≤ 4611686018427387904) (x : Int) :
    Calls Tryd.prog 36 #[.slice A l.length c, .int .i64 x] w fun e w' => e = .returned (.bool (decide (x ∈ l))) ∧ w = w' := by
  rcases Nat.eq_zero_or_pos l.length with h0 | h0
  · obtain rfl : l = [] := List.eq_nil_of_length_eq_zero h0
    refine (Any.slices_Contains_int_empty Tryd.shContains A c x w).mono ?_
    rintro e w' ⟨rfl, rfl⟩
    exact ⟨by simp, rfl⟩
  · obtain ⟨b, off, rfl, _, hc⟩ := h h0
    refine (Any.slices_Contains_int Tryd.shContains b off l.length c l x w (Nat.le_refl _) (by omega) hc).mono ?_
    rintro e w' ⟨rfl, rfl⟩
    exact ⟨by simp, rfl⟩
theorem binary_sl {w : World} {A : Option Addr} {c : Nat} {l : List Int} (h : Sl w A l.length (fun k => .int .i64 (l.getD k 0))) (hl : l.length < 4611686018427387904) (hs : l.Pairwise (· ≤ ·)) (x : Int) :
    Calls Tryd.prog 47 #[.slice A l.length c, .int .i64 x] w fun e w' => e = .returned (.tuple #[.int .i64 ((l.countP (· < x) : Nat) : Int), .bool (decide (x ∈ l))]) ∧ ∃ q, w' = w.drewN q := by
  rcases Nat.eq_zero_or_pos l.length with h0 | h0
  · obtain rfl : l = [] := List.eq_nil_of_length_eq_zero h0
    refine (Any.slices_BinarySearch_int_empty Tryd.shBinary A c x w).mono ?_
    rintro e w' ⟨rfl, rfl⟩
    exact ⟨by simp, 0, rfl⟩
  · obtain ⟨b, off, rfl, _, hc⟩ := h h0
    refine (Any.slices_BinarySearch_int Tryd.shBinary b off l.length c l x w (Nat.le_refl _) hl hc (by simpa using hs)).mono ?_
    rintro e w' ⟨rfl, q, rfl⟩
    exact ⟨by simp, q, rfl⟩
theorem compare_any (x y : Int) (w : World) : Calls Tryd.prog 85 #[.int .i64 x, .int .i64 y] w fun e w' => e = .returned (.int .i64 (if x < y then -1 else if x > y then 1 else 0)) ∧ w = w' :=
  (Any.cmp_Compare_int Tryd.shCompare x y w).mono fun e w' h => ⟨h.1, h.2.symm⟩

theorem Fr_setCells {F : List Nat} {g : Nat} (hg : g ∈ F) : ∀ (vs : List Value) (o : Nat) (w : World), Fr F w (w.setCells g o vs)
  | [], _, _ => Fr.refl _ _
  | v :: r, o, w => by
    rw [World.setCells]
    exact ((Fr.refl F w).setCell (p := ⟨g, o, none⟩) (.inl hg) v).trans_same (Fr_setCells hg r (o + 1) _)
theorem Blk_setCells {g : Nat} {t : TypeId} : ∀ (vs : List Value) (o : Nat) (w : World) (cur : Array Value), Blk w g t cur → ∃ cur', Blk (w.setCells g o vs) g t cur' ∧ cur'.size = cur.size
  | [], _, _, cur, h => ⟨cur, h, rfl⟩
  | v :: r, o, w, cur, h => by
    rw [World.setCells]
    obtain ⟨cur', h1, h2⟩ := Blk_setCells r (o + 1) _ _ (h.put o v)
    exact ⟨cur', h1, by rw [h2]; simp⟩
theorem Lr_of_cells {w : World} {e : TypeId} {g off n c : Nat} {cur : Array Value} {xs : List Value} (h : Blk w g e cur) (hn : n ≤ c) (hm : c ≤ maxLen) (h0 : 0 < c) (hs : off + c ≤ cur.size) (hl : xs.length = n) (hx : ∀ j, j < n → w.cell? ⟨g, off + j, none⟩ = xs[j]?) : Lr w e (some ⟨g, off, none⟩) n c [g] xs :=
  ⟨hl, hn, hm, fun h => absurd h (by omega), fun _ => ⟨g, off, cur, rfl, rfl, h, hs, by
    apply List.ext_getElem?
    intro j
    by_cases hj : j < n
    · rw [List.getElem?_take_of_lt hj, List.getElem?_drop, Array.getElem?_toList, ← h.cell, hx j hj]
    · rw [List.getElem?_eq_none (by simp; omega), List.getElem?_eq_none (by omega)]⟩⟩
theorem ins_get (l : List Int) (i : Nat) (x : Int) (hi : i ≤ l.length) (j : Nat) : (zv (l.take i ++ x :: l.drop i))[j]? = if j < i then (zv l)[j]? else if j = i then some (.int .i64 x) else (zv l)[j - 1]? := by
  simp only [zv, List.getElem?_map]
  by_cases h1 : j < i
  · rw [if_pos h1, List.getElem?_append_left (by simp; omega), List.getElem?_take_of_lt h1]
  · rw [if_neg h1, List.getElem?_append_right (by simp; omega), List.length_take, Nat.min_eq_left hi]
    by_cases h2 : j = i
    · subst h2; simp
    · rw [if_neg h2, show j - i = (j - 1 - i) + 1 by omega, List.getElem?_cons_succ, List.getElem?_drop, show i + (j - 1 - i) = j - 1 by omega]
def InsPost (w : World) (G : List Nat) (l : List Int) (e : Ending) (w' : World) : Prop := ∃ A' c' G', e = .returned (.slice A' l.length c') ∧ Lr w' 3 A' l.length c' G' (zv l) ∧ Fr G w w' ∧ ∀ g, g ∈ G' → g ∈ G ∨ g = w.heap.size
theorem insert_lr {w : World} {A : Option Addr} {c : Nat} {G : List Nat} {l : List Int} (h : Lr w 3 A l.length c G (zv l)) {i : Nat} (hi : i ≤ l.length) {x : Int} {vb : Nat} (hv : Blk w vb 3 #[.int .i64 x]) (hvG : vb ∉ G) (hl : l.length ≤ 1099511627776) :
    Calls Tryd.prog 48 #[.slice A l.length c, .int .i64 (i : Int), .slice (some ⟨vb, 0, none⟩) 1 1] w (InsPost w G (l.take i ++ x :: l.drop i)) := by
  have hlen : (l.take i ++ x :: l.drop i).length = l.length + 1 := by simp; omega
  have hzl : (zv (l.take i ++ x :: l.drop i)).length = l.length + 1 := by rw [zv_len, hlen]
  have hmx := h.max
  have hle := h.le
  have hvs : ∀ (j : Nat) u, [Value.int .i64 x][j]? = some u → w.cell? ⟨vb, 0 + j, none⟩ = some u := fun j u hj => by rw [hv.cell, Nat.zero_add, ← hj]; simp
  have h1v : ∀ u ∈ [Value.int .i64 x], u.oneCell' = true := by simp [Value.oneCell']
  unfold InsPost
  rw [hlen]
  by_cases hroom : l.length + 1 ≤ c
  · obtain ⟨g, off, cur, rfl, rfl, hb, hsz, htk⟩ := h.blk (by omega)
    have hcell : ∀ j, j < l.length → w.cell? ⟨g, off + j, none⟩ = (zv l)[j]? := fun j hj => by
      rw [hb.cell, ← htk, List.getElem?_take_of_lt hj, List.getElem?_drop, Array.getElem?_toList]
    have hsome : ∀ j, j < c → (w.cell? ⟨g, off + j, none⟩).isSome = true := fun j hj => by rw [hb.cell]; simp; omega
    have hvg : vb ≠ g := by simpa using hvG
    by_cases hin : i < l.length
    · refine (Any2.slices_Insert_int_shift Tryd.shInsert g off l.length c i vb 0 1 1 (zv l) [.int .i64 x] w hin (by omega) hroom (by unfold maxLen at hmx; omega) hvg (zv_len _) rfl (fun j u hj => by rw [hcell j (by have := (List.getElem?_eq_some_iff.1 hj).1; rw [zv_len] at this; exact this), hj]) (fun j hj => hsome j (by omega)) (fun j _ => hb.frozen _) hvs (zv_one _) h1v 3 3 1 cur.size
        (by simp [World.shape?, show w.heap[vb]? = _ from hv]) (by simp [World.shape?, show w.heap[g]? = _ from hb]) (by omega) (hv.frozen _) (hv.frozen _)).mono ?_
      rintro e w' ⟨rfl, rfl⟩
      obtain ⟨cur1, hb1, hs1⟩ := Blk_setCells ((zv l).drop i) (off + (i + 1)) _ _ hb.drew
      obtain ⟨cur2, hb2, hs2⟩ := Blk_setCells [Value.int .i64 x] (off + i) _ _ hb1
      refine ⟨_, _, _, rfl, Lr_of_cells hb2 hroom hmx (by omega) (by rw [hs2, hs1]; exact hsz) hzl (fun j hj => ?_), ((Fr.refl [g] w).drew.trans_same (Fr_setCells (by simp) _ _ _)).trans_same (Fr_setCells (by simp) _ _ _), fun g' hg' => .inl hg'⟩
      rw [ins_get _ _ _ hi]
      by_cases hj1 : j < i
      · rw [if_pos hj1, World.cell?_setCells_out _ _ _ _ _ (fun _ _ => .inl (by show off + j < off + i; omega)), World.cell?_setCells_out _ _ _ _ _ (fun _ _ => .inl (by show off + j < off + (i + 1); omega))]
        exact hcell j (by omega)
      · rw [if_neg hj1]
        by_cases hj2 : j = i
        · subst hj2
          rw [if_pos rfl]
          have := World.cell?_setCells_in g [Value.int .i64 x] (off + j) (w.drew.setCells g (off + (j + 1)) ((zv l).drop j)) (fun q hq => by
            obtain rfl : q = 0 := by simpa using hq
            rw [World.cell?_setCells_out _ _ _ _ _ (fun _ _ => .inl (by show off + j + 0 < off + (j + 1); omega))]
            exact hsome j (by omega)) 0 (by simp)
          simpa using this
        · rw [if_neg hj2, World.cell?_setCells_out _ _ _ _ _ (fun _ _ => .inr (by show off + i + 1 ≤ off + j; omega))]
          have hq : j - (i + 1) < ((zv l).drop i).length := by rw [List.length_drop, zv_len]; omega
          have := World.cell?_setCells_in g ((zv l).drop i) (off + (i + 1)) w.drew (fun q hq => by
            rw [List.length_drop, zv_len] at hq
            have := hsome (i + 1 + q) (by omega)
            rwa [← Nat.add_assoc] at this) (j - (i + 1)) hq
          rw [show off + (i + 1) + (j - (i + 1)) = off + j by omega] at this
          rw [this, ← List.getElem?_eq_getElem hq, List.getElem?_drop]
          congr 1; omega
    · obtain rfl : i = l.length := by omega
      refine (Any2.slices_Insert_int_end_room Tryd.shInsert g off l.length c vb 0 1 1 [.int .i64 x] w (by omega) hroom (by unfold maxLen at hmx; omega) rfl (fun j hj => by
        obtain rfl : j = 0 := by omega
        exact hsome l.length (by omega)) (fun j _ => hb.frozen _) hvs h1v).mono ?_
      rintro e w' ⟨rfl, rfl⟩
      obtain ⟨cur2, hb2, hs2⟩ := Blk_setCells [Value.int .i64 x] (off + l.length) _ _ hb
      refine ⟨_, _, _, rfl, Lr_of_cells hb2 hroom hmx (by omega) (by rw [hs2]; exact hsz) hzl (fun j hj => ?_), Fr_setCells (by simp) _ _ _, fun g' hg' => .inl hg'⟩
      rw [ins_get _ _ _ hi]
      by_cases hj1 : j < l.length
      · rw [if_pos hj1, World.cell?_setCells_out _ _ _ _ _ (fun _ _ => .inl (by show off + j < off + l.length; omega))]
        exact hcell j hj1
      · obtain rfl : j = l.length := by omega
        rw [if_neg hj1, if_pos rfl]
        have := World.cell?_setCells_in g [Value.int .i64 x] (off + l.length) w (fun q hq => by
          obtain rfl : q = 0 := by simpa using hq
          exact hsome l.length (by omega)) 0 (by simp)
        simpa using this
  · obtain rfl : c = l.length := by omega
    have hge := grownCap_ge w (l.length + 1) l.length 3
    have hcm : grownCap w (l.length + 1) l.length 3 ≤ maxLen := grownCap_le_maxLen w (l.length + 1) l.length 3 (by unfold maxLen; omega)
    by_cases hin : i < l.length
    · obtain ⟨g, off, rfl, rfl, _, hcell, _⟩ := h.pos (by omega)
      refine (Any2.slices_Insert_int_grow Tryd.shInsert g off l.length l.length i vb 0 1 1 (zv l) [.int .i64 x] w hin (by omega) (Nat.le_refl _) (by omega) (by omega) (zv_len _) rfl (fun j u hj => by rw [hcell j (by have := (List.getElem?_eq_some_iff.1 hj).1; rw [zv_len] at this; exact this), hj]) hvs (zv_one _) h1v).mono ?_
      rintro e w' ⟨rfl, rfl⟩
      simp only [show Tryd.shInsert_ren.t 3 = 3 from rfl]
      have hb0 := Blk.new w 3 (((zv l).take i).toArray ++ Builtin.zeroCells (Value.int .i64 0).cells (l.length + 1 - i) ++ Builtin.zeroCells (Value.int .i64 0).cells (grownCap w (l.length + 1) l.length 3 - (l.length + 1)))
      have hsz : (((zv l).take i).toArray ++ Builtin.zeroCells (Value.int .i64 0).cells (l.length + 1 - i) ++ Builtin.zeroCells (Value.int .i64 0).cells (grownCap w (l.length + 1) l.length 3 - (l.length + 1))).size = grownCap w (l.length + 1) l.length 3 := by
        have hl' : (zv l).length = l.length := zv_len l
        simp [size_zeroCells, Value.cells, hl']
        omega
      have hlt : ∀ j, j < i → (((zv l).take i).toArray ++ Builtin.zeroCells (Value.int .i64 0).cells (l.length + 1 - i) ++ Builtin.zeroCells (Value.int .i64 0).cells (grownCap w (l.length + 1) l.length 3 - (l.length + 1)))[j]? = (zv l)[j]? := fun j hj => by
        have hl' : (zv l).length = l.length := zv_len l
        rw [Array.getElem?_append_left (by simp [size_zeroCells, Value.cells, hl']; omega), Array.getElem?_append_left (by simp [hl']; omega)]
        simp [hj]
      generalize ((zv l).take i).toArray ++ Builtin.zeroCells (Value.int .i64 0).cells (l.length + 1 - i) ++ Builtin.zeroCells (Value.int .i64 0).cells (grownCap w (l.length + 1) l.length 3 - (l.length + 1)) = cur at *
      generalize grownCap w (l.length + 1) l.length 3 = gc at *
      obtain ⟨cur1, hb1, hs1⟩ := Blk_setCells [Value.int .i64 x] i _ _ hb0.drew
      obtain ⟨cur2, hb2, hs2⟩ := Blk_setCells ((zv l).drop i) (i + 1) _ _ hb1.drew
      refine ⟨_, _, _, rfl, Lr_of_cells hb2 (by omega) hcm (by omega) (by rw [hs2, hs1]; omega) hzl (fun j hj => ?_), Fr.mono (((((Fr.refl [w.heap.size] w).alloc _).drew.trans_same (Fr_setCells (by simp) _ _ _)).drew).trans_same (Fr_setCells (by simp) _ _ _)) (fun y hy => .inr (by simp at hy; omega)), fun g' hg' => .inr (by simpa using hg')⟩
      rw [ins_get _ _ _ hi, Nat.zero_add]
      have hsome : ∀ j, j < gc → ((w.alloc (.cells cur 3)).drew.cell? ⟨w.heap.size, j, none⟩).isSome = true := fun j hj => by rw [hb0.drew.cell]; simp; omega
      by_cases hj1 : j < i
      · rw [if_pos hj1, World.cell?_setCells_out _ _ _ _ _ (fun _ _ => .inl (by show j < i + 1; omega))]
        show World.cell? (World.setCells _ _ _ _) _ = _
        rw [World.cell?_setCells_out _ _ _ _ _ (fun _ _ => .inl (by show j < i; omega)), hb0.drew.cell, hlt j hj1]
      · rw [if_neg hj1]
        by_cases hj2 : j = i
        · subst hj2
          rw [if_pos rfl, World.cell?_setCells_out _ _ _ _ _ (fun _ _ => .inl (by show j < j + 1; omega))]
          have := World.cell?_setCells_in w.heap.size [Value.int .i64 x] j (w.alloc (.cells cur 3)).drew (fun q hq => by
            obtain rfl : q = 0 := by simpa using hq
            exact hsome j (by omega)) 0 (by simp)
          simpa using this
        · rw [if_neg hj2]
          have hq : j - (i + 1) < ((zv l).drop i).length := by rw [List.length_drop, zv_len]; omega
          have := World.cell?_setCells_in w.heap.size ((zv l).drop i) (i + 1) ((w.alloc (.cells cur 3)).drew.setCells w.heap.size i [.int .i64 x]).drew (fun q hq => by
            rw [List.length_drop, zv_len] at hq
            rw [hb1.drew.cell]
            simp
            omega) (j - (i + 1)) hq
          rw [show i + 1 + (j - (i + 1)) = j by omega] at this
          rw [this, ← List.getElem?_eq_getElem hq, List.getElem?_drop]
          congr 1; omega
    · obtain rfl : i = l.length := by omega
      refine (Any2.slices_Insert_int_end_grow Tryd.shInsert A l.length l.length vb 0 1 1 (zv l) [.int .i64 x] w (by omega) (Nat.le_refl _) (by omega) (by omega) (zv_len _) rfl (fun hA => by
        rcases Nat.eq_zero_or_pos l.length with h0 | h0
        · exact h0
        · obtain ⟨g, off, e1, _⟩ := h.pos h0
          rw [hA] at e1; cases e1) (fun a ha j u hj => by
        have hj' : j < l.length := by have := (List.getElem?_eq_some_iff.1 hj).1; rw [zv_len] at this; exact this
        obtain ⟨ad, e1, e2⟩ := h.read (by omega)
        rw [ha] at e1
        cases e1
        exact e2 j u hj) hvs h1v).mono ?_
      rintro e w' ⟨rfl, rfl⟩
      simp only [show Tryd.shInsert_ren.t 3 = 3 from rfl]
      refine ⟨_, _, [w.heap.size], rfl, ⟨hzl, hge, hcm, fun h => absurd h (by omega), fun _ => ⟨w.heap.size, 0, _, rfl, rfl, Blk.new w.drew _ _, ?_, ?_⟩⟩, ((Fr.refl _ _).drew).alloc _, fun g' hg' => .inr (by simpa using hg')⟩
      · have hl' : (zv l).length = l.length := zv_len l
        simp [size_zeroCells, Value.cells, hl']; omega
      · have e1 : zv (l.take l.length ++ x :: l.drop l.length) = zv l ++ [.int .i64 x] := by simp [zv]
        rw [e1]
        simp only [Array.toList_append, List.drop_zero]
        rw [List.take_append_of_le_length (by simp [zv_len]), List.take_of_length_le (by simp [zv_len])]
end Go.Proofs.YtkbffmmomoeaiaaDoor
