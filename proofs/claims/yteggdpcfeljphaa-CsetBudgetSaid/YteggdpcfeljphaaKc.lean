/- The library's Clone, Sort, Compact, SortFunc, BinarySearch, over lists of whole numbers and of candidates. -/
import Derived.Test.YteggdpcfeljphaaKb
import Derived.Test.YteggdpcfeljphaaRc
import Derived.Deep.AppendLies
namespace Go.Gl
set_option linter.unusedVariables false
open Go.RowKit Go.Sort

section
variable {P : Program} {w : World}
/-- append onto a row of one's own, of whatever lies behind another slice, none too. -/
theorem run_append_rows (t ty : TypeId) (base : Nat) (e : TypeId) (i : TypeInfo) (z : Value) (size bytes : Nat) (ht : P.underlying t = some (.slice e)) (hi : P.info? e = some i) (hz : i.zero = some z)
    (hsize : i.size = size) (hby : i.bytes = bytes) (hzs : z.cells.size = size) (hsz : 0 < size) (v : Value) (n : Nat) (xs : List Value) (hown : w.ownsRow base e size v n xs)
    {X : Option Addr} {m cx : Nat} {news : List Value} (hl : news.length = m * size) (hx : 0 < m → ∃ ad, X = some ad ∧ ∀ j u, news[j]? = some u → w.cell? (ad.add j) = some u) (h1 : ∀ u ∈ news, u.oneCell' = true)
    (h63 : n + m ≤ maxLen) (hbytes : (n + m) * bytes ≤ 140737488355328) (hbase : base ≤ w.heap.size) :
    ∃ v' w', (Builtin.append_ #[t, t] ty #[v, .slice X m cx]).run P w = .ok v' w' ∧ w'.ownsRow base e size v' (n + m) (xs ++ news) ∧ w.grownBy w' v.ownBlock ∧ (0 < m → ∃ g c, v' = .slice (some ⟨g, 0, none⟩) (n + m) c) := by
  rcases Nat.eq_zero_or_pos m with h0 | hm
  · subst h0
    obtain rfl : news = [] := List.eq_nil_of_length_eq_zero (by simpa using hl)
    have hv : ∃ A c, v = .slice A n c ∧ n ≤ c := by
      rcases hown.2 with ⟨rfl, rfl⟩ | ⟨g, cap, cur, rfl, _, _, h, _⟩
      · exact ⟨none, 0, rfl, Nat.le_refl _⟩
      · exact ⟨_, _, rfl, h⟩
    obtain ⟨A, c, rfl, hle⟩ := hv
    refine ⟨_, w, ?_, by simpa using hown, ⟨rfl, rfl, rfl, Nat.le_refl _, fun _ _ _ => rfl⟩, fun h => absurd h (by decide)⟩
    cases X with
    | none => exact run_append_nothing w t t ty e i ht hi A n c hle _ (Src.ofNil w ht cx)
    | some a => exact run_append_nothing w t t ty e i ht hi A n c hle _ (Src.ofSlice w ht a 0 cx [] (by simp) (fun j u hu => by simp at hu) (fun _ hu => by cases hu))
  · obtain ⟨ad, rfl, hn⟩ := hx hm
    obtain ⟨g, cap, w', hr, h2, h3, _, _⟩ := run_append_lies (P := P) (w := w) t ty base e i z size bytes ht hi hz hsize hby hzs hsz v n xs hown ad m cx news hl hn h1 hm h63 hbytes hbase _ rfl
    exact ⟨_, w', hr, h2, h3, fun _ => ⟨_, _, rfl⟩⟩
theorem wpList_append_rows {ops : Array Oper} {rest : List Oper} {o : Oper} {a : Act} {Q : Exit → Act → World → Prop} (hgd : o.guard = none) (s x : Operand) (t : TypeId)
    (ho : o.op = .call { callee := .builtin .append, args := #[s, x], argTypes := #[t, t] })
    (base : Nat) (e : TypeId) (i : TypeInfo) (z : Value) (size bytes : Nat) (ht : P.underlying t = some (.slice e)) (hi : P.info? e = some i) (hz : i.zero = some z)
    (hsize : i.size = size) (hby : i.bytes = bytes) (hzs : z.cells.size = size) (hsz : 0 < size) (v : Value) (n : Nat) (xs : List Value) (hs : a.eval s = v) (hown : w.ownsRow base e size v n xs)
    {X : Option Addr} {m cx : Nat} {news : List Value} (hxv : a.eval x = .slice X m cx) (hl : news.length = m * size) (hx : 0 < m → ∃ ad, X = some ad ∧ ∀ j u, news[j]? = some u → w.cell? (ad.add j) = some u) (h1 : ∀ u ∈ news, u.oneCell' = true)
    (h63 : n + m ≤ maxLen) (hbytes : (n + m) * bytes ≤ 140737488355328) (hbase : base ≤ w.heap.size)
    (hK : ∀ v' w', Hid (w'.ownsRow base e size v' (n + m) (xs ++ news)) → Hid (w.grownBy w' v.ownBlock) → Hid (0 < m → ∃ g c, v' = .slice (some ⟨g, 0, none⟩) (n + m) c) → wpList P ops Q rest (a.put o.dst v') w') : wpList P ops Q (o :: rest) a w := by
  refine wpList_plain hgd fun K hK' => ?_
  obtain ⟨v', w', hrun, r1, r2, r3⟩ := run_append_rows (P := P) (w := w) t o.type base e i z size bytes ht hi hz hsize hby hzs hsz v n xs hown (cx := cx) hl hx h1 h63 hbytes hbase
  subst hs
  unfold Oper.wp
  simp [execOp, ho, resolve, invoke, builtin, hxv, hrun, Result.andThen]
  exact hK' _ _ (hK v' w' r1 r2 r3)
end
/-- The row of candidates that begins a block of its own, or none. -/
abbrev Rw (w : World) (base : Nat) (e : TypeId) (v : Value) (l : List (Int × Int)) : Prop := w.ownsRow base e 2 v l.length (pv l)
theorem Rw.none (w : World) (base : Nat) (e : TypeId) : Rw w base e (.slice none 0 0) [] := World.ownsRow_nil _ _ _ _
/-- A slice of no candidates, just made. -/
theorem Rw.made (w : World) (e : TypeId) : Rw (w.alloc (.cells #[] e)) w.heap.size e (.slice (some ⟨w.heap.size, 0, Option.none⟩) 0 0) [] :=
  ⟨rfl, .inr ⟨w.heap.size, 0, #[], rfl, Nat.le_refl _, Blk.new w e #[], Nat.le_refl _, Nat.zero_le _, rfl, rfl⟩⟩
theorem Rw.fr {w w' : World} {base : Nat} {e : TypeId} {v : Value} {l : List (Int × Int)} {F : List Nat} (h : Rw w base e v l) (hf : Fr F w w') (hg : ∀ b, v.ownBlock = some b → b ∉ F) : Rw w' base e v l := own_fr h hf hg
theorem Rw.le {w : World} {base base' : Nat} {e : TypeId} {v : Value} {l : List (Int × Int)} (h : Rw w base e v l) (hb : base' ≤ base) : Rw w base' e v l :=
  ⟨h.1, h.2.imp id fun ⟨g, cap, cur, h1, h2, h3⟩ => ⟨g, cap, cur, h1, Nat.le_trans hb h2, h3⟩⟩
/-- It reads as what candidates among arguments read as. -/
theorem Rw.recs {w : World} {base : Nat} {e : TypeId} {v : Value} {l : List (Int × Int)} (h : Rw w base e v l) : ∃ A c, v = .slice A l.length c ∧ l.length ≤ c ∧ Recs w A l.length 2 (fun _ => .i64) (fun i j => if j = 0 then (l.getD i (0, 0)).1 else (l.getD i (0, 0)).2) ∧ (∀ b, v.ownBlock = some b → base ≤ b ∧ b < w.heap.size) := by
  rcases h.2 with ⟨rfl, h0⟩ | ⟨g, cap, cur, rfl, hb, hh, h1, h2, h3, h4⟩
  · exact ⟨Option.none, 0, by rw [h0], by omega, fun hn => by omega, fun b hb => by cases hb⟩
  · have hbl : Blk w g e cur := hh
    refine ⟨_, cap, rfl, h1, fun hn => ⟨g, 0, rfl, hbl.lt, fun i hi j hj => ?_⟩, fun b hb' => by injection hb' with hb'; subst hb'; exact ⟨hb, hbl.lt⟩⟩
    have hp := pv_get l i hi
    rw [← h4, List.getElem?_take_of_lt (by omega), List.getElem?_take_of_lt (by omega), Array.getElem?_toList, Array.getElem?_toList] at hp
    rw [Nat.zero_add, hbl.cell]
    rcases (show j = 0 ∨ j = 1 by omega) with rfl | rfl
    · exact hp.1
    · exact hp.2
theorem candL_of (l : List (Int × Int)) : candL l.length (fun i j => if j = 0 then (l.getD i (0, 0)).1 else (l.getD i (0, 0)).2) = l := by
  apply List.ext_getElem
  · simp [candL]
  · intro i h1 h2
    simp [candL, h2]
/-- What lies behind candidates among arguments, as cells. -/
theorem Recs.read {w : World} {A : Option Addr} {n : Nat} {f : Nat → Nat → Int} (h : Recs w A n 2 (fun _ => .i64) f) : 0 < n → ∃ ad, A = some ad ∧ ∀ j u, (pv (candL n f))[j]? = some u → w.cell? (ad.add j) = some u := fun hn => by
  obtain ⟨b, off, rfl, hb, hc⟩ := h hn
  refine ⟨_, rfl, fun j u hu => ?_⟩
  have hj : j < n * 2 := by
    have := (List.getElem?_eq_some_iff.1 hu).1
    rwa [pv_len, candL_len] at this
  rw [show (⟨b, off, Option.none⟩ : Addr).add j = ⟨b, off + j, Option.none⟩ from Go.WideShapes.add_plain _ _ _]
  have hi : j / 2 < n := by omega
  have hp := pv_get (candL n f) (j / 2) (by rw [candL_len]; exact hi)
  rw [candL_get f hi] at hp
  rcases (show j = j / 2 * 2 ∨ j = j / 2 * 2 + 1 by omega) with e | e
  · rw [e, hp.1] at hu
    injection hu with hu
    subst hu
    have := hc (j / 2) hi 0 (by omega)
    rw [Nat.add_zero, ← e] at this
    exact this
  · rw [e, hp.2] at hu
    injection hu with hu
    subst hu
    have := hc (j / 2) hi 1 (by omega)
    rw [← e] at this
    exact this
theorem Recs.fr {w w' : World} {A : Option Addr} {n k : Nat} {ks : Nat → IntKind} {f : Nat → Nat → Int} (h : Recs w A n k ks f) (hf : Fr [] w w') : Recs w' A n k ks f := fun hn => by
  obtain ⟨b, off, h1, h2, h3⟩ := h hn
  exact ⟨b, off, h1, Nat.lt_of_lt_of_le h2 hf.size, fun i hi j hj => (hf.cell (p := ⟨b, off + (i * k + j), Option.none⟩) h2 (by simp)).trans (h3 i hi j hj)⟩
end Go.Gl
namespace Go.Proofs.Yteggdpcfeljphaa
set_option linter.unusedVariables false
set_option maxRecDepth 100000
open Go.RowKit Go.Gl Go.Shelf Go.Sort

/-- A list in memory of the call's own. -/
def NewL (w : World) (l : List Int) (e : Ending) (w' : World) : Prop := ∃ A c G, e = .returned (.slice A l.length c) ∧ Lr w' 3 A l.length c G (zv l) ∧ Fr [] w w' ∧ ∀ g, g ∈ G → w.heap.size ≤ g
theorem lrNone (w : World) (e : TypeId) (A : Option Addr) : Lr w e A 0 0 [] [] := ⟨rfl, Nat.le_refl _, Nat.zero_le _, fun _ => rfl, fun h => absurd h (by decide)⟩
theorem Try.nil_ints (w : World) : (binOp BinOp.eql 22 (Value.slice none 0 0) (Value.slice none 0 0)).run Try.prog w = .ok (.bool true) w := by kernel_rfl
theorem Try.some_ints (a : Addr) (n c : Nat) (w : World) : (binOp BinOp.eql 22 (Value.slice (some a) n c) (Value.slice none 0 0)).run Try.prog w = .ok (.bool false) w := by kernel_rfl
theorem Try.nil_intsc (c : Nat) (w : World) : (binOp BinOp.eql 22 (Value.slice none 0 c) (Value.slice none 0 0)).run Try.prog w = .ok (.bool true) w := by kernel_rfl
theorem Try.nil_candsc (c : Nat) (w : World) : (binOp BinOp.eql 23 (Value.slice none 0 c) (Value.slice none 0 0)).run Try.prog w = .ok (.bool true) w := by kernel_rfl
theorem Try.some_cands (a : Addr) (n c : Nat) (w : World) : (binOp BinOp.eql 23 (Value.slice (some a) n c) (Value.slice none 0 0)).run Try.prog w = .ok (.bool false) w := by kernel_rfl
theorem Try.info_cand : (Try.prog.info? 33).map (fun i => (i.zero, i.size, i.bytes)) = some (some (.agg #[.int .i64 0, .int .i64 0]), 2, 16) := by kernel_rfl
theorem clone_int {w : World} {A : Option Addr} {c : Nat} {l : List Int} (h : Sl w A l.length (fun k => .int .i64 (l.getD k 0))) (hl : l.length ≤ 65536) : Calls Try.prog 13 #[.slice A l.length c] w (NewL w l) := by
  obtain ⟨i0, hi, hz0, hz1, hz2⟩ := info_parts Try.info_int
  cases A with
  | none =>
    have h0 : l.length = 0 := by
      rcases Nat.eq_zero_or_pos l.length with h0 | h0
      · exact h0
      · obtain ⟨b, off, h1, _⟩ := h h0; cases h1
    obtain rfl : l = [] := List.eq_nil_of_length_eq_zero h0
    clear h
    have b0 := Try.nil_intsc c
    go_enter Try.func13, Try.ntmps13
    go_wp2
    go_ret
    exact ⟨none, 0, [], rfl, Lr.nil _ _, Fr.refl _ _, fun _ h => by cases h⟩
  | some a =>
    have HN : Hid ((zv l).length = l.length ∧ (∀ u ∈ zv l, u.oneCell' = true) ∧ 0 + l.length ≤ maxLen ∧ (0 + l.length) * 8 ≤ 140737488355328) := ⟨zv_len _, zv_one _, by unfold maxLen; omega, by omega⟩
    have HR : Hid (∀ w', Fr [] w w' → 0 < l.length → ∃ ad, some a = some ad ∧ ∀ j u, (zv l)[j]? = some u → w'.cell? (ad.add j) = some u) := fun w' hf hn => by
      obtain ⟨b, off, h1, h2, h3⟩ := h hn
      refine ⟨a, rfl, fun j u hu => ?_⟩
      injection h1 with h1
      subst h1
      have hj : j < l.length := by have := (List.getElem?_eq_some_iff.1 hu).1; rwa [zv_len] at this
      rw [zv_get _ hj] at hu
      rw [show (⟨b, off, none⟩ : Addr).add j = ⟨b, off + j, none⟩ from Go.WideShapes.add_plain _ _ _, hf.cell h2 (by simp), h3 j hj, hu]
    have b0 := Try.some_ints a
    clear h hl
    go_enter Try.func13, Try.ntmps13
    go_wp2_with (first | (at_builtin; go_loud (refine wpList_append_lr rfl _ _ 22 rfl 3 i0 (.int .i64 0) 8 Try.underlying22 hi hz0 hz1 hz2 rfl rfl (lrNone _ _ _) rfl HN.out.1 (HR.out _ ((Fr.refl _ _).alloc _)) HN.out.2.1 HN.out.2.2.1 HN.out.2.2.2 ?_; intro A' c' G' w' HLn HFn HGn)))
    go_ret
    have h1 := HLn.out
    rw [Nat.zero_add, List.nil_append] at h1
    exact ⟨A', c', G', rfl, h1, ((Fr.refl _ _).alloc _).trans_same HFn.out, fun g hg => by
      rcases HGn.out g hg with h2 | ⟨h2, _⟩
      · cases h2
      · rw [h2]; simp⟩
/-- Candidates in memory of the call's own. -/
def NewC (w : World) (l : List (Int × Int)) (e : Ending) (w' : World) : Prop := ∃ v, e = .returned v ∧ Rw w' w.heap.size 33 v l ∧ Fr [] w w'
theorem clone_cand {w : World} {A : Option Addr} {n c : Nat} {f : Nat → Nat → Int} (h : Recs w A n 2 (fun _ => .i64) f) (hl : n ≤ 65536) : Calls Try.prog 21 #[.slice A n c] w (NewC w (candL n f)) := by
  obtain ⟨i0, hi, hz0, hz1, hz2⟩ := info_parts Try.info_cand
  cases A with
  | none =>
    obtain rfl : n = 0 := by
      rcases Nat.eq_zero_or_pos n with h0 | h0
      · exact h0
      · obtain ⟨b, off, h1, _⟩ := h h0; cases h1
    clear h
    have b0 := Try.nil_candsc c
    go_enter Try.func21, Try.ntmps21
    go_wp2
    go_ret
    exact ⟨_, rfl, Rw.none _ _ _, Fr.refl _ _⟩
  | some a =>
    have HN : Hid ((pv (candL n f)).length = n * 2 ∧ (∀ u ∈ pv (candL n f), u.oneCell' = true) ∧ 0 + n ≤ maxLen ∧ (0 + n) * 16 ≤ 140737488355328) := ⟨by rw [pv_len, candL_len], pv_one _, by unfold maxLen; omega, by omega⟩
    have HR : Hid (∀ w', Fr [] w w' → 0 < n → ∃ ad, some a = some ad ∧ ∀ j u, (pv (candL n f))[j]? = some u → w'.cell? (ad.add j) = some u) := fun w' hf => (h.fr hf).read
    have b0 := Try.some_cands a
    clear h hl
    go_enter Try.func21, Try.ntmps21
    go_wp2_with (first | (at_builtin; go_loud (refine wpList_append_rows rfl _ _ 23 rfl w.heap.size 33 i0 (.agg #[.int .i64 0, .int .i64 0]) 2 16 Try.underlying23 hi hz0 hz1 hz2 rfl (by decide) _ 0 [] rfl (Rw.made w 33) rfl HN.out.1 (HR.out _ ((Fr.refl _ _).alloc _)) HN.out.2.1 HN.out.2.2.1 HN.out.2.2.2 (by simp) ?_; intro v' w' HLn HFn HGn)))
    go_ret
    have h1 := HLn.out
    rw [Nat.zero_add, List.nil_append] at h1
    refine ⟨v', rfl, by unfold Rw; rw [candL_len]; exact h1, ?_⟩
    exact ((Fr.refl [] w).alloc _).grown HFn.out fun k hk => by injection hk with hk; subst hk; exact .inr (Nat.le_refl _)

theorem sort_lr {w : World} {A : Option Addr} {n c : Nat} {G : List Nat} {l : List Int} (h : Lr w 3 A n c G (zv l)) (hn : n < 4611686018427387904) :
    Calls Try.prog 15 #[.slice A n c] w fun e w' => e = .returned (.tuple #[]) ∧ ∃ l', l'.Perm l ∧ l'.Pairwise (· ≤ ·) ∧ Lr w' 3 A n c G (zv l') ∧ Fr G w w' := by
  have hlen : l.length = n := by have := h.len; rwa [zv_len] at this
  rcases Nat.eq_zero_or_pos n with h0 | h0
  · subst h0
    obtain rfl : l = [] := List.eq_nil_of_length_eq_zero hlen
    refine (AnyM.slices_Sort_int_none Try.shSort A c w).mono ?_
    rintro e w' ⟨rfl, rfl⟩
    exact ⟨rfl, [], List.Perm.refl _, List.Pairwise.nil, h, Fr.refl _ _⟩
  · obtain ⟨b, off, rfl, _⟩ := h.pos h0
    obtain ⟨hH, hb⟩ := h.holds h0
    have hs := AnyM.slices_Sort_int Try.shSort b off c l w hH hb (by omega)
    rw [hlen] at hs
    refine hs.mono ?_
    rintro e w' ⟨rfl, q, os, rfl⟩
    refine ⟨rfl, l.mergeSort fun x y => decide (x ≤ y), List.mergeSort_perm _ _, ?_, h.sortW h0 (by simp) os⟩
    have h := List.pairwise_mergeSort (le := fun x y : Int => decide (x ≤ y)) (fun a b c h1 h2 => by simp only [decide_eq_true_eq] at *; omega) (fun a b => by simp; omega) l
    exact h.imp fun h => by simpa using h
theorem compact_lr {w : World} {A : Option Addr} {n c : Nat} {G : List Nat} {l : List Int} (h : Lr w 3 A n c G (zv l)) (hs : l.Pairwise (· ≤ ·)) :
    Calls Try.prog 16 #[.slice A n c] w fun e w' => ∃ r, e = .returned (.slice A r.length c) ∧ IsSet (· ∈ l) r ∧ Lr w' 3 A r.length c G (zv r) ∧ Fr G w w' ∧ r.length ≤ n := by
  have hlen : l.length = n := by have := h.len; rwa [zv_len] at this
  rcases Nat.eq_zero_or_pos n with h0 | h0
  · subst h0
    obtain rfl : l = [] := List.eq_nil_of_length_eq_zero hlen
    have H := hide h
    clear h hs
    go_enter Try.func16, Try.ntmps16
    go_wp2
    go_ret
    exact ⟨[], rfl, ⟨List.Pairwise.nil, fun x => by simp⟩, H.out, Fr.refl _ _, Nat.le_refl _⟩
  · have hle := h.le
    have hmx := h.max
    obtain ⟨b, off, rfl, _⟩ := h.pos h0
    obtain ⟨hH, hb⟩ := h.holds h0
    have hc := AnyE.slices_Compact Try.shCompact (Value.int .i64) (fun _ => rfl) (EqlAt.intD _ _ _) (NeqAt.intD _ _ _) 0 (by intro w; kernel_rfl) b off c l.toArray w hH (by unfold maxLen at hmx; simp; omega) (by simp; omega)
    rw [show l.toArray.size = n by simpa using hlen] at hc
    refine hc.mono ?_
    have hset := compact_set hs
    rw [show l.toArray.size = n by simpa using hlen] at hset
    generalize hr : Lib.compactUpTo l.toArray n = r at *
    have hrl : r.length ≤ n := by
      rw [← hr]; unfold Lib.compactUpTo
      rw [List.length_map]
      have := List.length_filter_le (Lib.keeps l.toArray) (List.range n)
      simpa using this
    rintro e w' ⟨rfl, q, rfl⟩
    obtain ⟨h1, h2⟩ := h.sortW (q := q) h0 (l' := r ++ List.replicate (n - r.length) 0) (by simp; omega) #[]
    rw [grow_empty] at h1 h2
    have h3 := h1.keep r.length hrl
    rw [zv_app, List.take_append_of_le_length (by rw [zv_len]; exact Nat.le_refl _), List.take_of_length_le (by rw [zv_len]; exact Nat.le_refl _)] at h3
    exact ⟨r, rfl, hset, h3, h2, hrl⟩
theorem binary_lr {w : World} {A : Option Addr} {n c : Nat} {G : List Nat} {l : List Int} (h : Lr w 3 A n c G (zv l)) (hn : n < 4611686018427387904) (hs : l.Pairwise (· ≤ ·)) (x : Int) :
    Calls Try.prog 17 #[.slice A n c, .int .i64 x] w fun e w' => (∃ i, e = .returned (.tuple #[.int .i64 i, .bool (decide (x ∈ l))])) ∧ Gr w w' := by
  have hlen : l.length = n := by have := h.len; rwa [zv_len] at this
  rcases Nat.eq_zero_or_pos n with h0 | h0
  · subst h0
    obtain rfl : l = [] := List.eq_nil_of_length_eq_zero hlen
    refine (Any.slices_BinarySearch_int_empty Try.shBinary A c x w).mono ?_
    rintro e w' ⟨rfl, rfl⟩
    exact ⟨⟨_, by simp; rfl⟩, Gr.refl _⟩
  · obtain ⟨b, off, rfl, _, hc⟩ := h.slz h0
    refine (Any.slices_BinarySearch_int Try.shBinary b off n c l x w (by omega) hn (fun j hj => hc j (by omega)) (by rw [← hlen, List.take_length]; exact hs)).mono ?_
    rintro e w' ⟨rfl, q, rfl⟩
    exact ⟨⟨_, by rw [← hlen, List.take_length]; simp; rfl⟩, (Gr.refl _).drewN q⟩

/-! Candidates sorted by compare. -/
theorem flatC (l : List (Int × Int)) : (flatK encC 2 l.toArray).toList = pv l := by
  apply List.ext_getElem?
  intro t
  have hsz : (flatK encC 2 l.toArray).size = l.length * 2 := by simp
  rw [Array.getElem?_toList]
  by_cases ht : t < l.length * 2
  · have h1 := get_flatK encC 2 l.toArray t (by simpa using ht)
    rw [getElem!_pos _ t (by omega)] at h1
    rw [Array.getElem?_eq_getElem (by omega), h1]
    obtain ⟨p1, p2⟩ := pv_get l (t / 2) (by omega)
    have hd : l.toArray[t / 2]! = l.getD (t / 2) (0, 0) := by simp [show t / 2 < l.length by omega]
    rw [hd]
    rcases (show t % 2 = 0 ∨ t % 2 = 1 by omega) with e | e
    · rw [e, show t = t / 2 * 2 by omega, p1]
      rw [show t / 2 * 2 / 2 = t / 2 by omega]; rfl
    · rw [e, show t = t / 2 * 2 + 1 by omega, p2]
      rw [show (t / 2 * 2 + 1) / 2 = t / 2 by omega]; rfl
  · rw [Array.getElem?_eq_none (by omega), List.getElem?_eq_none (by rw [pv_len]; omega)]
theorem perm_of_in {d d' : Array (Int × Int)} (h : PermIn 0 d.size d d') : d'.toList.Perm d.toList := by
  obtain ⟨h1, _, h3⟩ := h
  have e1 : d'.extract 0 d.size = d' := by rw [← h1]; simp
  have e2 : d.extract 0 d.size = d := by simp
  rw [e1, e2] at h3
  exact h3
theorem sortC_rw {w : World} {base : Nat} {v : Value} {l : List (Int × Int)} (h : Rw w base 33 v l) (hl : l.length < 4611686018427387904) :
    Calls Try.prog 22 #[v, .func (.func 23) #[] #[]] w fun e w' => e = .returned (.tuple #[]) ∧ ∃ l', l'.Perm l ∧ (l'.map keyC).Pairwise kle ∧ l'.length = l.length ∧ Rw w' base 33 v l' ∧ Fr v.ownBlock.toList w w' := by
  rcases Nat.eq_zero_or_pos l.length with h0 | h0
  · obtain rfl : l = [] := List.eq_nil_of_length_eq_zero h0
    obtain ⟨A, c, rfl, _⟩ := h.recs
    refine (AnyF.slices_SortFunc_none { Try.shSortC with } A c (.func (.func 23) #[] #[]) w).mono ?_
    rintro e w' ⟨rfl, rfl⟩
    exact ⟨rfl, [], List.Perm.refl _, List.Pairwise.nil, rfl, h, Fr.refl _ _⟩
  · rcases h.2 with ⟨rfl, h1⟩ | ⟨g, cap, cur, rfl, hb, hh, h1, h2, h3, h4⟩
    · omega
    · have hbl : Blk w g 33 cur := hh
      have eg : ∀ args w, (callFunc 23 args).run Try.prog w = .ok (.enter 23 args) w := enters_of Try.func23 (by kernel_rfl) rfl
      have hH : HoldsK encC 2 w g 0 l.toArray := by
        intro j hj
        have hj2 : j < l.length * 2 := by simpa using hj
        refine ⟨?_, hbl.frozen _⟩
        rw [Nat.zero_add, hbl.cell]
        have e1 : (cur.toList.take (l.length * 2))[j]? = (pv l)[j]? := by rw [h4]
        rw [List.getElem?_take_of_lt (by omega), Array.getElem?_toList, ← flatC, Array.getElem?_toList] at e1
        rw [e1, Array.getElem?_eq_getElem hj, getElem!_pos _ j hj]
        rfl
      have hc := AnyQ.slices_SortFunc Try.shSortC 2 Try.isAgg33 Try.sizeOf33 encC (fun _ => rfl) (fun x v hv => by simp [encC] at hv; rcases hv with rfl | rfl <;> rfl) cfC swoC 23 #[] g 0 cap l.toArray w eg (cmpLaysC g 0 _ w) hH hbl.lt (by simpa using hl)
      rw [show l.toArray.size = l.length by simp] at hc
      refine hc.mono ?_
      rintro e w' ⟨rfl, d', q, os, hp, hs, rfl⟩
      have hp' := perm_of_in (d := l.toArray) (by simpa using hp)
      have hsz : d'.size = l.length := by have := hp.1; simpa using this
      refine ⟨rfl, d'.toList, by simpa using hp', ?_, by simpa using hsz, ?_, ?_⟩
      · rw [List.pairwise_map, List.pairwise_iff_getElem]
        intro i j hi hj hij
        have := hs i j (Nat.zero_le _) hij (by simpa [hsz] using hj)
        rw [ltC] at this
        simp at hi hj
        simpa [hi, hj] using this
      · have hB := hbl.sortW (enc := id) (off := 0) (n := q) (flatK encC 2 d') os
        refine ⟨by rw [pv_len], .inr ⟨g, cap, _, ?_, hb, hB, by simpa [hsz] using h1, h2, by rw [putCells_size]; exact h3, ?_⟩⟩
        · simp [hsz]
        · have hf := flatC d'.toList
          rw [show d'.toList.toArray = d' by simp] at hf
          apply List.ext_getElem?
          intro j
          have hfs : (flatK encC 2 d').size = d'.size * 2 := by simp
          by_cases hj : j < d'.toList.length * 2
          · have hj' : j < d'.size * 2 := by simpa using hj
            rw [List.getElem?_take_of_lt hj, Array.getElem?_toList]
            have := putCells_at id (off := 0) (flatK encC 2 d') (cur := cur) (show j < (flatK encC 2 d').size by omega) (by rw [hfs]; omega)
            rw [Nat.zero_add] at this
            rw [this, ← hf, Array.getElem?_toList, Array.getElem?_eq_getElem (by omega), getElem!_pos _ j (by omega)]
            rfl
          · rw [List.getElem?_take_eq_none (by omega), List.getElem?_eq_none (by rw [pv_len]; omega)]
      · exact Fr.sortW _ os
end Go.Proofs.Yteggdpcfeljphaa
