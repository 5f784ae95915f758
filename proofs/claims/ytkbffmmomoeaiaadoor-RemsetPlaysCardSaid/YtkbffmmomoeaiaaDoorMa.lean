/- gleanerref11: what lies where, and what the lists say of the sets. -/
import Derived.Test.YtkbffmmomoeaiaaDoorSt
import Derived.Test.YtkbffmmomoeaiaaDoorSy
import Derived.Deep.AppendLies
import Derived.Deep.RegionLaw
namespace Go.Proofs.YtkbffmmomoeaiaaDoor
set_option linter.unusedVariables false
set_option linter.unusedSimpArgs false
open Go.RowKit Go.Gl

/-- A source, as the document's sets list it. -/
structure Sr where
  reg : Nat
  way : Nat
  cds : List Nat
def cell3 (cv : Nat → Value) (s : Sr) : List Value := [.int .i64 (s.reg : Int), .int .i64 (s.way : Int), cv s.reg]
def flat3 (cv : Nat → Value) (l : List Sr) : List Value := l.flatMap (cell3 cv)
theorem flat3_len (cv : Nat → Value) (l : List Sr) : (flat3 cv l).length = l.length * 3 := by
  induction l with
  | nil => rfl
  | cons a r ih =>
    have : flat3 cv (a :: r) = cell3 cv a ++ flat3 cv r := by simp [flat3]
    rw [this, List.length_append, ih, List.length_cons]
    simp [cell3]; omega
theorem flat3_at (cv : Nat → Value) : ∀ (l : List Sr) (i : Nat) (s : Sr), l[i]? = some s → (flat3 cv l)[i * 3]? = some (.int .i64 (s.reg : Int)) ∧ (flat3 cv l)[i * 3 + 1]? = some (.int .i64 (s.way : Int)) ∧ (flat3 cv l)[i * 3 + 2]? = some (cv s.reg)
  | [], i, s, h => by simp at h
  | a :: r, 0, s, h => by
    simp only [List.getElem?_cons_zero, Option.some.injEq] at h
    subst h
    exact ⟨rfl, rfl, rfl⟩
  | a :: r, i + 1, s, h => by
    have e : flat3 cv (a :: r) = cell3 cv a ++ flat3 cv r := by simp [flat3]
    have e3 : (cell3 cv a).length = 3 := rfl
    obtain ⟨h1, h2, h3⟩ := flat3_at cv r i s (by simpa using h)
    rw [e]
    refine ⟨?_, ?_, ?_⟩
    · rw [List.getElem?_append_right (by omega), e3, show (i + 1) * 3 - 3 = i * 3 by omega]; exact h1
    · rw [List.getElem?_append_right (by omega), e3, show (i + 1) * 3 + 1 - 3 = i * 3 + 1 by omega]; exact h2
    · rw [List.getElem?_append_right (by omega), e3, show (i + 1) * 3 + 2 - 3 = i * 3 + 2 by omega]; exact h3
/-- A home's row of sources: nil, or the head of a block of its own. -/
def RowAt (w : World) (cv : Nat → Value) (l : List Sr) (v : Value) : Prop :=
  (v = .slice none 0 0 ∧ l = []) ∨ ∃ g c cur, v = .slice (some ⟨g, 0, none⟩) l.length c ∧ Blk w g 79 cur ∧ l.length ≤ c ∧ c ≤ maxLen ∧ cur.size = c * 3 ∧
    ∀ i s, l[i]? = some s → cur[i * 3]? = some (.int .i64 (s.reg : Int)) ∧ cur[i * 3 + 1]? = some (.int .i64 (s.way : Int)) ∧ cur[i * 3 + 2]? = some (cv s.reg)
def CdAt (w : World) (tg : Tg) (h : Nat) (s : Sr) (v : Value) : Prop := w.ownsRow 0 3 1 v s.cds.length (nums s.cds) ∧ ∀ g, v.ownBlock = some g → tg g = (4, h, s.reg)
structure HomeAt (w : World) (tg : Tg) (h : Nat) (l : List Sr) (v : Value) (cv : Nat → Value) : Prop where
  row : RowAt w cv l v
  tag : ∀ g, v.ownBlock = some g → tg g = (3, h, 0)
  cds : ∀ s, s ∈ l → CdAt w tg h s (cv s.reg)
structure Ms (w : World) (tg : Tg) (mb lb per n : Nat) (L : Nat → List Sr) (V : Nat → Value) (cv : Nat → Nat → Value) : Prop where
  st : Blk w mb 63 #[.int .i64 (n : Int), .int .i64 (per : Int), .slice (some ⟨lb, 0, none⟩) n n]
  tst : tg mb = (1, 0, 0)
  tok : TgOk w tg
  row : Blk w lb 77 (rowF n V)
  trow : tg lb = (2, 0, 0)
  own : ∀ h, h < n → HomeAt w tg h (L h) (V h) (cv h)
section
variable {w w' : World} {cv : Nat → Value} {l : List Sr} {v : Value} {F : List Nat} {tg tg' : Tg} {h : Nat}
theorem RowAt.form (hr : RowAt w cv l v) : ∃ A c, v = .slice A l.length c := by
  rcases hr with ⟨rfl, rfl⟩ | ⟨g, c, cur, rfl, _⟩
  · exact ⟨none, 0, rfl⟩
  · exact ⟨_, _, rfl⟩
theorem RowAt.pos (hr : RowAt w cv l v) (hl : 0 < l.length) : ∃ g c cur, v = .slice (some ⟨g, 0, none⟩) l.length c ∧ Blk w g 79 cur ∧ l.length ≤ c ∧ c ≤ maxLen ∧ cur.size = c * 3 ∧
    ∀ i s, l[i]? = some s → cur[i * 3]? = some (.int .i64 (s.reg : Int)) ∧ cur[i * 3 + 1]? = some (.int .i64 (s.way : Int)) ∧ cur[i * 3 + 2]? = some (cv s.reg) := by
  rcases hr with ⟨rfl, rfl⟩ | hr
  · exact absurd hl (by decide)
  · exact hr
theorem RowAt.cells (hr : RowAt w cv l v) {i : Nat} {s : Sr} (hi : l[i]? = some s) : ∃ g c, v = .slice (some ⟨g, 0, none⟩) l.length c ∧ g < w.heap.size ∧ (∀ k, w.frozen? ⟨g, k, none⟩ = false) ∧
    (∀ i s, l[i]? = some s → w.cell? ⟨g, i * 3, none⟩ = some (.int .i64 (s.reg : Int)) ∧ w.cell? ⟨g, i * 3 + 1, none⟩ = some (.int .i64 (s.way : Int)) ∧ w.cell? ⟨g, i * 3 + 2, none⟩ = some (cv s.reg)) := by
  have hlt : i < l.length := (List.getElem?_eq_some_iff.1 hi).1
  obtain ⟨g, c, cur, h1, h2, h3, h4, h5, h6⟩ := hr.pos (by omega)
  refine ⟨g, c, h1, h2.lt, fun k => h2.frozen k, fun i s hi => ?_⟩
  rw [h2.cell, h2.cell, h2.cell]
  exact h6 i s hi
theorem RowAt.sl (hr : RowAt w cv l v) : ∃ A c, v = .slice A l.length c ∧ ∀ i s, l[i]? = some s → ∃ g, A = some ⟨g, 0, none⟩ ∧ w.cell? ⟨g, i * 3, none⟩ = some (.int .i64 (s.reg : Int)) ∧ w.cell? ⟨g, i * 3 + 1, none⟩ = some (.int .i64 (s.way : Int)) ∧ w.cell? ⟨g, i * 3 + 2, none⟩ = some (cv s.reg) := by
  rcases hr with ⟨rfl, rfl⟩ | ⟨g, c, cur, rfl, h2, h3, h4, h5, h6⟩
  · exact ⟨none, 0, rfl, fun i s h => by simp at h⟩
  · refine ⟨_, c, rfl, fun i s h => ⟨g, rfl, ?_⟩⟩
    rw [h2.cell, h2.cell, h2.cell]
    exact h6 i s h
theorem RowAt.owns (hr : RowAt w cv l v) : w.ownsRow 0 79 3 v l.length (flat3 cv l) := by
  rcases hr with ⟨rfl, rfl⟩ | ⟨g, c, cur, rfl, h2, h3, h4, h5, h6⟩
  · exact ⟨rfl, .inl ⟨rfl, rfl⟩⟩
  · refine ⟨flat3_len _ _, .inr ⟨g, c, cur, rfl, Nat.zero_le _, h2, h3, h4, h5, ?_⟩⟩
    apply List.ext_getElem?
    intro j
    rcases Nat.lt_or_ge j (l.length * 3) with hj | hj
    · rw [List.getElem?_take_of_lt hj, Array.getElem?_toList]
      have hi : j / 3 < l.length := by omega
      obtain ⟨a1, a2, a3⟩ := h6 (j / 3) _ (List.getElem?_eq_getElem hi)
      obtain ⟨b1, b2, b3⟩ := flat3_at cv l (j / 3) _ (List.getElem?_eq_getElem hi)
      obtain h0 | h0 | h0 : j = j / 3 * 3 ∨ j = j / 3 * 3 + 1 ∨ j = j / 3 * 3 + 2 := by omega
      · rw [← h0] at a1 b1; rw [a1, b1]
      · rw [← h0] at a2 b2; rw [a2, b2]
      · rw [← h0] at a3 b3; rw [a3, b3]
    · rw [List.getElem?_eq_none (by simp; omega), List.getElem?_eq_none (by rw [flat3_len]; omega)]
theorem RowAt.of_owns {base : Nat} (hr : w.ownsRow base 79 3 v l.length (flat3 cv l)) : RowAt w cv l v := by
  rcases hr.2 with ⟨h1, h2⟩ | ⟨g, c, cur, h1, _, h2, h3, h4, h5, h6⟩
  · exact .inl ⟨h1, List.eq_nil_of_length_eq_zero h2⟩
  · refine .inr ⟨g, c, cur, h1, h2, h3, h4, h5, fun i s hi => ?_⟩
    have hlt : i < l.length := (List.getElem?_eq_some_iff.1 hi).1
    have key : ∀ j, j < l.length * 3 → cur[j]? = (flat3 cv l)[j]? := fun j hj => by
      rw [← h6, List.getElem?_take_of_lt hj, Array.getElem?_toList]
    rw [key _ (by omega), key _ (by omega), key _ (by omega)]
    exact flat3_at cv l i s hi
theorem RowAt.fr (hr : RowAt w cv l v) (hf : Fr F w w') (hg : ∀ g, v.ownBlock = some g → g ∉ F) : RowAt w' cv l v := by
  rcases hr with hr | ⟨g, c, cur, rfl, h2, h3⟩
  · exact .inl hr
  · exact .inr ⟨g, c, cur, rfl, h2.fr hf (hg g rfl), h3⟩
theorem RowAt.lt (hr : RowAt w cv l v) : ∀ g, v.ownBlock = some g → g < w.heap.size := by
  rcases hr with ⟨rfl, _⟩ | ⟨g, c, cur, rfl, h2, h3⟩
  · intro g hg; cases hg
  · intro x hx
    injection hx with hx
    exact hx ▸ h2.lt
theorem RowAt.congr {cv' : Nat → Value} (hr : RowAt w cv l v) (e : ∀ s, s ∈ l → cv s.reg = cv' s.reg) : RowAt w cv' l v := by
  rcases hr with hr | ⟨g, c, cur, h1, h2, h3, h4, h5, h6⟩
  · exact .inl hr
  · exact .inr ⟨g, c, cur, h1, h2, h3, h4, h5, fun i s hi => by rw [← e s (List.mem_of_getElem? hi)]; exact h6 i s hi⟩
/-- One source of the row turned, cell by cell. -/
theorem RowAt.set {g c i : Nat} (hr : RowAt w cv l (.slice (some ⟨g, 0, none⟩) l.length c)) (s : Sr) (hi : i < l.length) :
    RowAt (((w.setCell ⟨g, i * 3, none⟩ (.int .i64 (s.reg : Int))).setCell ⟨g, i * 3 + 1, none⟩ (.int .i64 (s.way : Int))).setCell ⟨g, i * 3 + 2, none⟩ (cv s.reg)) cv (l.set i s) (.slice (some ⟨g, 0, none⟩) l.length c) := by
  obtain ⟨g', c', cur, h1, h2, h3, h4, h5, h6⟩ := hr.pos (by omega)
  injection h1 with h1 h1' h1''
  injection h1 with h1
  injection h1 with h1
  subst h1 h1''
  refine .inr ⟨g, c, _, by simp, ((h2.put (i * 3) _).put (i * 3 + 1) _).put (i * 3 + 2) _, by simpa using h3, h4, by simpa using h5, fun j u hj => ?_⟩
  simp only [Array.getElem?_setIfInBounds, Array.size_setIfInBounds]
  rw [List.getElem?_set] at hj
  by_cases e : i = j
  · subst e
    rw [if_pos rfl, if_pos hi] at hj
    injection hj with hj
    subst hj
    refine ⟨?_, ?_, ?_⟩
    · rw [if_neg (by omega), if_neg (by omega), if_pos rfl, if_pos (by omega)]
    · rw [if_neg (by omega), if_pos rfl, if_pos (by omega)]
    · rw [if_pos rfl, if_pos (by omega)]
  · rw [if_neg e] at hj
    obtain ⟨a1, a2, a3⟩ := h6 j u hj
    refine ⟨?_, ?_, ?_⟩
    · rw [if_neg (by omega), if_neg (by omega), if_neg (by omega)]; exact a1
    · rw [if_neg (by omega), if_neg (by omega), if_neg (by omega)]; exact a2
    · rw [if_neg (by omega), if_neg (by omega), if_neg (by omega)]; exact a3
theorem RowAt.setWay {g c i k : Nat} {s : Sr} (hr : RowAt w cv l (.slice (some ⟨g, 0, none⟩) l.length c)) (hi : l[i]? = some s) :
    RowAt (w.setCell ⟨g, i * 3 + 1, none⟩ (.int .i64 (k : Int))) cv (l.set i ⟨s.reg, k, s.cds⟩) (.slice (some ⟨g, 0, none⟩) l.length c) := by
  have hlt : i < l.length := (List.getElem?_eq_some_iff.1 hi).1
  obtain ⟨g', c', cur, h1, h2, h3, h4, h5, h6⟩ := hr.pos (by omega)
  injection h1 with h1 h1' h1''
  injection h1 with h1
  injection h1 with h1
  subst h1 h1''
  refine .inr ⟨g, c, _, by simp, h2.put (i * 3 + 1) _, by simpa using h3, h4, by simpa using h5, fun j u hj => ?_⟩
  simp only [Array.getElem?_setIfInBounds, Array.size_setIfInBounds]
  rw [List.getElem?_set] at hj
  by_cases e : i = j
  · subst e
    rw [if_pos rfl, if_pos hlt] at hj
    injection hj with hj
    subst hj
    obtain ⟨a1, a2, a3⟩ := h6 i s hi
    refine ⟨?_, ?_, ?_⟩
    · rw [if_neg (by omega)]; exact a1
    · rw [if_pos rfl, if_pos (by omega)]
    · rw [if_neg (by omega)]; exact a3
  · rw [if_neg e] at hj
    obtain ⟨a1, a2, a3⟩ := h6 j u hj
    refine ⟨?_, ?_, ?_⟩
    · rw [if_neg (by omega)]; exact a1
    · rw [if_neg (by omega)]; exact a2
    · rw [if_neg (by omega)]; exact a3
theorem up_inj {l : List Sr} (hu : l.Pairwise fun a b => a.reg < b.reg) {i j : Nat} {s t : Sr} (hi : l[i]? = some s) (hj : l[j]? = some t) (e : s.reg = t.reg) : i = j := by
  obtain ⟨h1, rfl⟩ := List.getElem?_eq_some_iff.1 hi
  obtain ⟨h2, rfl⟩ := List.getElem?_eq_some_iff.1 hj
  rw [List.pairwise_iff_getElem] at hu
  rcases Nat.lt_trichotomy i j with h | h | h
  · have := hu i j h1 h2 h; omega
  · exact h
  · have := hu j i h2 h1 h; omega
theorem RowAt.setCds {g c i : Nat} {s : Sr} {u : Value} {k : List Nat} (hu : l.Pairwise fun a b => a.reg < b.reg) (hr : RowAt w cv l (.slice (some ⟨g, 0, none⟩) l.length c)) (hi : l[i]? = some s) :
    RowAt (w.setCell ⟨g, i * 3 + 2, none⟩ u) (putF cv s.reg u) (l.set i ⟨s.reg, s.way, k⟩) (.slice (some ⟨g, 0, none⟩) l.length c) := by
  have hlt : i < l.length := (List.getElem?_eq_some_iff.1 hi).1
  obtain ⟨g', c', cur, h1, h2, h3, h4, h5, h6⟩ := hr.pos (by omega)
  injection h1 with h1 h1' h1''
  injection h1 with h1
  injection h1 with h1
  subst h1 h1''
  refine .inr ⟨g, c, _, by simp, h2.put (i * 3 + 2) _, by simpa using h3, h4, by simpa using h5, fun j t hj => ?_⟩
  simp only [Array.getElem?_setIfInBounds, Array.size_setIfInBounds]
  rw [List.getElem?_set] at hj
  by_cases e : i = j
  · subst e
    rw [if_pos rfl, if_pos hlt] at hj
    injection hj with hj
    subst hj
    obtain ⟨a1, a2, a3⟩ := h6 i s hi
    refine ⟨?_, ?_, ?_⟩
    · rw [if_neg (by omega)]; exact a1
    · rw [if_neg (by omega)]; exact a2
    · rw [if_pos rfl, if_pos (by omega)]; simp only [putF_at]
  · rw [if_neg e] at hj
    obtain ⟨a1, a2, a3⟩ := h6 j t hj
    refine ⟨?_, ?_, ?_⟩
    · rw [if_neg (by omega)]; exact a1
    · rw [if_neg (by omega)]; exact a2
    · rw [if_neg (by omega), a3, putF_ne _ _ (fun h => e (up_inj hu hi hj h.symm))]
theorem CdAt.fr {s : Sr} (hc : CdAt w tg h s v) (hf : Fr F w w') (hF : ∀ b, b ∈ F → tg b ≠ (4, h, s.reg)) (hu : TgUp w tg tg') : CdAt w' tg' h s v := by
  refine ⟨own_fr hc.1 hf (fun g hg hgF => hF g hgF (hc.2 g hg)), fun g hg => (hu g ?_).trans (hc.2 g hg)⟩
  rcases own_blk hc.1 with ⟨rfl, _⟩ | ⟨g', cap, cur, rfl, _, hb, _⟩
  · cases hg
  · injection hg with hg
    exact hg ▸ hb.lt
theorem HomeAt.fr (hh : HomeAt w tg h l v cv) (hf : Fr F w w') (hF : ∀ b, b ∈ F → tg b ≠ (3, h, 0) ∧ ∀ r, tg b ≠ (4, h, r)) (hu : TgUp w tg tg') : HomeAt w' tg' h l v cv :=
  ⟨hh.row.fr hf (fun g hg hgF => (hF g hgF).1 (hh.tag g hg)), fun g hg => (hu g (hh.row.lt g hg)).trans (hh.tag g hg), fun s hs => (hh.cds s hs).fr hf (fun b hb => (hF b hb).2 _) hu⟩
theorem HomeAt.nil (w : World) (tg : Tg) (h : Nat) (cv : Nat → Value) : HomeAt w tg h [] (.slice none 0 0) cv := ⟨.inl ⟨rfl, rfl⟩, fun g hg => (by cases hg), fun s hs => (by cases hs)⟩
end
section
variable {w w' : World} {tg tg' : Tg} {mb lb per n h : Nat} {L : Nat → List Sr} {V : Nat → Value} {cv : Nat → Nat → Value} {F : List Nat}
theorem Ms.c0 (hm : Ms w tg mb lb per n L V cv) : w.cell? ⟨mb, 0, none⟩ = some (.int .i64 (n : Int)) := by rw [hm.st.cell]; rfl
theorem Ms.c1 (hm : Ms w tg mb lb per n L V cv) : w.cell? ⟨mb, 1, none⟩ = some (.int .i64 (per : Int)) := by rw [hm.st.cell]; rfl
theorem Ms.c2 (hm : Ms w tg mb lb per n L V cv) : w.cell? ⟨mb, 2, none⟩ = some (.slice (some ⟨lb, 0, none⟩) n n) := by rw [hm.st.cell]; rfl
theorem Ms.cr (hm : Ms w tg mb lb per n L V cv) (hh : h < n) : w.cell? ⟨lb, h, none⟩ = some (V h) := by rw [hm.row.cell, rowF_at hh]
theorem Ms.fz (hm : Ms w tg mb lb per n L V cv) (k : Nat) : w.frozen? ⟨lb, k, none⟩ = false := hm.row.frozen k
theorem Ms.fr (hm : Ms w tg mb lb per n L V cv) (hf : Fr F w w') (hF : ∀ b, b ∈ F → (tg b).1 = 0) : Ms w' tg mb lb per n L V cv :=
  ⟨hm.st.fr hf (fun hb => by have := hF _ hb; rw [hm.tst] at this; cases this), hm.tst, fun b hb => Nat.lt_of_lt_of_le (hm.tok b hb) hf.size,
   hm.row.fr hf (fun hb => by have := hF _ hb; rw [hm.trow] at this; cases this), hm.trow,
   fun h hh => (hm.own h hh).fr hf (fun b hb => ⟨fun e => (by have h1 := hF b hb; rw [e] at h1; cases h1), fun r e => (by have h1 := hF b hb; rw [e] at h1; cases h1)⟩) (TgUp.refl _ _)⟩
theorem Ms.fr0 (hm : Ms w tg mb lb per n L V cv) (hf : Fr [] w w') : Ms w' tg mb lb per n L V cv := hm.fr hf (by simp)
/-- One home has become another list, and its slice is stored. -/
theorem Ms.put (hm : Ms w tg mb lb per n L V cv) (hh : h < n) {l : List Sr} {v : Value} {c : Nat → Value} (hf : Fr F w w') (hF : ∀ b, b ∈ F → tg b = (3, h, 0) ∨ ∃ r, tg b = (4, h, r)) (hu : TgUp w tg tg') (ht : TgOk w' tg') (ho : HomeAt w' tg' h l v c) :
    Ms (w'.setCell ⟨lb, h, none⟩ v) tg' mb lb per n (putF L h l) (putF V h v) (putF cv h c) := by
  have t1 : tg' mb = (1, 0, 0) := (hu _ hm.st.lt).trans hm.tst
  have t2 : tg' lb = (2, 0, 0) := (hu _ hm.row.lt).trans hm.trow
  have hr := hm.row.fr hf (fun hb => by rcases hF _ hb with e | ⟨r, e⟩ <;> (rw [hm.trow] at e; simp at e))
  have hs := hm.st.fr hf (fun hb => by rcases hF _ hb with e | ⟨r, e⟩ <;> (rw [hm.tst] at e; simp at e))
  have hf2 : Fr [lb] w' (w'.setCell ⟨lb, h, none⟩ v) := (Fr.refl _ _).setCell (p := ⟨lb, h, none⟩) (.inl (by simp)) _
  have hne : mb ≠ lb := fun e => by rw [e, t2] at t1; simp at t1
  refine ⟨hs.fr hf2 (by simpa using hne), t1, fun b hb => Nat.lt_of_lt_of_le (ht b hb) hf2.size, by have := hr.put h v; rw [rowF_set] at this; exact this, t2, fun k hk => ?_⟩
  have far : ∀ b, b ∈ [lb] → tg' b ≠ (3, k, 0) ∧ ∀ r, tg' b ≠ (4, k, r) := fun b hb => by
    simp at hb
    rw [hb, t2]
    exact ⟨by simp, fun r => by simp⟩
  by_cases e : k = h
  · subst e
    rw [putF_at, putF_at, putF_at]
    exact ho.fr hf2 far (TgUp.refl _ _)
  · rw [putF_ne _ _ e, putF_ne _ _ e, putF_ne _ _ e]
    refine HomeAt.fr ((hm.own k hk).fr hf (fun b hb => ?_) hu) hf2 far (TgUp.refl _ _)
    rcases hF b hb with e1 | ⟨r, e1⟩ <;> rw [e1]
    · exact ⟨by simpa using Ne.symm e, fun r => by simp⟩
    · exact ⟨by simp, fun r' => by simp; exact fun h1 => absurd h1.symm e⟩
/-- One home has become another list under the same slice. -/
theorem Ms.turn (hm : Ms w tg mb lb per n L V cv) (hh : h < n) {l : List Sr} {c : Nat → Value} (hf : Fr F w w') (hF : ∀ b, b ∈ F → tg b = (3, h, 0) ∨ ∃ r, tg b = (4, h, r)) (hu : TgUp w tg tg') (ht : TgOk w' tg') (ho : HomeAt w' tg' h l (V h) c) :
    Ms w' tg' mb lb per n (putF L h l) V (putF cv h c) := by
  refine ⟨hm.st.fr hf (fun hb => by rcases hF _ hb with e | ⟨r, e⟩ <;> (rw [hm.tst] at e; simp at e)), (hu _ hm.st.lt).trans hm.tst, ht,
    hm.row.fr hf (fun hb => by rcases hF _ hb with e | ⟨r, e⟩ <;> (rw [hm.trow] at e; simp at e)), (hu _ hm.row.lt).trans hm.trow, fun k hk => ?_⟩
  by_cases e : k = h
  · subst e
    rw [putF_at, putF_at]
    exact ho
  · rw [putF_ne _ _ e, putF_ne _ _ e]
    refine (hm.own k hk).fr hf (fun b hb => ?_) hu
    rcases hF b hb with e1 | ⟨r, e1⟩ <;> rw [e1]
    · exact ⟨by simpa using Ne.symm e, fun r => by simp⟩
    · exact ⟨by simp, fun r' => by simp; exact fun h1 => absurd h1.symm e⟩
end
/-- The lists say what the sets are. -/
structure Mt (per n : Nat) (σ : RS) (L : Nat → List Sr) : Prop where
  ok : SOk per n σ
  up : ∀ h, h < n → (L h).Pairwise fun a b => a.reg < b.reg
  mem : ∀ h, h < n → ∀ s, s ∈ L h → σ.way h s.reg = s.way ∧ s.way ≠ 0
  all : ∀ h, h < n → ∀ r, σ.way h r ≠ 0 → ∃ s, s ∈ L h ∧ s.reg = r
  cds : ∀ h, h < n → ∀ s, s ∈ L h → s.cds.Nodup ∧ ∀ c, c ∈ s.cds ↔ c / per = s.reg ∧ σ.has h c = true
theorem Mt.regs {per n : Nat} {σ : RS} {L : Nat → List Sr} (ht : Mt per n σ L) {h : Nat} (hh : h < n) : (L h).map (·.reg) = srcs σ n h := by
  have e1 : ints ((L h).map (·.reg)) = ints (srcs σ n h) := by
    refine up_ext ?_ (srcs_up _ _ _) fun x => ?_
    · unfold ints
      rw [List.map_map]
      exact List.pairwise_map.2 ((ht.up h hh).imp fun {a b} hab => by simp; exact hab)
    · unfold ints
      rw [List.mem_map, List.mem_map]
      constructor
      · rintro ⟨r, hr, rfl⟩
        obtain ⟨s, hs, rfl⟩ := List.mem_map.1 hr
        obtain ⟨e1, e2⟩ := ht.mem h hh s hs
        exact ⟨s.reg, srcs_mem.2 ⟨(ht.ok.rng h s.reg (by omega)).2.1, by omega⟩, rfl⟩
      · rintro ⟨r, hr, rfl⟩
        obtain ⟨s, hs, rfl⟩ := ht.all h hh r (srcs_mem.1 hr).2
        exact ⟨s.reg, List.mem_map_of_mem hs, rfl⟩
  unfold ints at e1
  exact (List.map_inj_right (fun a b h => by have h : (a : Int) = (b : Int) := h; omega)).1 e1
theorem Mt.len {per n : Nat} {σ : RS} {L : Nat → List Sr} (ht : Mt per n σ L) {h : Nat} (hh : h < n) : (L h).length ≤ n := by
  rw [← List.length_map (f := fun s : Sr => s.reg), ht.regs hh]
  exact srcs_len _ _ _
end Go.Proofs.YtkbffmmomoeaiaaDoor
/- gleanerref11: what is asked. -/
namespace Go.Proofs.YtkbffmmomoeaiaaDoor
set_option linter.unusedVariables false
set_option linter.unusedSimpArgs false
open Go.RowKit Go.Gl

section
variable {w : World} {tg : Tg} {mb lb per n h : Nat} {L : Nat → List Sr} {V : Nat → Value} {cv : Nat → Nat → Value} {σ : RS}
theorem mregion_any (hm : Ms w tg mb lb per n L V cv) (hd : Dim per n) (r : Int) : Calls Tryd.prog 30 #[.pointer (some ⟨mb, 0, none⟩), .int .i64 r] w fun e w' => e = .returned (.bool (decide (0 ≤ r ∧ r < (n : Int)))) ∧ w = w' := by
  have c0 := hm.c0
  have hn := hd.n2
  clear hm hd
  go_enter Tryd.func30, Tryd.ntmps30
  go_wp2
  all_goals go_ret
  all_goals
    rename_i hi
    refine ⟨ret_bool ?_, rfl⟩
    first | (simp [hi]; done) | (simp; omega)
def fnd (l : List Sr) (r : Int) : Nat := l.findIdx fun s => (s.reg : Int) == r
def fndI (l : List Sr) (r : Int) : Int := if fnd l r < l.length then (fnd l r : Int) else -1
theorem fnd_yes {l : List Sr} {r : Int} (h : fnd l r < l.length) : ∃ s, l[fnd l r]? = some s ∧ (s.reg : Int) = r := by
  refine ⟨_, List.getElem?_eq_getElem h, ?_⟩
  have := List.findIdx_getElem (p := fun s : Sr => (s.reg : Int) == r) (xs := l) (w := h)
  exact beq_iff_eq.1 this
theorem fnd_no {l : List Sr} {r : Int} (h : ¬ fnd l r < l.length) : ∀ s, s ∈ l → (s.reg : Int) ≠ r := by
  intro s hs e
  apply h
  exact List.findIdx_lt_length_of_exists ⟨s, hs, by simpa using e⟩
theorem fnd_before {l : List Sr} {r : Int} {k : Nat} (h : k < fnd l r) {s : Sr} (hs : l[k]? = some s) : (s.reg : Int) ≠ r := by
  obtain ⟨h1, rfl⟩ := List.getElem?_eq_some_iff.1 hs
  have := List.not_of_lt_findIdx (p := fun s : Sr => (s.reg : Int) == r) (xs := l) h
  simpa using this
theorem fnd_le (l : List Sr) (r : Int) : fnd l r ≤ l.length := List.findIdx_le_length
theorem mfind_any (hm : Ms w tg mb lb per n L V cv) (hd : Dim per n) (hh : h < n) (hl : (L h).length ≤ n) (r : Int) : Calls Tryd.prog 31 #[.pointer (some ⟨mb, 0, none⟩), .int .i64 (h : Int), .int .i64 r] w fun e w' => e = .returned (.int .i64 (fndI (L h) r)) ∧ w = w' := by
  obtain ⟨A, c, hv, hs⟩ := (hm.own h hh).row.sl
  have c2 := hm.c2
  have cr := hm.cr hh
  rw [hv] at cr
  have hn := hd.n2
  have hh1 : (h : Int) < (n : Int) := by omega
  have HS := hide hs
  clear hm hd hv hs
  generalize cv h = cw at *
  generalize L h = l at *
  have HL := fnd_le l r
  have HY := hide (fnd_yes (l := l) (r := r))
  have HB := hide (fun k => fnd_before (l := l) (r := r) (k := k))
  have HE : Hid (fndI l r = if fnd l r < l.length then (fnd l r : Int) else -1) := rfl
  generalize fndI l r = R at *
  generalize fnd l r = f at *
  go_enter Tryd.func31, Tryd.ntmps31
  go_wp2_with fail
  go_loopw [7] (fun i wr => ∃ k : Nat, i = .int .i64 k ∧ k ≤ f ∧ wr = w) (fun i _ => l.length - (intOf i).toNat)
  case atStart => exact ⟨0, rfl, Nat.zero_le _, rfl⟩
  case round =>
    obtain ⟨k, rfl, hk, rfl⟩ := hrel
    by_cases hlt : k < l.length
    · have hlt1 : (k : Int) < (l.length : Int) := by omega
      obtain ⟨s, hsk⟩ : ∃ s, l[k]? = some s := ⟨_, List.getElem?_eq_getElem hlt⟩
      obtain ⟨g, rfl, c0, c1, c3⟩ := HS.out k s hsk
      by_cases e : k = f
      · obtain ⟨s', h1, h2⟩ := HY.out (by omega)
        have : s = s' := by rw [e] at hsk; rw [h1] at hsk; exact (Option.some.inj hsk).symm
        subst this
        have hr : ((s.reg : Int) == r) = true := by simpa using h2
        have HE2 : Hid (R = (k : Int)) := by have := HE.out; rw [if_pos (by omega)] at this; rw [e]; exact this
        clear hsk h1 h2 e
        generalize (s.reg : Int) = q at *
        go_wp2_with fail
        go_ret
        exact ⟨ret_int HE2.out.symm, rfl⟩
      · have h2 := HB.out k (by omega) hsk
        have hr : ((s.reg : Int) == r) = false := by simpa using h2
        clear hsk h2
        generalize (s.reg : Int) = q at *
        go_wp2_with fail
        go_roundw
        case rel => exact ⟨k + 1, by go_num, by omega, trivial⟩
        case measure => simp [intOf]; omega
    · have HE2 : Hid (R = -1) := by have := HE.out; rw [if_neg (by omega)] at this; exact this
      go_wp2_with fail
      go_ret
      exact ⟨ret_int HE2.out.symm, rfl⟩
theorem min_any {base : Nat} {v : Value} {l : List Nat} (hc : w.ownsRow base 3 1 v l.length (nums l)) (hl : l.length ≤ 4194304) (x : Nat) : Calls Tryd.prog 39 #[v, .int .i64 (x : Int)] w fun e w' => e = .returned (.bool (decide (x ∈ l))) ∧ w = w' := by
  obtain ⟨A, c, rfl, hs⟩ := sl_nums hc
  have HS := hide hs
  have HX : Hid (∀ k, k < l.length → (ints l).getD k 0 = ((l.getD k 0 : Nat) : Int)) := fun k hk => by simp [ints, hk]
  rw [ints_len] at HS ⊢
  clear hc hs
  go_enter Tryd.func39, Tryd.ntmps39
  go_wp2_with fail
  go_loopw [5] (fun i wr => ∃ k : Nat, i = .int .i64 k ∧ k ≤ l.length ∧ (∀ j, j < k → l.getD j 0 ≠ x) ∧ wr = w) (fun i _ => l.length - (intOf i).toNat)
  case atStart => exact ⟨0, rfl, Nat.zero_le _, fun j hj => absurd hj (by omega), rfl⟩
  case round =>
    obtain ⟨k, rfl, hk, hno, rfl⟩ := hrel
    have HNo := hide hno
    clear hno
    by_cases hlt : k < l.length
    · have hlt1 : (k : Int) < (l.length : Int) := by omega
      obtain ⟨b, off, rfl, _, hcell⟩ := HS.out (by omega)
      have ck : wr.cell? ⟨b, off + k, none⟩ = some (.int .i64 ((ints l).getD k 0)) := hcell k hlt
      rw [HX.out k hlt] at ck
      clear hcell
      have HM : Hid (l.getD k 0 ∈ l) := by
        show _
        have : l.getD k 0 = l[k] := by simp [hlt]
        rw [this]; exact List.getElem_mem hlt
      obtain ⟨q, hq⟩ : ∃ q, l.getD k 0 = q := ⟨_, rfl⟩
      rw [hq] at ck HM
      have HQ := hide hq
      clear hq
      by_cases e : q = x
      · have hr : ((q : Int) == (x : Int)) = true := by simp [e]
        have HD : Hid (decide (x ∈ l) = true) := decide_eq_true (e ▸ HM.out)
        go_wp2_with fail
        go_ret
        exact ⟨ret_bool HD.out.symm, rfl⟩
      · have hr : ((q : Int) == (x : Int)) = false := by rw [beq_eq_false_iff_ne]; omega
        go_wp2_with fail
        go_roundw
        case rel => exact ⟨k + 1, by go_num, by omega, fun j hj => by
          rcases Nat.lt_or_ge j k with h1 | h1
          · exact HNo.out j h1
          · obtain rfl : j = k := by omega
            rw [HQ.out]; exact e, trivial⟩
        case measure => simp [intOf]; omega
    · have HD : Hid (decide (x ∈ l) = false) := decide_eq_false fun hx => by
        obtain ⟨j, hj, rfl⟩ := List.getElem_of_mem hx
        have := HNo.out j (by omega)
        simp [hj] at this
      go_wp2_with fail
      go_ret
      exact ⟨ret_bool HD.out.symm, rfl⟩
theorem wayI_out {per n : Nat} {σ : RS} (ok : SOk per n σ) {a b : Int} (ha : ¬ (0 ≤ a ∧ a < (n : Int))) : wayI σ a b = 0 := by
  refine wayI_no ?_
  rintro ⟨x, s, rfl, rfl, hw⟩
  have := (ok.rng x s hw).1
  omega
theorem way_found {per n : Nat} {σ : RS} {L : Nat → List Sr} (ht : Mt per n σ L) {h : Nat} (hh : h < n) {b : Int} : (fnd (L h) b < (L h).length → ∃ s, (L h)[fnd (L h) b]? = some s ∧ wayI σ (h : Int) b = s.way) ∧ (¬ fnd (L h) b < (L h).length → wayI σ (h : Int) b = 0) := by
  refine ⟨fun hf => ?_, fun hf => ?_⟩
  · obtain ⟨s, h1, rfl⟩ := fnd_yes hf
    exact ⟨s, h1, by rw [wayI_at]; exact (ht.mem h hh s (List.mem_of_getElem? h1)).1⟩
  · refine wayI_no ?_
    rintro ⟨x, r, hx, rfl, hw⟩
    obtain rfl : h = x := by omega
    obtain ⟨s, h1, h2⟩ := ht.all h hh r hw
    exact fnd_no hf s h1 (by rw [h2])
set_option maxRecDepth 100000 in
theorem mway_any (hm : Ms w tg mb lb per n L V cv) (ht : Mt per n σ L) (a b : Int) : Calls Tryd.prog 15 #[.pointer (some ⟨mb, 0, none⟩), .int .i64 a, .int .i64 b] w fun e w' => e = .returned (.int .i64 (wayI σ a b : Int)) ∧ ∃ k, w' = w.drewN k := by
  have hd := ht.ok.dim
  have HR := hide (mregion_any hm hd a)
  by_cases ha : 0 ≤ a ∧ a < (n : Int)
  case neg =>
    rw [decide_eq_false ha] at HR
    rw [wayI_out ht.ok ha]
    clear hm ht hd ha
    go_enter Tryd.func15, Tryd.ntmps15
    go_wp2_with (go_at_call 30; refine HR.out.mono ?_; rintro e w' ⟨rfl, rfl⟩)
    go_ret
    exact ⟨rfl, 0, rfl⟩
  case pos =>
    rw [decide_eq_true ha] at HR
    obtain ⟨h, rfl⟩ := Int.eq_ofNat_of_zero_le ha.1
    have hh : h < n := by omega
    have hl := ht.len hh
    have HF := hide (mfind_any hm hd hh hl b)
    have HF2 : Hid (∀ i, Calls Tryd.prog 31 #[.pointer (some ⟨mb, 0, none⟩), .int .i64 (h : Int), .int .i64 b] (w.drewN i) fun e w' => e = .returned (.int .i64 (fndI (L h) b)) ∧ w.drewN i = w') := fun i => mfind_any (hm.fr0 ((Fr.refl _ _).drewN i)) hd hh hl b
    obtain ⟨wy, wn⟩ := way_found ht hh (b := b)
    by_cases hf : fnd (L h) b < (L h).length
    · obtain ⟨s, hs, hw⟩ := wy hf
      rw [hw]
      have hE : fndI (L h) b = (fnd (L h) b : Int) := if_pos hf
      rw [hE] at HF HF2
      obtain ⟨A, c, hv, hsl⟩ := (hm.own h hh).row.sl
      have c2 := hm.c2
      have cr := hm.cr hh
      rw [hv] at cr
      obtain ⟨g, rfl, c0, c1, c3⟩ := hsl _ _ hs
      have hh1 : (h : Int) < (n : Int) := by omega
      have hn := hd.n2
      clear hm ht hd ha wy wn hw hE hv hsl hs
      generalize fnd (L h) b = f at *
      generalize L h = l at *
      generalize s.way = W at *
      have hf0 : (f : Int) < (l.length : Int) := by omega
      go_enter Tryd.func15, Tryd.ntmps15
      go_wp2_with (first | (go_at_call 30; refine HR.out.mono ?_; rintro e w' ⟨rfl, rfl⟩) | (go_at_call 31; refine HF.out.mono ?_; rintro e w' ⟨rfl, rfl⟩))
      go_quiet ((go_at_call 31; exact quiet_left (HF2.out _)))
      go_wp2
      go_ret
      exact ⟨rfl, _, rfl⟩
    · have hE : fndI (L h) b = -1 := if_neg hf
      rw [hE] at HF
      rw [wn hf]
      clear hm ht hd ha wy wn hf hE HF2
      go_enter Tryd.func15, Tryd.ntmps15
      go_wp2_with (first | (go_at_call 30; refine HR.out.mono ?_; rintro e w' ⟨rfl, rfl⟩) | (go_at_call 31; refine HF.out.mono ?_; rintro e w' ⟨rfl, rfl⟩))
      go_ret
      exact ⟨rfl, 0, rfl⟩
end
end Go.Proofs.YtkbffmmomoeaiaaDoor
/- gleanerref11: Has, Clear. -/
namespace Go.Proofs.YtkbffmmomoeaiaaDoor
set_option linter.unusedVariables false
set_option linter.unusedSimpArgs false
open Go.RowKit Go.Gl

section
variable {w : World} {tg : Tg} {mb lb per n : Nat} {L : Nat → List Sr} {V : Nat → Value} {cv : Nat → Nat → Value} {σ : RS}
theorem hasI_out {a c : Int} (ok : SOk per n σ) (ha : ¬ (0 ≤ a ∧ a < (n : Int))) : hasI σ per n a c = false := by
  unfold hasI
  rcases (show a < 0 ∨ 0 ≤ a by omega) with h0 | h0
  · rw [decide_eq_false (show ¬ 0 ≤ a by omega)]; simp
  · have hw : ∀ s, σ.way a.toNat s = 0 := fun s => by
      rcases Nat.eq_zero_or_pos (σ.way a.toNat s) with h | h
      · exact h
      · have := (ok.rng a.toNat s (by omega)).1; omega
    have hh : σ.has a.toNat c.toNat = false := by
      cases h : σ.has a.toNat c.toNat with
      | false => rfl
      | true => have := (ok.can _ _ h).2; rw [hw] at this; omega
    rw [hw, hh]; simp
def QuietB (w : World) (b : Bool) (e : Ending) (w' : World) : Prop := e = .returned (.bool b) ∧ ∃ k, w' = w.drewN k
set_option maxRecDepth 100000 in
set_option maxHeartbeats 1600000 in
theorem mhas_any (hm : Ms w tg mb lb per n L V cv) (ht : Mt per n σ L) (a c : Int) : Calls Tryd.prog 24 #[.pointer (some ⟨mb, 0, none⟩), .int .i64 a, .int .i64 c] w (QuietB w (hasI σ per n a c)) := by
  have hd := ht.ok.dim
  have HR : Hid (∀ i, Calls Tryd.prog 30 #[.pointer (some ⟨mb, 0, none⟩), .int .i64 a] (w.drewN i) fun e w' => e = .returned (.bool (decide (0 ≤ a ∧ a < (n : Int)))) ∧ w.drewN i = w') := fun i => mregion_any (hm.fr0 ((Fr.refl _ _).drewN i)) hd a
  have k0 := hm.c0
  have k1 := hm.c1
  have k2 := hm.c2
  have hn := hd.n2
  have hp2 := hd.p2
  have hp1 := hd.p1
  have hp3 := hd.p3
  have hN : (n : Int) * (per : Int) = ((n * per : Nat) : Int) := (Int.natCast_mul _ _).symm
  by_cases ha : 0 ≤ a ∧ a < (n : Int)
  case neg =>
    rw [decide_eq_false ha] at HR
    rw [hasI_out ht.ok ha]
    clear hm ht hd ha hN
    go_enter Tryd.func24, Tryd.ntmps24
    go_wp2_with fail
    go_quiet ((go_at_call 30; exact quiet_left (HR.out _)))
    go_wp2
    go_ret
    exact ⟨rfl, _, rfl⟩
  case pos =>
  rw [decide_eq_true ha] at HR
  obtain ⟨h, rfl⟩ := Int.eq_ofNat_of_zero_le ha.1
  have hh : h < n := by omega
  rcases (show c < 0 ∨ 0 ≤ c by omega) with hc | hc
  · have hcd : decide (c < 0) = true := decide_eq_true hc
    rw [hasI_no (by omega)]
    clear hm ht hd ha hN
    go_enter Tryd.func24, Tryd.ntmps24
    go_wp2_with fail
    go_quiet ((go_at_call 30; exact quiet_left (HR.out _)))
    go_wp2
    go_ret
    exact ⟨rfl, _, rfl⟩
  have hcd : decide (c < 0) = false := decide_eq_false (by omega)
  have hwN : IntKind.i64.wrap ((n : Int) * (per : Int)) = ((n * per : Nat) : Int) := by rw [hN]; exact IntWalk.i64_in _ ⟨by omega, by omega⟩
  rcases (show c < ((n * per : Nat) : Int) ∨ c ≥ ((n * per : Nat) : Int) by omega) with hc1 | hc1
  case inr =>
    have hcd1 : decide (c ≥ ((n * per : Nat) : Int)) = true := decide_eq_true hc1
    rw [hasI_no (by omega)]
    clear hm ht hd ha hN
    generalize n * per = N at *
    go_enter Tryd.func24, Tryd.ntmps24
    go_wp2_with fail
    go_quiet ((go_at_call 30; exact quiet_left (HR.out _)))
    go_wp2
    go_ret
    exact ⟨rfl, _, rfl⟩
  have hcd1 : decide (c ≥ ((n * per : Nat) : Int)) = false := decide_eq_false (by omega)
  obtain ⟨m, rfl⟩ := Int.eq_ofNat_of_zero_le hc
  have hmn : m < n * per := by omega
  have hdm := hd.div hmn
  have td : (m : Int).tdiv (per : Int) = ((m / per : Nat) : Int) := by rw [Int.tdiv_eq_ediv_of_nonneg (by omega)]; rfl
  have hper0 : ¬ (per : Int) = 0 := by omega
  have HF : Hid (∀ i, Calls Tryd.prog 31 #[.pointer (some ⟨mb, 0, none⟩), .int .i64 (h : Int), .int .i64 ((m / per : Nat) : Int)] (w.drewN i) fun e w' => e = .returned (.int .i64 (fndI (L h) ((m / per : Nat) : Int))) ∧ w.drewN i = w') := fun i => mfind_any (hm.fr0 ((Fr.refl _ _).drewN i)) hd hh (ht.len hh) _
  obtain ⟨wy, wn⟩ := way_found ht hh (b := ((m / per : Nat) : Int))
  rw [hasI_at _ _ _ _ _ hmn]
  by_cases hf : fnd (L h) ((m / per : Nat) : Int) < (L h).length
  · obtain ⟨s, hs, hw⟩ := wy hf
    rw [wayI_at] at hw
    have hsm := List.mem_of_getElem? hs
    obtain ⟨s', hs', hreg⟩ := fnd_yes hf
    obtain rfl : s = s' := Option.some.inj (hs.symm.trans hs')
    have hE : fndI (L h) ((m / per : Nat) : Int) = (fnd (L h) ((m / per : Nat) : Int) : Int) := if_pos hf
    rw [hE] at HF
    have ho := hm.own h hh
    obtain ⟨A, ca, hv, hsl⟩ := ho.row.sl
    have cr := hm.cr hh
    rw [hv] at cr
    obtain ⟨g, rfl, c0, c1, c3⟩ := hsl _ _ hs
    have hh1 : (h : Int) < (n : Int) := by omega
    obtain ⟨hcd2, _⟩ := ho.cds s hsm
    have hH : hasN σ per h m = (s.way == 3 || decide (m ∈ s.cds)) := by
      unfold hasN
      rw [hw]
      congr 1
      rw [Bool.eq_iff_iff, decide_eq_true_iff, (ht.cds h hh s hsm).2 m]
      constructor
      · intro h1; exact ⟨by omega, h1⟩
      · intro h1; exact h1.2
    have hlen : s.cds.length ≤ 4194304 := by
      have h1 : s.cds.length = cnt (fun i => decide (s.reg * per + i ∈ s.cds)) 0 per := by
        have h2 : (s.cds.map fun x => x - s.reg * per).length = cnt (fun i => decide (s.reg * per + i ∈ s.cds)) 0 per := by
          have key : ∀ x, x ∈ s.cds → s.reg * per ≤ x ∧ x - s.reg * per < per := fun x hx => by
            have h3 := (((ht.cds h hh s hsm).2 x).1 hx).1
            have h4 := hd.back (c := x)
            rw [h3] at h4
            omega
          refine nodup_cnt _ per _ (List.pairwise_map.2 ((ht.cds h hh s hsm).1.imp_of_mem fun {p q} hp hq hpq => ?_)) fun i => ?_
          · have := key p hp; have := key q hq; omega
          · rw [List.mem_map]
            constructor
            · rintro ⟨x, hx, rfl⟩
              have := key x hx
              refine ⟨this.2, ?_⟩
              rw [show s.reg * per + (x - s.reg * per) = x by omega]
              exact decide_eq_true hx
            · rintro ⟨hi, hx⟩
              exact ⟨_, of_decide_eq_true hx, by omega⟩
        rw [← h2, List.length_map]
      rw [h1]
      exact Nat.le_trans (cnt_le _ _ _) hp3
    have HI : Hid (∀ i, Calls Tryd.prog 39 #[cv h s.reg, .int .i64 (m : Int)] (w.drewN i) fun e w' => e = .returned (.bool (decide (m ∈ s.cds))) ∧ w.drewN i = w') := fun i => min_any (own_fr hcd2 (((Fr.refl [] w)).drewN i) (fun _ _ => by simp)) hlen m
    obtain ⟨A3, n3, ca3, hv3⟩ : ∃ A3 n3 ca3, cv h s.reg = .slice A3 n3 ca3 := by
      obtain ⟨A3, ca3, h3, _⟩ := sl_nums hcd2
      exact ⟨_, _, _, h3⟩
    rw [hv3] at HI c3
    rw [hH]
    clear hm ht hd ha hN wy wn hw hE hv hsl hs hs' hsm hreg ho hcd2 hH hv3
    generalize decide (m ∈ s.cds) = B at *
    generalize fnd (L h) ((m / per : Nat) : Int) = f at *
    generalize (L h) = l at *
    generalize n * per = N at *
    generalize m / per = d at *
    generalize s.way = W at *
    generalize s.reg = G at *
    have hf0 : (f : Int) < (l.length : Int) := by omega
    have hfg : decide ((f : Int) ≥ 0) = true := decide_eq_true (by omega)
    by_cases hW : W = 3
    · subst hW
      go_enter Tryd.func24, Tryd.ntmps24
      go_wp2_with fail
      go_quiet ((go_at_call 30; exact quiet_left (HR.out _)))
      go_wp2_with (first | (go_at_call 31; refine (HF.out _).mono ?_; rintro e w' ⟨rfl, rfl⟩))
      go_ret
      exact ⟨rfl, _, rfl⟩
    · have hW3 : ((W : Int) == 3) = false := by rw [beq_eq_false_iff_ne]; omega
      have hWb : (W == 3) = false := by simpa using hW
      rw [hWb, Bool.false_or]
      go_enter Tryd.func24, Tryd.ntmps24
      go_wp2_with fail
      go_quiet ((go_at_call 30; exact quiet_left (HR.out _)))
      go_wp2_with (first | (go_at_call 31; refine (HF.out _).mono ?_; rintro e w' ⟨rfl, rfl⟩) | (go_at_call 39; refine (HI.out _).mono ?_; rintro e w' ⟨rfl, rfl⟩))
      go_ret
      exact ⟨rfl, _, rfl⟩
  · have hw0 := wn hf
    rw [wayI_at] at hw0
    rw [hasN_none ht.ok hw0]
    have hE : fndI (L h) ((m / per : Nat) : Int) = -1 := if_neg hf
    rw [hE] at HF
    clear hm ht hd ha hN wy wn hw0 hE hf
    generalize n * per = N at *
    generalize m / per = d at *
    go_enter Tryd.func24, Tryd.ntmps24
    go_wp2_with fail
    go_quiet ((go_at_call 30; exact quiet_left (HR.out _)))
    go_wp2_with (first | (go_at_call 31; refine (HF.out _).mono ?_; rintro e w' ⟨rfl, rfl⟩))
    go_ret
    exact ⟨rfl, _, rfl⟩
end
end Go.Proofs.YtkbffmmomoeaiaaDoor
/- gleanerref11: Clear, Scrub. -/
namespace Go.Proofs.YtkbffmmomoeaiaaDoor
set_option linter.unusedVariables false
set_option linter.unusedSimpArgs false
open Go.RowKit Go.Gl

def MAt (w : World) (tg : Tg) (mb per n : Nat) (σ : RS) : Prop := ∃ lb L V cv, Ms w tg mb lb per n L V cv ∧ Mt per n σ L
def MUpd (w : World) (tg : Tg) (mb per n : Nat) (v : Value) (σ : RS) (e : Ending) (w' : World) : Prop :=
  ∃ tg' F, e = .returned v ∧ MAt w' tg' mb per n σ ∧ Fr F w w' ∧ (∀ b, b ∈ F → (tg b).1 ≠ 0) ∧ TgUp w tg tg'
section
variable {per n : Nat} {σ : RS} {L : Nat → List Sr}
theorem SOk.clear (ok : SOk per n σ) (h : Nat) : SOk per n (σ.clear h) :=
  ⟨ok.dim, fun a b hw => by
    unfold RS.clear at hw ⊢
    by_cases e : a = h
    · simp [e] at hw
    · simp only [if_neg e] at hw ⊢; exact ok.rng a b hw, fun a c hc => by
    unfold RS.clear at hc ⊢
    by_cases e : a = h
    · simp [e] at hc
    · simp only [if_neg e] at hc ⊢; exact ok.can a c hc⟩
theorem SOk.scrub (ok : SOk per n σ) (s : Nat) : SOk per n (σ.scrub per s) :=
  ⟨ok.dim, fun a b hw => by
    unfold RS.scrub at hw ⊢
    by_cases e : b = s
    · simp [e] at hw
    · simp only [if_neg e] at hw ⊢; exact ok.rng a b hw, fun a c hc => by
    unfold RS.scrub at hc ⊢
    by_cases e : c / per = s
    · simp [e] at hc
    · simp only [if_neg e] at hc ⊢; exact ok.can a c hc⟩
theorem Mt.clear (ht : Mt per n σ L) (h : Nat) : Mt per n (σ.clear h) (putF L h []) := by
  refine ⟨ht.ok.clear h, fun a ha => ?_, fun a ha s hs => ?_, fun a ha r hr => ?_, fun a ha s hs => ?_⟩
  · by_cases e : a = h
    · subst e; rw [putF_at]; exact List.Pairwise.nil
    · rw [putF_ne _ _ e]; exact ht.up a ha
  · by_cases e : a = h
    · subst e; rw [putF_at] at hs; cases hs
    · rw [putF_ne _ _ e] at hs
      unfold RS.clear
      simp only [if_neg e]; exact ht.mem a ha s hs
  · unfold RS.clear at hr
    by_cases e : a = h
    · simp [e] at hr
    · rw [putF_ne _ _ e]
      simp only [if_neg e] at hr; exact ht.all a ha r hr
  · by_cases e : a = h
    · subst e; rw [putF_at] at hs; cases hs
    · rw [putF_ne _ _ e] at hs
      unfold RS.clear
      simp only [if_neg e]; exact ht.cds a ha s hs
theorem Mt.congr {L' : Nat → List Sr} (ht : Mt per n σ L) (e : ∀ h, h < n → L h = L' h) : Mt per n σ L' :=
  ⟨ht.ok, fun h hh => by rw [← e h hh]; exact ht.up h hh, fun h hh s hs => ht.mem h hh s (by rw [e h hh]; exact hs), fun h hh r hr => by rw [← e h hh]; exact ht.all h hh r hr, fun h hh s hs => ht.cds h hh s (by rw [e h hh]; exact hs)⟩
theorem Mt.scrub (ht : Mt per n σ L) (x : Nat) : Mt per n (σ.scrub per x) (fun h => (L h).filter fun s => s.reg != x) := by
  refine ⟨ht.ok.scrub x, fun a ha => (ht.up a ha).filter _, fun a ha s hs => ?_, fun a ha r hr => ?_, fun a ha s hs => ?_⟩
  · obtain ⟨h1, h2⟩ := List.mem_filter.1 hs
    have h3 : ¬ s.reg = x := by simpa using h2
    unfold RS.scrub
    simp only [if_neg h3]; exact ht.mem a ha s h1
  · unfold RS.scrub at hr
    by_cases e : r = x
    · simp [e] at hr
    · simp only [if_neg e] at hr
      obtain ⟨s, h1, rfl⟩ := ht.all a ha r hr
      exact ⟨s, List.mem_filter.2 ⟨h1, by simpa using e⟩, rfl⟩
  · obtain ⟨h1, h2⟩ := List.mem_filter.1 hs
    have h3 : ¬ s.reg = x := by simpa using h2
    obtain ⟨h4, h5⟩ := ht.cds a ha s h1
    refine ⟨h4, fun c => (h5 c).trans ?_⟩
    unfold RS.scrub
    constructor
    · rintro ⟨e1, e2⟩
      exact ⟨e1, by simp only [if_neg (show ¬ c / per = x by omega)]; exact e2⟩
    · rintro ⟨e1, e2⟩
      simp only [if_neg (show ¬ c / per = x by omega)] at e2
      exact ⟨e1, e2⟩
end
section
variable {w : World} {tg : Tg} {mb lb per n : Nat} {L : Nat → List Sr} {V : Nat → Value} {cv : Nat → Nat → Value} {σ : RS}
theorem mclear_bad (hm : Ms w tg mb lb per n L V cv) (ht : Mt per n σ L) {a : Int} (ha : ¬ (0 ≤ a ∧ a < (n : Int))) : Calls Tryd.prog 22 #[.pointer (some ⟨mb, 0, none⟩), .int .i64 a] w (MUpd w tg mb per n (.int .i64 2) σ) := by
  have HR := hide (mregion_any hm ht.ok.dim a)
  rw [decide_eq_false ha] at HR
  have HM := hide hm
  have HT := hide ht
  clear hm ht
  go_enter Tryd.func22, Tryd.ntmps22
  go_wp2_with (go_at_call 30; refine HR.out.mono ?_; rintro e w' ⟨rfl, rfl⟩)
  go_ret
  exact ⟨tg, [], rfl, ⟨lb, L, V, cv, HM.out, HT.out⟩, Fr.refl _ _, (fun b hb => by cases hb), TgUp.refl _ _⟩
theorem mclear_any (hm : Ms w tg mb lb per n L V cv) (ht : Mt per n σ L) {h : Nat} (hh : h < n) : Calls Tryd.prog 22 #[.pointer (some ⟨mb, 0, none⟩), .int .i64 (h : Int)] w (MUpd w tg mb per n (.int .i64 0) (σ.clear h)) := by
  have HR := hide (mregion_any hm ht.ok.dim (h : Int))
  rw [decide_eq_true (show 0 ≤ (h : Int) ∧ (h : Int) < (n : Int) by omega)] at HR
  have hn := ht.ok.dim.n2
  have hh1 : (h : Int) < (n : Int) := by omega
  have c2 := hm.c2
  have cr := hm.cr hh
  have fz := hm.fz h
  have HM := hide hm
  have HT := hide ht
  clear hm ht
  go_enter Tryd.func22, Tryd.ntmps22
  go_wp2_with (go_at_call 30; refine HR.out.mono ?_; rintro e w' ⟨rfl, rfl⟩)
  go_ret
  exact ⟨tg, [lb], rfl, ⟨lb, _, _, _, HM.out.put hh (Fr.refl [] w) (fun b hb => by cases hb) (TgUp.refl _ _) HM.out.tok (HomeAt.nil w tg h (cv h)), HT.out.clear h⟩,
    (Fr.refl _ _).setCell (p := ⟨lb, h, none⟩) (.inl (by simp)) _, (fun b hb => by simp at hb; rw [hb, HM.out.trow]; decide), TgUp.refl _ _⟩
theorem Tryd.info_src11 : (Tryd.prog.info? 79).map (fun i => (i.zero, i.size, i.bytes)) = some (some (.agg #[.int .i64 0, .int .i64 0, .slice none 0 0]), 3, 40) := by kernel_rfl
theorem three_in {w : World} {s : Nat} {x y z : Value} {t : TypeId} (hb : Blk w s t #[x, y, z]) : ∀ (j : Nat) u, [x, y, z][j]? = some u → w.cell? (Addr.add ⟨s, 0, none⟩ j) = some u := by
  intro j u hj
  have e : Addr.add ⟨s, 0, none⟩ j = ⟨s, 0 + j, none⟩ := Go.WideShapes.add_plain _ _ _
  rw [e, Nat.zero_add, hb.cell]
  simpa using hj
def tagV (tg : Tg) (v : Value) (t : Nat × Nat × Nat) : Tg := match v.ownBlock with
  | some g => setTg tg g t
  | none => tg
theorem tagV_at {tg : Tg} {v : Value} {t} {g : Nat} (h : v.ownBlock = some g) : tagV tg v t g = t := by
  unfold tagV; rw [h]; exact setTg_at _ _ _
theorem tagV_up {w : World} {tg : Tg} {v : Value} {t} (h : ∀ g, v.ownBlock = some g → w.heap.size ≤ g) : TgUp w tg (tagV tg v t) := by
  unfold tagV
  cases e : v.ownBlock with
  | none => exact TgUp.refl _ _
  | some g => exact TgUp.set _ (h g e)
theorem tagV_ok {w : World} {tg : Tg} {v : Value} {t} (ht : TgOk w tg) (h : ∀ g, v.ownBlock = some g → g < w.heap.size) : TgOk w (tagV tg v t) := by
  unfold tagV
  cases e : v.ownBlock with
  | none => exact ht
  | some g =>
    intro b hb
    by_cases e2 : b = g
    · subst e2; exact h _ e
    · have hb : (setTg tg g t b).1 ≠ 0 := hb
      rw [setTg_ne _ _ e2] at hb; exact ht b hb
theorem own_base {w : World} {base n size : Nat} {e : TypeId} {v : Value} {xs : List Value} (h : w.ownsRow base e size v n xs) : ∀ g, v.ownBlock = some g → base ≤ g := by
  rcases h.2 with ⟨rfl, _⟩ | ⟨g', cap, cur, rfl, hb, _⟩
  · intro g hg; cases hg
  · intro g hg
    injection hg with hg
    exact hg ▸ hb
theorem mscrub_bad (hm : Ms w tg mb lb per n L V cv) (ht : Mt per n σ L) {a : Int} (ha : ¬ (0 ≤ a ∧ a < (n : Int))) : Calls Tryd.prog 23 #[.pointer (some ⟨mb, 0, none⟩), .int .i64 a] w (MUpd w tg mb per n (.int .i64 2) σ) := by
  have HR := hide (mregion_any hm ht.ok.dim a)
  rw [decide_eq_false ha] at HR
  have HM := hide hm
  have HT := hide ht
  clear hm ht
  go_enter Tryd.func23, Tryd.ntmps23
  go_wp2_with (go_at_call 30; refine HR.out.mono ?_; rintro e w' ⟨rfl, rfl⟩)
  go_ret
  exact ⟨tg, [], rfl, ⟨lb, L, V, cv, HM.out, HT.out⟩, Fr.refl _ _, (fun b hb => by cases hb), TgUp.refl _ _⟩
theorem CdAt.form {w : World} {tg : Tg} {h : Nat} {s : Sr} {v : Value} (hc : CdAt w tg h s v) : ∃ A c, v = .slice A s.cds.length c := by
  obtain ⟨A, c, h1, _⟩ := sl_nums hc.1
  rw [ints_len] at h1
  exact ⟨A, c, h1⟩
set_option maxRecDepth 100000 in
set_option maxHeartbeats 3200000 in
theorem mscrub_any (hm : Ms w tg mb lb per n L V cv) (ht : Mt per n σ L) {x : Nat} (hx : x < n) : Calls Tryd.prog 23 #[.pointer (some ⟨mb, 0, none⟩), .int .i64 (x : Int)] w (MUpd w tg mb per n (.int .i64 0) (σ.scrub per x)) := by
  obtain ⟨i0, hi, hz0, hz1, hz2⟩ := info_parts Tryd.info_src11
  have HR := hide (mregion_any hm ht.ok.dim (x : Int))
  rw [decide_eq_true (show 0 ≤ (x : Int) ∧ (x : Int) < (n : Int) by omega)] at HR
  have hn := ht.ok.dim.n2
  have HLn := hide (fun h (hh : h < n) => ht.len hh)
  have HM := hide hm
  have HT := hide (ht.scrub x)
  clear hm ht hx
  go_enter Tryd.func23, Tryd.ntmps23
  go_wp2_with (go_at_call 30; refine HR.out.mono ?_; rintro e w' ⟨rfl, rfl⟩)
  go_loopw [5] (fun i wr => ∃ (a : Nat) (tg' : Tg) (L' : Nat → List Sr) (V' : Nat → Value) (cv' : Nat → Nat → Value), i = .int .i64 a ∧ a ≤ n ∧ Ms wr tg' mb lb per n L' V' cv' ∧ (∀ h, L' h = if h < a then (L h).filter (fun s => s.reg != x) else L h) ∧ Fr [lb] w wr ∧ TgUp w tg tg') (fun i _ => n - (intOf i).toNat)
  case atStart => exact ⟨0, tg, L, V, cv, rfl, Nat.zero_le _, HM.out, fun h => by rw [if_neg (by omega)], Fr.refl _ _, TgUp.refl _ _⟩
  case round =>
    obtain ⟨a, tg', L', V', cv', rfl, ha, hm', hL', hf', hu'⟩ := hrel
    have HM' := hide hm'
    have HL' := hide hL'
    have HF' := hide hf'
    have HU' := hide hu'
    have m0 := hm'.c0
    clear hm' hL' hf' hu'
    by_cases hlt : a < n
    · have hlt1 : (a : Int) < (n : Int) := by omega
      have hla : L' a = L a := by rw [HL'.out, if_neg (by omega)]
      have HLA := hide hla
      have ho := HM'.out.own a hlt
      obtain ⟨A, c, hv, hs⟩ := ho.row.sl
      have HO := hide ho
      have HS := hide hs
      have m2 := HM'.out.c2
      have cr := HM'.out.cr hlt
      rw [hv] at cr
      have hlen : (L' a).length ≤ n := by rw [hla]; exact HLn.out a hlt
      clear ho hs hla hv
      generalize hll : L' a = l at *
      have HLL := hide hll
      clear hll
      go_wp2_with fail
      obtain ⟨wy, hwy⟩ : ∃ wy, wy = wr := ⟨_, rfl⟩
      subst hwy
      go_loopw [6, 7] (fun v i wr => ∃ k : Nat, i = .int .i64 k ∧ k ≤ l.length ∧ wr.ownsRow wy.heap.size 79 3 v ((l.take k).filter (fun s => s.reg != x)).length (flat3 (cv' a) ((l.take k).filter (fun s => s.reg != x))) ∧ Fr [] wy wr) (fun _ i _ => l.length - (intOf i).toNat)
      case atStart => exact ⟨0, rfl, Nat.zero_le _, World.ownsRow_nil _ _ _ _, Fr.refl _ _⟩
      obtain ⟨k, rfl, hk, how, hf⟩ := hrel
      have HF2 := hide hf
      have d2 := (HM'.out.fr0 hf).c2
      have dr : wr.cell? ⟨lb, a, none⟩ = some (.slice A l.length c) := (hf.cell (p := ⟨lb, a, none⟩) (lt_of_cell cr) (by simp)).trans cr
      by_cases hlt2 : k < l.length
      focus
        have hlt3 : (k : Int) < (l.length : Int) := by omega
        obtain ⟨s, hsk⟩ : ∃ s, l[k]? = some s := ⟨_, List.getElem?_eq_getElem hlt2⟩
        obtain ⟨g, rfl, e0, e1, e3⟩ := HS.out k s hsk
        obtain ⟨A3, c3, h3⟩ := (HO.out.cds s (List.mem_of_getElem? hsk)).form
        rw [h3] at e3
        have f0 := (hf.cell (p := ⟨g, k * 3, none⟩) (lt_of_cell e0) (by simp)).trans e0
        have f1 := (hf.cell (p := ⟨g, k * 3 + 1, none⟩) (lt_of_cell e1) (by simp)).trans e1
        have f3 := (hf.cell (p := ⟨g, k * 3 + 2, none⟩) (lt_of_cell e3) (by simp)).trans e3
        have htk : l.take (k + 1) = l.take k ++ [s] := by
          rw [List.take_add_one, hsk]; rfl
        have HTk : Hid ((l.take (k + 1)).filter (fun s => s.reg != x) = (l.take k).filter (fun s => s.reg != x) ++ if s.reg = x then [] else [s]) := by
          show _ = _
          rw [htk, List.filter_append]
          congr 1
          by_cases e : s.reg = x
          · simp [e]
          · simp [e]
        have HOW := hide how
        have HCell : Hid (cell3 (cv' a) s = [.int .i64 (s.reg : Int), .int .i64 (s.way : Int), .slice A3 s.cds.length c3]) := by show _ = _; rw [cell3, h3]
        have hfl : ((l.take k).filter (fun s => s.reg != x)).length ≤ 65536 := by
          have h1 := List.length_filter_le (fun s : Sr => s.reg != x) (l.take k)
          have h2 : (l.take k).length ≤ l.length := by simp; omega
          omega
        clear hf how e0 e1 e3 h3 htk hsk
        generalize hxs : (l.take k).filter (fun s => s.reg != x) = xs at *
        have HXs := hide hxs
        clear hxs
        by_cases e : s.reg = x
        focus
          have hne : ((s.reg : Int) != (x : Int)) = false := by rw [bne_eq_false_iff_eq]; omega
          generalize s.reg = G at *
          go_wp2_with fail
          go_roundw
          case rel => exact ⟨k + 1, by go_num, by omega, by rw [HTk.out, if_pos e, List.append_nil]; exact HOW.out, HF2.out⟩
          case measure => simp [intOf]; omega
        have hne : ((s.reg : Int) != (x : Int)) = true := by rw [bne_iff_ne]; omega
        have hxl := flat3_len (cv' a) xs
        have HB : Hid (Blk (wr.alloc (.cells #[.int .i64 (s.reg : Int), .int .i64 (s.way : Int), .slice A3 s.cds.length c3] 79)) wr.heap.size 79 #[.int .i64 (s.reg : Int), .int .i64 (s.way : Int), .slice A3 s.cds.length c3]) := Blk.new _ _ _
        have HSz : Hid (wy.heap.size ≤ wr.heap.size) := HF2.out.size
        have HFlat : Hid (flat3 (cv' a) (xs ++ [s]) = flat3 (cv' a) xs ++ [.int .i64 (s.reg : Int), .int .i64 (s.way : Int), .slice A3 s.cds.length c3]) := by
          show _ = _
          rw [← HCell.out]; simp [flat3]
        have HE := hide e
        clear e
        have HTk2 : Hid ((l.take (k + 1)).filter (fun s => s.reg != x) = xs ++ [s]) := by have := HTk.out; rw [if_neg HE.out] at this; exact this
        clear HTk HCell
        generalize hff : flat3 (cv' a) (xs ++ [s]) = ff at *
        have HFf := hide hff
        clear hff
        generalize s.reg = G at *
        generalize s.way = WW at *
        generalize s.cds.length = CL at *
        generalize hxx : flat3 (cv' a) xs = fx at *
        generalize hyy : xs.length = xl at *
        have HYY := hide hyy
        have HXX := hide hxx
        clear hyy hxx
        go_wp2_with (at_builtin; refine wpList_append_lies _ rfl _ _ 77 rfl wy.heap.size 79 i0 (.agg #[.int .i64 0, .int .i64 0, .slice none 0 0]) 3 40 Tryd.underlying77 hi hz0 hz1 hz2 rfl (by decide) _ xl fx rfl (own_fr HOW.out ((Fr.refl [] _).alloc _) (fun _ _ => by simp)) ⟨wr.heap.size, 0, none⟩ 1 1 [.int .i64 (G : Int), .int .i64 (WW : Int), .slice A3 CL c3] rfl rfl (three_in HB.out) (by intro u hu; simp at hu; rcases hu with rfl | rfl | rfl <;> rfl) (by decide) (by unfold maxLen; omega) (by omega) (by simp; exact Nat.le_succ_of_le HSz.out) _ rfl ?_; intro g4 cap4 w4 hown4 hgr4 hat4 hlt4; have HOW4 := hide hown4; have HF4 : Hid (Fr [] wy w4) := own_grown (HF2.out.trans_nil ((Fr.refl [] _).alloc _)) (HOW.out) hgr4; clear hown4 hgr4 hat4 hlt4)
        go_roundw
        case rel => exact ⟨k + 1, by go_num, by omega, by rw [HTk2.out, HFf.out, HFlat.out, List.length_append, HYY.out]; exact HOW4.out, HF4.out⟩
        case measure => simp [intOf]; omega
      obtain rfl : k = l.length := by omega
      have HOW := hide how
      have HTl : Hid (l.take l.length = l) := List.take_length
      rw [HTl.out] at HOW
      clear hf how
      have hrow := RowAt.of_owns HOW.out
      have hbase := own_base HOW.out
      obtain ⟨A6, c6, hv6⟩ := hrow.form
      have HFi : Hid ((L a).filter (fun s => s.reg != x) = l.filter (fun s => s.reg != x)) := by show _ = _; rw [← HLA.out]
      generalize hys : l.filter (fun s => s.reg != x) = ys at *
      have HYs := hide hys
      clear hys
      generalize hyl : ys.length = yl at *
      have HMn : Hid (Ms (wr.setCell ⟨lb, a, none⟩ (.slice A6 yl c6)) (tagV tg' (.slice A6 yl c6) (3, a, 0)) mb lb per n (putF L' a ys) (putF V' a (.slice A6 yl c6)) (putF cv' a (cv' a))) := by
        rw [← hv6]
        have hup : TgUp wy tg' (tagV tg' _ (3, a, 0)) := tagV_up hbase
        refine HM'.out.put hlt HF2.out (fun b hb => by cases hb) hup (tagV_ok (fun b hb => Nat.lt_of_lt_of_le (HM'.out.tok b hb) HF2.out.size) hrow.lt) ⟨hrow, fun g hg => tagV_at hg, fun s hs => ?_⟩
        have h1 : s ∈ l := by rw [← HYs.out] at hs; exact (List.mem_filter.1 hs).1
        exact (HO.out.cds s h1).fr HF2.out (fun b hb => by cases hb) hup
      have HUn : Hid (TgUp w tg (tagV tg' (.slice A6 yl c6) (3, a, 0))) := HU'.out.trans (tagV_up (by rw [← hv6]; exact hbase)) HF'.out.size
      have HFn : Hid (Fr [lb] w (wr.setCell ⟨lb, a, none⟩ (.slice A6 yl c6))) := (HF'.out.trans_nil HF2.out).setCell (p := ⟨lb, a, none⟩) (.inl (by simp)) _
      have fz := (HM'.out.fr0 HF2.out).fz a
      subst hv6
      clear hrow hbase HOW
      go_wp2_with fail
      go_roundw
      case rel => exact ⟨a + 1, _, _, _, _, by go_num, by omega, HMn.out, fun h => by
        by_cases e : h = a
        · subst e; rw [putF_at, if_pos (by omega), HFi.out]
        · rw [putF_ne _ _ e, HL'.out]
          by_cases e2 : h < a
          · rw [if_pos e2, if_pos (by omega)]
          · rw [if_neg e2, if_neg (by omega)], HFn.out, HUn.out⟩
      case measure => simp [intOf]; omega
    · obtain rfl : a = n := by omega
      go_wp2_with fail
      go_ret
      exact ⟨tg', [lb], rfl, ⟨lb, L', V', cv', HM'.out, HT.out.congr fun h hh => by rw [HL'.out, if_pos hh]⟩, HF'.out, (fun b hb => by simp at hb; rw [hb, HM.out.trow]; decide), HU'.out⟩
end
end Go.Proofs.YtkbffmmomoeaiaaDoor
/- gleanerref11: coarsen. -/
namespace Go.Proofs.YtkbffmmomoeaiaaDoor
set_option linter.unusedVariables false
set_option linter.unusedSimpArgs false
open Go.RowKit Go.Gl

section
variable {per n h : Nat} {σ : RS} {L : Nat → List Sr}
theorem Mt.cnt (ht : Mt per n σ L) (hh : h < n) {s : Sr} (hs : s ∈ L h) : s.cds.length = cntS σ per h s.reg := by
  have hd := ht.ok.dim
  obtain ⟨h1, h2⟩ := ht.cds h hh s hs
  have key : ∀ x, x ∈ s.cds → s.reg * per ≤ x ∧ x - s.reg * per < per := fun x hx => by
    have h3 := ((h2 x).1 hx).1
    have h4 := hd.back (c := x)
    rw [h3] at h4
    omega
  unfold cntS
  have h5 : (s.cds.map fun x => x - s.reg * per).length = Go.Gl.cnt (fun i => σ.has h (s.reg * per + i)) 0 per := by
    refine nodup_cnt _ per _ (List.pairwise_map.2 (h1.imp_of_mem fun {p q} hp hq hpq => ?_)) fun i => ?_
    · have := key p hp; have := key q hq; omega
    · rw [List.mem_map]
      constructor
      · rintro ⟨x, hx, rfl⟩
        have := key x hx
        refine ⟨this.2, ?_⟩
        rw [show s.reg * per + (x - s.reg * per) = x by omega]
        exact ((h2 x).1 hx).2
      · rintro ⟨hi, hx⟩
        refine ⟨s.reg * per + i, (h2 _).2 ⟨?_, hx⟩, by omega⟩
        rw [Nat.mul_comm, Nat.mul_add_div (by have := hd.p1; omega), Nat.div_eq_of_lt hi, Nat.add_zero]
  rw [← h5, List.length_map]
theorem Mt.fine (ht : Mt per n σ L) (hh : h < n) : ((L h).filter fun s => s.way == 2).length = nFine σ n h := by
  unfold nFine
  rw [← List.length_map (f := fun s : Sr => s.reg)]
  refine nodup_cnt _ n _ (List.pairwise_map.2 (((ht.up h hh).filter _).imp fun {a b} hab => by omega)) fun r => ?_
  rw [List.mem_map]
  constructor
  · rintro ⟨s, hs, rfl⟩
    obtain ⟨h1, h2⟩ := List.mem_filter.1 hs
    obtain ⟨h3, h4⟩ := ht.mem h hh s h1
    exact ⟨(ht.ok.rng h s.reg (by omega)).2.1, by rw [h3]; exact h2⟩
  · rintro ⟨hr, hw⟩
    have hw2 : σ.way h r = 2 := by simpa using hw
    obtain ⟨s, h1, rfl⟩ := ht.all h hh r (by omega)
    exact ⟨s, List.mem_filter.2 ⟨h1, by rw [← (ht.mem h hh s h1).1]; exact hw⟩, rfl⟩
theorem set_mem {l : List Sr} {k : Nat} {s t u : Sr} (hu : l.Pairwise fun a b => a.reg < b.reg) (hk : l[k]? = some s) (hm : u ∈ l.set k t) : u = t ∨ (u ∈ l ∧ u.reg ≠ s.reg) := by
  obtain ⟨i, hi⟩ := List.mem_iff_getElem?.1 hm
  rw [List.getElem?_set] at hi
  by_cases e : k = i
  · subst e
    have hlt : k < l.length := (List.getElem?_eq_some_iff.1 hk).1
    rw [if_pos rfl, if_pos hlt] at hi
    exact .inl (Option.some.inj hi).symm
  · rw [if_neg e] at hi
    exact .inr ⟨List.mem_of_getElem? hi, fun h => e (up_inj hu hk hi h.symm)⟩
theorem mem_set_else {l : List Sr} {k : Nat} {s t u : Sr} (hk : l[k]? = some s) (hm : u ∈ l) (hne : u.reg ≠ s.reg) : u ∈ l.set k t := by
  obtain ⟨i, hi⟩ := List.mem_iff_getElem?.1 hm
  refine List.mem_iff_getElem?.2 ⟨i, ?_⟩
  rw [List.getElem?_set, if_neg, hi]
  rintro rfl
  rw [hi] at hk
  exact hne (by rw [Option.some.inj hk])
theorem mem_set_at {l : List Sr} {k : Nat} {s t : Sr} (hk : l[k]? = some s) : t ∈ l.set k t := by
  have hlt : k < l.length := (List.getElem?_eq_some_iff.1 hk).1
  exact List.mem_iff_getElem?.2 ⟨k, by rw [List.getElem?_set, if_pos rfl, if_pos hlt]⟩
theorem set_up {l : List Sr} {k : Nat} {s t : Sr} (hu : l.Pairwise fun a b => a.reg < b.reg) (hk : l[k]? = some s) (ht : t.reg = s.reg) : (l.set k t).Pairwise fun a b => a.reg < b.reg := by
  have e : (l.set k t).map (·.reg) = l.map (·.reg) := by
    rw [List.map_set]
    apply List.ext_getElem?
    intro i
    rw [List.getElem?_set]
    by_cases e : k = i
    · subst e
      have hlt : k < l.length := (List.getElem?_eq_some_iff.1 hk).1
      rw [if_pos rfl, if_pos (by simpa using hlt), List.getElem?_map, hk, ht]; rfl
    · rw [if_neg e]
  have h1 : (l.map (·.reg)).Pairwise (· < ·) := List.pairwise_map.2 hu
  rw [← e] at h1
  exact List.pairwise_map.1 h1
theorem Mt.put (ht : Mt per n σ L) (hh : h < n) {k wy : Nat} {s : Sr} {g : Nat → Bool} {cs : List Nat} (hk : (L h)[k]? = some s) (ok : SOk per n (σ.put per h s.reg wy g)) (hw : wy ≠ 0) (hc : cs.Nodup) (hcm : ∀ c, c ∈ cs ↔ c / per = s.reg ∧ g c = true) :
    Mt per n (σ.put per h s.reg wy g) (putF L h ((L h).set k ⟨s.reg, wy, cs⟩)) := by
  have hup := ht.up h hh
  refine ⟨ok, fun a ha => ?_, fun a ha u hu => ?_, fun a ha r hr => ?_, fun a ha u hu => ?_⟩
  · by_cases e : a = h
    · subst e; rw [putF_at]; exact set_up hup hk rfl
    · rw [putF_ne _ _ e]; exact ht.up a ha
  · by_cases e : a = h
    · subst e
      rw [putF_at] at hu
      rcases set_mem hup hk hu with rfl | ⟨h1, h2⟩
      · exact ⟨RS.way_at _ _ _ _ _ _, hw⟩
      · rw [RS.way_ne _ _ _ _ (fun e => h2 e.2)]; exact ht.mem a ha u h1
    · rw [putF_ne _ _ e] at hu
      rw [RS.way_ne _ _ _ _ (fun e' => e e'.1)]; exact ht.mem a ha u hu
  · by_cases e : a = h
    · subst e
      rw [putF_at]
      by_cases e2 : r = s.reg
      · exact ⟨_, mem_set_at hk, e2.symm⟩
      · rw [RS.way_ne _ _ _ _ (fun e => e2 e.2)] at hr
        obtain ⟨u, h1, rfl⟩ := ht.all a ha r hr
        exact ⟨u, mem_set_else hk h1 e2, rfl⟩
    · rw [putF_ne _ _ e]
      rw [RS.way_ne _ _ _ _ (fun e' => e e'.1)] at hr
      exact ht.all a ha r hr
  · by_cases e : a = h
    · subst e
      rw [putF_at] at hu
      rcases set_mem hup hk hu with rfl | ⟨h1, h2⟩
      · refine ⟨hc, fun c => (hcm c).trans ?_⟩
        constructor
        · rintro ⟨e1, e2⟩; exact ⟨e1, by rw [RS.has_at _ _ _ _ _ _ e1]; exact e2⟩
        · rintro ⟨e1, e2⟩; rw [RS.has_at _ _ _ _ _ _ e1] at e2; exact ⟨e1, e2⟩
      · obtain ⟨h3, h4⟩ := ht.cds a ha u h1
        refine ⟨h3, fun c => (h4 c).trans ?_⟩
        constructor
        · rintro ⟨e1, e2⟩; exact ⟨e1, by rw [RS.has_ne _ _ _ _ (fun e => h2 (e1.symm.trans e.2))]; exact e2⟩
        · rintro ⟨e1, e2⟩; rw [RS.has_ne _ _ _ _ (fun e => h2 (e1.symm.trans e.2))] at e2; exact ⟨e1, e2⟩
    · rw [putF_ne _ _ e] at hu
      obtain ⟨h3, h4⟩ := ht.cds a ha u hu
      refine ⟨h3, fun c => (h4 c).trans ?_⟩
      rw [RS.has_ne _ _ _ _ (fun e' => e e'.1)]
/-- The first of the fine ones below i that have the most cards. -/
def BestIn (l : List Sr) (i : Nat) (b : Int) : Prop :=
  (b = -1 ∧ ∀ j s, j < i → l[j]? = some s → s.way ≠ 2) ∨
  ∃ m t, b = (m : Nat) ∧ m < i ∧ l[m]? = some t ∧ t.way = 2 ∧ ∀ j s, j < i → l[j]? = some s → s.way = 2 → s.cds.length < t.cds.length ∨ (s.cds.length = t.cds.length ∧ m ≤ j)
theorem BestIn.start (l : List Sr) : BestIn l 0 (-1) := .inl ⟨rfl, fun j s hj => absurd hj (by omega)⟩
theorem BestIn.skip {l : List Sr} {i : Nat} {b : Int} (hb : BestIn l i b) {s : Sr} (hs : l[i]? = some s) (hw : s.way ≠ 2) : BestIn l (i + 1) b := by
  rcases hb with ⟨h1, h2⟩ | ⟨m, t, h1, h2, h3, h4, h5⟩
  · refine .inl ⟨h1, fun j u hj hu => ?_⟩
    rcases Nat.lt_or_ge j i with h | h
    · exact h2 j u h hu
    · obtain rfl : j = i := by omega
      rw [hs] at hu; rw [← Option.some.inj hu]; exact hw
  · refine .inr ⟨m, t, h1, by omega, h3, h4, fun j u hj hu hu2 => ?_⟩
    rcases Nat.lt_or_ge j i with h | h
    · exact h5 j u h hu hu2
    · obtain rfl : j = i := by omega
      rw [hs] at hu; rw [← Option.some.inj hu] at hu2; exact absurd hu2 hw
theorem BestIn.keep {l : List Sr} {i m : Nat} (hb : BestIn l i (m : Nat)) {s t : Sr} (hs : l[i]? = some s) (ht : l[m]? = some t) (hc : s.cds.length ≤ t.cds.length) : BestIn l (i + 1) (m : Nat) := by
  rcases hb with ⟨h1, h2⟩ | ⟨m', t', h1, h2, h3, h4, h5⟩
  · omega
  · obtain rfl : m = m' := by omega
    obtain rfl : t = t' := Option.some.inj (ht.symm.trans h3)
    refine .inr ⟨m, t, rfl, by omega, h3, h4, fun j u hj hu hu2 => ?_⟩
    rcases Nat.lt_or_ge j i with h | h
    · exact h5 j u h hu hu2
    · obtain rfl : j = i := by omega
      rw [hs] at hu; rw [← Option.some.inj hu]; omega
theorem BestIn.take {l : List Sr} {i : Nat} {b : Int} (hb : BestIn l i b) {s : Sr} (hs : l[i]? = some s) (hw : s.way = 2) (hc : b = -1 ∨ ∃ m t, b = (m : Nat) ∧ l[m]? = some t ∧ t.cds.length < s.cds.length) : BestIn l (i + 1) (i : Nat) := by
  refine .inr ⟨i, s, rfl, by omega, hs, hw, fun j u hj hu hu2 => ?_⟩
  rcases Nat.lt_or_ge j i with h | h
  · rcases hb with ⟨h1, h2⟩ | ⟨m', t', h1, h2, h3, h4, h5⟩
    · exact absurd hu2 (h2 j u h hu)
    · rcases hc with hc | ⟨m, t, e1, e2, e3⟩
      · omega
      · obtain rfl : m = m' := by omega
        obtain rfl : t = t' := Option.some.inj (e2.symm.trans h3)
        rcases h5 j u h hu hu2 with h6 | h6 <;> omega
  · obtain rfl : j = i := by omega
    rw [hs] at hu; rw [← Option.some.inj hu]; omega
theorem BestIn.best (ht : Mt per n σ L) (hh : h < n) {m : Nat} (hb : BestIn (L h) (L h).length (m : Nat)) : ∃ t, (L h)[m]? = some t ∧ t.way = 2 ∧ BestOf σ per n h t.reg := by
  rcases hb with ⟨h1, h2⟩ | ⟨m', t, h1, h2, h3, h4, h5⟩
  · omega
  · obtain rfl : m = m' := by omega
    have hm := List.mem_of_getElem? h3
    obtain ⟨e1, e2⟩ := ht.mem h hh t hm
    refine ⟨t, h3, h4, (ht.ok.rng h t.reg (by omega)).2.1, by rw [e1, h4], fun x hx hx2 => ?_⟩
    obtain ⟨u, hu, rfl⟩ := ht.all h hh x (by omega)
    have hu2 : u.way = 2 := by rw [← (ht.mem h hh u hu).1]; exact hx2
    obtain ⟨j, hj⟩ := List.mem_iff_getElem?.1 hu
    have hjl : j < (L h).length := (List.getElem?_eq_some_iff.1 hj).1
    unfold Bet
    rw [← ht.cnt hh hu, ← ht.cnt hh hm]
    rcases h5 j u hjl hj hu2 with h6 | ⟨h6, h7⟩
    · exact .inl h6
    · refine .inr ⟨h6, ?_⟩
      rcases Nat.lt_or_ge m j with h8 | h8
      · have := List.pairwise_iff_getElem.1 (ht.up h hh) m j h2 hjl h8
        have e3 := (List.getElem?_eq_some_iff.1 h3).2
        have e4 := (List.getElem?_eq_some_iff.1 hj).2
        rw [e3, e4] at this; omega
      · obtain rfl : m = j := by omega
        rw [Option.some.inj (h3.symm.trans hj)]; exact Nat.le_refl _
end
end Go.Proofs.YtkbffmmomoeaiaaDoor
/- gleanerref11: coarsen, the walk. -/
namespace Go.Proofs.YtkbffmmomoeaiaaDoor
set_option linter.unusedVariables false
set_option linter.unusedSimpArgs false
open Go.RowKit Go.Gl

section
variable {w : World} {tg : Tg} {mb lb per n : Nat} {L : Nat → List Sr} {V : Nat → Value} {cv : Nat → Nat → Value} {σ : RS}
def fineOf (l : List Sr) (k : Nat) : Nat := ((l.take k).filter fun s => s.way == 2).length
theorem fineOf_step {l : List Sr} {k : Nat} {s : Sr} (hs : l[k]? = some s) : fineOf l (k + 1) = fineOf l k + if s.way = 2 then 1 else 0 := by
  unfold fineOf
  have htk : l.take (k + 1) = l.take k ++ [s] := by rw [List.take_add_one, hs]; rfl
  rw [htk, List.filter_append, List.length_append]
  congr 1
  by_cases e : s.way = 2
  · simp [e]
  · simp [e]
theorem fineOf_le (l : List Sr) (k : Nat) : fineOf l k ≤ k := by
  unfold fineOf
  have h1 := List.length_filter_le (fun s : Sr => s.way == 2) (l.take k)
  simp at h1
  omega
/-- A source of a home is turned in place: its way and its cards. -/
theorem Ms.turn1 (hm : Ms w tg mb lb per n L V cv) (ht : Mt per n σ L) {h k wy : Nat} (hh : h < n) {s : Sr} {g c : Nat} (hv : V h = .slice (some ⟨g, 0, none⟩) (L h).length c) (hk : (L h)[k]? = some s) :
    Ms (w.setCell ⟨g, k * 3 + 1, none⟩ (.int .i64 (wy : Int))) tg mb lb per n (putF L h ((L h).set k ⟨s.reg, wy, s.cds⟩)) V (putF cv h (cv h)) := by
  have ho := hm.own h hh
  rw [hv] at ho
  have htg : tg g = (3, h, 0) := ho.tag g rfl
  have hf : Fr [g] w (w.setCell ⟨g, k * 3 + 1, none⟩ (.int .i64 (wy : Int))) := (Fr.refl _ _).setCell (p := ⟨g, k * 3 + 1, none⟩) (.inl (by simp)) _
  have hF : ∀ b, b ∈ [g] → tg b = (3, h, 0) ∨ ∃ r, tg b = (4, h, r) := fun b hb => by simp at hb; rw [hb]; exact .inl htg
  refine hm.turn hh hf hF (TgUp.refl _ _) (fun b hb => Nat.lt_of_lt_of_le (hm.tok b hb) hf.size) ⟨?_, ?_, fun u hu => ?_⟩
  · rw [hv]; exact RowAt.setWay ho.row hk
  · rw [hv]; intro x hx; injection hx with hx; rw [← hx]; exact htg
  · have far : ∀ b, b ∈ [g] → tg b ≠ (4, h, u.reg) := fun b hb => by simp at hb; rw [hb, htg]; simp
    rcases set_mem (ht.up h hh) hk hu with rfl | ⟨h1, h2⟩
    · exact (ho.cds s (List.mem_of_getElem? hk)).fr hf far (TgUp.refl _ _)
    · exact (ho.cds u h1).fr hf far (TgUp.refl _ _)
theorem Ms.turn2 {w0 : World} {F : List Nat} {tg' : Tg} (hm : Ms w tg mb lb per n L V cv) {h k : Nat} (hh : h < n) {s : Sr} {g c : Nat} {u : Value} {cs : List Nat} (hv : V h = .slice (some ⟨g, 0, none⟩) (L h).length c) (hk : (L h)[k]? = some s)
    (hup : (L h).Pairwise fun a b => a.reg < b.reg) (hf0 : Fr F w w0) (hF0 : ∀ b, b ∈ F → tg b = (4, h, s.reg)) (hu0 : TgUp w tg tg') (hto : TgOk w0 tg') (hc : CdAt w0 tg' h ⟨s.reg, s.way, cs⟩ u) :
    Ms (w0.setCell ⟨g, k * 3 + 2, none⟩ u) tg' mb lb per n (putF L h ((L h).set k ⟨s.reg, s.way, cs⟩)) V (putF cv h (putF (cv h) s.reg u)) := by
  have ho := hm.own h hh
  rw [hv] at ho
  have htg : tg g = (3, h, 0) := ho.tag g rfl
  have hgl := ho.row.lt g rfl
  have htg' : tg' g = (3, h, 0) := (hu0 g hgl).trans htg
  have hf2 : Fr [g] w0 (w0.setCell ⟨g, k * 3 + 2, none⟩ u) := (Fr.refl _ _).setCell (p := ⟨g, k * 3 + 2, none⟩) (.inl (by simp)) _
  have hf : Fr (g :: F) w (w0.setCell ⟨g, k * 3 + 2, none⟩ u) := (hf0.mono (G := g :: F) fun x hx => .inl (by simp [hx])).trans hf2 fun x hx => .inl (by simp at hx; simp [hx])
  have hF : ∀ b, b ∈ g :: F → tg b = (3, h, 0) ∨ ∃ r, tg b = (4, h, r) := fun b hb => by
    rcases List.mem_cons.1 hb with rfl | hb
    · exact .inl htg
    · exact .inr ⟨_, hF0 b hb⟩
  have hrow : RowAt w0 (cv h) (L h) (.slice (some ⟨g, 0, none⟩) (L h).length c) := ho.row.fr hf0 fun x hx hxF => by
    injection hx with hx
    have := hF0 x hxF
    rw [← hx, htg] at this; simp at this
  refine hm.turn hh hf hF hu0 (fun b hb => Nat.lt_of_lt_of_le (hto b hb) hf2.size) ⟨?_, ?_, fun t hs => ?_⟩
  · rw [hv]; exact RowAt.setCds hup hrow hk
  · rw [hv]; intro x hx; injection hx with hx; rw [← hx]; exact htg'
  · rcases set_mem hup hk hs with rfl | ⟨h1, h2⟩
    · show CdAt _ _ _ _ (putF (cv h) s.reg u s.reg)
      rw [putF_at]
      exact hc.fr hf2 (fun b hb => by simp at hb; rw [hb, htg']; simp) (TgUp.refl _ _)
    · rw [putF_ne _ _ h2]
      refine (ho.cds t h1).fr hf (fun b hb => ?_) hu0
      rcases List.mem_cons.1 hb with rfl | hb
      · rw [htg]; simp
      · rw [hF0 b hb]; simp; exact fun e => h2 e.symm
theorem CdAt.nil (w : World) (tg : Tg) (h r wy : Nat) : CdAt w tg h ⟨r, wy, []⟩ (.slice none 0 0) := ⟨World.ownsRow_nil _ _ _ _, fun g hg => by cases hg⟩
set_option maxRecDepth 100000 in
set_option maxHeartbeats 3200000 in
theorem mcoarsen_any (hm : Ms w tg mb lb per n L V cv) (ht : Mt per n σ L) {h : Nat} (hh : h < n) : Calls Tryd.prog 40 #[.pointer (some ⟨mb, 0, none⟩), .int .i64 (h : Int)] w (MUpd w tg mb per n (.tuple #[]) (coarsen σ per n h)) := by
  have hn := ht.ok.dim.n2
  have hp3 := ht.ok.dim.p3
  have hlen := ht.len hh
  have ho := hm.own h hh
  obtain ⟨A, c, hv, hs⟩ := ho.row.sl
  have c2 := hm.c2
  have cr := hm.cr hh
  rw [hv] at cr
  have hh1 : (h : Int) < (n : Int) := by omega
  have HM := hide hm
  have HT := hide ht
  have HO := hide ho
  have HS := hide hs
  have HV := hide hv
  have HCl : Hid (∀ s, s ∈ L h → s.cds.length ≤ 4194304) := fun s hs => by
    rw [ht.cnt hh hs]
    exact Nat.le_trans (cntS_le _ _ _ _) hp3
  clear hm ht ho hs hv
  generalize hl : L h = l at *
  have HL := hide hl
  clear hl
  go_enter Tryd.func40, Tryd.ntmps40
  go_wp2_with fail
  go_loopw [4, 5, 6] (fun cn b i wr => ∃ (k q : Nat) (bI : Int), i = .int .i64 k ∧ k ≤ l.length ∧ cn = .int .i64 (fineOf l k : Nat) ∧ b = .int .i64 bI ∧ BestIn l k bI ∧ wr = w.drewN q) (fun _ _ i _ => l.length - (intOf i).toNat)
  case atStart => exact ⟨0, 0, -1, rfl, Nat.zero_le _, rfl, rfl, BestIn.start l, rfl⟩
  case round =>
    obtain ⟨k, q, bI, rfl, hk, rfl, rfl, hb, rfl⟩ := hrel
    have HB := hide hb
    clear hb
    have hfl := fineOf_le l k
    by_cases hlt : k < l.length
    · have hlt1 : (k : Int) < (l.length : Int) := by omega
      obtain ⟨s, hsk⟩ : ∃ s, l[k]? = some s := ⟨_, List.getElem?_eq_getElem hlt⟩
      obtain ⟨g, rfl, e0, e1, e3⟩ := HS.out k s hsk
      obtain ⟨A3, c3, h3⟩ := (HO.out.cds s (List.mem_of_getElem? hsk)).form
      rw [h3] at e3
      have hcl := HCl.out s (List.mem_of_getElem? hsk)
      have HStep := hide (fineOf_step hsk)
      have HSk := hide hsk
      clear h3 hsk e0
      generalize fineOf l k = C at *
      by_cases hw : s.way = 2
      · have hw1 : ((s.way : Int) != 2) = false := by rw [bne_eq_false_iff_eq]; omega
        have HW := hide hw
        rw [if_pos hw] at HStep
        clear hw
        rcases (show bI = -1 ∨ ∃ m t, bI = (m : Nat) ∧ m < k ∧ l[m]? = some t ∧ ((t.cds.length < s.cds.length) ∨ ¬ t.cds.length < s.cds.length) by
          rcases HB.out with ⟨h1, _⟩ | ⟨m, t, h1, h2, h3, _⟩
          · exact .inl h1
          · exact .inr ⟨m, t, h1, h2, h3, Classical.em _⟩) with rfl | ⟨m, t, rfl, hmk, htm, hcmp | hcmp⟩
        · have HB2 := hide (HB.out.take HSk.out HW.out (.inl rfl))
          generalize s.way = W at *
          generalize s.cds.length = CL at *
          go_wp2_with fail
          go_quiet (fail)
          go_wp2
          go_roundw
          case rel => exact ⟨k + 1, q + nq, _, by go_num, by omega, by rw [HStep.out]; go_num, rfl, HB2.out, rfl⟩
          case measure => simp [intOf]; omega
        · have HB2 := hide (HB.out.take HSk.out HW.out (.inr ⟨m, t, rfl, htm, hcmp⟩))
          obtain ⟨g', hg', _, _, d3⟩ := HS.out m t htm
          injection hg' with hg'
          injection hg' with hg'
          subst hg'
          obtain ⟨A4, c4, h4⟩ := (HO.out.cds t (List.mem_of_getElem? htm)).form
          rw [h4] at d3
          have hm0 : decide ((m : Int) < 0) = false := decide_eq_false (by omega)
          have hml : (m : Int) < (l.length : Int) := by omega
          have hcm : (s.cds.length : Int) > (t.cds.length : Int) := by omega
          clear h4 htm
          generalize s.way = W at *
          generalize s.cds.length = CL at *
          generalize t.cds.length = CT at *
          go_wp2_with fail
          go_quiet (fail)
          go_wp2
          go_roundw
          case rel => exact ⟨k + 1, q + nq, _, by go_num, by omega, by rw [HStep.out]; go_num, rfl, HB2.out, rfl⟩
          case measure => simp [intOf]; omega
        · have HB2 := hide (HB.out.keep HSk.out htm (by omega))
          obtain ⟨g', hg', _, _, d3⟩ := HS.out m t htm
          injection hg' with hg'
          injection hg' with hg'
          subst hg'
          obtain ⟨A4, c4, h4⟩ := (HO.out.cds t (List.mem_of_getElem? htm)).form
          rw [h4] at d3
          have hm0 : decide ((m : Int) < 0) = false := decide_eq_false (by omega)
          have hml : (m : Int) < (l.length : Int) := by omega
          have hcm : decide ((s.cds.length : Int) > (t.cds.length : Int)) = false := decide_eq_false (by omega)
          clear h4 htm
          generalize s.way = W at *
          generalize s.cds.length = CL at *
          generalize t.cds.length = CT at *
          go_wp2_with fail
          go_quiet (fail)
          go_wp2
          go_roundw
          case rel => exact ⟨k + 1, q + nq, _, by go_num, by omega, by rw [HStep.out]; go_num, rfl, HB2.out, rfl⟩
          case measure => simp [intOf]; omega
      · have hw1 : ((s.way : Int) != 2) = true := by rw [bne_iff_ne]; omega
        have HB2 := hide (HB.out.skip HSk.out hw)
        rw [if_neg hw] at HStep
        clear hw
        generalize s.way = W at *
        go_wp2_with fail
        go_roundw
        case rel => exact ⟨k + 1, q, _, by go_num, by omega, by rw [HStep.out]; rfl, rfl, HB2.out, rfl⟩
        case measure => simp [intOf]; omega
    · obtain rfl : k = l.length := by omega
      have HFine : Hid (fineOf l l.length = nFine σ n h) := by
        show _ = _
        unfold fineOf
        rw [List.take_length, ← HL.out]
        exact HT.out.fine hh
      have HCo : Hid (coarsen σ per n h = if 4 < nFine σ n h then σ.put per h (bestOf σ per n h) 3 (fun _ => false) else σ) := rfl
      rw [← HFine.out] at HCo
      clear HFine
      by_cases h4 : 4 < fineOf l l.length
      · have h4' : (fineOf l l.length : Int) > 4 := by omega
        rw [if_pos h4] at HCo
        obtain ⟨m, rfl⟩ : ∃ m : Nat, bI = (m : Nat) := by
          rcases HB.out with ⟨_, h2⟩ | ⟨m, t, h1, _⟩
          · exfalso
            have : fineOf l l.length = 0 := by
              unfold fineOf
              rw [List.take_length, List.length_eq_zero_iff, List.filter_eq_nil_iff]
              intro s hs
              obtain ⟨j, hj⟩ := List.mem_iff_getElem?.1 hs
              have := h2 j s (List.getElem?_eq_some_iff.1 hj).1 hj
              simpa using this
            omega
          · exact ⟨m, h1⟩
        obtain ⟨t, ht1, ht2, ht3⟩ := BestIn.best HT.out hh (m := m) (by rw [HL.out]; exact HB.out)
        have hml : m < (L h).length := (List.getElem?_eq_some_iff.1 ht1).1
        rw [HL.out] at ht1 hml
        have hml1 : (m : Int) < (l.length : Int) := by omega
        obtain ⟨g, rfl, e0, e1, e3⟩ := HS.out m t ht1
        have hVh : V h = .slice (some ⟨g, 0, none⟩) (L h).length c := by rw [HL.out]; exact HV.out
        obtain ⟨g', c', hv', hgl, hfz, _⟩ := HO.out.row.cells ht1
        rw [HV.out] at hv'
        injection hv' with hv'
        injection hv' with hv'
        injection hv' with hv'
        subst hv'
        have z1 := hfz (m * 3 + 1)
        have z2 := hfz (m * 3 + 2)
        rw [bestOf_eq ht3] at HCo
        have HTm := hide (HT.out.put hh (by rw [HL.out]; exact ht1) (wy := 3) (g := fun _ => false) (cs := []) (HT.out.ok.put (fun _ => by
          have h1 := HT.out.ok.rng h t.reg (by rw [ht3.2.1]; decide)
          exact ⟨h1.1, h1.2.1, h1.2.2.1, by decide⟩) (fun c _ h => by cases h)) (by decide) List.nodup_nil (fun c => by simp))
        have HM0 : Ms (w.drewN q) tg mb lb per n L V cv := HM.out.fr0 ((Fr.refl _ _).drewN q)
        have M1 := HM0.turn1 HT.out hh (wy := 3) hVh (by rw [HL.out]; exact ht1)
        have hup1 : (putF L h ((L h).set m ⟨t.reg, 3, t.cds⟩) h).Pairwise fun a b => a.reg < b.reg := by
          rw [putF_at]; exact set_up (s := t) (HT.out.up h hh) (by rw [HL.out]; exact ht1) rfl
        have M2 := M1.turn2 (h := h) (k := m) (s := ⟨t.reg, 3, t.cds⟩) (g := g) (c := c) (u := .slice none 0 0) (cs := []) (F := []) (w0 := _) hh (by rw [putF_at, List.length_set]; exact hVh) (by rw [putF_at, List.getElem?_set, if_pos rfl, if_pos (by rw [HL.out]; exact hml)]) hup1 (Fr.refl _ _) (fun b hb => by cases hb) (TgUp.refl _ _) M1.tok (CdAt.nil _ _ _ _ _)
        have hLe : ∀ a, a < n → putF L h ((L h).set m ⟨t.reg, 3, []⟩) a = putF (putF L h ((L h).set m ⟨t.reg, 3, t.cds⟩)) h ((putF L h ((L h).set m ⟨t.reg, 3, t.cds⟩) h).set m ⟨t.reg, 3, []⟩) a := fun a _ => by
          by_cases e : a = h
          · subst e; rw [putF_at, putF_at, putF_at, List.set_set]
          · rw [putF_ne _ _ e, putF_ne _ _ e, putF_ne _ _ e]
        have HMt := hide (HTm.out.congr hLe)
        have HM2 := hide M2
        have HTg : Hid (tg g = (3, h, 0)) := HO.out.tag g (by rw [HV.out]; rfl)
        clear hLe hup1 M1 M2 HM0 ht1 ht2 ht3 hVh hfz e0 hml
        clear HTm
        have n1 : mb ≠ g := fun e => by have h1 := HM.out.tst; rw [e, HTg.out] at h1; simp at h1
        have n2 : lb ≠ g := fun e => by have h1 := HM.out.trow; rw [e, HTg.out] at h1; simp at h1
        have n3 := n1.symm
        have n4 := n2.symm
        generalize fineOf l l.length = C at *
        go_wp2_with fail
        go_end0
        refine ⟨tg, [g], rfl, ?_, (((Fr.refl _ _).drewN q).setCell (p := ⟨g, m * 3 + 1, none⟩) (.inl (by simp)) _).setCell (p := ⟨g, m * 3 + 2, none⟩) (.inl (by simp)) _, fun b hb => by simp at hb; rw [hb, HTg.out]; simp, TgUp.refl _ _⟩
        rw [HCo.out]
        exact ⟨lb, _, _, _, HM2.out, HMt.out⟩
      · have h4' : ¬ (fineOf l l.length : Int) > 4 := by omega
        rw [if_neg h4] at HCo
        generalize fineOf l l.length = C at *
        go_wp2_with fail
        go_end0
        refine ⟨tg, [], rfl, ?_, (Fr.refl _ _).drewN q, (fun b hb => by cases hb), TgUp.refl _ _⟩
        rw [HCo.out]
        exact ⟨lb, L, V, cv, HM.out.fr0 ((Fr.refl _ _).drewN q), HT.out⟩
end
end Go.Proofs.YtkbffmmomoeaiaaDoor
/- gleanerref11: Add, what it does to the lists. -/
namespace Go.Proofs.YtkbffmmomoeaiaaDoor
set_option linter.unusedVariables false
set_option linter.unusedSimpArgs false
open Go.RowKit Go.Gl

def ins (l : List Sr) (i : Nat) (x : Sr) : List Sr := l.take i ++ x :: l.drop i
theorem ins_len (l : List Sr) (i : Nat) (x : Sr) (hi : i ≤ l.length) : (ins l i x).length = l.length + 1 := by
  unfold ins
  simp; omega
theorem ins_at {l : List Sr} {i : Nat} {x : Sr} (hi : i ≤ l.length) : (ins l i x)[i]? = some x := by
  unfold ins
  rw [List.getElem?_append_right (by simp; omega)]
  simp [Nat.min_eq_left hi]
theorem ins_prev {l : List Sr} {j : Nat} {x s : Sr} (hs : l[j]? = some s) : (ins l (j + 1) x)[j]? = some s := by
  have hl : j < l.length := (List.getElem?_eq_some_iff.1 hs).1
  unfold ins
  rw [List.getElem?_append_left (by simp; omega), List.getElem?_take_of_lt (by omega), hs]
theorem ins_end (l : List Sr) (x : Sr) : ins l l.length x = l ++ [x] := by simp [ins]
theorem ins_mem {l : List Sr} {i : Nat} {x u : Sr} : u ∈ ins l i x ↔ u = x ∨ u ∈ l := by
  unfold ins
  conv => rhs; rw [← List.take_append_drop i l]
  simp only [List.mem_append, List.mem_cons]
  constructor
  · rintro (h | h | h)
    · exact .inr (.inl h)
    · exact .inl h
    · exact .inr (.inr h)
  · rintro (h | h | h)
    · exact .inr (.inl h)
    · exact .inl h
    · exact .inr (.inr h)
theorem ins_swap {l : List Sr} {j : Nat} {x s : Sr} (hs : l[j]? = some s) : ((ins l (j + 1) x).set (j + 1) s).set j x = ins l j x := by
  have hl : j < l.length := (List.getElem?_eq_some_iff.1 hs).1
  apply List.ext_getElem?
  intro i
  have e1 : (ins l (j + 1) x).length = l.length + 1 := ins_len _ _ _ (by omega)
  have at1 : ∀ (k i : Nat), k ≤ l.length → (ins l k x)[i]? = if i < k then l[i]? else if i = k then some x else l[i - 1]? := by
    intro k i hk
    unfold ins
    have e2 : (l.take k).length = k := by simp; omega
    rcases Nat.lt_or_ge i k with h1 | h1
    · rw [if_pos h1, List.getElem?_append_left (by omega), List.getElem?_take_of_lt h1]
    · rw [if_neg (by omega), List.getElem?_append_right (by omega), e2]
      rcases Nat.eq_or_lt_of_le h1 with h2 | h2
      · rw [if_pos h2.symm, ← h2, Nat.sub_self]; rfl
      · rw [if_neg (by omega), show i - k = (i - k - 1) + 1 by omega, List.getElem?_cons_succ, List.getElem?_drop]
        congr 1; omega
  rw [List.getElem?_set, List.getElem?_set, List.length_set, e1, at1 _ _ (by omega), at1 _ _ (by omega)]
  by_cases h1 : j = i
  · subst h1
    rw [if_pos rfl, if_pos (by omega), if_neg (by omega), if_pos rfl]
  · rw [if_neg h1]
    by_cases h2 : j + 1 = i
    · subst h2
      rw [if_pos rfl, if_pos (by omega), if_neg (by omega), if_neg (by omega), Nat.add_sub_cancel]
      exact hs.symm
    · rw [if_neg h2]
      by_cases h3 : i < j
      · rw [if_pos (by omega), if_pos h3]
      · rw [if_neg (by omega), if_neg (by omega), if_neg h3, if_neg (by omega)]
section
variable {per n h src i : Nat} {σ : RS} {L : Nat → List Sr}
theorem Mt.absent (ht : Mt per n σ L) (hh : h < n) (hw : σ.way h src = 0) : ∀ s, s ∈ L h → s.reg ≠ src := fun s hs e => by
  obtain ⟨h1, h2⟩ := ht.mem h hh s hs
  rw [e] at h1; omega
theorem absent_has {x : Nat} (ok : SOk per n σ) (hw : σ.way h src = 0) (hx : x / per = src) : σ.has h x = false := by
  cases e : σ.has h x with
  | false => rfl
  | true => have := (ok.can h x e).2; rw [hx, hw] at this; omega
theorem Mt.ins (ht : Mt per n σ L) (hh : h < n) (hs : src < n) (hne : h ≠ src) (hw : σ.way h src = 0) (hi : i ≤ (L h).length) (hlo : ∀ j s, j < i → (L h)[j]? = some s → s.reg < src) (hhi : ∀ j s, i ≤ j → (L h)[j]? = some s → src < s.reg) :
    Mt per n (σ.put per h src 1 (fun _ => false)) (putF L h (Go.Proofs.YtkbffmmomoeaiaaDoor.ins (L h) i ⟨src, 1, []⟩)) := by
  have hab := ht.absent hh hw
  refine ⟨ht.ok.put (fun _ => ⟨hh, hs, hne, by decide⟩) (fun c _ h => by cases h), fun a ha => ?_, fun a ha u hu => ?_, fun a ha r hr => ?_, fun a ha u hu => ?_⟩
  · by_cases e : a = h
    · subst e
      rw [putF_at]
      unfold Go.Proofs.YtkbffmmomoeaiaaDoor.ins
      refine List.pairwise_append.2 ⟨(ht.up a ha).sublist (List.take_sublist _ _), List.pairwise_cons.2 ⟨fun y hy => ?_, (ht.up a ha).sublist (List.drop_sublist _ _)⟩, fun p hp q hq => ?_⟩
      · obtain ⟨j, hj⟩ := List.mem_iff_getElem?.1 hy
        rw [List.getElem?_drop] at hj
        exact hhi _ _ (by omega) hj
      · obtain ⟨j, hj⟩ := List.mem_iff_getElem?.1 hp
        have hjl : j < i := by
          have := (List.getElem?_eq_some_iff.1 hj).1
          simp at this; omega
        rw [List.getElem?_take_of_lt hjl] at hj
        have h1 := hlo j p hjl hj
        rcases List.mem_cons.1 hq with rfl | hq
        · exact h1
        · obtain ⟨j', hj'⟩ := List.mem_iff_getElem?.1 hq
          rw [List.getElem?_drop] at hj'
          have := hhi _ _ (by omega) hj'
          omega
    · rw [putF_ne _ _ e]; exact ht.up a ha
  · by_cases e : a = h
    · subst e
      rw [putF_at] at hu
      rcases ins_mem.1 hu with rfl | hu
      · exact ⟨RS.way_at _ _ _ _ _ _, by simp⟩
      · rw [RS.way_ne _ _ _ _ (fun e => hab u hu e.2)]; exact ht.mem a ha u hu
    · rw [putF_ne _ _ e] at hu
      rw [RS.way_ne _ _ _ _ (fun e' => e e'.1)]; exact ht.mem a ha u hu
  · by_cases e : a = h
    · subst e
      rw [putF_at]
      by_cases e2 : r = src
      · exact ⟨_, ins_mem.2 (.inl rfl), e2.symm⟩
      · rw [RS.way_ne _ _ _ _ (fun e => e2 e.2)] at hr
        obtain ⟨u, h1, rfl⟩ := ht.all a ha r hr
        exact ⟨u, ins_mem.2 (.inr h1), rfl⟩
    · rw [putF_ne _ _ e]
      rw [RS.way_ne _ _ _ _ (fun e' => e e'.1)] at hr
      exact ht.all a ha r hr
  · by_cases e : a = h
    · subst e
      rw [putF_at] at hu
      rcases ins_mem.1 hu with rfl | hu
      · refine ⟨List.nodup_nil, fun c => ⟨fun h => (by cases h), ?_⟩⟩
        rintro ⟨e1, e2⟩
        rw [RS.has_at _ _ _ _ _ _ e1] at e2; cases e2
      · obtain ⟨h3, h4⟩ := ht.cds a ha u hu
        refine ⟨h3, fun c => (h4 c).trans ?_⟩
        constructor
        · rintro ⟨e1, e2⟩; exact ⟨e1, by rw [RS.has_ne _ _ _ _ (fun e => hab u hu (e1.symm.trans e.2))]; exact e2⟩
        · rintro ⟨e1, e2⟩; rw [RS.has_ne _ _ _ _ (fun e => hab u hu (e1.symm.trans e.2))] at e2; exact ⟨e1, e2⟩
    · rw [putF_ne _ _ e] at hu
      obtain ⟨h3, h4⟩ := ht.cds a ha u hu
      refine ⟨h3, fun c => (h4 c).trans ?_⟩
      rw [RS.has_ne _ _ _ _ (fun e' => e e'.1)]
theorem put_put {k k' : Nat} {g g' : Nat → Bool} : (σ.put per h src k g).put per h src k' g' = σ.put per h src k' g' := by
  refine RS.ext (fun a b => ?_) (fun a c => ?_)
  · by_cases e : a = h ∧ b = src
    · obtain ⟨rfl, rfl⟩ := e; rw [RS.way_at, RS.way_at]
    · rw [RS.way_ne _ _ _ _ e, RS.way_ne _ _ _ _ e, RS.way_ne _ _ _ _ e]
  · by_cases e : a = h ∧ c / per = src
    · obtain ⟨rfl, e⟩ := e; rw [RS.has_at _ _ _ _ _ _ e, RS.has_at _ _ _ _ _ _ e]
    · rw [RS.has_ne _ _ _ _ e, RS.has_ne _ _ _ _ e, RS.has_ne _ _ _ _ e]
/-- The state at which the card is put to its source's cards: the source is there, sparse or fine, at place k. -/
structure Ready (per n : Nat) (σ σz : RS) (Lz : Nat → List Sr) (h c k W : Nat) (cs : List Nat) : Prop where
  mt : Mt per n σz Lz
  at' : (Lz h)[k]? = some ⟨c / per, W, cs⟩
  way : W = 1 ∨ W = 2
  no : c ∉ cs
  put : ∀ k g, σz.put per h (c / per) k g = σ.put per h (c / per) k g
  has : ∀ x, x / per = c / per → σz.has h x = σ.has h x
  two : W = 2 ↔ σ.way h (c / per) = 2
theorem Ready.found {c k : Nat} {s : Sr} (ht : Mt per n σ L) (hh : h < n) (hk : (L h)[k]? = some s) (hr : s.reg = c / per) (hno : hasN σ per h c = false) : Ready per n σ σ L h c k s.way s.cds := by
  have hm := List.mem_of_getElem? hk
  obtain ⟨e1, e2⟩ := ht.mem h hh s hm
  have e3 := (ht.ok.rng h s.reg (by omega)).2.2.2
  unfold hasN at hno
  obtain ⟨n1, n2⟩ := Bool.or_eq_false_iff.1 hno
  have n3 : ¬ σ.way h (c / per) = 3 := by simpa using n1
  rw [hr] at e1 e3
  refine ⟨ht, by rw [hk, ← hr], by omega, fun hc => ?_, fun _ _ => rfl, fun _ _ => rfl, by rw [e1]⟩
  have := (((ht.cds h hh s hm).2 c).1 hc).2
  rw [n2] at this; cases this
theorem Ready.fresh {c : Nat} (ht : Mt per n σ L) (hh : h < n) (hs : c / per < n) (hne : h ≠ c / per) (hw : σ.way h (c / per) = 0) (hi : i ≤ (L h).length) (hlo : ∀ j s, j < i → (L h)[j]? = some s → s.reg < c / per) (hhi : ∀ j s, i ≤ j → (L h)[j]? = some s → c / per < s.reg) :
    Ready per n σ (σ.put per h (c / per) 1 (fun _ => false)) (putF L h (Go.Proofs.YtkbffmmomoeaiaaDoor.ins (L h) i ⟨c / per, 1, []⟩)) h c i 1 [] := by
  refine ⟨ht.ins hh hs hne hw hi hlo hhi, by rw [putF_at]; exact ins_at hi, .inl rfl, by simp, fun _ _ => put_put, fun x hx => ?_, ?_⟩
  · rw [RS.has_at _ _ _ _ _ _ hx, absent_has ht.ok hw hx]
  · rw [hw]; decide
theorem plus_at (σ : RS) (h c x : Nat) : plus σ h c x = (σ.has h x || decide (x = c)) := rfl
theorem Ready.mt1 {σz : RS} {Lz : Nat → List Sr} {c k W W' : Nat} {cs : List Nat} (r : Ready per n σ σz Lz h c k W cs) (ok : SOk per n σ) (hh : h < n) (hc : c < n * per) (hne : h ≠ c / per) (hW : W' = 1 ∨ W' = 2) :
    Mt per n (σ.put per h (c / per) W' (plus σ h c)) (putF Lz h ((Lz h).set k ⟨c / per, W', cs ++ [c]⟩)) := by
  have hm := List.mem_of_getElem? r.at'
  obtain ⟨e1, e2⟩ := r.mt.cds h hh _ hm
  rw [← r.put]
  refine r.mt.put hh r.at' ?_ (by omega) (List.nodup_append.2 ⟨e1, List.nodup_cons.2 ⟨by simp, List.nodup_nil⟩, fun a ha b hb => ?_⟩) fun x => ?_
  · rw [r.put]
    exact ok.put (fun _ => ⟨hh, ok.dim.div hc, hne, by omega⟩) (fun x hx hp => ⟨by
      rw [plus_at] at hp
      rcases Bool.or_eq_true_iff.1 hp with h1 | h1
      · exact (ok.can h x h1).1
      · rw [of_decide_eq_true h1]; exact hc, hW⟩)
  · simp at hb
    rintro rfl
    exact r.no (hb ▸ ha)
  · rw [List.mem_append, List.mem_singleton, e2 x, plus_at]
    constructor
    · rintro (⟨h1, h2⟩ | rfl)
      · rw [r.has x h1] at h2
        exact ⟨h1, by rw [h2]; rfl⟩
      · exact ⟨rfl, by simp⟩
    · rintro ⟨h1, h2⟩
      rcases Bool.or_eq_true_iff.1 h2 with h3 | h3
      · exact .inl ⟨h1, by rw [r.has x h1]; exact h3⟩
      · exact .inr (of_decide_eq_true h3)
theorem Ready.long {σz : RS} {Lz : Nat → List Sr} {c k : Nat} {cs : List Nat} (r : Ready per n σ σz Lz h c k 1 cs) (ok : SOk per n σ) (hh : h < n) (hc : c < n * per) (hne : h ≠ c / per) : cs.length + 1 = cntS (σ.put per h (c / per) 1 (plus σ h c)) per h (c / per) := by
  have := (r.mt1 ok hh hc hne (W' := 1) (.inl rfl)).cnt hh (s := ⟨c / per, 1, cs ++ [c]⟩) (by rw [putF_at]; exact mem_set_at r.at')
  simpa using this
end
end Go.Proofs.YtkbffmmomoeaiaaDoor
/- gleanerref11: Add, where it adds nothing. -/
namespace Go.Proofs.YtkbffmmomoeaiaaDoor
set_option linter.unusedVariables false
set_option linter.unusedSimpArgs false
open Go.RowKit Go.Gl

section
variable {w : World} {tg : Tg} {mb lb per n : Nat} {L : Nat → List Sr} {V : Nat → Value} {cv : Nat → Nat → Value} {σ : RS}
theorem Ms.region (hm : Ms w tg mb lb per n L V cv) (hd : Dim per n) (a : Int) : ∀ i, Calls Tryd.prog 30 #[.pointer (some ⟨mb, 0, none⟩), .int .i64 a] (w.drewN i) fun e w' => e = .returned (.bool (decide (0 ≤ a ∧ a < (n : Int)))) ∧ w.drewN i = w' := fun i => mregion_any (hm.fr0 ((Fr.refl _ _).drewN i)) hd a
theorem MUpd.same {w' : World} {v : Value} (hm : Ms w tg mb lb per n L V cv) (ht : Mt per n σ L) (hf : Fr [] w w') : MUpd w tg mb per n v σ (.returned v) w' :=
  ⟨tg, [], rfl, ⟨lb, L, V, cv, hm.fr0 hf, ht⟩, hf, (fun b hb => by cases hb), TgUp.refl _ _⟩
set_option maxRecDepth 100000 in
set_option maxHeartbeats 1600000 in
theorem madd_bad (hm : Ms w tg mb lb per n L V cv) (ht : Mt per n σ L) {a c : Int} (hac : ¬ (0 ≤ a ∧ a < (n : Int)) ∨ ¬ (0 ≤ c ∧ c < ((n * per : Nat) : Int))) :
    Calls Tryd.prog 25 #[.pointer (some ⟨mb, 0, none⟩), .int .i64 a, .int .i64 c] w (MUpd w tg mb per n (.tuple #[.bool false, .int .i64 2]) σ) := by
  have hd := ht.ok.dim
  have HR := hide (hm.region hd a)
  have k0 := hm.c0
  have k1 := hm.c1
  have hp2 := hd.p2
  have hn := hd.n2
  have hp3 := hd.p3
  have hN : (n : Int) * (per : Int) = ((n * per : Nat) : Int) := (Int.natCast_mul _ _).symm
  have HM := hide hm
  have HT := hide ht
  clear hm ht
  by_cases ha : 0 ≤ a ∧ a < (n : Int)
  case neg =>
    rw [decide_eq_false ha] at HR
    clear ha hN hac
    go_enter Tryd.func25, Tryd.ntmps25
    go_wp2_with fail
    go_quiet ((go_at_call 30; exact quiet_left (HR.out _)))
    go_wp2
    go_ret2
    exact MUpd.same HM.out HT.out ((Fr.refl _ _).drewN _)
  case pos =>
  rw [decide_eq_true ha] at HR
  have hc2 : ¬ (0 ≤ c ∧ c < ((n * per : Nat) : Int)) := hac.resolve_left (fun h => h ha)
  rcases (show c < 0 ∨ 0 ≤ c by omega) with hc | hc
  · have hcd : decide (c < 0) = true := decide_eq_true hc
    clear ha hN hac hc2
    go_enter Tryd.func25, Tryd.ntmps25
    go_wp2_with fail
    go_quiet ((go_at_call 30; exact quiet_left (HR.out _)))
    go_wp2
    go_ret2
    exact MUpd.same HM.out HT.out ((Fr.refl _ _).drewN _)
  · have hcd : decide (c < 0) = false := decide_eq_false (by omega)
    have hwN : IntKind.i64.wrap ((n : Int) * (per : Int)) = ((n * per : Nat) : Int) := by rw [hN]; exact IntWalk.i64_in _ ⟨by omega, by omega⟩
    have hcd1 : decide (c ≥ ((n * per : Nat) : Int)) = true := decide_eq_true (by omega)
    clear ha hN hac hc2
    generalize n * per = N at *
    go_enter Tryd.func25, Tryd.ntmps25
    go_wp2_with fail
    go_quiet ((go_at_call 30; exact quiet_left (HR.out _)))
    go_wp2
    go_ret2
    exact MUpd.same HM.out HT.out ((Fr.refl _ _).drewN _)
set_option maxRecDepth 100000 in
set_option maxHeartbeats 1600000 in
theorem madd_shape (hm : Ms w tg mb lb per n L V cv) (ht : Mt per n σ L) {h c : Nat} (hh : h < n) (hc : c < n * per) (hs : c / per = h) :
    Calls Tryd.prog 25 #[.pointer (some ⟨mb, 0, none⟩), .int .i64 (h : Int), .int .i64 (c : Int)] w (MUpd w tg mb per n (.tuple #[.bool false, .int .i64 3]) σ) := by
  have hd := ht.ok.dim
  have HR := hide (hm.region hd (h : Int))
  rw [decide_eq_true (show 0 ≤ (h : Int) ∧ (h : Int) < (n : Int) by omega)] at HR
  have k0 := hm.c0
  have k1 := hm.c1
  have hp2 := hd.p2
  have hn := hd.n2
  have hp3 := hd.p3
  have hp1 := hd.p1
  have hwN : IntKind.i64.wrap ((n : Int) * (per : Int)) = ((n * per : Nat) : Int) := by rw [← Int.natCast_mul]; exact IntWalk.i64_in _ ⟨by omega, by omega⟩
  have hcd : decide ((c : Int) < 0) = false := decide_eq_false (by omega)
  have hcd1 : decide ((c : Int) ≥ ((n * per : Nat) : Int)) = false := decide_eq_false (by omega)
  have td : (c : Int).tdiv (per : Int) = (h : Int) := by rw [Int.tdiv_eq_ediv_of_nonneg (by omega), ← hs]; rfl
  have td2 : (c : Int) / (per : Int) = (h : Int) := by rw [← hs]; rfl
  have hper0 : ¬ (per : Int) = 0 := by omega
  have HM := hide hm
  have HT := hide ht
  clear hm ht hs hd
  generalize n * per = N at *
  go_enter Tryd.func25, Tryd.ntmps25
  go_wp2_with fail
  go_quiet ((go_at_call 30; exact quiet_left (HR.out _)))
  go_wp2
  go_ret2
  exact MUpd.same HM.out HT.out ((Fr.refl _ _).drewN _)
set_option maxRecDepth 100000 in
set_option maxHeartbeats 1600000 in
theorem madd_had (hm : Ms w tg mb lb per n L V cv) (ht : Mt per n σ L) {h c : Nat} (hh : h < n) (hc : c < n * per) (hs : ¬ c / per = h) (hy : hasN σ per h c = true) :
    Calls Tryd.prog 25 #[.pointer (some ⟨mb, 0, none⟩), .int .i64 (h : Int), .int .i64 (c : Int)] w (MUpd w tg mb per n (.tuple #[.bool false, .int .i64 0]) σ) := by
  have hd := ht.ok.dim
  have hdm := hd.div hc
  have HR := hide (hm.region hd (h : Int))
  rw [decide_eq_true (show 0 ≤ (h : Int) ∧ (h : Int) < (n : Int) by omega)] at HR
  have k0 := hm.c0
  have k1 := hm.c1
  have k2 := hm.c2
  have hp2 := hd.p2
  have hn := hd.n2
  have hp3 := hd.p3
  have hp1 := hd.p1
  have hwN : IntKind.i64.wrap ((n : Int) * (per : Int)) = ((n * per : Nat) : Int) := by rw [← Int.natCast_mul]; exact IntWalk.i64_in _ ⟨by omega, by omega⟩
  have hcd : decide ((c : Int) < 0) = false := decide_eq_false (by omega)
  have hcd1 : decide ((c : Int) ≥ ((n * per : Nat) : Int)) = false := decide_eq_false (by omega)
  have td : (c : Int).tdiv (per : Int) = ((c / per : Nat) : Int) := by rw [Int.tdiv_eq_ediv_of_nonneg (by omega)]; rfl
  have td2 : (c : Int) / (per : Int) = ((c / per : Nat) : Int) := rfl
  have hper0 : ¬ (per : Int) = 0 := by omega
  have hsd : (((c / per : Nat) : Int) == (h : Int)) = false := by rw [beq_eq_false_iff_ne]; omega
  have HF : Hid (∀ i, Calls Tryd.prog 31 #[.pointer (some ⟨mb, 0, none⟩), .int .i64 (h : Int), .int .i64 ((c / per : Nat) : Int)] (w.drewN i) fun e w' => e = .returned (.int .i64 (fndI (L h) ((c / per : Nat) : Int))) ∧ w.drewN i = w') := fun i => mfind_any (hm.fr0 ((Fr.refl _ _).drewN i)) hd hh (ht.len hh) _
  obtain ⟨wy, wn⟩ := way_found ht hh (b := ((c / per : Nat) : Int))
  have hf : fnd (L h) ((c / per : Nat) : Int) < (L h).length := by
    rcases Nat.lt_or_ge (fnd (L h) ((c / per : Nat) : Int)) (L h).length with h1 | h1
    · exact h1
    · have h2 := wn (by omega)
      rw [wayI_at] at h2
      rw [hasN_none ht.ok h2] at hy; cases hy
  obtain ⟨s, hsk, hw⟩ := wy hf
  rw [wayI_at] at hw
  have hsm := List.mem_of_getElem? hsk
  obtain ⟨s', hs', hreg⟩ := fnd_yes hf
  obtain rfl : s = s' := Option.some.inj (hsk.symm.trans hs')
  have hE : fndI (L h) ((c / per : Nat) : Int) = (fnd (L h) ((c / per : Nat) : Int) : Int) := if_pos hf
  rw [hE] at HF
  have ho := hm.own h hh
  obtain ⟨A, ca, hv, hsl⟩ := ho.row.sl
  have cr := hm.cr hh
  rw [hv] at cr
  obtain ⟨g, rfl, c0, c1, c3⟩ := hsl _ _ hsk
  have hh1 : (h : Int) < (n : Int) := by omega
  obtain ⟨hcd2, _⟩ := ho.cds s hsm
  have hH : s.way = 3 ∨ c ∈ s.cds := by
    unfold hasN at hy
    rw [hw] at hy
    rcases Bool.or_eq_true_iff.1 hy with h1 | h1
    · exact .inl (by simpa using h1)
    · exact .inr (((ht.cds h hh s hsm).2 c).2 ⟨by omega, h1⟩)
  have hlen : s.cds.length ≤ 4194304 := by rw [ht.cnt hh hsm]; exact Nat.le_trans (cntS_le _ _ _ _) hp3
  have HI : Hid (∀ i, Calls Tryd.prog 39 #[cv h s.reg, .int .i64 (c : Int)] (w.drewN i) fun e w' => e = .returned (.bool (decide (c ∈ s.cds))) ∧ w.drewN i = w') := fun i => min_any (own_fr hcd2 (((Fr.refl [] w)).drewN i) (fun _ _ => by simp)) hlen c
  obtain ⟨A3, c4, hv3⟩ := (ho.cds s hsm).form
  rw [hv3] at HI c3
  have HM := hide hm
  have HT := hide ht
  clear hm ht hd wy wn hw hE hv hsl hsk hs' hsm hreg ho hcd2 hv3 hy hlen
  generalize s.cds.length = CL at *
  generalize hB : decide (c ∈ s.cds) = B at *
  have HB := hide hB
  clear hB
  have hf0 : (fnd (L h) ((c / per : Nat) : Int) : Int) < ((L h).length : Int) := by omega
  have hf1 : decide ((fnd (L h) ((c / per : Nat) : Int) : Int) < 0) = false := decide_eq_false (by omega)
  generalize fnd (L h) ((c / per : Nat) : Int) = f at *
  generalize (L h).length = ll at *
  generalize n * per = N at *
  generalize c / per = d at *
  generalize s.way = W at *
  generalize s.reg = G at *
  by_cases hW : W = 3
  · subst hW
    go_enter Tryd.func25, Tryd.ntmps25
    go_wp2_with fail
    go_quiet ((go_at_call 30; exact quiet_left (HR.out _)))
    go_wp2_with (first | (go_at_call 31; refine (HF.out _).mono ?_; rintro e w' ⟨rfl, rfl⟩))
    go_ret2
    exact MUpd.same HM.out HT.out ((Fr.refl _ _).drewN _)
  · have hW3 : ((W : Int) == 3) = false := by rw [beq_eq_false_iff_ne]; omega
    obtain rfl : B = true := by rw [← HB.out]; exact decide_eq_true (hH.resolve_left hW)
    clear hH
    go_enter Tryd.func25, Tryd.ntmps25
    go_wp2_with fail
    go_quiet ((go_at_call 30; exact quiet_left (HR.out _)))
    go_wp2_with (first | (go_at_call 31; refine (HF.out _).mono ?_; rintro e w' ⟨rfl, rfl⟩) | (go_at_call 39; refine (HI.out _).mono ?_; rintro e w' ⟨rfl, rfl⟩))
    go_ret2
    exact MUpd.same HM.out HT.out ((Fr.refl _ _).drewN _)
end
end Go.Proofs.YtkbffmmomoeaiaaDoor
