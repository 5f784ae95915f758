/- Things laid in a heap, as numbers: what each placing and each store keeps. -/
import Derived.Test.YthacgiajnafpgaaGreatDoorQWa
import Derived.Test.YthacgiajnafpgaaGreatDoorQVa
import Derived.Test.YthacgiajnafpgaaGreatDoorQWb
import Derived.Test.YthacgiajnafpgaaGreatDoorQVt
import Derived.Deep.RegionHeld3
import Derived.Deep.CutRange
namespace Go.Proofs.YthacgiajnafpgaaGreatDoor
set_option linter.unusedVariables false
set_option linter.unusedSimpArgs false
set_option maxRecDepth 100000
open Go.RowKit Go.Gl

theorem isRow_at {f f' : Nat → Nat} {b : Nat} : ∀ {l : List Int} {a : Nat}, (∀ x, x ∈ l → f' x.toNat = f x.toNat) → IsRow f a l b → IsRow f' a l b := by
  intro l
  induction l with
  | nil => intro a _ h; exact h
  | cons x l ih =>
    intro a hf h
    unfold IsRow at h ⊢
    obtain ⟨hx, s, h1, h2, h3, h4, h5⟩ := h
    have e : f' a = f a := by
      have := hf x (by simp)
      rw [hx] at this
      simpa using this
    refine ⟨hx, s, h1, ?_, ?_, h4, ih (fun y hy => hf y (by simp [hy])) h5⟩
    · rw [e]; exact h2
    · rw [e]; exact h3
/-- The things of a region. -/
def rowsOf (A : Nat → Nat) (W k r : Nat) : List Nat := (List.range k).filter fun i => A i / W == r
def setA (A : Nat → Nat) (k a : Nat) : Nat → Nat := fun i => if i = k then a else A i
def set2 (f : Nat → Nat → Nat) (i m v : Nat) : Nat → Nat → Nat := fun a b => if a = i ∧ b = m then v else f a b
theorem rowsOf_mem {A : Nat → Nat} {W k r i : Nat} : i ∈ rowsOf A W k r ↔ i < k ∧ A i / W = r := by
  unfold rowsOf
  simp
theorem rowsOf_set {A : Nat → Nat} {W k r a : Nat} : rowsOf (setA A k a) W (k + 1) r = rowsOf A W k r ++ (if a / W = r then [k] else []) := by
  unfold rowsOf
  rw [List.range_succ, List.filter_append]
  congr 1
  · refine List.filter_congr fun i hi => ?_
    have : i ≠ k := by have := List.mem_range.1 hi; omega
    simp [setA, this]
  · by_cases e : a / W = r
    · rw [if_pos e]; simp [setA, e]
    · rw [if_neg e]; simp [setA, e]
/-- A thing of z words in a region of state y is given the words from a on. -/
structure Placed (h : HS) (s1 t1 : Nat → Int) (a z : Nat) (y : Int) : Prop where
  fit : a + z ≤ h.n
  new : ∀ u, a ≤ u → u < a + z → h.t (u / h.W) ≤ (u : Int) ∧ (u : Int) < t1 (u / h.W)
  mono : ∀ r, r < h.R → h.t r ≤ t1 r
  st : s1 (a / h.W) = y
  kept : ∀ r, r < h.R → r ≠ a / h.W → h.s r ≠ 0 → s1 r = h.s r ∧ t1 r = h.t r
  free : ∀ r, r < h.R → r ≠ a / h.W → h.s r = 0 → (s1 r = 0 ∧ t1 r = h.t r) ∨ s1 r = 5
  ways : (y ≠ 4 ∧ (h.s (a / h.W) = y ∨ h.s (a / h.W) = 0) ∧ h.t (a / h.W) = (a : Int) ∧ t1 (a / h.W) = ((a + z : Nat) : Int)) ∨
    (y = 4 ∧ h.s (a / h.W) = 0 ∧ a = a / h.W * h.W ∧ ∀ q, 1 ≤ q → q * h.W < z → a / h.W + q < h.R ∧ s1 (a / h.W + q) = 5)
/-- The first k things of a plan lie at A: their references' words are w, their data's d. -/
structure Lay (p : Pl) (A : Nat → Nat) (k : Nat) (w d : Nat → Nat → Nat) (h : HS) : Prop where
  bx : h.bx = fun _ => 0
  be : h.be = fun _ => 0
  W1 : 1 ≤ h.W
  nn : h.n = h.R * h.W
  tok : ∀ r, r < h.R → ((r * h.W : Nat) : Int) ≤ h.t r ∧ h.t r ≤ ((r * h.W + h.W : Nat) : Int)
  free : ∀ r, r < h.R → h.s r = 0 → h.t r = ((r * h.W : Nat) : Int)
  y : ∀ i, i < k → 1 ≤ (p.T i).st ∧ (p.T i).st ≤ 4
  st : ∀ i, i < k → h.s (A i / h.W) = (p.T i).st
  row : ∀ r, r < h.R → (h.s r = 1 ∨ h.s r = 2 ∨ h.s r = 3) → IsRow h.f (r * h.W) ((rowsOf A h.W k r).map fun i => (A i : Int)) (h.t r).toNat
  big : ∀ i, i < k → (p.T i).st = 4 → A i = A i / h.W * h.W ∧ ∀ q, 1 ≤ q → q * h.W < (p.T i).sz → A i / h.W + q < h.R ∧ h.s (A i / h.W + q) = 5
  hum : ∀ r, r < h.R → h.s r = 4 → ∃ i, i < k ∧ A i = r * h.W ∧ (p.T i).st = 4
  top : ∀ i, i < k → ∀ u, A i ≤ u → u < A i + (p.T i).sz → u < h.n ∧ (u : Int) < h.t (u / h.W)
  dis : ∀ i j, i < k → j < k → ∀ u, A i ≤ u → u < A i + (p.T i).sz → A j ≤ u → u < A j + (p.T j).sz → i = j
  zm : ∀ i, i < k → (p.T i).sz ≤ 1048576
  hdr : ∀ i, i < k → h.f (A i) = objW (p.T i).sz (p.T i).rf.length
  ref : ∀ i, i < k → ∀ j, j < (p.T i).rf.length → h.f (A i + 1 + j) = w i j
  dat : ∀ i, i < k → ∀ j, j < (p.T i).dt.length → h.f (A i + 1 + (p.T i).rf.length + j) = d i j
section
variable {p : Pl} {A : Nat → Nat} {k : Nat} {w d : Nat → Nat → Nat} {h : HS} {s1 t1 : Nat → Int} {a : Nat} {y : Int}
theorem div_in {u r W : Nat} (hW : 1 ≤ W) (h1 : r * W ≤ u) (h2 : u < r * W + W) : u / W = r := by
  rw [Nat.div_eq_iff (by omega)]
  constructor
  · exact h1
  · have : r * W + W - 1 + 1 = r * W + W := by omega
    omega
theorem Lay.rlt (l : Lay p A k w d h) {u : Nat} (hu : u < h.n) : u / h.W < h.R := by
  rw [Nat.div_lt_iff_lt_mul l.W1, ← l.nn]
  exact hu
theorem sz_pos (t : PT) : 1 ≤ t.sz := by unfold PT.sz; omega
theorem Lay.alt (l : Lay p A k w d h) {i : Nat} (hi : i < k) : A i < h.n := (l.top i hi (A i) (Nat.le_refl _) (by have := sz_pos (p.T i); omega)).1
theorem Lay.add (l : Lay p A k w d h) {z : Nat} (hz : (p.T k).sz = z) (hzm : z ≤ 1048576) (hy : (p.T k).st = y) (hy1 : 1 ≤ y ∧ y ≤ 4) (P : Placed h s1 t1 a z y)
    (htok : ∀ r, r < h.R → ((r * h.W : Nat) : Int) ≤ t1 r ∧ t1 r ≤ ((r * h.W + h.W : Nat) : Int)) :
    Lay p (setA A k a) (k + 1) (fun i j => if i = k then 0 else w i j) (fun i j => if i = k then 0 else d i j) { h with s := s1, t := t1, f := upd (updRow h.f a z (fun _ => 0)) a (objW z (p.T k).rf.length) } := by
  have hz1 : 1 ≤ z := by rw [← hz]; exact sz_pos _
  have eA : ∀ i, i < k → setA A k a i = A i := fun i hi => by unfold setA; rw [if_neg (by omega)]
  have eK : setA A k a k = a := by unfold setA; rw [if_pos rfl]
  have hW := l.W1
  have hr0 : a / h.W < h.R := l.rlt (by have := P.fit; omega)
  -- a word of an older thing is none of the new one's
  have far : ∀ i, i < k → ∀ u, A i ≤ u → u < A i + (p.T i).sz → ¬ (a ≤ u ∧ u < a + z) := fun i hi u h1 h2 hu => by
    have := (l.top i hi u h1 h2).2
    have := (P.new u hu.1 hu.2).1
    omega
  have hf : ∀ u, ¬ (a ≤ u ∧ u < a + z) → upd (updRow h.f a z (fun _ => 0)) a (objW z (p.T k).rf.length) u = h.f u := fun u hu => by
    unfold upd updRow
    rw [if_neg (by omega), if_neg (by omega)]
  have old : ∀ i, i < k → ∀ u, A i ≤ u → u < A i + (p.T i).sz → upd (updRow h.f a z (fun _ => 0)) a (objW z (p.T k).rf.length) u = h.f u := fun i hi u h1 h2 => hf u (far i hi u h1 h2)
  refine ⟨l.bx, l.be, l.W1, l.nn, htok, ?_, ?_, ?_, ?_, ?_, ?_, ?_, ?_, ?_, ?_, ?_, ?_⟩
  · intro r hr hs
    have hs : s1 r = 0 := hs
    show t1 r = _
    by_cases e : r = a / h.W
    · subst e; rw [P.st] at hs; omega
    · by_cases e0 : h.s r = 0
      · rcases P.free r hr e e0 with ⟨_, h2⟩ | h2
        · rw [h2]; exact l.free r hr e0
        · omega
      · have := (P.kept r hr e e0).1; omega
  · intro i hi
    by_cases e : i = k
    · subst e; rw [hy]; exact hy1
    · exact l.y i (by omega)
  · intro i hi
    show s1 (setA A k a i / h.W) = _
    by_cases e : i = k
    · subst e; rw [eK, hy]; exact P.st
    · have hik : i < k := by omega
      rw [eA i hik]
      have h1 := l.st i hik
      have h2 := l.y i hik
      by_cases e0 : A i / h.W = a / h.W
      · rw [e0] at h1 ⊢
        rw [P.st]
        rcases P.ways with ⟨_, h3, _⟩ | ⟨_, h3, _⟩ <;> omega
      · rw [(P.kept _ (l.rlt (l.alt hik)) e0 (by omega)).1]; exact h1
  · intro r hr hs
    have hs : s1 r = 1 ∨ s1 r = 2 ∨ s1 r = 3 := hs
    show IsRow _ (r * h.W) ((rowsOf (setA A k a) h.W (k + 1) r).map fun i => ((setA A k a i : Nat) : Int)) (t1 r).toNat
    have em : (rowsOf A h.W k r).map (fun i => ((setA A k a i : Nat) : Int)) = (rowsOf A h.W k r).map fun i => (A i : Int) :=
      List.map_congr_left fun i hi => by rw [eA i (rowsOf_mem.1 hi).1]
    have hx : ∀ x, x ∈ ((rowsOf A h.W k r).map fun i => (A i : Int)) → upd (updRow h.f a z (fun _ => 0)) a (objW z (p.T k).rf.length) x.toNat = h.f x.toNat := fun x hx => by
      obtain ⟨i, hi, rfl⟩ := List.mem_map.1 hx
      have hik := (rowsOf_mem.1 hi).1
      exact old i hik _ (by simp) (by have := sz_pos (p.T i); simp; omega)
    rw [rowsOf_set, List.map_append, em]
    by_cases e : r = a / h.W
    · subst e
      rw [if_pos rfl]
      rw [P.st] at hs
      rcases P.ways with ⟨_, h3, h4, h5⟩ | ⟨h3, _⟩
      · rw [h5]
        have hb : IsRow (upd (updRow h.f a z (fun _ => 0)) a (objW z (p.T k).rf.length)) (a / h.W * h.W) ((rowsOf A h.W k (a / h.W)).map fun i => (A i : Int)) a := by
          refine isRow_at hx ?_
          rcases h3 with h3 | h3
          · have := l.row _ hr (by rw [h3]; exact hs)
            rw [h4] at this
            simpa using this
          · have e0 : rowsOf A h.W k (a / h.W) = [] := by
              refine List.eq_nil_iff_forall_not_mem.2 fun i hi => ?_
              obtain ⟨h6, h7⟩ := rowsOf_mem.1 hi
              have := l.st i h6
              have := l.y i h6
              rw [h7] at *
              omega
            rw [e0]
            have := l.free _ hr h3
            show a / h.W * h.W = a
            omega
        have of := of_objW (s := z) (p := (p.T k).rf.length) ⟨hz1, hzm⟩ (by rw [← hz]; unfold PT.sz; omega)
        have e1 : upd (updRow h.f a z (fun _ => 0)) a (objW z (p.T k).rf.length) a = objW z (p.T k).rf.length := by unfold upd; rw [if_pos rfl]
        have := hb.snoc (s := z) hz1 (by rw [e1, of]; rfl) (by rw [e1, of]; exact .inl rfl)
        have et : (((a + z : Nat) : Int)).toNat = a + z := Int.toNat_natCast _
        rw [et]
        simpa [eK] using this
      · omega
    · rw [if_neg (fun h => e h.symm), List.map_nil, List.append_nil]
      by_cases e0 : h.s r = 0
      · rcases P.free r hr e e0 with ⟨h2, _⟩ | h2 <;> omega
      · obtain ⟨h2, h3⟩ := P.kept r hr e e0
        rw [h3]
        exact isRow_at hx (l.row r hr (by rw [← h2]; exact hs))
  · intro i hi h4
    show setA A k a i = setA A k a i / h.W * h.W ∧ ∀ q, 1 ≤ q → q * h.W < (p.T i).sz → setA A k a i / h.W + q < h.R ∧ s1 (setA A k a i / h.W + q) = 5
    by_cases e : i = k
    · subst e
      rw [eK]
      rcases P.ways with ⟨h3, _⟩ | ⟨_, _, h5, h6⟩
      · exact absurd (hy.symm.trans h4) h3
      · refine ⟨h5, fun q h7 h8 => h6 q h7 (by rwa [hz] at h8)⟩
    · have hik : i < k := by omega
      rw [eA i hik]
      obtain ⟨h5, h6⟩ := l.big i hik h4
      refine ⟨h5, fun q h7 h8 => ?_⟩
      obtain ⟨h9, h10⟩ := h6 q h7 h8
      refine ⟨h9, ?_⟩
      have hne : A i / h.W + q ≠ a / h.W := fun e => by
        rw [e] at h10
        rcases P.ways with ⟨_, h3, _⟩ | ⟨_, h3, _⟩ <;> omega
      rw [(P.kept _ h9 hne (by omega)).1]
      exact h10
  · intro r hr h4
    have h4 : s1 r = 4 := h4
    by_cases e : r = a / h.W
    · subst e
      rw [P.st] at h4
      rcases P.ways with ⟨h3, _⟩ | ⟨_, _, h5, _⟩
      · exact absurd h4 h3
      · exact ⟨k, by omega, by rw [eK]; exact h5, hy.trans h4⟩
    · by_cases e0 : h.s r = 0
      · rcases P.free r hr e e0 with ⟨h2, _⟩ | h2 <;> omega
      · obtain ⟨i, h1, h2, h3⟩ := l.hum r hr ((P.kept r hr e e0).1.symm.trans h4)
        exact ⟨i, by omega, by rw [eA i h1]; exact h2, h3⟩
  · intro i hi u h1 h2
    show u < h.n ∧ (u : Int) < t1 (u / h.W)
    by_cases e : i = k
    · subst e
      rw [eK] at h1 h2
      rw [hz] at h2
      exact ⟨by have := P.fit; omega, (P.new u h1 h2).2⟩
    · have hik : i < k := by omega
      rw [eA i hik] at h1 h2
      obtain ⟨h3, h4⟩ := l.top i hik u h1 h2
      exact ⟨h3, Int.lt_of_lt_of_le h4 (P.mono _ (l.rlt h3))⟩
  · intro i j hi hj u h1 h2 h3 h4
    by_cases e : i = k
    · by_cases e' : j = k
      · omega
      · have hjk : j < k := by omega
        subst e
        rw [eK] at h1 h2
        rw [eA j hjk] at h3 h4
        exact absurd ⟨h1, by omega⟩ (far j hjk u h3 h4)
    · have hik : i < k := by omega
      rw [eA i hik] at h1 h2
      by_cases e' : j = k
      · subst e'
        rw [eK] at h3 h4
        exact absurd ⟨h3, by omega⟩ (far i hik u h1 h2)
      · have hjk : j < k := by omega
        rw [eA j hjk] at h3 h4
        exact l.dis i j hik hjk u h1 h2 h3 h4
  · intro i hi
    by_cases e : i = k
    · subst e; omega
    · exact l.zm i (by omega)
  · intro i hi
    show upd _ _ _ (setA A k a i) = _
    by_cases e : i = k
    · subst e
      rw [eK, hz]
      unfold upd
      rw [if_pos rfl]
    · have hik : i < k := by omega
      rw [eA i hik, old i hik _ (Nat.le_refl _) (by have := sz_pos (p.T i); omega)]
      exact l.hdr i hik
  · intro i hi j hj
    show upd _ _ _ (setA A k a i + 1 + j) = _
    by_cases e : i = k
    · subst e
      rw [eK, if_pos rfl]
      have : 1 + (p.T i).rf.length + (p.T i).dt.length = z := hz
      unfold upd updRow
      rw [if_neg (by omega), if_pos (by omega)]
    · have hik : i < k := by omega
      have : (p.T i).sz = 1 + (p.T i).rf.length + (p.T i).dt.length := rfl
      rw [eA i hik, if_neg e, old i hik _ (by omega) (by omega)]
      exact l.ref i hik j hj
  · intro i hi j hj
    show upd _ _ _ (setA A k a i + 1 + (p.T i).rf.length + j) = _
    by_cases e : i = k
    · subst e
      rw [eK, if_pos rfl]
      have : 1 + (p.T i).rf.length + (p.T i).dt.length = z := hz
      unfold upd updRow
      rw [if_neg (by omega), if_pos (by omega)]
    · have hik : i < k := by omega
      have : (p.T i).sz = 1 + (p.T i).rf.length + (p.T i).dt.length := rfl
      rw [eA i hik, if_neg e, old i hik _ (by omega) (by omega)]
      exact l.dat i hik j hj
/-- One word of a thing is stored. -/
theorem Lay.word (l : Lay p A k w d h) {i m v : Nat} (hi : i < k) (hm : 1 + m < (p.T i).sz) :
    Lay p A k (fun a b => if a = i ∧ b = m then v else w a b) (fun a b => if a = i ∧ (p.T i).rf.length + b = m then v else d a b) { h with f := upd h.f (A i + 1 + m) v } := by
  have hne : ∀ j, j < k → ∀ u, A j ≤ u → u < A j + (p.T j).sz → (j ≠ i ∨ u ≠ A i + 1 + m) → upd h.f (A i + 1 + m) v u = h.f u := fun j hj u h1 h2 h3 => by
    unfold upd
    rw [if_neg]
    intro e
    rcases h3 with h3 | h3
    · exact h3 (l.dis j i hj hi u h1 h2 (by omega) (by omega))
    · exact h3 e
  have hsz : ∀ j, (p.T j).sz = 1 + (p.T j).rf.length + (p.T j).dt.length := fun _ => rfl
  refine ⟨l.bx, l.be, l.W1, l.nn, l.tok, l.free, l.y, l.st, fun r hr hs => isRow_at (fun x hx => ?_) (l.row r hr hs), l.big, l.hum, l.top, l.dis, l.zm, fun j hj => ?_, fun j hj b hb => ?_, fun j hj b hb => ?_⟩
  · obtain ⟨j, hj, rfl⟩ := List.mem_map.1 hx
    have hjk := (rowsOf_mem.1 hj).1
    have := sz_pos (p.T j)
    refine hne j hjk _ (by simp) (by simp; omega) ?_
    by_cases e : j = i
    · subst e; right; simp; omega
    · exact .inl e
  · have := sz_pos (p.T j)
    refine (hne j hj _ (Nat.le_refl _) (by omega) ?_).trans (l.hdr j hj)
    by_cases e : j = i
    · subst e; right; omega
    · exact .inl e
  · show upd h.f (A i + 1 + m) v (A j + 1 + b) = _
    have := hsz j
    by_cases e : j = i ∧ b = m
    · obtain ⟨rfl, rfl⟩ := e
      rw [if_pos ⟨rfl, rfl⟩]
      unfold upd
      rw [if_pos rfl]
    · rw [if_neg e, hne j hj _ (by omega) (by omega)]
      · exact l.ref j hj b hb
      · by_cases e2 : j = i
        · subst e2; right; omega
        · exact .inl e2
  · show upd h.f (A i + 1 + m) v (A j + 1 + (p.T j).rf.length + b) = _
    have := hsz j
    by_cases e : j = i ∧ (p.T i).rf.length + b = m
    · obtain ⟨rfl, rfl⟩ := e
      rw [if_pos ⟨rfl, rfl⟩]
      unfold upd
      rw [if_pos (by omega)]
    · rw [if_neg e, hne j hj _ (by omega) (by omega)]
      · exact l.dat j hj b hb
      · by_cases e2 : j = i
        · subst e2; right; omega
        · exact .inl e2
theorem Lay.same {w' d' : Nat → Nat → Nat} (l : Lay p A k w d h) (hw : ∀ i, i < k → ∀ j, j < (p.T i).rf.length → w i j = w' i j) (hd : ∀ i, i < k → ∀ j, j < (p.T i).dt.length → d i j = d' i j) : Lay p A k w' d' h :=
  ⟨l.bx, l.be, l.W1, l.nn, l.tok, l.free, l.y, l.st, l.row, l.big, l.hum, l.top, l.dis, l.zm, l.hdr, fun i hi j hj => (l.ref i hi j hj).trans (hw i hi j hj), fun i hi j hj => (l.dat i hi j hj).trans (hd i hi j hj)⟩
end
end Go.Proofs.YthacgiajnafpgaaGreatDoor
/- The whole heap beside blocks of one's own; gleanerlaw14.room. -/
namespace Go.Proofs.YthacgiajnafpgaaGreatDoor
set_option linter.unusedVariables false
set_option linter.unusedSimpArgs false
set_option maxRecDepth 100000
open Go.RowKit Go.Gl

abbrev Blks := List (Nat × TypeId × Array Value)
/-- The heap, all of it new since W, and blocks that it does not own, new since W too. -/
def HE (W w : World) (L : HL) (X : HX) (h : HS) (x : HT) (s k : Nat) (E : Blks) : Prop :=
  ∃ own, HpAt W w L X own h x s k ∧ ∀ q, q ∈ E → Blk w q.1 q.2.1 q.2.2 ∧ own q.1 = 0 ∧ W.heap.size ≤ q.1
section
variable {W w w' : World} {L : HL} {X : HX} {h h' : HS} {x x' : HT} {s k : Nat} {E : Blks}
theorem HE.fr0 (H : HE W w L X h x s k E) (hf : Fr [] w w') : HE W w' L X h x s k E := by
  obtain ⟨own, h1, h2⟩ := H
  exact ⟨own, h1.fr0 hf, fun q hq => ⟨(h2 q hq).1.fr hf (by simp), (h2 q hq).2⟩⟩
theorem HE.blk (H : HE W w L X h x s k E) {b : Nat} {t : TypeId} {cs : Array Value} (hq : (b, t, cs) ∈ E) : Blk w b t cs := by
  obtain ⟨own, h1, h2⟩ := H
  exact (h2 _ hq).1
theorem HE.sub {E' : Blks} (H : HE W w L X h x s k E) (hs : ∀ q, q ∈ E' → q ∈ E) : HE W w L X h x s k E' := by
  obtain ⟨own, h1, h2⟩ := H
  exact ⟨own, h1, fun q hq => h2 q (hs q hq)⟩
theorem HE.fr (H : HE W w L X h x s k E) : Fr [] W w := by
  obtain ⟨own, h1, h2⟩ := H
  exact h1.fr
theorem HE.hr (H : HE W w L X h x s k E) : Hr w L h s k := by
  obtain ⟨own, h1, h2⟩ := H
  exact h1.hr
theorem HE.new (H : HE W w L X h x s k E) (hf : Fr [] w w') {b : Nat} {t : TypeId} {cs : Array Value} (hb : Blk w' b t cs) (hb2 : w.heap.size ≤ b) : HE W w' L X h x s k ((b, t, cs) :: E) := by
  obtain ⟨own, h1, h2⟩ := H
  have hsz := h1.fr.size
  have h0 : own b = 0 := by
    obtain ⟨tg, FS, H, _⟩ := h1
    by_cases e : own b = 0
    · exact e
    · have := H.lt b e; omega
  refine ⟨own, h1.fr0 hf, fun q hq => ?_⟩
  rcases List.mem_cons.1 hq with rfl | hq
  · exact ⟨hb, h0, by show W.heap.size ≤ b; omega⟩
  · exact ⟨(h2 q hq).1.fr hf (by simp), (h2 q hq).2⟩
theorem HE.alloc (H : HE W w L X h x s k E) (t : TypeId) (cs : Array Value) : HE W (w.alloc (.cells cs t)) L X h x s k ((w.heap.size, t, cs) :: E) :=
  H.new ((Fr.refl _ _).alloc _) (Blk.new _ _ _) (Nat.le_refl _)
/-- A block beside the heap has turned. -/
theorem HE.turn (hT : Tab W) {b : Nat} {t : TypeId} {cs cs' : Array Value} (H : HE W w L X h x s k ((b, t, cs) :: E)) (hf : Fr [b] w w') (hb : Blk w' b t cs') (hne : ∀ q, q ∈ E → q.1 ≠ b) : HE W w' L X h x s k ((b, t, cs') :: E) := by
  obtain ⟨own, h1, h2⟩ := H
  obtain ⟨k1, k2, k3⟩ := h2 _ (List.mem_cons_self ..)
  have hlt := hT.lt
  have k3 : W.heap.size ≤ b := k3
  refine ⟨own, h1.other hf (fun y hy => ?_) (by simp; omega), fun q hq => ?_⟩
  · simp at hy; subst hy; exact ⟨k2, k3⟩
  · rcases List.mem_cons.1 hq with rfl | hq
    · exact ⟨hb, k2, k3⟩
    · exact ⟨(h2 q (List.mem_cons_of_mem _ hq)).1.fr hf (by have := hne q hq; simpa using this), (h2 q (List.mem_cons_of_mem _ hq)).2⟩
theorem HE.post {f : FuncId} {args : Array Value} {v : Value} (H : HE W w L X h x s k E) (hc : ∀ own, HpAt W w L X own h x s k → Calls Tryz.prog f args w (HpPost W w L X own h' x' s k v)) :
    Calls Tryz.prog f args w fun e w' => e = .returned v ∧ HE W w' L X h' x' s k E := by
  obtain ⟨own, h1, h2⟩ := H
  refine (hc own h1).mono ?_
  rintro e w' ⟨own', rfl, g1, g2⟩
  refine ⟨rfl, own', g1, fun q hq => ?_⟩
  obtain ⟨k1, k2, k3⟩ := h2 q hq
  obtain ⟨j1, j2⟩ := g2.blk k1 k2
  exact ⟨j1, j2, k3⟩
theorem HE.ok (H : HE W w L X h x s k E) : h.Ok s k := H.hr.ok
theorem HE.size (H : HE W w L X h x s k E) : W.heap.size ≤ w.heap.size := H.fr.size
end
/-- What room looks at. -/
def RmS (L : HL) (h : HS) (bx : Nat) (y : Int) (rA dA : Option Addr) (rn dn rc dc : Nat) (w' : World) : Prop := w'.cell? ⟨L.hb, 14, none⟩ = some (.int .i64 h.g.words) ∧ w'.cell? ⟨L.hb, 15, none⟩ = some (.int .i64 h.g.rw) ∧ w'.cell? ⟨L.hb, 16, none⟩ = some (.int .i64 h.g.cw) ∧ w'.cell? ⟨L.hb, 17, none⟩ = some (.int .i64 h.g.regions) ∧ w'.cell? ⟨L.hb, 18, none⟩ = some (.int .i64 h.g.cards) ∧ w'.cell? ⟨L.hb, 19, none⟩ = some (.int .i64 h.g.max) ∧ w'.cell? ⟨L.hb, 21, none⟩ = some (.pointer (some ⟨L.tb, 0, none⟩)) ∧ w'.cell? ⟨bx, 0, none⟩ = some (.int .i64 y) ∧ w'.cell? ⟨bx, 1, none⟩ = some (.slice rA rn rc) ∧ w'.cell? ⟨bx, 2, none⟩ = some (.slice dA dn dc)
/-- The open regions. -/
def OpenOk (o : Nat → Int) (h : HS) : Prop := ∀ Y, 1 ≤ Y → Y ≤ 3 → o Y = -1 ∨ ∃ r : Nat, r < h.R ∧ o Y = (r : Int) ∧ h.s r = (Y : Int)
def RoomP (W : World) (L : HL) (X : HX) (h : HS) (x : HT) (s k ob z : Nat) (y : Int) (E : Blks) (e : Ending) (w' : World) : Prop :=
  (∃ (a : Nat) (s1 t1 o' : Nat → Int), e = .returned (.tuple #[.int .i64 (a : Int), .bool true]) ∧ Placed h s1 t1 a z y ∧ (∀ q, q < h.R → ((q * h.W : Nat) : Int) ≤ t1 q ∧ t1 q ≤ ((q * h.W + h.W : Nat) : Int)) ∧
    HE W w' L X { h with s := s1, t := t1 } x s k ((ob, 3, rowV .i64 4 o') :: E) ∧ OpenOk o' { h with s := s1, t := t1 }) ∨
  (∃ v h' o', e = .returned (.tuple #[v, .bool false]) ∧ HE W w' L X h' x s k ((ob, 3, rowV .i64 4 o') :: E))
end Go.Proofs.YthacgiajnafpgaaGreatDoor
