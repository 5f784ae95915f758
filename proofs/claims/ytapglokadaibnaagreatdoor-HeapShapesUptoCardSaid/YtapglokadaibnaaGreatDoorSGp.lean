/- The abstract heap: what its operations come to, its shape and its words, as functions. -/
import Derived.Test.YtapglokadaibnaaGreatDoorSRo
namespace Go.Proofs.YtapglokadaibnaaGreatDoor
set_option linter.unusedVariables false
open Go.RowKit Go.Gl

def setF {α β : Type} [DecidableEq α] (f : α → β) (k : α) (v : β) : α → β := fun x => if x = k then v else f x
section
variable {α β : Type} [DecidableEq α]
theorem setF_at (f : α → β) (k : α) (v : β) : setF f k v k = v := by simp [setF]
theorem setF_ne (f : α → β) {k x : α} (v : β) (h : x ≠ k) : setF f k v x = f x := by simp [setF, h]
end
/-- Stacks, how many operations each thread did, how many objects there are (1 to N), and of each its references and data words. -/
structure GS where
  st : Nat → List Int
  done : Nat → Nat
  N : Nat
  np : Int → Nat
  nw : Int → Nat
  ref : Int → Int → Int
  dat : Int → Int → Int
def G0 : GS := ⟨fun _ => [], fun _ => 0, 0, fun _ => 0, fun _ => 0, fun _ _ => 0, fun _ _ => 0⟩
def GS.setSt (σ : GS) (t : Nat) (l : List Int) : GS := { σ with st := setF σ.st t l }
def GS.push (σ : GS) (B t : Nat) (r : Int) : GS := σ.setSt t (hkPush B (σ.st t) r)
def GS.new (σ : GS) (a b : Int) : GS :=
  { σ with N := σ.N + 1, np := setF σ.np ((σ.N : Int) + 1) a.toNat, nw := setF σ.nw ((σ.N : Int) + 1) b.toNat, ref := setF σ.ref ((σ.N : Int) + 1) (fun _ => 0), dat := setF σ.dat ((σ.N : Int) + 1) (fun _ => 0) }
def GS.setRef (σ : GS) (r b y : Int) : GS := { σ with ref := setF σ.ref r (setF (σ.ref r) b y) }
def GS.setDat (σ : GS) (r b v : Int) : GS := { σ with dat := setF σ.dat r (setF (σ.dat r) b v) }
def sizeBad (M : Nat) (a b : Int) : Prop := a < 0 ∨ b < 0 ∨ a + b = 0 ∨ (M : Int) < 1 + a + b
instance (M : Nat) (a b : Int) : Decidable (sizeBad M a b) := by unfold sizeBad; infer_instance
def fieldIn (n : Nat) (b : Int) : Prop := 0 ≤ b ∧ b < (n : Int)
instance (n : Nat) (b : Int) : Decidable (fieldIn n b) := by unfold fieldIn; infer_instance
section
variable (B M T : Nat) (σ : GS) (t : Nat) (a b c v : Int)
def allocE : Int := if sizeBad M a b then 13 else hkPushE B (σ.st t)
def allocS : GS := if sizeBad M a b then σ else if (σ.st t).length < B then (σ.new a b).push B t ((σ.N : Int) + 1) else σ
def objE : Int := if hkIn (σ.st t) a then (if hkAt (σ.st t) a = 0 then 12 else 0) else 10
def loadE : Int := if objE σ t a ≠ 0 then objE σ t a else if fieldIn (σ.np (hkAt (σ.st t) a)) b then hkPushE B (σ.st t) else 11
def loadS : GS := if objE σ t a = 0 ∧ fieldIn (σ.np (hkAt (σ.st t) a)) b then σ.push B t (σ.ref (hkAt (σ.st t) a) b) else σ
def storeE : Int := if hkIn (σ.st t) c then (if objE σ t a ≠ 0 then objE σ t a else if fieldIn (σ.np (hkAt (σ.st t) a)) b then 0 else 11) else 10
def storeS : GS := if storeE σ t a b c = 0 then σ.setRef (hkAt (σ.st t) a) b (hkAt (σ.st t) c) else σ
def wordE : Int := if objE σ t a ≠ 0 then objE σ t a else if fieldIn (σ.nw (hkAt (σ.st t) a)) b then 0 else 11
def readV : Int := if wordE σ t a b = 0 then σ.dat (hkAt (σ.st t) a) b else 0
def writeS : GS := if wordE σ t a b = 0 then σ.setDat (hkAt (σ.st t) a) b v else σ
def popS : GS := σ.setSt t (hkPop (σ.st t))
def dupE : Int := if hkIn (σ.st t) a then hkPushE B (σ.st t) else 10
def dupS : GS := if hkIn (σ.st t) a then σ.push B t (hkAt (σ.st t) a) else σ
def equalE : Int := if hkIn (σ.st t) a then hkAtE (σ.st t) b else 10
def equalV : Bool := decide (hkIn (σ.st t) a ∧ hkIn (σ.st t) b ∧ hkAt (σ.st t) a = hkAt (σ.st t) b)
def isNilV : Bool := decide (hkIn (σ.st t) a ∧ hkAt (σ.st t) a = 0)
def collectE : Int := if 0 ≤ a ∧ a ≤ 3 then 0 else 17
def sendE : Int := if hkIn (σ.st t) a then (if fieldIn T b then hkPushE B (σ.st b.toNat) else 2) else 10
def sendS : GS := if hkIn (σ.st t) a ∧ fieldIn T b then σ.push B b.toNat (hkAt (σ.st t) a) else σ
end
/-- What an operation answers: its code, its word, its bit. -/
structure An where
  code : Int
  word : Int
  bit : Bool
/-- An operation's numbers. -/
structure Po where
  k : Int
  a : Int
  b : Int
  c : Int
  v : Int
def actA (B M T : Nat) (σ : GS) (t : Nat) (o : Po) : An :=
  if o.k = 1 then ⟨allocE B M σ t o.a o.b, 0, false⟩ else if o.k = 2 then ⟨loadE B σ t o.a o.b, 0, false⟩ else if o.k = 3 then ⟨storeE σ t o.a o.b o.c, 0, false⟩
  else if o.k = 4 then ⟨wordE σ t o.a o.b, readV σ t o.a o.b, false⟩ else if o.k = 5 then ⟨wordE σ t o.a o.b, 0, false⟩ else if o.k = 6 then ⟨hkPushE B (σ.st t), 0, false⟩
  else if o.k = 7 then ⟨hkPopE (σ.st t), 0, false⟩ else if o.k = 8 then ⟨dupE B σ t o.a, 0, false⟩ else if o.k = 9 then ⟨equalE σ t o.a o.b, 0, equalV σ t o.a o.b⟩
  else if o.k = 10 then ⟨hkAtE (σ.st t) o.a, 0, isNilV σ t o.a⟩ else if o.k = 11 then ⟨0, 0, false⟩ else if o.k = 12 then ⟨collectE o.a, 0, false⟩
  else if o.k = 13 then ⟨sendE B T σ t o.a o.b, 0, false⟩ else ⟨17, 0, false⟩
def actS (B M T : Nat) (σ : GS) (t : Nat) (o : Po) : GS :=
  if o.k = 1 then allocS B M σ t o.a o.b else if o.k = 2 then loadS B σ t o.a o.b else if o.k = 3 then storeS σ t o.a o.b o.c
  else if o.k = 5 then writeS σ t o.a o.b o.v else if o.k = 6 then σ.push B t 0
  else if o.k = 7 then popS σ t else if o.k = 8 then dupS B σ t o.a else if o.k = 13 then sendS B T σ t o.a o.b else σ
def GS.tick (σ : GS) (t : Nat) : GS := { σ with done := setF σ.done t (σ.done t + 1) }
def ansV (th dn : Int) (x : An) : Value := .agg #[.int .i64 th, .int .i64 dn, .int .i64 x.code, .int .u64 x.word, .bool x.bit]
def doV (B M T : Nat) (σ : GS) (th : Int) (o : Po) : Value := if fieldIn T th then ansV th (σ.done th.toNat : Int) (actA B M T σ th.toNat o) else ansV 0 0 ⟨2, 0, false⟩
def doS (B M T : Nat) (σ : GS) (th : Int) (o : Po) : GS := if fieldIn T th then actS B M T (σ.tick th.toNat) th.toNat o else σ

/-- How many handles an object has. -/
def cntG (st : Nat → List Int) : Nat → Int → Nat
  | 0, _ => 0
  | T + 1, r => cntG st T r + (st T).count r
/-- What the numbers keep to. -/
structure GOk (T B : Nat) (σ : GS) : Prop where
  cap : σ.N ≤ 4096
  len : ∀ t, (σ.st t).length ≤ B
  mem : ∀ t r, r ∈ σ.st t → 0 ≤ r ∧ r ≤ (σ.N : Int)
  ref : ∀ r j, 0 ≤ σ.ref r j ∧ σ.ref r j ≤ (σ.N : Int)
  np : ∀ r, σ.np r ≤ 1048576
  nw : ∀ r, σ.nw r ≤ 1048576
/-- How many objects there may be more, and how great they are. -/
structure Can (M : Nat) (σ : GS) : Prop where
  m : M ≤ 1048576
  n : σ.N + 1 ≤ 4096
/-! The order in which objects are come to. -/
def visit (L : List Int) (r : Int) : List Int := if r = 0 ∨ r ∈ L then L else L ++ [r]
def visits (L : List Int) (l : List Int) : List Int := l.foldl visit L
def num (L : List Int) (r : Int) : Int := if r ∈ L then ((L.idxOf r + 1 : Nat) : Int) else 0
theorem visit_pre (L : List Int) (r : Int) : L <+: visit L r := by
  unfold visit
  split
  · exact List.prefix_refl _
  · exact List.prefix_append _ _
theorem visits_nil (L : List Int) : visits L [] = L := rfl
theorem visits_cons (L : List Int) (a : Int) (l : List Int) : visits L (a :: l) = visits (visit L a) l := rfl
theorem visits_app (L a b : List Int) : visits L (a ++ b) = visits (visits L a) b := List.foldl_append
theorem visits_one (L : List Int) (a : Int) : visits L [a] = visit L a := rfl
theorem visits_pre : ∀ (l L : List Int), L <+: visits L l
  | [], L => List.prefix_refl _
  | a :: l, L => (visit_pre L a).trans (visits_pre l (visit L a))
theorem visit_mem (L : List Int) (r x : Int) : x ∈ visit L r ↔ x ∈ L ∨ (x = r ∧ r ≠ 0) := by
  unfold visit
  split
  · rename_i h
    constructor
    · exact .inl
    · rintro (h1 | ⟨rfl, h1⟩)
      · exact h1
      · rcases h with h | h
        · exact absurd h h1
        · exact h
  · rename_i h
    simp only [List.mem_append, List.mem_singleton]
    constructor
    · rintro (h1 | rfl)
      · exact .inl h1
      · exact .inr ⟨rfl, fun e => h (.inl e)⟩
    · rintro (h1 | ⟨rfl, _⟩)
      · exact .inl h1
      · exact .inr rfl
theorem visits_mem : ∀ (l L : List Int) (x : Int), x ∈ visits L l ↔ x ∈ L ∨ (x ∈ l ∧ x ≠ 0)
  | [], L, x => by simp [visits]
  | a :: l, L, x => by
    rw [visits_cons, visits_mem l, visit_mem]
    simp only [List.mem_cons]
    constructor
    · rintro ((h | ⟨rfl, h⟩) | ⟨h, h'⟩)
      · exact .inl h
      · exact .inr ⟨.inl rfl, h⟩
      · exact .inr ⟨.inr h, h'⟩
    · rintro (h | ⟨rfl | h, h'⟩)
      · exact .inl (.inl h)
      · exact .inl (.inr ⟨rfl, h'⟩)
      · exact .inr ⟨h, h'⟩
theorem visit_nodup {L : List Int} (h : L.Nodup) (r : Int) : (visit L r).Nodup := by
  unfold visit
  split
  · exact h
  · rename_i hr
    rw [List.nodup_append]
    refine ⟨h, by simp, fun a ha b hb => ?_⟩
    simp at hb
    subst hb
    exact fun e => hr (.inr (e ▸ ha))
theorem visits_nodup : ∀ (l : List Int) {L : List Int}, L.Nodup → (visits L l).Nodup
  | [], L, h => h
  | a :: l, L, h => visits_nodup l (visit_nodup h a)
theorem num_pre {L O : List Int} (h : L <+: O) (h0 : (0 : Int) ∉ O) {r : Int} (hr : r = 0 ∨ r ∈ L) : num L r = num O r := by
  obtain ⟨k, rfl⟩ := h
  rcases hr with rfl | hr
  · unfold num
    rw [if_neg (fun h => h0 (List.mem_append_left _ h)), if_neg h0]
  · unfold num
    rw [if_pos hr, if_pos (List.mem_append_left _ hr), List.idxOf_append, if_pos hr]
theorem num_last {L : List Int} {r : Int} (h : r ∉ L) : num (L ++ [r]) r = ((L.length + 1 : Nat) : Int) := by
  unfold num
  rw [if_pos (by simp), List.idxOf_append, if_neg h]
  simp
theorem num_bounds (L : List Int) (r : Int) : 0 ≤ num L r ∧ num L r ≤ (L.length : Int) := by
  unfold num
  split
  · rename_i h
    have := List.idxOf_lt_length_of_mem h
    omega
  · omega
theorem num_pos {L : List Int} {r : Int} : num L r ≠ 0 ↔ r ∈ L := by
  unfold num
  split
  · rename_i h
    exact ⟨fun _ => h, fun _ => by omega⟩
  · rename_i h
    exact ⟨fun e => absurd rfl e, fun e => absurd e h⟩
def kids (σ : GS) (r : Int) : List Int := (List.range (σ.np r)).map fun (j : Nat) => σ.ref r (j : Int)
theorem kids_len (σ : GS) (r : Int) : (kids σ r).length = σ.np r := by simp [kids]
theorem kids_get (σ : GS) (r : Int) {j : Nat} (h : j < σ.np r) : (kids σ r).getD j 0 = σ.ref r (j : Int) := by simp [kids, h]
def rootsOf (σ : GS) (T : Nat) : List Int := (List.range T).flatMap σ.st
theorem rootsOf_succ (σ : GS) (T : Nat) : rootsOf σ (T + 1) = rootsOf σ T ++ σ.st T := by
  unfold rootsOf
  rw [List.range_succ, List.flatMap_append]
  simp
def bfs (σ : GS) (T : Nat) : Nat → List Int
  | 0 => visits [] (rootsOf σ T)
  | n + 1 => match (bfs σ T n)[n]? with
    | some r => visits (bfs σ T n) (kids σ r)
    | none => bfs σ T n
def order (σ : GS) (T : Nat) : List Int := bfs σ T σ.N
theorem bfs_step (σ : GS) (T : Nat) {n : Nat} {r : Int} (h : (bfs σ T n)[n]? = some r) : bfs σ T (n + 1) = visits (bfs σ T n) (kids σ r) := by
  show (match (bfs σ T n)[n]? with | some r => visits (bfs σ T n) (kids σ r) | none => bfs σ T n) = _
  rw [h]
theorem bfs_stay (σ : GS) (T : Nat) {n : Nat} (h : (bfs σ T n).length ≤ n) : bfs σ T (n + 1) = bfs σ T n := by
  show (match (bfs σ T n)[n]? with | some r => visits (bfs σ T n) (kids σ r) | none => bfs σ T n) = _
  rw [List.getElem?_eq_none h]
theorem bfs_succ_pre (σ : GS) (T n : Nat) : bfs σ T n <+: bfs σ T (n + 1) := by
  rcases Nat.lt_or_ge n (bfs σ T n).length with h | h
  · rw [bfs_step σ T (List.getElem?_eq_getElem h)]
    exact visits_pre _ _
  · rw [bfs_stay σ T h]
    exact List.prefix_refl _
theorem bfs_pre (σ : GS) (T : Nat) {m n : Nat} (h : m ≤ n) : bfs σ T m <+: bfs σ T n := by
  induction n with
  | zero => obtain rfl : m = 0 := by omega
            exact List.prefix_refl _
  | succ n ih =>
    rcases Nat.eq_or_lt_of_le h with rfl | h
    · exact List.prefix_refl _
    · exact (ih (by omega)).trans (bfs_succ_pre σ T n)
theorem bfs_still (σ : GS) (T : Nat) {m n : Nat} (h : m ≤ n) (hl : (bfs σ T m).length ≤ m) : bfs σ T n = bfs σ T m := by
  induction n with
  | zero => obtain rfl : m = 0 := by omega
            rfl
  | succ n ih =>
    rcases Nat.eq_or_lt_of_le h with rfl | h
    · rfl
    · have e := ih (by omega)
      rw [bfs_stay σ T (by rw [e]; omega), e]
theorem bfs_nodup (σ : GS) (T : Nat) : ∀ n, (bfs σ T n).Nodup
  | 0 => visits_nodup _ List.nodup_nil
  | n + 1 => by
    rcases Nat.lt_or_ge n (bfs σ T n).length with h | h
    · rw [bfs_step σ T (List.getElem?_eq_getElem h)]
      exact visits_nodup _ (bfs_nodup σ T n)
    · rw [bfs_stay σ T h]
      exact bfs_nodup σ T n
theorem rootsOf_mem {σ : GS} {T : Nat} {r : Int} : r ∈ rootsOf σ T ↔ ∃ t, t < T ∧ r ∈ σ.st t := by simp [rootsOf]
theorem kids_mem {σ : GS} {r x : Int} : x ∈ kids σ r ↔ ∃ j, j < σ.np r ∧ σ.ref r (j : Int) = x := by simp [kids]
section
variable {T B : Nat} {σ : GS}
theorem bfs_in (ok : GOk T B σ) : ∀ n r, r ∈ bfs σ T n → 1 ≤ r ∧ r ≤ (σ.N : Int)
  | 0, r, h => by
    have h : r ∈ visits [] (rootsOf σ T) := h
    rw [visits_mem] at h
    rcases h with h | ⟨h, h0⟩
    · cases h
    · obtain ⟨t, _, ht⟩ := rootsOf_mem.1 h
      have := ok.mem t r ht
      omega
  | n + 1, r, h => by
    rcases Nat.lt_or_ge n (bfs σ T n).length with hl | hl
    · rw [bfs_step σ T (List.getElem?_eq_getElem hl), visits_mem] at h
      rcases h with h | ⟨h, h0⟩
      · exact bfs_in ok n r h
      · obtain ⟨j, _, rfl⟩ := kids_mem.1 h
        have := ok.ref ((bfs σ T n)[n]'hl) j
        omega
    · rw [bfs_stay σ T hl] at h
      exact bfs_in ok n r h
/-- Numbers from 1 to N, each once, are N at most. -/
theorem nodup_le : ∀ (N : Nat) (L : List Int), L.Nodup → (∀ r, r ∈ L → 1 ≤ r ∧ r ≤ (N : Int)) → L.length ≤ N
  | 0, L, _, h => by
    cases L with
    | nil => exact Nat.le_refl _
    | cons a l => have := h a (by simp); omega
  | N + 1, L, hn, h => by
    have h1 := nodup_le N (L.erase ((N : Int) + 1)) (hn.erase _) (fun r hr => by
      rw [hn.mem_erase_iff] at hr
      have := h r hr.2
      have := hr.1
      omega)
    rw [List.length_erase] at h1
    split at h1 <;> omega
theorem bfs_len (ok : GOk T B σ) (n : Nat) : (bfs σ T n).length ≤ σ.N := nodup_le _ _ (bfs_nodup σ T n) (bfs_in ok n)
theorem bfs_end (ok : GOk T B σ) {n : Nat} (h : (bfs σ T n).length ≤ n) : order σ T = bfs σ T n := by
  rcases Nat.le_total n σ.N with h1 | h1
  · exact bfs_still σ T h1 h
  · exact (bfs_still σ T h1 (bfs_len ok _)).symm
theorem bfs_order (ok : GOk T B σ) (n : Nat) : bfs σ T n <+: order σ T := by
  rcases Nat.le_total n σ.N with h1 | h1
  · exact bfs_pre σ T h1
  · rw [bfs_still σ T h1 (bfs_len ok _)]
    exact List.prefix_refl _
theorem order_in (ok : GOk T B σ) {r : Int} (h : r ∈ order σ T) : 1 ≤ r ∧ r ≤ (σ.N : Int) := bfs_in ok _ r h
theorem order_len (ok : GOk T B σ) : (order σ T).length ≤ σ.N := bfs_len ok _
/-- All that is in the order is in each list that has the handles and what its own lead to. -/
theorem order_least {L : List Int} (h0 : ∀ r, r ∈ rootsOf σ T → r ≠ 0 → r ∈ L) (h1 : ∀ r, r ∈ L → ∀ x, x ∈ kids σ r → x ≠ 0 → x ∈ L) : ∀ n r, r ∈ bfs σ T n → r ∈ L
  | 0, r, h => by
    have h : r ∈ visits [] (rootsOf σ T) := h
    rw [visits_mem] at h
    rcases h with h | ⟨h, h2⟩
    · cases h
    · exact h0 r h h2
  | n + 1, r, h => by
    rcases Nat.lt_or_ge n (bfs σ T n).length with hl | hl
    · rw [bfs_step σ T (List.getElem?_eq_getElem hl), visits_mem] at h
      rcases h with h | ⟨h, h2⟩
      · exact order_least h0 h1 n r h
      · exact h1 _ (order_least h0 h1 n _ (List.getElem_mem hl)) r h h2
    · rw [bfs_stay σ T hl] at h
      exact order_least h0 h1 n r h
end
/-! The shape, the words. -/
def shapeT (σ : GS) (O : List Int) (t : Nat) : List Int := ((σ.st t).length : Int) :: (σ.st t).map (num O)
def datas (σ : GS) (r : Int) : List Int := (List.range (σ.nw r)).map fun (j : Nat) => σ.dat r (j : Int)
def shapeO (σ : GS) (O : List Int) (r : Int) : List Int := [(σ.np r : Int), (σ.nw r : Int)] ++ (kids σ r).map (num O) ++ datas σ r
def shape (σ : GS) (T : Nat) : List Int := (List.range T).flatMap (shapeT σ (order σ T)) ++ (order σ T).flatMap (shapeO σ (order σ T))
def sizeOb (σ : GS) (r : Int) : Nat := 1 + σ.np r + σ.nw r
def words (σ : GS) (T : Nat) : Nat := ((order σ T).map (sizeOb σ)).sum
end Go.Proofs.YtapglokadaibnaaGreatDoor
