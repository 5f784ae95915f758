/- The abstract heap: what its operations come to, its shape and its words, as functions. -/
import Derived.Test.YtkmnbaecohhcaaaGreatDoorRo
namespace Go.Proofs.YtkmnbaecohhcaaaGreatDoor
set_option linter.unusedVariables false
open Go.RowKit Go.Gl

def setF {α β : Type} [DecidableEq α] (f : α → β) (k : α) (v : β) : α → β := fun x => if x = k then v else f x
section
variable {α β : Type} [DecidableEq α]
theorem setF_at (f : α → β) (k : α) (v : β) : setF f k v k = v := by simp [setF]
theorem setF_ne (f : α → β) {k x : α} (v : β) (h : x ≠ k) : setF f k v x = f x := by simp [setF, h]
theorem setF_same (f : α → β) (k : α) : setF f k (f k) = f := by
  funext x
  unfold setF
  split
  · rename_i h; rw [h]
  · rfl
end
/-- Stacks, how many operations each thread did, how many objects there are (1 to N), and of each its references and data words. -/
structure GS where
  st : Nat → List Int
  done : Nat → Nat
  N : Nat
  np : Int → Nat
  nw : Int → Nat
  ref : Int → Int → Int
  dat : Int → Int → Int
def G0 : GS := ⟨fun _ => [], fun _ => 0, 0, fun _ => 0, fun _ => 0, fun _ _ => 0, fun _ _ => 0⟩
def GS.setSt (σ : GS) (t : Nat) (l : List Int) : GS := { σ with st := setF σ.st t l }
def GS.push (σ : GS) (B t : Nat) (r : Int) : GS := σ.setSt t (hkPush B (σ.st t) r)
def GS.new (σ : GS) (a b : Int) : GS :=
  { σ with N := σ.N + 1, np := setF σ.np ((σ.N : Int) + 1) a.toNat, nw := setF σ.nw ((σ.N : Int) + 1) b.toNat, ref := setF σ.ref ((σ.N : Int) + 1) (fun _ => 0), dat := setF σ.dat ((σ.N : Int) + 1) (fun _ => 0) }
def GS.setRef (σ : GS) (r b y : Int) : GS := { σ with ref := setF σ.ref r (setF (σ.ref r) b y) }
def GS.setDat (σ : GS) (r b v : Int) : GS := { σ with dat := setF σ.dat r (setF (σ.dat r) b v) }
def sizeBad (M : Nat) (a b : Int) : Prop := a < 0 ∨ b < 0 ∨ a + b = 0 ∨ (M : Int) < 1 + a + b
instance (M : Nat) (a b : Int) : Decidable (sizeBad M a b) := by unfold sizeBad; infer_instance
def fieldIn (n : Nat) (b : Int) : Prop := 0 ≤ b ∧ b < (n : Int)
instance (n : Nat) (b : Int) : Decidable (fieldIn n b) := by unfold fieldIn; infer_instance
section
variable (B M T : Nat) (σ : GS) (t : Nat) (a b c v : Int)
def allocE : Int := if sizeBad M a b then 13 else hkPushE B (σ.st t)
def allocS : GS := if sizeBad M a b then σ else if (σ.st t).length < B then (σ.new a b).push B t ((σ.N : Int) + 1) else σ
def objE : Int := if hkIn (σ.st t) a then (if hkAt (σ.st t) a = 0 then 12 else 0) else 10
def loadE : Int := if objE σ t a ≠ 0 then objE σ t a else if fieldIn (σ.np (hkAt (σ.st t) a)) b then hkPushE B (σ.st t) else 11
def loadS : GS := if objE σ t a = 0 ∧ fieldIn (σ.np (hkAt (σ.st t) a)) b then σ.push B t (σ.ref (hkAt (σ.st t) a) b) else σ
def storeE : Int := if hkIn (σ.st t) c then (if objE σ t a ≠ 0 then objE σ t a else if fieldIn (σ.np (hkAt (σ.st t) a)) b then 0 else 11) else 10
def storeS : GS := if storeE σ t a b c = 0 then σ.setRef (hkAt (σ.st t) a) b (hkAt (σ.st t) c) else σ
def wordE : Int := if objE σ t a ≠ 0 then objE σ t a else if fieldIn (σ.nw (hkAt (σ.st t) a)) b then 0 else 11
def readV : Int := if wordE σ t a b = 0 then σ.dat (hkAt (σ.st t) a) b else 0
def writeS : GS := if wordE σ t a b = 0 then σ.setDat (hkAt (σ.st t) a) b v else σ
def popS : GS := σ.setSt t (hkPop (σ.st t))
def dupE : Int := if hkIn (σ.st t) a then hkPushE B (σ.st t) else 10
def dupS : GS := if hkIn (σ.st t) a then σ.push B t (hkAt (σ.st t) a) else σ
def equalE : Int := if hkIn (σ.st t) a then hkAtE (σ.st t) b else 10
def equalV : Bool := decide (hkIn (σ.st t) a ∧ hkIn (σ.st t) b ∧ hkAt (σ.st t) a = hkAt (σ.st t) b)
def isNilV : Bool := decide (hkIn (σ.st t) a ∧ hkAt (σ.st t) a = 0)
def collectE : Int := if 0 ≤ a ∧ a ≤ 3 then 0 else 17
def sendE : Int := if hkIn (σ.st t) a then (if fieldIn T b then hkPushE B (σ.st b.toNat) else 2) else 10
def sendS : GS := if hkIn (σ.st t) a ∧ fieldIn T b then σ.push B b.toNat (hkAt (σ.st t) a) else σ
end
/-- What an operation answers: its code, its word, its bit. -/
structure An where
  code : Int
  word : Int
  bit : Bool
/-- An operation's numbers. -/
structure Po where
  k : Int
  a : Int
  b : Int
  c : Int
  v : Int
def actA (B M T : Nat) (σ : GS) (t : Nat) (o : Po) : An :=
  if o.k = 1 then ⟨allocE B M σ t o.a o.b, 0, false⟩ else if o.k = 2 then ⟨loadE B σ t o.a o.b, 0, false⟩ else if o.k = 3 then ⟨storeE σ t o.a o.b o.c, 0, false⟩
  else if o.k = 4 then ⟨wordE σ t o.a o.b, readV σ t o.a o.b, false⟩ else if o.k = 5 then ⟨wordE σ t o.a o.b, 0, false⟩ else if o.k = 6 then ⟨hkPushE B (σ.st t), 0, false⟩
  else if o.k = 7 then ⟨hkPopE (σ.st t), 0, false⟩ else if o.k = 8 then ⟨dupE B σ t o.a, 0, false⟩ else if o.k = 9 then ⟨equalE σ t o.a o.b, 0, equalV σ t o.a o.b⟩
  else if o.k = 10 then ⟨hkAtE (σ.st t) o.a, 0, isNilV σ t o.a⟩ else if o.k = 11 then ⟨0, 0, false⟩ else if o.k = 12 then ⟨collectE o.a, 0, false⟩
  else if o.k = 13 then ⟨sendE B T σ t o.a o.b, 0, false⟩ else ⟨17, 0, false⟩
def actS (B M T : Nat) (σ : GS) (t : Nat) (o : Po) : GS :=
  if o.k = 1 then allocS B M σ t o.a o.b else if o.k = 2 then loadS B σ t o.a o.b else if o.k = 3 then storeS σ t o.a o.b o.c
  else if o.k = 5 then writeS σ t o.a o.b o.v else if o.k = 6 then σ.push B t 0
  else if o.k = 7 then popS σ t else if o.k = 8 then dupS B σ t o.a else if o.k = 13 then sendS B T σ t o.a o.b else σ
def GS.tick (σ : GS) (t : Nat) : GS := { σ with done := setF σ.done t (σ.done t + 1) }
def ansV (th dn : Int) (x : An) : Value := .agg #[.int .i64 th, .int .i64 dn, .int .i64 x.code, .int .u64 x.word, .bool x.bit]
def doV (B M T : Nat) (σ : GS) (th : Int) (o : Po) : Value := if fieldIn T th then ansV th (σ.done th.toNat : Int) (actA B M T σ th.toNat o) else ansV 0 0 ⟨2, 0, false⟩
def doS (B M T : Nat) (σ : GS) (th : Int) (o : Po) : GS := if fieldIn T th then actS B M T (σ.tick th.toNat) th.toNat o else σ

/-- How many handles an object has. -/
def cntG (st : Nat → List Int) : Nat → Int → Nat
  | 0, _ => 0
  | T + 1, r => cntG st T r + (st T).count r
theorem cnt_setF (st : Nat → List Int) (t : Nat) (l : List Int) (r : Int) : ∀ T, (t < T → cntG (setF st t l) T r + (st t).count r = cntG st T r + l.count r) ∧ (T ≤ t → cntG (setF st t l) T r = cntG st T r)
  | 0 => ⟨fun h => absurd h (by omega), fun _ => rfl⟩
  | T + 1 => by
    obtain ⟨h1, h2⟩ := cnt_setF st t l r T
    constructor
    · intro h
      simp only [cntG]
      by_cases e : t = T
      · subst e
        rw [h2 (Nat.le_refl _), setF_at]
        omega
      · have := h1 (by omega)
        rw [setF_ne _ _ (fun e' => e e'.symm)]
        omega
    · intro h
      simp only [cntG]
      rw [h2 (by omega), setF_ne _ _ (by omega)]
theorem cnt_mem {st : Nat → List Int} {t : Nat} {r : Int} : ∀ {T}, t < T → r ∈ st t → 0 < cntG st T r
  | T + 1, h, hm => by
    simp only [cntG]
    by_cases e : t = T
    · subst e
      have := List.count_pos_iff.2 hm
      omega
    · have := cnt_mem (T := T) (by omega) hm
      omega
theorem mem_cnt {st : Nat → List Int} {r : Int} : ∀ {T}, 0 < cntG st T r → ∃ t, t < T ∧ r ∈ st t
  | 0, h => absurd h (by simp [cntG])
  | T + 1, h => by
    simp only [cntG] at h
    by_cases e : 0 < (st T).count r
    · exact ⟨T, by omega, List.count_pos_iff.1 e⟩
    · obtain ⟨t, h1, h2⟩ := mem_cnt (st := st) (T := T) (r := r) (by omega)
      exact ⟨t, by omega, h2⟩
/-- What the numbers keep to. -/
structure GOk (T B : Nat) (σ : GS) : Prop where
  cap : σ.N ≤ 4096
  len : ∀ t, (σ.st t).length ≤ B
  mem : ∀ t r, r ∈ σ.st t → 0 ≤ r ∧ r ≤ (σ.N : Int)
  ref : ∀ r j, 0 ≤ σ.ref r j ∧ σ.ref r j ≤ (σ.N : Int)
  np : ∀ r, σ.np r ≤ 1048576
  nw : ∀ r, σ.nw r ≤ 1048576
theorem GOk.zero (T B : Nat) : GOk T B G0 := ⟨by simp [G0], fun t => by simp [G0], fun t r h => by simp [G0] at h, fun r j => by simp [G0], fun r => by simp [G0], fun r => by simp [G0]⟩
theorem GOk.at {T B : Nat} {σ : GS} (h : GOk T B σ) (t : Nat) (i : Int) : 0 ≤ hkAt (σ.st t) i ∧ hkAt (σ.st t) i ≤ (σ.N : Int) := by
  unfold hkAt
  split
  · rename_i hi
    unfold hkIn at hi
    have hk : i.toNat < (σ.st t).length := by omega
    refine h.mem t _ ?_
    simp [hk]
  · omega
theorem GOk.push {T B : Nat} {σ : GS} (h : GOk T B σ) {r : Int} (h1 : 0 ≤ r) (h2 : r ≤ (σ.N : Int)) (t : Nat) : GOk T B (σ.push B t r) := by
  refine ⟨h.cap, fun i => ?_, fun i x hx => ?_, h.ref, h.np, h.nw⟩
  · show (setF σ.st t _ i).length ≤ B
    unfold setF
    split
    · exact hkPush_len (h.len t) r
    · exact h.len i
  · have hx : x ∈ setF σ.st t (hkPush B (σ.st t) r) i := hx
    unfold setF at hx
    split at hx
    · unfold hkPush at hx
      split at hx
      · rcases List.mem_append.1 hx with h3 | h3
        · exact h.mem t x h3
        · simp at h3; subst h3; exact ⟨h1, h2⟩
      · exact h.mem t x hx
    · exact h.mem i x hx
theorem GOk.new {T B : Nat} {σ : GS} (h : GOk T B σ) {a b : Int} (ha : a ≤ 1048576) (hb : b ≤ 1048576) (hc : σ.N + 1 ≤ 4096) : GOk T B (σ.new a b) := by
  refine ⟨hc, h.len, fun t r hr => ?_, fun r j => ?_, fun r => ?_, fun r => ?_⟩
  · have := h.mem t r hr
    show 0 ≤ r ∧ r ≤ ((σ.N + 1 : Nat) : Int)
    omega
  · have := h.ref r j
    show 0 ≤ setF σ.ref _ _ r j ∧ setF σ.ref _ _ r j ≤ ((σ.N + 1 : Nat) : Int)
    unfold setF
    split <;> (constructor <;> (try dsimp only) <;> omega)
  · show setF σ.np _ _ r ≤ _
    have := h.np r
    unfold setF
    split <;> omega
  · show setF σ.nw _ _ r ≤ _
    have := h.nw r
    unfold setF
    split <;> omega
theorem sizeBad_not {M : Nat} {a b : Int} (h : ¬ sizeBad M a b) : 0 ≤ a ∧ 0 ≤ b ∧ 0 < a + b ∧ 1 + a + b ≤ (M : Int) := by unfold sizeBad at h; omega
theorem GOk.setRef {T B : Nat} {σ : GS} (h : GOk T B σ) (r b : Int) {y : Int} (h1 : 0 ≤ y) (h2 : y ≤ (σ.N : Int)) : GOk T B (σ.setRef r b y) := by
  refine ⟨h.cap, h.len, h.mem, fun x j => ?_, h.np, h.nw⟩
  show 0 ≤ setF σ.ref r (setF (σ.ref r) b y) x j ∧ setF σ.ref r (setF (σ.ref r) b y) x j ≤ (σ.N : Int)
  unfold setF
  split
  · dsimp only
    split
    · exact ⟨h1, h2⟩
    · exact h.ref r j
  · exact h.ref x j
theorem GOk.setDat {T B : Nat} {σ : GS} (h : GOk T B σ) (r b v : Int) : GOk T B (σ.setDat r b v) := ⟨h.cap, h.len, h.mem, h.ref, h.np, h.nw⟩
theorem GOk.tick {T B : Nat} {σ : GS} (h : GOk T B σ) (t : Nat) : GOk T B (σ.tick t) := ⟨h.cap, h.len, h.mem, h.ref, h.np, h.nw⟩
theorem GOk.pop {T B : Nat} {σ : GS} (h : GOk T B σ) (t : Nat) : GOk T B (popS σ t) := by
  refine ⟨h.cap, fun i => ?_, fun i x hx => ?_, h.ref, h.np, h.nw⟩
  · show (setF σ.st t _ i).length ≤ B
    unfold setF
    split
    · exact hkPop_len (h.len t)
    · exact h.len i
  · have hx : x ∈ setF σ.st t (hkPop (σ.st t)) i := hx
    unfold setF at hx
    split at hx
    · exact h.mem t x (List.mem_of_mem_take hx)
    · exact h.mem i x hx
/-- How many objects there may be more, and how great they are. -/
structure Can (M : Nat) (σ : GS) : Prop where
  m : M ≤ 1048576
  n : σ.N + 1 ≤ 4096
theorem GOk.act {T B M : Nat} {σ : GS} (h : GOk T B σ) (hc : Can M σ) (t : Nat) (o : Po) : GOk T B (actS B M T σ t o) := by
  unfold actS
  repeat' split
  · unfold allocS
    split
    · exact h
    · rename_i hs
      have := sizeBad_not hs
      have := hc.m
      split
      · exact (h.new (a := o.a) (b := o.b) (by omega) (by omega) hc.n).push (by omega) (by show _ ≤ ((σ.N + 1 : Nat) : Int); omega) t
      · exact h
  · unfold loadS
    split
    · exact h.push (h.ref _ _).1 (h.ref _ _).2 t
    · exact h
  · unfold storeS
    split
    · exact h.setRef _ _ (h.at _ _).1 (h.at _ _).2
    · exact h
  · unfold writeS
    split
    · exact h.setDat _ _ _
    · exact h
  · exact h.push (Int.le_refl _) (by omega) t
  · exact h.pop t
  · unfold dupS
    split
    · exact h.push (h.at _ _).1 (h.at _ _).2 t
    · exact h
  · unfold sendS
    split
    · exact h.push (h.at _ _).1 (h.at _ _).2 _
    · exact h
  · exact h
theorem push_N (σ : GS) (B t : Nat) (r : Int) : (σ.push B t r).N = σ.N := rfl
theorem act_N (B M T : Nat) (σ : GS) (t : Nat) (o : Po) : (actS B M T σ t o).N ≤ σ.N + 1 := by
  unfold actS allocS loadS storeS writeS popS dupS sendS GS.push GS.setSt GS.new GS.setRef GS.setDat
  repeat' split
  all_goals simp
theorem do_N (B M T : Nat) (σ : GS) (th : Int) (o : Po) : (doS B M T σ th o).N ≤ σ.N + 1 := by
  unfold doS
  split
  · exact act_N B M T (σ.tick th.toNat) th.toNat o
  · omega
theorem GOk.do {T B M : Nat} {σ : GS} (h : GOk T B σ) (hc : Can M σ) (th : Int) (o : Po) : GOk T B (doS B M T σ th o) := by
  unfold doS
  split
  · exact (h.tick _).act ⟨hc.m, hc.n⟩ _ o
  · exact h
theorem act_done (B M T : Nat) (σ : GS) (t : Nat) (o : Po) : (actS B M T σ t o).done = σ.done := by
  unfold actS allocS loadS storeS writeS popS dupS sendS GS.push GS.setSt GS.new GS.setRef GS.setDat
  repeat' split
  all_goals rfl
theorem do_done (B M T : Nat) (σ : GS) (th : Int) (o : Po) (n : Nat) (h : ∀ t, σ.done t ≤ n) : ∀ t, (doS B M T σ th o).done t ≤ n + 1 := by
  intro t
  have h0 := h t
  unfold doS
  split
  · rw [act_done]
    show setF σ.done _ _ t ≤ _
    unfold setF
    have := h th.toNat
    split <;> omega
  · omega

/-! The order in which objects are come to. -/
def visit (L : List Int) (r : Int) : List Int := if r = 0 ∨ r ∈ L then L else L ++ [r]
def visits (L : List Int) (l : List Int) : List Int := l.foldl visit L
def num (L : List Int) (r : Int) : Int := if r ∈ L then ((L.idxOf r + 1 : Nat) : Int) else 0
theorem visit_pre (L : List Int) (r : Int) : L <+: visit L r := by
  unfold visit
  split
  · exact List.prefix_refl _
  · exact List.prefix_append _ _
theorem visits_nil (L : List Int) : visits L [] = L := rfl
theorem visits_cons (L : List Int) (a : Int) (l : List Int) : visits L (a :: l) = visits (visit L a) l := rfl
theorem visits_app (L a b : List Int) : visits L (a ++ b) = visits (visits L a) b := List.foldl_append
theorem visits_one (L : List Int) (a : Int) : visits L [a] = visit L a := rfl
theorem visits_pre : ∀ (l L : List Int), L <+: visits L l
  | [], L => List.prefix_refl _
  | a :: l, L => (visit_pre L a).trans (visits_pre l (visit L a))
theorem visit_mem (L : List Int) (r x : Int) : x ∈ visit L r ↔ x ∈ L ∨ (x = r ∧ r ≠ 0) := by
  unfold visit
  split
  · rename_i h
    constructor
    · exact .inl
    · rintro (h1 | ⟨rfl, h1⟩)
      · exact h1
      · rcases h with h | h
        · exact absurd h h1
        · exact h
  · rename_i h
    simp only [List.mem_append, List.mem_singleton]
    constructor
    · rintro (h1 | rfl)
      · exact .inl h1
      · exact .inr ⟨rfl, fun e => h (.inl e)⟩
    · rintro (h1 | ⟨rfl, _⟩)
      · exact .inl h1
      · exact .inr rfl
theorem visits_mem : ∀ (l L : List Int) (x : Int), x ∈ visits L l ↔ x ∈ L ∨ (x ∈ l ∧ x ≠ 0)
  | [], L, x => by simp [visits]
  | a :: l, L, x => by
    rw [visits_cons, visits_mem l, visit_mem]
    simp only [List.mem_cons]
    constructor
    · rintro ((h | ⟨rfl, h⟩) | ⟨h, h'⟩)
      · exact .inl h
      · exact .inr ⟨.inl rfl, h⟩
      · exact .inr ⟨.inr h, h'⟩
    · rintro (h | ⟨rfl | h, h'⟩)
      · exact .inl (.inl h)
      · exact .inl (.inr ⟨rfl, h'⟩)
      · exact .inr ⟨h, h'⟩
theorem visit_nodup {L : List Int} (h : L.Nodup) (r : Int) : (visit L r).Nodup := by
  unfold visit
  split
  · exact h
  · rename_i hr
    rw [List.nodup_append]
    refine ⟨h, by simp, fun a ha b hb => ?_⟩
    simp at hb
    subst hb
    exact fun e => hr (.inr (e ▸ ha))
theorem visits_nodup : ∀ (l : List Int) {L : List Int}, L.Nodup → (visits L l).Nodup
  | [], L, h => h
  | a :: l, L, h => visits_nodup l (visit_nodup h a)
theorem num_pre {L O : List Int} (h : L <+: O) (h0 : (0 : Int) ∉ O) {r : Int} (hr : r = 0 ∨ r ∈ L) : num L r = num O r := by
  obtain ⟨k, rfl⟩ := h
  rcases hr with rfl | hr
  · unfold num
    rw [if_neg (fun h => h0 (List.mem_append_left _ h)), if_neg h0]
  · unfold num
    rw [if_pos hr, if_pos (List.mem_append_left _ hr), List.idxOf_append, if_pos hr]
theorem num_last {L : List Int} {r : Int} (h : r ∉ L) : num (L ++ [r]) r = ((L.length + 1 : Nat) : Int) := by
  unfold num
  rw [if_pos (by simp), List.idxOf_append, if_neg h]
  simp
theorem num_bounds (L : List Int) (r : Int) : 0 ≤ num L r ∧ num L r ≤ (L.length : Int) := by
  unfold num
  split
  · rename_i h
    have := List.idxOf_lt_length_of_mem h
    omega
  · omega
theorem num_pos {L : List Int} {r : Int} : num L r ≠ 0 ↔ r ∈ L := by
  unfold num
  split
  · rename_i h
    exact ⟨fun _ => h, fun _ => by omega⟩
  · rename_i h
    exact ⟨fun e => absurd rfl e, fun e => absurd e h⟩
def kids (σ : GS) (r : Int) : List Int := (List.range (σ.np r)).map fun (j : Nat) => σ.ref r (j : Int)
theorem kids_len (σ : GS) (r : Int) : (kids σ r).length = σ.np r := by simp [kids]
theorem kids_get (σ : GS) (r : Int) {j : Nat} (h : j < σ.np r) : (kids σ r).getD j 0 = σ.ref r (j : Int) := by simp [kids, h]
def rootsOf (σ : GS) (T : Nat) : List Int := (List.range T).flatMap σ.st
theorem rootsOf_succ (σ : GS) (T : Nat) : rootsOf σ (T + 1) = rootsOf σ T ++ σ.st T := by
  unfold rootsOf
  rw [List.range_succ, List.flatMap_append]
  simp
def bfs (σ : GS) (T : Nat) : Nat → List Int
  | 0 => visits [] (rootsOf σ T)
  | n + 1 => match (bfs σ T n)[n]? with
    | some r => visits (bfs σ T n) (kids σ r)
    | none => bfs σ T n
def order (σ : GS) (T : Nat) : List Int := bfs σ T σ.N
theorem bfs_step (σ : GS) (T : Nat) {n : Nat} {r : Int} (h : (bfs σ T n)[n]? = some r) : bfs σ T (n + 1) = visits (bfs σ T n) (kids σ r) := by
  show (match (bfs σ T n)[n]? with | some r => visits (bfs σ T n) (kids σ r) | none => bfs σ T n) = _
  rw [h]
theorem bfs_stay (σ : GS) (T : Nat) {n : Nat} (h : (bfs σ T n).length ≤ n) : bfs σ T (n + 1) = bfs σ T n := by
  show (match (bfs σ T n)[n]? with | some r => visits (bfs σ T n) (kids σ r) | none => bfs σ T n) = _
  rw [List.getElem?_eq_none h]
theorem bfs_succ_pre (σ : GS) (T n : Nat) : bfs σ T n <+: bfs σ T (n + 1) := by
  rcases Nat.lt_or_ge n (bfs σ T n).length with h | h
  · rw [bfs_step σ T (List.getElem?_eq_getElem h)]
    exact visits_pre _ _
  · rw [bfs_stay σ T h]
    exact List.prefix_refl _
theorem bfs_pre (σ : GS) (T : Nat) {m n : Nat} (h : m ≤ n) : bfs σ T m <+: bfs σ T n := by
  induction n with
  | zero => obtain rfl : m = 0 := by omega
            exact List.prefix_refl _
  | succ n ih =>
    rcases Nat.eq_or_lt_of_le h with rfl | h
    · exact List.prefix_refl _
    · exact (ih (by omega)).trans (bfs_succ_pre σ T n)
theorem bfs_still (σ : GS) (T : Nat) {m n : Nat} (h : m ≤ n) (hl : (bfs σ T m).length ≤ m) : bfs σ T n = bfs σ T m := by
  induction n with
  | zero => obtain rfl : m = 0 := by omega
            rfl
  | succ n ih =>
    rcases Nat.eq_or_lt_of_le h with rfl | h
    · rfl
    · have e := ih (by omega)
      rw [bfs_stay σ T (by rw [e]; omega), e]
theorem bfs_nodup (σ : GS) (T : Nat) : ∀ n, (bfs σ T n).Nodup
  | 0 => visits_nodup _ List.nodup_nil
  | n + 1 => by
    rcases Nat.lt_or_ge n (bfs σ T n).length with h | h
    · rw [bfs_step σ T (List.getElem?_eq_getElem h)]
      exact visits_nodup _ (bfs_nodup σ T n)
    · rw [bfs_stay σ T h]
      exact bfs_nodup σ T n
theorem rootsOf_mem {σ : GS} {T : Nat} {r : Int} : r ∈ rootsOf σ T ↔ ∃ t, t < T ∧ r ∈ σ.st t := by simp [rootsOf]
theorem kids_mem {σ : GS} {r x : Int} : x ∈ kids σ r ↔ ∃ j, j < σ.np r ∧ σ.ref r (j : Int) = x := by simp [kids]
section
variable {T B : Nat} {σ : GS}
theorem bfs_in (ok : GOk T B σ) : ∀ n r, r ∈ bfs σ T n → 1 ≤ r ∧ r ≤ (σ.N : Int)
  | 0, r, h => by
    have h : r ∈ visits [] (rootsOf σ T) := h
    rw [visits_mem] at h
    rcases h with h | ⟨h, h0⟩
    · cases h
    · obtain ⟨t, _, ht⟩ := rootsOf_mem.1 h
      have := ok.mem t r ht
      omega
  | n + 1, r, h => by
    rcases Nat.lt_or_ge n (bfs σ T n).length with hl | hl
    · rw [bfs_step σ T (List.getElem?_eq_getElem hl), visits_mem] at h
      rcases h with h | ⟨h, h0⟩
      · exact bfs_in ok n r h
      · obtain ⟨j, _, rfl⟩ := kids_mem.1 h
        have := ok.ref ((bfs σ T n)[n]'hl) j
        omega
    · rw [bfs_stay σ T hl] at h
      exact bfs_in ok n r h
/-- Numbers from 1 to N, each once, are N at most. -/
theorem nodup_le : ∀ (N : Nat) (L : List Int), L.Nodup → (∀ r, r ∈ L → 1 ≤ r ∧ r ≤ (N : Int)) → L.length ≤ N
  | 0, L, _, h => by
    cases L with
    | nil => exact Nat.le_refl _
    | cons a l => have := h a (by simp); omega
  | N + 1, L, hn, h => by
    have h1 := nodup_le N (L.erase ((N : Int) + 1)) (hn.erase _) (fun r hr => by
      rw [hn.mem_erase_iff] at hr
      have := h r hr.2
      have := hr.1
      omega)
    rw [List.length_erase] at h1
    split at h1 <;> omega
theorem bfs_len (ok : GOk T B σ) (n : Nat) : (bfs σ T n).length ≤ σ.N := nodup_le _ _ (bfs_nodup σ T n) (bfs_in ok n)
theorem bfs_end (ok : GOk T B σ) {n : Nat} (h : (bfs σ T n).length ≤ n) : order σ T = bfs σ T n := by
  rcases Nat.le_total n σ.N with h1 | h1
  · exact bfs_still σ T h1 h
  · exact (bfs_still σ T h1 (bfs_len ok _)).symm
theorem bfs_order (ok : GOk T B σ) (n : Nat) : bfs σ T n <+: order σ T := by
  rcases Nat.le_total n σ.N with h1 | h1
  · exact bfs_pre σ T h1
  · rw [bfs_still σ T h1 (bfs_len ok _)]
    exact List.prefix_refl _
theorem order_in (ok : GOk T B σ) {r : Int} (h : r ∈ order σ T) : 1 ≤ r ∧ r ≤ (σ.N : Int) := bfs_in ok _ r h
theorem order_0 (ok : GOk T B σ) : (0 : Int) ∉ order σ T := fun h => by have := order_in ok h; omega
theorem order_nodup : (order σ T).Nodup := bfs_nodup σ T _
theorem order_len (ok : GOk T B σ) : (order σ T).length ≤ σ.N := bfs_len ok _
/-- All that is in the order is in each list that has the handles and what its own lead to. -/
theorem order_least {L : List Int} (h0 : ∀ r, r ∈ rootsOf σ T → r ≠ 0 → r ∈ L) (h1 : ∀ r, r ∈ L → ∀ x, x ∈ kids σ r → x ≠ 0 → x ∈ L) : ∀ n r, r ∈ bfs σ T n → r ∈ L
  | 0, r, h => by
    have h : r ∈ visits [] (rootsOf σ T) := h
    rw [visits_mem] at h
    rcases h with h | ⟨h, h2⟩
    · cases h
    · exact h0 r h h2
  | n + 1, r, h => by
    rcases Nat.lt_or_ge n (bfs σ T n).length with hl | hl
    · rw [bfs_step σ T (List.getElem?_eq_getElem hl), visits_mem] at h
      rcases h with h | ⟨h, h2⟩
      · exact order_least h0 h1 n r h
      · exact h1 _ (order_least h0 h1 n _ (List.getElem_mem hl)) r h h2
    · rw [bfs_stay σ T hl] at h
      exact order_least h0 h1 n r h
theorem order_root {r : Int} (h : r ∈ rootsOf σ T) (h0 : r ≠ 0) (ok : GOk T B σ) : r ∈ order σ T :=
  (bfs_order ok 0).subset ((visits_mem _ _ _).2 (.inr ⟨h, h0⟩))
theorem order_kid (ok : GOk T B σ) {r x : Int} (h : r ∈ order σ T) (hx : x ∈ kids σ r) (h0 : x ≠ 0) : x ∈ order σ T := by
  obtain ⟨i, hi, rfl⟩ := List.getElem_of_mem h
  have h1 : i < (bfs σ T i).length := by
    rcases Nat.lt_or_ge i (bfs σ T i).length with h1 | h1
    · exact h1
    · have e := bfs_end ok h1
      have hi' : i < (bfs σ T i).length := by rw [← e]; exact hi
      omega
  have e : (bfs σ T i)[i]? = some (order σ T)[i] := by
    obtain ⟨k, hk⟩ := bfs_order ok i
    have : (order σ T)[i]? = some (order σ T)[i] := List.getElem?_eq_getElem hi
    rw [← this, ← hk, List.getElem?_append_left h1]
  refine (bfs_order ok (i + 1)).subset ?_
  rw [bfs_step σ T e]
  exact (visits_mem _ _ _).2 (.inr ⟨hx, h0⟩)
end
/-! The shape, the words. -/
def shapeT (σ : GS) (O : List Int) (t : Nat) : List Int := ((σ.st t).length : Int) :: (σ.st t).map (num O)
def datas (σ : GS) (r : Int) : List Int := (List.range (σ.nw r)).map fun (j : Nat) => σ.dat r (j : Int)
def shapeO (σ : GS) (O : List Int) (r : Int) : List Int := [(σ.np r : Int), (σ.nw r : Int)] ++ (kids σ r).map (num O) ++ datas σ r
def shape (σ : GS) (T : Nat) : List Int := (List.range T).flatMap (shapeT σ (order σ T)) ++ (order σ T).flatMap (shapeO σ (order σ T))
def sizeOb (σ : GS) (r : Int) : Nat := 1 + σ.np r + σ.nw r
def words (σ : GS) (T : Nat) : Nat := ((order σ T).map (sizeOb σ)).sum
theorem words_perm {σ : GS} {T : Nat} {L : List Int} (h : L.Nodup) (hm : ∀ r, r ∈ L ↔ r ∈ order σ T) : (L.map (sizeOb σ)).sum = words σ T := by
  have hp : L.Perm (order σ T) := (List.perm_ext_iff_of_nodup h order_nodup).2 hm
  unfold words
  exact (hp.map _).sum_nat
theorem bfs_tick (σ : GS) (t T : Nat) : ∀ n, bfs (σ.tick t) T n = bfs σ T n
  | 0 => rfl
  | n + 1 => by
    show (match (bfs (σ.tick t) T n)[n]? with | some r => visits (bfs (σ.tick t) T n) (kids (σ.tick t) r) | none => bfs (σ.tick t) T n) = (match (bfs σ T n)[n]? with | some r => visits (bfs σ T n) (kids σ r) | none => bfs σ T n)
    rw [bfs_tick σ t T n]
    rfl
theorem order_tick (σ : GS) (t T : Nat) : order (σ.tick t) T = order σ T := bfs_tick σ t T _
theorem shape_tick (σ : GS) (t T : Nat) : shape (σ.tick t) T = shape σ T := by
  unfold shape
  rw [order_tick]
  rfl
theorem words_tick (σ : GS) (t T : Nat) : words (σ.tick t) T = words σ T := by
  unfold words
  rw [order_tick]
  rfl
end Go.Proofs.YtkmnbaecohhcaaaGreatDoor
