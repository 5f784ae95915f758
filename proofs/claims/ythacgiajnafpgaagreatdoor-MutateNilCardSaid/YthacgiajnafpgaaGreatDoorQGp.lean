/- The abstract heap: what its operations come to, its shape and its words, as functions. -/
import Derived.Test.YthacgiajnafpgaaGreatDoorQRo
namespace Go.Proofs.YthacgiajnafpgaaGreatDoor
set_option linter.unusedVariables false
open Go.RowKit Go.Gl

def setF {α β : Type} [DecidableEq α] (f : α → β) (k : α) (v : β) : α → β := fun x => if x = k then v else f x
section
variable {α β : Type} [DecidableEq α]
theorem setF_at (f : α → β) (k : α) (v : β) : setF f k v k = v := by simp [setF]
theorem setF_ne (f : α → β) {k x : α} (v : β) (h : x ≠ k) : setF f k v x = f x := by simp [setF, h]
end
/-- Stacks, how many operations each thread did, how many objects there are (1 to N), and of each its references and data words. -/
structure GS where
  st : Nat → List Int
  done : Nat → Nat
  N : Nat
  np : Int → Nat
  nw : Int → Nat
  ref : Int → Int → Int
  dat : Int → Int → Int
def G0 : GS := ⟨fun _ => [], fun _ => 0, 0, fun _ => 0, fun _ => 0, fun _ _ => 0, fun _ _ => 0⟩
def GS.setSt (σ : GS) (t : Nat) (l : List Int) : GS := { σ with st := setF σ.st t l }
def GS.push (σ : GS) (B t : Nat) (r : Int) : GS := σ.setSt t (hkPush B (σ.st t) r)
def GS.new (σ : GS) (a b : Int) : GS :=
  { σ with N := σ.N + 1, np := setF σ.np ((σ.N : Int) + 1) a.toNat, nw := setF σ.nw ((σ.N : Int) + 1) b.toNat, ref := setF σ.ref ((σ.N : Int) + 1) (fun _ => 0), dat := setF σ.dat ((σ.N : Int) + 1) (fun _ => 0) }
def GS.setRef (σ : GS) (r b y : Int) : GS := { σ with ref := setF σ.ref r (setF (σ.ref r) b y) }
def GS.setDat (σ : GS) (r b v : Int) : GS := { σ with dat := setF σ.dat r (setF (σ.dat r) b v) }
def sizeBad (M : Nat) (a b : Int) : Prop := a < 0 ∨ b < 0 ∨ a + b = 0 ∨ (M : Int) < 1 + a + b
instance (M : Nat) (a b : Int) : Decidable (sizeBad M a b) := by unfold sizeBad; infer_instance
def fieldIn (n : Nat) (b : Int) : Prop := 0 ≤ b ∧ b < (n : Int)
instance (n : Nat) (b : Int) : Decidable (fieldIn n b) := by unfold fieldIn; infer_instance
section
variable (B M T : Nat) (σ : GS) (t : Nat) (a b c v : Int)
def allocE : Int := if sizeBad M a b then 13 else hkPushE B (σ.st t)
def allocS : GS := if sizeBad M a b then σ else if (σ.st t).length < B then (σ.new a b).push B t ((σ.N : Int) + 1) else σ
def objE : Int := if hkIn (σ.st t) a then (if hkAt (σ.st t) a = 0 then 12 else 0) else 10
def loadE : Int := if objE σ t a ≠ 0 then objE σ t a else if fieldIn (σ.np (hkAt (σ.st t) a)) b then hkPushE B (σ.st t) else 11
def loadS : GS := if objE σ t a = 0 ∧ fieldIn (σ.np (hkAt (σ.st t) a)) b then σ.push B t (σ.ref (hkAt (σ.st t) a) b) else σ
def storeE : Int := if hkIn (σ.st t) c then (if objE σ t a ≠ 0 then objE σ t a else if fieldIn (σ.np (hkAt (σ.st t) a)) b then 0 else 11) else 10
def storeS : GS := if storeE σ t a b c = 0 then σ.setRef (hkAt (σ.st t) a) b (hkAt (σ.st t) c) else σ
def wordE : Int := if objE σ t a ≠ 0 then objE σ t a else if fieldIn (σ.nw (hkAt (σ.st t) a)) b then 0 else 11
def readV : Int := if wordE σ t a b = 0 then σ.dat (hkAt (σ.st t) a) b else 0
def writeS : GS := if wordE σ t a b = 0 then σ.setDat (hkAt (σ.st t) a) b v else σ
def popS : GS := σ.setSt t (hkPop (σ.st t))
def dupE : Int := if hkIn (σ.st t) a then hkPushE B (σ.st t) else 10
def dupS : GS := if hkIn (σ.st t) a then σ.push B t (hkAt (σ.st t) a) else σ
def equalE : Int := if hkIn (σ.st t) a then hkAtE (σ.st t) b else 10
def equalV : Bool := decide (hkIn (σ.st t) a ∧ hkIn (σ.st t) b ∧ hkAt (σ.st t) a = hkAt (σ.st t) b)
def isNilV : Bool := decide (hkIn (σ.st t) a ∧ hkAt (σ.st t) a = 0)
def collectE : Int := if 0 ≤ a ∧ a ≤ 3 then 0 else 17
def sendE : Int := if hkIn (σ.st t) a then (if fieldIn T b then hkPushE B (σ.st b.toNat) else 2) else 10
def sendS : GS := if hkIn (σ.st t) a ∧ fieldIn T b then σ.push B b.toNat (hkAt (σ.st t) a) else σ
end
/-- What an operation answers: its code, its word, its bit. -/
structure An where
  code : Int
  word : Int
  bit : Bool
/-- An operation's numbers. -/
structure Po where
  k : Int
  a : Int
  b : Int
  c : Int
  v : Int
def actA (B M T : Nat) (σ : GS) (t : Nat) (o : Po) : An :=
  if o.k = 1 then ⟨allocE B M σ t o.a o.b, 0, false⟩ else if o.k = 2 then ⟨loadE B σ t o.a o.b, 0, false⟩ else if o.k = 3 then ⟨storeE σ t o.a o.b o.c, 0, false⟩
  else if o.k = 4 then ⟨wordE σ t o.a o.b, readV σ t o.a o.b, false⟩ else if o.k = 5 then ⟨wordE σ t o.a o.b, 0, false⟩ else if o.k = 6 then ⟨hkPushE B (σ.st t), 0, false⟩
  else if o.k = 7 then ⟨hkPopE (σ.st t), 0, false⟩ else if o.k = 8 then ⟨dupE B σ t o.a, 0, false⟩ else if o.k = 9 then ⟨equalE σ t o.a o.b, 0, equalV σ t o.a o.b⟩
  else if o.k = 10 then ⟨hkAtE (σ.st t) o.a, 0, isNilV σ t o.a⟩ else if o.k = 11 then ⟨0, 0, false⟩ else if o.k = 12 then ⟨collectE o.a, 0, false⟩
  else if o.k = 13 then ⟨sendE B T σ t o.a o.b, 0, false⟩ else ⟨17, 0, false⟩
def actS (B M T : Nat) (σ : GS) (t : Nat) (o : Po) : GS :=
  if o.k = 1 then allocS B M σ t o.a o.b else if o.k = 2 then loadS B σ t o.a o.b else if o.k = 3 then storeS σ t o.a o.b o.c
  else if o.k = 5 then writeS σ t o.a o.b o.v else if o.k = 6 then σ.push B t 0
  else if o.k = 7 then popS σ t else if o.k = 8 then dupS B σ t o.a else if o.k = 13 then sendS B T σ t o.a o.b else σ
def GS.tick (σ : GS) (t : Nat) : GS := { σ with done := setF σ.done t (σ.done t + 1) }
def ansV (th dn : Int) (x : An) : Value := .agg #[.int .i64 th, .int .i64 dn, .int .i64 x.code, .int .u64 x.word, .bool x.bit]
def doV (B M T : Nat) (σ : GS) (th : Int) (o : Po) : Value := if fieldIn T th then ansV th (σ.done th.toNat : Int) (actA B M T σ th.toNat o) else ansV 0 0 ⟨2, 0, false⟩
def doS (B M T : Nat) (σ : GS) (th : Int) (o : Po) : GS := if fieldIn T th then actS B M T (σ.tick th.toNat) th.toNat o else σ

/-- How many handles an object has. -/
def cntG (st : Nat → List Int) : Nat → Int → Nat
  | 0, _ => 0
  | T + 1, r => cntG st T r + (st T).count r
/-- What the numbers keep to. -/
structure GOk (T B : Nat) (σ : GS) : Prop where
  cap : σ.N ≤ 4096
  len : ∀ t, (σ.st t).length ≤ B
  mem : ∀ t r, r ∈ σ.st t → 0 ≤ r ∧ r ≤ (σ.N : Int)
  ref : ∀ r j, 0 ≤ σ.ref r j ∧ σ.ref r j ≤ (σ.N : Int)
  np : ∀ r, σ.np r ≤ 1048576
  nw : ∀ r, σ.nw r ≤ 1048576
theorem GOk.zero (T B : Nat) : GOk T B G0 := ⟨by simp [G0], fun t => by simp [G0], fun t r h => by simp [G0] at h, fun r j => by simp [G0], fun r => by simp [G0], fun r => by simp [G0]⟩
theorem GOk.at {T B : Nat} {σ : GS} (h : GOk T B σ) (t : Nat) (i : Int) : 0 ≤ hkAt (σ.st t) i ∧ hkAt (σ.st t) i ≤ (σ.N : Int) := by
  unfold hkAt
  split
  · rename_i hi
    unfold hkIn at hi
    have hk : i.toNat < (σ.st t).length := by omega
    refine h.mem t _ ?_
    simp [hk]
  · omega
theorem GOk.push {T B : Nat} {σ : GS} (h : GOk T B σ) {r : Int} (h1 : 0 ≤ r) (h2 : r ≤ (σ.N : Int)) (t : Nat) : GOk T B (σ.push B t r) := by
  refine ⟨h.cap, fun i => ?_, fun i x hx => ?_, h.ref, h.np, h.nw⟩
  · show (setF σ.st t _ i).length ≤ B
    unfold setF
    split
    · exact hkPush_len (h.len t) r
    · exact h.len i
  · have hx : x ∈ setF σ.st t (hkPush B (σ.st t) r) i := hx
    unfold setF at hx
    split at hx
    · unfold hkPush at hx
      split at hx
      · rcases List.mem_append.1 hx with h3 | h3
        · exact h.mem t x h3
        · simp at h3; subst h3; exact ⟨h1, h2⟩
      · exact h.mem t x hx
    · exact h.mem i x hx
theorem GOk.new {T B : Nat} {σ : GS} (h : GOk T B σ) {a b : Int} (ha : a ≤ 1048576) (hb : b ≤ 1048576) (hc : σ.N + 1 ≤ 4096) : GOk T B (σ.new a b) := by
  refine ⟨hc, h.len, fun t r hr => ?_, fun r j => ?_, fun r => ?_, fun r => ?_⟩
  · have := h.mem t r hr
    show 0 ≤ r ∧ r ≤ ((σ.N + 1 : Nat) : Int)
    omega
  · have := h.ref r j
    show 0 ≤ setF σ.ref _ _ r j ∧ setF σ.ref _ _ r j ≤ ((σ.N + 1 : Nat) : Int)
    unfold setF
    split <;> (constructor <;> (try dsimp only) <;> omega)
  · show setF σ.np _ _ r ≤ _
    have := h.np r
    unfold setF
    split <;> omega
  · show setF σ.nw _ _ r ≤ _
    have := h.nw r
    unfold setF
    split <;> omega
theorem GOk.setRef {T B : Nat} {σ : GS} (h : GOk T B σ) (r b : Int) {y : Int} (h1 : 0 ≤ y) (h2 : y ≤ (σ.N : Int)) : GOk T B (σ.setRef r b y) := by
  refine ⟨h.cap, h.len, h.mem, fun x j => ?_, h.np, h.nw⟩
  show 0 ≤ setF σ.ref r (setF (σ.ref r) b y) x j ∧ setF σ.ref r (setF (σ.ref r) b y) x j ≤ (σ.N : Int)
  unfold setF
  split
  · dsimp only
    split
    · exact ⟨h1, h2⟩
    · exact h.ref r j
  · exact h.ref x j
theorem GOk.setDat {T B : Nat} {σ : GS} (h : GOk T B σ) (r b v : Int) : GOk T B (σ.setDat r b v) := ⟨h.cap, h.len, h.mem, h.ref, h.np, h.nw⟩
theorem GOk.tick {T B : Nat} {σ : GS} (h : GOk T B σ) (t : Nat) : GOk T B (σ.tick t) := ⟨h.cap, h.len, h.mem, h.ref, h.np, h.nw⟩
/-- How many objects there may be more, and how great they are. -/
structure Can (M : Nat) (σ : GS) : Prop where
  m : M ≤ 1048576
  n : σ.N + 1 ≤ 4096
/-! The order in which objects are come to. -/
def visit (L : List Int) (r : Int) : List Int := if r = 0 ∨ r ∈ L then L else L ++ [r]
def visits (L : List Int) (l : List Int) : List Int := l.foldl visit L
def num (L : List Int) (r : Int) : Int := if r ∈ L then ((L.idxOf r + 1 : Nat) : Int) else 0
def kids (σ : GS) (r : Int) : List Int := (List.range (σ.np r)).map fun (j : Nat) => σ.ref r (j : Int)
def rootsOf (σ : GS) (T : Nat) : List Int := (List.range T).flatMap σ.st
def bfs (σ : GS) (T : Nat) : Nat → List Int
  | 0 => visits [] (rootsOf σ T)
  | n + 1 => match (bfs σ T n)[n]? with
    | some r => visits (bfs σ T n) (kids σ r)
    | none => bfs σ T n
def order (σ : GS) (T : Nat) : List Int := bfs σ T σ.N
section
variable {T B : Nat} {σ : GS}
end
/-! The shape, the words. -/
def shapeT (σ : GS) (O : List Int) (t : Nat) : List Int := ((σ.st t).length : Int) :: (σ.st t).map (num O)
def datas (σ : GS) (r : Int) : List Int := (List.range (σ.nw r)).map fun (j : Nat) => σ.dat r (j : Int)
def shapeO (σ : GS) (O : List Int) (r : Int) : List Int := [(σ.np r : Int), (σ.nw r : Int)] ++ (kids σ r).map (num O) ++ datas σ r
def shape (σ : GS) (T : Nat) : List Int := (List.range T).flatMap (shapeT σ (order σ T)) ++ (order σ T).flatMap (shapeO σ (order σ T))
def sizeOb (σ : GS) (r : Int) : Nat := 1 + σ.np r + σ.nw r
def words (σ : GS) (T : Nat) : Nat := ((order σ T).map (sizeOb σ)).sum
end Go.Proofs.YthacgiajnafpgaaGreatDoor
