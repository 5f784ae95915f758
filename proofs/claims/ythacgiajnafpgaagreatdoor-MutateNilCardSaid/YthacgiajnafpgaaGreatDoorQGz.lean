/- The abstract heap: small things that both its programs' texts want. -/
import Derived.Test.YthacgiajnafpgaaGreatDoorQGa
import Derived.WalkKit
import Derived.BigQuiet
import Derived.Deep.RegionLaw
import Derived.Deep.AppendLies
import Derived.Deep.CutRange
import Derived.Deep.RegionHeld3
namespace Go.Proofs.YthacgiajnafpgaaGreatDoor
set_option maxRecDepth 100000
set_option linter.unusedVariables false
set_option linter.unusedSimpArgs false
open Go.RowKit Go.Gl

/-- What the bounds keep to. -/
structure GDim (T B M : Nat) : Prop where
  t : T ≤ 64
  b : B ≤ 64
  m1 : 1 ≤ M
  m : M ≤ 1048576
theorem cnt_le {st : Nat → List Int} {B : Nat} (h : ∀ t, (st t).length ≤ B) (r : Int) : ∀ T, cntG st T r ≤ T * B
  | 0 => Nat.zero_le _
  | T + 1 => by
    have h1 := cnt_le h r T
    have h2 : (st T).count r ≤ B := Nat.le_trans List.count_le_length (h T)
    simp only [cntG]
    rw [Nat.succ_mul]
    omega
theorem GOk.cnt_le {T B M : Nat} {σ : GS} (h : GOk T B σ) (hd : GDim T B M) (r : Int) : cntG σ.st T r ≤ 4096 :=
  Nat.le_trans (Go.Proofs.YthacgiajnafpgaaGreatDoor.cnt_le h.len r T) (Nat.mul_le_mul hd.t hd.b)
theorem objE_0 {σ : GS} {t : Nat} {a : Int} : objE σ t a = 0 ↔ hkIn (σ.st t) a ∧ hkAt (σ.st t) a ≠ 0 := by
  unfold objE
  repeat' split
  all_goals simp_all
def opV (o : Po) : Value := .agg #[.int .i64 o.k, .int .i64 o.a, .int .i64 o.b, .int .i64 o.c, .int .u64 o.v]
/-- An operation's numbers are such as a word holds. -/
structure PoOk (o : Po) : Prop where
  a : -9223372036854775808 ≤ o.a ∧ o.a ≤ 9223372036854775807
  b : -9223372036854775808 ≤ o.b ∧ o.b ≤ 9223372036854775807
def ansC (th dn : Int) (x : An) : Array Value := #[.int .i64 th, .int .i64 dn, .int .i64 x.code, .int .u64 x.word, .bool x.bit]
def ShapePost (W : World) (l : List Int) (e : Ending) (w' : World) : Prop := ∃ A n c G, e = .returned (.slice A n c) ∧ Lr w' 64 A n c G (refV l) ∧ Fr [] W w' ∧ ∀ g, g ∈ G → W.heap.size ≤ g
end Go.Proofs.YthacgiajnafpgaaGreatDoor
