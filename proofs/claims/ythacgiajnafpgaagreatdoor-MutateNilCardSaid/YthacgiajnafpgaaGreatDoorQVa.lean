/- The heap as plain numbers: rows, objects, soundness, its graph. -/
import Derived.Test.YthacgiajnafpgaaGreatDoorQHd
import Derived.Test.YthacgiajnafpgaaGreatDoorQGeo
import Derived.Test.YthacgiajnafpgaaGreatDoorQGp
import Derived.Test.YthacgiajnafpgaaGreatDoorQGa
import Derived.Test.YthacgiajnafpgaaGreatDoorQP1
import Derived.Test.YthacgiajnafpgaaGreatDoorQRt
import Derived.Test.YthacgiajnafpgaaGreatDoorQRo
import Derived.Test.YthacgiajnafpgaaGreatDoorQBu
import Derived.Test.YthacgiajnafpgaaGreatDoorQG
import Derived.WalkKit
import Derived.BigQuiet
import Derived.Deep.CutRange
import Derived.Deep.RegionWith
namespace Go.Proofs.YthacgiajnafpgaaGreatDoor
set_option linter.unusedVariables false
open Go.RowKit Go.Gl

/-- A heap's numbers: R regions of W words, n words f, states, Tops, the buffers of T threads, their handles. -/
structure HS where
  g : Geo
  W : Nat
  R : Nat
  n : Nat
  f : Nat → Nat
  s : Nat → Int
  t : Nat → Int
  T : Nat
  bx : Nat → Int
  be : Nat → Int
  st : Nat → List Int
namespace HS
variable (h : HS)
/-- Where the words begin that buffers have left in a region. -/
def leftL (r : Int) : Nat → List Int
  | 0 => []
  | k + 1 => leftL r k ++ (if h.bx k < h.be k ∧ h.g.regionOf (h.bx k) = r then [h.bx k] else [])
def minL : List Int → Int
  | [] => 0
  | x :: l => l.foldl min x
def endOf (k : Nat) : Int := if h.leftL (k : Int) h.T = [] then h.t k else minL (h.leftL (k : Int) h.T)
def stateOf (r : Int) : Int := if 0 ≤ r ∧ r < (h.R : Int) then h.s r.toNat else 0
/-- What Object answers of a reference. -/
noncomputable def objE (r : Int) : Int := if r = 0 then 12 else if atE h.n h.f (r - 1) ≠ 0 then atE h.n h.f (r - 1) else if (atH h.n h.f (r - 1)).kind = 1 then 0 else 30
noncomputable def objV (r : Int) : Hd := if h.objE r = 0 then atH h.n h.f (r - 1) else Hd.zero
/-- Are the regions behind a big object's first one its own? -/
def Cont (k : Nat) (sp : Int) : Prop := ∀ i : Nat, 1 ≤ i → (i : Int) < sp → h.stateOf ((k : Int) + (i : Int)) = 5
open Classical in
noncomputable def bigE (k : Nat) : Int := if h.objE (((k * h.W : Nat) : Int) + 1) ≠ 0 then h.objE (((k * h.W : Nat) : Int) + 1) else if h.Cont k (h.g.spanOf (h.objV (((k * h.W : Nat) : Int) + 1)).size) then 0 else 30
noncomputable def rowE (r : Int) : Int :=
  if ¬ (0 ≤ r ∧ r < (h.R : Int)) then 2
  else if h.s r.toNat = 1 ∨ h.s r.toNat = 2 ∨ h.s r.toNat = 3 then startsE h.n h.f ((r.toNat * h.W : Nat) : Int) (h.endOf r.toNat)
  else if h.s r.toNat = 4 then h.bigE r.toNat else 0
noncomputable def rowL (r : Int) : List Int :=
  if ¬ (0 ≤ r ∧ r < (h.R : Int)) then []
  else if h.s r.toNat = 1 ∨ h.s r.toNat = 2 ∨ h.s r.toNat = 3 then startsL h.n h.f ((r.toNat * h.W : Nat) : Int) (h.endOf r.toNat)
  else if h.s r.toNat = 4 then (if h.bigE r.toNat = 0 then [((r.toNat * h.W : Nat) : Int)] else []) else []
noncomputable def isObj (a : Int) : Bool := decide (h.objE (a + 1) = 0)
noncomputable def objsK (k : Nat) : List Int := (h.rowL (k : Int)).filter h.isObj
noncomputable def objL : List Int := (List.range h.R).flatMap h.objsK
noncomputable def refsAt (a : Int) : List Int := (fieldsL h.n h.f a).map fun (i : Int) => (h.f i.toNat : Int)
/-- Is each of these references nil, or one of the objects? -/
def Known (l : List Int) (o : List Int) : Prop := ∀ r, r ∈ l → r = 0 ∨ r - 1 ∈ o
structure Sound : Prop where
  rows : ∀ k, k < h.R → h.rowE (k : Int) = 0
  refs : ∀ a, a ∈ h.objL → Known (h.refsAt a) h.objL
  stk : ∀ i, i < h.T → Known (h.st i) h.objL
open Classical in
noncomputable def checkE : Int := if h.Sound then 0 else 30
open Classical in
/-- Its graph: an object's name is its reference. -/
noncomputable def gs : GS where
  st := fun i => if i < h.T then h.st i else []
  done := fun _ => 0
  N := h.n
  np := fun r => if r - 1 ∈ h.objL then (atH h.n h.f (r - 1)).ptrs.toNat else 0
  nw := fun r => if r - 1 ∈ h.objL then ((atH h.n h.f (r - 1)).size - 1 - (atH h.n h.f (r - 1)).ptrs).toNat else 0
  ref := fun r j => if r - 1 ∈ h.objL ∧ 0 ≤ j ∧ j < (atH h.n h.f (r - 1)).ptrs then (h.f (r + j).toNat : Int) else 0
  dat := fun r j => (h.f (r + (atH h.n h.f (r - 1)).ptrs + j).toNat : Int)
/-- What the numbers keep to. -/
structure Ok (s k : Nat) : Prop where
  geo : h.g.Ok s k
  rw : h.g.rw = (h.W : Int)
  rg : h.g.regions = (h.R : Int)
  wd : h.g.words = (h.n : Int)
  nn : h.n = h.R * h.W
  fok : ∀ i, h.f i < 18446744073709551616
  sok : ∀ i, i < h.R → 0 ≤ h.s i ∧ h.s i ≤ 5
  tok : ∀ i, i < h.R → ((i * h.W : Nat) : Int) ≤ h.t i ∧ h.t i ≤ ((i * h.W + h.W : Nat) : Int)
  tm : h.T ≤ 64
  bok : ∀ i, i < h.T → 0 ≤ h.bx i ∧ h.bx i ≤ h.be i ∧ h.be i ≤ 4194304
  rok : ∀ i, i < h.T → ∀ r, r ∈ h.st i → 0 ≤ r ∧ r < 18446744073709551616
  rlen : ∀ i, i < h.T → (h.st i).length ≤ 64
end HS

theorem mul_add_le {k R W : Nat} (h : k < R) : k * W + W ≤ R * W := by
  have := Nat.mul_le_mul_right W (show k + 1 ≤ R by omega)
  rw [Nat.add_mul, Nat.one_mul] at this
  exact this
namespace HS
variable {h : HS} {s k : Nat}
theorem Ok.nmax (ok : h.Ok s k) : h.n ≤ 4194304 := by have := ok.geo.wmax; have := ok.wd; omega
theorem Ok.base_le (ok : h.Ok s k) {r : Nat} (hr : r < h.R) : r * h.W + h.W ≤ h.n := by rw [ok.nn]; exact mul_add_le hr
theorem Ok.wpos (ok : h.Ok s k) : 64 ≤ h.W := by
  have h1 := ok.rw
  have h2 := ok.geo.rw
  have h3 := pw_le (a := 6) (b := (s : Int)) (by have := ok.geo.s6; omega)
  have : pw 6 = 64 := by decide
  omega
theorem objE_0 {r : Int} (e : h.objE r = 0) : r ≠ 0 ∧ (0 ≤ r - 1 ∧ r - 1 < (h.n : Int)) ∧ (atH h.n h.f (r - 1)).kind = 1 ∧ (atH h.n h.f (r - 1)).Right ∧ atE h.n h.f (r - 1) = 0 ∧ h.objV r = atH h.n h.f (r - 1) := by
  have e0 := e
  unfold objE at e
  split at e
  · omega
  · rename_i h0
    split at e
    · rename_i h1; exact absurd e h1
    · rename_i h1
      split at e
      · rename_i h2
        rcases at_out h.n h.f (r - 1) with ⟨a1, _⟩ | ⟨a1, _⟩ | ⟨a1, a2, a3, a4⟩
        · omega
        · omega
        · exact ⟨h0, a2, h2, a4, a1, by unfold objV; rw [if_pos e0]⟩
      · omega
end HS
end Go.Proofs.YthacgiajnafpgaaGreatDoor
/- The heap's objects, and its graph. -/
namespace Go.Proofs.YthacgiajnafpgaaGreatDoor
set_option linter.unusedVariables false
open Go.RowKit Go.Gl

/-- All references lead to what there is. -/
structure GIn (σ : GS) : Prop where
  mem : ∀ t r, r ∈ σ.st t → 0 ≤ r ∧ r ≤ (σ.N : Int)
  ref : ∀ r j, 0 ≤ σ.ref r j ∧ σ.ref r j ≤ (σ.N : Int)
section
variable {T : Nat} {σ : GS}
end

namespace HS
variable {h : HS} {s k : Nat}
/-- What is known of an object. -/
structure ObjAt (h : HS) (i : Nat) (S P : Nat) : Prop where
  lt : i < h.n
  hd : Hd.of (h.f i) = atH h.n h.f (i : Int)
  e : atE h.n h.f (i : Int) = 0
  kind : (atH h.n h.f (i : Int)).kind = 1
  size : (atH h.n h.f (i : Int)).size = (S : Int)
  ptrs : (atH h.n h.f (i : Int)).ptrs = (P : Int)
  pos : 1 ≤ S
  max : S ≤ 1048576
  ps : P < S
  fit : i + S ≤ h.n
theorem ObjAt.fields {i S P : Nat} (o : ObjAt h i S P) : fieldsL h.n h.f (i : Int) = Go.Gl.refs i P ∧ fieldsE h.n h.f (i : Int) = 0 := by
  have hf : FieldsOk h.n h.f (i : Int) := ⟨o.kind, by rw [o.size]; have := o.fit; omega⟩
  have := fields_yes o.e hf
  rw [o.ptrs, Int.toNat_natCast, Int.toNat_natCast] at this
  exact this
theorem ObjAt.refs {i S P : Nat} (o : ObjAt h i S P) : h.refsAt (i : Int) = (List.range P).map fun (j : Nat) => (h.f (i + 1 + j) : Int) := by
  unfold refsAt
  rw [o.fields.1]
  unfold Go.Gl.refs
  rw [List.map_map]
  apply List.map_congr_left
  intro j _
  show (h.f ((i : Int) + 1 + (j : Int)).toNat : Int) = _
  rw [show ((i : Int) + 1 + (j : Int)).toNat = i + 1 + j by omega]
theorem ObjAt.objE {i S P : Nat} (o : ObjAt h i S P) : h.objE ((i : Int) + 1) = 0 := by
  unfold HS.objE
  rw [if_neg (by omega), show ((i : Int) + 1 - 1) = (i : Int) by omega, o.e, o.kind]
  rfl
theorem ObjAt.objV {i S P : Nat} (o : ObjAt h i S P) : h.objV ((i : Int) + 1) = ⟨1, S, P, (atH h.n h.f (i : Int)).age, 0⟩ := by
  unfold HS.objV
  rw [if_pos o.objE, show ((i : Int) + 1 - 1) = (i : Int) by omega]
  obtain ⟨_, _, _, h3, _⟩ := objE_0 o.objE
  rw [show ((i : Int) + 1 - 1) = (i : Int) by omega] at h3
  have hw := h3.ways
  have k1 := o.kind
  have k2 := o.size
  have k3 := o.ptrs
  generalize atH h.n h.f (i : Int) = H at *
  obtain ⟨a, b, c, d, e⟩ := H
  simp only at *
  rw [Hd.mk.injEq]
  omega
theorem Known.le {l o : List Int} {n : Nat} (hk : Known l o) (ho : ∀ a, a ∈ o → 0 ≤ a ∧ a < (n : Int)) {r : Int} (hr : r ∈ l) : 0 ≤ r ∧ r ≤ (n : Int) := by
  rcases hk r hr with rfl | h1
  · omega
  · have := ho _ h1; omega
end HS
end Go.Proofs.YthacgiajnafpgaaGreatDoor
/- Package heap: what lies where, as far as the calls that only look go; word, Object. -/
namespace Go.Proofs.YthacgiajnafpgaaGreatDoor
set_option linter.unusedVariables false
set_option linter.unusedSimpArgs false
set_option maxRecDepth 100000
open Go.RowKit Go.Gl

/-- Where a heap's parts lie: its struct, the arena, the table of regions; the other tables' pointers; the stacks, the buffers; the stacks' bound. -/
structure HL where
  hb : Nat
  ab : Nat
  aw : Nat
  tb : Nat
  sb : Nat
  pb : Nat
  mb : Nat
  vo : Value
  vc : Value
  vq : Value
  vs : Value
  vm : Value
  cfg : Cfg
  m : Nat → Int
  rA : Option Addr
  rc : Nat
  rG : List Nat
  S : Nat → Nat
  bb : Nat
  B : Nat
def HL.cells (L : HL) (g : Geo) (T : Nat) : Array Value :=
  #[.int .i64 L.cfg.shift, .int .i64 L.cfg.regions, .int .i64 L.cfg.cardShift, .int .i64 L.cfg.threads, .int .i64 L.cfg.roots, .int .i64 L.cfg.refiners, .int .i64 L.cfg.markers, .int .i64 L.cfg.young, .int .i64 L.cfg.tenure, .int .i64 L.cfg.queue, .int .i64 L.cfg.stack, .int .i64 L.cfg.budget, .int .i64 L.cfg.percent, .int .i64 L.cfg.fail,
    .int .i64 g.words, .int .i64 g.rw, .int .i64 g.cw, .int .i64 g.regions, .int .i64 g.cards, .int .i64 g.max,
    .pointer (some ⟨L.ab, 0, none⟩), .pointer (some ⟨L.tb, 0, none⟩), L.vo, L.vc, L.vq, L.vs, L.vm, .slice L.rA T L.rc, .slice (some ⟨L.bb, 0, none⟩) T T]
def stkV (S : Nat → Nat) (T : Nat) : List Value := (List.range T).map fun i => .pointer (some ⟨S i, 0, none⟩)
def bufV (T : Nat) (x y : Nat → Int) : Array Value := (rows2 (fun i => .int .i64 (x i)) (fun i => .int .i64 (y i)) T).toArray
/-- A heap of the numbers h lies in memory. -/
structure Hr (w : World) (L : HL) (h : HS) (s k : Nat) : Prop where
  st : Blk w L.hb 51 (L.cells h.g h.T)
  ar : ∃ c, Ar w L.ab L.aw h.n h.f c
  rg : Rg w L.tb L.sb L.pb L.mb h.W h.R h.s h.t L.m
  row : Lr w 115 L.rA h.T L.rc L.rG (stkV L.S h.T)
  stk : ∀ i, i < h.T → ∃ F, HkP w (L.S i) F L.B (h.st i)
  buf : Blk w L.bb 295 (bufV h.T h.bx h.be)
  ok : h.Ok s k
  tab : Tab w
section
variable {w w' : World} {L : HL} {h : HS} {s k : Nat} {F : List Nat}
theorem HkP.ab {l : List Int} {s k : Nat} (H : HkP w s F k l) {b : Nat} {cs : Array Value} (hb : Blk w b 150 cs) : ∀ g, g ∈ F → g ∉ [b] := by
  obtain ⟨A, c, G, H, rfl⟩ := H
  intro g hg hx
  simp only [List.mem_singleton] at hx
  subst hx
  rcases List.mem_cons.1 hg with rfl | hg
  · exact H.st.apart hb (by decide) rfl
  · exact H.row.apart hb (by decide) hg
theorem Tab.ab (hT : Tab w) {b : Nat} {t : TypeId} {A : Option Addr} {n c : Nat} {cs : Array Value} (hb : Blk w b t cs) (h0 : cs[0]? = some (.slice A n c)) : 0 ∉ [b] := by
  intro hx
  have hx := List.mem_singleton.1 hx
  have h1 := hT 0 (by decide)
  have h2 := hb.cell 0
  rw [← hx] at h2
  rw [h2, h0] at h1
  cases h1
/-- Only the arena's count of accesses has turned, and what is new. -/
theorem Hr.fr1 (H : Hr w L h s k) (hf : Fr [L.ab] w w') (ha : ∃ c, Ar w' L.ab L.aw h.n h.f c) : Hr w' L h s k := by
  obtain ⟨c, hc⟩ := H.ar
  have ne : ∀ {b : Nat} {t : TypeId} {cs : Array Value}, Blk w b t cs → t ≠ 150 → b ∉ [L.ab] := fun hb ht hx => by
    simp only [List.mem_singleton] at hx
    exact hb.apart hc.set ht hx
  refine ⟨H.st.fr hf (ne H.st (by decide)), ha, H.rg.fr hf (ne H.rg.set (by decide)) (ne H.rg.st (by decide)) (ne H.rg.tops (by decide)) (ne H.rg.tams (by decide)), H.row.fr hf (fun g hg hx => ?_), fun i hi => ?_, H.buf.fr hf (ne H.buf (by decide)), H.ok, H.tab.fr hf (H.tab.ab hc.set rfl)⟩
  · simp only [List.mem_singleton] at hx
    subst hx
    exact H.row.apart hc.set (by decide) hg
  · obtain ⟨F, h1⟩ := H.stk i hi
    exact ⟨F, h1.fr hf (h1.ab hc.set)⟩
theorem Hr.fr0 (H : Hr w L h s k) (hf : Fr [] w w') : Hr w' L h s k := by
  obtain ⟨c, hc⟩ := H.ar
  exact H.fr1 (hf.mono (fun x hx => by cases hx)) ⟨c, hc.fr hf (by simp) (by simp)⟩
theorem Hr.geo (H : Hr w L h s k) : w.cell? ⟨L.hb, 14, none⟩ = some (.int .i64 h.g.words) ∧ w.cell? ⟨L.hb, 15, none⟩ = some (.int .i64 h.g.rw) ∧ w.cell? ⟨L.hb, 16, none⟩ = some (.int .i64 h.g.cw) ∧ w.cell? ⟨L.hb, 17, none⟩ = some (.int .i64 h.g.regions) ∧ w.cell? ⟨L.hb, 18, none⟩ = some (.int .i64 h.g.cards) ∧ w.cell? ⟨L.hb, 19, none⟩ = some (.int .i64 h.g.max) :=
  ⟨H.st.cell 14, H.st.cell 15, H.st.cell 16, H.st.cell 17, H.st.cell 18, H.st.cell 19⟩
theorem Hr.cT (H : Hr w L h s k) : w.cell? ⟨L.hb, 21, none⟩ = some (.pointer (some ⟨L.tb, 0, none⟩)) := H.st.cell 21
theorem Hr.cR (H : Hr w L h s k) : w.cell? ⟨L.hb, 27, none⟩ = some (.slice L.rA h.T L.rc) := H.st.cell 27
theorem Hr.cB (H : Hr w L h s k) : w.cell? ⟨L.hb, 28, none⟩ = some (.slice (some ⟨L.bb, 0, none⟩) h.T h.T) := H.st.cell 28
end
/-- What a call that only looks answers. -/
def HrP (w : World) (L : HL) (h : HS) (s k : Nat) (v : Value) (e : Ending) (w' : World) : Prop := e = .returned v ∧ Hr w' L h s k ∧ Fr [L.ab] w w'
section
variable {w : World} {L : HL} {h : HS} {s k : Nat}
end
end Go.Proofs.YthacgiajnafpgaaGreatDoor
