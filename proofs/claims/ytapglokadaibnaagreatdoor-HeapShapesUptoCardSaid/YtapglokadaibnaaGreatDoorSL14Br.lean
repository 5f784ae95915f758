/- Things laid in a heap: its rows, its objects, when it is sound. -/
import Derived.Test.YtapglokadaibnaaGreatDoorSWe
import Derived.Test.YtapglokadaibnaaGreatDoorSWi
import Derived.Test.YtapglokadaibnaaGreatDoorSVp
namespace Go.Proofs.YtapglokadaibnaaGreatDoor
set_option linter.unusedVariables false
set_option linter.unusedSimpArgs false
set_option maxRecDepth 100000
open Go.RowKit Go.Gl HS

theorem range_one : ∀ {n i : Nat}, i < n → (List.range n).filter (fun j => j == i) = [i] := by
  intro n
  induction n with
  | zero => intro i h; omega
  | succ m ih =>
    intro i h
    rw [List.range_succ, List.filter_append]
    by_cases e : i = m
    · subst e
      have h0 : (List.range i).filter (fun j => j == i) = [] := List.filter_eq_nil_iff.2 fun j hj => by have := List.mem_range.1 hj; simp; omega
      rw [h0]
      simp
    · rw [ih (by omega)]
      have h1 : (m == i) = false := by simp; omega
      simp [h1]
section
variable {p : Pl} {A : Nat → Nat} {n : Nat} {w d : Nat → Nat → Nat} {h : HS} {s k : Nat}
theorem Lay.left (l : Lay p A n w d h) (r : Int) : ∀ T, h.leftL r T = [] := fun T => by
  induction T with
  | zero => rfl
  | succ T ih =>
    unfold HS.leftL
    rw [ih, l.bx, l.be, if_neg (by omega)]
    rfl
theorem Lay.endOf (l : Lay p A n w d h) (r : Nat) : h.endOf r = h.t r := by unfold HS.endOf; rw [if_pos (l.left _ _)]
theorem Lay.objAt (l : Lay p A n w d h) {i : Nat} (hi : i < n) : ObjAt h (A i) (p.T i).sz (p.T i).rf.length := by
  have h1 := l.alt hi
  have hz := sz_pos (p.T i)
  have hzm := l.zm i hi
  have hp : (p.T i).rf.length < (p.T i).sz := by unfold PT.sz; omega
  have of := of_objW (s := (p.T i).sz) (p := (p.T i).rf.length) ⟨hz, hzm⟩ hp
  have hat := at_in (n := h.n) (f := h.f) (k := A i) h1
  rw [l.hdr i hi, of] at hat
  have hin := (l.top i hi (A i + (p.T i).sz - 1) (by omega) (by omega)).1
  exact ⟨h1, by rw [l.hdr i hi, of]; exact hat.1.symm, hat.2.trans rfl, by rw [hat.1]; rfl, by rw [hat.1]; rfl, by rw [hat.1]; rfl, hz, hzm, hp, by omega⟩
theorem Lay.row_none (l : Lay p A n w d h) {r : Nat} (hs : h.s r = 0 ∨ h.s r = 5) : rowsOf A h.W n r = [] := by
  refine List.eq_nil_iff_forall_not_mem.2 fun i hi => ?_
  obtain ⟨h1, h2⟩ := rowsOf_mem.1 hi
  have h3 := l.st i h1
  have h4 := l.y i h1
  rw [h2] at h3
  omega
theorem Lay.row_big (l : Lay p A n w d h) {r : Nat} (hr : r < h.R) (hs : h.s r = 4) : ∃ i, i < n ∧ A i = r * h.W ∧ (p.T i).st = 4 ∧ rowsOf A h.W n r = [i] := by
  obtain ⟨i, h1, h2, h3⟩ := l.hum r hr hs
  have hW := l.W1
  refine ⟨i, h1, h2, h3, ?_⟩
  have hall : ∀ j, j < n → (A j / h.W == r) = (j == i) := fun j hj => by
    by_cases e : j = i
    · subst e
      have : A j / h.W = r := by rw [h2]; exact Nat.mul_div_cancel _ (by omega)
      simp [this]
    · have hne : ¬ A j / h.W = r := fun e2 => by
        have h4 := l.st j hj
        rw [e2, hs] at h4
        have h5 := (l.big j hj h4.symm).1
        rw [e2] at h5
        have z1 := sz_pos (p.T j)
        have z2 := sz_pos (p.T i)
        exact e (l.dis j i hj h1 (A j) (Nat.le_refl _) (by omega) (by omega) (by omega))
      have h6 : (A j / h.W == r) = false := by simpa using hne
      have h7 : (j == i) = false := by simpa using e
      rw [h6, h7]
  unfold rowsOf
  have e1 : (List.range n).filter (fun j => A j / h.W == r) = (List.range n).filter (fun j => j == i) := List.filter_congr fun j hj => hall j (List.mem_range.1 hj)
  rw [e1]
  exact range_one h1
theorem Lay.rows (l : Lay p A n w d h) (ok : h.Ok s k) {r : Nat} (hr : r < h.R) : h.rowL (r : Int) = (rowsOf A h.W n r).map (fun i => (A i : Int)) ∧ h.rowE (r : Int) = 0 := by
  have hW := l.W1
  have hs := ok.sok r hr
  have ht := ok.tok r hr
  have hb := ok.base_le hr
  unfold HS.rowL HS.rowE
  have hin : ¬ ¬ (0 ≤ (r : Int) ∧ (r : Int) < (h.R : Int)) := by omega
  rw [if_neg hin, if_neg hin, Int.toNat_natCast]
  by_cases h3 : h.s r = 1 ∨ h.s r = 2 ∨ h.s r = 3
  · rw [if_pos h3, if_pos h3, l.endOf r]
    have hrow := l.row r hr h3
    have ha := hrow.ans (n := h.n) (by omega)
    have e : (((h.t r).toNat : Nat) : Int) = h.t r := by omega
    rw [e] at ha
    exact ha
  · rw [if_neg h3, if_neg h3]
    by_cases h4 : h.s r = 4
    · rw [if_pos h4, if_pos h4]
      obtain ⟨i, i1, i2, i3, i4⟩ := l.row_big hr h4
      have ho := l.objAt i1
      have hE := ho.objE
      have hV := ho.objV
      rw [i2] at hE hV
      have hbig : h.bigE r = 0 := by
        unfold HS.bigE
        rw [if_neg (by rw [hE]; exact fun h => h rfl), hV, if_pos]
        intro q q1 q2
        have h5 := (l.big i i1 i3).2 q q1 (by
          have q2 : (q : Int) < h.g.spanOf ((p.T i).sz : Int) := q2
          have hz := sz_pos (p.T i)
          unfold Geo.spanOf at q2
          rw [if_neg (by omega), ok.rw] at q2
          have hWp : (0 : Int) < (h.W : Int) := by omega
          have h6 := Int.mul_lt_of_lt_ediv (a := (q : Int) - 1 ) (b := (((p.T i).sz : Int) - 1)) (c := (h.W : Int)) hWp
          have h7 : (q : Int) ≤ (((p.T i).sz : Int) - 1) / (h.W : Int) := by omega
          have h8 := Int.mul_le_of_le_ediv hWp h7
          have h9 : ((q * h.W : Nat) : Int) = (q : Int) * (h.W : Int) := Int.natCast_mul _ _
          omega)
        have e2 : A i / h.W = r := by rw [i2]; exact Nat.mul_div_cancel _ (by omega)
        rw [e2] at h5
        unfold HS.stateOf
        rw [if_pos ⟨by omega, by omega⟩]
        have e3 : ((r : Int) + (q : Int)).toNat = r + q := by omega
        rw [e3]
        exact h5.2
      rw [hbig, if_pos rfl, i4]
      exact ⟨by simp [i2], rfl⟩
    · rw [if_neg h4, if_neg h4, l.row_none (by omega)]
      exact ⟨rfl, rfl⟩
theorem Lay.mem (l : Lay p A n w d h) (ok : h.Ok s k) {a : Int} : a ∈ h.objL ↔ ∃ i, i < n ∧ a = (A i : Int) := by
  rw [mem_objL]
  constructor
  · rintro ⟨r, hr, h1, _⟩
    rw [(l.rows ok hr).1] at h1
    obtain ⟨i, hi, rfl⟩ := List.mem_map.1 h1
    exact ⟨i, (rowsOf_mem.1 hi).1, rfl⟩
  · rintro ⟨i, hi, rfl⟩
    refine ⟨A i / h.W, l.rlt (l.alt hi), ?_, (l.objAt hi).objE⟩
    rw [(l.rows ok (l.rlt (l.alt hi))).1]
    exact List.mem_map.2 ⟨i, rowsOf_mem.2 ⟨hi, rfl⟩, rfl⟩
theorem Lay.refs (l : Lay p A n w d h) {i : Nat} (hi : i < n) : h.refsAt (A i : Int) = (List.range (p.T i).rf.length).map fun j => (w i j : Int) := by
  rw [(l.objAt hi).refs]
  refine List.map_congr_left fun j hj => ?_
  rw [l.ref i hi j (List.mem_range.1 hj)]
/-- A place where nothing or an object is. -/
def Leads (A : Nat → Nat) (n : Nat) (v : Nat) : Prop := v = 0 ∨ ∃ q, q < n ∧ v = A q + 1
theorem leads_lnk {A : Nat → Nat} {n : Nat} {r : Int} (h0 : 0 ≤ r) (h1 : r ≤ (n : Int)) : Leads A n (lnk A r) := by
  unfold lnk
  by_cases e : r = 0
  · rw [if_pos e]; exact .inl rfl
  · rw [if_neg e]; exact .inr ⟨r.toNat - 1, by omega, rfl⟩
theorem Lay.known (l : Lay p A n w d h) (ok : h.Ok s k) {v : Nat} : ((v : Int) = 0 ∨ (v : Int) - 1 ∈ h.objL) ↔ Leads A n v := by
  rw [l.mem ok]
  constructor
  · rintro (h1 | ⟨q, hq, h1⟩)
    · exact .inl (by omega)
    · exact .inr ⟨q, hq, by omega⟩
  · rintro (h1 | ⟨q, hq, h1⟩)
    · exact .inl (by omega)
    · exact .inr ⟨q, hq, by omega⟩
/-- It is sound if each of its references and handles leads to a thing or nowhere. -/
theorem Lay.sound (l : Lay p A n w d h) (ok : h.Ok s k) : h.Sound ↔ (∀ i, i < n → ∀ j, j < (p.T i).rf.length → Leads A n (w i j)) ∧ ∀ t, t < h.T → ∀ r, r ∈ h.st t → Leads A n r.toNat := by
  constructor
  · intro hs
    refine ⟨fun i hi j hj => ?_, fun t ht r hr => ?_⟩
    · have h1 := hs.refs (A i : Int) ((l.mem ok).2 ⟨i, hi, rfl⟩)
      rw [l.refs hi] at h1
      exact (l.known ok).1 (h1 _ (List.mem_map.2 ⟨j, List.mem_range.2 hj, rfl⟩))
    · have h1 := hs.stk t ht r hr
      have h2 := (ok.rok t ht r hr).1
      have e : ((r.toNat : Nat) : Int) = r := by omega
      refine (l.known ok).1 ?_
      rw [e]
      exact h1
  · rintro ⟨h1, h2⟩
    refine ⟨fun r hr => (l.rows ok hr).2, fun a ha => ?_, fun t ht r hr => ?_⟩
    · obtain ⟨i, hi, rfl⟩ := (l.mem ok).1 ha
      rw [l.refs hi]
      intro r hr
      obtain ⟨j, hj, rfl⟩ := List.mem_map.1 hr
      exact (l.known ok).2 (h1 i hi j (List.mem_range.1 hj))
    · have h3 := (ok.rok t ht r hr).1
      have e : ((r.toNat : Nat) : Int) = r := by omega
      have := (l.known ok).2 (h2 t ht r hr)
      rw [e] at this
      exact this
end
end Go.Proofs.YtapglokadaibnaaGreatDoor
/- HeapBroken: the walk. -/
namespace Go.Proofs.YtapglokadaibnaaGreatDoor
set_option linter.unusedVariables false
set_option linter.unusedSimpArgs false
set_option maxRecDepth 100000
open Go.RowKit Go.Gl HS

theorem HE.looked {W w w' : World} {L : HL} {X : HX} {h : HS} {x : HT} {s k : Nat} {E : Blks} (H : HE W w L X h x s k E) (hr : Hr w' L h s k) (hf : Fr [L.ab] w w') : HE W w' L X h x s k E := by
  obtain ⟨own, h1, h2⟩ := H
  obtain ⟨k1, k2⟩ := h1.looked hr hf
  exact ⟨own, k1, fun q hq => ⟨(k2.blk (h2 q hq).1 (h2 q hq).2.1).1, (h2 q hq).2⟩⟩
open Classical in
noncomputable def goodB (A : Nat → Nat) (tv : Int) (j : Nat) : Bool := decide (tv = 0 ∨ ∃ m, m < j ∧ tv = (A m : Int) + 1)
namespace HeapBroken
end HeapBroken
end Go.Proofs.YtapglokadaibnaaGreatDoor
