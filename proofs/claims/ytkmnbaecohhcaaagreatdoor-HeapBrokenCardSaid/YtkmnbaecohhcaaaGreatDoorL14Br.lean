/- Things laid in a heap: its rows, its objects, when it is sound. -/
import Derived.Test.YtkmnbaecohhcaaaGreatDoorWe
import Derived.Test.YtkmnbaecohhcaaaGreatDoorWi
import Derived.Test.YtkmnbaecohhcaaaGreatDoorVp
namespace Go.Proofs.YtkmnbaecohhcaaaGreatDoor
set_option linter.unusedVariables false
set_option linter.unusedSimpArgs false
set_option maxRecDepth 100000
open Go.RowKit Go.Gl HS

theorem range_one : ∀ {n i : Nat}, i < n → (List.range n).filter (fun j => j == i) = [i] := by
  intro n
  induction n with
  | zero => intro i h; omega
  | succ m ih =>
    intro i h
    rw [List.range_succ, List.filter_append]
    by_cases e : i = m
    · subst e
      have h0 : (List.range i).filter (fun j => j == i) = [] := List.filter_eq_nil_iff.2 fun j hj => by have := List.mem_range.1 hj; simp; omega
      rw [h0]
      simp
    · rw [ih (by omega)]
      have h1 : (m == i) = false := by simp; omega
      simp [h1]
section
variable {p : Pl} {A : Nat → Nat} {n : Nat} {w d : Nat → Nat → Nat} {h : HS} {s k : Nat}
theorem Lay.left (l : Lay p A n w d h) (r : Int) : ∀ T, h.leftL r T = [] := fun T => by
  induction T with
  | zero => rfl
  | succ T ih =>
    unfold HS.leftL
    rw [ih, l.bx, l.be, if_neg (by omega)]
    rfl
theorem Lay.endOf (l : Lay p A n w d h) (r : Nat) : h.endOf r = h.t r := by unfold HS.endOf; rw [if_pos (l.left _ _)]
theorem Lay.objAt (l : Lay p A n w d h) {i : Nat} (hi : i < n) : ObjAt h (A i) (p.T i).sz (p.T i).rf.length := by
  have h1 := l.alt hi
  have hz := sz_pos (p.T i)
  have hzm := l.zm i hi
  have hp : (p.T i).rf.length < (p.T i).sz := by unfold PT.sz; omega
  have of := of_objW (s := (p.T i).sz) (p := (p.T i).rf.length) ⟨hz, hzm⟩ hp
  have hat := at_in (n := h.n) (f := h.f) (k := A i) h1
  rw [l.hdr i hi, of] at hat
  have hin := (l.top i hi (A i + (p.T i).sz - 1) (by omega) (by omega)).1
  exact ⟨h1, by rw [l.hdr i hi, of]; exact hat.1.symm, hat.2.trans rfl, by rw [hat.1]; rfl, by rw [hat.1]; rfl, by rw [hat.1]; rfl, hz, hzm, hp, by omega⟩
theorem Lay.row_none (l : Lay p A n w d h) {r : Nat} (hs : h.s r = 0 ∨ h.s r = 5) : rowsOf A h.W n r = [] := by
  refine List.eq_nil_iff_forall_not_mem.2 fun i hi => ?_
  obtain ⟨h1, h2⟩ := rowsOf_mem.1 hi
  have h3 := l.st i h1
  have h4 := l.y i h1
  rw [h2] at h3
  omega
theorem Lay.row_big (l : Lay p A n w d h) {r : Nat} (hr : r < h.R) (hs : h.s r = 4) : ∃ i, i < n ∧ A i = r * h.W ∧ (p.T i).st = 4 ∧ rowsOf A h.W n r = [i] := by
  obtain ⟨i, h1, h2, h3⟩ := l.hum r hr hs
  have hW := l.W1
  refine ⟨i, h1, h2, h3, ?_⟩
  have hall : ∀ j, j < n → (A j / h.W == r) = (j == i) := fun j hj => by
    by_cases e : j = i
    · subst e
      have : A j / h.W = r := by rw [h2]; exact Nat.mul_div_cancel _ (by omega)
      simp [this]
    · have hne : ¬ A j / h.W = r := fun e2 => by
        have h4 := l.st j hj
        rw [e2, hs] at h4
        have h5 := (l.big j hj h4.symm).1
        rw [e2] at h5
        have z1 := sz_pos (p.T j)
        have z2 := sz_pos (p.T i)
        exact e (l.dis j i hj h1 (A j) (Nat.le_refl _) (by omega) (by omega) (by omega))
      have h6 : (A j / h.W == r) = false := by simpa using hne
      have h7 : (j == i) = false := by simpa using e
      rw [h6, h7]
  unfold rowsOf
  have e1 : (List.range n).filter (fun j => A j / h.W == r) = (List.range n).filter (fun j => j == i) := List.filter_congr fun j hj => hall j (List.mem_range.1 hj)
  rw [e1]
  exact range_one h1
theorem Lay.rows (l : Lay p A n w d h) (ok : h.Ok s k) {r : Nat} (hr : r < h.R) : h.rowL (r : Int) = (rowsOf A h.W n r).map (fun i => (A i : Int)) ∧ h.rowE (r : Int) = 0 := by
  have hW := l.W1
  have hs := ok.sok r hr
  have ht := ok.tok r hr
  have hb := ok.base_le hr
  unfold HS.rowL HS.rowE
  have hin : ¬ ¬ (0 ≤ (r : Int) ∧ (r : Int) < (h.R : Int)) := by omega
  rw [if_neg hin, if_neg hin, Int.toNat_natCast]
  by_cases h3 : h.s r = 1 ∨ h.s r = 2 ∨ h.s r = 3
  · rw [if_pos h3, if_pos h3, l.endOf r]
    have hrow := l.row r hr h3
    have ha := hrow.ans (n := h.n) (by omega)
    have e : (((h.t r).toNat : Nat) : Int) = h.t r := by omega
    rw [e] at ha
    exact ha
  · rw [if_neg h3, if_neg h3]
    by_cases h4 : h.s r = 4
    · rw [if_pos h4, if_pos h4]
      obtain ⟨i, i1, i2, i3, i4⟩ := l.row_big hr h4
      have ho := l.objAt i1
      have hE := ho.objE
      have hV := ho.objV
      rw [i2] at hE hV
      have hbig : h.bigE r = 0 := by
        unfold HS.bigE
        rw [if_neg (by rw [hE]; exact fun h => h rfl), hV, if_pos]
        intro q q1 q2
        have h5 := (l.big i i1 i3).2 q q1 (by
          have q2 : (q : Int) < h.g.spanOf ((p.T i).sz : Int) := q2
          have hz := sz_pos (p.T i)
          unfold Geo.spanOf at q2
          rw [if_neg (by omega), ok.rw] at q2
          have hWp : (0 : Int) < (h.W : Int) := by omega
          have h6 := Int.mul_lt_of_lt_ediv (a := (q : Int) - 1 ) (b := (((p.T i).sz : Int) - 1)) (c := (h.W : Int)) hWp
          have h7 : (q : Int) ≤ (((p.T i).sz : Int) - 1) / (h.W : Int) := by omega
          have h8 := Int.mul_le_of_le_ediv hWp h7
          have h9 : ((q * h.W : Nat) : Int) = (q : Int) * (h.W : Int) := Int.natCast_mul _ _
          omega)
        have e2 : A i / h.W = r := by rw [i2]; exact Nat.mul_div_cancel _ (by omega)
        rw [e2] at h5
        unfold HS.stateOf
        rw [if_pos ⟨by omega, by omega⟩]
        have e3 : ((r : Int) + (q : Int)).toNat = r + q := by omega
        rw [e3]
        exact h5.2
      rw [hbig, if_pos rfl, i4]
      exact ⟨by simp [i2], rfl⟩
    · rw [if_neg h4, if_neg h4, l.row_none (by omega)]
      exact ⟨rfl, rfl⟩
theorem Lay.mem (l : Lay p A n w d h) (ok : h.Ok s k) {a : Int} : a ∈ h.objL ↔ ∃ i, i < n ∧ a = (A i : Int) := by
  rw [mem_objL]
  constructor
  · rintro ⟨r, hr, h1, _⟩
    rw [(l.rows ok hr).1] at h1
    obtain ⟨i, hi, rfl⟩ := List.mem_map.1 h1
    exact ⟨i, (rowsOf_mem.1 hi).1, rfl⟩
  · rintro ⟨i, hi, rfl⟩
    refine ⟨A i / h.W, l.rlt (l.alt hi), ?_, (l.objAt hi).objE⟩
    rw [(l.rows ok (l.rlt (l.alt hi))).1]
    exact List.mem_map.2 ⟨i, rowsOf_mem.2 ⟨hi, rfl⟩, rfl⟩
theorem Lay.refs (l : Lay p A n w d h) {i : Nat} (hi : i < n) : h.refsAt (A i : Int) = (List.range (p.T i).rf.length).map fun j => (w i j : Int) := by
  rw [(l.objAt hi).refs]
  refine List.map_congr_left fun j hj => ?_
  rw [l.ref i hi j (List.mem_range.1 hj)]
/-- A place where nothing or an object is. -/
def Leads (A : Nat → Nat) (n : Nat) (v : Nat) : Prop := v = 0 ∨ ∃ q, q < n ∧ v = A q + 1
theorem leads_lnk {A : Nat → Nat} {n : Nat} {r : Int} (h0 : 0 ≤ r) (h1 : r ≤ (n : Int)) : Leads A n (lnk A r) := by
  unfold lnk
  by_cases e : r = 0
  · rw [if_pos e]; exact .inl rfl
  · rw [if_neg e]; exact .inr ⟨r.toNat - 1, by omega, rfl⟩
theorem Lay.known (l : Lay p A n w d h) (ok : h.Ok s k) {v : Nat} : ((v : Int) = 0 ∨ (v : Int) - 1 ∈ h.objL) ↔ Leads A n v := by
  rw [l.mem ok]
  constructor
  · rintro (h1 | ⟨q, hq, h1⟩)
    · exact .inl (by omega)
    · exact .inr ⟨q, hq, by omega⟩
  · rintro (h1 | ⟨q, hq, h1⟩)
    · exact .inl (by omega)
    · exact .inr ⟨q, hq, by omega⟩
/-- It is sound if each of its references and handles leads to a thing or nowhere. -/
theorem Lay.sound (l : Lay p A n w d h) (ok : h.Ok s k) : h.Sound ↔ (∀ i, i < n → ∀ j, j < (p.T i).rf.length → Leads A n (w i j)) ∧ ∀ t, t < h.T → ∀ r, r ∈ h.st t → Leads A n r.toNat := by
  constructor
  · intro hs
    refine ⟨fun i hi j hj => ?_, fun t ht r hr => ?_⟩
    · have h1 := hs.refs (A i : Int) ((l.mem ok).2 ⟨i, hi, rfl⟩)
      rw [l.refs hi] at h1
      exact (l.known ok).1 (h1 _ (List.mem_map.2 ⟨j, List.mem_range.2 hj, rfl⟩))
    · have h1 := hs.stk t ht r hr
      have h2 := (ok.rok t ht r hr).1
      have e : ((r.toNat : Nat) : Int) = r := by omega
      refine (l.known ok).1 ?_
      rw [e]
      exact h1
  · rintro ⟨h1, h2⟩
    refine ⟨fun r hr => (l.rows ok hr).2, fun a ha => ?_, fun t ht r hr => ?_⟩
    · obtain ⟨i, hi, rfl⟩ := (l.mem ok).1 ha
      rw [l.refs hi]
      intro r hr
      obtain ⟨j, hj, rfl⟩ := List.mem_map.1 hr
      exact (l.known ok).2 (h1 i hi j (List.mem_range.1 hj))
    · have h3 := (ok.rok t ht r hr).1
      have e : ((r.toNat : Nat) : Int) = r := by omega
      have := (l.known ok).2 (h2 t ht r hr)
      rw [e] at this
      exact this
end
end Go.Proofs.YtkmnbaecohhcaaaGreatDoor
/- HeapBroken: the walk. -/
namespace Go.Proofs.YtkmnbaecohhcaaaGreatDoor
set_option linter.unusedVariables false
set_option linter.unusedSimpArgs false
set_option maxRecDepth 100000
open Go.RowKit Go.Gl HS

theorem HE.looked {W w w' : World} {L : HL} {X : HX} {h : HS} {x : HT} {s k : Nat} {E : Blks} (H : HE W w L X h x s k E) (hr : Hr w' L h s k) (hf : Fr [L.ab] w w') : HE W w' L X h x s k E := by
  obtain ⟨own, h1, h2⟩ := H
  obtain ⟨k1, k2⟩ := h1.looked hr hf
  exact ⟨own, k1, fun q hq => ⟨(k2.blk (h2 q hq).1 (h2 q hq).2.1).1, (h2 q hq).2⟩⟩
theorem hlost_bad {w : World} {L : HL} {h : HS} {s k : Nat} (H : Hr w L h s k) (hs : ¬ h.Sound) (v : Value) : Calls Tryz.prog 20 #[.pointer (some ⟨L.hb, 0, none⟩), v] w (HrP w L h s k (.slice none 0 0)) := by
  have HC := hide (hcheck_any H)
  rw [checkE_bad hs] at HC
  unfold HrP at HC ⊢
  clear H hs
  go_enter Tryz.func20, Tryz.ntmps20
  go_wp2_with fail
  refine HC.out.mono ?_
  rintro e w' ⟨rfl, hr, hf⟩
  have HR := hide hr
  have HF := hide hf
  clear hr hf
  go_wp2_with fail
  go_ret
  exact ⟨rfl, HR.out, HF.out⟩
theorem into14 (x : Int) {n : Nat} (hn : 0 < n) : ∃ I : Nat, (x.tmod (n : Int) + (n : Int)) % (n : Int) = (I : Int) ∧ -(n : Int) < x.tmod (n : Int) ∧ x.tmod (n : Int) < (n : Int) ∧ I < n := by
  have h1 := Int.lt_tmod_of_pos x (show (0 : Int) < (n : Int) by omega)
  have h2 := Int.tmod_lt_of_pos x (show (0 : Int) < (n : Int) by omega)
  obtain ⟨F, hF⟩ := Int.eq_ofNat_of_zero_le (Int.emod_nonneg (x.tmod (n : Int) + (n : Int)) (show (n : Int) ≠ 0 by omega))
  have h3 := Int.emod_lt_of_pos (x.tmod (n : Int) + (n : Int)) (show (0 : Int) < (n : Int) by omega)
  exact ⟨F, hF, h1, h2, by have hF : (x.tmod (n : Int) + (n : Int)) % (n : Int) = (F : Int) := hF; omega⟩
open Classical in
noncomputable def goodB (A : Nat → Nat) (tv : Int) (j : Nat) : Bool := decide (tv = 0 ∨ ∃ m, m < j ∧ tv = (A m : Int) + 1)
theorem goodB_iff {A : Nat → Nat} {tv : Int} {j : Nat} : goodB A tv j = true ↔ (tv = 0 ∨ ∃ m, m < j ∧ tv = (A m : Int) + 1) := by unfold goodB; simp
theorem goodB_zero {A : Nat → Nat} {tv : Int} : goodB A tv 0 = decide (tv = 0) := by rw [Bool.eq_iff_iff, goodB_iff]; simp
theorem goodB_succ {A : Nat → Nat} {tv : Int} {j : Nat} : goodB A tv (j + 1) = (goodB A tv j || decide (tv = (A j : Int) + 1)) := by
  rw [Bool.eq_iff_iff, Bool.or_eq_true, goodB_iff, goodB_iff, decide_eq_true_iff]
  constructor
  · rintro (h | ⟨m, h1, h2⟩)
    · exact .inl (.inl h)
    · by_cases e : m = j
      · subst e; exact .inr h2
      · exact .inl (.inr ⟨m, by omega, h2⟩)
  · rintro ((h | ⟨m, h1, h2⟩) | h)
    · exact .inl h
    · exact .inr ⟨m, by omega, h2⟩
    · exact .inr ⟨j, by omega, h⟩
namespace HeapBroken
set_option maxHeartbeats 6400000 in
theorem walk (W : World) (hT : Tab W) (Q : PA) (p : Pl) (hP : PlAt W Q p) (who field tv : Int) (h0 : 0 ≤ tv) (h1 : tv < 18446744073709551616) :
    Calls Tryz.prog 4 #[Q.val p, .int .i64 who, .int .i64 field, .int .u64 tv] W fun e w' => e = .returned (.bool true) ∧ Fr [] W w' := by
  have HT := hide hT
  have HP := hide hP
  have hnm := hP.nm
  obtain ⟨tA, htA⟩ : ∃ y, y = Q.tA := ⟨_, rfl⟩
  obtain ⟨hAd, hhA⟩ : ∃ y, y = Q.hA := ⟨_, rfl⟩
  have HTA := hide htA
  have HHA := hide hhA
  have HR : Hid (∀ w', Fr [] W w' → Calls Tryz.prog 8 #[Q.val p] w' fun e w'' => e = .returned (.bool p.rightB) ∧ Fr [] w' w'') := fun w' hf => right14_any (HP.out.fr0 hf)
  have HB : Hid (p.Right → ∀ w', Fr [] W w' → Calls Tryz.prog 9 #[Q.val p] w' (BuiltP w' p)) := fun hr w' hf => build14_any (HT.out.fr hf (by simp)) (Fr.refl _ _) (HP.out.fr0 hf) hr
  unfold PA.val at HR HB ⊢
  rw [← htA, ← hhA] at HR HB ⊢
  clear hT hP htA hhA
  obtain ⟨b, hb⟩ : ∃ b, p.rightB = b := ⟨_, rfl⟩
  rw [hb] at HR
  have HBB := hide hb
  clear hb
  go_enter Tryz.func4, Tryz.ntmps4
  go_wp2_with fail
  refine (awake14_any _ (HT.out.alloc _)).mono ?_
  rintro e w1 ⟨rfl, hf⟩
  have hB := (Blk.new W 27 #[.int .i64 p.c.shift, .int .i64 p.c.regions, .int .i64 p.c.cardShift, .int .i64 p.c.threads, .int .i64 p.c.roots, .int .i64 p.c.refiners, .int .i64 p.c.markers, .int .i64 p.c.young, .int .i64 p.c.tenure, .int .i64 p.c.queue, .int .i64 p.c.stack, .int .i64 p.c.budget, .int .i64 p.c.percent, .int .i64 p.c.fail, .slice tA p.n Q.tc, .slice hAd p.m Q.hc]).fr hf (by simp)
  have HF := hide (((Fr.refl [] W).alloc (.cells #[.int .i64 p.c.shift, .int .i64 p.c.regions, .int .i64 p.c.cardShift, .int .i64 p.c.threads, .int .i64 p.c.roots, .int .i64 p.c.refiners, .int .i64 p.c.markers, .int .i64 p.c.young, .int .i64 p.c.tenure, .int .i64 p.c.queue, .int .i64 p.c.stack, .int .i64 p.c.budget, .int .i64 p.c.percent, .int .i64 p.c.fail, .slice tA p.n Q.tc, .slice hAd p.m Q.hc] 27)).trans_same hf)
  have HPB := hide hB
  have p0 : w1.cell? ⟨W.heap.size, 0, none⟩ = some (.int .i64 p.c.shift) := hB.cell 0
  have p1 : w1.cell? ⟨W.heap.size, 1, none⟩ = some (.int .i64 p.c.regions) := hB.cell 1
  have p2 : w1.cell? ⟨W.heap.size, 2, none⟩ = some (.int .i64 p.c.cardShift) := hB.cell 2
  have p3 : w1.cell? ⟨W.heap.size, 3, none⟩ = some (.int .i64 p.c.threads) := hB.cell 3
  have p4 : w1.cell? ⟨W.heap.size, 4, none⟩ = some (.int .i64 p.c.roots) := hB.cell 4
  have p5 : w1.cell? ⟨W.heap.size, 5, none⟩ = some (.int .i64 p.c.refiners) := hB.cell 5
  have p6 : w1.cell? ⟨W.heap.size, 6, none⟩ = some (.int .i64 p.c.markers) := hB.cell 6
  have p7 : w1.cell? ⟨W.heap.size, 7, none⟩ = some (.int .i64 p.c.young) := hB.cell 7
  have p8 : w1.cell? ⟨W.heap.size, 8, none⟩ = some (.int .i64 p.c.tenure) := hB.cell 8
  have p9 : w1.cell? ⟨W.heap.size, 9, none⟩ = some (.int .i64 p.c.queue) := hB.cell 9
  have p10 : w1.cell? ⟨W.heap.size, 10, none⟩ = some (.int .i64 p.c.stack) := hB.cell 10
  have p11 : w1.cell? ⟨W.heap.size, 11, none⟩ = some (.int .i64 p.c.budget) := hB.cell 11
  have p12 : w1.cell? ⟨W.heap.size, 12, none⟩ = some (.int .i64 p.c.percent) := hB.cell 12
  have p13 : w1.cell? ⟨W.heap.size, 13, none⟩ = some (.int .i64 p.c.fail) := hB.cell 13
  have p14 : w1.cell? ⟨W.heap.size, 14, none⟩ = some (.slice tA p.n Q.tc) := hB.cell 14
  have p15 : w1.cell? ⟨W.heap.size, 15, none⟩ = some (.slice hAd p.m Q.hc) := hB.cell 15
  clear hf hB
  go_wp2_with fail
  refine (HR.out _ HF.out).mono ?_
  rintro e w2 ⟨rfl, hf⟩
  have HF2 := hide (HF.out.trans_same hf)
  have hB := HPB.out.fr hf (by simp)
  have HPB2 := hide hB
  clear hf HF HPB p0 p1 p2 p3 p4 p5 p6 p7 p8 p9 p10 p11 p12 p13 p14 p15
  have p0 : w2.cell? ⟨W.heap.size, 0, none⟩ = some (.int .i64 p.c.shift) := hB.cell 0
  have p1 : w2.cell? ⟨W.heap.size, 1, none⟩ = some (.int .i64 p.c.regions) := hB.cell 1
  have p2 : w2.cell? ⟨W.heap.size, 2, none⟩ = some (.int .i64 p.c.cardShift) := hB.cell 2
  have p3 : w2.cell? ⟨W.heap.size, 3, none⟩ = some (.int .i64 p.c.threads) := hB.cell 3
  have p4 : w2.cell? ⟨W.heap.size, 4, none⟩ = some (.int .i64 p.c.roots) := hB.cell 4
  have p5 : w2.cell? ⟨W.heap.size, 5, none⟩ = some (.int .i64 p.c.refiners) := hB.cell 5
  have p6 : w2.cell? ⟨W.heap.size, 6, none⟩ = some (.int .i64 p.c.markers) := hB.cell 6
  have p7 : w2.cell? ⟨W.heap.size, 7, none⟩ = some (.int .i64 p.c.young) := hB.cell 7
  have p8 : w2.cell? ⟨W.heap.size, 8, none⟩ = some (.int .i64 p.c.tenure) := hB.cell 8
  have p9 : w2.cell? ⟨W.heap.size, 9, none⟩ = some (.int .i64 p.c.queue) := hB.cell 9
  have p10 : w2.cell? ⟨W.heap.size, 10, none⟩ = some (.int .i64 p.c.stack) := hB.cell 10
  have p11 : w2.cell? ⟨W.heap.size, 11, none⟩ = some (.int .i64 p.c.budget) := hB.cell 11
  have p12 : w2.cell? ⟨W.heap.size, 12, none⟩ = some (.int .i64 p.c.percent) := hB.cell 12
  have p13 : w2.cell? ⟨W.heap.size, 13, none⟩ = some (.int .i64 p.c.fail) := hB.cell 13
  have p14 : w2.cell? ⟨W.heap.size, 14, none⟩ = some (.slice tA p.n Q.tc) := hB.cell 14
  have p15 : w2.cell? ⟨W.heap.size, 15, none⟩ = some (.slice hAd p.m Q.hc) := hB.cell 15
  clear hB
  cases b with
  | false =>
    go_wp2_with fail
    go_ret
    exact ⟨rfl, HF2.out⟩
  | true =>
    have HRt := hide (Pl.rightB_yes.1 HBB.out)
    by_cases hz : p.n = 0
    · have hz0 : ((p.n : Int) == 0) = true := by simp [hz]
      have hz1 : (p.n : Int) = 0 := by omega
      go_wp2_with fail
      all_goals
        go_ret
        exact ⟨rfl, HF2.out⟩
    · have hz0 : ((p.n : Int) == 0) = false := by simp [hz]
      have hz1 : ¬ (p.n : Int) = 0 := by omega
      go_wp2_with fail
      refine (HB.out HRt.out _ HF2.out).mono ?_
      intro e w3 hres
      rcases hres with ⟨L, X, h, x, s, k, A, A0, c, E, rfl, hA, hrow, hl⟩ | ⟨rfl, hf⟩
      · obtain ⟨g, off, hA0, hcell⟩ := hrow.cell (W := w2) (L := L) (X := X) (s := s) (k := k) (by rw [places_len]; omega)
        subst hA0
        rw [places_len] at hcell
        have HCell := hide (fun w h x (H : HE w2 w L X h x s k E) j hj => @hcell w h x H j hj)
        have HX := hide (hA.alloc 33 #[.pointer (some ⟨L.hb, 0, none⟩), .slice (some ⟨g, off, none⟩) p.n c])
        have HL := hide hl
        have N9 := hA.size
        have hp3 := HPB2.out.fr hA.fr (by simp)
        have q14 : w3.cell? ⟨W.heap.size, 14, none⟩ = some (.slice tA p.n Q.tc) := hp3.cell 14
        have N0 : W.heap.size < w3.heap.size := hp3.lt
        have ta := HTA.out.trans (HP.out.ta (by omega))
        subst ta
        have HPw := hide (HP.out.fr0 (HF2.out.trans_same hA.fr))
        obtain ⟨I, hI, i1, i2, hIn⟩ := into14 who (n := p.n) (by omega)
        have hIn1 : (I : Int) < (p.n : Int) := by omega
        have y0 := HPw.out.t0 I hIn
        have y1 := HPw.out.t1 I hIn
        have y2 := HPw.out.t2 I hIn
        have N1 : Q.tb < w3.heap.size := lt_of_cell y0
        have hrm := HP.out.rm I hIn
        have hnn : (0 : Int) < (p.n : Int) := by omega
        have hp200 := HRt.out.n
        have hz9 : ¬ (p.n : Int) = 0 := by omega
        obtain ⟨rn, hrn⟩ : ∃ rn, (p.T I).rf.length = rn := ⟨_, rfl⟩
        rw [hrn] at y1 hrm
        have HRn := hide hrn
        have HFA := hide hA.fr
        have HHm := hide hA.ok.nmax
        clear hA hrow hl hp3 hrn p0 p1 p2 p3 p4 p5 p6 p7 p8 p9 p10 p11 p12 p13 p14 p15 HB HR HPB2 hcell
        by_cases hr0 : rn = 0
        · have hr1 : (rn : Int) = 0 := by omega
          go_wp2_with fail
          go_quiet (fail)
          go_wp2
          all_goals
            go_ret
            exact ⟨rfl, HF2.out.trans_same ((((HFA.out).alloc _).drewN _).alloc _)⟩
        · have hr1 : ¬ (rn : Int) = 0 := by omega
          have hrp : (0 : Int) < (rn : Int) := by omega
          go_wp2_with fail
          go_quiet (fail)
          go_wp2
          have e7 : ((w3.alloc (.cells #[.pointer (some ⟨L.hb, 0, none⟩), .slice (some ⟨g, off, none⟩) p.n c] 33)).drewN nq).heap.size = w3.heap.size + 1 := by simp
          have h7 := (HX.out.fr0 ((Fr.refl _ _).drewN nq)).alloc 70 #[.int .i64 (p.T I).st, .slice (Q.rA I) rn (Q.rc I), .slice (Q.dA I) (p.T I).dt.length (Q.dc I)]
          rw [e7] at h7
          have HX7 := hide h7
          have t1 := (h7.blk (List.mem_cons_self ..)).cell 1
          have t1 : (((w3.alloc (.cells #[.pointer (some ⟨L.hb, 0, none⟩), .slice (some ⟨g, off, none⟩) p.n c] 33)).drewN nq).alloc (.cells #[.int .i64 (p.T I).st, .slice (Q.rA I) rn (Q.rc I), .slice (Q.dA I) (p.T I).dt.length (Q.dc I)] 70)).cell? ⟨w3.heap.size + 1, 1, none⟩ = some (.slice (Q.rA I) rn (Q.rc I)) := t1
          clear e7 h7 HX y0 y1 y2 q14
          generalize ((w3.alloc (.cells #[.pointer (some ⟨L.hb, 0, none⟩), .slice (some ⟨g, off, none⟩) p.n c] 33)).drewN nq).alloc (.cells #[.int .i64 (p.T I).st, .slice (Q.rA I) rn (Q.rc I), .slice (Q.dA I) (p.T I).dt.length (Q.dc I)] 70) = w5 at *
          generalize w3.heap.size + 1 = b10 at *
          generalize w3.heap.size = b9 at *
          obtain ⟨K, hK, k1, k2, hKn⟩ := into14 field (n := rn) (by omega)
          have hKn1 : (K : Int) < (rn : Int) := by omega
          have hrs : rn ≤ 1048576 := by
            have h5 := (HRt.out.t I hIn).zm
            have h6 : p.c.geo.max ≤ 1048576 := Int.min_le_left _ _
            have h7 := HRn.out
            unfold PT.sz at h5
            omega
          go_quiet (fail)
          go_wp2
          have HX8 := hide (HX7.out.fr0 ((Fr.refl _ _).drewN nq))
          clear HX7 t1
          generalize w5.drewN nq = w6 at *
          go_loopw [15, 16] (fun G v wr => ∃ j : Nat, v = .int .i64 j ∧ j ≤ p.n ∧ G = .bool (goodB A tv j) ∧ Fr [] w6 wr) (fun _ v _ => p.n - (intOf v).toNat)
          case atStart => exact ⟨0, rfl, Nat.zero_le _, by rw [goodB_zero]; first | rfl | (congr 1; rw [Bool.eq_iff_iff]; simp), Fr.refl _ _⟩
          case round =>
            obtain ⟨j, rfl, hj, rfl, hf⟩ := hrel
            have HXr := hide (HX8.out.fr0 hf)
            have HFr := hide hf
            have b1 : wr.cell? ⟨b9, 1, none⟩ = some (.slice (some ⟨g, off, none⟩) p.n c) := (HXr.out.blk (List.mem_cons_of_mem _ (List.mem_cons_self ..))).cell 1
            by_cases hjn : j < p.n
            · have hjn1 : (j : Int) < (p.n : Int) := by omega
              obtain ⟨aj, haj⟩ : ∃ aj, A j = aj := ⟨_, rfl⟩
              have ca : wr.cell? ⟨g, off + j, none⟩ = some (.int .i64 (aj : Int)) := by
                have := HCell.out _ _ _ (HXr.out.sub (fun q hq => List.mem_cons_of_mem _ (List.mem_cons_of_mem _ hq))) j hjn
                rw [places_at A hjn, haj] at this
                exact this
              have hal : aj < 4194304 := by have := HL.out.lay.alt hjn; have := HHm.out; omega
              have HS := hide (goodB_succ (A := A) (tv := tv) (j := j))
              rw [haj] at HS
              clear haj hf
              obtain ⟨G, hG⟩ : ∃ G, goodB A tv j = G := ⟨_, rfl⟩
              obtain ⟨G', hG'⟩ : ∃ G', goodB A tv (j + 1) = G' := ⟨_, rfl⟩
              have HNext : Hid (∃ j_1 : Nat, Value.int .i64 ((j : Int) + 1) = .int .i64 (j_1 : Int) ∧ j_1 ≤ p.n ∧ Value.bool G' = .bool (goodB A tv j_1) ∧ Fr [] w6 wr) := ⟨j + 1, rfl, hjn, by rw [hG'], HFr.out⟩
              rw [hG, hG'] at HS
              rw [hG]
              clear hG hG'
              cases G with
              | true =>
                obtain rfl : G' = true := by rw [HS.out]; rfl
                go_wp2_with fail
                exact ⟨HNext.out, by simp [intOf]; omega⟩
              | false =>
                by_cases ht : tv = (aj : Int) + 1
                · obtain rfl : G' = true := by rw [HS.out]; simp [ht]
                  go_wp2_with fail
                  exact ⟨HNext.out, by simp [intOf]; omega⟩
                · obtain rfl : G' = false := by rw [HS.out]; simp [ht]
                  have hbq : (tv == (aj : Int) + 1) = false := by simpa using ht
                  go_wp2_with fail
                  exact ⟨HNext.out, by simp [intOf]; omega⟩
            · obtain rfl : j = p.n := by omega
              obtain ⟨w7, hw7⟩ : ∃ w7, w7 = wr := ⟨_, rfl⟩
              subst hw7
              obtain ⟨aI, haI⟩ : ∃ aI, A I = aI := ⟨_, rfl⟩
              have hal : aI + 1 + K < h.n := by
                have := (HL.out.lay.top I hIn (A I + 1 + K) (by omega) (by have := HRn.out; unfold PT.sz; omega)).1
                rw [haI] at this
                exact this
              have hnm2 := HHm.out
              have HC : Hid (∀ h' x' w', HE w2 w' L X h' x' s k ((b10, 70, #[.int .i64 (p.T I).st, .slice (Q.rA I) rn (Q.rc I), .slice (Q.dA I) (p.T I).dt.length (Q.dc I)]) :: (b9, 33, #[.pointer (some ⟨L.hb, 0, none⟩), .slice (some ⟨g, off, none⟩) p.n c]) :: E) → w'.cell? ⟨L.hb, 20, none⟩ = some (.pointer (some ⟨L.ab, 0, none⟩)) ∧ w'.cell? ⟨b9, 0, none⟩ = some (.pointer (some ⟨L.hb, 0, none⟩)) ∧ w'.cell? ⟨b9, 1, none⟩ = some (.slice (some ⟨g, off, none⟩) p.n c) ∧ w'.cell? ⟨g, off + I, none⟩ = some (.int .i64 (aI : Int))) := fun h' x' w' q => by
                have c3 := HCell.out _ _ _ (q.sub (fun q hq => List.mem_cons_of_mem _ (List.mem_cons_of_mem _ hq))) I hIn
                rw [places_at A hIn, haI] at c3
                exact ⟨q.hr.cA, (q.blk (List.mem_cons_of_mem _ (List.mem_cons_self ..))).cell 0, (q.blk (List.mem_cons_of_mem _ (List.mem_cons_self ..))).cell 1, c3⟩
              have htv : tv = ((tv.toNat : Nat) : Int) := by omega
              have HStore := hide (fun w (q : HE w2 w L X h x s k ((b10, 70, #[.int .i64 (p.T I).st, .slice (Q.rA I) rn (Q.rc I), .slice (Q.dA I) (p.T I).dt.length (Q.dc I)]) :: (b9, 33, #[.pointer (some ⟨L.hb, 0, none⟩), .slice (some ⟨g, off, none⟩) p.n c]) :: E)) => q.post (fun own q => q.store (i := (aI : Int) + 1 + (K : Int)) (j := aI + 1 + K) (y := tv) (v := tv.toNat) (by omega) hal htv (by omega)))
              have HLw : Hid (Lay p A p.n (fun a b => if a = I ∧ b = K then tv.toNat else lnk A ((p.T a).rf.getD b 0)) (fun a b => if a = I ∧ (p.T I).rf.length + b = K then tv.toNat else dta p a b) { h with f := upd h.f (aI + 1 + K) tv.toNat }) := by
                have := HL.out.lay.word (i := I) (m := K) (v := tv.toNat) hIn (by have := HRn.out; unfold PT.sz; omega)
                rw [haI] at this
                exact this
              have HSnd : Hid (∀ s k, HS.Ok { h with f := upd h.f (aI + 1 + K) tv.toNat } s k → (HS.Sound { h with f := upd h.f (aI + 1 + K) tv.toNat } ↔ goodB A tv p.n = true)) := fun s k ok => by
                rw [HLw.out.sound ok, goodB_iff]
                constructor
                · rintro ⟨g1, _⟩
                  have g2 := g1 I hIn K (by rw [HRn.out]; exact hKn)
                  rw [if_pos ⟨rfl, rfl⟩] at g2
                  rcases g2 with g2 | ⟨q, q1, q2⟩
                  · exact .inl (by omega)
                  · exact .inr ⟨q, q1, by omega⟩
                · intro hg
                  refine ⟨fun i hi j hj => ?_, fun t ht r hr => ?_⟩
                  · by_cases e : i = I ∧ j = K
                    · show Leads A p.n (if i = I ∧ j = K then tv.toNat else _)
                      rw [if_pos e]
                      rcases hg with hg | ⟨m, m1, m2⟩
                      · exact .inl (by omega)
                      · exact .inr ⟨m, m1, by omega⟩
                    · show Leads A p.n (if i = I ∧ j = K then tv.toNat else _)
                      rw [if_neg e]
                      have hr2 := (HRt.out.t i hi).rf ((p.T i).rf.getD j 0) (by
                        rw [List.getD_eq_getElem?_getD, List.getElem?_eq_getElem hj]
                        exact List.getElem_mem _)
                      exact leads_lnk hr2.1 hr2.2
                  · have hr : r ∈ h.st t := hr
                    have ht : t < h.T := ht
                    rw [HL.out.st t ht] at hr
                    split at hr
                    · rename_i hm
                      obtain ⟨q, q1, q2⟩ := List.mem_map.1 hr
                      have hr2 := HRt.out.hr t hm q q1
                      have := leads_lnk (A := A) hr2.1 hr2.2
                      rw [← q2]
                      simpa using this
                    · cases hr
              obtain ⟨G, hG⟩ : ∃ G, goodB A tv p.n = G := ⟨_, rfl⟩
              rw [hG] at HSnd ⊢
              clear hf haI hG hnm2 htv
              obtain ⟨k20, k90, k91, kA⟩ := HC.out _ _ _ HXr.out
              go_wp2_with fail
              clear k20 k90 k91 kA b1
              have HXd := hide (HXr.out.fr0 (Fr.refl _ _).drew)
              have K0 := HC.out _ _ _ HXd.out
              have hnm3 := HHm.out
              go_region_held3 (fun w' => w'.cell? ⟨L.hb, 20, none⟩ = some (.pointer (some ⟨L.ab, 0, none⟩)) ∧ w'.cell? ⟨b9, 0, none⟩ = some (.pointer (some ⟨L.hb, 0, none⟩)) ∧ w'.cell? ⟨b9, 1, none⟩ = some (.slice (some ⟨g, off, none⟩) p.n c) ∧ w'.cell? ⟨g, off + I, none⟩ = some (.int .i64 (aI : Int)))
                (first | with_reducible exact K0 | go_keep)
                (first | (go_at_call 19; (first | rw [IntWalk.i64_in ((aI : Int) + 1) (by omega), IntWalk.i64_in ((aI : Int) + 1 + (K : Int)) (by omega)] | rw [IntWalk.i64_in ((aI : Int) + 1 + (K : Int)) (by omega)]); refine (HStore.out _ HXd.out).mono ?_; rintro e w8 ⟨rfl, hA⟩; have HY := hide hA; have K0 := HC.out _ _ _ hA; clear hA))
              clear HStore HXd HX8 HXr
              obtain ⟨k20, k90, k91, kA⟩ := K0
              have HShp : Hid (∀ w', HE w2 w' L X { h with f := upd h.f (aI + 1 + K) tv.toNat } x s k ((b10, 70, #[.int .i64 (p.T I).st, .slice (Q.rA I) rn (Q.rc I), .slice (Q.dA I) (p.T I).dt.length (Q.dc I)]) :: (b9, 33, #[.pointer (some ⟨L.hb, 0, none⟩), .slice (some ⟨g, off, none⟩) p.n c]) :: E) → Calls Tryz.prog 10 #[.pointer (some ⟨L.hb, 0, none⟩)] w' fun e w'' => ∃ A' c' n', e = .returned (.tuple #[.slice A' n' c', .int .i64 (if G = true then 0 else 30)]) ∧ HE w2 w'' L X { h with f := upd h.f (aI + 1 + K) tv.toNat } x s k ((b10, 70, #[.int .i64 (p.T I).st, .slice (Q.rA I) rn (Q.rc I), .slice (Q.dA I) (p.T I).dt.length (Q.dc I)]) :: (b9, 33, #[.pointer (some ⟨L.hb, 0, none⟩), .slice (some ⟨g, off, none⟩) p.n c]) :: E)) := fun w' q => by
                by_cases hg : G = true
                · rw [if_pos hg]
                  refine (hshape_ok q.hr ((HSnd.out _ _ q.ok).2 hg)).mono ?_
                  rintro e w'' ⟨A', c', _, rfl, _, _, hr, hf⟩
                  exact ⟨A', c', _, rfl, q.looked hr hf⟩
                · rw [if_neg hg]
                  refine (hshape_bad q.hr (fun hs => hg ((HSnd.out _ _ q.ok).1 hs))).mono ?_
                  rintro e w'' ⟨A', c', _, rfl, _, _, hr, hf⟩
                  exact ⟨A', c', _, rfl, q.looked hr hf⟩
              have HChk : Hid (∀ w', HE w2 w' L X { h with f := upd h.f (aI + 1 + K) tv.toNat } x s k ((b10, 70, #[.int .i64 (p.T I).st, .slice (Q.rA I) rn (Q.rc I), .slice (Q.dA I) (p.T I).dt.length (Q.dc I)]) :: (b9, 33, #[.pointer (some ⟨L.hb, 0, none⟩), .slice (some ⟨g, off, none⟩) p.n c]) :: E) → Calls Tryz.prog 11 #[.pointer (some ⟨L.hb, 0, none⟩)] w' fun e w'' => e = .returned (.int .i64 (if G = true then 0 else 30)) ∧ HE w2 w'' L X { h with f := upd h.f (aI + 1 + K) tv.toNat } x s k ((b10, 70, #[.int .i64 (p.T I).st, .slice (Q.rA I) rn (Q.rc I), .slice (Q.dA I) (p.T I).dt.length (Q.dc I)]) :: (b9, 33, #[.pointer (some ⟨L.hb, 0, none⟩), .slice (some ⟨g, off, none⟩) p.n c]) :: E)) := fun w' q => by
                refine (hcheck_any q.hr).mono ?_
                rintro e w'' ⟨rfl, hr, hf⟩
                refine ⟨?_, q.looked hr hf⟩
                by_cases hg : G = true
                · rw [if_pos hg, checkE_ok ((HSnd.out _ _ q.ok).2 hg)]
                · rw [if_neg hg, checkE_bad (fun hs => hg ((HSnd.out _ _ q.ok).1 hs))]
              have HLst : Hid (G = false → ∀ v w', HE w2 w' L X { h with f := upd h.f (aI + 1 + K) tv.toNat } x s k ((b10, 70, #[.int .i64 (p.T I).st, .slice (Q.rA I) rn (Q.rc I), .slice (Q.dA I) (p.T I).dt.length (Q.dc I)]) :: (b9, 33, #[.pointer (some ⟨L.hb, 0, none⟩), .slice (some ⟨g, off, none⟩) p.n c]) :: E) → Calls Tryz.prog 20 #[.pointer (some ⟨L.hb, 0, none⟩), v] w' fun e w'' => e = .returned (.slice none 0 0) ∧ HE w2 w'' L X { h with f := upd h.f (aI + 1 + K) tv.toNat } x s k ((b10, 70, #[.int .i64 (p.T I).st, .slice (Q.rA I) rn (Q.rc I), .slice (Q.dA I) (p.T I).dt.length (Q.dc I)]) :: (b9, 33, #[.pointer (some ⟨L.hb, 0, none⟩), .slice (some ⟨g, off, none⟩) p.n c]) :: E)) := fun hg v w' q => by
                refine (hlost_bad q.hr (fun hs => by have := (HSnd.out _ _ q.ok).1 hs; rw [hg] at this; cases this) v).mono ?_
                rintro e w'' ⟨rfl, hr, hf⟩
                exact ⟨rfl, q.looked hr hf⟩
              clear HSnd HLw
              cases G with
              | true =>
                simp only [if_true] at HShp HChk
                go_wp2_with fail
                refine (HShp.out _ HY.out).mono ?_
                rintro e w9 ⟨A', c', n', rfl, hA⟩
                have HZ := hide hA
                have k90 : w9.cell? ⟨b9, 0, none⟩ = some (.pointer (some ⟨L.hb, 0, none⟩)) := (hA.blk (List.mem_cons_of_mem _ (List.mem_cons_self ..))).cell 0
                clear hA
                go_wp2_with fail
                refine (HChk.out _ HZ.out).mono ?_
                rintro e w10 ⟨rfl, hA⟩
                have HFin := hide (HF2.out.trans_same hA.fr)
                clear hA
                go_wp2_with fail
                go_ret
                exact ⟨rfl, HFin.out⟩
              | false =>
                have HShp := HShp
                simp only [if_false, Bool.false_eq_true] at HShp HChk
                go_wp2_with fail
                refine (HShp.out _ HY.out).mono ?_
                rintro e w9 ⟨A', c', n', rfl, hA⟩
                have HZ := hide hA
                have k90 : w9.cell? ⟨b9, 0, none⟩ = some (.pointer (some ⟨L.hb, 0, none⟩)) := (hA.blk (List.mem_cons_of_mem _ (List.mem_cons_self ..))).cell 0
                clear hA
                go_wp2_with fail
                refine (HChk.out _ HZ.out).mono ?_
                rintro e w10 ⟨rfl, hA⟩
                have HZ2 := hide hA
                have k90 : w10.cell? ⟨b9, 0, none⟩ = some (.pointer (some ⟨L.hb, 0, none⟩)) := (hA.blk (List.mem_cons_of_mem _ (List.mem_cons_self ..))).cell 0
                have N9 : b9 < w10.heap.size := lt_of_cell k90
                clear hA
                go_wp2_with fail
                refine (HLst.out trivial _ _ (HZ2.out.fr0 ((Fr.refl _ _).alloc _))).mono ?_
                rintro e w11 ⟨rfl, hA⟩
                have HFin := hide (HF2.out.trans_same hA.fr)
                clear hA
                go_wp2_with fail
                go_ret
                exact ⟨rfl, HFin.out⟩
      · have HFE := hide (HF2.out.trans_same hf)
        clear hf
        go_wp2_with fail
        go_ret
        exact ⟨rfl, HFE.out.alloc _⟩
end HeapBroken
end Go.Proofs.YtkmnbaecohhcaaaGreatDoor
