/- Several texts joined (pack.py): Ua Un Ub Uc Ud Ue Uf Ug Uh Ui Uj Uk Ul Um. -/
import Derived.Test.YthacgiajnafpgaaGreatDoorQYa
import Derived.Test.YthacgiajnafpgaaGreatDoorQGz
import Derived.WalkKit
import Derived.BigQuiet
import Derived.Deep.CutRange
import Derived.Deep.RegionHeld3
import Derived.Test.YthacgiajnafpgaaGreatDoorQVt
namespace Go.Proofs.YthacgiajnafpgaaGreatDoor
set_option linter.unusedVariables false
set_option linter.unusedSimpArgs false
set_option maxRecDepth 100000
open Go.RowKit Go.Gl

/-- A mutator's numbers: how many operations were answered; the one that goes on, what it has come to, its address. -/
structure MU where
  dn : Nat
  k : Int
  a : Int
  b : Int
  c : Int
  v : Int
  st : Int
  ad : Int
def MU.zero (n : Nat) : MU := ⟨n, 0, 0, 0, 0, 0, 0, 0⟩
/-- Its cells: hb the heap's block, t its thread, sb what all share. -/
def muV (hb t sb : Nat) (m : MU) : Array Value := #[.pointer (some ⟨hb, 0, none⟩), .int .i64 (t : Int), .pointer (some ⟨sb, 0, none⟩), .int .i64 (m.dn : Int), .int .i64 m.k, .int .i64 m.a, .int .i64 m.b, .int .i64 m.c, .int .u64 m.v, .int .i64 m.st, .int .i64 m.ad]
/-- What a step came to. -/
def resV (th dn : Int) (x : An) (done busy want : Bool) (left : Value) : Value := .agg #[.int .i64 th, .int .i64 dn, .int .i64 x.code, .int .u64 x.word, .bool x.bit, .bool done, .bool busy, .bool want, left]
def An.zero : An := ⟨0, 0, false⟩
section
variable {w : World} {mb hb t sb : Nat} {m : MU}
structure MuAt (w : World) (mb hb t sb : Nat) (m : MU) : Prop where
  blk : Blk w mb 148 (muV hb t sb m)
theorem muCells (h : Blk w mb 148 (muV hb t sb m)) : w.cell? ⟨mb, 0, none⟩ = some (.pointer (some ⟨hb, 0, none⟩)) ∧ w.cell? ⟨mb, 1, none⟩ = some (.int .i64 (t : Int)) ∧ w.cell? ⟨mb, 2, none⟩ = some (.pointer (some ⟨sb, 0, none⟩)) ∧ w.cell? ⟨mb, 3, none⟩ = some (.int .i64 (m.dn : Int)) ∧ w.cell? ⟨mb, 4, none⟩ = some (.int .i64 m.k) ∧ w.cell? ⟨mb, 5, none⟩ = some (.int .i64 m.a) ∧ w.cell? ⟨mb, 6, none⟩ = some (.int .i64 m.b) ∧ w.cell? ⟨mb, 7, none⟩ = some (.int .i64 m.c) ∧ w.cell? ⟨mb, 8, none⟩ = some (.int .u64 m.v) ∧ w.cell? ⟨mb, 9, none⟩ = some (.int .i64 m.st) ∧ w.cell? ⟨mb, 10, none⟩ = some (.int .i64 m.ad) :=
  ⟨h.cell 0, h.cell 1, h.cell 2, h.cell 3, h.cell 4, h.cell 5, h.cell 6, h.cell 7, h.cell 8, h.cell 9, h.cell 10⟩
theorem midle_nil (w : World) : Calls Tryz.prog 23 #[.pointer none] w fun e w' => e = .returned (.bool false) ∧ w = w' := by
  go_enter Tryz.func23, Tryz.ntmps23
  go_wp2
  go_ret
  exact ⟨rfl, rfl⟩
theorem midle_any (h : Blk w mb 148 (muV hb t sb m)) : Calls Tryz.prog 23 #[.pointer (some ⟨mb, 0, none⟩)] w fun e w' => e = .returned (.bool (m.st == 0)) ∧ w = w' := by
  obtain ⟨c0, c1, c2, c3, c4, c5, c6, c7, c8, c9, c10⟩ := muCells h
  clear h
  go_enter Tryz.func23, Tryz.ntmps23
  go_wp2
  go_ret
  exact ⟨rfl, rfl⟩
theorem mstart_nil (o : Po) (w : World) : Calls Tryz.prog 28 #[.pointer none, opV o] w fun e w' => e = .returned (.int .i64 1) ∧ Fr [] w w' := by
  unfold opV
  go_enter Tryz.func28, Tryz.ntmps28
  go_wp2
  go_ret
  exact ⟨rfl, (Fr.refl _ _).alloc _⟩
theorem mstart_busy (h : Blk w mb 148 (muV hb t sb m)) (hs : m.st ≠ 0) (o : Po) : Calls Tryz.prog 28 #[.pointer (some ⟨mb, 0, none⟩), opV o] w fun e w' => e = .returned (.int .i64 3) ∧ Fr [] w w' := by
  have HI := hide (midle_any (h.alloc (.cells #[.int .i64 o.k, .int .i64 o.a, .int .i64 o.b, .int .i64 o.c, .int .u64 o.v] 66)))
  rw [show (m.st == 0) = false by simpa using hs] at HI
  clear h hs
  unfold opV
  go_enter Tryz.func28, Tryz.ntmps28
  go_wp2_with (go_at_call 23; refine HI.out.mono ?_; rintro e w' ⟨rfl, rfl⟩)
  go_ret
  exact ⟨rfl, (Fr.refl _ _).alloc _⟩
theorem fr_sets {w w' : World} {F : List Nat} {b : Nat} (hf : Fr F w w') (hb : b ∈ F) (i : Nat) (v : Value) : Fr F w (w'.setCell ⟨b, i, none⟩ v) := hf.setCell (p := ⟨b, i, none⟩) (.inl hb) v
theorem mstart_any (h : Blk w mb 148 (muV hb t sb m)) (hs : m.st = 0) (o : Po) : Calls Tryz.prog 28 #[.pointer (some ⟨mb, 0, none⟩), opV o] w fun e w' => e = .returned (.int .i64 0) ∧ Blk w' mb 148 (muV hb t sb ⟨m.dn, o.k, o.a, o.b, o.c, o.v, 1, 0⟩) ∧ Fr [mb] w w' := by
  have HI := hide (midle_any (h.alloc (.cells #[.int .i64 o.k, .int .i64 o.a, .int .i64 o.b, .int .i64 o.c, .int .u64 o.v] 66)))
  rw [show (m.st == 0) = true by simpa using hs] at HI
  have hb := h.alloc (.cells #[.int .i64 o.k, .int .i64 o.a, .int .i64 o.b, .int .i64 o.c, .int .u64 o.v] 66)
  have HB := hide hb
  obtain ⟨c0, c1, c2, c3, c4, c5, c6, c7, c8, c9, c10⟩ := muCells hb
  have z4 := hb.frozen 4
  have z5 := hb.frozen 5
  have z6 := hb.frozen 6
  have z7 := hb.frozen 7
  have z8 := hb.frozen 8
  have z9 := hb.frozen 9
  have z10 := hb.frozen 10
  have NM := hb.lt
  clear h hs hb
  unfold opV
  go_enter Tryz.func28, Tryz.ntmps28
  go_wp2_with (go_at_call 23; refine HI.out.mono ?_; rintro e w' ⟨rfl, rfl⟩)
  go_ret
  refine ⟨rfl, ?_, ?_⟩
  · have := ((((((HB.out.put 4 (.int .i64 o.k)).put 5 (.int .i64 o.a)).put 6 (.int .i64 o.b)).put 7 (.int .i64 o.c)).put 8 (.int .u64 o.v)).put 9 (.int .i64 1)).put 10 (.int .i64 0)
    unfold muV at this ⊢
    simpa using this
  · exact fr_sets (fr_sets (fr_sets (fr_sets (fr_sets (fr_sets (fr_sets (((Fr.refl [mb] w)).alloc _) (by simp) 4 _) (by simp) 5 _) (by simp) 6 _) (by simp) 7 _) (by simp) 8 _) (by simp) 9 _) (by simp) 10 _
end
end Go.Proofs.YthacgiajnafpgaaGreatDoor
namespace Go.Proofs.YthacgiajnafpgaaGreatDoor
set_option linter.unusedVariables false
set_option linter.unusedSimpArgs false
set_option maxRecDepth 100000
open Go.RowKit Go.Gl HS

section
variable {w : World} {hb sb T rc n oc : Nat} {rA oA : Option Addr}
set_option maxHeartbeats 1600000 in
theorem mtnew_ok (c27 : w.cell? ⟨hb, 27, none⟩ = some (.slice rA T rc)) (c1 : w.cell? ⟨sb, 1, none⟩ = some (.slice oA T oc)) {t : Nat} (ht : t < T) (hT : T ≤ 64) : Calls Tryz.prog 29 #[.pointer (some ⟨hb, 0, none⟩), .int .i64 (t : Int), .pointer (some ⟨sb, 0, none⟩)] w fun e w' =>
    ∃ mb, e = .returned (.tuple #[.pointer (some ⟨mb, 0, none⟩), .int .i64 0]) ∧ w.heap.size ≤ mb ∧ Blk w' mb 148 (muV hb t sb (MU.zero 0)) ∧ Fr [] w w' := by
  have g1 : decide ((t : Int) < 0) = false := by simp
  have g2 : decide ((t : Int) ≥ (T : Int)) = false := by simp; omega
  have g2' : decide ((T : Int) ≤ (t : Int)) = false := by simp; omega
  have g4 : decide (T ≤ t) = false := by simp; omega
  have g3 : ((T : Int) != (T : Int)) = false := by simp
  clear ht
  go_enter Tryz.func29, Tryz.ntmps29
  go_wp2_with fail
  go_quiet (fail)
  go_wp2_with fail
  go_ret2
  exact ⟨_, rfl, Nat.le_refl _, Blk.new _ _ _, ((Fr.refl _ _).drewN _).alloc _⟩
/-- A thread that isn't there. -/
theorem mtnew_out (c27 : w.cell? ⟨hb, 27, none⟩ = some (.slice rA T rc)) (c1 : w.cell? ⟨sb, 1, none⟩ = some (.slice oA n oc)) {t : Int} (ht : ¬ (0 ≤ t ∧ t < (T : Int))) (hT : T ≤ 64) : Calls Tryz.prog 29 #[.pointer (some ⟨hb, 0, none⟩), .int .i64 t, .pointer (some ⟨sb, 0, none⟩)] w fun e w' =>
    e = .returned (.tuple #[.pointer none, .int .i64 2]) ∧ Fr [] w w' := by
  by_cases h0 : t < 0
  · have g1 : decide (t < 0) = true := by simpa using h0
    clear ht
    go_enter Tryz.func29, Tryz.ntmps29
    go_wp2_with fail
    go_quiet (fail)
    go_wp2_with fail
    go_ret2
    exact ⟨rfl, (Fr.refl _ _).drewN _⟩
  · have g1 : decide (t < 0) = false := by simpa using h0
    have g2 : decide (t ≥ (T : Int)) = true := by simp; omega
    have g2' : decide ((T : Int) ≤ t) = true := by simp; omega
    clear ht
    go_enter Tryz.func29, Tryz.ntmps29
    go_wp2_with fail
    go_quiet (fail)
    go_wp2_with fail
    go_ret2
    exact ⟨rfl, (Fr.refl _ _).drewN _⟩
end
end Go.Proofs.YthacgiajnafpgaaGreatDoor
namespace Go.Proofs.YthacgiajnafpgaaGreatDoor
set_option linter.unusedVariables false
set_option linter.unusedSimpArgs false
set_option maxRecDepth 100000
open Go.RowKit Go.Gl

section
variable {w : World} {mb hb t sb : Nat} {m : MU}
theorem mreference_any (a : Nat) (ha : a < 9223372036854775807) (w : World) : Calls Tryz.prog 148 #[.int .i64 (a : Int)] w fun e w' => e = .returned (.int .u64 ((a : Int) + 1)) ∧ w = w' := by
  have e1 : IntKind.u64.wrap ((a : Int)) = (a : Int) := IntWalk.u64_in _ ⟨by omega, by omega⟩
  have e2 : IntKind.u64.wrap ((a : Int) + 1) = (a : Int) + 1 := IntWalk.u64_in _ ⟨by omega, by omega⟩
  go_enter Tryz.func148, Tryz.ntmps148
  go_wp2
  go_ret
  exact ⟨rfl, rfl⟩
set_option maxHeartbeats 1600000 in
theorem manswer_any (h : Blk w mb 148 (muV hb t sb m)) (hd : (m.dn : Int) + 1 ≤ 9223372036854775807) (a0 a1 : Int) (x : An) : Calls Tryz.prog 71 #[.pointer (some ⟨mb, 0, none⟩), ansV a0 a1 x] w fun e w' => e = .returned (resV (t : Int) (m.dn : Int) x true false false (.slice none 0 0)) ∧ Blk w' mb 148 (muV hb t sb (MU.zero (m.dn + 1))) ∧ Fr [mb] w w' := by
  have hb1 := (h.alloc (.cells #[.int .i64 a0, .int .i64 a1, .int .i64 x.code, .int .u64 x.word, .bool x.bit] 73)).alloc (.cells #[.int .i64 0, .int .i64 0, .int .i64 0, .int .u64 0, .bool false, .bool false, .bool false, .bool false, .slice none 0 0] 77)
  have HB := hide h
  have e1 : IntKind.i64.wrap ((m.dn : Int) + 1) = (m.dn : Int) + 1 := IntWalk.i64_in _ ⟨by omega, hd⟩
  obtain ⟨c0, c1, c2, c3, c4, c5, c6, c7, c8, c9, c10⟩ := muCells h
  have z3 := h.frozen 3
  have z4 := h.frozen 4
  have z5 := h.frozen 5
  have z6 := h.frozen 6
  have z7 := h.frozen 7
  have z8 := h.frozen 8
  have z9 := h.frozen 9
  have z10 := h.frozen 10
  have NM := h.lt
  clear h hb1
  unfold ansV resV
  go_enter Tryz.func71, Tryz.ntmps71
  go_wp2
  go_region
  all_goals
    go_wp2
  refine bodyPost_ret (v := .agg #[.int .i64 (t : Int), .int .i64 (m.dn : Int), .int .i64 x.code, .int .u64 x.word, .bool x.bit, .bool true, .bool false, .bool false, .slice none 0 0]) (by simp [results, Tryz.results71, go_sem, *]) rfl ⟨rfl, ?_, ?_⟩
  · have := (((((((((((HB.out.put 3 (.int .i64 ((m.dn : Int) + 1))).put 4 (.int .i64 0)).put 5 (.int .i64 0)).put 6 (.int .i64 0)).put 7 (.int .i64 0)).put 8 (.int .u64 0)).put 9 (.int .i64 0)).put 10 (.int .i64 0)).alloc (.cells #[.int .i64 (t : Int), .int .i64 (m.dn : Int), .int .i64 x.code, .int .u64 x.word, .bool x.bit] 73)).alloc (.cells #[.int .i64 (t : Int), .int .i64 (m.dn : Int), .int .i64 x.code, .int .u64 x.word, .bool x.bit, .bool true, .bool false, .bool false, .slice none 0 0] 77)).drew)
    unfold muV MU.zero at *
    simpa [Int.natCast_add] using this
  · exact (((fr_sets (fr_sets (fr_sets (fr_sets (fr_sets (fr_sets (fr_sets (fr_sets (Fr.refl [mb] w) (by simp) 3 _) (by simp) 4 _) (by simp) 5 _) (by simp) 6 _) (by simp) 7 _) (by simp) 8 _) (by simp) 9 _) (by simp) 10 _).alloc _).alloc _).drew
set_option maxHeartbeats 1600000 in
theorem mgoOn_any (h : Blk w mb 148 (muV hb t sb m)) (s a : Int) : Calls Tryz.prog 206 #[.pointer (some ⟨mb, 0, none⟩), .int .i64 s, .int .i64 a] w fun e w' => e = .returned (resV 0 0 An.zero false true false (.slice none 0 0)) ∧ Blk w' mb 148 (muV hb t sb { m with st := s, ad := a }) ∧ Fr [mb] w w' := by
  have HB := hide h
  obtain ⟨c0, c1, c2, c3, c4, c5, c6, c7, c8, c9, c10⟩ := muCells h
  have z9 := h.frozen 9
  have z10 := h.frozen 10
  have NM := h.lt
  clear h
  unfold resV An.zero
  go_enter Tryz.func206, Tryz.ntmps206
  go_wp2
  refine bodyPost_ret (v := .agg #[.int .i64 0, .int .i64 0, .int .i64 0, .int .u64 0, .bool false, .bool false, .bool true, .bool false, .slice none 0 0]) (by simp [results, Tryz.results206, go_sem, *]) rfl ⟨rfl, ?_, ?_⟩
  · have := ((HB.out.put 9 (.int .i64 s)).put 10 (.int .i64 a)).alloc (.cells #[.int .i64 0, .int .i64 0, .int .i64 0, .int .u64 0, .bool false, .bool false, .bool true, .bool false, .slice none 0 0] 77)
    unfold muV at *
    simpa using this
  · exact (fr_sets (fr_sets (Fr.refl [mb] w) (by simp) 9 _) (by simp) 10 _).alloc _
theorem mfail_nil (w : World) : Calls Tryz.prog 26 #[.pointer none] w fun e w' => e = .returned (.tuple #[ansV 0 0 An.zero, .int .i64 1]) ∧ Fr [] w w' := by
  unfold ansV An.zero
  go_enter Tryz.func26, Tryz.ntmps26
  go_wp2
  refine bodyPost_ret (v := .tuple #[.agg #[.int .i64 0, .int .i64 0, .int .i64 0, .int .u64 0, .bool false], .int .i64 1]) (by simp [results, Tryz.results26, go_sem, *]) rfl ⟨rfl, (Fr.refl _ _).alloc _⟩
theorem mfail_no (h : Blk w mb 148 (muV hb t sb m)) (hs : m.st ≠ 2) : Calls Tryz.prog 26 #[.pointer (some ⟨mb, 0, none⟩)] w fun e w' => e = .returned (.tuple #[ansV 0 0 An.zero, .int .i64 3]) ∧ Fr [] w w' := by
  obtain ⟨c0, c1, c2, c3, c4, c5, c6, c7, c8, c9, c10⟩ := muCells h
  have NM := h.lt
  have hs2 : (m.st != 2) = true := by simpa using hs
  clear h
  unfold ansV An.zero
  go_enter Tryz.func26, Tryz.ntmps26
  go_wp2
  refine bodyPost_ret (v := .tuple #[.agg #[.int .i64 0, .int .i64 0, .int .i64 0, .int .u64 0, .bool false], .int .i64 3]) (by simp [results, Tryz.results26, go_sem, *]) rfl ⟨rfl, (Fr.refl _ _).alloc _⟩
end
end Go.Proofs.YthacgiajnafpgaaGreatDoor
namespace Go.Proofs.YthacgiajnafpgaaGreatDoor
set_option linter.unusedVariables false
set_option linter.unusedSimpArgs false
set_option maxRecDepth 100000
open Go.RowKit Go.Gl

section
variable {w : World} {mb hb t sb : Nat} {m : MU} {L : HL} {X : HX} {T : Nat}
/-- How many words an operation's object has. -/
def szE (M : Nat) (o : Po) : Int := if sizeBad M o.a o.b then 13 else 0
def szN (M : Nat) (o : Po) : Int := if sizeBad M o.a o.b then 0 else 1 + o.a + o.b
set_option maxHeartbeats 600000 in
theorem mtsize_any (h : Blk w mb 148 (muV L.hb t sb m)) {g : Geo} (hc : Hcells w L X g T) {M : Nat} (hM : g.max = (M : Int)) (hM2 : M ≤ 1048576) (o : Po) (ho : PoOk o) :
    Calls Tryz.prog 204 #[.pointer (some ⟨mb, 0, none⟩), opV o] w fun e w' => e = .returned (.tuple #[.int .i64 (szN M o), .int .i64 (szE M o)]) ∧ Fr [] w w' := by
  obtain ⟨c0, c1, c2, c3, c4, c5, c6, c7, c8, c9, c10⟩ := muCells h
  have k19 := hc.c19
  have NH := hc.lt
  have NM := h.lt
  rw [hM] at k19
  obtain ⟨ka, kb⟩ := ho
  have HFr : Hid (∀ o, Fr [] w (w.alloc o)) := fun o => (Fr.refl _ _).alloc _
  clear h hc c2 c3 c4 c5 c6 c7 c8 c9 c10 c1
  unfold opV
  by_cases h1 : o.a < 0
  · have d1 : decide (o.a < 0) = true := by simpa using h1
    rw [show szN M o = 0 by unfold szN; rw [if_pos (by unfold sizeBad; omega)], show szE M o = 13 by unfold szE; rw [if_pos (by unfold sizeBad; omega)]]
    go_enter Tryz.func204, Tryz.ntmps204
    go_wp2
    go_quiet (fail)
    go_wp2_with fail
    go_ret2
    exact ⟨rfl, (HFr.out _).drewN _⟩
  · have d1 : decide (o.a < 0) = false := by simpa using h1
    by_cases h2 : o.b < 0
    · have d2 : decide (o.b < 0) = true := by simpa using h2
      rw [show szN M o = 0 by unfold szN; rw [if_pos (by unfold sizeBad; omega)], show szE M o = 13 by unfold szE; rw [if_pos (by unfold sizeBad; omega)]]
      clear h1 h2
      go_enter Tryz.func204, Tryz.ntmps204
      go_wp2
      go_quiet (fail)
      go_wp2_with fail
      go_ret2
      exact ⟨rfl, (HFr.out _).drewN _⟩
    · have d2 : decide (o.b < 0) = false := by simpa using h2
      have hw : IntKind.i64.wrap ((M : Int) - o.a) = (M : Int) - o.a := IntWalk.i64_in _ ⟨by omega, by omega⟩
      by_cases h3 : o.b ≥ (M : Int) - o.a
      · have d3 : decide (o.b ≥ (M : Int) - o.a) = true := by simpa using h3
        have d3' : decide ((M : Int) - o.a ≤ o.b) = true := by simpa using h3
        rw [show szN M o = 0 by unfold szN; rw [if_pos (by unfold sizeBad; omega)], show szE M o = 13 by unfold szE; rw [if_pos (by unfold sizeBad; omega)]]
        clear h1 h2 h3
        go_enter Tryz.func204, Tryz.ntmps204
        go_wp2
        go_quiet (fail)
        go_wp2_with fail
        go_ret2
        exact ⟨rfl, (HFr.out _).drewN _⟩
      · have d3 : decide (o.b ≥ (M : Int) - o.a) = false := by simpa using h3
        have d3' : decide ((M : Int) - o.a ≤ o.b) = false := by simpa using h3
        have hw2 : IntKind.i64.wrap (o.a + o.b) = o.a + o.b := IntWalk.i64_in _ ⟨by omega, by omega⟩
        by_cases h4 : o.a + o.b = 0
        · have h4' : (o.a + o.b == 0) = true := by simpa using h4
          rw [show szN M o = 0 by unfold szN; rw [if_pos (by unfold sizeBad; omega)], show szE M o = 13 by unfold szE; rw [if_pos (by unfold sizeBad; omega)]]
          clear h1 h2 h3 h4
          go_enter Tryz.func204, Tryz.ntmps204
          go_wp2
          go_quiet (fail)
          go_wp2_with fail
          go_ret2
          exact ⟨rfl, (HFr.out _).drewN _⟩
        · have h4' : (o.a + o.b == 0) = false := by simpa using h4
          have hw3 : IntKind.i64.wrap (1 + o.a) = 1 + o.a := IntWalk.i64_in _ ⟨by omega, by omega⟩
          have hw4 : IntKind.i64.wrap (1 + o.a + o.b) = 1 + o.a + o.b := IntWalk.i64_in _ ⟨by omega, by omega⟩
          rw [show szN M o = 1 + o.a + o.b by unfold szN; rw [if_neg (by unfold sizeBad; omega)], show szE M o = 0 by unfold szE; rw [if_neg (by unfold sizeBad; omega)]]
          clear h1 h2 h3 h4
          go_enter Tryz.func204, Tryz.ntmps204
          go_wp2
          go_quiet (fail)
          go_wp2_with fail
          go_ret2
          exact ⟨rfl, (HFr.out _).drewN _⟩
theorem mtstack_any {h : HS} {s k : Nat} (hB : Blk w mb 148 (muV L.hb t sb m)) (hr : Hr w L h s k) (ht : t < h.T) :
    Calls Tryz.prog 145 #[.pointer (some ⟨mb, 0, none⟩)] w fun e w' => e = .returned (.pointer (some ⟨L.S t, 0, none⟩)) ∧ Fr [] w w' := by
  obtain ⟨c0, c1, c2, c3, c4, c5, c6, c7, c8, c9, c10⟩ := muCells hB
  have k27 : w.cell? ⟨L.hb, 27, none⟩ = some (.slice L.rA h.T L.rc) := hr.st.cell 27
  have NH := hr.st.lt
  have NM := hB.lt
  obtain ⟨gb, go, hA, hG, NG, hcell, hfz, _⟩ := hr.row.pos (by omega)
  have hci : w.cell? ⟨gb, go + t, none⟩ = some (.pointer (some ⟨L.S t, 0, none⟩)) := by
    rw [hcell t ht]
    unfold stkV
    simp [ht]
  rw [hA] at k27
  have ht1 : (t : Int) < (h.T : Int) := by omega
  have hfr : Hid (∀ i, Fr [] w (w.drewN i)) := fun i => (Fr.refl _ _).drewN _
  clear hB hr hcell hfz c2 c3 c4 c5 c6 c7 c8 c9 c10
  go_enter Tryz.func145, Tryz.ntmps145
  go_wp2
  go_quiet (fail)
  go_wp2_with fail
  go_ret
  exact ⟨rfl, hfr.out _⟩
end
end Go.Proofs.YthacgiajnafpgaaGreatDoor
namespace Go.Proofs.YthacgiajnafpgaaGreatDoor
set_option linter.unusedVariables false
set_option linter.unusedSimpArgs false
set_option maxRecDepth 100000
open Go.RowKit Go.Gl HS

section
variable {W w w' : World} {L : HL} {X : HX} {h : HS} {x : HT} {s k : Nat} {E : Blks} {D : Nat → Prop} {Q : World → Prop} {mb t sb : Nat} {m : MU}
/-- The Tops when thread i's own buffer was dropped. -/
noncomputable def dropT (h : HS) (i : Nat) : Nat → Int := if h.bx i < h.be i then put1 h.t (h.g.regionOf (h.bx i)).toNat (h.bx i) else h.t
/-- The heap then. -/
noncomputable def dropH (h : HS) (i : Nat) : HS := { h with t := dropT h i, bx := put1 h.bx i 0, be := put1 h.be i 0 }
set_option maxHeartbeats 1600000 in
theorem mtretire_any (hS : Lives D Q) (H : HM W w L X h x s k E D Q) (hm : (mb, 148, muV L.hb t sb m) ∈ E) (ht : t < h.T) (hB : h.BufIn) :
    Calls Tryz.prog 237 #[.pointer (some ⟨mb, 0, none⟩)] w fun e w' => e = .returned (.tuple #[]) ∧ HM W w' L X (dropH h t) x s k E D Q := by
  have ok := H.ok
  have HMu : Hid (∀ w' h' x', HM W w' L X h' x' s k E D Q → w'.cell? ⟨mb, 0, none⟩ = some (.pointer (some ⟨L.hb, 0, none⟩)) ∧ w'.cell? ⟨mb, 1, none⟩ = some (.int .i64 (t : Int))) := fun w' h' x' q => by
    have hb := q.blk hm
    exact ⟨hb.cell 0, hb.cell 1⟩
  have HAd := hide (H.fr0 hS (Fr.refl _ _).drew)
  have HDr : Hid (∀ w', HM W w' L X h x s k E D Q → Calls Tryz.prog 260 #[.pointer (some ⟨L.bb, t * 2, none⟩)] w' fun e w'' => e = .returned (.tuple #[.int .i64 (h.bx t), .int .i64 (h.be t)]) ∧ HM W w'' L X { h with bx := put1 h.bx t 0, be := put1 h.be t 0 } x s k E D Q) := fun w' q => q.bdrop hS ht
  have HCe : Hid (∀ w' a b c, HM W w' L X { h with t := a, bx := b, be := c } x s k E D Q → Hcells w' L X h.g h.T) := fun w' a b c q => q.hc
  have HC0 : Hid (∀ w', HM W w' L X h x s k E D Q → Hcells w' L X h.g h.T) := fun w' q => q.hc
  have HRg : Hid (∀ w' a b c z, HM W w' L X { h with t := a, bx := b, be := c } x s k E D Q → Calls Tryz.prog 37 #[.agg #[.int .i64 h.g.words, .int .i64 h.g.rw, .int .i64 h.g.cw, .int .i64 h.g.regions, .int .i64 h.g.cards, .int .i64 h.g.max], .int .i64 z] w' fun e w'' => e = .returned (.int .i64 (h.g.regionOf z)) ∧ HM W w'' L X { h with t := a, bx := b, be := c } x s k E D Q) := fun w' a b c z q => q.region hS z
  have HIn : Hid (h.bx t < h.be t → ∃ r : Nat, h.g.regionOf (h.bx t) = (r : Int) ∧ r < h.R ∧ Filled (h.s r) ∧ ((r * h.W : Nat) : Int) ≤ h.bx t ∧ h.bx t ≤ ((r * h.W + h.W : Nat) : Int)) := fun e => by
    obtain ⟨r, r1, r2, r3, r4⟩ := hB t ht e
    exact ⟨r, ok.reg r1 r3 (by omega), r1, r2, r3, by omega⟩
  have HTp : Hid (∀ w' b c (r : Nat) z, r < h.R → Filled (h.s r) → ((r * h.W : Nat) : Int) ≤ z → z ≤ ((r * h.W + h.W : Nat) : Int) → HM W w' L X { h with bx := b, be := c } x s k E D Q → Calls Tryz.prog 261 #[.pointer (some ⟨L.tb, 0, none⟩), .int .i64 (r : Int), .int .i64 z] w' fun e w'' => e = .returned (.int .i64 0) ∧ HM W w'' L X { h with t := put1 h.t r z, bx := b, be := c } x s k E D Q) := fun w' b c r z h1 h2 h3 h4 q => q.setTop hS h1 h2 h3 h4
  have HOut : Hid (dropH h t = { h with t := dropT h t, bx := put1 h.bx t 0, be := put1 h.be t 0 }) := rfl
  have HDt : Hid (dropT h t = if h.bx t < h.be t then put1 h.t (h.g.regionOf (h.bx t)).toNat (h.bx t) else h.t) := rfl
  have ht1 : (t : Int) < (h.T : Int) := by omega
  obtain ⟨k0, k1⟩ := HMu.out _ _ _ HAd.out
  have c28 := (HC0.out _ HAd.out).c28
  have K0 : w.drew.cell? ⟨mb, 0, none⟩ = some (.pointer (some ⟨L.hb, 0, none⟩)) ∧ w.drew.cell? ⟨mb, 1, none⟩ = some (.int .i64 (t : Int)) ∧ w.drew.cell? ⟨L.hb, 28, none⟩ = some (.slice (some ⟨L.bb, 0, none⟩) h.T h.T) := ⟨k0, k1, c28⟩
  have HK : Hid (∀ w' h', h'.T = h.T → HM W w' L X h' x s k E D Q → w'.cell? ⟨mb, 0, none⟩ = some (.pointer (some ⟨L.hb, 0, none⟩)) ∧ w'.cell? ⟨mb, 1, none⟩ = some (.int .i64 (t : Int)) ∧ w'.cell? ⟨L.hb, 28, none⟩ = some (.slice (some ⟨L.bb, 0, none⟩) h.T h.T)) := fun w' h' e q => by
    have hb := q.blk hm
    have := q.hc.c28
    rw [e] at this
    exact ⟨hb.cell 0, hb.cell 1, this⟩
  clear H hB ok ht hm k0 k1 c28
  generalize h.bx t = y0 at *
  generalize h.be t = y1 at *
  go_enter Tryz.func237, Tryz.ntmps237
  go_wp2_with fail
  go_region_held3 (fun w' => w'.cell? ⟨mb, 0, none⟩ = some (.pointer (some ⟨L.hb, 0, none⟩)) ∧ w'.cell? ⟨mb, 1, none⟩ = some (.int .i64 (t : Int)) ∧ w'.cell? ⟨L.hb, 28, none⟩ = some (.slice (some ⟨L.bb, 0, none⟩) h.T h.T))
    (first | with_reducible exact K0 | go_keep)
    (first | (go_at_call 260; refine (HDr.out _ HAd.out).mono ?_; rintro e w1 ⟨rfl, hA⟩; have HA1 := hide hA; have K0 := HK.out _ { h with bx := put1 h.bx t 0, be := put1 h.be t 0 } rfl hA; clear hA))
  clear K0 HAd HDr
  by_cases hxy : y0 < y1
  · obtain ⟨r, er, r1, r2, r3, r4⟩ := HIn.out hxy
    have HR := hide (And.intro r1 (And.intro r2 (And.intro r3 r4)))
    have HDt2 : Hid (dropT h t = put1 h.t r y0) := hide (by rw [HDt.out, if_pos hxy, er]; rfl)
    clear r1 r2 r3 r4 HIn HDt
    go_wp2_with fail
    have HAd := hide (HA1.out.fr0 hS (Fr.refl _ _).drew)
    have HK8 : Hid (∀ w', HM W w' L X { h with bx := put1 h.bx t 0, be := put1 h.be t 0 } x s k E D Q → w'.cell? ⟨mb, 0, none⟩ = some (.pointer (some ⟨L.hb, 0, none⟩)) ∧ w'.cell? ⟨L.hb, 14, none⟩ = some (.int .i64 h.g.words) ∧ w'.cell? ⟨L.hb, 15, none⟩ = some (.int .i64 h.g.rw) ∧ w'.cell? ⟨L.hb, 16, none⟩ = some (.int .i64 h.g.cw) ∧ w'.cell? ⟨L.hb, 17, none⟩ = some (.int .i64 h.g.regions) ∧ w'.cell? ⟨L.hb, 18, none⟩ = some (.int .i64 h.g.cards) ∧ w'.cell? ⟨L.hb, 19, none⟩ = some (.int .i64 h.g.max) ∧ w'.cell? ⟨L.hb, 21, none⟩ = some (.pointer (some ⟨L.tb, 0, none⟩))) := fun w' q => by
      have hb := (HMu.out _ _ _ q).1
      obtain ⟨a1, a2, a3, a4, a5, a6, a7, a8, a9, a10, a11, a12, a13, a14, a15, a16⟩ := HCe.out _ _ _ _ q
      exact ⟨hb, a1, a2, a3, a4, a5, a6, a8⟩
    have HK9 : Hid (∀ w', HM W w' L X { h with t := put1 h.t r y0, bx := put1 h.bx t 0, be := put1 h.be t 0 } x s k E D Q → w'.cell? ⟨mb, 0, none⟩ = some (.pointer (some ⟨L.hb, 0, none⟩)) ∧ w'.cell? ⟨L.hb, 14, none⟩ = some (.int .i64 h.g.words) ∧ w'.cell? ⟨L.hb, 15, none⟩ = some (.int .i64 h.g.rw) ∧ w'.cell? ⟨L.hb, 16, none⟩ = some (.int .i64 h.g.cw) ∧ w'.cell? ⟨L.hb, 17, none⟩ = some (.int .i64 h.g.regions) ∧ w'.cell? ⟨L.hb, 18, none⟩ = some (.int .i64 h.g.cards) ∧ w'.cell? ⟨L.hb, 19, none⟩ = some (.int .i64 h.g.max) ∧ w'.cell? ⟨L.hb, 21, none⟩ = some (.pointer (some ⟨L.tb, 0, none⟩))) := fun w' q => by
      have hb := (HMu.out _ _ _ q).1
      obtain ⟨a1, a2, a3, a4, a5, a6, a7, a8, a9, a10, a11, a12, a13, a14, a15, a16⟩ := HCe.out _ _ _ _ q
      exact ⟨hb, a1, a2, a3, a4, a5, a6, a8⟩
    have K0 := HK8.out _ HAd.out
    have HRD := hide (fun w' q => HRg.out w' h.t (put1 h.bx t 0) (put1 h.be t 0) y0 q)
    rw [er] at HRD
    have HSet := hide (fun w' q => HTp.out w' (put1 h.bx t 0) (put1 h.be t 0) r y0 HR.out.1 HR.out.2.1 HR.out.2.2.1 HR.out.2.2.2 q)
    clear er hxy
    go_region_held3 (fun w' => w'.cell? ⟨mb, 0, none⟩ = some (.pointer (some ⟨L.hb, 0, none⟩)) ∧ w'.cell? ⟨L.hb, 14, none⟩ = some (.int .i64 h.g.words) ∧ w'.cell? ⟨L.hb, 15, none⟩ = some (.int .i64 h.g.rw) ∧ w'.cell? ⟨L.hb, 16, none⟩ = some (.int .i64 h.g.cw) ∧ w'.cell? ⟨L.hb, 17, none⟩ = some (.int .i64 h.g.regions) ∧ w'.cell? ⟨L.hb, 18, none⟩ = some (.int .i64 h.g.cards) ∧ w'.cell? ⟨L.hb, 19, none⟩ = some (.int .i64 h.g.max) ∧ w'.cell? ⟨L.hb, 21, none⟩ = some (.pointer (some ⟨L.tb, 0, none⟩)))
      (first | with_reducible exact K0 | go_keep)
      (first | (go_at_call 37; refine (HRD.out _ HAd.out).mono ?_; rintro e w3 ⟨rfl, hA⟩; replace HAd := hide hA; have K0 := HK8.out _ hA; clear hA) | (go_at_call 261; refine (HSet.out _ HAd.out).mono ?_; rintro e w4 ⟨rfl, hA⟩; have HA2 := hide hA; have K0 := HK9.out _ hA; clear hA))
    all_goals
      go_wp2_with fail
      go_end0
      refine ⟨rfl, ?_⟩
      rw [HOut.out, HDt2.out]
      exact HA2.out
  · have HDt2 : Hid (dropT h t = h.t) := hide (by rw [HDt.out, if_neg hxy])
    clear HIn HDt
    go_wp2_with fail
    go_end0
    refine ⟨rfl, ?_⟩
    rw [HOut.out, HDt2.out]
    exact HA1.out
end
end Go.Proofs.YthacgiajnafpgaaGreatDoor
namespace Go.Proofs.YthacgiajnafpgaaGreatDoor
set_option linter.unusedVariables false
set_option linter.unusedSimpArgs false
set_option maxRecDepth 100000
open Go.RowKit Go.Gl HS

section
variable {W w w' : World} {L : HL} {X : HX} {h : HS} {x : HT} {s k : Nat} {E : Blks} {D : Nat → Prop} {Q : World → Prop} {mb t sb : Nat} {m : MU}
theorem HM.rlist (hS : Lives D Q) (H : HM W w L X h x s k E D Q) (y : Int) :
    Calls Tryz.prog 122 #[.pointer (some ⟨L.tb, 0, none⟩), .int .i64 y] w fun e w' => (∃ A c, e = .returned (.slice A (those h.s y h.R).length c)) ∧ HM W w' L X h x s k E D Q :=
  H.see hS fun own ⟨tg, FS, H⟩ => (rlist_any H.rg y).mono (by
    rintro e w' ⟨v, rfl, ho, hf⟩
    obtain ⟨A, c, rfl, _⟩ := Sl.own ho
    exact ⟨⟨A, c, rfl⟩, hf⟩)
theorem HM.take (hS : Lives D Q) (H : HM W w L X h x s k E D Q) {y : Int} (hy : Filled y) {j : Nat} (hl : LowFree h.s h.R j) :
    Calls Tryz.prog 157 #[.pointer (some ⟨L.tb, 0, none⟩), .int .i64 y] w fun e w' => e = .returned (.tuple #[.int .i64 (j : Int), .int .i64 0]) ∧ HM W w' L X { h with s := put1 h.s j y } x s k E D Q :=
  H.post hS fun own q => q.claim hy hl
theorem HM.young (H : HM W w L X h x s k E D Q) : w.cell? ⟨L.hb, 7, none⟩ = some (.int .i64 L.cfg.young) := H.hr.st.cell 7
/-- The heap when region j's words are thread i's buffer. -/
def fillH (h : HS) (i j : Nat) : HS := { h with s := put1 h.s j 1, t := put1 h.t j ((j * h.W + h.W : Nat) : Int), bx := put1 h.bx i ((j * h.W : Nat) : Int), be := put1 h.be i ((j * h.W + h.W : Nat) : Int) }
end
end Go.Proofs.YthacgiajnafpgaaGreatDoor
namespace Go.Proofs.YthacgiajnafpgaaGreatDoor
set_option linter.unusedVariables false
set_option linter.unusedSimpArgs false
set_option maxRecDepth 100000
open Go.RowKit Go.Gl HS

section
variable {W w w' : World} {L : HL} {X : HX} {h : HS} {x : HT} {s k : Nat} {E : Blks} {D : Nat → Prop} {Q : World → Prop} {mb t sb : Nat} {m : MU}
theorem HM.bbne (H : HM W w L X h x s k E D Q) {b : Nat} {ty : TypeId} {cs : Array Value} (hb : (b, ty, cs) ∈ E) : b ≠ L.bb := by
  obtain ⟨own, ⟨tg, FS, H, h1, h2⟩, hE, hD, hQ⟩ := H
  intro e
  have := (hE _ hb).2.1
  have h3 := H.o1.2.1
  simp only at this
  rw [e, h3] at this
  cases this
/-- A thread's own buffer was put. -/
theorem HM.bset (hS : Lives D Q) (H : HM W w L X h x s k E D Q) {i : Nat} (hi : i < h.T) {a b : Nat} (ha : a ≤ b) (hb : b ≤ 4194304) :
    HM W ((w.setCell ⟨L.bb, i * 2, none⟩ (.int .i64 (a : Int))).setCell ⟨L.bb, i * 2 + 1, none⟩ (.int .i64 (b : Int))) L X { h with bx := put1 h.bx i (a : Int), be := put1 h.be i (b : Int) } x s k E D Q := by
  have hbb := (H.hr.buf.put (i * 2) (.int .i64 (a : Int))).put (i * 2 + 1) (.int .i64 (b : Int))
  have e0 := bufV_set0 h.T h.bx h.be (i := i) (a : Int) hi
  have e1 := bufV_set1 h.T (put1 h.bx i (a : Int)) h.be (i := i) (b : Int) hi
  rw [e0, e1] at hbb
  refine H.buffer hS (fr_sets (fr_sets (Fr.refl _ _) (by simp) _ _) (by simp) _ _) hbb (fun j hj => ?_)
  have := H.ok.bok j hj
  unfold put1
  split <;> omega
set_option maxHeartbeats 3200000 in
theorem mtrefill_free (hS : Lives D Q) (H : HM W w L X h x s k E D Q) (hm : (mb, 148, muV L.hb t sb m) ∈ E) (ht : t < h.T) (hy : ((those h.s 1 h.R).length : Int) < L.cfg.young) {j : Nat} (hl : LowFree h.s h.R j) :
    Calls Tryz.prog 238 #[.pointer (some ⟨mb, 0, none⟩)] w fun e w' => e = .returned (.tuple #[]) ∧ HM W w' L X (fillH h t j) x s k E D Q := by
  have HAd := hide (H.fr0 hS (Fr.refl _ _).drew)
  have HL := hide (fun w' (q : HM W w' L X h x s k E D Q) => q.rlist hS 1)
  have HN := hide (fun w' (q : HM W w' L X h x s k E D Q) => q.take hS (y := 1) (.inl rfl) hl)
  have HK : Hid (∀ w', HM W w' L X h x s k E D Q → w'.cell? ⟨L.hb, 21, none⟩ = some (.pointer (some ⟨L.tb, 0, none⟩)) ∧ w'.cell? ⟨L.hb, 7, none⟩ = some (.int .i64 L.cfg.young)) := fun w' q => ⟨q.hc.c21, q.young⟩
  have HMu : Hid (∀ w' h' x', HM W w' L X h' x' s k E D Q → w'.cell? ⟨mb, 0, none⟩ = some (.pointer (some ⟨L.hb, 0, none⟩)) ∧ w'.cell? ⟨mb, 1, none⟩ = some (.int .i64 (t : Int))) := fun w' h' x' q => by
    have hb := q.blk hm
    exact ⟨hb.cell 0, hb.cell 1⟩
  have k0 : w.cell? ⟨mb, 0, none⟩ = some (.pointer (some ⟨L.hb, 0, none⟩)) := (H.blk hm).cell 0
  have K0 := HK.out _ HAd.out
  have NH := lt_of_cell K0.1
  have hyB : decide (((those h.s 1 h.R).length : Int) ≥ L.cfg.young) = false := by simpa using hy
  have hyC : decide (L.cfg.young ≤ ((those h.s 1 h.R).length : Int)) = false := by simpa using hy
  have hj : j < h.R := hl.1
  have hDm := H.dim
  have hmul : j * h.W + h.W ≤ h.R * h.W := mul_add_le hj
  have hww := hDm.wd
  have hNm := H.ok.nmax
  have HCe : Hid (∀ w' a b, HM W w' L X { h with s := a, t := b } x s k E D Q → Hcells w' L X h.g h.T) := fun w' a b q => q.hc
  have HBs : Hid (∀ w' a, HM W w' L X { h with s := a } x s k E D Q → Calls Tryz.prog 121 #[.agg #[.int .i64 h.g.words, .int .i64 h.g.rw, .int .i64 h.g.cw, .int .i64 h.g.regions, .int .i64 h.g.cards, .int .i64 h.g.max], .int .i64 (j : Int)] w' fun e w'' => e = .returned (.tuple #[.int .i64 ((j * h.W : Nat) : Int), .int .i64 0]) ∧ HM W w'' L X { h with s := a } x s k E D Q) := fun w' a q => q.base_at hS (r := j) hj
  have HTp : Hid (∀ w', HM W w' L X { h with s := put1 h.s j 1 } x s k E D Q → Calls Tryz.prog 261 #[.pointer (some ⟨L.tb, 0, none⟩), .int .i64 (j : Int), .int .i64 ((j * h.W + h.W : Nat) : Int)] w' fun e w'' => e = .returned (.int .i64 0) ∧ HM W w'' L X { h with s := put1 h.s j 1, t := put1 h.t j ((j * h.W + h.W : Nat) : Int) } x s k E D Q) := fun w' q => q.setTop hS (r := j) hj (by show Filled (put1 h.s j 1 j); unfold put1; rw [if_pos rfl]; exact .inl rfl) (by show ((j * h.W : Nat) : Int) ≤ ((j * h.W + h.W : Nat) : Int); omega) (by show ((j * h.W + h.W : Nat) : Int) ≤ ((j * h.W + h.W : Nat) : Int); omega)
  have hwp := H.ok.wpos
  have hrw := hDm.rw
  have hmx := hDm.mx
  have hlim : j * h.W + h.W ≤ 4194304 := by omega
  have hsum : IntKind.i64.wrap (((j * h.W : Nat) : Int) + h.g.rw) = ((j * h.W + h.W : Nat) : Int) := by rw [hrw, IntWalk.i64_in _ ⟨by omega, by omega⟩]; omega
  have HBn : Hid (∀ w', Calls Tryz.prog 262 #[.int .i64 ((j * h.W : Nat) : Int), .int .i64 ((j * h.W + h.W : Nat) : Int)] w' fun e w'' => e = .returned (.tuple #[.agg #[.int .i64 ((j * h.W : Nat) : Int), .int .i64 ((j * h.W + h.W : Nat) : Int)], .int .i64 0]) ∧ Fr [] w' w'') := fun w' => by
    have := bnew_any ((j * h.W : Nat) : Int) ((j * h.W + h.W : Nat) : Int) w'
    unfold nuV nuX nuY nuE at this
    rw [if_pos (by omega), if_pos (by omega), if_pos (by omega)] at this
    exact this
  have HSt : Hid (∀ w', HM W w' L X { h with s := put1 h.s j 1, t := put1 h.t j ((j * h.W + h.W : Nat) : Int) } x s k E D Q → HM W ((w'.setCell ⟨L.bb, t * 2, none⟩ (.int .i64 ((j * h.W : Nat) : Int))).setCell ⟨L.bb, t * 2 + 1, none⟩ (.int .i64 ((j * h.W + h.W : Nat) : Int))) L X (fillH h t j) x s k E D Q) := fun w' q => q.bset hS (i := t) ht (by omega) hlim
  have HBf : Hid (∀ w' a b, HM W w' L X { h with s := a, t := b } x s k E D Q → w'.cell? ⟨L.bb, t * 2, none⟩ = some (.int .i64 (h.bx t)) ∧ w'.cell? ⟨L.bb, t * 2 + 1, none⟩ = some (.int .i64 (h.be t)) ∧ w'.frozen? ⟨L.bb, t * 2, none⟩ = false ∧ w'.frozen? ⟨L.bb, t * 2 + 1, none⟩ = false ∧ L.bb < w'.heap.size) := fun w' a b q => by
    obtain ⟨b0, b1⟩ := q.bufs (i := t) ht
    exact ⟨b0, b1, q.hr.buf.frozen _, q.hr.buf.frozen _, q.hr.buf.lt⟩
  have HKf : Hid (∀ w', HM W w' L X (fillH h t j) x s k E D Q → w'.cell? ⟨mb, 1, none⟩ = some (.int .i64 (t : Int)) ∧ w'.cell? ⟨L.hb, 28, none⟩ = some (.slice (some ⟨L.bb, 0, none⟩) h.T h.T)) := fun w' q => ⟨(HMu.out _ _ _ q).2, q.hc.c28⟩
  have NE1 : mb ≠ L.bb := H.bbne hm
  have NE2 : L.hb ≠ L.bb := H.hr.st.apart H.hr.buf (by decide)
  have ht1 : (t : Int) < (h.T : Int) := by omega
  clear H hm hl hDm hmul hww hNm hwp hrw hmx
  generalize hab : ((j * h.W : Nat) : Int) = a9 at *
  generalize hae : ((j * h.W + h.W : Nat) : Int) = b9 at *
  generalize (those h.s 1 h.R).length = n9 at *
  generalize L.cfg.young = y9 at *
  go_enter Tryz.func238, Tryz.ntmps238
  go_wp2_with fail
  go_cut [23] from 12 to 23 (fun v wc => v = .bool false ∧ ∃ w1, w1 = wc ∧ HM W w1 L X h x s k E D Q)
  case first =>
    go_region_held3 (fun w' => w'.cell? ⟨L.hb, 21, none⟩ = some (.pointer (some ⟨L.tb, 0, none⟩)) ∧ w'.cell? ⟨L.hb, 7, none⟩ = some (.int .i64 y9))
      (first | with_reducible exact K0 | go_keep)
      (first | (go_at_call 122; refine (HL.out _ HAd.out).mono ?_; rintro e w1 ⟨⟨A1, c1, rfl⟩, hA⟩; have HA1 := hide hA; have K0 := HK.out _ hA; clear hA))
    all_goals
      go_wp2_with fail
      go_meet
      case rel => exact ⟨rfl, _, rfl, HA1.out⟩
  case rest =>
    obtain ⟨rfl, w1, rfl, hA1⟩ := hcut
    have k21 := (HK.out _ hA1).1
    have NH1 := lt_of_cell k21
    have HN1 := hide (HN.out _ hA1)
    clear k0 hA1 K0 NH
    go_wp2_with fail
    refine HN1.out.mono ?_
    rintro e w2 ⟨rfl, hA⟩
    have HA2 := hide hA
    obtain ⟨c14, c15, c16, c17, c18, c19, -, -, -, -, -, -, -, -, -, NH⟩ := HCe.out w2 (put1 h.s j 1) h.t hA
    clear hA k21 NH1 HN1
    go_wp2_with fail
    refine (HBs.out w2 (put1 h.s j 1) HA2.out).mono ?_
    rintro e w3 ⟨rfl, hA⟩
    have HA3 := hide hA
    clear c14 c15 c16 c17 c18 c19 NH
    have c15 := (HCe.out w3 (put1 h.s j 1) h.t hA).c15
    have c21 := (HCe.out w3 (put1 h.s j 1) h.t hA).c21
    have NH := lt_of_cell c21
    clear hA
    go_wp2_with fail
    refine (HTp.out _ HA3.out).mono ?_
    rintro e w4 ⟨rfl, hA⟩
    have HA4 := hide hA
    have HA4d := hide (hA.fr0 hS (Fr.refl _ _).drew)
    have HK9 : Hid (∀ w', HM W w' L X { h with s := put1 h.s j 1, t := put1 h.t j b9 } x s k E D Q → w'.cell? ⟨mb, 1, none⟩ = some (.int .i64 (t : Int)) ∧ w'.cell? ⟨L.hb, 28, none⟩ = some (.slice (some ⟨L.bb, 0, none⟩) h.T h.T)) := fun w' q => ⟨(HMu.out _ _ _ q).2, (HCe.out _ _ _ q).c28⟩
    have K0 := HK9.out _ HA4d.out
    clear c15 c21 NH hA
    go_wp2_with fail
    go_region_held3 (fun w' => w'.cell? ⟨mb, 1, none⟩ = some (.int .i64 (t : Int)) ∧ w'.cell? ⟨L.hb, 28, none⟩ = some (.slice (some ⟨L.bb, 0, none⟩) h.T h.T))
      (first | with_reducible exact K0 | exact HKf.out _ (HSt.out _ HA5.out) | go_keep)
      (first | (go_at_call 262; refine (HBn.out _).mono ?_; rintro e w5 ⟨rfl, hf⟩; have HA5 := hide (HA4d.out.fr0 hS hf); have K0 := HK9.out _ HA5.out; obtain ⟨y0, y1, z0, z1, NB⟩ := HBf.out _ _ _ HA5.out; clear hf))
    all_goals
      go_wp2_with fail
      go_end0
      exact ⟨rfl, HSt.out _ HA5.out⟩
end
end Go.Proofs.YthacgiajnafpgaaGreatDoor
namespace Go.Proofs.YthacgiajnafpgaaGreatDoor
set_option linter.unusedVariables false
set_option linter.unusedSimpArgs false
set_option maxRecDepth 100000
open Go.RowKit Go.Gl HS

section
variable {W w w' : World} {L : HL} {X : HX} {h : HS} {x : HT} {s k : Nat} {E : Blks} {D : Nat → Prop} {Q : World → Prop} {mb t sb : Nat} {m : MU}
set_option maxHeartbeats 1600000 in
theorem mtwords_new (hS : Lives D Q) (H : HM W w L X h x s k E D Q) (hm : (mb, 148, muV L.hb t sb m) ∈ E) (ht : t < h.T) (hB : h.BufIn) {n : Int} (hbg : h.g.bigB n = false) (hn : 1 ≤ n) (hnW : n ≤ (h.W : Int)) (hn2 : h.be t - h.bx t < n) (hy : ((those h.s 1 h.R).length : Int) < L.cfg.young) {j : Nat} (hl : LowFree h.s h.R j) :
    Calls Tryz.prog 205 #[.pointer (some ⟨mb, 0, none⟩), .int .i64 n] w fun e w' => e = .returned (.tuple #[.int .i64 ((j * h.W : Nat) : Int), .int .i64 0]) ∧ HM W w' L X { fillH (dropH h t) t j with bx := put1 (fillH (dropH h t) t j).bx t (((j * h.W : Nat) : Int) + n) } x s k E D Q := by
  have HBg : Hid (∀ w', HM W w' L X h x s k E D Q → Calls Tryz.prog 147 #[.agg #[.int .i64 h.g.words, .int .i64 h.g.rw, .int .i64 h.g.cw, .int .i64 h.g.regions, .int .i64 h.g.cards, .int .i64 h.g.max], .int .i64 n] w' fun e w'' => e = .returned (.bool false) ∧ HM W w'' L X h x s k E D Q) := fun w' q => by
    refine (big_any h.g n w' (by rw [q.dim.rw]; omega)).mono ?_
    rintro e w'' ⟨rfl, hf⟩
    rw [hbg]
    exact ⟨rfl, q.fr0 hS hf⟩
  have HLf : Hid (∀ w', HM W w' L X h x s k E D Q → Calls Tryz.prog 236 #[.pointer (some ⟨L.bb, t * 2, none⟩)] w' fun e w'' => e = .returned (.int .i64 (h.be t - h.bx t)) ∧ HM W w'' L X h x s k E D Q) := fun w' q => q.bleft hS ht
  have HMu : Hid (∀ w' h' x', HM W w' L X h' x' s k E D Q → w'.cell? ⟨mb, 0, none⟩ = some (.pointer (some ⟨L.hb, 0, none⟩)) ∧ w'.cell? ⟨mb, 1, none⟩ = some (.int .i64 (t : Int))) := fun w' h' x' q => by
    have hb := q.blk hm
    exact ⟨hb.cell 0, hb.cell 1⟩
  have HCe : Hid (∀ w', HM W w' L X h x s k E D Q → Hcells w' L X h.g h.T) := fun w' q => q.hc
  have HF0 : Hid (∀ w' i, HM W w' L X h x s k E D Q → HM W (w'.drewN i) L X h x s k E D Q) := fun w' i q => q.fr0 hS ((Fr.refl _ _).drewN _)
  have ht1 : (t : Int) < (h.T : Int) := by omega
  have HA0 := hide H
  obtain ⟨c14, c15, c16, c17, c18, c19, -, -, -, -, -, -, -, -, -, NH⟩ := H.hc
  have k0 := (HMu.out _ _ _ H).1
  have HRt : Hid (∀ w', HM W w' L X h x s k E D Q → Calls Tryz.prog 237 #[.pointer (some ⟨mb, 0, none⟩)] w' fun e w'' => e = .returned (.tuple #[]) ∧ HM W w'' L X (dropH h t) x s k E D Q) := fun w' q => mtretire_any hS q hm ht hB
  have HRf : Hid (∀ w', HM W w' L X (dropH h t) x s k E D Q → Calls Tryz.prog 238 #[.pointer (some ⟨mb, 0, none⟩)] w' fun e w'' => e = .returned (.tuple #[]) ∧ HM W w'' L X (fillH (dropH h t) t j) x s k E D Q) := fun w' q => mtrefill_free hS q hm ht hy hl
  have HTk : Hid (∀ w', HM W w' L X (fillH (dropH h t) t j) x s k E D Q → Calls Tryz.prog 239 #[.pointer (some ⟨L.bb, t * 2, none⟩), .int .i64 n] w' fun e w'' => e = .returned (.tuple #[.int .i64 ((j * h.W : Nat) : Int), .int .i64 0]) ∧ HM W w'' L X { fillH (dropH h t) t j with bx := put1 (fillH (dropH h t) t j).bx t (((j * h.W : Nat) : Int) + n) } x s k E D Q) := fun w' q => by
    have ex : (fillH (dropH h t) t j).bx t = ((j * h.W : Nat) : Int) := by show put1 _ t _ t = _; unfold put1; rw [if_pos rfl]; rfl
    have ee : (fillH (dropH h t) t j).be t = ((j * h.W + h.W : Nat) : Int) := by show put1 _ t _ t = _; unfold put1; rw [if_pos rfl]; rfl
    have := q.btake hS (i := t) ht hn (by rw [ex, ee]; omega)
    rwa [ex] at this
  have hge : decide (h.be t - h.bx t < n) = true := by simp; omega
  clear H hm hbg ht hn hnW hn2 hB hy hl
  go_enter Tryz.func205, Tryz.ntmps205
  go_wp2_with fail
  refine (HBg.out _ HA0.out).mono ?_
  rintro e w1 ⟨rfl, hA⟩
  have HA1 := hide hA
  obtain ⟨k0', k1⟩ := HMu.out _ _ _ hA
  have c28 := (HCe.out _ hA).c28
  have NH1 := (HCe.out _ hA).lt
  clear c14 c15 c16 c17 c18 c19 NH k0 hA
  go_wp2_with fail
  go_quiet (fail)
  have HA2 := hide (HF0.out _ nq HA1.out)
  have HL2 := hide (HLf.out _ HA2.out)
  clear k0' k1 c28 NH1
  go_wp2_with fail
  refine HL2.out.mono ?_
  rintro e w2 ⟨rfl, hA⟩
  have HA3 := hide hA
  clear hA
  have HR3 := hide (HRt.out _ HA3.out)
  go_wp2_with fail
  refine HR3.out.mono ?_
  rintro e w3 ⟨rfl, hA⟩
  have HR4 := hide (HRf.out _ hA)
  clear hA
  go_wp2_with fail
  refine HR4.out.mono ?_
  rintro e w4 ⟨rfl, hA⟩
  have HT3 := hide (HTk.out _ hA)
  clear hA
  go_wp2_with fail
  refine HT3.out.mono ?_
  rintro e w5 ⟨rfl, hA⟩
  have HA4 := hide hA
  clear hA
  go_wp2_with fail
  go_ret2
  exact ⟨rfl, HA4.out⟩
end
end Go.Proofs.YthacgiajnafpgaaGreatDoor
namespace Go.Proofs.YthacgiajnafpgaaGreatDoor
set_option linter.unusedVariables false
set_option linter.unusedSimpArgs false
set_option maxRecDepth 100000
open Go.RowKit Go.Gl HS

section
variable {W w w' : World} {L : HL} {X : HX} {h : HS} {x : HT} {s k : Nat} {E : Blks} {D : Nat → Prop} {Q : World → Prop} {mb t sb : Nat} {m : MU}
theorem HM.make (hS : Lives D Q) (H : HM W w L X h x s k E D Q) {I S P : Nat} (hz : 1 ≤ S ∧ S ≤ 1048576) (hP : P < S) (hn : I + S ≤ h.n) :
    Calls Tryz.prog 84 #[.pointer (some ⟨L.ab, 0, none⟩), .int .i64 (I : Int), .int .i64 (S : Int), .int .i64 (P : Int)] w fun e w' => e = .returned (.int .i64 0) ∧ HM W w' L X { h with f := upd (updRow h.f I S (fun _ => 0)) I (objW S P) } x s k E D Q :=
  H.post hS fun own q => q.make hz hP hn
theorem HM.push (hS : Lives D Q) (H : HM W w L X h x s k E D Q) {i : Nat} (hi : i < h.T) (hB : L.B ≤ 64) (hl : (h.st i).length < L.B) {r : Int} (hr : 0 ≤ r ∧ r < 18446744073709551616) :
    Calls Tryz.prog 88 #[.pointer (some ⟨L.S i, 0, none⟩), .int .u64 r] w fun e w' => e = .returned (.int .i64 0) ∧ HM W w' L X { h with st := setN h.st i (h.st i ++ [r]) } x s k E D Q :=
  H.post hS fun own q => q.push hi hB hl hr
theorem HM.run (hS : Lives D Q) (H : HM W w L X h x s k E D Q) {c f z : Nat} (hc : 1 ≤ c) (hz1 : (c - 1) * h.W < z) (hz2 : z ≤ c * h.W) (hl : LowRun h.s h.R c f) :
    Calls Tryz.prog 155 #[.pointer (some ⟨L.tb, 0, none⟩), .int .i64 (c : Int), .int .i64 (z : Int)] w fun e w' => e = .returned (.tuple #[.int .i64 (f : Int), .int .i64 0]) ∧ HM W w' L X { h with s := put1 (put2 h.s f (f + c) fun _ => 5) f 4, t := put2 h.t f (f + c) (runTop h.W f z) } x s k E D Q :=
  H.post hS fun own q => q.run hc hz1 hz2 hl
/-- A call on the mutator alone: its block turns. -/
theorem HM.mut (hS : Lives D Q) (hT : Tab W) {f : FuncId} {args : Array Value} {P : Ending → Prop} {m' : MU} (H : HM W w L X h x s k ((mb, 148, muV L.hb t sb m) :: E) D Q) (hne : ∀ q, q ∈ E → q.1 ≠ mb)
    (hc : Blk w mb 148 (muV L.hb t sb m) → Calls Tryz.prog f args w fun e w' => P e ∧ Blk w' mb 148 (muV L.hb t sb m') ∧ Fr [mb] w w') :
    Calls Tryz.prog f args w fun e w' => P e ∧ HM W w' L X h x s k ((mb, 148, muV L.hb t sb m') :: E) D Q :=
  (hc (H.blk (List.mem_cons_self ..))).mono (by
    rintro e w' ⟨hp, hb, hf⟩
    exact ⟨hp, H.turn hS hT hf hb hne⟩)
end
end Go.Proofs.YthacgiajnafpgaaGreatDoor
namespace Go.Proofs.YthacgiajnafpgaaGreatDoor
set_option linter.unusedVariables false
set_option linter.unusedSimpArgs false
set_option maxRecDepth 100000
open Go.RowKit Go.Gl HS

section
variable {W w w' : World} {L : HL} {X : HX} {h : HS} {x : HT} {s k : Nat} {E : Blks} {D : Nat → Prop} {Q : World → Prop} {mb t sb : Nat} {m : MU}
end
end Go.Proofs.YthacgiajnafpgaaGreatDoor
namespace Go.Proofs.YthacgiajnafpgaaGreatDoor
set_option linter.unusedVariables false
set_option linter.unusedSimpArgs false
set_option maxRecDepth 100000
open Go.RowKit Go.Gl HS

section
variable {W w w' : World} {L : HL} {X : HX} {h h2 : HS} {x x2 : HT} {s k : Nat} {E : Blks} {D : Nat → Prop} {Q : World → Prop} {mb t sb : Nat} {m : MU}
def resZ : Array Value := #[.int .i64 0, .int .i64 0, .int .i64 0, .int .u64 0, .bool false, .bool false, .bool false, .bool false, .slice none 0 0]
/-- Nine cells of a block were put. -/
abbrev put9 (w : World) (b : Nat) (v0 v1 v2 v3 v4 v5 v6 v7 v8 : Value) : World :=
  ((((((((w.setCell ⟨b, 0, none⟩ v0).setCell ⟨b, 1, none⟩ v1).setCell ⟨b, 2, none⟩ v2).setCell ⟨b, 3, none⟩ v3).setCell ⟨b, 4, none⟩ v4).setCell ⟨b, 5, none⟩ v5).setCell ⟨b, 6, none⟩ v6).setCell ⟨b, 7, none⟩ v7).setCell ⟨b, 8, none⟩ v8
theorem fr_put9 (w : World) (b : Nat) (v0 v1 v2 v3 v4 v5 v6 v7 v8 : Value) : Fr [b] w (put9 w b v0 v1 v2 v3 v4 v5 v6 v7 v8) :=
  fr_sets (fr_sets (fr_sets (fr_sets (fr_sets (fr_sets (fr_sets (fr_sets (fr_sets (Fr.refl [b] w) (by simp) 0 _) (by simp) 1 _) (by simp) 2 _) (by simp) 3 _) (by simp) 4 _) (by simp) 5 _) (by simp) 6 _) (by simp) 7 _) (by simp) 8 _
theorem blk_put9 {b : Nat} {ty : TypeId} {a0 a1 a2 a3 a4 a5 a6 a7 a8 : Value} (h : Blk w b ty #[a0, a1, a2, a3, a4, a5, a6, a7, a8]) (v0 v1 v2 v3 v4 v5 v6 v7 v8 : Value) : Blk (put9 w b v0 v1 v2 v3 v4 v5 v6 v7 v8) b ty #[v0, v1, v2, v3, v4, v5, v6, v7, v8] := by
  have := ((((((((h.put 0 v0).put 1 v1).put 2 v2).put 3 v3).put 4 v4).put 5 v5).put 6 v6).put 7 v7).put 8 v8
  simpa using this
theorem HM.res9 (hS : Lives D Q) (hT : Tab W) {rb : Nat} {a0 a1 a2 a3 a4 a5 a6 a7 a8 : Value} (H : HM W w L X h x s k ((rb, 77, #[a0, a1, a2, a3, a4, a5, a6, a7, a8]) :: E) D Q) (hne : ∀ q, q ∈ E → q.1 ≠ rb) (v0 v1 v2 v3 v4 v5 v6 v7 v8 : Value) :
    HM W (put9 w rb v0 v1 v2 v3 v4 v5 v6 v7 v8) L X h x s k E D Q :=
  (H.turn hS hT (fr_put9 w rb v0 v1 v2 v3 v4 v5 v6 v7 v8) (blk_put9 (H.blk (List.mem_cons_self ..)) v0 v1 v2 v3 v4 v5 v6 v7 v8) hne).sub (fun q hq => List.mem_cons_of_mem _ hq)
end
end Go.Proofs.YthacgiajnafpgaaGreatDoor
namespace Go.Proofs.YthacgiajnafpgaaGreatDoor
set_option linter.unusedVariables false
set_option linter.unusedSimpArgs false
set_option maxRecDepth 100000
open Go.RowKit Go.Gl HS

section
variable {W w w' : World} {L : HL} {X : HX} {h h2 : HS} {x x2 : HT} {s k : Nat} {E : Blks} {D : Nat → Prop} {Q : World → Prop} {mb t sb : Nat} {m : MU}
def MU.op (m : MU) : Po := ⟨m.k, m.a, m.b, m.c, m.v⟩
set_option maxHeartbeats 3200000 in
theorem mtalloc_ok (hS : Lives D Q) (hT : Tab W) (H : HM W w L X h x s k ((mb, 148, muV L.hb t sb m) :: E) D Q) (hne : ∀ q, q ∈ E → q.1 ≠ mb) (ht : t < h.T) (hB : L.B ≤ 64) (hl : (h.st t).length < L.B)
    {M : Nat} (hM : h.g.max = (M : Int)) (hM2 : M ≤ 1048576) (hsz : ¬ sizeBad M m.a m.b) (ho : PoOk m.op) {ad : Int}
    (hw : ∀ w' E', (mb, 148, muV L.hb t sb m) ∈ E' → HM W w' L X h x s k E' D Q → Calls Tryz.prog 205 #[.pointer (some ⟨mb, 0, none⟩), .int .i64 (1 + m.a + m.b)] w' fun e w'' => e = .returned (.tuple #[.int .i64 ad, .int .i64 0]) ∧ HM W w'' L X h2 x2 s k E' D Q) :
    Calls Tryz.prog 140 #[.pointer (some ⟨mb, 0, none⟩)] w fun e w' => e = .returned (resV 0 0 An.zero false true false (.slice none 0 0)) ∧ HM W w' L X h2 x2 s k ((mb, 148, muV L.hb t sb { m with st := 5, ad := ad }) :: E) D Q := by
  have hmb := H.blk (List.mem_cons_self ..)
  have hlt := hmb.lt
  have hltE : ∀ q, q ∈ E → q.1 < w.heap.size := fun q hq => (H.blk (b := q.1) (t := q.2.1) (cs := q.2.2) (List.mem_cons_of_mem _ hq)).lt
  have HX := hide (H.alloc hS 77 #[.int .i64 0, .int .i64 0, .int .i64 0, .int .u64 0, .bool false, .bool false, .bool false, .bool false, .slice none 0 0])
  have HSz : Hid (Calls Tryz.prog 204 #[.pointer (some ⟨mb, 0, none⟩), opV m.op] (w.alloc (.cells #[.int .i64 0, .int .i64 0, .int .i64 0, .int .u64 0, .bool false, .bool false, .bool false, .bool false, .slice none 0 0] 77)) fun e w' => e = .returned (.tuple #[.int .i64 (1 + m.a + m.b), .int .i64 0]) ∧ HM W w' L X h x s k ((w.heap.size, 77, #[.int .i64 0, .int .i64 0, .int .i64 0, .int .u64 0, .bool false, .bool false, .bool false, .bool false, .slice none 0 0]) :: (mb, 148, muV L.hb t sb m) :: E) D Q) := by
    have := mtsize_any (HX.out.blk (List.mem_cons_of_mem _ (List.mem_cons_self ..))) HX.out.hc hM hM2 m.op ho
    unfold szN szE at this
    rw [if_neg (show ¬ sizeBad M m.op.a m.op.b from hsz), if_neg (show ¬ sizeBad M m.op.a m.op.b from hsz)] at this
    exact this.mono (by rintro e w' ⟨rfl, hf⟩; exact ⟨rfl, HX.out.fr0 hS hf⟩)
  have HSk : Hid (∀ w' E', (mb, 148, muV L.hb t sb m) ∈ E' → HM W w' L X h x s k E' D Q → Calls Tryz.prog 145 #[.pointer (some ⟨mb, 0, none⟩)] w' fun e w'' => e = .returned (.pointer (some ⟨L.S t, 0, none⟩)) ∧ HM W w'' L X h x s k E' D Q) := fun w' E' hm q => (mtstack_any (q.blk hm) q.hr ht).mono (by rintro e w'' ⟨rfl, hf⟩; exact ⟨rfl, q.fr0 hS hf⟩)
  have HRm : Hid (∀ w' E', HM W w' L X h x s k E' D Q → Calls Tryz.prog 162 #[.pointer (some ⟨L.S t, 0, none⟩)] w' fun e w'' => e = .returned (.int .i64 ((L.B : Int) - ((h.st t).length : Int))) ∧ HM W w'' L X h x s k E' D Q) := fun w' E' q => by
    obtain ⟨F, hk⟩ := q.hr.stk t ht
    refine (hroom_any hk (by omega) hB).mono ?_
    rintro e w'' ⟨rfl, n, rfl⟩
    exact ⟨rfl, q.fr0 hS ((Fr.refl _ _).drewN _)⟩
  have hroom : ((L.B : Int) - ((h.st t).length : Int) == 0) = false := by simp; omega
  have HW := hide hw
  have HGo : Hid (∀ w' rb c, rb ≠ mb → HM W w' L X h2 x2 s k ((rb, 77, c) :: (mb, 148, muV L.hb t sb m) :: E) D Q → Calls Tryz.prog 206 #[.pointer (some ⟨mb, 0, none⟩), .int .i64 5, .int .i64 ad] w' fun e w'' => e = .returned (resV 0 0 An.zero false true false (.slice none 0 0)) ∧ HM W w'' L X h2 x2 s k ((rb, 77, c) :: (mb, 148, muV L.hb t sb { m with st := 5, ad := ad }) :: E) D Q) := fun w' rb c hr q => by
    have q2 : HM W w' L X h2 x2 s k ((mb, 148, muV L.hb t sb m) :: (rb, 77, c) :: E) D Q := q.sub (fun y hy => by
      rcases List.mem_cons.1 hy with rfl | hy
      · exact List.mem_cons_of_mem _ (List.mem_cons_self ..)
      · rcases List.mem_cons.1 hy with rfl | hy
        · exact List.mem_cons_self ..
        · exact List.mem_cons_of_mem _ (List.mem_cons_of_mem _ hy))
    refine (q2.mut (P := fun e => e = .returned (resV 0 0 An.zero false true false (.slice none 0 0))) hS hT (m' := { m with st := 5, ad := ad }) (fun y hy => ?_) (fun hb => mgoOn_any hb 5 ad)).mono ?_
    · rcases List.mem_cons.1 hy with rfl | hy
      · exact hr
      · exact hne y hy
    · rintro e w'' ⟨he, q3⟩
      refine ⟨he, q3.sub (fun y hy => ?_)⟩
      rcases List.mem_cons.1 hy with rfl | hy
      · exact List.mem_cons_of_mem _ (List.mem_cons_self ..)
      · rcases List.mem_cons.1 hy with rfl | hy
        · exact List.mem_cons_self ..
        · exact List.mem_cons_of_mem _ (List.mem_cons_of_mem _ hy)
  have HEnd : Hid (∀ w' rb a0 a1 a2 a3 a4 a5 a6 a7 a8 v0 v1 v2 v3 v4 v5 v6 v7 v8, rb ≠ mb → (∀ q, q ∈ E → q.1 ≠ rb) → HM W w' L X h2 x2 s k ((rb, 77, #[a0, a1, a2, a3, a4, a5, a6, a7, a8]) :: (mb, 148, muV L.hb t sb { m with st := 5, ad := ad }) :: E) D Q → HM W (put9 w' rb v0 v1 v2 v3 v4 v5 v6 v7 v8) L X h2 x2 s k ((mb, 148, muV L.hb t sb { m with st := 5, ad := ad }) :: E) D Q) := fun w' rb a0 a1 a2 a3 a4 a5 a6 a7 a8 v0 v1 v2 v3 v4 v5 v6 v7 v8 hr hq q =>
    q.res9 hS hT (fun y hy => by
      rcases List.mem_cons.1 hy with rfl | hy
      · exact fun e => hr e.symm
      · exact hq y hy) v0 v1 v2 v3 v4 v5 v6 v7 v8
  obtain ⟨c0, c1, c2, c3, c4, c5, c6, c7, c8, c9, c10⟩ := muCells hmb
  have HRB : Hid (w.heap.size ≠ mb ∧ ∀ q, q ∈ E → q.1 ≠ w.heap.size) := ⟨by omega, fun q hq => by have := hltE q hq; omega⟩
  unfold opV at HSz
  unfold MU.op at HSz
  simp only at HSz
  unfold resV at HGo ⊢
  unfold An.zero at HGo ⊢
  clear H hmb hltE HX hw hB hl hM hM2 hsz ho hne
  generalize (L.B : Int) - ((h.st t).length : Int) = rm at *
  go_enter Tryz.func140, Tryz.ntmps140
  go_wp2_with fail
  refine HSz.out.mono ?_
  rintro e w1 ⟨rfl, hA⟩
  have HA1 := hide hA
  have HK1 := hide (HSk.out _ _ (List.mem_cons_of_mem _ (List.mem_cons_self ..)) hA)
  clear hA c0 c1 c2 c3 c4 c5 c6 c7 c8 c9 c10 HSz
  go_wp2_with fail
  refine HK1.out.mono ?_
  rintro e w2 ⟨rfl, hA⟩
  have HK2 := hide (HRm.out _ _ hA)
  clear hA HK1
  go_wp2_with fail
  refine HK2.out.mono ?_
  rintro e w3 ⟨rfl, hA⟩
  have HK3 := hide (HW.out _ _ (List.mem_cons_of_mem _ (List.mem_cons_self ..)) hA)
  clear hA HK2
  go_wp2_with fail
  refine HK3.out.mono ?_
  rintro e w4 ⟨rfl, hA⟩
  have HK4 := hide (HGo.out _ _ _ HRB.out.1 hA)
  clear hA HK3
  go_wp2_with fail
  refine HK4.out.mono ?_
  rintro e w5 ⟨rfl, hA⟩
  have HA5 := hide hA
  have hrb := hA.blk (List.mem_cons_self ..)
  have y0 := hrb.cell 0
  have y1 := hrb.cell 1
  have y2 := hrb.cell 2
  have y3 := hrb.cell 3
  have y4 := hrb.cell 4
  have y5 := hrb.cell 5
  have y6 := hrb.cell 6
  have y7 := hrb.cell 7
  have y8 := hrb.cell 8
  have z0 := hrb.frozen 0
  have z1 := hrb.frozen 1
  have z2 := hrb.frozen 2
  have z3 := hrb.frozen 3
  have z4 := hrb.frozen 4
  have z5 := hrb.frozen 5
  have z6 := hrb.frozen 6
  have z7 := hrb.frozen 7
  have z8 := hrb.frozen 8
  have NR := hrb.lt
  clear hA hrb HK4
  go_wp2_with fail
  refine bodyPost_ret (v := .agg #[.int .i64 0, .int .i64 0, .int .i64 0, .int .u64 0, .bool false, .bool false, .bool true, .bool false, .slice none 0 0]) (by simp [results, Tryz.results140, go_sem, *]) rfl ⟨rfl, ?_⟩
  exact HEnd.out _ _ _ _ _ _ _ _ _ _ _ _ _ _ _ _ _ _ _ _ HRB.out.1 HRB.out.2 HA5.out
end
end Go.Proofs.YthacgiajnafpgaaGreatDoor
namespace Go.Proofs.YthacgiajnafpgaaGreatDoor
set_option linter.unusedVariables false
set_option linter.unusedSimpArgs false
set_option maxRecDepth 100000
open Go.RowKit Go.Gl HS

section
variable {W w w' : World} {L : HL} {X : HX} {h h2 : HS} {x x2 : HT} {s k : Nat} {E : Blks} {D : Nat → Prop} {Q : World → Prop} {mb t sb : Nat} {m : MU}
set_option maxHeartbeats 3200000 in
theorem mtmake_small (hS : Lives D Q) (hT : Tab W) (H : HM W w L X h x s k ((mb, 148, muV L.hb t sb m) :: E) D Q) (hne : ∀ q, q ∈ E → q.1 ≠ mb) (ht : t < h.T) (hB : L.B ≤ 64) (hl : (h.st t).length < L.B)
    {I S P : Nat} (ha : m.a = (P : Int)) (hb : m.b = ((S - 1 - P : Nat) : Int)) (had : m.ad = (I : Int)) (hP : P < S) (hz : S ≤ 1048576) (hn : I + S ≤ h.n) (hbg : h.g.bigB (S : Int) = false) (hd : (m.dn : Int) + 1 ≤ 9223372036854775807) :
    Calls Tryz.prog 75 #[.pointer (some ⟨mb, 0, none⟩)] w fun e w' => e = .returned (resV (t : Int) (m.dn : Int) ⟨0, 0, false⟩ true false false (.slice none 0 0)) ∧
      HM W w' L X { h with f := upd (updRow h.f I S (fun _ => 0)) I (objW S P), st := setN h.st t (h.st t ++ [(I : Int) + 1]) } x s k ((mb, 148, muV L.hb t sb (MU.zero (m.dn + 1))) :: E) D Q := by
  have hmb := H.blk (List.mem_cons_self ..)
  have hlt := hmb.lt
  have hnm := H.ok.nmax
  obtain ⟨c0, c1, c2, c3, c4, c5, c6, c7, c8, c9, c10⟩ := muCells hmb
  rw [ha] at c5
  rw [hb] at c6
  rw [had] at c10
  have e1 : IntKind.i64.wrap (1 + (P : Int)) = 1 + (P : Int) := IntWalk.i64_in _ ⟨by omega, by omega⟩
  have e2 : IntKind.i64.wrap (1 + (P : Int) + ((S - 1 - P : Nat) : Int)) = (S : Int) := by rw [IntWalk.i64_in _ ⟨by omega, by omega⟩]; omega
  clear hmb ha hb had
  have hltE : ∀ q, q ∈ E → q.1 < w.heap.size := fun q hq => (H.blk (b := q.1) (t := q.2.1) (cs := q.2.2) (List.mem_cons_of_mem _ hq)).lt
  have HX2 : Hid (HM W (((w.alloc (.cells #[.int .i64 0, .int .i64 0, .int .i64 0, .int .u64 0, .bool false, .bool false, .bool false, .bool false, .slice none 0 0] 77)).alloc (.cells #[.int .i64 m.k, .int .i64 (P : Int), .int .i64 ((S - 1 - P : Nat) : Int), .int .i64 m.c, .int .u64 m.v] 66)).drew) L X h x s k ((w.heap.size + 1, 66, #[.int .i64 m.k, .int .i64 (P : Int), .int .i64 ((S - 1 - P : Nat) : Int), .int .i64 m.c, .int .u64 m.v]) :: (w.heap.size, 77, #[.int .i64 0, .int .i64 0, .int .i64 0, .int .u64 0, .bool false, .bool false, .bool false, .bool false, .slice none 0 0]) :: (mb, 148, muV L.hb t sb m) :: E) D Q) := by
    have q := ((H.alloc hS 77 #[.int .i64 0, .int .i64 0, .int .i64 0, .int .u64 0, .bool false, .bool false, .bool false, .bool false, .slice none 0 0]).alloc hS 66 #[.int .i64 m.k, .int .i64 (P : Int), .int .i64 ((S - 1 - P : Nat) : Int), .int .i64 m.c, .int .u64 m.v]).fr0 hS (Fr.refl _ _).drew
    rw [show (w.alloc (.cells #[.int .i64 0, .int .i64 0, .int .i64 0, .int .u64 0, .bool false, .bool false, .bool false, .bool false, .slice none 0 0] 77)).heap.size = w.heap.size + 1 by simp] at q
    exact q
  have HMk : Hid (∀ w' E', HM W w' L X h x s k E' D Q → Calls Tryz.prog 84 #[.pointer (some ⟨L.ab, 0, none⟩), .int .i64 (I : Int), .int .i64 (S : Int), .int .i64 (P : Int)] w' fun e w'' => e = .returned (.int .i64 0) ∧ HM W w'' L X { h with f := upd (updRow h.f I S (fun _ => 0)) I (objW S P) } x s k E' D Q) := fun w' E' q => q.make hS ⟨by omega, hz⟩ hP hn
  have HBg : Hid (∀ w' E', HM W w' L X { h with f := upd (updRow h.f I S (fun _ => 0)) I (objW S P) } x s k E' D Q → Calls Tryz.prog 147 #[.agg #[.int .i64 h.g.words, .int .i64 h.g.rw, .int .i64 h.g.cw, .int .i64 h.g.regions, .int .i64 h.g.cards, .int .i64 h.g.max], .int .i64 (S : Int)] w' fun e w'' => e = .returned (.bool false) ∧ HM W w'' L X { h with f := upd (updRow h.f I S (fun _ => 0)) I (objW S P) } x s k E' D Q) := fun w' E' q => by
    refine (big_any h.g (S : Int) w' (by have := q.dim.rw; simp only at this; rw [this]; omega)).mono ?_
    rintro e w'' ⟨rfl, hf⟩
    rw [hbg]
    exact ⟨rfl, q.fr0 hS hf⟩
  have HSk : Hid (∀ w' E', (mb, 148, muV L.hb t sb m) ∈ E' → HM W w' L X { h with f := upd (updRow h.f I S (fun _ => 0)) I (objW S P) } x s k E' D Q → Calls Tryz.prog 145 #[.pointer (some ⟨mb, 0, none⟩)] w' fun e w'' => e = .returned (.pointer (some ⟨L.S t, 0, none⟩)) ∧ HM W w'' L X { h with f := upd (updRow h.f I S (fun _ => 0)) I (objW S P) } x s k E' D Q) := fun w' E' hm q => (mtstack_any (q.blk hm) q.hr ht).mono (by rintro e w'' ⟨rfl, hf⟩; exact ⟨rfl, q.fr0 hS hf⟩)
  have HRe := hide (fun w' => mreference_any I (by omega) w')
  have HPu : Hid (∀ w' E', HM W w' L X { h with f := upd (updRow h.f I S (fun _ => 0)) I (objW S P) } x s k E' D Q → Calls Tryz.prog 88 #[.pointer (some ⟨L.S t, 0, none⟩), .int .u64 ((I : Int) + 1)] w' fun e w'' => e = .returned (.int .i64 0) ∧ HM W w'' L X { h with f := upd (updRow h.f I S (fun _ => 0)) I (objW S P), st := setN h.st t (h.st t ++ [(I : Int) + 1]) } x s k E' D Q) := fun w' E' q => q.push hS (i := t) ht hB hl (r := (I : Int) + 1) ⟨by omega, by omega⟩
  have HAn : Hid (∀ w' ob rb c1 c2, ob ≠ mb → rb ≠ mb → HM W w' L X { h with f := upd (updRow h.f I S (fun _ => 0)) I (objW S P), st := setN h.st t (h.st t ++ [(I : Int) + 1]) } x s k ((ob, 66, c1) :: (rb, 77, c2) :: (mb, 148, muV L.hb t sb m) :: E) D Q → Calls Tryz.prog 71 #[.pointer (some ⟨mb, 0, none⟩), ansV 0 0 ⟨0, 0, false⟩] w' fun e w'' => e = .returned (resV (t : Int) (m.dn : Int) ⟨0, 0, false⟩ true false false (.slice none 0 0)) ∧ HM W w'' L X { h with f := upd (updRow h.f I S (fun _ => 0)) I (objW S P), st := setN h.st t (h.st t ++ [(I : Int) + 1]) } x s k ((rb, 77, c2) :: (mb, 148, muV L.hb t sb (MU.zero (m.dn + 1))) :: E) D Q) := fun w' ob rb c1 c2 h1 h2 q => by
    have q2 : HM W w' L X { h with f := upd (updRow h.f I S (fun _ => 0)) I (objW S P), st := setN h.st t (h.st t ++ [(I : Int) + 1]) } x s k ((mb, 148, muV L.hb t sb m) :: (rb, 77, c2) :: E) D Q := q.sub (fun y hy => by simp only [List.mem_cons] at hy ⊢; rcases hy with e | e | e <;> simp [e])
    refine (q2.mut (P := fun e => e = .returned (resV (t : Int) (m.dn : Int) ⟨0, 0, false⟩ true false false (.slice none 0 0))) hS hT (m' := MU.zero (m.dn + 1)) (fun y hy => ?_) (fun hb => manswer_any hb hd 0 0 ⟨0, 0, false⟩)).mono ?_
    · rcases List.mem_cons.1 hy with rfl | hy
      · exact h2
      · exact hne y hy
    · rintro e w'' ⟨he, q3⟩
      exact ⟨he, q3.sub (fun y hy => by simp only [List.mem_cons] at hy ⊢; rcases hy with e | e | e <;> simp [e])⟩
  have HEnd : Hid (∀ w' rb a0 a1 a2 a3 a4 a5 a6 a7 a8 v0 v1 v2 v3 v4 v5 v6 v7 v8, rb ≠ mb → (∀ q, q ∈ E → q.1 ≠ rb) → HM W w' L X { h with f := upd (updRow h.f I S (fun _ => 0)) I (objW S P), st := setN h.st t (h.st t ++ [(I : Int) + 1]) } x s k ((rb, 77, #[a0, a1, a2, a3, a4, a5, a6, a7, a8]) :: (mb, 148, muV L.hb t sb (MU.zero (m.dn + 1))) :: E) D Q → HM W (put9 w' rb v0 v1 v2 v3 v4 v5 v6 v7 v8) L X { h with f := upd (updRow h.f I S (fun _ => 0)) I (objW S P), st := setN h.st t (h.st t ++ [(I : Int) + 1]) } x s k ((mb, 148, muV L.hb t sb (MU.zero (m.dn + 1))) :: E) D Q) := fun w' rb a0 a1 a2 a3 a4 a5 a6 a7 a8 v0 v1 v2 v3 v4 v5 v6 v7 v8 hr hq q =>
    q.res9 hS hT (fun y hy => by
      rcases List.mem_cons.1 hy with rfl | hy
      · exact fun e => hr e.symm
      · exact hq y hy) v0 v1 v2 v3 v4 v5 v6 v7 v8
  have HRB : Hid (w.heap.size + 1 ≠ mb ∧ w.heap.size ≠ mb ∧ ∀ q, q ∈ E → q.1 ≠ w.heap.size) := ⟨by omega, by omega, fun q hq => by have := hltE q hq; omega⟩
  have HCe : Hid (∀ w' E', HM W w' L X { h with f := upd (updRow h.f I S (fun _ => 0)) I (objW S P) } x s k E' D Q → Hcells w' L X h.g h.T) := fun w' E' q => q.hc
  have HK0 : Hid (∀ w', HM W w' L X h x s k ((w.heap.size + 1, 66, #[.int .i64 m.k, .int .i64 (P : Int), .int .i64 ((S - 1 - P : Nat) : Int), .int .i64 m.c, .int .u64 m.v]) :: (w.heap.size, 77, #[.int .i64 0, .int .i64 0, .int .i64 0, .int .u64 0, .bool false, .bool false, .bool false, .bool false, .slice none 0 0]) :: (mb, 148, muV L.hb t sb m) :: E) D Q → w'.cell? ⟨mb, 0, none⟩ = some (.pointer (some ⟨L.hb, 0, none⟩)) ∧ w'.cell? ⟨L.hb, 20, none⟩ = some (.pointer (some ⟨L.ab, 0, none⟩)) ∧ w'.cell? ⟨w.heap.size + 1, 1, none⟩ = some (.int .i64 (P : Int))) := fun w' q => ⟨(q.blk (List.mem_cons_of_mem _ (List.mem_cons_of_mem _ (List.mem_cons_self ..)))).cell 0, q.hc.c20, (q.blk (List.mem_cons_self ..)).cell 1⟩
  have HK1 : Hid (∀ w', HM W w' L X { h with f := upd (updRow h.f I S (fun _ => 0)) I (objW S P) } x s k ((w.heap.size + 1, 66, #[.int .i64 m.k, .int .i64 (P : Int), .int .i64 ((S - 1 - P : Nat) : Int), .int .i64 m.c, .int .u64 m.v]) :: (w.heap.size, 77, #[.int .i64 0, .int .i64 0, .int .i64 0, .int .u64 0, .bool false, .bool false, .bool false, .bool false, .slice none 0 0]) :: (mb, 148, muV L.hb t sb m) :: E) D Q → w'.cell? ⟨mb, 0, none⟩ = some (.pointer (some ⟨L.hb, 0, none⟩)) ∧ w'.cell? ⟨L.hb, 20, none⟩ = some (.pointer (some ⟨L.ab, 0, none⟩)) ∧ w'.cell? ⟨w.heap.size + 1, 1, none⟩ = some (.int .i64 (P : Int))) := fun w' q => ⟨(q.blk (List.mem_cons_of_mem _ (List.mem_cons_of_mem _ (List.mem_cons_self ..)))).cell 0, q.hc.c20, (q.blk (List.mem_cons_self ..)).cell 1⟩
  have HMem : Hid ((mb, 148, muV L.hb t sb m) ∈ ((w.heap.size + 1, 66, #[.int .i64 m.k, .int .i64 (P : Int), .int .i64 ((S - 1 - P : Nat) : Int), .int .i64 m.c, .int .u64 m.v]) :: (w.heap.size, 77, #[.int .i64 0, .int .i64 0, .int .i64 0, .int .u64 0, .bool false, .bool false, .bool false, .bool false, .slice none 0 0]) :: (mb, 148, muV L.hb t sb m) :: E)) := List.mem_cons_of_mem _ (List.mem_cons_of_mem _ (List.mem_cons_self ..))
  unfold resV at HAn ⊢
  unfold ansV at HAn
  simp only at HAn
  clear hltE H hz hl hB hd hbg hn hP ht hne hnm
  go_enter Tryz.func75, Tryz.ntmps75
  go_wp2_with fail
  go_region
  go_wp2_with fail
  generalize ((w.alloc (.cells #[.int .i64 0, .int .i64 0, .int .i64 0, .int .u64 0, .bool false, .bool false, .bool false, .bool false, .slice none 0 0] 77)).alloc (.cells #[.int .i64 m.k, .int .i64 (P : Int), .int .i64 ((S - 1 - P : Nat) : Int), .int .i64 m.c, .int .u64 m.v] 66)).drew = w1 at *
  have HAd := hide (HX2.out.fr0 hS (Fr.refl _ _).drew)
  have K0 := HK0.out _ HAd.out
  go_region_held3 (fun w' => w'.cell? ⟨mb, 0, none⟩ = some (.pointer (some ⟨L.hb, 0, none⟩)) ∧ w'.cell? ⟨L.hb, 20, none⟩ = some (.pointer (some ⟨L.ab, 0, none⟩)) ∧ w'.cell? ⟨w.heap.size + 1, 1, none⟩ = some (.int .i64 (P : Int)))
    (first | with_reducible exact K0 | go_keep)
    (first | (go_at_call 84; refine (HMk.out _ _ HAd.out).mono ?_; rintro e w2 ⟨rfl, hA⟩; have HA2 := hide hA; have K0 := HK1.out _ hA; clear hA))
  all_goals
    obtain ⟨c14, c15, c16, c17, c18, c19, -, -, -, -, -, -, -, -, -, NH⟩ := HCe.out _ _ HA2.out
    have k0 := K0.1
    have HB2 := hide (HBg.out _ _ HA2.out)
    clear K0
    go_wp2_with fail
    refine HB2.out.mono ?_
    rintro e w3 ⟨rfl, hA⟩
    have HK3 := hide (HSk.out _ _ HMem.out hA)
    clear hA c14 c15 c16 c17 c18 c19 NH k0 HB2
    go_wp2_with fail
    refine HK3.out.mono ?_
    rintro e w4 ⟨rfl, hA⟩
    have HA4 := hide hA
    clear hA HK3
    go_wp2_with fail
    refine (HRe.out _).mono ?_
    rintro e w4' ⟨rfl, rfl⟩
    have HP4 := hide (HPu.out _ _ HA4.out)
    go_wp2_with fail
    refine HP4.out.mono ?_
    rintro e w5 ⟨rfl, hA⟩
    have HN5 := hide (HAn.out _ _ _ _ _ HRB.out.1 HRB.out.2.1 hA)
    clear hA HP4
    go_wp2_with fail
    refine HN5.out.mono ?_
    rintro e w6 ⟨rfl, hA⟩
    have HA6 := hide hA
    have hrb := hA.blk (List.mem_cons_self ..)
    have y0 := hrb.cell 0
    have y1 := hrb.cell 1
    have y2 := hrb.cell 2
    have y3 := hrb.cell 3
    have y4 := hrb.cell 4
    have y5 := hrb.cell 5
    have y6 := hrb.cell 6
    have y7 := hrb.cell 7
    have y8 := hrb.cell 8
    have z0 := hrb.frozen 0
    have z1 := hrb.frozen 1
    have z2 := hrb.frozen 2
    have z3 := hrb.frozen 3
    have z4 := hrb.frozen 4
    have z5 := hrb.frozen 5
    have z6 := hrb.frozen 6
    have z7 := hrb.frozen 7
    have z8 := hrb.frozen 8
    have NR := hrb.lt
    clear hA hrb HN5
    go_wp2_with fail
    refine bodyPost_ret (v := .agg #[.int .i64 (t : Int), .int .i64 (m.dn : Int), .int .i64 0, .int .u64 0, .bool false, .bool true, .bool false, .bool false, .slice none 0 0]) (by simp [results, Tryz.results75, go_sem, *]) rfl ⟨rfl, ?_⟩
    exact HEnd.out _ _ _ _ _ _ _ _ _ _ _ _ _ _ _ _ _ _ _ _ HRB.out.2.1 HRB.out.2.2 HA6.out
end
end Go.Proofs.YthacgiajnafpgaaGreatDoor
namespace Go.Proofs.YthacgiajnafpgaaGreatDoor
set_option linter.unusedVariables false
set_option linter.unusedSimpArgs false
set_option maxRecDepth 100000
open Go.RowKit Go.Gl HS

section
variable {W w w' : World} {L : HL} {X : HX} {h h2 : HS} {x x2 : HT} {s k : Nat} {E : Blks} {D : Nat → Prop} {Q : World → Prop} {mb t sb : Nat} {m m' : MU} {r0 r1 r2 r3 : Int} {b4 b5 b6 b7 : Bool} {A8 : Option Addr} {n8 c8 : Nat}
set_option maxHeartbeats 1600000 in
theorem mtbegin_alloc (hS : Lives D Q) (hT : Tab W) (H : HM W w L X h x s k ((mb, 148, muV L.hb t sb m) :: E) D Q) (hne : ∀ q, q ∈ E → q.1 ≠ mb) (hk : m.k = 1)
    (hcall : ∀ w' rb c, rb ≠ mb → (∀ q, q ∈ E → q.1 ≠ rb) → HM W w' L X h x s k ((mb, 148, muV L.hb t sb m) :: (rb, 77, c) :: E) D Q → Calls Tryz.prog 140 #[.pointer (some ⟨mb, 0, none⟩)] w' fun e w'' => e = .returned (.agg #[.int .i64 r0, .int .i64 r1, .int .i64 r2, .int .u64 r3, .bool b4, .bool b5, .bool b6, .bool b7, .slice A8 n8 c8]) ∧ HM W w'' L X h2 x2 s k ((mb, 148, muV L.hb t sb m') :: (rb, 77, c) :: E) D Q) :
    Calls Tryz.prog 72 #[.pointer (some ⟨mb, 0, none⟩)] w fun e w' => e = .returned (.agg #[.int .i64 r0, .int .i64 r1, .int .i64 r2, .int .u64 r3, .bool b4, .bool b5, .bool b6, .bool b7, .slice A8 n8 c8]) ∧ HM W w' L X h2 x2 s k ((mb, 148, muV L.hb t sb m') :: E) D Q := by
  have hmb := H.blk (List.mem_cons_self ..)
  have hlt := hmb.lt
  have hltE : ∀ q, q ∈ E → q.1 < w.heap.size := fun q hq => (H.blk (b := q.1) (t := q.2.1) (cs := q.2.2) (List.mem_cons_of_mem _ hq)).lt
  have hr : w.heap.size ≠ mb := by omega
  have hq : ∀ q, q ∈ E → q.1 ≠ w.heap.size := fun q hq => by have := hltE q hq; omega
  have HC := hide (hcall _ w.heap.size #[.int .i64 0, .int .i64 0, .int .i64 0, .int .u64 0, .bool false, .bool false, .bool false, .bool false, .slice none 0 0] hr hq ((H.alloc hS 77 #[.int .i64 0, .int .i64 0, .int .i64 0, .int .u64 0, .bool false, .bool false, .bool false, .bool false, .slice none 0 0]).sub (fun y hy => by simp only [List.mem_cons] at hy ⊢; rcases hy with e | e | e <;> simp [e])))
  have HEnd : Hid (∀ w' a0 a1 a2 a3 a4 a5 a6 a7 a8, HM W w' L X h2 x2 s k ((mb, 148, muV L.hb t sb m') :: (w.heap.size, 77, #[a0, a1, a2, a3, a4, a5, a6, a7, a8]) :: E) D Q → HM W (put9 w' w.heap.size (.int .i64 r0) (.int .i64 r1) (.int .i64 r2) (.int .u64 r3) (.bool b4) (.bool b5) (.bool b6) (.bool b7) (.slice A8 n8 c8)) L X h2 x2 s k ((mb, 148, muV L.hb t sb m') :: E) D Q) := fun w' a0 a1 a2 a3 a4 a5 a6 a7 a8 q => by
    have q2 : HM W w' L X h2 x2 s k ((w.heap.size, 77, #[a0, a1, a2, a3, a4, a5, a6, a7, a8]) :: (mb, 148, muV L.hb t sb m') :: E) D Q := q.sub (fun y hy => by simp only [List.mem_cons] at hy ⊢; rcases hy with e | e | e <;> simp [e])
    exact q2.res9 hS hT (fun y hy => by
      rcases List.mem_cons.1 hy with rfl | hy
      · exact fun e => hr e.symm
      · exact hq y hy) (.int .i64 r0) (.int .i64 r1) (.int .i64 r2) (.int .u64 r3) (.bool b4) (.bool b5) (.bool b6) (.bool b7) (.slice A8 n8 c8)
  obtain ⟨c0, c1, c2, c3, c4, c5, c6, c7, c8, c9, c10⟩ := muCells hmb
  rw [hk] at c4
  clear H hmb hltE hcall hne hk hr hq
  go_enter Tryz.func72, Tryz.ntmps72
  go_wp2_with fail
  refine HC.out.mono ?_
  rintro e w5 ⟨rfl, hA⟩
  have HA5 := hide hA
  have hrb := hA.blk (List.mem_cons_of_mem _ (List.mem_cons_self ..))
  have y0 := hrb.cell 0
  have y1 := hrb.cell 1
  have y2 := hrb.cell 2
  have y3 := hrb.cell 3
  have y4 := hrb.cell 4
  have y5 := hrb.cell 5
  have y6 := hrb.cell 6
  have y7 := hrb.cell 7
  have y8 := hrb.cell 8
  have z0 := hrb.frozen 0
  have z1 := hrb.frozen 1
  have z2 := hrb.frozen 2
  have z3 := hrb.frozen 3
  have z4 := hrb.frozen 4
  have z5 := hrb.frozen 5
  have z6 := hrb.frozen 6
  have z7 := hrb.frozen 7
  have z8 := hrb.frozen 8
  have NR := hrb.lt
  clear hA hrb HC c0 c1 c2 c3 c4 c5 c6 c7 c8 c9 c10
  go_wp2_with fail
  refine bodyPost_ret (v := .agg #[.int .i64 r0, .int .i64 r1, .int .i64 r2, .int .u64 r3, .bool b4, .bool b5, .bool b6, .bool b7, .slice A8 n8 c8]) (by simp [results, Tryz.results72, go_sem, *]) rfl ⟨rfl, ?_⟩
  exact HEnd.out _ _ _ _ _ _ _ _ _ _ HA5.out
set_option maxHeartbeats 1600000 in
theorem mtstep_begun (hS : Lives D Q) (hT : Tab W) (H : HM W w L X h x s k ((mb, 148, muV L.hb t sb m) :: E) D Q) (hne : ∀ q, q ∈ E → q.1 ≠ mb) (hk : m.st = 1)
    (hcall : ∀ w' rb c, rb ≠ mb → (∀ q, q ∈ E → q.1 ≠ rb) → HM W w' L X h x s k ((mb, 148, muV L.hb t sb m) :: (rb, 77, c) :: E) D Q → Calls Tryz.prog 72 #[.pointer (some ⟨mb, 0, none⟩)] w' fun e w'' => e = .returned (.agg #[.int .i64 r0, .int .i64 r1, .int .i64 r2, .int .u64 r3, .bool b4, .bool b5, .bool b6, .bool b7, .slice A8 n8 c8]) ∧ HM W w'' L X h2 x2 s k ((mb, 148, muV L.hb t sb m') :: (rb, 77, c) :: E) D Q) :
    Calls Tryz.prog 27 #[.pointer (some ⟨mb, 0, none⟩)] w fun e w' => e = .returned (.agg #[.int .i64 r0, .int .i64 r1, .int .i64 r2, .int .u64 r3, .bool b4, .bool b5, .bool b6, .bool b7, .slice A8 n8 c8]) ∧ HM W w' L X h2 x2 s k ((mb, 148, muV L.hb t sb m') :: E) D Q := by
  have hmb := H.blk (List.mem_cons_self ..)
  have hlt := hmb.lt
  have hltE : ∀ q, q ∈ E → q.1 < w.heap.size := fun q hq => (H.blk (b := q.1) (t := q.2.1) (cs := q.2.2) (List.mem_cons_of_mem _ hq)).lt
  have hr : w.heap.size ≠ mb := by omega
  have hq : ∀ q, q ∈ E → q.1 ≠ w.heap.size := fun q hq => by have := hltE q hq; omega
  have HC := hide (hcall _ w.heap.size #[.int .i64 0, .int .i64 0, .int .i64 0, .int .u64 0, .bool false, .bool false, .bool false, .bool false, .slice none 0 0] hr hq ((H.alloc hS 77 #[.int .i64 0, .int .i64 0, .int .i64 0, .int .u64 0, .bool false, .bool false, .bool false, .bool false, .slice none 0 0]).sub (fun y hy => by simp only [List.mem_cons] at hy ⊢; rcases hy with e | e | e <;> simp [e])))
  have HEnd : Hid (∀ w' a0 a1 a2 a3 a4 a5 a6 a7 a8, HM W w' L X h2 x2 s k ((mb, 148, muV L.hb t sb m') :: (w.heap.size, 77, #[a0, a1, a2, a3, a4, a5, a6, a7, a8]) :: E) D Q → HM W (put9 w' w.heap.size (.int .i64 r0) (.int .i64 r1) (.int .i64 r2) (.int .u64 r3) (.bool b4) (.bool b5) (.bool b6) (.bool b7) (.slice A8 n8 c8)) L X h2 x2 s k ((mb, 148, muV L.hb t sb m') :: E) D Q) := fun w' a0 a1 a2 a3 a4 a5 a6 a7 a8 q => by
    have q2 : HM W w' L X h2 x2 s k ((w.heap.size, 77, #[a0, a1, a2, a3, a4, a5, a6, a7, a8]) :: (mb, 148, muV L.hb t sb m') :: E) D Q := q.sub (fun y hy => by simp only [List.mem_cons] at hy ⊢; rcases hy with e | e | e <;> simp [e])
    exact q2.res9 hS hT (fun y hy => by
      rcases List.mem_cons.1 hy with rfl | hy
      · exact fun e => hr e.symm
      · exact hq y hy) (.int .i64 r0) (.int .i64 r1) (.int .i64 r2) (.int .u64 r3) (.bool b4) (.bool b5) (.bool b6) (.bool b7) (.slice A8 n8 c8)
  obtain ⟨c0, c1, c2, c3, c4, c5, c6, c7, c8, c9, c10⟩ := muCells hmb
  rw [hk] at c9
  clear H hmb hltE hcall hne hk hr hq
  go_enter Tryz.func27, Tryz.ntmps27
  go_wp2_with fail
  refine HC.out.mono ?_
  rintro e w5 ⟨rfl, hA⟩
  have HA5 := hide hA
  have hrb := hA.blk (List.mem_cons_of_mem _ (List.mem_cons_self ..))
  have y0 := hrb.cell 0
  have y1 := hrb.cell 1
  have y2 := hrb.cell 2
  have y3 := hrb.cell 3
  have y4 := hrb.cell 4
  have y5 := hrb.cell 5
  have y6 := hrb.cell 6
  have y7 := hrb.cell 7
  have y8 := hrb.cell 8
  have z0 := hrb.frozen 0
  have z1 := hrb.frozen 1
  have z2 := hrb.frozen 2
  have z3 := hrb.frozen 3
  have z4 := hrb.frozen 4
  have z5 := hrb.frozen 5
  have z6 := hrb.frozen 6
  have z7 := hrb.frozen 7
  have z8 := hrb.frozen 8
  have NR := hrb.lt
  clear hA hrb HC c0 c1 c2 c3 c4 c5 c6 c7 c8 c9 c10
  go_wp2_with fail
  refine bodyPost_ret (v := .agg #[.int .i64 r0, .int .i64 r1, .int .i64 r2, .int .u64 r3, .bool b4, .bool b5, .bool b6, .bool b7, .slice A8 n8 c8]) (by simp [results, Tryz.results27, go_sem, *]) rfl ⟨rfl, ?_⟩
  exact HEnd.out _ _ _ _ _ _ _ _ _ _ HA5.out
set_option maxHeartbeats 1600000 in
theorem mtstep_taken (hS : Lives D Q) (hT : Tab W) (H : HM W w L X h x s k ((mb, 148, muV L.hb t sb m) :: E) D Q) (hne : ∀ q, q ∈ E → q.1 ≠ mb) (hk : m.st = 5)
    (hcall : ∀ w' rb c, rb ≠ mb → (∀ q, q ∈ E → q.1 ≠ rb) → HM W w' L X h x s k ((mb, 148, muV L.hb t sb m) :: (rb, 77, c) :: E) D Q → Calls Tryz.prog 75 #[.pointer (some ⟨mb, 0, none⟩)] w' fun e w'' => e = .returned (.agg #[.int .i64 r0, .int .i64 r1, .int .i64 r2, .int .u64 r3, .bool b4, .bool b5, .bool b6, .bool b7, .slice A8 n8 c8]) ∧ HM W w'' L X h2 x2 s k ((mb, 148, muV L.hb t sb m') :: (rb, 77, c) :: E) D Q) :
    Calls Tryz.prog 27 #[.pointer (some ⟨mb, 0, none⟩)] w fun e w' => e = .returned (.agg #[.int .i64 r0, .int .i64 r1, .int .i64 r2, .int .u64 r3, .bool b4, .bool b5, .bool b6, .bool b7, .slice A8 n8 c8]) ∧ HM W w' L X h2 x2 s k ((mb, 148, muV L.hb t sb m') :: E) D Q := by
  have hmb := H.blk (List.mem_cons_self ..)
  have hlt := hmb.lt
  have hltE : ∀ q, q ∈ E → q.1 < w.heap.size := fun q hq => (H.blk (b := q.1) (t := q.2.1) (cs := q.2.2) (List.mem_cons_of_mem _ hq)).lt
  have hr : w.heap.size ≠ mb := by omega
  have hq : ∀ q, q ∈ E → q.1 ≠ w.heap.size := fun q hq => by have := hltE q hq; omega
  have HC := hide (hcall _ w.heap.size #[.int .i64 0, .int .i64 0, .int .i64 0, .int .u64 0, .bool false, .bool false, .bool false, .bool false, .slice none 0 0] hr hq ((H.alloc hS 77 #[.int .i64 0, .int .i64 0, .int .i64 0, .int .u64 0, .bool false, .bool false, .bool false, .bool false, .slice none 0 0]).sub (fun y hy => by simp only [List.mem_cons] at hy ⊢; rcases hy with e | e | e <;> simp [e])))
  have HEnd : Hid (∀ w' a0 a1 a2 a3 a4 a5 a6 a7 a8, HM W w' L X h2 x2 s k ((mb, 148, muV L.hb t sb m') :: (w.heap.size, 77, #[a0, a1, a2, a3, a4, a5, a6, a7, a8]) :: E) D Q → HM W (put9 w' w.heap.size (.int .i64 r0) (.int .i64 r1) (.int .i64 r2) (.int .u64 r3) (.bool b4) (.bool b5) (.bool b6) (.bool b7) (.slice A8 n8 c8)) L X h2 x2 s k ((mb, 148, muV L.hb t sb m') :: E) D Q) := fun w' a0 a1 a2 a3 a4 a5 a6 a7 a8 q => by
    have q2 : HM W w' L X h2 x2 s k ((w.heap.size, 77, #[a0, a1, a2, a3, a4, a5, a6, a7, a8]) :: (mb, 148, muV L.hb t sb m') :: E) D Q := q.sub (fun y hy => by simp only [List.mem_cons] at hy ⊢; rcases hy with e | e | e <;> simp [e])
    exact q2.res9 hS hT (fun y hy => by
      rcases List.mem_cons.1 hy with rfl | hy
      · exact fun e => hr e.symm
      · exact hq y hy) (.int .i64 r0) (.int .i64 r1) (.int .i64 r2) (.int .u64 r3) (.bool b4) (.bool b5) (.bool b6) (.bool b7) (.slice A8 n8 c8)
  obtain ⟨c0, c1, c2, c3, c4, c5, c6, c7, c8, c9, c10⟩ := muCells hmb
  rw [hk] at c9
  clear H hmb hltE hcall hne hk hr hq
  go_enter Tryz.func27, Tryz.ntmps27
  go_wp2_with fail
  refine HC.out.mono ?_
  rintro e w5 ⟨rfl, hA⟩
  have HA5 := hide hA
  have hrb := hA.blk (List.mem_cons_of_mem _ (List.mem_cons_self ..))
  have y0 := hrb.cell 0
  have y1 := hrb.cell 1
  have y2 := hrb.cell 2
  have y3 := hrb.cell 3
  have y4 := hrb.cell 4
  have y5 := hrb.cell 5
  have y6 := hrb.cell 6
  have y7 := hrb.cell 7
  have y8 := hrb.cell 8
  have z0 := hrb.frozen 0
  have z1 := hrb.frozen 1
  have z2 := hrb.frozen 2
  have z3 := hrb.frozen 3
  have z4 := hrb.frozen 4
  have z5 := hrb.frozen 5
  have z6 := hrb.frozen 6
  have z7 := hrb.frozen 7
  have z8 := hrb.frozen 8
  have NR := hrb.lt
  clear hA hrb HC c0 c1 c2 c3 c4 c5 c6 c7 c8 c9 c10
  go_wp2_with fail
  refine bodyPost_ret (v := .agg #[.int .i64 r0, .int .i64 r1, .int .i64 r2, .int .u64 r3, .bool b4, .bool b5, .bool b6, .bool b7, .slice A8 n8 c8]) (by simp [results, Tryz.results27, go_sem, *]) rfl ⟨rfl, ?_⟩
  exact HEnd.out _ _ _ _ _ _ _ _ _ _ HA5.out
end
end Go.Proofs.YthacgiajnafpgaaGreatDoor
