/- The statements of layer 5: the questions that each of them asks first, and those about a place. -/
import Derived.Test.YtjnnegbcijmclaaP3
import Derived.Test.YtjnnegbcijmclaaR5b
import Derived.Test.YtjnnegbcijmclaaCard0
namespace Go.Proofs.Ytjnnegbcijmclaa
set_option linter.unusedVariables false
open Go.RowKit Go.Gl Go.ChangeShapes Go.WideShapes Go.ChangeAt Go.Deep

theorem wake_row : IsRow (upd (upd (updRow (fun _ => 0) 0 3 (fun _ => 0)) 0 (objW 3 2)) 3 (fillW 7)) 0 [0, 3] 10 := by
  have e0 : (upd (upd (updRow (fun _ => 0) 0 3 (fun _ => 0)) 0 (objW 3 2)) 3 (fillW 7)) 0 = objW 3 2 := by decide
  have e3 : (upd (upd (updRow (fun _ => 0) 0 3 (fun _ => 0)) 0 (objW 3 2)) 3 (fillW 7)) 3 = fillW 7 := by decide
  have o0 := of_objW (s := 3) (p := 2) (by decide) (by decide)
  have o3 := of_fillW (s := 7) (by decide)
  refine ⟨rfl, 3, by decide, by rw [e0, o0]; rfl, by rw [e0, o0]; exact .inl rfl, by decide, rfl, 7, by decide, ?_, ?_, by decide, rfl⟩
  · show (Hd.of ((upd (upd (updRow (fun _ => 0) 0 3 (fun _ => 0)) 0 (objW 3 2)) 3 (fillW 7)) 3 : Nat)).size = _
    rw [e3, o3]; rfl
  · show (Hd.of ((upd (upd (updRow (fun _ => 0) 0 3 (fun _ => 0)) 0 (objW 3 2)) 3 (fillW 7)) 3 : Nat)).kind = 1 ∨ (Hd.of ((upd (upd (updRow (fun _ => 0) 0 3 (fun _ => 0)) 0 (objW 3 2)) 3 (fillW 7)) 3 : Nat)).kind = 2
    rw [e3, o3]; exact .inr rfl
theorem wake_fields : fieldsL 20 (upd (upd (updRow (fun _ => 0) 0 3 (fun _ => 0)) 0 (objW 3 2)) 3 (fillW 7)) 0 = [1, 2] ∧ fieldsE 20 (upd (upd (updRow (fun _ => 0) 0 3 (fun _ => 0)) 0 (objW 3 2)) 3 (fillW 7)) 0 = 0 := by
  have e0 : (upd (upd (updRow (fun _ => 0) 0 3 (fun _ => 0)) 0 (objW 3 2)) 3 (fillW 7)) 0 = objW 3 2 := by decide
  have o0 := of_objW (s := 3) (p := 2) (by decide) (by decide)
  obtain ⟨a1, a2⟩ := at_in (n := 20) (f := upd (upd (updRow (fun _ => 0) 0 3 (fun _ => 0)) 0 (objW 3 2)) 3 (fillW 7)) (k := 0) (by decide)
  rw [e0, o0] at a1 a2
  have e1 : ((0 : Nat) : Int) = 0 := rfl
  rw [e1] at a1 a2
  have := fields_yes (n := 20) (f := upd (upd (updRow (fun _ => 0) 0 3 (fun _ => 0)) 0 (objW 3 2)) 3 (fillW 7)) (i := 0) (by rw [a2]; rfl) (by unfold FieldsOk; rw [a1]; exact ⟨rfl, by decide⟩)
  rw [a1] at this
  exact this
theorem own_cells2 {base : Nat} {w : World} {A : Option Addr} {x y : Int} (h : Own base w A [x, y]) : ∃ b off, A = some ⟨b, off, none⟩ ∧ base ≤ b ∧ b < w.heap.size ∧ w.cell? ⟨b, off, none⟩ = some (.int .i64 x) ∧ w.cell? ⟨b, off + 1, none⟩ = some (.int .i64 y) := by
  obtain ⟨b, off, h1, h2, h3, h4⟩ := h (by simp)
  exact ⟨b, off, h1, h2, h3, h4 0 (by simp), h4 1 (by simp)⟩
theorem awake_any (w : World) : Calls Try.prog 7 #[] w fun e w' => e = .returned (.bool true) ∧ Fr [] w w' := by
  have hn := hide (anew_any 20 (by decide))
  go_enter Try.func7, Try.ntmps7
  go_wp2_with fail
  refine (hn.out _).mono ?_
  rintro e w1 ⟨ab, aw, rfl, hs, hf, hlb, hlw⟩
  have HS := hide hs
  have HF := hide hf
  have HL : Hid (w.heap.size ≤ ab ∧ w.heap.size ≤ aw) := ⟨hlb, hlw⟩
  clear hs hf hlb hlw
  go_wp2_with fail
  refine (pmake_any HS.out 0 3 2 (by decide)).mono ?_
  rintro e w2 ⟨c2, rfl, hs2, hf2⟩
  obtain ⟨m1, m2⟩ := make_in (n := 20) (I := 0) (S := 3) (P := 2) (fun _ => 0) (by decide) (by decide) (by decide)
  have m1' : makeE 20 0 3 2 = 0 := m1
  have m2' : makeF 20 (fun _ => 0) 0 3 2 = upd (updRow (fun _ => 0) 0 3 (fun _ => 0)) 0 (objW 3 2) := m2
  rw [m2'] at hs2
  rw [m1']
  have HS2 := hide hs2
  have HF2 : Hid (Fr [] w w2) := HF.out.trans hf2 (fun x hx => by have := HL.out; simp at hx; omega)
  clear hs2 hf2 m1 m2 m1' m2'
  go_wp2_with fail
  refine (pfill_any HS2.out 3 10).mono ?_
  rintro e w3 ⟨c3, rfl, hs3, hf3⟩
  have b1 : bndE 20 3 10 = 0 := by decide
  have b2 := fill_in (n := 20) (A := 3) (B := 10) (upd (updRow (fun _ => 0) 0 3 (fun _ => 0)) 0 (objW 3 2)) (by decide) (by decide) (by decide)
  have b2' : fillN 20 (upd (updRow (fun _ => 0) 0 3 (fun _ => 0)) 0 (objW 3 2)) 3 10 = upd (upd (updRow (fun _ => 0) 0 3 (fun _ => 0)) 0 (objW 3 2)) 3 (fillW 7) := b2
  rw [b2'] at hs3
  rw [b1]
  obtain ⟨w51, w52⟩ := wake_row.ans (n := 20) (by decide)
  obtain ⟨w53, w54⟩ := wake_fields
  have W5 : Hid (startsL 20 (upd (upd (updRow (fun _ => 0) 0 3 (fun _ => 0)) 0 (objW 3 2)) 3 (fillW 7)) 0 10 = [0, 3] ∧ startsE 20 (upd (upd (updRow (fun _ => 0) 0 3 (fun _ => 0)) 0 (objW 3 2)) 3 (fillW 7)) 0 10 = 0) := ⟨w51, w52⟩
  have W6 : Hid (fieldsL 20 (upd (upd (updRow (fun _ => 0) 0 3 (fun _ => 0)) 0 (objW 3 2)) 3 (fillW 7)) 0 = [1, 2] ∧ fieldsE 20 (upd (upd (updRow (fun _ => 0) 0 3 (fun _ => 0)) 0 (objW 3 2)) 3 (fillW 7)) 0 = 0) := ⟨w53, w54⟩
  clear w51 w52 w53 w54 b1 b2 b2'
  generalize upd (upd (updRow (fun _ => 0) 0 3 (fun _ => 0)) 0 (objW 3 2)) 3 (fillW 7) = f3 at *
  have HS3 := hide hs3
  have HF3 : Hid (Fr [] w w3) := HF2.out.trans hf3 (fun x hx => by have := HL.out; simp at hx; omega)
  clear hs3 hf3
  go_wp2_with fail
  refine (pstarts_any HS3.out 0 10).mono ?_
  rintro e w4 ⟨A4, cap4, c4, rfl, ho4, hs4, hf4⟩
  rw [W5.out.1] at ho4
  rw [W5.out.1, W5.out.2]
  obtain ⟨b4, off4, rfl, l4, l4', _, k4⟩ := own_cells2 ho4
  have HS4 := hide hs4
  have HF4 : Hid (Fr [] w w4) := HF3.out.trans hf4 (fun x hx => by have := HL.out; simp at hx; omega)
  have HB4 : Hid (b4 ≠ ab) := by
    show b4 ≠ ab
    have := HS3.out.set.lt
    omega
  clear hs4 hf4 ho4
  go_wp2_with fail
  refine (pfields_any HS4.out 0).mono ?_
  rintro e w5 ⟨A5, cap5, c5, rfl, ho5, hs5, hf5⟩
  rw [W6.out.1] at ho5
  rw [W6.out.1, W6.out.2]
  obtain ⟨b5, off5, rfl, l5, l5', k5, _⟩ := own_cells2 ho5
  have k4' := (hf5.cell (p := ⟨b4, off4 + 1, none⟩) l4' (by simpa using HB4.out)).trans k4
  have HF5 : Hid (Fr [] w w5) := HF4.out.trans hf5 (fun x hx => by have := HL.out; simp at hx; omega)
  clear hs5 hf5 ho5 k4
  go_wp2_with fail
  go_ret
  exact ⟨rfl, HF5.out⟩
set_option maxHeartbeats 3200000 in
theorem asks_any {w : World} {ab aw g n : Nat} {f : Nat → Nat} {c : Int} (ha : Ar w ab aw n f c) (hw : Ws w g n f) (i j : Int) :
    Calls Try.prog 14 #[.pointer (some ⟨ab, 0, none⟩), .slice (some ⟨g, 0, none⟩) n n, .int .i64 i, .int .i64 j] w fun e w' => e = .returned (.bool true) ∧ (∃ c', Ar w' ab aw n f c') ∧ Fr [ab] w w' := by
  have HA := hide ha
  have HW := hide hw
  have NE : Hid (g ≠ ab) := (ha.set.apart hw.row (by decide)).symm
  have HC1 := hide (pat_any ha i)
  unfold AtPost at HC1
  have HR1 : Hid (∀ w, Ws w g n f → Calls Try.prog 27 #[.slice (some ⟨g, 0, none⟩) n n, .int .i64 i] w fun e w' => e = .returned (.tuple #[(atH n f i).val, .int .i64 (atE n f i)]) ∧ Fr [] w w') := fun w h => r5at_any h i
  have HC2 : Hid (∀ w c, Ar w ab aw n f c → Calls Try.prog 19 #[.pointer (some ⟨ab, 0, none⟩), .int .i64 i] w (ListAns w ab aw n f (fieldsL n f i) (fieldsE n f i))) := fun w c h => pfields_any h i
  have HR2 : Hid (∀ w, Ws w g n f → Calls Try.prog 28 #[.slice (some ⟨g, 0, none⟩) n n, .int .i64 i] w (RListAns w g n f (fieldsL n f i) (fieldsE n f i))) := fun w h => r5fields_any h i
  have HC3 : Hid (∀ w c, Ar w ab aw n f c → Calls Try.prog 17 #[.pointer (some ⟨ab, 0, none⟩), .int .i64 i, .int .i64 j] w (ListAns w ab aw n f (startsL n f i j) (startsE n f i j))) := fun w c h => pstarts_any h i j
  have HR3 : Hid (∀ w, Ws w g n f → Calls Try.prog 29 #[.slice (some ⟨g, 0, none⟩) n n, .int .i64 i, .int .i64 j] w (RListAns w g n f (startsL n f i j) (startsE n f i j))) := fun w h => r5starts_any h i j
  have l1 : Hid ((fieldsL n f i).length ≤ 4611686018427387904) := Nat.le_trans (fields_len n f i) (by decide)
  have l2 : Hid ((startsL n f i j).length ≤ 4611686018427387904) := Nat.le_trans (starts_len n f i j) (by have := ha.max; omega)
  clear ha hw
  generalize atH n f i = G at *
  generalize atE n f i = E at *
  generalize fieldsL n f i = L at *
  generalize fieldsE n f i = R at *
  generalize startsL n f i j = M at *
  generalize startsE n f i j = T at *
  obtain ⟨K, s, p, q, t⟩ := G
  unfold Hd.val at HC1 HR1
  simp only at HC1 HR1
  go_enter Try.func14, Try.ntmps14
  go_wp2_with fail
  refine HC1.out.mono ?_
  rintro e w1 ⟨c1, rfl, ha1, hf1⟩
  have HA1 := hide (ha1.fr ((Fr.refl [] _).alloc (.cells #[.int .i64 K, .int .i64 s, .int .i64 p, .int .i64 q, .int .i64 t] 46)) (by simp) (by simp))
  have HW1 := hide ((HW.out.fr hf1 (by simpa using NE.out)).fr ((Fr.refl [] _).alloc (.cells #[.int .i64 K, .int .i64 s, .int .i64 p, .int .i64 q, .int .i64 t] 46)) (by simp))
  have HB1 : Hid (Blk (w1.alloc (.cells #[.int .i64 K, .int .i64 s, .int .i64 p, .int .i64 q, .int .i64 t] 46)) w1.heap.size 46 #[.int .i64 K, .int .i64 s, .int .i64 p, .int .i64 q, .int .i64 t]) := Blk.new _ _ _
  have HF1 : Hid (Fr [ab] w (w1.alloc (.cells #[.int .i64 K, .int .i64 s, .int .i64 p, .int .i64 q, .int .i64 t] 46))) := hf1.alloc _
  have HN1 : Hid (w1.heap.size ≠ ab) := by
    show w1.heap.size ≠ ab
    have := ha1.set.lt; omega
  clear ha1 hf1
  go_wp2_with fail
  refine (HR1.out _ HW1.out).mono ?_
  rintro e w2 ⟨rfl, hf2⟩
  have HA2 := hide (HA1.out.fr (hf2.alloc (.cells #[.int .i64 K, .int .i64 s, .int .i64 p, .int .i64 q, .int .i64 t] 46)) (by simp) (by simp))
  have HW2 := hide (HW1.out.fr (hf2.alloc (.cells #[.int .i64 K, .int .i64 s, .int .i64 p, .int .i64 q, .int .i64 t] 46)) (by simp))
  have HB2 := hide (HB1.out.fr (hf2.alloc (.cells #[.int .i64 K, .int .i64 s, .int .i64 p, .int .i64 q, .int .i64 t] 46)) (by simp))
  have HB2' : Hid (Blk (w2.alloc (.cells #[.int .i64 K, .int .i64 s, .int .i64 p, .int .i64 q, .int .i64 t] 46)) w2.heap.size 46 #[.int .i64 K, .int .i64 s, .int .i64 p, .int .i64 q, .int .i64 t]) := Blk.new _ _ _
  have HF2 := hide (HF1.out.trans_nil (hf2.alloc (.cells #[.int .i64 K, .int .i64 s, .int .i64 p, .int .i64 q, .int .i64 t] 46)))
  have HN2 : Hid (w2.heap.size ≠ ab) := by
    show w2.heap.size ≠ ab
    have := HA1.out.set.lt; have := hf2.size; omega
  clear hf2
  go_wp2_with fail
  refine (HC2.out _ _ HA2.out).mono ?_
  rintro e w3 ⟨A3, p3, c3, rfl, ho3, ha3, hf3⟩
  have HO3 := hide ho3
  have HA3 := hide ha3
  have HW3 := hide (HW2.out.fr hf3 (by simpa using NE.out))
  have HB3 := hide (HB2.out.fr hf3 (by simpa using HN1.out))
  have HB3' := hide (HB2'.out.fr hf3 (by simpa using HN2.out))
  have HF3 := hide (HF2.out.trans_same hf3)
  have HZ3 : Hid (ab < (w2.alloc (.cells #[.int .i64 K, .int .i64 s, .int .i64 p, .int .i64 q, .int .i64 t] 46)).heap.size) := HA2.out.set.lt
  clear ho3 ha3 hf3
  go_wp2_with fail
  refine (HR2.out _ HW3.out).mono ?_
  rintro e w4 ⟨A4, p4, rfl, ho4, hf4⟩
  have HO3b := hide (HO3.out.fr hf4 (by simp))
  have HO4 := hide ho4
  have HA4 := hide (HA3.out.fr hf4 (by simp) (by simp))
  have HW4 := hide (HW3.out.fr hf4 (by simp))
  have HB4 := hide (HB3.out.fr hf4 (by simp))
  have HB4' := hide (HB3'.out.fr hf4 (by simp))
  have HF4 := hide (HF3.out.trans_nil hf4)
  clear ho4 hf4
  go_wp2_with fail
  refine (HC3.out _ _ HA4.out).mono ?_
  rintro e w5 ⟨A5, p5, c5, rfl, ho5, ha5, hf5⟩
  have HO3c := hide (HO3b.out.fr hf5 (fun x hx => by simp at hx; subst hx; exact .inl HZ3.out))
  have HO4c := hide (HO4.out.fr hf5 (fun x hx => by simp at hx; subst hx; exact .inl HA3.out.set.lt))
  have HO5 := hide ho5
  have HA5 := hide ha5
  have HW5 := hide (HW4.out.fr hf5 (by simpa using NE.out))
  have HB5 := hide (HB4.out.fr hf5 (by simpa using HN1.out))
  have HB5' := hide (HB4'.out.fr hf5 (by simpa using HN2.out))
  have HF5 := hide (HF4.out.trans_same hf5)
  clear ho5 ha5 hf5
  go_wp2_with fail
  refine (HR3.out _ HW5.out).mono ?_
  rintro e w6 ⟨A6, p6, rfl, ho6, hf6⟩
  have HO3d := hide (HO3c.out.fr hf6 (by simp))
  have HO4d := hide (HO4c.out.fr hf6 (by simp))
  have HO5d := hide (HO5.out.fr hf6 (by simp))
  have HO6 := hide ho6
  have HA6 := hide (HA5.out.fr hf6 (by simp) (by simp))
  obtain ⟨c0, c1, c2, c3, c4⟩ := HdAt.of (h := ⟨K, s, p, q, t⟩) (HB5.out.fr hf6 (by simp))
  obtain ⟨d0, d1, d2, d3, d4⟩ := HdAt.of (h := ⟨K, s, p, q, t⟩) (HB5'.out.fr hf6 (by simp))
  simp only at c0 c1 c2 c3 c4 d0 d1 d2 d3 d4
  have HF6 := hide (HF5.out.trans_nil hf6)
  have HS1 : Hid (Calls Try.prog 18 #[.slice A3 L.length p3, .slice A4 L.length p4] w6 fun e w' => e = .returned (.bool true) ∧ ∃ k, w' = w6.drewN k) := by
    have := same_any (ca := p3) (cb := p4) HO3d.out.sl HO4d.out.sl l1.out l1.out
    show Calls _ _ _ _ _
    simpa using this
  have HS2 : Hid (∀ m, Calls Try.prog 18 #[.slice A5 M.length p5, .slice A6 M.length p6] (w6.drewN m) fun e w' => e = .returned (.bool true) ∧ ∃ k, w' = (w6.drewN m).drewN k) := fun m => by
    have := same_any (ca := p5) (cb := p6) ((HO5d.out.fr ((Fr.refl [] _).drewN m) (by simp)).sl) ((HO6.out.fr ((Fr.refl [] _).drewN m) (by simp)).sl) l2.out l2.out
    show Calls _ _ _ _ _
    simpa using this
  clear ho6 hf6
  go_wp2_with fail
  refine HS1.out.mono ?_
  rintro e w7 ⟨rfl, k1, rfl⟩
  go_wp2_with fail
  refine (HS2.out k1).mono ?_
  rintro e w8 ⟨rfl, k2, rfl⟩
  go_wp2_with fail
  go_ret
  exact ⟨rfl, ⟨_, HA6.out.drewN _⟩, HF6.out.drewN _⟩
end Go.Proofs.Ytjnnegbcijmclaa
