/- gleanerref18: add, live, less. -/
import Derived.Test.YteggdpcfeljphaaKe
namespace Go.Proofs.Yteggdpcfeljphaa
set_option linter.unusedVariables false
set_option maxRecDepth 100000
open Go.RowKit Go.Gl Go.Shelf Go.Sort

/-- What add answers. -/
def AddP (w : World) (G : List Nat) (n : Nat) (S : Int → Prop) (x : Int) (e : Ending) (w' : World) : Prop :=
  ∃ A r c G', e = .returned (.slice A r.length c) ∧ IsSet (fun y => S y ∨ y = x) r ∧ Lr w' 3 A r.length c G' (zv r) ∧ Fr G w w' ∧ (∀ g, g ∈ G' → g ∈ G ∨ w.heap.size ≤ g) ∧ r.length ≤ n + 1
set_option maxHeartbeats 1600000 in
theorem r18add_any {w : World} {A : Option Addr} {c : Nat} {G : List Nat} {l : List Int} {S : Int → Prop} (h : Lr w 3 A l.length c G (zv l)) (hs : IsSet S l) (hl : l.length ≤ 65536) (x : Int) :
    Calls Try.prog 18 #[.slice A l.length c, .int .i64 x] w (AddP w G l.length S x) := by
  obtain ⟨i0, hi, hz0, hz1, hz2⟩ := info_parts Try.info_int
  have H := hide h
  have HS := hide hs
  have hsl := h.slz
  have HSL := hide hsl
  clear h hs hsl
  go_enter Try.func18, Try.ntmps18
  go_wp2_with fail
  go_loopw [5] (fun i wr => ∃ k : Nat, i = .int .i64 k ∧ k ≤ l.length ∧ (∀ j, j < k → l.getD j 0 ≠ x) ∧ Fr [] w wr) (fun i _ => l.length - (intOf i).toNat)
  case atStart => exact ⟨0, rfl, Nat.zero_le _, fun j hj => absurd hj (by omega), Fr.refl _ _⟩
  case round =>
    obtain ⟨k, rfl, hk, hne, hf⟩ := hrel
    have HNE := hide hne
    have HF := hide hf
    have HSLr := hide (HSL.out.fr hf (fun _ hx => by cases hx))
    clear hne hf
    by_cases hlt : k < l.length
    · have hlt1 : (k : Int) < (l.length : Int) := by omega
      obtain ⟨b, off, rfl, _, ha⟩ := HSLr.out (by omega)
      have ca : wr.cell? ⟨b, off + k, none⟩ = some (.int .i64 (l.getD k 0)) := ha k hlt
      clear ha
      generalize hy : l.getD k 0 = y at *
      have HY := hide hy
      clear hy
      have HR0 : Hid (y = x → IsSet (fun z => S z ∨ z = x) l) := fun e => by
        subst e
        refine HS.out.congr fun z => ⟨.inl, ?_⟩
        rintro (h | rfl)
        · exact h
        · rw [← HS.out.mem, ← HY.out]; simp [hlt]
      by_cases he : y = x
      · subst he
        have he2 : (y == y) = true := by simp
        go_wp2_with fail
        go_ret
        exact ⟨_, l, _, G, rfl, HR0.out (by trivial), H.out.fr0 HF.out, HF.out.mono (fun _ hx => by cases hx), fun g hg => .inl hg, Nat.le_succ _⟩
      · have he1 : (y == x) = false := by simpa using he
        go_wp2_with fail
        go_roundw
        case rel => exact ⟨k + 1, by go_num, by omega, fun j hj => by
          rcases Nat.lt_or_ge j k with h | h
          · exact HNE.out j h
          · obtain rfl : j = k := by omega
            rw [HY.out]; exact he, HF.out⟩
        case measure => simp [intOf]; omega
    · obtain rfl : k = l.length := by omega
      have HNI : Hid (x ∉ l) := by
        intro hx
        obtain ⟨j, hj, e⟩ := List.getElem_of_mem hx
        exact HNE.out j hj (by simpa [hj] using e)
      have HB1 := hide (show l.length + 1 ≤ maxLen ∧ (l.length + 1) * 8 ≤ 140737488355328 by unfold maxLen; exact ⟨by omega, by omega⟩)
      have HL3 : Hid (∀ w', Fr [] wr w' → Lr w' 3 A l.length c G (zv l)) := fun w' hf => (H.out.fr0 HF.out).fr0 hf
      clear hlt hk HNE
      go_wp2_with (first | (at_builtin; go_loud (refine wpList_append_lr rfl _ _ 22 rfl 3 i0 (.int .i64 0) 8 Try.underlying22 hi hz0 hz1 hz2 rfl rfl (HL3.out _ ((Fr.refl _ _).alloc _)) rfl (news := [.int .i64 x]) rfl (fun _ => one_of wr (.int .i64 x) 3 rfl _ (Fr.refl _ _)) (by intro u hu; simp at hu; subst hu; rfl) HB1.out.1 HB1.out.2 ?_; intro A' c' G' w2 HLn HFn HGn)))
      have HF2 : Hid (Fr G w w2) := ((HF.out.mono (fun _ hx => by cases hx)).alloc _).trans HFn.out (fun g hg => .inl hg)
      have HG2 : Hid (∀ g, g ∈ G' → g ∈ G ∨ w.heap.size ≤ g) := fun g hg => by
        have := HF.out.size
        rcases HGn.out g hg with h | ⟨h, _⟩
        · exact .inl h
        · simp at h; exact .inr (by omega)
      have HL2 : Hid (Lr w2 3 A' (l.length + 1) c' G' (zv (l ++ x :: []))) := by
        have := HLn.out
        show Lr _ _ _ _ _ _ _
        rw [zv_app]
        exact this
      clear HLn HFn HGn HL3 HF HSLr H HSL
      go_loopw [6] (fun i wr' => ∃ (k : Nat) (a b : List Int), i = .int .i64 k ∧ a.length = k ∧ l = a ++ b ∧ Lr wr' 3 A' (l.length + 1) c' G' (zv (a ++ x :: b)) ∧ (∀ y, y ∈ b → x < y) ∧ Fr G w wr') (fun i _ => (intOf i).toNat)
      case atStart => exact ⟨l.length, l, [], by rfl, rfl, by simp, HL2.out, fun y hy => by simp at hy, HF2.out⟩
      case round =>
        obtain ⟨k, a, b, rfl, hak, hab, hr, hgt, hf⟩ := hrel
        have HR := hide hr
        have HGT := hide hgt
        have HF := hide hf
        have hk2 : k ≤ 65536 := by rw [hab] at hl; simp at hl; omega
        have HAK := hide hak
        have HAB := hide hab
        clear hr hgt hf HL2 HF2 hak hab
        have HEND : Hid ((∀ y, y ∈ a → y < x) → IsSet (fun y => S y ∨ y = x) (a ++ x :: b)) := fun h => by
          have hu := HS.out.up
          rw [HAB.out] at hu
          obtain ⟨u1, u2, u3⟩ := List.pairwise_append.1 hu
          refine ⟨List.pairwise_append.2 ⟨u1, List.pairwise_cons.2 ⟨HGT.out, u2⟩, fun p hp q hq => ?_⟩, fun z => ?_⟩
          · rcases List.mem_cons.1 hq with rfl | hq
            · exact h _ hp
            · exact u3 _ hp _ hq
          · rw [← HS.out.mem, HAB.out]
            simp only [List.mem_append, List.mem_cons]
            constructor
            · rintro (h | h | h)
              · exact .inl (.inl h)
              · exact .inr h
              · exact .inl (.inr h)
            · rintro ((h | h) | h)
              · exact .inl h
              · exact .inr (.inr h)
              · exact .inr (.inl h)
        have HLEN : Hid ((a ++ x :: b).length = l.length + 1) := by
          show _ = _
          rw [HAB.out]; simp; omega
        rcases Nat.eq_zero_or_pos k with h0 | h0
        · subst h0
          obtain rfl : a = [] := List.eq_nil_of_length_eq_zero HAK.out
          have hz : decide ((0 : Int) > 0) = false := by decide
          go_wp2_with fail
          go_quiet (fail)
          go_wp2
          go_ret
          exact ⟨A', _, c', G', by rw [HLEN.out]; rfl, HEND.out (fun y hy => by cases hy), by rw [HLEN.out]; exact HR.out.drewN _, HF.out.drewN _, HG2.out, by rw [HLEN.out]; exact Nat.le_refl _⟩
        · obtain ⟨m, rfl⟩ : ∃ m, k = m + 1 := ⟨k - 1, by omega⟩
          obtain ⟨a', y, rfl⟩ : ∃ a' y, a = a' ++ [y] := ⟨a.dropLast, a.getLast (by intro h; have := HAK.out; rw [h] at this; simp at this), by rw [List.dropLast_concat_getLast]⟩
          have HAM := hide (show a'.length = m by have := HAK.out; simpa using this)
          obtain ⟨g, off, rfl, hG, hlt, hc, hfz, cur, hb, hcs⟩ := HR.out.pos (by omega)
          have hm2 : m < l.length := by rw [HAB.out]; simp; have := HAM.out; omega
          have c0 : wr.cell? ⟨g, off + m, none⟩ = some (.int .i64 y) := by rw [hc m (by omega), ← HAM.out]; simp [zv]
          have c1 : wr.cell? ⟨g, off + (m + 1), none⟩ = some (.int .i64 x) := by rw [hc (m + 1) (by omega), ← HAM.out]; simp [zv]
          have f0 := hfz (off + m)
          have f1 := hfz (off + (m + 1))
          have HGG := hide hG
          have hm3 : (m : Int) < (l.length : Int) := by omega
          clear hc hfz hb hcs h0 hG
          have hz : decide ((m : Int) + 1 > 0) = true := by simp
          by_cases hyx : y > x
          · have hd : decide (y > x) = true := by simpa using hyx
            go_wp2_with fail
            go_quiet (fail)
            go_wp2
            go_roundw
            case rel =>
              refine ⟨m, a', y :: b, rfl, HAM.out, by rw [HAB.out]; simp, ?_, fun z hz => ?_, ((HF.out.drewN _).setCell (HG2.out g (by rw [HGG.out]; simp)) _).setCell (HG2.out g (by rw [HGG.out]; simp)) _⟩
              · have h := ((HR.out.drewN nq).put (k := m + 1) (by omega) (.int .i64 y)).put (k := m) (by omega) (.int .i64 x)
                have e : ((zv (a' ++ [y] ++ x :: b)).set (m + 1) (.int .i64 y)).set m (.int .i64 x) = zv (a' ++ x :: y :: b) := by
                  rw [← HAM.out]; simp [zv]
                rw [e] at h
                exact h
              · rcases List.mem_cons.1 hz with rfl | hz
                · exact hyx
                · exact HGT.out z hz
            case measure => simp [intOf]
          · have hd : decide (y > x) = false := by simpa using hyx
            go_wp2_with fail
            go_quiet (fail)
            go_wp2
            go_ret
            refine ⟨_, _, c', G', by rw [HLEN.out]; rfl, HEND.out (fun z hz => ?_), by rw [HLEN.out]; exact HR.out.drewN _, HF.out.drewN _, HG2.out, by rw [HLEN.out]; exact Nat.le_refl _⟩
            have hy : y ≠ x := fun e => HNI.out (by rw [HAB.out, ← e]; simp)
            rcases List.mem_append.1 hz with h | h
            · have hu := HS.out.up
              rw [HAB.out] at hu
              obtain ⟨u1, _, _⟩ := List.pairwise_append.1 hu
              have := (List.pairwise_append.1 u1).2.2 z h y (by simp)
              omega
            · simp at h; omega
theorem r18live_any (x : Int × Int) (w : World) : Calls Try.prog 20 #[.agg #[.int .i64 x.1, .int .i64 x.2]] w fun e w' => e = .returned (.int .i64 (max x.2 0)) ∧ Fr [] w w' := by
  obtain ⟨r, l⟩ := x
  simp only
  go_enter Try.func20, Try.ntmps20
  go_wp2
  all_goals go_ret
  all_goals exact ⟨ret_int (by omega), (Fr.refl _ _).alloc _⟩
/-- Ahead of the other. -/
def klt (a b : Int × Int) : Bool := decide (a.1 < b.1) || (a.1 == b.1 && decide (a.2 < b.2))
theorem klt_iff (a b : Int × Int) : klt a b = true ↔ ¬ kle b a := by
  unfold klt kle
  simp
  omega
set_option maxHeartbeats 1600000 in
theorem r18less_any (x y : Int × Int) (w : World) : Calls Try.prog 19 #[.agg #[.int .i64 x.1, .int .i64 x.2], .agg #[.int .i64 y.1, .int .i64 y.2]] w fun e w' => e = .returned (.bool (klt (keyC x) (keyC y))) ∧ Fr [] w w' := by
  have HX : Hid (∀ w', Calls Try.prog 20 #[.agg #[.int .i64 x.1, .int .i64 x.2]] w' fun e w'' => e = .returned (.int .i64 (max x.2 0)) ∧ Fr [] w' w'') := fun w' => r18live_any x w'
  have HY : Hid (∀ w', Calls Try.prog 20 #[.agg #[.int .i64 y.1, .int .i64 y.2]] w' fun e w'' => e = .returned (.int .i64 (max y.2 0)) ∧ Fr [] w' w'') := fun w' => r18live_any y w'
  have HR : Hid (klt (keyC x) (keyC y) = (decide (max x.2 0 < max y.2 0) || (max x.2 0 == max y.2 0 && decide (x.1 < y.1)))) := rfl
  generalize klt (keyC x) (keyC y) = R at *
  generalize max x.2 0 = mx at *
  generalize max y.2 0 = my at *
  generalize x.1 = x1 at *
  generalize y.1 = y1 at *
  generalize x.2 = x2 at *
  generalize y.2 = y2 at *
  have hways : (decide (mx < my) = true ∧ Hid (R = true)) ∨ (decide (mx < my) = false ∧ (mx == my) = false ∧ Hid (R = false)) ∨ (decide (mx < my) = false ∧ (mx == my) = true ∧ Hid (R = decide (x1 < y1))) := by
    have := HR.out
    by_cases h1 : mx < my
    · exact .inl ⟨by simpa using h1, by show R = true; rw [this]; simp [h1]⟩
    · by_cases h2 : mx = my
      · exact .inr (.inr ⟨by simpa using h1, by simpa using h2, by show R = _; rw [this]; simp [h2]⟩)
      · exact .inr (.inl ⟨by simpa using h1, by simpa using h2, by show R = false; rw [this]; simp [h1, h2]⟩)
  clear HR
  rcases hways with ⟨h1, HV⟩ | ⟨h1, h2, HV⟩ | ⟨h1, h2, HV⟩
  all_goals
    rw [HV.out]
    clear HV
    generalize hdd : decide (x1 < y1) = dd at *
    go_enter Try.func19, Try.ntmps19
    go_wp2_with fail
    obtain ⟨w1, hw1⟩ : ∃ w1, w1 = (w.alloc (.cells #[.int .i64 x1, .int .i64 x2] 34)).alloc (.cells #[.int .i64 y1, .int .i64 y2] 34) := ⟨_, rfl⟩
    rw [← hw1]
    have F0 : Hid (Fr [] w w1) := hw1 ▸ ((Fr.refl _ _).alloc _).alloc _
    have B1 : Blk w1 w.heap.size 34 #[.int .i64 x1, .int .i64 x2] := hw1 ▸ (Blk.new w 34 _).alloc _
    have B2 : Blk w1 (w.heap.size + 1) 34 #[.int .i64 y1, .int .i64 y2] := hw1 ▸ Blk.new_at (w := w.alloc (.cells #[.int .i64 x1, .int .i64 x2] 34)) 34 _ (by simp)
    have c0 : ∀ u : Cls (Fr [] w1), u.w.cell? ⟨w.heap.size, 0, none⟩ = some (.int .i64 x1) := fun u => u.cell (B1.cell 0) (by simp)
    have c1 : ∀ u : Cls (Fr [] w1), u.w.cell? ⟨w.heap.size, 1, none⟩ = some (.int .i64 x2) := fun u => u.cell (B1.cell 1) (by simp)
    have c2 : ∀ u : Cls (Fr [] w1), u.w.cell? ⟨w.heap.size + 1, 0, none⟩ = some (.int .i64 y1) := fun u => u.cell (B2.cell 0) (by simp)
    have c3 : ∀ u : Cls (Fr [] w1), u.w.cell? ⟨w.heap.size + 1, 1, none⟩ = some (.int .i64 y2) := fun u => u.cell (B2.cell 1) (by simp)
    clear hw1 B1 B2
    refine wp_region_cls (Fr [] w1) (by kernel_rfl) (by kernel_rfl) (Fr.refl _ _).drew ?_
    repeat (go_big_quiet_step ((first | (go_at_call 20; (first | (with_reducible exact Cls.grow (HX.out _)) | (with_reducible exact Cls.grow (HY.out _)))))))
    refine wpQuiet_nil ?_
    rintro _ ⟨u, rfl⟩
    go_wp2_with fail
    go_ret
    exact ⟨by first | rfl | rw [hdd], F0.out.trans_same u.ok⟩
end Go.Proofs.Yteggdpcfeljphaa
