/- gleanerref11: Cards. -/
import Derived.Test.YtkbffmmomoeaiaaDoorMa
import Derived.Test.YtkbffmmomoeaiaaDoorSv
namespace Go.Proofs.YtkbffmmomoeaiaaDoor
set_option linter.unusedVariables false
set_option linter.unusedSimpArgs false
open Go.RowKit Go.Gl

section
variable {w : World} {tg : Tg} {mb lb per n : Nat} {L : Nat → List Sr} {V : Nat → Value} {cv : Nat → Nat → Value} {σ : RS}
theorem mcards_no (hm : Ms w tg mb lb per n L V cv) (ht : Mt per n σ L) {a : Int} (ha : ¬ (0 ≤ a ∧ a < (n : Int))) : Calls Tryd.prog 13 #[.pointer (some ⟨mb, 0, none⟩), .int .i64 a] w fun e w' => e = .returned (.slice none 0 0) ∧ w = w' := by
  have HR := hide (mregion_any hm ht.ok.dim a)
  rw [decide_eq_false ha] at HR
  clear hm ht
  go_enter Tryd.func13, Tryd.ntmps13
  go_wp2_with (go_at_call 30; refine HR.out.mono ?_; rintro e w' ⟨rfl, rfl⟩)
  go_ret
  exact ⟨rfl, rfl⟩
set_option maxRecDepth 100000 in
set_option maxHeartbeats 3200000 in
theorem mcards_ok (hm : Ms w tg mb lb per n L V cv) (ht : Mt per n σ L) {h : Nat} (hh : h < n) : Calls Tryd.prog 13 #[.pointer (some ⟨mb, 0, none⟩), .int .i64 (h : Int)] w (ListPost w [] (allOf σ per n h)) := by
  obtain ⟨i0, hi0, hz0, hz1, hz2⟩ := info_parts Tryd.info_int
  have hd := ht.ok.dim
  have HR := hide (mregion_any hm hd (h : Int))
  rw [decide_eq_true (show 0 ≤ (h : Int) ∧ (h : Int) < (n : Int) by omega)] at HR
  have hn := hd.n2
  have hp1 := hd.p1
  have hp2 := hd.p2
  have hp3 := hd.p3
  have hh1 : (h : Int) < (n : Int) := by omega
  have hregs := ht.regs hh
  have hsl := srcs_len σ n h
  have HFlat : Hid ((srcs σ n h).flatMap (cardsOf σ per h) = allOf σ per n h) := flat_srcs ht.ok
  have HSN : Hid (∀ k, k < (srcs σ n h).length → (srcs σ n h).getD k 0 < n) := fun k hk => by
    have := List.getElem_mem hk
    rw [srcs_mem] at this
    simpa [hk] using this.1
  have HReg : Hid (∀ k s, (L h)[k]? = some s → s.reg = (srcs σ n h).getD k 0) := fun k s hk => by
    rw [← hregs]
    obtain ⟨h1, h2⟩ := List.getElem?_eq_some_iff.1 hk
    simp [hk]
  have hll : (L h).length = (srcs σ n h).length := by rw [← hregs, List.length_map]
  obtain ⟨A0, c0, hv, hs⟩ := (hm.own h hh).row.sl
  have k1 := hm.c1
  have k2 := hm.c2
  have kr := hm.cr hh
  rw [hv, hll] at kr
  have HS := hide hs
  have HLl := hide hll
  have HH : Hid (∀ (w' : World) (m : Nat), Fr [] w w' → m < n * per → Calls Tryd.prog 24 #[.pointer (some ⟨mb, 0, none⟩), .int .i64 (h : Int), .int .i64 (m : Int)] w' (QuietB w' (hasN σ per h m))) := fun w' m hf hmn => by
    have := mhas_any (hm.fr0 hf) ht (h : Int) (m : Int)
    rw [hasI_at _ _ _ _ _ hmn] at this
    exact this
  have HCd : Hid (∀ s i, s < n → i < per → s * per + i < n * per) := fun s i h1 h2 => (hd.card h1 h2).1
  have HPs : Hid (∀ s, s < n → s * per + per ≤ n * per) := fun s h1 => by rw [← Nat.succ_mul]; exact Nat.mul_le_mul_right _ h1
  have HD := hide hd
  clear hm ht hs hv hll hregs hd
  generalize srcs σ n h = ss at *
  have hsb : ss.length ≤ 65536 := by omega
  go_enter Tryd.func13, Tryd.ntmps13
  go_wp2_with (go_at_call 30; refine HR.out.mono ?_; rintro e w' ⟨rfl, rfl⟩)
  go_loopw [5, 6] (fun v i wr => ∃ (k : Nat) (A : Option Addr) (c : Nat) (G : List Nat), i = .int .i64 k ∧ k ≤ ss.length ∧ v = .slice A ((ss.take k).flatMap (cardsOf σ per h)).length c ∧ Lr wr 3 A ((ss.take k).flatMap (cardsOf σ per h)).length c G (zv ((ss.take k).flatMap (cardsOf σ per h))) ∧ Fr [] w wr ∧ ∀ g, g ∈ G → w.heap.size ≤ g) (fun _ i _ => ss.length - (intOf i).toNat)
  case atStart => exact ⟨0, none, 0, [], rfl, Nat.zero_le _, rfl, Lr.nil _ _, Fr.refl _ _, fun g hg => by cases hg⟩
  case round =>
    obtain ⟨k, A, c, G, rfl, hk, rfl, hl, hf, hg⟩ := hrel
    have HLx := hide hl
    have HFx := hide hf
    have HGx := hide hg
    have d1 := (hf.cell (p := ⟨mb, 1, none⟩) (lt_of_cell k1) (by simp)).trans k1
    have d2 := (hf.cell (p := ⟨mb, 2, none⟩) (lt_of_cell k2) (by simp)).trans k2
    have dr := (hf.cell (p := ⟨lb, h, none⟩) (lt_of_cell kr) (by simp)).trans kr
    have N1 : mb < wr.heap.size := lt_of_cell d1
    clear hl hg
    by_cases hlt : k < ss.length
    · have hlt1 : (k : Int) < (ss.length : Int) := by omega
      obtain ⟨s, hsk⟩ : ∃ s, (L h)[k]? = some s := ⟨_, List.getElem?_eq_getElem (by rw [HLl.out]; exact hlt)⟩
      obtain ⟨g, rfl, e0, _, _⟩ := HS.out k s hsk
      have f0 := (hf.cell (p := ⟨g, k * 3, none⟩) (lt_of_cell e0) (by simp)).trans e0
      have hsr := HReg.out k s hsk
      have hsn := HSN.out k hlt
      rw [hsr] at f0
      have htk : ss.take (k + 1) = ss.take k ++ [ss.getD k 0] := by
        rw [List.take_add_one, List.getElem?_eq_getElem hlt]
        simp [hlt]
      have HE : Hid ((ss.take (k + 1)).flatMap (cardsOf σ per h) = (ss.take k).flatMap (cardsOf σ per h) ++ cardsOf σ per h (ss.getD k 0)) := by
        show _ = _
        rw [htk, List.flatMap_append]
        simp
      have hlen : ((ss.take k).flatMap (cardsOf σ per h)).length + per ≤ 8388608 := by
        have h1 := flat_len σ per h (ss.take k)
        have h2 : (ss.take k).length * per ≤ n * per := Nat.mul_le_mul_right _ (by rw [List.length_take]; omega)
        omega
      clear hf hsk e0 hsr htk
      generalize ss.getD k 0 = r at *
      have hrp := HPs.out r hsn
      have hSP : (r : Int) * (per : Int) = ((r * per : Nat) : Int) := (Int.natCast_mul _ _).symm
      have hwS : IntKind.i64.wrap ((r : Int) * (per : Int)) = ((r * per : Nat) : Int) := by rw [hSP]; exact IntWalk.i64_in _ ⟨by omega, by omega⟩
      have HCr : Hid (∀ i, i < per → r * per + i < n * per) := fun i hi => HCd.out r i hsn hi
      have HCo : Hid (cardsOf σ per h r = part per r (fun i => hasN σ per h (r * per + i)) per) := rfl
      have HPt : Hid (∀ i, part per r (fun i => hasN σ per h (r * per + i)) (i + 1) = part per r (fun i => hasN σ per h (r * per + i)) i ++ if hasN σ per h (r * per + i) = true then [((r * per + i : Nat) : Int)] else []) := fun i => by
        cases hb : hasN σ per h (r * per + i) with
        | true => rw [part_yes (p := fun i => hasN σ per h (r * per + i)) hb]; rfl
        | false => rw [part_no (p := fun i => hasN σ per h (r * per + i)) hb]; simp
      have HPl : Hid (∀ i, (part per r (fun i => hasN σ per h (r * per + i)) i).length ≤ i) := fun i => part_len _ _ _ _
      have HP0 : Hid (part per r (fun i => hasN σ per h (r * per + i)) 0 = []) := rfl
      generalize hpp : part per r (fun i => hasN σ per h (r * per + i)) = pp at *
      clear hpp
      generalize hX : (ss.take k).flatMap (cardsOf σ per h) = X at *
      obtain ⟨SP, hsp⟩ : ∃ SP, r * per = SP := ⟨_, rfl⟩
      rw [hsp] at hrp hwS hSP HCr HPt
      have HXe := hide hX
      clear hX hsp
      generalize n * per = NP at *
      go_wp2_with fail
      go_quiet (fail)
      go_wp2_with fail
      have HFq : Hid (Fr [] w (wr.drewN nq)) := HFx.out.drewN nq
      have HLq := hide (HLx.out.drewN nq)
      clear HLx HFx d1 d2 dr
      generalize wr.drewN nq = wa at *
      have d1 := (HFq.out.cell (p := ⟨mb, 1, none⟩) (lt_of_cell k1) (by simp)).trans k1
      go_loopw [5, 8] (fun v ci wq => ∃ (i : Nat) (A : Option Addr) (c : Nat) (G : List Nat), ci = .int .i64 ((SP + i : Nat) : Int) ∧ i ≤ per ∧ v = .slice A (X ++ pp i).length c ∧ Lr wq 3 A (X ++ pp i).length c G (zv (X ++ pp i)) ∧ Fr [] w wq ∧ ∀ g, g ∈ G → w.heap.size ≤ g) (fun _ ci _ => SP + per - (intOf ci).toNat)
      case atStart => exact ⟨0, A, c, G, by go_num, Nat.zero_le _, by rw [HP0.out, List.append_nil], by rw [HP0.out, List.append_nil]; exact HLq.out, HFq.out, HGx.out⟩
      obtain ⟨i, A1, c1, G1, rfl, hi, rfl, hl, hf, hg⟩ := hrel
      have HLy := hide hl
      have HFy := hide hf
      have HGy := hide hg
      have d1 := (hf.cell (p := ⟨mb, 1, none⟩) (lt_of_cell k1) (by simp)).trans k1
      clear hl hg
      by_cases hlt2 : i < per
      focus
        have hlt3 : ((SP + i : Nat) : Int) < (SP : Int) + (per : Int) := by omega
        have hci := HCr.out i hlt2
        have HHi := hide (HH.out wr (SP + i) hf hci)
        have hpl := HPl.out i
        have HXl : Hid ((X ++ pp i).length ≤ 8388608) := by
          show _ ≤ _
          rw [List.length_append]; omega
        have HPi := hide (HPt.out i)
        clear hf
        obtain ⟨m, hm⟩ : ∃ m, SP + i = m := ⟨_, rfl⟩
        rw [hm] at HHi HPi hlt3 hci ⊢
        have HM := hide hm
        clear hm
        generalize hasN σ per h m = b at *
        cases b with
        | false =>
          have HPi2 : Hid (X ++ pp (i + 1) = X ++ pp i) := by
            show _ = _
            rw [HPi.out]; simp
          generalize hY : X ++ pp i = Y at *
          have HY := hide hY
          clear hY
          have hm4 : (m : Int) < 4194304 := by omega
          go_wp2_with (go_at_call 24; refine HHi.out.mono ?_; rintro e w' ⟨rfl, q, rfl⟩)
          go_roundw
          case rel => exact ⟨i + 1, A1, c1, G1, by rw [← Nat.add_assoc, HM.out]; go_num, by omega, by rw [HPi2.out], by rw [HPi2.out]; exact HLy.out.drewN q, HFy.out.drewN q, HGy.out⟩
          case measure => have := HM.out; simp [intOf]; omega
        | true =>
          have HPi2 : Hid (zv (X ++ pp (i + 1)) = zv (X ++ pp i) ++ [.int .i64 (m : Int)]) := by
            show _ = _
            rw [HPi.out, if_pos rfl, ← List.append_assoc, zv_app (X ++ pp i)]; rfl
          have HPi3 : Hid ((X ++ pp (i + 1)).length = (X ++ pp i).length + 1) := by
            show _ = _
            rw [HPi.out, if_pos rfl]
            simp only [List.length_append, List.length_cons, List.length_nil]; omega
          have hm4 : (m : Int) < 4194304 := by omega
          generalize hY : zv (X ++ pp i) = Y at *
          generalize hy : (X ++ pp i).length = y at *
          have HY := hide hY
          have Hy := hide hy
          clear hY hy
          have HB : Hid (y + 1 ≤ maxLen ∧ (y + 1) * 8 ≤ 140737488355328) := ⟨by have := HXl.out; unfold maxLen; omega, by have := HXl.out; omega⟩
          go_wp2_with (first | (go_at_call 24; refine HHi.out.mono ?_; rintro e w' ⟨rfl, q, rfl⟩) | (at_builtin; refine wpList_append_lr rfl _ _ 37 rfl 3 i0 (.int .i64 0) 8 Tryd.underlying37 hi0 hz0 hz1 hz2 rfl rfl ((HLy.out.drewN q).alloc _) rfl rfl (fun _ => one_of (wr.drewN q) _ 3 rfl _ (Fr.refl _ _)) (by simp [Value.oneCell']) HB.out.1 HB.out.2 ?_; intro A3 c3 G3 w3 HL3 HF3 HG3))
          go_roundw
          case rel => exact ⟨i + 1, A3, c3, G3, by rw [← Nat.add_assoc, HM.out]; go_num, by omega, by rw [HPi3.out], by rw [HPi2.out, HPi3.out]; exact HL3.out, (HFy.out.drewN q).alloc _ |>.trans HF3.out (fun x hx => .inr (HGy.out x hx)), fun g hg => by
            rcases HG3.out g hg with h | ⟨h, _⟩
            · exact HGy.out g h
            · have := HFy.out.size; simp at h; omega⟩
          case measure => have := HM.out; simp [intOf]; omega
      obtain rfl : i = per := by omega
      have hlt3 : ¬ ((SP + i : Nat) : Int) < (SP : Int) + (i : Int) := by omega
      have HEnd : Hid (X ++ pp i = (ss.take (k + 1)).flatMap (cardsOf σ i h)) := by
        show _ = _
        rw [HE.out, HCo.out]
      generalize hZ : X ++ pp i = Z at *
      have HZ := hide hZ
      clear hZ hf
      go_wp2_with fail
      go_roundw
      case rel => exact ⟨k + 1, A1, c1, G1, by go_num, by omega, by rw [← HEnd.out], by rw [← HEnd.out]; exact HLy.out, HFy.out, HGy.out⟩
      case measure => simp [intOf]; omega
    · have hlt1 : ¬ (k : Int) < (ss.length : Int) := by omega
      obtain rfl : k = ss.length := by omega
      have hE : (ss.take ss.length).flatMap (cardsOf σ per h) = allOf σ per n h := by rw [List.take_length]; exact HFlat.out
      rw [hE] at HLx ⊢
      go_wp2_with fail
      go_ret
      exact ⟨A, c, G, rfl, HLx.out, HFx.out, fun g hg => .inr (HGx.out g hg)⟩
end
end Go.Proofs.YtkbffmmomoeaiaaDoor
/- gleanerref11: New. -/
namespace Go.Proofs.YtkbffmmomoeaiaaDoor
set_option linter.unusedVariables false
set_option linter.unusedSimpArgs false
open Go.RowKit Go.Gl

set_option maxRecDepth 100000 in
set_option maxHeartbeats 3200000 in
theorem mnew_no (g : Geo) (hno : ¬ GeoMay g) (w : World) : Calls Tryd.prog 9 #[g.val] w fun e w' => e = .returned (.tuple #[.pointer none, .int .i64 20]) ∧ Fr [] w w' := by
  obtain ⟨words, rw0, cw, regions, cards, max⟩ := g
  unfold GeoMay at hno
  simp only at hno
  have HNo := hide hno
  unfold Geo.val
  clear hno
  by_cases h1 : regions < 1
  case pos =>
    have hbd : decide (regions < 1) = true := decide_eq_true h1
    clear HNo
    go_enter Tryd.func9, Tryd.ntmps9
    go_wp2_with fail
    go_quiet (fail)
    go_wp2
    go_ret2
    exact ⟨rfl, ((Fr.refl _ _).alloc _).drewN _⟩
  case neg =>
  have g1 : decide (regions < 1) = false := decide_eq_false h1
  by_cases h2 : regions > 65536
  case pos =>
    have hbd : decide (regions > 65536) = true := decide_eq_true h2
    clear HNo
    go_enter Tryd.func9, Tryd.ntmps9
    go_wp2_with fail
    go_quiet (fail)
    go_wp2
    go_ret2
    exact ⟨rfl, ((Fr.refl _ _).alloc _).drewN _⟩
  case neg =>
  have g2 : decide (regions > 65536) = false := decide_eq_false h2
  by_cases h3 : cw < 1
  case pos =>
    have hbd : decide (cw < 1) = true := decide_eq_true h3
    clear HNo
    go_enter Tryd.func9, Tryd.ntmps9
    go_wp2_with fail
    go_quiet (fail)
    go_wp2
    go_ret2
    exact ⟨rfl, ((Fr.refl _ _).alloc _).drewN _⟩
  case neg =>
  have g3 : decide (cw < 1) = false := decide_eq_false h3
  by_cases h4 : rw0 < 1
  case pos =>
    have hbd : decide (rw0 < 1) = true := decide_eq_true h4
    clear HNo
    go_enter Tryd.func9, Tryd.ntmps9
    go_wp2_with fail
    go_quiet (fail)
    go_wp2
    go_ret2
    exact ⟨rfl, ((Fr.refl _ _).alloc _).drewN _⟩
  case neg =>
  have g4 : decide (rw0 < 1) = false := decide_eq_false h4
  by_cases h5 : rw0 > 4194304
  case pos =>
    have hbd : decide (rw0 > 4194304) = true := decide_eq_true h5
    clear HNo
    go_enter Tryd.func9, Tryd.ntmps9
    go_wp2_with fail
    go_quiet (fail)
    go_wp2
    go_ret2
    exact ⟨rfl, ((Fr.refl _ _).alloc _).drewN _⟩
  case neg =>
  have g5 : decide (rw0 > 4194304) = false := decide_eq_false h5
  have hc0 : ¬ (cw = 0) := by omega
  have htm : rw0.tmod cw = rw0 % cw := Int.tmod_eq_emod_of_nonneg (by omega)
  have hE0 : 0 ≤ rw0 % cw := Int.emod_nonneg _ (by omega)
  have hE1 : rw0 % cw < cw := Int.emod_lt_of_pos _ (by omega)
  have hM : regions * rw0 ≤ 65536 * 4194304 := Int.le_trans (Int.mul_le_mul_of_nonneg_left (show rw0 ≤ 4194304 by omega) (by omega)) (Int.mul_le_mul_of_nonneg_right (by omega) (by decide))
  have hM0 : 0 ≤ regions * rw0 := Int.mul_nonneg (by omega) (by omega)
  obtain ⟨M, hMM⟩ : ∃ M, regions * rw0 = M := ⟨_, rfl⟩
  rw [hMM] at hM hM0
  have hwM : IntKind.i64.wrap M = M := by rw [IntKind.wrap_i64]; omega
  have hE2 : rw0 % cw ≤ rw0 := by
    have h0 := Int.mul_ediv_add_emod rw0 cw
    have h1 : 0 ≤ cw * (rw0 / cw) := Int.mul_nonneg (by omega) (Int.ediv_nonneg (by omega) (by omega))
    omega
  have hwE : IntKind.i64.wrap (rw0 % cw) = rw0 % cw := by rw [IntKind.wrap_i64]; omega
  by_cases h6 : rw0 % cw = 0
  case neg =>
    have hb : (rw0 % cw == 0) = false := by simpa using h6
    have hb2 : (rw0 % cw != 0) = true := by simpa using h6
    clear HNo
    generalize rw0 % cw = E at *
    go_enter Tryd.func9, Tryd.ntmps9
    go_wp2_with fail
    go_quiet (fail)
    go_wp2
    go_ret2
    exact ⟨rfl, ((Fr.refl _ _).alloc _).drewN _⟩
  case pos =>
  by_cases h7 : words = M
  case neg =>
    have hb : (words == M) = false := by simpa using h7
    have hb2 : (words != M) = true := by simpa using h7
    clear HNo
    generalize rw0 % cw = E at *
    go_enter Tryd.func9, Tryd.ntmps9
    go_wp2_with fail
    go_quiet (fail)
    go_wp2
    go_ret2
    exact ⟨rfl, ((Fr.refl _ _).alloc _).drewN _⟩
  case pos =>
  subst h7
  by_cases h8 : words > 4194304
  case pos =>
    have hbd : decide (words > 4194304) = true := decide_eq_true h8
    clear HNo
    generalize rw0 % cw = E at *
    go_enter Tryd.func9, Tryd.ntmps9
    go_wp2_with fail
    go_quiet (fail)
    go_wp2
    go_ret2
    exact ⟨rfl, ((Fr.refl _ _).alloc _).drewN _⟩
  case neg =>
  have g8 : decide (words > 4194304) = false := decide_eq_false h8
  have htw : words.tdiv cw = words / cw := Int.tdiv_eq_ediv_of_nonneg hM0
  have hq0 : 0 ≤ words / cw := Int.ediv_nonneg hM0 (by omega)
  have hq1 : words / cw ≤ 4194304 := Int.le_trans (Int.ediv_le_self _ hM0) (by omega)
  have hwQ : IntKind.i64.wrap (words / cw) = words / cw := by rw [IntKind.wrap_i64]; omega
  by_cases h9 : cards = words / cw
  case neg =>
    have hb : (cards == words / cw) = false := by simpa using h9
    have hb2 : (cards != words / cw) = true := by simpa using h9
    clear HNo
    generalize rw0 % cw = E at *
    generalize words / cw = Q at *
    go_enter Tryd.func9, Tryd.ntmps9
    go_wp2_with fail
    go_quiet (fail)
    go_wp2
    go_ret2
    exact ⟨rfl, ((Fr.refl _ _).alloc _).drewN _⟩
  case pos =>
  exact absurd ⟨by omega, by omega, by omega, by omega, Int.le_ediv_of_mul_le (by omega) (by rw [Int.mul_comm, hMM]; omega), h6, hMM.symm, h9⟩ HNo.out
theorem Tryd.info_srcs11 : (Tryd.prog.info? 77).map (fun i => (i.zero, i.size, i.bytes)) = some (some (.slice none 0 0), 1, 24) := by kernel_rfl
def MNew (w : World) (per n : Nat) (e : Ending) (w' : World) : Prop :=
  ∃ tg mb, e = .returned (.tuple #[.pointer (some ⟨mb, 0, none⟩), .int .i64 0]) ∧ MAt w' tg mb per n freshS ∧ Fr [] w w' ∧ ∀ b, b < w.heap.size → (tg b).1 = 0
theorem m_fresh {w W : World} {mb lb per n : Nat} (d : Dim per n) (h1 : Blk W mb 63 #[.int .i64 (n : Int), .int .i64 (per : Int), .slice (some ⟨lb, 0, none⟩) n n]) (h2 : Blk W lb 77 (rowF n fun _ => .slice none 0 0)) (hf : Fr [] w W) (l1 : w.heap.size ≤ mb) (l2 : w.heap.size ≤ lb) :
    MNew w per n (.returned (.tuple #[.pointer (some ⟨mb, 0, none⟩), .int .i64 0])) W := by
  have hne : lb ≠ mb := Blk.apart h2 h1 (by decide)
  let tg : Tg := setTg (setTg (fun _ => (0, 0, 0)) lb (2, 0, 0)) mb (1, 0, 0)
  have t1 : tg mb = (1, 0, 0) := setTg_at _ _ _
  have t2 : tg lb = (2, 0, 0) := (setTg_ne _ _ hne).trans (setTg_at _ _ _)
  have t0 : ∀ b, b ≠ mb → b ≠ lb → tg b = (0, 0, 0) := fun b b1 b2 => (setTg_ne _ _ b1).trans (setTg_ne _ _ b2)
  refine ⟨tg, mb, rfl, ⟨lb, fun _ => [], fun _ => .slice none 0 0, fun _ _ => .slice none 0 0, ⟨h1, t1, fun b hb => ?_, h2, t2, fun h hh => HomeAt.nil _ _ _ _⟩, ⟨⟨d, fun _ _ h => absurd rfl h, fun _ _ h => by cases h⟩, fun _ _ => List.Pairwise.nil, fun _ _ _ h => (by cases h), fun _ _ _ h => absurd rfl h, fun _ _ _ h => (by cases h)⟩⟩, hf, fun b hb => ?_⟩
  · by_cases b1 : b = mb
    · exact b1 ▸ Blk.lt h1
    by_cases b2 : b = lb
    · exact b2 ▸ Blk.lt h2
    rw [t0 b b1 b2] at hb
    exact absurd rfl hb
  · rw [t0 b (by omega) (by omega)]
section
variable (w : World) (t : TypeId) (cs : Array Value) (o1 o2 : Obj)
theorem blk2_1 : Blk ((w.alloc (.cells cs t)).alloc o2).drew w.heap.size t cs := ((Blk.new w t cs).alloc o2).drew
theorem blk2_2 : Blk ((w.alloc o1).alloc (.cells cs t)).drew (w.heap.size + 1) t cs := (Blk.new_at (w := w.alloc o1) t cs (by simp)).drew
end
set_option maxRecDepth 100000 in
set_option maxHeartbeats 3200000 in
theorem mnew_ok (g : Geo) {per n : Nat} (ok : OkG g per n) (w : World) : Calls Tryd.prog 9 #[g.val] w (MNew w per n) := by
  obtain ⟨hd, hr, hcd, hq, hc0, hmay⟩ := ok
  obtain ⟨words, rw0, cw, regions, cards, max⟩ := g
  obtain ⟨a1, a2, a3, a4, a5, a6, a7, a8⟩ := hmay
  simp only at hr hcd hq hc0 a1 a2 a3 a4 a5 a6 a7 a8
  have g1 : decide (regions < 1) = false := decide_eq_false (by omega)
  have g2 : decide (regions > 65536) = false := decide_eq_false (by omega)
  have g3 : decide (cw < 1) = false := decide_eq_false (by omega)
  have g4 : decide (rw0 < 1) = false := decide_eq_false (by omega)
  have hM : regions * rw0 ≤ 4194304 := Int.le_trans (Int.mul_le_mul_of_nonneg_left a5 (by omega)) (Int.mul_ediv_self_le (by omega))
  have hr5 : rw0 ≤ 4194304 := Int.le_trans a5 (Int.ediv_le_self _ (by decide))
  have g5 : decide (rw0 > 4194304) = false := decide_eq_false (by omega)
  have htm : rw0.tmod cw = 0 := by rw [Int.tmod_eq_emod_of_nonneg (by omega)]; exact a6
  have hM0 : 0 ≤ regions * rw0 := Int.mul_nonneg (by omega) (by omega)
  have hMM := a7.symm
  rw [hMM] at hM hM0
  have hwM : IntKind.i64.wrap words = words := by rw [IntKind.wrap_i64]; omega
  have g8 : decide (words > 4194304) = false := decide_eq_false (by omega)
  have htw : words.tdiv cw = cards := by rw [Int.tdiv_eq_ediv_of_nonneg hM0]; exact a8.symm
  have hq0 : 0 ≤ cards := by rw [a8]; exact Int.ediv_nonneg hM0 (by omega)
  have hq1 : cards ≤ 4194304 := by rw [a8]; exact Int.le_trans (Int.ediv_le_self _ hM0) hM
  have hwQ : IntKind.i64.wrap cards = cards := by rw [IntKind.wrap_i64]; omega
  have HD := hide hd
  have hn := hd.n2
  have hp := hd.p3
  have hwp : IntKind.i64.wrap (per : Int) = (per : Int) := by rw [IntKind.wrap_i64]; omega
  have hmk : ∀ w', (Instr.makeSlice 61 (.int .i64 (n : Int)) (.int .i64 (n : Int))).run Tryd.prog w' = .ok (.slice (some ⟨w'.heap.size, 0, none⟩) n n) (w'.alloc (.cells (rowF n fun _ => .slice none 0 0) 77)) := make_rowF Tryd.underlying61 Tryd.info_srcs11 rfl (by decide) hn
  subst hr
  unfold Geo.val
  have HB : Hid (Blk (w.alloc (.cells #[.int .i64 words, .int .i64 rw0, .int .i64 cw, .int .i64 (n : Int), .int .i64 cards, .int .i64 max] 33)) w.heap.size 33 #[.int .i64 words, .int .i64 rw0, .int .i64 cw, .int .i64 (n : Int), .int .i64 cards, .int .i64 max]) := Blk.new _ _ _
  clear hd hcd a1 a2 a3 a4 a5 a6 a7 a8
  go_enter Tryd.func9, Tryd.ntmps9
  go_wp2_with fail
  go_quiet (fail)
  go_wp2_with fail
  have HF : Hid (Fr [] w ((w.alloc (.cells #[.int .i64 words, .int .i64 rw0, .int .i64 cw, .int .i64 (n : Int), .int .i64 cards, .int .i64 max] 33)).drewN nq)) := ((Fr.refl _ _).alloc _).drewN _
  have hb := HB.out.drewN nq
  clear HB
  generalize (w.alloc (.cells #[.int .i64 words, .int .i64 rw0, .int .i64 cw, .int .i64 (n : Int), .int .i64 cards, .int .i64 max] 33)).drewN nq = w1 at *
  have c1 : w1.cell? ⟨w.heap.size, 1, none⟩ = some (.int .i64 rw0) := by rw [hb.cell]; rfl
  have c2 : w1.cell? ⟨w.heap.size, 2, none⟩ = some (.int .i64 cw) := by rw [hb.cell]; rfl
  have c3 : w1.cell? ⟨w.heap.size, 3, none⟩ = some (.int .i64 (n : Int)) := by rw [hb.cell]; rfl
  have hlt : w.heap.size < w1.heap.size := hb.lt
  have K : ∀ w2, Fr [] w1 w2 → w2.cell? ⟨w.heap.size, 1, none⟩ = some (.int .i64 rw0) ∧ w2.cell? ⟨w.heap.size, 2, none⟩ = some (.int .i64 cw) ∧ w2.cell? ⟨w.heap.size, 3, none⟩ = some (.int .i64 (n : Int)) := fun w2 hf =>
    ⟨(hf.cell (lt_of_cell c1) (by simp)).trans c1, (hf.cell (lt_of_cell c2) (by simp)).trans c2, (hf.cell (lt_of_cell c3) (by simp)).trans c3⟩
  have K0 := K _ (Fr.refl [] w1).drew
  have K1 := fun o1 => K _ ((Fr.refl [] w1).alloc o1).drew
  have K2 := fun o1 o2 => K _ (((Fr.refl [] w1).alloc o1).alloc o2).drew
  clear K hb g1 g2 g3 g4 g5 g8 htm hwM htw hwQ hMM
  go_region_held3 (fun w' => w'.cell? ⟨w.heap.size, 1, none⟩ = some (.int .i64 rw0) ∧ w'.cell? ⟨w.heap.size, 2, none⟩ = some (.int .i64 cw) ∧ w'.cell? ⟨w.heap.size, 3, none⟩ = some (.int .i64 (n : Int)))
    (first | with_reducible exact K0 | with_reducible exact K1 _ | with_reducible exact K2 _ _)
    (first | fail)
  all_goals
    clear K0 K1 K2
    go_wp2_with fail
    go_ret2
    refine m_fresh HD.out (blk2_2 _ _ _ _) (blk2_1 _ _ _ _) ?hf ?l1 ?l2
    case hf => exact HF.out.trans_same (((Fr.refl [] w1).alloc _).alloc _).drew
    case l1 => have := HF.out.size; omega
    case l2 => have := HF.out.size; omega
end Go.Proofs.YtkbffmmomoeaiaaDoor
