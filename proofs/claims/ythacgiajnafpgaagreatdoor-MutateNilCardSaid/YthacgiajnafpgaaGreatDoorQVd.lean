/- Package heap: end, bigRow, Row. -/
import Derived.Test.YthacgiajnafpgaaGreatDoorQVa
import Derived.Deep.RegionHeld3
namespace Go.Proofs.YthacgiajnafpgaaGreatDoor
set_option linter.unusedVariables false
set_option linter.unusedSimpArgs false
set_option maxRecDepth 100000
open Go.RowKit Go.Gl

theorem minL_snoc {l : List Int} (h : l ≠ []) (a : Int) : HS.minL (l ++ [a]) = min (HS.minL l) a := by
  cases l with
  | nil => exact absurd rfl h
  | cons x l => simp [HS.minL, List.foldl_append]
theorem take_getD {l : List Int} {k : Nat} (h : k < l.length) : l.take (k + 1) = l.take k ++ [l.getD k 0] := by
  rw [List.take_add_one]
  congr 1
  simp [h]
set_option maxHeartbeats 1600000 in
theorem smin_any {w : World} {A : Option Addr} {c : Nat} {l : List Int} (h : Sl w A l.length (fun k => .int .i64 (l.getD k 0))) (h0 : 0 < l.length) (hl : l.length ≤ 4611686018427387904) :
    Calls Tryz.prog 198 #[.slice A l.length c] w fun e w' => e = .returned (.int .i64 (HS.minL l)) ∧ w = w' := by
  obtain ⟨b, off, rfl, hb, hc⟩ := h h0
  have HC := hide hc
  have cq := hc 0 h0
  rw [Nat.add_zero] at cq
  have HN1 : Hid (∀ k, k < l.length → l.take (k + 1) = l.take k ++ [l.getD k 0]) := fun k hk => take_getD hk
  have HM1 : Hid (l.getD 0 0 = HS.minL (l.take 1)) := by
    show _ = _
    rw [show (1 : Nat) = 0 + 1 from rfl, HN1.out 0 h0]
    simp [HS.minL]
  have HMN : Hid (HS.minL (l.take l.length) = HS.minL l) := by show _ = _; rw [List.take_length]
  have HNE : Hid (∀ k, 1 ≤ k → k ≤ l.length → l.take k ≠ []) := fun k h1 h2 e => by
    have : (l.take k).length = 0 := by rw [e]; rfl
    rw [List.length_take] at this
    omega
  obtain ⟨n, hn⟩ : ∃ n, n = l.length := ⟨_, rfl⟩
  rw [← hn] at h0 hl hc HN1 HMN HNE HC ⊢
  obtain ⟨x0, hx0⟩ : ∃ x0, x0 = l.getD 0 0 := ⟨_, rfl⟩
  rw [← hx0] at HM1
  have c0 : w.cell? ⟨b, off, none⟩ = some (.int .i64 x0) := by rw [hx0]; exact cq
  have hg : ¬ (n : Int) < 1 := by omega
  have hg2 : (0 : Int) < (n : Int) := by omega
  clear h hc hn hx0 cq
  go_enter Tryz.func198, Tryz.ntmps198
  go_wp2_with fail
  go_loopw [3, 4] (fun m i wr => ∃ k : Nat, i = .int .i64 k ∧ m = .int .i64 (HS.minL (l.take k)) ∧ 1 ≤ k ∧ k ≤ n ∧ w = wr) (fun _ i _ => n - (intOf i).toNat)
  case atStart => exact ⟨1, rfl, by rw [HM1.out], Nat.le_refl _, by omega, rfl⟩
  case round =>
    obtain ⟨k, rfl, rfl, hk1, hk, rfl⟩ := hrel
    by_cases hlt : k < n
    · have hlt1 : (k : Int) < (n : Int) := by omega
      have ck := HC.out k hlt
      have HS1 : Hid (HS.minL (l.take (k + 1)) = min (HS.minL (l.take k)) (l.getD k 0)) := by
        show _ = _
        rw [HN1.out k hlt, minL_snoc (HNE.out k hk1 hk)]
      obtain ⟨x, hx⟩ : ∃ x, x = l.getD k 0 := ⟨_, rfl⟩
      rw [← hx] at ck HS1
      obtain ⟨m, hm⟩ : ∃ m, m = HS.minL (l.take k) := ⟨_, rfl⟩
      rw [← hm] at HS1 ⊢
      clear hx hm
      by_cases hle : x < m
      · have HE : Hid (x = HS.minL (l.take (k + 1))) := by show _ = _; rw [HS1.out]; omega
        go_wp2_with fail
        go_roundw
        case rel => exact ⟨k + 1, by go_num, by rw [← HE.out], by omega, by omega, trivial⟩
        case measure => simp [intOf]; omega
      · have HE : Hid (m = HS.minL (l.take (k + 1))) := by show _ = _; rw [HS1.out]; omega
        go_wp2_with fail
        go_roundw
        case rel => exact ⟨k + 1, by go_num, by rw [← HE.out], by omega, by omega, trivial⟩
        case measure => simp [intOf]; omega
    · obtain rfl : k = n := by omega
      go_wp2_with fail
      go_ret
      exact ⟨by rw [HMN.out]; rfl, rfl⟩
section
variable {w : World} {L : HL} {h : HS} {s k : Nat}
theorem leftL_len (h : HS) (r : Int) : ∀ k, (h.leftL r k).length ≤ k
  | 0 => by simp [HS.leftL]
  | k + 1 => by
    have := leftL_len h r k
    unfold HS.leftL
    split <;> simp <;> omega
theorem leftL_in {h : HS} {r : Int} {k : Nat} (e : h.bx k < h.be k ∧ h.g.regionOf (h.bx k) = r) : h.leftL r (k + 1) = h.leftL r k ++ [h.bx k] := by
  show h.leftL r k ++ _ = _
  rw [if_pos e]
theorem leftL_out {h : HS} {r : Int} {k : Nat} (e : ¬ (h.bx k < h.be k ∧ h.g.regionOf (h.bx k) = r)) : h.leftL r (k + 1) = h.leftL r k := by
  show h.leftL r k ++ _ = _
  rw [if_neg e, List.append_nil]
theorem Hr.bufs (H : Hr w L h s k) {i : Nat} (hi : i < h.T) : w.cell? ⟨L.bb, i * 2, none⟩ = some (.int .i64 (h.bx i)) ∧ w.cell? ⟨L.bb, i * 2 + 1, none⟩ = some (.int .i64 (h.be i)) := by
  have h1 := rows2_at (fun i => Value.int .i64 (h.bx i)) (fun i => Value.int .i64 (h.be i)) hi
  have h2 := H.buf.cell (i * 2)
  have h3 := H.buf.cell (i * 2 + 1)
  unfold bufV at h2 h3
  rw [List.getElem?_toArray] at h2 h3
  exact ⟨h2.trans h1.1, h3.trans h1.2⟩
theorem Hr.region (H : Hr w L h s k) (a : Int) {w' : World} (hf : Fr [] w w') : Calls Tryz.prog 37 #[.agg #[.int .i64 h.g.words, .int .i64 h.g.rw, .int .i64 h.g.cw, .int .i64 h.g.regions, .int .i64 h.g.cards, .int .i64 h.g.max], .int .i64 a] w' fun e w'' => e = .returned (.int .i64 (h.g.regionOf a)) ∧ Fr [] w' w'' :=
  region_any h.g H.ok.geo a w' (H.fr0 hf).tab
theorem Hr.base (H : Hr w L h s k) (a : Int) {w' : World} (hf : Fr [] w w') : Calls Tryz.prog 121 #[.agg #[.int .i64 h.g.words, .int .i64 h.g.rw, .int .i64 h.g.cw, .int .i64 h.g.regions, .int .i64 h.g.cards, .int .i64 h.g.max], .int .i64 a] w' fun e w'' => e = .returned (.tuple #[.int .i64 (if 0 ≤ a ∧ a < (h.R : Int) then a * (h.W : Int) else 0), .int .i64 (if 0 ≤ a ∧ a < (h.R : Int) then 0 else 2)]) ∧ Fr [] w' w'' := by
  have := base_any h.g H.ok.geo a w' (H.fr0 hf).tab
  rw [H.ok.rg, H.ok.rw] at this
  exact this
set_option maxHeartbeats 3200000 in
theorem hend_any (H : Hr w L h s k) {r : Nat} (hr : r < h.R) : Calls Tryz.prog 127 #[.pointer (some ⟨L.hb, 0, none⟩), .int .i64 (r : Int)] w fun e w' => e = .returned (.int .i64 (h.endOf r)) ∧ Fr [] w w' := by
  obtain ⟨i0, hi, hz0, hz1, hz2⟩ := info_parts Tryz.info_int
  have cB := H.cB
  have HBC : Hid (∀ w' i, Fr [] w w' → i < h.T → w'.cell? ⟨L.bb, i * 2, none⟩ = some (.int .i64 (h.bx i)) ∧ w'.cell? ⟨L.bb, i * 2 + 1, none⟩ = some (.int .i64 (h.be i)) ∧ L.bb < w'.heap.size) := fun w' i hf hi => ⟨((H.fr0 hf).bufs hi).1, ((H.fr0 hf).bufs hi).2, (H.fr0 hf).buf.lt⟩
  have HGC : Hid (∀ w', Fr [] w w' → w'.cell? ⟨L.hb, 14, none⟩ = some (.int .i64 h.g.words) ∧ w'.cell? ⟨L.hb, 15, none⟩ = some (.int .i64 h.g.rw) ∧ w'.cell? ⟨L.hb, 16, none⟩ = some (.int .i64 h.g.cw) ∧ w'.cell? ⟨L.hb, 17, none⟩ = some (.int .i64 h.g.regions) ∧ w'.cell? ⟨L.hb, 18, none⟩ = some (.int .i64 h.g.cards) ∧ w'.cell? ⟨L.hb, 19, none⟩ = some (.int .i64 h.g.max)) := fun w' hf => (H.fr0 hf).geo
  have HTC : Hid (∀ w', Fr [] w w' → w'.cell? ⟨L.hb, 21, none⟩ = some (.pointer (some ⟨L.tb, 0, none⟩)) ∧ L.hb < w'.heap.size) := fun w' hf => ⟨(H.fr0 hf).cT, (H.fr0 hf).st.lt⟩
  have HRG : Hid (∀ w' a, Fr [] w w' → Calls Tryz.prog 37 #[.agg #[.int .i64 h.g.words, .int .i64 h.g.rw, .int .i64 h.g.cw, .int .i64 h.g.regions, .int .i64 h.g.cards, .int .i64 h.g.max], .int .i64 a] w' fun e w'' => e = .returned (.int .i64 (h.g.regionOf a)) ∧ Fr [] w' w'') := fun w' a hf => H.region a hf
  have HTP : Hid (∀ w', Fr [] w w' → Calls Tryz.prog 197 #[.pointer (some ⟨L.tb, 0, none⟩), .int .i64 (r : Int)] w' fun e w'' => e = .returned (.int .i64 (h.t r)) ∧ w' = w'') := fun w' hf => top_at (H.fr0 hf).rg hr
  have HBO := hide H.ok.bok
  have HTM := H.ok.tm
  have HEnd : Hid (h.endOf r = if h.leftL (r : Int) h.T = [] then h.t r else HS.minL (h.leftL (r : Int) h.T)) := rfl
  have HLn := hide (leftL_len h (r : Int))
  clear H
  go_enter Tryz.func127, Tryz.ntmps127
  go_wp2_with fail
  go_loopw [5, 15] (fun p i wr => ∃ (j : Nat) (A : Option Addr) (c : Nat) (G : List Nat), i = .int .i64 j ∧ p = .slice A (h.leftL (r : Int) j).length c ∧ j ≤ h.T ∧ Lr wr 3 A (h.leftL (r : Int) j).length c G (zv (h.leftL (r : Int) j)) ∧ (∀ g, g ∈ G → w.heap.size ≤ g) ∧ Fr [] w wr) (fun _ i _ => h.T - (intOf i).toNat)
  case atStart => exact ⟨0, none, 0, [], rfl, rfl, Nat.zero_le _, Lr.nil _ _, (fun g hg => by cases hg), Fr.refl _ _⟩
  case round =>
    obtain ⟨j, A, c, G, rfl, rfl, hj, hl, hg, hf⟩ := hrel
    have HL := hide hl
    have HG := hide hg
    have HF := hide hf
    by_cases hlt : j < h.T
    · have hlt1 : (j : Int) < (h.T : Int) := by omega
      obtain ⟨b0, b1, NB⟩ := HBC.out wr j hf hlt
      obtain ⟨g0, g1, g2, g3, g4, g5⟩ := HGC.out wr hf
      obtain ⟨t0, NH⟩ := HTC.out wr hf
      have hbo := HBO.out j hlt
      have hlen := HLn.out j
      have HOut := hide (leftL_out (h := h) (r := (r : Int)) (k := j))
      have HIn := hide (leftL_in (h := h) (r := (r : Int)) (k := j))
      obtain ⟨ln, hln⟩ : ∃ ln, ln = (h.leftL (r : Int) j).length := ⟨_, rfl⟩
      rw [← hln] at HL hlen ⊢
      have HLN := hide hln
      have HF1 : Hid (Fr [] w (wr.alloc (.cells #[.int .i64 (h.bx j), .int .i64 (h.be j)] 295))) := hf.alloc _
      have HBR := hide (brest_any (Bu.made wr 295 hbo.1 hbo.2.1 hbo.2.2))
      have HLT := hide hlt
      clear hl hg hf hln
      generalize h.bx j = x at *
      generalize h.be j = y at *
      by_cases hxy : x < y
      · by_cases hreg : h.g.regionOf x = (r : Int)
        · have HI := HIn.out ⟨hxy, hreg⟩
          have HLI : Hid (ln + 1 = (h.leftL (r : Int) (j + 1)).length) := by
            show _ = _
            rw [HI, List.length_append, ← HLN.out]
            rfl
          have HZ : Hid (zv (h.leftL (r : Int) j) ++ [.int .i64 x] = zv (h.leftL (r : Int) (j + 1))) := by
            show _ = _
            rw [HI, zv_app]
            rfl
          have HRX := hide (HRG.out (wr.alloc (.cells #[.int .i64 x, .int .i64 y] 295)) x HF1.out)
          rw [hreg] at HRX
          have HRD := hide (fun q => HRG.out ((wr.alloc (.cells #[.int .i64 x, .int .i64 y] 295)).drewN q) x (HF1.out.drewN q))
          rw [hreg] at HRD
          have HB : Hid (ln + 1 ≤ maxLen ∧ (ln + 1) * 8 ≤ 140737488355328) := ⟨by unfold maxLen; omega, by omega⟩
          clear hreg HI HIn HOut
          go_wp2_with fail
          refine HBR.out.mono ?_
          rintro e w1 ⟨rfl, q, rfl⟩
          go_wp2_with fail
          refine (HRD.out q).mono ?_
          rintro e w2 ⟨rfl, hf2⟩
          have HF2 : Hid (Fr [] wr w2) := (((Fr.refl [] wr).alloc _).drewN q).trans_same hf2
          have HL2 : Hid (Lr (w2.alloc (.cells #[.int .i64 x] 3)) 3 A ln c G (zv (h.leftL (r : Int) j))) := (HL.out.fr0 HF2.out).alloc _
          clear hf2
          go_wp2_with (first | (at_builtin; refine wpList_append_lr rfl _ _ 25 rfl 3 i0 (.int .i64 0) 8 Tryz.underlying25 hi hz0 hz1 hz2 rfl rfl HL2.out rfl (by rfl) (fun _ => one_of w2 (.int .i64 x) 3 rfl _ (Fr.refl _ _)) (by intro u hu; simp at hu; subst hu; rfl) HB.out.1 HB.out.2 ?_; intro A' c' G' w4 HLn HFn HGn))
          have HF4 : Hid (Fr [] w w4) := ((HF.out.trans_same HF2.out).alloc _).trans HFn.out (fun g hg => .inr (HG.out g hg))
          have HG4 : Hid (∀ g, g ∈ G' → w.heap.size ≤ g) := fun g hg => by
            rcases HGn.out g hg with h1 | ⟨h1, _⟩
            · exact HG.out g h1
            · have := HF.out.size; have := HF2.out.size; simp at h1; omega
          have HL4 : Hid (Lr w4 3 A' (h.leftL (r : Int) (j + 1)).length c' G' (zv (h.leftL (r : Int) (j + 1)))) := by
            have := HLn.out
            rw [HZ.out, HLI.out] at this
            exact this
          go_roundw
          case rel => exact ⟨j + 1, A', c', G', by go_num, by rw [HLI.out], by omega, HL4.out, HG4.out, HF4.out⟩
          case measure => simp [intOf]; omega
        · have hreg' : (h.g.regionOf x == (r : Int)) = false := by simpa using hreg
          have HO := HOut.out (fun e => hreg e.2)
          have HZ : Hid (h.leftL (r : Int) j = h.leftL (r : Int) (j + 1)) := HO.symm
          have HRD := hide (fun q => HRG.out ((wr.alloc (.cells #[.int .i64 x, .int .i64 y] 295)).drewN q) x (HF1.out.drewN q))
          generalize h.g.regionOf x = z at *
          clear HO HIn HOut hreg
          go_wp2_with fail
          refine HBR.out.mono ?_
          rintro e w1 ⟨rfl, q, rfl⟩
          go_wp2_with fail
          refine (HRD.out q).mono ?_
          rintro e w2 ⟨rfl, hf2⟩
          have HF2 : Hid (Fr [] wr w2) := (((Fr.refl [] wr).alloc _).drewN q).trans_same hf2
          clear hf2
          go_wp2_with fail
          go_roundw
          case rel => exact ⟨j + 1, A, c, G, by go_num, by rw [HLN.out, HZ.out], by omega, by rw [← HZ.out, ← HLN.out]; exact HL.out.fr0 HF2.out, HG.out, HF.out.trans_same HF2.out⟩
          case measure => simp [intOf]; omega
      · have HO := HOut.out (fun e => hxy e.1)
        have HZ : Hid (h.leftL (r : Int) j = h.leftL (r : Int) (j + 1)) := HO.symm
        clear HO HIn HOut
        go_wp2_with fail
        refine HBR.out.mono ?_
        rintro e w1 ⟨rfl, q, rfl⟩
        have HF2 : Hid (Fr [] wr ((wr.alloc (.cells #[.int .i64 x, .int .i64 y] 295)).drewN q)) := ((Fr.refl [] wr).alloc _).drewN q
        go_wp2_with fail
        go_roundw
        case rel => exact ⟨j + 1, A, c, G, by go_num, by rw [HLN.out, HZ.out], by omega, by rw [← HZ.out, ← HLN.out]; exact HL.out.fr0 HF2.out, HG.out, HF.out.trans_same HF2.out⟩
        case measure => simp [intOf]; omega
    · obtain rfl : j = h.T := by omega
      obtain ⟨t0, NH⟩ := HTC.out wr hf
      have HTX := hide (HTP.out wr hf)
      clear hl hg hf
      by_cases h0 : (h.leftL (r : Int) h.T).length = 0
      · have HE : Hid (h.endOf r = h.t r) := by
          show _ = _
          rw [HEnd.out, if_pos (List.eq_nil_of_length_eq_zero h0)]
        obtain ⟨ln, hln⟩ : ∃ ln, ln = (h.leftL (r : Int) h.T).length := ⟨_, rfl⟩
        rw [← hln] at h0 ⊢
        subst h0
        generalize h.t r = z at *
        clear hln
        go_wp2_with fail
        refine HTX.out.mono ?_
        rintro e w1 ⟨rfl, rfl⟩
        go_wp2_with fail
        go_ret
        exact ⟨ret_int HE.out.symm, HF.out⟩
      · have HE : Hid (h.endOf r = HS.minL (h.leftL (r : Int) h.T)) := by
          show _ = _
          rw [HEnd.out, if_neg (fun e => h0 (by rw [e]; rfl))]
        have HMn := hide (smin_any (c := c) (HL.out.slz) (by omega) (by have := HLn.out h.T; omega))
        obtain ⟨ln, hln⟩ : ∃ ln, ln = (h.leftL (r : Int) h.T).length := ⟨_, rfl⟩
        rw [← hln] at h0 HMn ⊢
        have h0' : ((ln : Int) == 0) = false := by simpa using h0
        generalize HS.minL (h.leftL (r : Int) h.T) = z at *
        clear hln
        go_wp2_with fail
        refine HMn.out.mono ?_
        rintro e w1 ⟨rfl, rfl⟩
        go_wp2_with fail
        go_ret
        exact ⟨ret_int HE.out.symm, HF.out⟩
/-- What a call that looks and lists answers. -/
def HrL (w : World) (L : HL) (h : HS) (s k : Nat) (l : List Int) (er : Int) (e : Ending) (w' : World) : Prop :=
  ∃ A cap, e = .returned (.tuple #[.slice A l.length cap, .int .i64 er]) ∧ Own w.heap.size w' A l ∧ Hr w' L h s k ∧ Fr [L.ab] w w'
theorem hstate_any (H : Hr w L h s k) (a : Int) : Calls Tryz.prog 59 #[.pointer (some ⟨L.tb, 0, none⟩), .int .i64 a] w fun e w' => e = .returned (.int .i64 (h.stateOf a)) ∧ w = w' := by
  unfold HS.stateOf
  by_cases ha : 0 ≤ a ∧ a < (h.R : Int)
  · rw [if_pos ha]
    obtain ⟨i, rfl⟩ := Int.eq_ofNat_of_zero_le ha.1
    exact state_at H.rg (by omega)
  · rw [if_neg ha]
    exact state_out H.rg ha
end
end Go.Proofs.YthacgiajnafpgaaGreatDoor
