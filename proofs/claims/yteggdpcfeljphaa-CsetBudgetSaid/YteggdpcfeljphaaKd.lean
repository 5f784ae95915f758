/- Package cset: within, Choose, Next. -/
import Derived.Test.YteggdpcfeljphaaKc
namespace Go.Proofs.Yteggdpcfeljphaa
set_option linter.unusedVariables false
set_option maxRecDepth 100000
open Go.RowKit Go.Gl Go.Shelf Go.Sort

/-- What within answers: the keys that a budget is enough for, in their order. -/
def WithinP (w : World) (L : List (Int × Int)) (b : Int) (e : Ending) (w' : World) : Prop :=
  ∃ A n c f s, e = .returned (.slice A n c) ∧ Recs w' A n 2 (fun _ => .i64) f ∧ n ≤ L.length ∧ Srt (L.map keyC) s ∧ (candL n f).map keyC = takeB s b ∧ Fr [] w w' ∧ ∀ b2 o2, A = some ⟨b2, o2, none⟩ → w.heap.size ≤ b2
set_option maxHeartbeats 1600000 in
theorem within_any {w : World} {A : Option Addr} {n c : Nat} {f : Nat → Nat → Int} (h : Recs w A n 2 (fun _ => .i64) f) (hl : n ≤ 65536) (b : Int) (hb : -9223372036854775808 ≤ b ∧ b ≤ 9223372036854775807) (hf : ∀ i, i < n → f i 1 ≤ 9223372036854775807) :
    Calls Try.prog 14 #[.slice A n c, .int .i64 b] w (WithinP w (candL n f) b) := by
  have T1 := hide (clone_cand (c := c) h hl)
  have HLN : Hid ((candL n f).length = n ∧ n ≤ 65536) := ⟨candL_len _ _, hl⟩
  have HB := hide hb
  have HF : Hid (∀ x, x ∈ candL n f → x.2 ≤ 9223372036854775807) := by
    intro x hx
    obtain ⟨i, hi, rfl⟩ := List.mem_map.1 hx
    exact hf i (by simpa using hi)
  generalize candL n f = L at *
  clear h hb hf
  go_enter Try.func14, Try.ntmps14
  go_wp2_with fail
  refine T1.out.mono ?_
  rintro e w1 ⟨v, rfl, hr, hf1⟩
  have T2 := hide (sortC_rw hr (by have := HLN.out; omega))
  have HV : Hid (∀ g, v.ownBlock = some g → w.heap.size ≤ g) := fun g hg => by
    obtain ⟨_, _, _, _, _, h⟩ := hr.recs
    exact (h g hg).1
  have HF1 := hide hf1
  clear hr hf1 T1
  go_wp2_with fail
  refine T2.out.mono ?_
  rintro e w2 ⟨rfl, l, hp, hup, hll, hr, hf2⟩
  have HS : Hid (Srt (L.map keyC) (l.map keyC)) := ⟨hp.map keyC, hup⟩
  have HL2 : Hid (∀ x, x ∈ l → x.2 ≤ 9223372036854775807) := fun x hx => HF.out x (hp.mem_iff.1 hx)
  have HF2 : Hid (Fr [] w w2) := HF1.out.trans hf2 fun g hg => .inr (HV.out g (by simpa using hg))
  have HLL : Hid (l.length = n) := by rw [show l.length = L.length from hll]; exact HLN.out.1
  obtain ⟨B, cb, rfl, hcb, hrec, _⟩ := hr.recs
  have HC := hide hcb
  have HR := hide hrec
  have hn0 : (l.length : Int) ≤ 65536 := by have := HLN.out; have := HLL.out; omega
  clear hp hup hll hr hf2 T2 hcb hrec
  generalize hkk : l.map keyC = s at *
  have HK := hide hkk
  clear hkk
  have HSL : Hid (s.length = l.length) := by rw [← HK.out]; exact List.length_map _
  have HG : Hid (∀ i, i < l.length → s.getD i (0, 0) = keyC (l.getD i (0, 0))) := fun i hi => by rw [← HK.out]; simp [hi]
  have HTK : Hid (∀ k, k ≤ l.length → candL k (fun i j => if j = 0 then (l.getD i (0, 0)).1 else (l.getD i (0, 0)).2) = l.take k) := by
    intro k hk
    apply List.ext_getElem
    · simp [candL]; omega
    · intro i h1 h2
      have : i < l.length := by simp at h2; omega
      simp [candL, this]
  go_wp2_with fail
  go_loopw [16, 6] (fun (x : Value) (y : Value) wr => ∃ k : Nat, x = .int .i64 k ∧ k ≤ l.length ∧ y = .int .i64 (leftB s b k) ∧ TakenB s b k ∧ Fr [] w2 wr) (fun x _ _ => l.length - (intOf x).toNat)
  case atStart => exact ⟨0, rfl, Nat.zero_le _, rfl, fun j hj => absurd hj (by omega), Fr.refl _ _⟩
  case round =>
    obtain ⟨k, rfl, hk, rfl, ht, hf⟩ := hrel
    have HT := hide ht
    have HW := hide hf
    clear ht hf
    by_cases hlt : k < l.length
    · have hlt1 : (k : Int) < (l.length : Int) := by omega
      obtain ⟨bb, off, rfl, hbb, hc⟩ := HR.out (by omega)
      have c0 : wr.cell? ⟨bb, off + k * 2, none⟩ = some (.int .i64 (l.getD k (0, 0)).1) := (HW.out.cell (p := ⟨bb, off + k * 2, none⟩) hbb (by simp)).trans (by simpa using hc k hlt 0 (by omega))
      have c1 : wr.cell? ⟨bb, off + k * 2 + 1, none⟩ = some (.int .i64 (l.getD k (0, 0)).2) := (HW.out.cell (p := ⟨bb, off + k * 2 + 1, none⟩) hbb (by simp)).trans (by simpa [Nat.add_assoc] using hc k hlt 1 (by omega))
      have HX : Hid ((l.getD k (0, 0)).2 ≤ 9223372036854775807) := HL2.out _ (by simp [hlt])
      have HL0 : Hid (∀ c, c ∈ s → 0 ≤ c.1) := by
        intro c hc
        rw [← HK.out] at hc
        obtain ⟨x, _, rfl⟩ := List.mem_map.1 hc
        show 0 ≤ max x.2 0
        omega
      have h1 := leftB_le (s := s) (b := b) HL0.out k (by have := HSL.out; omega)
      have h2 : -9223372036854775808 ≤ leftB s b k := by
        rcases Nat.eq_zero_or_pos k with h0 | h0
        · subst h0; exact HB.out.1
        · have := leftB_nn HT.out (by omega); omega
      have h3 : leftB s b k ≤ 9223372036854775807 := by have := HB.out.2; omega
      have HG1 : Hid ((s.getD k (0, 0)).1 = max (l.getD k (0, 0)).2 0) := by rw [HG.out k hlt]; rfl
      have HN1 : Hid (leftB s b (k + 1) = leftB s b k - max (l.getD k (0, 0)).2 0) := by show _ - _ = _; rw [HG1.out]
      have TC := fun w' => hide (cost_any (l.getD k (0, 0)) w')
      have HNX := hide (rfl : leftB s b k = leftB s b k)
      clear hc h1
      generalize hcc : l.getD k (0, 0) = cc at *
      obtain ⟨x1, x2⟩ := cc
      simp only at c0 c1 HX HG1 HN1 TC
      generalize hxx : leftB s b k = X at *
      have HCC := hide hcc
      have HXX := hide hxx
      have h4 : 0 ≤ max x2 0 := by omega
      have h5 : max x2 0 ≤ 9223372036854775807 := by have := HX.out; omega
      generalize max x2 0 = cost at *
      clear hcc hxx HNX
      have hkc : k ≤ cb := by have := HC.out; omega
      rcases (show X < cost ∨ cost ≤ X by omega) with hv | hv
      · go_wp2_with (go_at_call 24; (with_reducible refine Calls.mono (TC _).out ?_); rintro e w3 ⟨rfl, hg3⟩; have HG3 := hide hg3; clear hg3)
        go_ret
        have hst := takenB_stop s b k (by have := HSL.out; omega) HT.out (by rw [HXX.out, HG1.out]; exact hv)
        refine ⟨_, k, cb, fun i j => if j = 0 then (l.getD i (0, 0)).1 else (l.getD i (0, 0)).2, s, rfl, Recs.fr (w := w2) (fun hn => ?_) (HW.out.trans_same (((Fr.refl _ _).alloc _).trans_same HG3.out.fr)), by have := HLL.out; have := HLN.out; omega, HS.out, ?_, HF2.out.trans_same (HW.out.trans_same (((Fr.refl _ _).alloc _).trans_same HG3.out.fr)), fun b2 o2 h => HV.out b2 (by injection h with h; rw [h]; rfl)⟩
        · obtain ⟨b2, o2, e1, e2, e3⟩ := HR.out (by omega)
          exact ⟨b2, o2, e1, e2, fun i hi => e3 i (by omega)⟩
        · rw [HTK.out k hk, hst, ← HK.out, List.map_take]
      · have hw1 : -9223372036854775808 ≤ X - cost := by omega
        have hw2 : X - cost ≤ 9223372036854775807 := by omega
        go_wp2_with (go_at_call 24; (with_reducible refine Calls.mono (TC _).out ?_); rintro e w3 ⟨rfl, hg3⟩; have d0 := ((Blk.new wr 33 #[.int .i64 x1, .int .i64 x2]).fr hg3.fr (by simp)).cell 0; have d1 := ((Blk.new wr 33 #[.int .i64 x1, .int .i64 x2]).fr hg3.fr (by simp)).cell 1; have HG3 := hide hg3; clear hg3)
        (with_reducible refine Calls.mono (TC _).out ?_)
        rintro e w4 ⟨rfl, hg4⟩
        have HG4 := hide hg4
        clear hg4
        go_wp2_with fail
        go_roundw
        case rel =>
          refine ⟨k + 1, by go_num, by omega, by rw [HN1.out], fun j hj => ?_, HW.out.trans_same (((Fr.refl _ _).alloc _).trans_same (HG3.out.trans HG4.out).fr)⟩
          rcases Nat.lt_or_ge j k with h | h
          · exact HT.out j h
          · obtain rfl : j = k := by omega
            rw [HXX.out, HG1.out]; exact hv
        case measure => simp [intOf]; omega
    · obtain rfl : k = l.length := by omega
      clear hlt hk
      go_wp2_with fail
      go_ret
      refine ⟨_, _, _, _, s, rfl, Recs.fr HR.out HW.out, by have := HLL.out; have := HLN.out; omega, HS.out, ?_, HF2.out.trans_same HW.out, fun b2 o2 h => HV.out b2 (by rw [h]; rfl)⟩
      rw [candL_of, HK.out, takenB_all (by rw [HSL.out]; exact HT.out)]
/-- What Choose answers: in memory of its own, a rising list of the chosen. -/
def ChooseP (w : World) (Y : List Int) (L : List (Int × Int)) (b : Int) (e : Ending) (w' : World) : Prop :=
  ∃ A r c G, e = .returned (.slice A r.length c) ∧ IsSet (Chosen Y L b) r ∧ Lr w' 3 A r.length c G (zv r) ∧ Fr [] w w' ∧ r.length ≤ Y.length + L.length ∧ ∀ g, g ∈ G → w.heap.size ≤ g
set_option maxHeartbeats 1600000 in
theorem choose_any {w : World} {A0 : Option Addr} {c0 : Nat} {Y : List Int} (hY : Sl w A0 Y.length (fun k => .int .i64 (Y.getD k 0))) (hYl : Y.length ≤ 65536) {A : Option Addr} {n c : Nat} {f : Nat → Nat → Int} (h : Recs w A n 2 (fun _ => .i64) f) (hl : n ≤ 65536) (b : Int)
    (hb : -9223372036854775808 ≤ b ∧ b ≤ 9223372036854775807) (hf : ∀ i, i < n → f i 1 ≤ 9223372036854775807) :
    Calls Try.prog 7 #[.slice A0 Y.length c0, .slice A n c, .int .i64 b] w (ChooseP w Y (candL n f) b) := by
  obtain ⟨i0, hi, hz0, hz1, hz2⟩ := info_parts Try.info_int
  have T1 := hide (clone_int (c := c0) hY hYl)
  have TW : Hid (∀ w', Fr [] w w' → Calls Try.prog 14 #[.slice A n c, .int .i64 b] w' (WithinP w' (candL n f) b)) := fun w' hf' => within_any (h.fr hf') hl b hb hf
  have HLN : Hid ((candL n f).length ≤ 65536) := by rw [candL_len]; exact hl
  have HYL := hide hYl
  generalize candL n f = L at *
  clear h hb hf hY hYl hl
  go_enter Try.func7, Try.ntmps7
  go_wp2_with fail
  refine T1.out.mono ?_
  rintro e w1 ⟨A1, c1, G1, rfl, hr, hf1, hg1⟩
  have HR1 := hide hr
  have HF1 := hide hf1
  have HG1 := hide hg1
  clear hr hf1 hg1 T1
  go_wp2_with fail
  refine (TW.out _ HF1.out).mono ?_
  rintro e w2 ⟨A2, n2, cc2, f2, s, rfl, hrec, hn2, hs, htk, hf2, ha2⟩
  have HA2 := hide ha2
  have HRC := hide hrec
  have HN2 : Hid (n2 ≤ 65536) := Nat.le_trans hn2 HLN.out
  have HN3 := hide hn2
  have HS := hide hs
  have HTK := hide htk
  have HF2 : Hid (Fr [] w w2) := HF1.out.trans_same hf2
  have HR2 : Hid (Lr w2 3 A1 Y.length c1 G1 (zv Y)) := HR1.out.fr0 hf2
  have HS2 : Hid (∀ g, g ∈ G1 → w.heap.size ≤ g ∧ (∀ b2 o2, A2 = some ⟨b2, o2, none⟩ → g ≠ b2)) := fun g hg => ⟨HG1.out g hg, fun b2 o2 h e => by have := HR1.out.lt g hg; have := HA2.out b2 o2 h; omega⟩
  clear hrec hn2 hs htk hf2 ha2 TW HR1 HF1 HG1
  go_wp2_with fail
  go_loopw [16, 7] (fun (x : Value) (y : Value) wr => ∃ (k : Nat) (A3 : Option Addr) (c3 : Nat) (G3 : List Nat), x = .int .i64 k ∧ k ≤ n2 ∧ y = .slice A3 (Y.length + k) c3 ∧ Lr wr 3 A3 (Y.length + k) c3 G3 (zv (Y ++ (List.range k).map fun i => f2 i 0)) ∧ Fr [] w wr ∧ Recs wr A2 n2 2 (fun _ => .i64) f2 ∧ ∀ g, g ∈ G3 → w.heap.size ≤ g ∧ (∀ b2 o2, A2 = some ⟨b2, o2, none⟩ → g ≠ b2)) (fun x _ _ => n2 - (intOf x).toNat)
  case atStart => exact ⟨0, A1, c1, G1, rfl, Nat.zero_le _, rfl, by simpa using HR2.out, HF2.out, HRC.out, HS2.out⟩
  case round =>
    obtain ⟨k, A3, c3, G3, rfl, hk, rfl, hr, hf, hrec, hg⟩ := hrel
    have HR := hide hr
    have HF := hide hf
    have HREC := hide hrec
    have HG := hide hg
    clear hr hf hrec hg HR2 HF2 HRC HS2
    have hn2 : n2 ≤ 65536 := HN2.out
    have HYK := hide (show Y.length + k ≤ 131072 by have := HYL.out; have := HN2.out; omega)
    by_cases hlt : k < n2
    · have hlt1 : (k : Int) < (n2 : Int) := by omega
      obtain ⟨bb, off, rfl, hbb, hc⟩ := HREC.out (by omega)
      have c0 : wr.cell? ⟨bb, off + k * 2, none⟩ = some (.int .i64 (f2 k 0)) := by simpa using hc k hlt 0 (by omega)
      have c1 : wr.cell? ⟨bb, off + k * 2 + 1, none⟩ = some (.int .i64 (f2 k 1)) := by simpa [Nat.add_assoc] using hc k hlt 1 (by omega)
      have HM : Hid ((List.range (k + 1)).map (fun i => f2 i 0) = (List.range k).map (fun i => f2 i 0) ++ [f2 k 0]) := by show _ = _; rw [List.range_succ, List.map_append]; rfl
      clear hc
      generalize hx : f2 k 0 = x at *
      generalize f2 k 1 = y at *
      clear hx
      have HL3 : Hid (∀ w', Fr [] wr w' → Lr w' 3 A3 (Y.length + k) c3 G3 (zv (Y ++ (List.range k).map fun i => f2 i 0))) := fun w' hf => HR.out.fr0 hf
      have HB1 : Hid (Y.length + k + 1 ≤ maxLen ∧ (Y.length + k + 1) * 8 ≤ 140737488355328) := by have := HYK.out; unfold maxLen; exact ⟨by omega, by omega⟩
      generalize hyk : Y.length + k = yk at *
      have HYKE := hide hyk
      clear hyk
      go_wp2_with (first | (at_builtin; go_loud (refine wpList_append_lr rfl _ _ 22 rfl 3 i0 (.int .i64 0) 8 Try.underlying22 hi hz0 hz1 hz2 rfl rfl (HL3.out _ (((Fr.refl _ _).alloc _).alloc _)) rfl (news := [.int .i64 x]) rfl (fun _ => one_of (wr.alloc (.cells #[.int .i64 x, .int .i64 y] 33)) (.int .i64 x) 3 (by simp) _ (Fr.refl _ _)) (by intro u hu; simp at hu; subst hu; rfl) HB1.out.1 HB1.out.2 ?_; intro A' c' G' w' HLn HFn HGn)))
      go_roundw
      case rel =>
        refine ⟨k + 1, A', c', G', by go_num, by omega, ?_, ?_, ((HF.out.alloc _).alloc _).trans HFn.out (fun g hg => .inr (HG.out g hg).1), fun hn => ⟨bb, off, rfl, ?_, fun i hi j hj => ?_⟩, fun g hg => ?_⟩
        · rw [show Y.length + (k + 1) = yk + 1 by have := HYKE.out; omega]
        · rw [show Y.length + (k + 1) = yk + 1 by have := HYKE.out; omega, HM.out, ← List.append_assoc, zv_app]
          exact HLn.out
        · have := HFn.out.size; simp at this; omega
        · obtain ⟨b2, o2, e1, e2, e3⟩ := HREC.out hn
          injection e1 with e1
          injection e1 with e1 e1'
          subst e1 e1'
          exact ((((Fr.refl G3 wr).alloc _).alloc _).trans (G := G3) HFn.out (fun g hg => .inl hg) |>.cell (p := ⟨bb, off + (i * 2 + j), none⟩) e2 (fun h => (HG.out bb h).2 bb off rfl rfl)).trans (e3 i hi j hj)
        · have hsz := HF.out.size
          rcases HGn.out g hg with h | ⟨h, _⟩
          · exact HG.out g h
          · simp at h
            refine ⟨by omega, fun b2 o2 e1 e2 => ?_⟩
            injection e1 with e1
            injection e1 with e1 _
            omega
      case measure => simp [intOf]; omega
    · obtain rfl : k = n2 := by omega
      clear hlt hk
      have T3 := hide (sort_lr HR.out (by have := HYK.out; omega))
      have HNL : Hid ((Y ++ (List.range k).map fun i => f2 i 0).length = Y.length + k) := by
        show _ = _
        simp
      go_wp2_with fail
      refine T3.out.mono ?_
      rintro e w3 ⟨rfl, l', hp, hs, hr, hf⟩
      have T4 := hide (compact_lr hr hs)
      have HP := hide hp
      have HF3 : Hid (Fr [] w w3) := HF.out.trans hf (fun g hg => .inr (HG.out g hg).1)
      clear hp hs hr hf T3
      go_wp2_with fail
      refine T4.out.mono ?_
      rintro e w4 ⟨r, rfl, hset, hr, hf, hrl⟩
      have HSET := hide hset
      have HR4 := hide hr
      have HF4 : Hid (Fr [] w w4) := HF3.out.trans hf (fun g hg => .inr (HG.out g hg).1)
      have HRL := hide hrl
      clear hset hr hf hrl T4
      go_wp2_with fail
      go_ret
      refine ⟨A3, r, c3, G3, rfl, HSET.out.congr fun x => ?_, HR4.out, HF4.out, by have := HRL.out; have := HN3.out; omega, fun g hg => (HG.out g hg).1⟩
      rw [HP.out.mem_iff, chosen_iff HS.out, ← HTK.out]
      simp [candL, keyC]
end Go.Proofs.Yteggdpcfeljphaa
