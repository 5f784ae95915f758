/- Package remset: Cards. -/
import Derived.Test.YtkbffmmomoeaiaaDoorSl
namespace Go.Proofs.YtkbffmmomoeaiaaDoor
set_option linter.unusedVariables false
set_option linter.unusedSimpArgs false
open Go.RowKit Go.Gl

theorem part_cast {a b i : Nat} (h : a = b) : ((a + i : Nat) : Int) = ((b + i : Nat) : Int) := by rw [h]
theorem part_add (N per s a : Nat) (p : Nat → Bool) (ha : s * per = a) : ∀ b, part N 0 p (a + b) = part N 0 p a ++ part per s (fun i => p (a + i)) b
  | 0 => by rw [part_zero]; simp
  | b + 1 => by
    rw [← Nat.add_assoc]
    cases h : p (a + b) with
    | true => rw [part_yes h, part_add N per s a p ha b, part_yes (p := fun i => p (a + i)) h, ← List.append_assoc, ha, Nat.zero_mul, Nat.zero_add]
    | false => rw [part_no h, part_add N per s a p ha b, part_no (p := fun i => p (a + i)) h]
/-- All sources that the home h has. -/
def srcs (σ : RS) (n h : Nat) : List Nat := (List.range n).filter fun s => decide (σ.way h s ≠ 0)
/-- All cards that the home h has. -/
def allOf (σ : RS) (per n h : Nat) : List Int := part (n * per) 0 (hasN σ per h) (n * per)
theorem srcs_mem {σ : RS} {n h s : Nat} : s ∈ srcs σ n h ↔ s < n ∧ σ.way h s ≠ 0 := by simp [srcs]
theorem srcs_len (σ : RS) (n h : Nat) : (srcs σ n h).length ≤ n := by
  unfold srcs
  exact Nat.le_trans (List.length_filter_le _ _) (by simp)
theorem hasN_none {σ : RS} {per n h : Nat} (ok : SOk per n σ) {c : Nat} (hw : σ.way h (c / per) = 0) : hasN σ per h c = false := by
  unfold hasN
  rw [hw]
  cases hh : σ.has h c with
  | false => rfl
  | true => have := (ok.can h c hh).2; omega
theorem flat_all {σ : RS} {per n h : Nat} (ok : SOk per n σ) : ∀ m, ((List.range m).filter fun s => decide (σ.way h s ≠ 0)).flatMap (cardsOf σ per h) = part (n * per) 0 (hasN σ per h) (m * per)
  | 0 => by simp [part_zero]
  | m + 1 => by
    rw [List.range_succ, List.filter_append, List.flatMap_append, flat_all ok m, Nat.succ_mul]
    by_cases hw : σ.way h m = 0
    · rw [show List.filter (fun s => decide (σ.way h s ≠ 0)) [m] = [] by simp [hw], part_to (p := hasN σ per h) (k := m * per) (m := m * per + per) (by omega) fun j h1 h2 => ?_]
      · simp
      · refine hasN_none ok ?_
        have : j / per = m := by
          rw [Nat.div_eq_iff (by have := ok.dim.p1; omega)]
          have : (m + 1) * per = m * per + per := Nat.succ_mul _ _
          omega
        rw [this, hw]
    · rw [show List.filter (fun s => decide (σ.way h s ≠ 0)) [m] = [m] by simp [hw], part_add (n * per) per m (m * per) _ rfl per]
      simp [cardsOf]
theorem flat_srcs {σ : RS} {per n h : Nat} (ok : SOk per n σ) : (srcs σ n h).flatMap (cardsOf σ per h) = allOf σ per n h := flat_all ok n
theorem flat_len (σ : RS) (per h : Nat) : ∀ l : List Nat, (l.flatMap (cardsOf σ per h)).length ≤ l.length * per
  | [] => by simp
  | a :: l => by
    rw [List.flatMap_cons, List.length_append, List.length_cons, Nat.succ_mul]
    have h1 := flat_len σ per h l
    have h2 : (cardsOf σ per h a).length ≤ per := part_len _ _ _ _
    omega
theorem srcs_up (σ : RS) (n h : Nat) : (ints (srcs σ n h)).Pairwise (· < ·) := by
  unfold ints srcs
  refine List.pairwise_map.2 ((List.Pairwise.filter _ List.pairwise_lt_range).imp fun {a b} h => by omega)
section
variable {w : World} {tg : Tg} {sb kb sB hB fB per n : Nat} {σ : RS} {fk : Value → Option Value} {Vs Vh Vf : Nat → Value}
theorem sorted_src {h : Nat} {V : Value} (hn : n ≤ 1048576) (hi : IxAt w tg 6 n h (fun s => σ.way h s ≠ 0) V) : ∃ mb, V = .map mb ∧
    ∀ (w' : World), Fr [] w w' → ∀ kb, w'.heap.size = kb → Calls Tryd.prog 27 #[.func (.func 43) #[] #[.pointer (some ⟨kb, 0, none⟩)]] (w'.alloc (.cells #[.map mb] 72)) fun e w'' => ∃ (A : Option Addr) (c : Nat) (G : List Nat),
      e = .returned (.slice A (srcs σ n h).length c) ∧ Lr w'' 3 A (srcs σ n h).length c G (zv (ints (srcs σ n h))) ∧ Fr [] (w'.alloc (.cells #[.map mb] 72)) w'' := by
  have fin : ∀ (p : Int → Prop) (w1 : World), (∀ x, p x ↔ x ∈ ints (srcs σ n h)) → ∀ e w'', KeysPost w1 p e w'' → ∃ (A : Option Addr) (c : Nat) (G : List Nat),
      e = .returned (.slice A (srcs σ n h).length c) ∧ Lr w'' 3 A (srcs σ n h).length c G (zv (ints (srcs σ n h))) ∧ Fr [] w1 w'' := by
    rintro p w1 hp e w'' ⟨A, c, G, ks, rfl, hl, hu, hm, hf, _⟩
    obtain rfl : ks = ints (srcs σ n h) := up_ext hu (srcs_up _ _ _) fun x => (hm x).trans (hp x)
    rw [ints_len] at hl ⊢
    exact ⟨A, c, G, rfl, hl, hf⟩
  have hmem : ∀ x : Int, x ∈ ints (srcs σ n h) ↔ ∃ s : Nat, x = s ∧ s < n ∧ σ.way h s ≠ 0 := fun x => by
    unfold ints
    rw [List.mem_map]
    constructor
    · rintro ⟨s, hs, rfl⟩
      exact ⟨s, rfl, srcs_mem.1 hs⟩
    · rintro ⟨s, rfl, hs⟩
      exact ⟨s, srcs_mem.2 hs, rfl⟩
  rcases hi with ⟨rfl, hno⟩ | ⟨b, f, rfl, hmp, _, hk, hp⟩
  · refine ⟨none, rfl, fun w' hf kb hkb => (sortedI_nil hkb rfl).mono (fin _ _ fun x => ?_)⟩
    rw [hmem]
    constructor
    · intro h; cases h
    · rintro ⟨s, _, h1, h2⟩
      exact hno s h1 h2
  · refine ⟨some b, rfl, fun w' hf kb hkb => (sortedI_any (hmp.fr0 hf) hn hk hkb rfl).mono (fin _ _ fun x => ?_)⟩
    rw [hmem]
    constructor
    · intro hx
      obtain ⟨v, hv⟩ := Option.ne_none_iff_exists'.1 hx
      obtain ⟨s, h1, h2⟩ := hk _ _ hv
      cases h2
      exact ⟨s, rfl, h1, (hp s h1).1 hx⟩
    · rintro ⟨s, rfl, h1, h2⟩
      exact (hp s h1).2 h2
theorem rcards_nil (a : Int) (w : World) : Calls Tryd.prog 11 #[.pointer none, .int .i64 a] w fun e w' => e = .returned (.slice none 0 0) ∧ w = w' := by
  go_enter Tryd.func11, Tryd.ntmps11
  go_wp2
  go_ret
  exact ⟨rfl, rfl⟩
theorem rcards_no (H : Rs w tg sb kb sB hB fB per n σ fk Vs Vh Vf) (a : Int) (ha : ¬ (0 ≤ a ∧ a < (n : Int))) : Calls Tryd.prog 11 #[.pointer (some ⟨sb, 0, none⟩), .int .i64 a] w fun e w' => e = .returned (.slice none 0 0) ∧ w = w' := by
  have HC := hide (isRegion_any H.st H.ok.dim a)
  rw [decide_eq_false ha] at HC
  clear H
  go_enter Tryd.func11, Tryd.ntmps11
  go_wp2_with (go_at_call 26; refine HC.out.mono ?_; rintro e w' ⟨rfl, rfl⟩)
  go_ret
  exact ⟨rfl, rfl⟩
set_option maxRecDepth 100000 in
set_option maxHeartbeats 3200000 in
theorem rcards_ok (H : Rs w tg sb kb sB hB fB per n σ fk Vs Vh Vf) (hT : Tab w) {h : Nat} (hh : h < n) : Calls Tryd.prog 11 #[.pointer (some ⟨sb, 0, none⟩), .int .i64 (h : Int)] w (ListPost w [] (allOf σ per n h)) := by
  have HC := hide (isRegion_any H.st H.ok.dim (h : Int))
  rw [decide_eq_true (show 0 ≤ (h : Int) ∧ (h : Int) < (n : Int) by omega)] at HC
  have hd := H.ok.dim
  have hn := hd.n2
  obtain ⟨mb, hV, hS⟩ := sorted_src (σ := σ) (n := n) (h := h) (by omega) (H.src.own h hh)
  have c3 := H.st.c3
  have hr1 : (h : Int) < (n : Int) := by omega
  have cr : w.cell? ⟨sB, h, none⟩ = some (.map mb) := by rw [H.src.row.cell, rowF_at hh, hV]
  have HH := hide H
  have HT := hide hT
  have HSo := hide hS
  have hsl := srcs_len σ n h
  have HSl := hide hsl
  have HFlat : Hid ((srcs σ n h).flatMap (cardsOf σ per h) = allOf σ per n h) := flat_srcs H.ok
  have HW : Hid (∀ k, k < (srcs σ n h).length → (srcs σ n h).getD k 0 < n ∧ σ.way h ((srcs σ n h).getD k 0) ≠ 0) := fun k hk => by
    have := List.getElem_mem hk
    rw [srcs_mem] at this
    simpa [hk] using this
  have HNP : Hid (n * per ≤ 4194304 ∧ per ≤ 4194304 ∧ 1 ≤ per) := ⟨hd.p2, hd.p3, hd.p1⟩
  have hsb := Nat.le_trans hsl hn
  clear H hT hS hV hd hsl
  generalize srcs σ n h = ss at *
  go_enter Tryd.func11, Tryd.ntmps11
  go_wp2_with (first | (go_at_call 26; refine HC.out.mono ?_; rintro e w' ⟨rfl, rfl⟩) | (go_at_call 28; refine (keysI_any mb _).mono ?_; rintro e w' ⟨rfl, rfl⟩) | (go_at_call 27; refine (HSo.out _ (Fr.refl _ _) _ rfl).mono ?_; rintro e w2 ⟨A2, c2, G2, rfl, hl2, hf2⟩; have HL2 := hide hl2; have HF2 : Hid (Fr [] w w2) := ((Fr.refl _ _).alloc _).trans_same hf2; clear hl2 hf2))
  have HG2 := hide HL2.out.lt
  go_loopw [5, 26] (fun v i wr => ∃ (k : Nat) (A : Option Addr) (c : Nat) (G : List Nat), i = .int .i64 k ∧ k ≤ ss.length ∧ v = .slice A ((ss.take k).flatMap (cardsOf σ per h)).length c ∧ Lr wr 3 A ((ss.take k).flatMap (cardsOf σ per h)).length c G (zv ((ss.take k).flatMap (cardsOf σ per h))) ∧ Fr [] w2 wr ∧ ∀ g, g ∈ G → w2.heap.size ≤ g) (fun _ i _ => ss.length - (intOf i).toNat)
  case atStart => exact ⟨0, none, 0, [], rfl, Nat.zero_le _, rfl, Lr.nil _ _, Fr.refl _ _, fun g hg => by cases hg⟩
  case round =>
    obtain ⟨k, A, c, G, rfl, hk, rfl, hl, hf, hg⟩ := hrel
    have HLx := hide hl
    have HFx := hide hf
    have HGx := hide hg
    clear hl hf hg
    by_cases hlt : k < ss.length
    · have hlt1 : (k : Int) < (ss.length : Int) := by omega
      obtain ⟨hs, hw⟩ := HW.out k hlt
      obtain ⟨g, off, rfl, hgG, hgl, hcell⟩ : ∃ g off, A2 = some ⟨g, off, none⟩ ∧ G2 = [g] ∧ g < w2.heap.size ∧ ∀ k, k < ss.length → w2.cell? ⟨g, off + k, none⟩ = (zv (ints ss))[k]? := by
        obtain ⟨g, off, h1, h2, h3, h4, _⟩ := HL2.out.pos (by omega)
        exact ⟨g, off, h1, h2, h3, h4⟩
      have hz : (zv (ints ss))[k]? = some (.int .i64 ((ss.getD k 0 : Nat) : Int)) := by
        rw [zv_get _ (by rw [ints_len]; exact hlt)]
        unfold ints
        simp [hlt]
      have hck := (HFx.out.cell (p := ⟨g, off + k, none⟩) hgl (by simp)).trans ((hcell k hlt).trans hz)
      have hlen : ((ss.take k).flatMap (cardsOf σ per h)).length + per ≤ 16777216 := by
        have h1 := flat_len σ per h (ss.take k)
        have h2 : (ss.take k).length * per ≤ n * per := Nat.mul_le_mul_right _ (by rw [List.length_take]; have := HSl.out; omega)
        have := HNP.out
        omega
      have htk : ss.take (k + 1) = ss.take k ++ [ss.getD k 0] := by
        rw [List.take_add_one, List.getElem?_eq_getElem hlt]
        simp [hlt]
      have HE : Hid ((ss.take (k + 1)).flatMap (cardsOf σ per h) = (ss.take k).flatMap (cardsOf σ per h) ++ cardsOf σ per h (ss.getD k 0)) := by
        show _ = _
        rw [htk, List.flatMap_append]
        simp
      have HX := hide (rlist_any (HH.out.fr0 ((HF2.out.trans_same HFx.out))) ((HT.out.fr HF2.out (by simp)).fr HFx.out (by simp)) hh hs hw HLx.out
        (fun g hg => by
          rcases Nat.eq_zero_or_pos (tg g).1 with h0 | h0
          · exact h0
          · have h1 := HH.out.tok g (by omega)
            have h2 := HGx.out g hg
            have h3 := HF2.out.size
            omega)
        (fun hg => by
          have h1 := HGx.out _ hg
          have h2 := HT.out.lt
          have h3 := HF2.out.size
          omega) hlen)
      rw [← HE.out] at HX
      clear hlen htk hz hcell hw
      generalize ss.getD k 0 = s at *
      generalize hxs : (ss.take k).flatMap (cardsOf σ per h) = xs at *
      generalize hln : xs.length = ln at *
      generalize hys : (ss.take (k + 1)).flatMap (cardsOf σ per h) = ys at *
      generalize hyn : ys.length = yn at *
      have HYs := hide hys
      have HYn := hide hyn
      clear hys hyn
      have HXs := hide hxs
      have HLn := hide hln
      clear hxs hln
      go_wp2_with (first | (go_at_call 29; refine HX.out.mono ?_; rintro e w4 ⟨A4, c4, G4, rfl, hl4, hf4, hg4⟩; have HL4 := hide hl4; have HF4 := hide hf4; have HG4 := hide hg4; clear hl4 hf4 hg4))
      go_roundw
      case rel => exact ⟨k + 1, A4, c4, G4, by go_num, by omega, by rw [HYs.out, HYn.out], by rw [HYs.out]; exact HL4.out, HFx.out.trans HF4.out (fun x hx => .inr (HGx.out x hx)), fun g hg => by
        rcases HG4.out g hg with h | h
        · exact HGx.out g h
        · have := HFx.out.size; omega⟩
      case measure => simp [intOf]; omega
    · have hlt1 : ¬ (k : Int) < (ss.length : Int) := by omega
      obtain rfl : k = ss.length := by omega
      have hE : (ss.take ss.length).flatMap (cardsOf σ per h) = allOf σ per n h := by rw [List.take_length]; exact HFlat.out
      rw [hE] at HLx ⊢
      go_wp2_with fail
      go_ret
      exact ⟨A, c, G, rfl, HLx.out, HF2.out.trans_same HFx.out, fun g hg => by have h1 := HGx.out g hg; have h2 := HF2.out.size; exact .inr (by omega)⟩
end
end Go.Proofs.YtkbffmmomoeaiaaDoor
