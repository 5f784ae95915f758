/- RegionApart: what is bumped never overlaps, and lies in a region of the state that it was claimed for, whatever sizes come in. Conditions: none but the row's own. -/
import Derived.Test.YtjgjcpafdhocfaaL7
import Derived.Test.YtjgjcpafdhocfaaCard0
namespace Go.Proofs.Ytjgjcpafdhocfaa.RegionApart
set_option linter.unusedVariables false
open Go.RowKit Go.Gl Go.ChangeShapes Go.WideShapes Go.ChangeAt Go.Deep

/-- A list of 256 bools lies at the block ub. -/
def Used (w : World) (ub : Nat) (f : Nat → Bool) : Prop := ∃ cs, Blk w ub 34 cs ∧ ∀ k, k < 256 → cs[k]? = some (.bool (f k))
theorem Used.fr {w w' : World} {ub : Nat} {f : Nat → Bool} {F : List Nat} (h : Used w ub f) (hf : Fr F w w') (hu : ub ∉ F) : Used w' ub f := by
  obtain ⟨cs, hb, hc⟩ := h
  exact ⟨cs, hb.fr hf hu, hc⟩
theorem Used.cell {w : World} {ub : Nat} {f : Nat → Bool} (h : Used w ub f) {k : Nat} (hk : k < 256) : w.cell? ⟨ub, k, none⟩ = some (.bool (f k)) := by
  obtain ⟨cs, hb, hc⟩ := h
  rw [hb.cell, hc k hk]
theorem Used.frozen {w : World} {ub : Nat} {f : Nat → Bool} (h : Used w ub f) (k : Nat) : w.frozen? ⟨ub, k, none⟩ = false := by
  obtain ⟨cs, hb, hc⟩ := h
  exact hb.frozen k
theorem Used.lt {w : World} {ub : Nat} {f : Nat → Bool} (h : Used w ub f) : ub < w.heap.size := by
  obtain ⟨cs, hb, hc⟩ := h
  exact hb.lt
theorem Used.put {w : World} {ub : Nat} {f g : Nat → Bool} (h : Used w ub f) {q : Nat} (hq : g q = true) (hg : ∀ j, j ≠ q → g j = f j) : Used (w.setCell ⟨ub, q, none⟩ (.bool true)) ub g := by
  obtain ⟨cs, hb, hc⟩ := h
  refine ⟨_, hb.put q (.bool true), fun k hk => ?_⟩
  rw [Array.getElem?_setIfInBounds]
  by_cases h : q = k
  · subst h
    have hs : q < cs.size := by
      rcases Nat.lt_or_ge q cs.size with hl | hl
      · exact hl
      · have := hc q hk; rw [Array.getElem?_eq_none hl] at this; cases this
    rw [if_pos rfl, if_pos hs, hq]
  · rw [if_neg h, hc k hk, hg k (Ne.symm h)]
/-- Region r is filled as far as T; those below it are taken, those above it free; no word from T on was used. -/
structure Apart (r T : Nat) (s t : Nat → Int) (f : Nat → Bool) : Prop where
  r3 : r < 4
  sl : ∀ j, j ≤ r → s j = 2
  sf : ∀ j, r < j → j < 4 → s j = 0
  top : t r = (T : Int)
  lo : 64 * r ≤ T
  hi : T ≤ 64 * r + 64
  free : ∀ j, r < j → j < 4 → t j = ((64 * j : Nat) : Int)
  un : ∀ k, T ≤ k → f k = false
def mk (f : Nat → Bool) (T q : Nat) : Nat → Bool := fun j => if T ≤ j ∧ j < q then true else f j
theorem mk_none (f : Nat → Bool) (T : Nat) : mk f T T = f := by
  funext j
  unfold mk
  rw [if_neg (by omega)]
theorem mk_at (f : Nat → Bool) {T q : Nat} : mk f T q q = f q := by
  unfold mk
  rw [if_neg (by omega)]
theorem mk_past (f : Nat → Bool) {T q k : Nat} (h : q ≤ k) : mk f T q k = f k := by
  unfold mk
  rw [if_neg (by omega)]
theorem Used.next {w : World} {ub : Nat} {f : Nat → Bool} {T q : Nat} (h : Used w ub (mk f T q)) (hq : T ≤ q) : Used (w.setCell ⟨ub, q, none⟩ (.bool true)) ub (mk f T (q + 1)) :=
  h.put (by unfold mk; rw [if_pos (by omega)]) (fun j hj => by unfold mk; by_cases h1 : T ≤ j ∧ j < q; rw [if_pos (by omega), if_pos h1]; rw [if_neg (by omega), if_neg h1])
theorem zs_u8 {zs : List Int} (h : ∀ z ∈ zs, (Lit.int .u8 z).wf = true) (k : Nat) : 0 ≤ zs.getD k 0 ∧ zs.getD k 0 ≤ 255 := by
  rw [List.getD_eq_getElem?_getD]
  rcases Nat.lt_or_ge k zs.length with hk | hk
  · rw [List.getElem?_eq_getElem hk]
    have := h _ (List.getElem_mem hk)
    simpa [Lit.wf, IntKind.min, IntKind.max, IntKind.signed, IntKind.bits] using this
  · rw [List.getElem?_eq_none hk]; simp

set_option maxRecDepth 100000 in
set_option maxHeartbeats 6400000 in
theorem walk (W : World) (P : Option Addr) (na ca : Nat) (zs : List Int) (hA : Sl W P na (fun k => .int .u8 (zs.getD k 0))) (hz : ∀ k, 0 ≤ zs.getD k 0 ∧ zs.getD k 0 ≤ 255) (hna : na ≤ 9223372036854775807) :
    Holds Try.prog 3 #[.slice P na ca] W := by
  have HA := hide hA
  have Hz := hide hz
  clear hA hz
  have HZ : ∀ w, (zeroValue 34).run Try.prog w = .ok (.agg (Array.replicate 256 (.bool false))) w := fun w => by kernel_rfl
  unfold Holds
  go_enter Try.func3, Try.ntmps3
  go_wp2_with fail
  refine (awake7_any W).mono ?_
  rintro e w0 ⟨rfl, hf0⟩
  go_wp2_with fail
  refine (small7_any _).mono ?_
  rintro e w1 ⟨rfl, hf⟩
  have HF1 : Hid (Fr [] W w1) := hf0.trans_same hf
  clear hf hf0
  go_wp2_with fail
  refine (new7_any _).mono ?_
  rintro e w2 ⟨tb, sb, pb, mb, rfl, hr, hf, l1, l2, l3, l4⟩
  have HR2 := hide hr
  have HF2 : Hid (Fr [] W w2) := HF1.out.trans_same hf
  have HL : Hid (W.heap.size ≤ tb ∧ W.heap.size ≤ sb ∧ W.heap.size ≤ pb ∧ W.heap.size ≤ mb) := by have := HF1.out.size; exact ⟨by omega, by omega, by omega, by omega⟩
  have A1 := hide (claim_at hr (x := 2) (.inr (.inl rfl)) (k := 0) ⟨by decide, rfl, fun j hj => by omega⟩)
  clear hr hf l1 l2 l3 l4
  go_wp2_with fail
  refine A1.out.mono ?_
  rintro e w3 ⟨rfl, hr, hf⟩
  have hal : Fr [] w3 (w3.alloc (.cells (Array.replicate 256 (.bool false)) 34)) := (Fr.refl _ _).alloc _
  have HR4 := hide (hr.fr0 hal)
  have HU4 : Hid (Used (w3.alloc (.cells (Array.replicate 256 (.bool false)) 34)) w3.heap.size fun _ => false) := ⟨_, Blk.new _ _ _, fun k hk => by simp [hk]⟩
  have HF4 : Hid (Fr [sb, pb, mb] W (w3.alloc (.cells (Array.replicate 256 (.bool false)) 34))) := ((HF2.out.mono (fun x hx => by cases hx)).trans_same hf).alloc _
  have HL2 : Hid (W.heap.size ≤ w3.heap.size ∧ sb < w3.heap.size ∧ pb < w3.heap.size ∧ mb < w3.heap.size ∧ tb < w3.heap.size) := ⟨by have := HF2.out.size; have := hf.size; omega, hr.st.lt, hr.tops.lt, hr.tams.lt, hr.set.lt⟩
  obtain ⟨s1, hs1⟩ : ∃ s1, s1 = put1 (fun _ => (0 : Int)) 0 2 := ⟨_, rfl⟩
  have HP : Hid (Apart 0 0 s1 t0 fun _ => false) := by
    subst hs1
    refine ⟨by decide, fun j hj => ?_, fun j h1 h2 => ?_, rfl, by decide, by decide, fun j h1 h2 => ?_, fun _ _ => rfl⟩
    · obtain rfl : j = 0 := by omega
      rfl
    · rw [put1_far _ (by omega)]
    · unfold t0; omega
  rw [← hs1] at HR4
  clear hr hf A1 hal hs1
  go_wp2_with fail
  clear HZ
  generalize w3.alloc (.cells (Array.replicate 256 (.bool false)) 34) = w4 at *
  obtain ⟨ub, hub⟩ : ∃ ub, ub = w3.heap.size := ⟨_, rfl⟩
  rw [← hub] at HU4 HL2 ⊢
  clear hub
  go_loopw [4, 5, 7] (fun e rr i wr => ∃ (k r T : Nat) (s t : Nat → Int) (f : Nat → Bool), e = .int .i64 0 ∧ rr = .int .i64 r ∧ i = .int .i64 k ∧ k ≤ na ∧ Apart r T s t f ∧ Rg wr tb sb pb mb 64 4 s t t0 ∧ Used wr ub f ∧ Fr [sb, pb, mb, ub] W wr) (fun _ _ i _ => na - (intOf i).toNat)
  case atStart => exact ⟨0, 0, 0, _, _, _, rfl, rfl, rfl, Nat.zero_le _, HP.out, HR4.out, HU4.out, HF4.out.mono (fun x hx => by simp at hx; simp; omega)⟩
  case round =>
    obtain ⟨k, r, T, s, t, f, rfl, rfl, rfl, hk, hp, hr, hu, hfr⟩ := hrel
    have HP := hide hp
    have HR := hide hr
    have HU := hide hu
    have HF := hide hfr
    obtain ⟨r3, lo, hi⟩ := And.intro hp.r3 (And.intro hp.lo hp.hi)
    clear hp hr hu hfr
    by_cases hlt : k < na
    · have hlt3 : (k : Int) < (na : Int) := by omega
      obtain ⟨b, off, rfl, hb1, hc1⟩ := HA.out (by omega)
      have hcell : wr.cell? ⟨b, off + k, none⟩ = some (.int .u8 (zs.getD k 0)) := (HF.out.cell (p := ⟨b, off + k, none⟩) hb1 (by have := HL.out; have := HL2.out; simp; omega)).trans (hc1 k hlt)
      obtain ⟨x1, x2⟩ := Hz.out k
      clear hc1
      generalize zs.getD k 0 = x at *
      obtain ⟨m, hm⟩ : ∃ m : Nat, (m : Int) = x % 64 + 1 := ⟨(x % 64 + 1).toNat, by omega⟩
      have hm1 : 1 ≤ m := by omega
      have hm2 : m ≤ 64 := by omega
      have EM := hide hm
      by_cases hfit : T + m ≤ 64 * r + 64
      · have A2 := hide (bump_at HR.out (k := r) r3 (by rw [HP.out.sl r (Nat.le_refl _)]; exact .inr (.inl rfl)) (c := (m : Int)) (by omega) (by rw [HP.out.top]; omega))
        rw [HP.out.top] at A2
        clear hm
        go_wp2_with fail
        rw [← EM.out]
        refine A2.out.mono ?_
        rintro e w8 ⟨rfl, hr8, hf8⟩
        have HR8 := hide hr8
        have HU8 := hide (HU.out.fr hf8 (by have := HL2.out; simp; omega))
        have HF8 : Hid (Fr [sb, pb, mb, ub] W w8) := HF.out.trans hf8 (fun x hx => by simp at hx; simp; omega)
        have A8 := hide (top_at HR8.out (k := r) r3)
        have A9 := hide (state_at HR8.out (k := r) r3)
        rw [put1_at] at A8
        rw [HP.out.sl r (Nat.le_refl _)] at A9
        have HP8 : Hid (Apart r (T + m) s (put1 t r ((T : Int) + (m : Int))) (mk f T (T + m))) := ⟨r3, HP.out.sl, HP.out.sf, by rw [put1_at]; omega, by have := HP.out.lo; omega, by omega, fun j h1 h2 => by rw [put1_far _ (by omega)]; exact HP.out.free j h1 h2, fun j hj => by rw [mk_past _ hj]; exact HP.out.un j (by omega)⟩
        have HN8 : Hid (∀ j, T ≤ j → f j = false) := HP.out.un
        clear hr8 hf8 A2
        generalize put1 t r ((T : Int) + (m : Int)) = t8 at *
        have b1 : 64 * (r : Int) ≤ (T : Int) := by omega
        have b2 : (T : Int) + (m : Int) ≤ 64 * (r : Int) + 64 := by omega
        have b3 : (m : Int) ≤ 64 := by omega
        have b4 : (r : Int) < 4 := by omega
        go_wp2_with (first | (go_at_call 11; refine A8.out.mono ?_; rintro e w' ⟨rfl, rfl⟩) | (go_at_call 12; refine A9.out.mono ?_; rintro e w' ⟨rfl, rfl⟩))
        obtain ⟨wo, rfl⟩ : ∃ wo : World, wo = wr := ⟨_, rfl⟩
        go_loopw [11] (fun i wq => ∃ q : Nat, i = .int .i64 q ∧ T ≤ q ∧ q ≤ T + m ∧ Rg wq tb sb pb mb 64 4 s t8 t0 ∧ Used wq ub (mk f T q) ∧ Fr [sb, pb, mb, ub] W wq) (fun i _ => T + m - (intOf i).toNat)
        case atStart => exact ⟨T, rfl, Nat.le_refl _, by omega, HR8.out, by rw [mk_none]; exact HU8.out, HF8.out⟩
        case round =>
          obtain ⟨wq, rfl⟩ : ∃ wq : World, wq = wr := ⟨_, rfl⟩
          obtain ⟨q, rfl, hq1, hq2, hr9, hu9, hf9⟩ := hrel
          have HR9 := hide hr9
          have HU9 := hide hu9
          have HF9 := hide hf9
          by_cases hq3 : q < T + m
          · have hq4 : (q : Int) < (T : Int) + (m : Int) := by omega
            have hq5 : (q : Int) < 256 := by omega
            have hc := hu9.cell (k := q) (by omega)
            rw [mk_at, HN8.out q hq1] at hc
            have hz := hu9.frozen q
            have HU10 := hide (hu9.next hq1)
            have HF10 : Hid (Fr [ub] wq (wq.setCell ⟨ub, q, none⟩ (.bool true))) := (Fr.refl _ _).setCell (p := ⟨ub, q, none⟩) (.inl (by simp)) _
            have HR10 := hide (hr9.fr HF10.out (by have := HL2.out; simp; omega) (by have := HL2.out; simp; omega) (by have := HL2.out; simp; omega) (by have := HL2.out; simp; omega))
            clear hr9 hu9 hf9
            go_wp2_with fail
            go_roundw
            case rel => exact ⟨q + 1, by go_num, by omega, by omega, HR10.out, HU10.out, HF9.out.trans HF10.out (fun x hx => by simp at hx; simp [hx])⟩
            case measure => simp [intOf]; omega
          · obtain rfl : q = T + m := by omega
            have hq4 : ¬ (T : Int) + (m : Int) < (T : Int) + (m : Int) := by omega
            clear hr9 hu9 hf9
            go_wp2_with fail
            go_roundw
            case rel => exact ⟨k + 1, r, T + m, s, t8, mk f T (T + m), rfl, rfl, by go_num, by omega, HP8.out, HR9.out, HU9.out, HF9.out⟩
            case measure => simp [intOf]; omega
      · have A2 := hide (bump_full HR.out (k := r) r3 (by rw [HP.out.sl r (Nat.le_refl _)]; exact .inr (.inl rfl)) (c := (m : Int)) (by omega) (by rw [HP.out.top]; omega))
        clear hm
        go_wp2_with fail
        rw [← EM.out]
        refine A2.out.mono ?_
        rintro e w5 ⟨rfl, q5, rfl⟩
        have HR5 := hide (HR.out.drewN q5)
        have HU5 : Hid (Used (wr.drewN q5) ub f) := HU.out
        have HF5 := hide (HF.out.drewN q5)
        clear A2
        obtain ⟨wo, rfl⟩ : ∃ wo : World, wo = wr := ⟨_, rfl⟩
        generalize wo.drewN q5 = w5 at *
        by_cases hr3 : r < 3
        · have A3 := hide (claim_at HR5.out (x := 2) (.inr (.inl rfl)) (k := r + 1) ⟨by omega, HP.out.sf _ (by omega) (by omega), fun j hj => by rw [HP.out.sl j (by omega)]; decide⟩)
          go_wp2_with fail
          refine A3.out.mono ?_
          rintro e w6 ⟨rfl, hr6, hf6⟩
          have HR6 := hide hr6
          have HU6 := hide (HU5.out.fr hf6 (by have := HL2.out; simp; omega))
          have HF6 : Hid (Fr [sb, pb, mb, ub] W w6) := HF5.out.trans hf6 (fun x hx => by simp at hx; simp; omega)
          have hsn : put1 s (r + 1) 2 (r + 1) = 2 := put1_at _ _ _
          have htn : t (r + 1) = ((64 * (r + 1) : Nat) : Int) := HP.out.free _ (by omega) (by omega)
          have A4 := hide (bump_at HR6.out (k := r + 1) (by omega) (by rw [hsn]; exact .inr (.inl rfl)) (c := (m : Int)) (by omega) (by rw [htn]; omega))
          rw [htn] at A4
          have HP6 : Hid (Apart (r + 1) (64 * (r + 1)) (put1 s (r + 1) 2) t f) := ⟨by omega, fun j hj => by unfold put1; split; rfl; exact HP.out.sl j (by omega), fun j h1 h2 => by rw [put1_far _ (by omega)]; exact HP.out.sf j (by omega) h2, htn, Nat.le_refl _, by omega, fun j h1 h2 => HP.out.free j (by omega) h2, fun j hj => HP.out.un j (by omega)⟩
          clear hr6 hf6 A3 htn hsn
          generalize put1 s (r + 1) 2 = s6 at *
          obtain ⟨r6, hr6⟩ : ∃ r6, r6 = r + 1 := ⟨_, rfl⟩
          have er6 : ((r : Int) + 1) = (r6 : Int) := by omega
          rw [← hr6] at HP6 A4
          have hr64 : r6 < 4 := by omega
          obtain ⟨T6, hT6⟩ : ∃ T6, T6 = 64 * r6 := ⟨_, rfl⟩
          rw [← hT6] at HP6 A4
          have lo6 : 64 * r6 ≤ T6 := by omega
          have hi6 : T6 + m ≤ 64 * r6 + 64 := by omega
          clear hr6 hT6
          go_wp2_with fail
          try rw [er6]
          try rw [← EM.out]
          refine A4.out.mono ?_
          rintro e w8 ⟨rfl, hr8, hf8⟩
          have HR8 := hide hr8
          have HU8 := hide (HU6.out.fr hf8 (by have := HL2.out; simp; omega))
          have HF8 : Hid (Fr [sb, pb, mb, ub] W w8) := HF6.out.trans hf8 (fun x hx => by simp at hx; simp; omega)
          have A8 := hide (top_at HR8.out (k := r6) hr64)
          have A9 := hide (state_at HR8.out (k := r6) hr64)
          rw [put1_at] at A8
          rw [HP6.out.sl r6 (Nat.le_refl _)] at A9
          have HP8 : Hid (Apart r6 (T6 + m) s6 (put1 t r6 ((T6 : Int) + (m : Int))) (mk f T6 (T6 + m))) := ⟨hr64, HP6.out.sl, HP6.out.sf, by rw [put1_at]; omega, by have := HP6.out.lo; omega, by omega, fun j h1 h2 => by rw [put1_far _ (by omega)]; exact HP6.out.free j h1 h2, fun j hj => by rw [mk_past _ hj]; exact HP6.out.un j (by omega)⟩
          have HN8 : Hid (∀ j, T6 ≤ j → f j = false) := HP6.out.un
          clear hr8 hf8 A4
          generalize put1 t r6 ((T6 : Int) + (m : Int)) = t8 at *
          have b1 : 64 * (r6 : Int) ≤ (T6 : Int) := by omega
          have b2 : (T6 : Int) + (m : Int) ≤ 64 * (r6 : Int) + 64 := by omega
          have b3 : (m : Int) ≤ 64 := by omega
          have b4 : (r6 : Int) < 4 := by omega
          go_wp2_with (first | (go_at_call 11; refine A8.out.mono ?_; rintro e w' ⟨rfl, rfl⟩) | (go_at_call 12; refine A9.out.mono ?_; rintro e w' ⟨rfl, rfl⟩))
          go_loopw [11] (fun i wq => ∃ q : Nat, i = .int .i64 q ∧ T6 ≤ q ∧ q ≤ T6 + m ∧ Rg wq tb sb pb mb 64 4 s6 t8 t0 ∧ Used wq ub (mk f T6 q) ∧ Fr [sb, pb, mb, ub] W wq) (fun i _ => T6 + m - (intOf i).toNat)
          case atStart => exact ⟨T6, rfl, Nat.le_refl _, by omega, HR8.out, by rw [mk_none]; exact HU8.out, HF8.out⟩
          case round =>
            obtain ⟨wq, rfl⟩ : ∃ wq : World, wq = wr := ⟨_, rfl⟩
            obtain ⟨q, rfl, hq1, hq2, hr9, hu9, hf9⟩ := hrel
            have HR9 := hide hr9
            have HU9 := hide hu9
            have HF9 := hide hf9
            by_cases hq3 : q < T6 + m
            · have hq4 : (q : Int) < (T6 : Int) + (m : Int) := by omega
              have hq5 : (q : Int) < 256 := by omega
              have hc := hu9.cell (k := q) (by omega)
              rw [mk_at, HN8.out q hq1] at hc
              have hz := hu9.frozen q
              have HU10 := hide (hu9.next hq1)
              have HF10 : Hid (Fr [ub] wq (wq.setCell ⟨ub, q, none⟩ (.bool true))) := (Fr.refl _ _).setCell (p := ⟨ub, q, none⟩) (.inl (by simp)) _
              have HR10 := hide (hr9.fr HF10.out (by have := HL2.out; simp; omega) (by have := HL2.out; simp; omega) (by have := HL2.out; simp; omega) (by have := HL2.out; simp; omega))
              clear hr9 hu9 hf9
              go_wp2_with fail
              go_roundw
              case rel => exact ⟨q + 1, by go_num, by omega, by omega, HR10.out, HU10.out, HF9.out.trans HF10.out (fun x hx => by simp at hx; simp [hx])⟩
              case measure => simp [intOf]; omega
            · obtain rfl : q = T6 + m := by omega
              have hq4 : ¬ (T6 : Int) + (m : Int) < (T6 : Int) + (m : Int) := by omega
              clear hr9 hu9 hf9
              go_wp2_with fail
              go_roundw
              case rel => exact ⟨k + 1, r6, T6 + m, s6, t8, mk f T6 (T6 + m), rfl, rfl, by go_num, by omega, HP8.out, HR9.out, HU9.out, HF9.out⟩
              case measure => simp [intOf]; omega
        · have A3 := hide (claim_full HR5.out (x := 2) (.inr (.inl rfl)) (fun j hj => by rw [HP.out.sl j (by omega)]; decide))
          have A4 := hide (rlist_any HR5.out 0)
          have hth : those s 0 4 = [] := by
            rcases hl : those s 0 4 with _ | ⟨y, l⟩
            · rfl
            · obtain ⟨h1, h2⟩ := (those_mem (s := s) (x := 0) (n := 4) (j := y)).1 (by rw [hl]; simp)
              rw [HP.out.sl y (by omega)] at h2
              exact absurd h2 (by decide)
          rw [hth] at A4
          go_wp2_with fail
          refine A3.out.mono ?_
          rintro e w' ⟨rfl, rfl⟩
          go_wp2_with fail
          refine A4.out.mono ?_
          rintro e w7 ⟨v, rfl, hv, hf7⟩
          obtain ⟨A, c, rfl, _⟩ := Sl.own hv
          have HF7 : Hid (Fr [sb, pb, mb, ub] W w7) := HF5.out.trans_nil hf7
          clear hv hf7
          go_wp2_with fail
          go_ret
          exact ⟨rfl, HF7.out.below (Nat.le_refl _) (fun x hx => by have := HL.out; have := HL2.out; simp at hx; omega)⟩
    · have hlt3 : ¬ (k : Int) < (na : Int) := by omega
      go_wp2_with fail
      go_ret
      exact ⟨rfl, HF.out.below (Nat.le_refl _) (fun x hx => by have := HL.out; have := HL2.out; simp at hx; omega)⟩

theorem holds {H : Type} {enc : TypeId × Value → H} {W : World} {base : Nat} {args : Array Value} {ds : List (DataW H)} {p : List MemPlace}
    (hval : ∀ (j : Nat) t v, Try.f3.params[j]? = some t → args[j]? = some v → Value.okWide Try.prog W .any base t v)
    (hA : DataW.TrodAll enc Try.prog W 0 (fun _ => true) true Try.f3.params.toList args.toList ds p) : Holds Try.prog 3 args W := by
  rw [Try.params3] at hA hval
  obtain ⟨v0, vs0, d0, ds0, p0, q0, hargs, rfl, rfl, h0, r0⟩ := trodAll_cons hA
  obtain ⟨rfl, rfl, rfl⟩ := trodAll_nil r0
  obtain rfl : args = #[v0] := by cases args; simp_all
  obtain ⟨A, na, ca, zs, rfl, hna, hA1, hw1⟩ := open_sl Try.underlying22 Try.underlying5 (by kernel_rfl) (hval 0 22 v0 rfl rfl) h0
  exact walk W A na ca zs hA1 (zs_u8 hw1) (by unfold maxLen at hna; omega)
theorem readable : ∀ t, t ∈ Try.f3.params.toList → Try.prog.readableRec t = true ∧ t < Try.prog.types.size := by
  intro t ht
  rw [Try.params3] at ht
  have hm : t = 22 := by simp at ht; omega
  rcases hm with rfl
  all_goals exact ⟨by kernel_rfl, of_decide_eq_true (by kernel_rfl)⟩
theorem laid_met (os : Os) : laidMet Try.prog Rows.regionApartRow.laid ((laidWorld os).forCall (fun _ _ => 0) ⟨#[], #[.slice none 0 0], []⟩).memory :=
  ⟨[], rfl, List.nodup_nil, fun _ _ h => by cases h⟩
theorem reads (os : Os) {H : Type} (enc : TypeId × Value → H) : ∃ places, DataW.whole enc Try.prog ((laidWorld os).forCall (fun _ _ => 0) ⟨#[], #[.slice none 0 0], []⟩).memory Try.f3.params.toList Rows.regionApartSpec.vars false (#[.slice none 0 0] : Array Value).toList 8 = some ([.nil], [], places) :=
  ⟨[], by kernel_rfl⟩
theorem spec {H : Type} : ∀ ds : List (DataW H), ds.length = Try.f3.params.toList.length → Rows.regionApartSpec.fn H (ds ++ []) = { results := [.lit (.bool true)], args := ds, vars := [] } := by
  intro ds h
  rw [Try.params3] at h
  simp only [List.append_nil]
  match ds, h with
  | [_], _ => rfl

set_option maxRecDepth 100000 in
theorem lifted (os : Os) (started : os.Started) (H : Type) (enc : TypeId × Value → H) (F : Stop.Interp) :
    ReturnsInHanded {} Try.checked os 3 .any ((OpenSpec.ofChange Rows.regionApartSpec).preRow enc Try.prog Try.f3 Rows.regionApartRow.domain false Rows.regionApartRow.laid) (((OpenSpec.ofChange Rows.regionApartSpec).at F).post enc Try.prog Try.f3 false true false false) := by
  obtain ⟨places, hx⟩ := reads os enc
  refine returnsInHanded_of_row (C := Try.checked) (s := OpenSpec.ofChange Rows.regionApartSpec) own started (by kernel_rfl) Try.func3
    (witness_row_at (enc := enc) (C := Try.checked) false (laidWorld os) #[.slice none 0 0] rfl (by kernel_rfl) (by kernel_rfl) (by kernel_rfl)
      (OpenSpec.preRow_of_cond 8 hx (by kernel_rfl) (fun k hk => by cases hk) (by kernel_rfl) (laid_met os))) ?_
  intro W base args ds gs before hval hW _ _ _ hL _ _
  have hW' : DataW.Whole enc Try.prog Try.f3.params.toList Rows.regionApartSpec.vars false W args.toList ds gs before := hW
  exact law_close (s := Rows.regionApartSpec) rfl rfl Try.underlying4 spec laidOut readable hW' (by
    obtain ⟨p, q, hA, _⟩ := hW'
    exact holds hval hA)

theorem said : Rows.RegionApartSaid :=
  OpenClaim.holds_of_cond 3 Try.f3 rfl rfl rfl rfl rfl rfl rfl ⟨rfl, rfl, rfl, rfl, rfl⟩ rfl rfl rfl rfl rfl (by kernel_rfl) Try.func3 (by kernel_rfl)
    (of_decide_eq_true (by kernel_rfl)) (by unfold Func.isWrapper; first | (rw [if_pos (by decide +kernel)]; kernel_rfl) | (rw [if_neg (by decide +kernel)]; exact ⟨rfl, rfl⟩))
    (fun os started H enc _ F => by rw [OpenClaim.pre_eq_preRow]; exact lifted os started H enc F)
end Go.Proofs.Ytjgjcpafdhocfaa.RegionApart
