/- RemsetKeeps: a card that was added is had till its home is cleared or its source scrubbed, however coarsely, and no card of the home itself ever is. Conditions: none but the row's own (the library's table lies as its text lays it). -/
import Derived.Test.YtkbffmmomoeaiaaDoorL11k
import Derived.Test.YtkbffmmomoeaiaaDoorRc
import Derived.Test.YtkbffmmomoeaiaaDoorCard
import Derived.Deep.MidRow
namespace Go.Proofs.YtkbffmmomoeaiaaDoor.RemsetKeeps
set_option linter.unusedVariables false
set_option linter.unusedSimpArgs false
open Go.RowKit Go.Gl Go.ChangeShapes Go.WideShapes Go.ChangeAt Go.Deep

/-- Eight rows of 64 truth values in one block. -/
def Grid (w : World) (g : Nat) (G : Nat → Nat → Bool) : Prop := ∃ cs, Blk w g 46 cs ∧ cs.size = 512 ∧ ∀ h c, h < 8 → c < 64 → cs[h * 64 + c]? = some (.bool (G h c))
theorem Grid.fr {w w' : World} {g : Nat} {G : Nat → Nat → Bool} {F : List Nat} (h : Grid w g G) (hf : Fr F w w') (hg : g ∉ F) : Grid w' g G := by
  obtain ⟨cs, h1, h2, h3⟩ := h
  exact ⟨cs, h1.fr hf hg, h2, h3⟩
theorem Grid.cell {w : World} {g : Nat} {G : Nat → Nat → Bool} (h : Grid w g G) {a b : Nat} (ha : a < 8) (hb : b < 64) : w.cell? ⟨g, a * 64 + b, none⟩ = some (.bool (G a b)) := by
  obtain ⟨cs, h1, h2, h3⟩ := h
  rw [h1.cell, h3 a b ha hb]
theorem Grid.frozen {w : World} {g : Nat} {G : Nat → Nat → Bool} (h : Grid w g G) (k : Nat) : w.frozen? ⟨g, k, none⟩ = false := by
  obtain ⟨cs, h1, _⟩ := h
  exact h1.frozen k
theorem Grid.lt {w : World} {g : Nat} {G : Nat → Nat → Bool} (h : Grid w g G) : g < w.heap.size := by
  obtain ⟨cs, h1, _⟩ := h
  exact h1.lt
theorem Grid.put {w : World} {g : Nat} {G : Nat → Nat → Bool} (h : Grid w g G) {a b : Nat} (ha : a < 8) (hb : b < 64) (v : Bool) : Grid (w.setCell ⟨g, a * 64 + b, none⟩ (.bool v)) g (set2 G a b v) := by
  obtain ⟨cs, h1, h2, h3⟩ := h
  refine ⟨_, h1.put (a * 64 + b) _, by simp [h2], fun x y hx hy => ?_⟩
  rw [Array.getElem?_setIfInBounds]
  unfold set2
  by_cases e : x = a ∧ y = b
  · obtain ⟨rfl, rfl⟩ := e
    rw [if_pos rfl, if_pos (by omega), if_pos ⟨rfl, rfl⟩]
  · rw [if_neg (by omega), if_neg e, h3 x y hx hy]
theorem Grid.row {w : World} {g : Nat} {G : Nat → Nat → Bool} (h : Grid w g G) {a : Nat} (ha : a < 8) (v : Bool) : Grid (w.setCells g (a * 64) (List.replicate 64 (.bool v))) g (fun x y => if x = a then v else G x y) := by
  have main : ∀ (m o : Nat) (w : World) (cs : Array Value), Blk w g 46 cs → cs.size = 512 → o + m ≤ 512 → ∃ cs', Blk (w.setCells g o (List.replicate m (.bool v))) g 46 cs' ∧ cs'.size = 512 ∧ ∀ k, k < 512 → cs'[k]? = if o ≤ k ∧ k < o + m then some (.bool v) else cs[k]? := by
    intro m
    induction m with
    | zero => intro o w cs h1 h2 _; exact ⟨cs, h1, h2, fun k _ => by rw [if_neg (by omega)]⟩
    | succ m ih =>
      intro o w cs h1 h2 ho
      obtain ⟨cs', e1, e2, e3⟩ := ih (o + 1) _ _ (h1.put o (.bool v)) (by simp [h2]) (by omega)
      refine ⟨cs', by rw [List.replicate_succ, World.setCells]; exact e1, e2, fun k hk => ?_⟩
      rw [e3 k hk, Array.getElem?_setIfInBounds]
      by_cases e : k = o
      · subst e
        rw [if_neg (by omega), if_pos rfl, if_pos (by omega), if_pos (by omega)]
      · rw [if_neg (show ¬ o = k by omega)]
        by_cases e5 : o + 1 ≤ k ∧ k < o + 1 + m
        · rw [if_pos e5, if_pos (by omega)]
        · rw [if_neg e5, if_neg (by omega)]
  obtain ⟨cs, h1, h2, h3⟩ := h
  obtain ⟨cs', e1, e2, e3⟩ := main 64 (a * 64) w cs h1 h2 (by omega)
  refine ⟨cs', e1, e2, fun x y hx hy => ?_⟩
  rw [e3 _ (by omega)]
  show _ = some (Value.bool (if x = a then v else G x y))
  by_cases e : x = a
  · rw [if_pos (by omega), if_pos e]
  · rw [if_neg (by omega), if_neg e, h3 x y hx hy]
/-- The sets, apart from what came in and from block g. -/
def OwnG (W w : World) (g sb : Nat) (σ : RS) : Prop := Fr [] W w ∧ g < w.heap.size ∧ W.heap.size ≤ g ∧ ∃ tg, SAt w tg sb 8 8 σ ∧ Old W.heap.size tg ∧ (tg g).1 = 0
section
variable {W w w' : World} {g sb : Nat} {σ σ' : RS} {v : Value}
theorem OwnG.fr (h : OwnG W w g sb σ) (hf : Fr [g] w w') : OwnG W w' g sb σ := by
  obtain ⟨h0, h1, h2, tg, h3, h4, h5⟩ := h
  exact ⟨h0.trans hf (fun x hx => .inr (by simp at hx; omega)), Nat.lt_of_lt_of_le h1 hf.size, h2, tg, h3.fr hf (fun b hb => by simp at hb; rw [hb]; exact h5), h4, h5⟩
theorem OwnG.fr0 (h : OwnG W w g sb σ) (hf : Fr [] w w') : OwnG W w' g sb σ := h.fr (hf.mono fun x hx => by cases hx)
theorem OwnG.upd {P : Program} {f : FuncId} {args : Array Value} (h : OwnG W w g sb σ) (hc : ∀ tg, SAt w tg sb 8 8 σ → Calls P f args w (Upd w tg sb 8 8 v σ')) : Calls P f args w fun e w' => e = .returned v ∧ OwnG W w' g sb σ' ∧ ∃ F, Fr F w w' ∧ g ∉ F := by
  obtain ⟨h0, h1, h2, tg, h3, h4, h5⟩ := h
  refine (hc tg h3).mono ?_
  rintro e w' ⟨tg', F, rfl, k1, k2, k3, k4⟩
  exact ⟨rfl, ⟨h0.trans k2 (fun x hx => .inr (h4.out k3 x hx)), Nat.lt_of_lt_of_le h1 k2.size, h2, tg', k1, h4.up h0.size k4, by rw [k4 g h1]; exact h5⟩, F, k2, fun hg => k3 g hg h5⟩
theorem OwnG.way (h : OwnG W w g sb σ) (a b : Nat) (ha : a < 64) (hb : b < 64) : Calls Tryd.prog 14 #[.pointer (some ⟨sb, 0, none⟩), .int .i64 (a : Int), .int .i64 (b : Int)] w fun e w' => e = .returned (.int .i64 (σ.way a b : Int)) ∧ w = w' := by
  obtain ⟨_, _, _, tg, h3, _⟩ := h
  have := h3.way (a : Int) (b : Int) (wf_nat (by omega)) (wf_nat (by omega))
  rw [wayI_at] at this
  exact this
theorem OwnG.has (h : OwnG W w g sb σ) (a c : Nat) (ha : a < 64) (hc : c < 64) : Calls Tryd.prog 20 #[.pointer (some ⟨sb, 0, none⟩), .int .i64 (a : Int), .int .i64 (c : Int)] w fun e w' => e = .returned (.bool (hasN σ 8 a c)) ∧ Fr [] w w' := by
  obtain ⟨_, _, _, tg, h3, _⟩ := h
  have := h3.has (a : Int) (c : Int) (wf_nat (by omega))
  rw [hasI_at _ _ _ _ _ (by omega)] at this
  exact this
theorem OwnG.ok (h : OwnG W w g sb σ) : SOk 8 8 σ := by
  obtain ⟨_, _, _, tg, h3, _⟩ := h
  exact h3.ok
end
def KSt (W w : World) (g sb : Nat) : Prop := ∃ σ G, OwnG W w g sb σ ∧ Grid w g G ∧ Keeps 8 8 σ G
theorem KSt.fr0 {W w w' : World} {g sb : Nat} (h : KSt W w g sb) (hf : Fr [] w w') : KSt W w' g sb := by
  obtain ⟨σ, G, h1, h2, h3⟩ := h
  exact ⟨σ, G, h1.fr0 hf, h2.fr hf (by simp), h3⟩
theorem Grid.congr {w : World} {g : Nat} {G G' : Nat → Nat → Bool} (h : Grid w g G) (e : ∀ a b, a < 8 → b < 64 → G a b = G' a b) : Grid w g G' := by
  obtain ⟨cs, h1, h2, h3⟩ := h
  exact ⟨cs, h1, h2, fun a b ha hb => by rw [h3 a b ha hb, e a b ha hb]⟩
theorem Grid.there {w : World} {g : Nat} {G : Nat → Nat → Bool} (h : Grid w g G) {a : Nat} (ha : a < 8) : w.there g (a * 64) 64 := fun j hj => by
  obtain ⟨cs, h1, h2, h3⟩ := h
  exact ⟨by rw [h1.cell, h3 a j ha hj]; rfl, h1.frozen _⟩
theorem mod_of (x : Int) (m : Nat) (hm : 0 < m) : ∃ C : Nat, x.tmod (m : Int) % (m : Int) = (C : Int) ∧ C < m ∧ -(m : Int) < x.tmod (m : Int) ∧ x.tmod (m : Int) < (m : Int) := by
  obtain ⟨C, hC⟩ := Int.eq_ofNat_of_zero_le (Int.emod_nonneg (x.tmod (m : Int)) (show (m : Int) ≠ 0 by omega))
  have h3 := Int.emod_lt_of_pos (x.tmod (m : Int)) (show (0 : Int) < m by omega)
  exact ⟨C, hC, by omega, Int.lt_tmod_of_pos x (by omega), Int.tmod_lt_of_pos x (by omega)⟩
set_option maxRecDepth 100000 in
set_option maxHeartbeats 6400000 in
theorem walk (W : World) (hT : Tab W) (A : Option Addr) (na ca : Nat) (f : Nat → Nat → Int) (hA : Recs W A na 3 (fun _ => .i64) f) (hna : na ≤ 9223372036854775807) : Holds Tryd.prog 4 #[.slice A na ca] W := by
  have HT := hide hT
  have HA := hide hA
  have HN : Hid (∀ w' : World, Calls Tryd.prog 8 #[.agg #[.int .i64 512, .int .i64 64, .int .i64 8, .int .i64 8, .int .i64 64, .int .i64 448]] w' fun e w'' => ∃ sb tg, e = .returned (.tuple #[.pointer (some ⟨sb, 0, none⟩), .int .i64 0]) ∧ SAt w'' tg sb 8 8 freshS ∧ Fr [] w' w'' ∧ Old w'.heap.size tg) := new_small
  have HSm : Hid (∀ w' : World, Calls Tryd.prog 16 #[] w' fun e w'' => e = .returned (.agg #[.int .i64 512, .int .i64 64, .int .i64 8, .int .i64 8, .int .i64 64, .int .i64 448]) ∧ Fr [] w' w'') := small_any
  have HZ : ∀ w, (zeroValue 46).run Tryd.prog w = .ok (.agg (Array.replicate 512 (.bool false))) w := fun w => by kernel_rfl
  clear hT hA
  unfold Holds
  go_enter Tryd.func4, Tryd.ntmps4
  go_wp2_with fail
  refine (awake11_any _ HT.out).mono ?_
  rintro e w0 ⟨rfl, hf⟩
  have HF0 := hide hf
  clear hf
  go_wp2_with fail
  refine (HSm.out _).mono ?_
  rintro e w1 ⟨rfl, hf⟩
  have HF1 := hide (HF0.out.trans_same hf)
  clear hf
  go_wp2_with fail
  refine (HN.out _).mono ?_
  rintro e w2 ⟨sb, tg, rfl, hs, hf, ho⟩
  have HK : Hid (KSt W (w2.alloc (.cells (Array.replicate 512 (.bool false)) 46)) w2.heap.size sb) := by
    refine ⟨freshS, fun _ _ => false, ⟨(HF1.out.trans_same hf).alloc _, by simp, (HF1.out.trans_same hf).size, tg, hs.fr0 ((Fr.refl _ _).alloc _), fun b hb => ho b (by have := HF1.out.size; omega), ?_⟩, ⟨_, Blk.new _ _ _, by simp, fun h c hh hc => ?_⟩, Keeps.fresh⟩
    · rcases Nat.eq_zero_or_pos (tg w2.heap.size).1 with h0 | h0
      · exact h0
      · exact absurd (hs.tok w2.heap.size (by omega)) (by omega)
    · rw [Array.getElem?_replicate, if_pos (by omega)]
  have HG : Hid (W.heap.size ≤ w2.heap.size) := (HF1.out.trans_same hf).size
  clear hs hf ho
  go_wp2_with fail
  clear HZ
  generalize w2.alloc (.cells (Array.replicate 512 (.bool false)) 46) = w3 at *
  obtain ⟨g, hg⟩ : ∃ g, g = w2.heap.size := ⟨_, rfl⟩
  rw [← hg] at HK HG ⊢
  clear hg
  go_loopw [6] (fun i wr => ∃ k : Nat, i = .int .i64 k ∧ k ≤ na ∧ k ≤ 300 ∧ KSt W wr g sb) (fun i _ => na - (intOf i).toNat)
  case atStart => exact ⟨0, rfl, Nat.zero_le _, by omega, HK.out⟩
  case round =>
    obtain ⟨k, rfl, hk, hk2, hst⟩ := hrel
    have HST := hide hst
    clear hst HK
    by_cases hlt : k < na ∧ k < 300
    · obtain ⟨hlt1, hlt2⟩ := hlt
      have hlt3 : (k : Int) < (na : Int) := by omega
      have hlt4 : (k : Int) < 300 := by omega
      obtain ⟨b0, off, rfl, hb0, hcl⟩ := HA.out (by omega)
      obtain ⟨σ, G, ho, hgr, hkp⟩ := HST.out
      have tr : ∀ j, wr.cell? ⟨b0, j, none⟩ = W.cell? ⟨b0, j, none⟩ := fun j => ho.1.cell (p := ⟨b0, j, none⟩) hb0 (by simp)
      have c0 := hcl k hlt1 0 (by decide)
      have c1 := hcl k hlt1 1 (by decide)
      have c2 := hcl k hlt1 2 (by decide)
      rw [← tr] at c0 c1 c2
      rw [Nat.add_zero] at c0
      rw [← Nat.add_assoc] at c1 c2
      generalize f k 0 = K at *
      generalize f k 1 = X at *
      generalize f k 2 = Y at *
      clear tr hcl
      obtain ⟨q, q1, q2, q3, q4⟩ := mod_of K 7 (by decide)
      obtain ⟨x, x1, x2, x3, x4⟩ := mod_of X 8 (by decide)
      obtain ⟨y, y1, y2, y3, y4⟩ := mod_of Y 64 (by decide)
      rw [show ((7 : Nat) : Int) = 7 from rfl] at q1 q3 q4
      rw [show ((8 : Nat) : Int) = 8 from rfl] at x1 x3 x4
      rw [show ((64 : Nat) : Int) = 64 from rfl] at y1 y3 y4
      have HX : Hid (Fr [] wr (wr.alloc (.cells #[.int .i64 K, .int .i64 X, .int .i64 Y] 36))) := (Fr.refl _ _).alloc _
      have HO := hide (ho.fr0 HX.out)
      have HGr := hide (hgr.fr HX.out (by simp))
      have HKp := hide hkp
      clear ho hgr hkp HST
      have hz7 : ∀ w, (zeroValue 45).run Tryd.prog w = .ok (.agg (Array.replicate 64 (.bool false))) w := fun w => by kernel_rfl
      rcases (show q = 4 ∨ q = 5 ∨ (¬ q = 4 ∧ ¬ q = 5) by omega) with rfl | rfl | ⟨n4, n5⟩
      focus
        have T1 := hide (HO.out.upd fun tg h => h.clear x2)
        go_wp2_with fail
        refine T1.out.mono ?_
        rintro e w5 ⟨rfl, ho, F, hf, hgF⟩
        have HG5 := hide (HGr.out.fr hf hgF)
        have HS5 := hide (HG5.out.there x2)
        have HJ : Hid (KSt W (w5.setCells g (x * 64) (Array.replicate 64 (.bool false)).toList) g sb) := by
          rw [Array.toList_replicate]
          exact ⟨_, _, ho.fr (Fr_setCells (by simp) _ _ _), HG5.out.row x2 false, HKp.out.clear x⟩
        clear ho hf hgF
        go_wp2_with (first | (refine wpList_store_mid rfl 45 _ _ rfl g (x * 64) (Array.replicate 64 (.bool false)) rfl rfl (by simpa using HS5.out) (by kernel_rfl) (by kernel_rfl) ?_; generalize w5.setCells g (x * 64) (Array.replicate 64 (Value.bool false)).toList = wz at HJ ⊢))
      rotate_left
      focus
        have T1 := hide (HO.out.upd fun tg h => h.scrub x2)
        go_wp2_with fail
        refine T1.out.mono ?_
        rintro e w5 ⟨rfl, ho, F, hf, hgF⟩
        have HO5 := hide ho
        have HG5 := hide (HGr.out.fr hf hgF)
        clear ho hf hgF
        go_wp2_with fail
        obtain ⟨wx, hwx⟩ : ∃ wx, wx = wr := ⟨_, rfl⟩
        subst hwx
        go_loopw [10] (fun i wr => ∃ (a : Nat) (G' : Nat → Nat → Bool), i = .int .i64 a ∧ a ≤ 8 ∧ OwnG W wr g sb (σ.scrub 8 x) ∧ Grid wr g G' ∧ ∀ p q, G' p q = if p < a ∧ q / 8 = x then false else G p q) (fun i _ => 8 - (intOf i).toNat)
        case atStart => exact ⟨0, G, rfl, Nat.zero_le _, HO5.out, HG5.out, fun p q => by rw [if_neg (by omega)]⟩
        obtain ⟨a, G', rfl, ha, ho, hgr, hG'⟩ := hrel
        have HO6 := hide ho
        have HG6 := hide hgr
        have HE6 := hide hG'
        clear ho hgr hG'
        by_cases hlt5 : a < 8
        focus
          have hlt6 : (a : Int) < 8 := by omega
          go_wp2_with fail
          obtain ⟨wy, hwy⟩ : ∃ wy, wy = wr := ⟨_, rfl⟩
          subst hwy
          go_loopw [11] (fun i wr => ∃ (b : Nat) (G'' : Nat → Nat → Bool), i = .int .i64 b ∧ 8 * x ≤ b ∧ b ≤ 8 * x + 8 ∧ OwnG W wr g sb (σ.scrub 8 x) ∧ Grid wr g G'' ∧ ∀ p q, G'' p q = if (p < a ∧ q / 8 = x) ∨ (p = a ∧ q / 8 = x ∧ q < b) then false else G p q) (fun i _ => 8 * x + 8 - (intOf i).toNat)
          case atStart => exact ⟨8 * x, G', by go_num, Nat.le_refl _, by omega, HO6.out, HG6.out, fun p q => by
            rw [HE6.out p q]
            by_cases h1 : p < a ∧ q / 8 = x
            · rw [if_pos h1, if_pos (.inl h1)]
            · rw [if_neg h1, if_neg (by omega)]⟩
          obtain ⟨b, G'', rfl, hb1, hb2, ho, hgr, hG''⟩ := hrel
          have HO7 := hide ho
          have HG7 := hide hgr
          have HE7 := hide hG''
          clear ho hgr hG''
          by_cases hlt7 : b < 8 * x + 8
          focus
            have hlt8 : (b : Int) < 8 * (x : Int) + 8 := by omega
            have kb : (b : Int) < 64 := by omega
            have kc := HG7.out.cell (a := a) (b := b) hlt5 (by omega)
            have kz := HG7.out.frozen (a * 64 + b)
            have HF8 : Hid (Fr [g] wr (wr.setCell ⟨g, a * 64 + b, none⟩ (.bool false))) := (Fr.refl _ _).setCell (p := ⟨g, a * 64 + b, none⟩) (.inl (by simp)) _
            have HO8 := hide (HO7.out.fr HF8.out)
            have HG8 := hide (HG7.out.put (a := a) (b := b) hlt5 (by omega) false)
            go_wp2_with fail
            go_roundw
            case rel => exact ⟨b + 1, _, by go_num, by omega, by omega, HO8.out, HG8.out, fun p q => by
              unfold set2
              by_cases h1 : p = a ∧ q = b
              · rw [if_pos h1, if_pos (by omega)]
              · rw [if_neg h1, HE7.out p q]
                by_cases h2 : (p < a ∧ q / 8 = x) ∨ (p = a ∧ q / 8 = x ∧ q < b)
                · rw [if_pos h2, if_pos (by omega)]
                · rw [if_neg h2, if_neg (by omega)]⟩
            case measure => simp [intOf]; omega
          have hlt8 : ¬ (b : Int) < 8 * (x : Int) + 8 := by omega
          go_wp2_with fail
          go_roundw
          case rel => exact ⟨a + 1, G'', by go_num, by omega, HO7.out, HG7.out, fun p q => by
            rw [HE7.out p q]
            by_cases h2 : (p < a ∧ q / 8 = x) ∨ (p = a ∧ q / 8 = x ∧ q < b)
            · rw [if_pos h2, if_pos (by omega)]
            · rw [if_neg h2, if_neg (by omega)]⟩
          case measure => simp [intOf]; omega
        obtain rfl : a = 8 := by omega
        have HJ : Hid (KSt W wr g sb) := ⟨_, _, HO6.out, HG6.out.congr (G' := fun p q => if q / 8 = x then false else G p q) (fun p q hp hq => by
          rw [HE6.out p q]
          by_cases h1 : q / 8 = x
          · rw [if_pos ⟨hp, h1⟩, if_pos h1]
          · rw [if_neg (fun h => h1 h.2), if_neg h1]), HKp.out.scrub x⟩
        go_wp2_with fail
        rw [show ((8 : Nat) : Int) = 8 from rfl]
        obtain ⟨wz, hwz⟩ : ∃ wz, wz = wr := ⟨_, rfl⟩
        subst hwz
      rotate_left
      focus
        have n4' : ¬ (q : Int) = 4 := by omega
        have n5' : ¬ (q : Int) = 5 := by omega
        obtain ⟨d, hd⟩ : ∃ d, y / 8 = d := ⟨_, rfl⟩
        have d1 : (y : Int).tdiv 8 = (d : Int) := by rw [Int.tdiv_eq_ediv_of_nonneg (by omega)]; omega
        have d2 : (y : Int) / 8 = (d : Int) := by omega
        have T1 := HO.out.upd fun tg h => h.add (x : Int) (y : Int)
        rw [addR_at x2 (by omega), hd] at T1
        have kc := HGr.out.cell (a := x) (b := y) x2 y2
        by_cases hdx : d = x
        focus
          rw [if_pos hdx] at T1
          have HT1 := hide T1
          have hb : ((d : Int) == (x : Int)) = true := by simp [hdx]
          clear T1
          go_wp2_with fail
          refine HT1.out.mono ?_
          rintro e w5 ⟨rfl, ho, F, hf, hgF⟩
          have HJ : Hid (KSt W w5 g sb) := ⟨σ, G, ho, HGr.out.fr hf hgF, HKp.out⟩
          clear ho hf hgF
          go_wp2_with fail
          obtain ⟨wz, hwz⟩ : ∃ wz, wz = w5 := ⟨_, rfl⟩
          subst hwz
        rotate_left
        rw [if_neg hdx] at T1
        have hb : ((d : Int) == (x : Int)) = false := by rw [beq_eq_false_iff_ne]; omega
        have main : ∃ (bo : Bool) (σ' : RS), Keeps 8 8 σ' (set2 G x y true) ∧ Calls Tryd.prog 19 #[.pointer (some ⟨sb, 0, none⟩), .int .i64 (x : Int), .int .i64 (y : Int)] (wr.alloc (.cells #[.int .i64 K, .int .i64 X, .int .i64 Y] 36)) fun e w' => e = .returned (.tuple #[.bool bo, .int .i64 0]) ∧ OwnG W w' g sb σ' ∧ ∃ F, Fr F (wr.alloc (.cells #[.int .i64 K, .int .i64 X, .int .i64 Y] 36)) w' ∧ g ∉ F := by
          by_cases hy : hasN σ 8 x y = true
          · rw [if_pos hy] at T1
            exact ⟨_, _, HKp.out.same hy, T1⟩
          · rw [if_neg hy] at T1
            exact ⟨_, _, HKp.out.add (by omega) (by simpa using hy), T1⟩
        obtain ⟨bo, σ', hkp', T2⟩ := main
        have HT2 := hide T2
        have HKp' := hide hkp'
        clear T1 T2 hkp'
        go_wp2_with fail
        refine HT2.out.mono ?_
        rintro e w5 ⟨rfl, ho, F, hf, hgF⟩
        have hg5 := HGr.out.fr hf hgF
        have kc5 := hg5.cell (a := x) (b := y) x2 y2
        have kz5 := hg5.frozen (x * 64 + y)
        have HF8 : Hid (Fr [g] w5 (w5.setCell ⟨g, x * 64 + y, none⟩ (.bool true))) := (Fr.refl _ _).setCell (p := ⟨g, x * 64 + y, none⟩) (.inl (by simp)) _
        have HJ : Hid (KSt W (w5.setCell ⟨g, x * 64 + y, none⟩ (.bool true)) g sb) := ⟨_, _, ho.fr HF8.out, hg5.put x2 y2 true, HKp'.out⟩
        clear ho hf hgF hg5
        go_wp2_with fail
        generalize w5.setCell ⟨g, x * 64 + y, none⟩ (.bool true) = wz at *
      all_goals
        go_loopw [14] (fun i wr => ∃ a : Nat, i = .int .i64 a ∧ a ≤ 8 ∧ KSt W wr g sb) (fun i _ => 8 - (intOf i).toNat)
        case atStart => exact ⟨0, rfl, Nat.zero_le _, HJ.out⟩
        obtain ⟨a, rfl, ha, hst⟩ := hrel
        by_cases hlt5 : a < 8
        focus
          have hlt6 : (a : Int) < 8 := by omega
          obtain ⟨σ2, G2, ho2, hg2, hk2'⟩ := hst
          have HO2 := hide ho2
          have HG2 := hide hg2
          have HK2 := hide hk2'
          clear ho2 hg2 hk2'
          go_wp2_with fail
          obtain ⟨wy, hwy⟩ : ∃ wy, wy = wr := ⟨_, rfl⟩
          subst hwy
          go_loopw [15, 16] (fun c r wr => ∃ b : Nat, r = .int .i64 b ∧ b ≤ 8 ∧ c = .int .i64 ((cnt (fun s => σ2.way a s == 2) 0 b : Nat) : Int) ∧ wr = wy) (fun _ r _ => 8 - (intOf r).toNat)
          case atStart => exact ⟨0, rfl, Nat.zero_le _, rfl, rfl⟩
          obtain ⟨b, rfl, hb, rfl, rfl⟩ := hrel
          by_cases hlt7 : b < 8
          focus
            have hlt8 : (b : Int) < 8 := by omega
            have T5 := hide (HO2.out.way a b (by omega) (by omega))
            have hcs : cnt (fun s => σ2.way a s == 2) 0 (b + 1) = cnt (fun s => σ2.way a s == 2) 0 b + if σ2.way a b == 2 then 1 else 0 := by
              show cnt _ 0 b + (if σ2.way a (0 + b) == 2 then 1 else 0) = _
              rw [Nat.zero_add]
            have hcl8 : cnt (fun s => σ2.way a s == 2) 0 b ≤ b := cnt_le _ _ _
            generalize cnt (fun s => σ2.way a s == 2) 0 b = cb at *
            generalize σ2.way a b = v at *
            have HCS := hide hcs
            clear hcs
            by_cases hv : v = 2
            · subst hv
              go_wp2_with fail
              refine T5.out.mono ?_
              rintro e w6 ⟨rfl, rfl⟩
              go_wp2_with fail
              go_roundw
              case rel => exact ⟨b + 1, by go_num, by omega, by rw [HCS.out]; go_num, by first | rfl | trivial⟩
              case measure => simp [intOf]; omega
            · have hv2 : ((v : Int) == 2) = false := by rw [beq_eq_false_iff_ne]; omega
              go_wp2_with fail
              refine T5.out.mono ?_
              rintro e w6 ⟨rfl, rfl⟩
              go_wp2_with fail
              go_roundw
              case rel => exact ⟨b + 1, by go_num, by omega, by rw [HCS.out, if_neg (by simpa using hv), Nat.add_zero], by first | rfl | trivial⟩
              case measure => simp [intOf]; omega
          obtain rfl : b = 8 := by omega
          have hf4 : cnt (fun s => σ2.way a s == 2) 0 8 ≤ 4 := HK2.out.fine a
          generalize cnt (fun s => σ2.way a s == 2) 0 8 = cb at *
          have hf5 : ¬ (cb : Int) > 4 := by omega
          go_wp2_with fail
          go_roundw
          case rel => exact ⟨a + 1, by go_num, by omega, σ2, G2, HO2.out, HG2.out, HK2.out⟩
          case measure => simp [intOf]; omega
        obtain rfl : a = 8 := by omega
        have HST8 := hide hst
        clear hst
        go_wp2_with fail
        go_roundw
        case rel => exact ⟨k + 1, by go_num, by omega, by omega, HST8.out⟩
        case measure => simp [intOf]; omega
    · rcases (show ¬ k < na ∨ (k < na ∧ ¬ k < 300) by omega) with hno | ⟨hyes, hno⟩
      focus
        have h1 : decide ((k : Int) < (na : Int)) = false := decide_eq_false (by omega)
        go_wp2_with fail
      rotate_left
      focus
        have h1 : (k : Int) < (na : Int) := by omega
        have h2 : decide ((k : Int) < 300) = false := decide_eq_false (by omega)
        go_wp2_with fail
      all_goals
        obtain ⟨wz, hwz⟩ : ∃ wz, wz = wr := ⟨_, rfl⟩
        subst hwz
        go_loopw [17] (fun i wr => ∃ a : Nat, i = .int .i64 a ∧ a ≤ 8 ∧ KSt W wr g sb) (fun i _ => 8 - (intOf i).toNat)
        case atStart => exact ⟨0, rfl, Nat.zero_le _, HST.out⟩
        obtain ⟨a, rfl, ha, hst⟩ := hrel
        have HS7 := hide hst
        clear hst
        by_cases hlt5 : a < 8
        focus
          have hlt6 : (a : Int) < 8 := by omega
          go_wp2_with fail
          obtain ⟨wy, hwy⟩ : ∃ wy, wy = wr := ⟨_, rfl⟩
          subst hwy
          go_loopw [18] (fun i wr => ∃ b : Nat, i = .int .i64 b ∧ b ≤ 64 ∧ KSt W wr g sb) (fun i _ => 64 - (intOf i).toNat)
          case atStart => exact ⟨0, rfl, Nat.zero_le _, HS7.out⟩
          obtain ⟨b, rfl, hb, hst⟩ := hrel
          by_cases hlt7 : b < 64
          focus
            have hlt8 : (b : Int) < 64 := by omega
            obtain ⟨σ, G, ho, hgr, hkp⟩ := hst
            have HO8 := hide ho
            have HG8 := hide hgr
            have HK8 := hide hkp
            obtain ⟨d, hd⟩ : ∃ d, b / 8 = d := ⟨_, rfl⟩
            have d1 : (b : Int).tdiv 8 = (d : Int) := by rw [Int.tdiv_eq_ediv_of_nonneg (by omega)]; omega
            have d2 : (b : Int) / 8 = (d : Int) := by omega
            have d8 : d < 8 := by omega
            have kc : ∀ w', Fr [] wr w' → w'.cell? ⟨g, a * 64 + b, none⟩ = some (.bool (G a b)) := fun w' hf => (hgr.fr hf (by simp)).cell hlt5 hlt7
            have kc0 := kc wr (Fr.refl _ _)
            have T1 := hide (fun w' (hf : Fr [] wr w') => (ho.fr0 hf).has a b (by omega) hlt7)
            have T2 := hide (fun w' (hf : Fr [] wr w') => (ho.fr0 hf).way a d (by omega) (by omega))
            have HC := hide kc
            have had := hkp.had a b
            have want := hkp.want a b
            have hok := ho.ok
            have hrel : (hasN σ 8 a b = false ∧ G a b = false) ∨ (hasN σ 8 a b = true ∧ d ≠ a ∧ σ.way a d ≠ 0 ∧ (σ.way a d = 3 ∨ (σ.way a d ≠ 3 ∧ G a b = true))) := by
              cases hh : hasN σ 8 a b with
              | false => exact .inl ⟨rfl, by
                  cases hG : G a b with
                  | false => rfl
                  | true => rw [had hG] at hh; cases hh⟩
              | true =>
                right
                have hw0 : σ.way a d ≠ 0 := fun h0 => by
                  rw [hasN_none hok (by rw [hd]; exact h0)] at hh; cases hh
                have hr := hok.rng a d hw0
                refine ⟨rfl, fun e => hr.2.2.1 e.symm, hw0, ?_⟩
                by_cases h3 : σ.way a d = 3
                · exact .inl h3
                · refine .inr ⟨h3, want ?_⟩
                  unfold hasN at hh
                  rw [hd] at hh
                  have : (σ.way a d == 3) = false := by simpa using h3
                  rw [this] at hh
                  simpa using hh
            clear ho hgr hkp kc had want hok
            generalize hasN σ 8 a b = hn at *
            generalize σ.way a d = v at *
            generalize G a b = gv at *
            have fin : ∀ (w' : World), Fr [] wr w' → KSt W w' g sb := fun w' hf => ⟨σ, G, HO8.out.fr0 hf, HG8.out.fr hf (by simp), HK8.out⟩
            have HFin := hide fin
            clear fin
            rcases hrel with ⟨rfl, rfl⟩ | ⟨rfl, hda, hv0, rfl | ⟨hv3, rfl⟩⟩
            · have A1 := hide (T1.out wr (Fr.refl _ _))
              go_wp2_with fail
              refine A1.out.mono ?_
              rintro e w6 ⟨rfl, hf⟩
              have HF6 := hide hf
              clear hf
              go_wp2_with fail
              go_roundw
              case rel => exact ⟨b + 1, by go_num, by omega, HFin.out _ HF6.out⟩
              case measure => simp [intOf]; omega
            · cases gv with
              | true =>
                have hda' : ((d : Int) == (a : Int)) = false := by rw [beq_eq_false_iff_ne]; omega
                have A1 := hide (T1.out wr (Fr.refl _ _))
                go_wp2_with fail
                refine A1.out.mono ?_
                rintro e w6 ⟨rfl, hf⟩
                have Hw6 : Hid (Fr [] wr w6) := (Fr.refl _ _ : Fr [] wr wr).trans_same hf
                have kcw6 := HC.out w6 Hw6.out
                clear hf
                have A2 := hide (T1.out w6 (Hw6.out))
                go_wp2_with fail
                refine A2.out.mono ?_
                rintro e w7 ⟨rfl, hf⟩
                have Hw7 : Hid (Fr [] wr w7) := (Hw6.out : Fr [] wr w6).trans_same hf
                have kcw7 := HC.out w7 Hw7.out
                clear hf
                have A3 := hide (T2.out w7 Hw7.out)
                go_wp2_with fail
                refine A3.out.mono ?_
                rintro e wu ⟨rfl, hu⟩
                subst hu
                go_wp2_with fail
                refine A3.out.mono ?_
                rintro e wu ⟨rfl, hu⟩
                subst hu
                go_wp2_with fail
                go_roundw
                case rel => exact ⟨b + 1, by go_num, by omega, HFin.out _ Hw7.out⟩
                case measure => simp [intOf]; omega
              | false =>
                have hda' : ((d : Int) == (a : Int)) = false := by rw [beq_eq_false_iff_ne]; omega
                have A2 := hide (T1.out wr (Fr.refl _ _))
                go_wp2_with fail
                refine A2.out.mono ?_
                rintro e w7 ⟨rfl, hf⟩
                have Hw7 : Hid (Fr [] wr w7) := (Fr.refl _ _ : Fr [] wr wr).trans_same hf
                have kcw7 := HC.out w7 Hw7.out
                clear hf
                have A3 := hide (T2.out w7 Hw7.out)
                go_wp2_with fail
                refine A3.out.mono ?_
                rintro e wu ⟨rfl, hu⟩
                subst hu
                go_wp2_with fail
                refine A3.out.mono ?_
                rintro e wu ⟨rfl, hu⟩
                subst hu
                go_wp2_with fail
                go_roundw
                case rel => exact ⟨b + 1, by go_num, by omega, HFin.out _ Hw7.out⟩
                case measure => simp [intOf]; omega
            · have hda' : ((d : Int) == (a : Int)) = false := by rw [beq_eq_false_iff_ne]; omega
              have hv0' : ((v : Int) == 0) = false := by rw [beq_eq_false_iff_ne]; omega
              have hv3' : ((v : Int) != 3) = true := by rw [bne_iff_ne]; omega
              have A1 := hide (T1.out wr (Fr.refl _ _))
              go_wp2_with fail
              refine A1.out.mono ?_
              rintro e w6 ⟨rfl, hf⟩
              have Hw6 : Hid (Fr [] wr w6) := (Fr.refl _ _ : Fr [] wr wr).trans_same hf
              have kcw6 := HC.out w6 Hw6.out
              clear hf
              have A2 := hide (T1.out w6 (Hw6.out))
              go_wp2_with fail
              refine A2.out.mono ?_
              rintro e w7 ⟨rfl, hf⟩
              have Hw7 : Hid (Fr [] wr w7) := (Hw6.out : Fr [] wr w6).trans_same hf
              have kcw7 := HC.out w7 Hw7.out
              clear hf
              have A3 := hide (T2.out w7 Hw7.out)
              go_wp2_with fail
              refine A3.out.mono ?_
              rintro e wu ⟨rfl, hu⟩
              subst hu
              go_wp2_with fail
              refine A3.out.mono ?_
              rintro e wu ⟨rfl, hu⟩
              subst hu
              go_wp2_with fail
              go_roundw
              case rel => exact ⟨b + 1, by go_num, by omega, HFin.out _ Hw7.out⟩
              case measure => simp [intOf]; omega
          obtain rfl : b = 64 := by omega
          have HS9 := hide hst
          clear hst
          go_wp2_with fail
          go_roundw
          case rel => exact ⟨a + 1, by go_num, by omega, HS9.out⟩
          case measure => simp [intOf]; omega
        obtain rfl : a = 8 := by omega
        go_wp2_with fail
        go_ret
        obtain ⟨σ, G, ho, _⟩ := HS7.out
        exact ⟨rfl, ho.1.below_nil⟩
theorem act_fields : ∃ fs : Array Field, Tryd.prog.underlying 36 = some (.struct fs) ∧ oneCellFields Tryd.prog fs = true ∧ Tryd.prog.cellsOf 36 = fs.size ∧ fs.size = 3 ∧ ∀ (j : Nat) f, fs[j]? = some f → Tryd.prog.underlying f.type = some (.int .i64) :=
  ⟨_, Tryd.underlying36, by kernel_rfl, by kernel_rfl, by kernel_rfl, by
    intro j f hf
    match j, hf with
    | 0, hf => simp at hf; subst hf; exact Tryd.underlying3
    | 1, hf => simp at hf; subst hf; exact Tryd.underlying3
    | 2, hf => simp at hf; subst hf; exact Tryd.underlying3
    | j + 3, hf => simp at hf⟩
set_option maxRecDepth 100000 in
theorem open_acts {H : Type} {enc : TypeId × Value → H} {W : World} {r : Reach} {b : Nat} {v : Value} {d : DataW H} {p : List MemPlace}
    (hv : Value.okWide Tryd.prog W r b 24 v) (h : DataW.Trod enc Tryd.prog W 0 (fun _ => true) true 24 v d p) :
    ∃ A n c f, v = .slice A n c ∧ n ≤ maxLen ∧ Recs W A n 3 (fun _ => .i64) f := by
  obtain ⟨fs, e1, e2, e3, e4, e5⟩ := act_fields
  obtain ⟨A, n, c, f, h1, h2, h3, _⟩ := open_recs (ks := fun _ => .i64) Tryd.underlying24 e1 e2 e3 (by omega) e5 hv h
  rw [e4] at h3
  exact ⟨A, n, c, f, h1, h2, h3⟩
set_option maxRecDepth 100000 in
theorem holds {H : Type} {enc : TypeId × Value → H} {W : World} {base : Nat} {args : Array Value} {ds : List (DataW H)} {p : List MemPlace}
    (hval : ∀ (j : Nat) t v, Tryd.f4.params[j]? = some t → args[j]? = some v → Value.okWide Tryd.prog W .any base t v)
    (hA : DataW.TrodAll enc Tryd.prog W 0 (fun _ => true) true Tryd.f4.params.toList args.toList ds p) (hT : Tab W) : Holds Tryd.prog 4 args W := by
  rw [Tryd.params4] at hA hval
  obtain ⟨v0, vs0, d0, ds0, p0, q0, hargs, rfl, rfl, h0, r0⟩ := trodAll_cons hA
  obtain ⟨rfl, rfl, rfl⟩ := trodAll_nil r0
  obtain rfl : args = #[v0] := by cases args; simp_all
  obtain ⟨A, na, ca, f, rfl, hna, hA1⟩ := open_acts (hval 0 24 v0 rfl rfl) h0
  exact walk W hT A na ca f hA1 (by unfold maxLen at hna; omega)
set_option maxRecDepth 100000 in
theorem readable : ∀ t, t ∈ Tryd.f4.params.toList → Tryd.prog.readableRec t = true ∧ t < Tryd.prog.types.size := by
  intro t ht
  rw [Tryd.params4] at ht
  have hm : t = 24 := by simp at ht; omega
  rcases hm with rfl
  all_goals exact ⟨by kernel_rfl, of_decide_eq_true (by kernel_rfl)⟩
set_option maxRecDepth 100000 in
theorem laid_met (os : Os) : laidMet Tryd.prog Rows.remsetKeepsRow.laid ((laidWorld os).forCall (fun _ _ => 0) ⟨#[], #[.slice none 0 0], []⟩).memory :=
  laidMet_of_run' 8 (by kernel_rfl) (by kernel_rfl)
set_option maxRecDepth 100000 in
theorem reads (os : Os) {H : Type} (enc : TypeId × Value → H) : ∃ places, DataW.whole enc Tryd.prog ((laidWorld os).forCall (fun _ _ => 0) ⟨#[], #[.slice none 0 0], []⟩).memory Tryd.f4.params.toList Rows.remsetKeepsSpec.vars false (#[.slice none 0 0] : Array Value).toList 8 = some ([.nil], [], places) :=
  ⟨[], by kernel_rfl⟩
theorem spec {H : Type} : ∀ ds : List (DataW H), ds.length = Tryd.f4.params.toList.length → Rows.remsetKeepsSpec.fn H (ds ++ []) = { results := [.lit (.bool true)], args := ds, vars := [] } := by
  intro ds h
  rw [Tryd.params4] at h
  simp only [List.append_nil]
  match ds, h with
  | [_], _ => rfl

set_option maxRecDepth 100000 in
theorem lifted (os : Os) (started : os.Started) (H : Type) (enc : TypeId × Value → H) (F : Stop.Interp) :
    ReturnsInHanded {} Tryd.checked os 4 .any ((OpenSpec.ofChange Rows.remsetKeepsSpec).preRow enc Tryd.prog Tryd.f4 Rows.remsetKeepsRow.domain false Rows.remsetKeepsRow.laid) (((OpenSpec.ofChange Rows.remsetKeepsSpec).at F).post enc Tryd.prog Tryd.f4 false true false false) := by
  obtain ⟨places, hx⟩ := reads os enc
  refine returnsInHanded_of_row (C := Tryd.checked) (s := OpenSpec.ofChange Rows.remsetKeepsSpec) own started (by kernel_rfl) Tryd.func4
    (witness_row_at (enc := enc) (C := Tryd.checked) false (laidWorld os) #[.slice none 0 0] rfl (by kernel_rfl) (by kernel_rfl) (by kernel_rfl)
      (OpenSpec.preRow_of_cond 8 hx (by kernel_rfl) (fun k hk => by cases hk) (by kernel_rfl) (laid_met os))) ?_
  intro W base args ds gs before hval hW _ _ _ hL _ _
  have hW' : DataW.Whole enc Tryd.prog Tryd.f4.params.toList Rows.remsetKeepsSpec.vars false W args.toList ds gs before := hW
  exact law_close (s := Rows.remsetKeepsSpec) rfl rfl Tryd.underlying4 spec laidOut readable hW' (by
    obtain ⟨p, q, hA, _⟩ := hW'
    exact holds hval hA (table hL))

theorem said : Rows.RemsetKeepsSaid :=
  OpenClaim.holds_of_cond 4 Tryd.f4 rfl rfl rfl rfl rfl rfl rfl ⟨rfl, rfl, rfl, rfl, rfl⟩ rfl rfl rfl rfl rfl (by kernel_rfl) Tryd.func4 (by kernel_rfl)
    (of_decide_eq_true (by kernel_rfl)) (by unfold Func.isWrapper; first | (rw [if_pos (by decide +kernel)]; kernel_rfl) | (rw [if_neg (by decide +kernel)]; exact ⟨rfl, rfl⟩))
    (fun os started H enc _ F => by rw [OpenClaim.pre_eq_preRow]; exact lifted os started H enc F)

/-- No parameter wants a stand-in; the program's own looks are off. -/
theorem plain (f : FuncId) (fn : Func) (hf : Tryd.pinned.checked.prog.funcNamed "gleaner/gleanerlaw11.RemsetKeeps" = some f) (hfn : Tryd.pinned.checked.prog.funcs[f]? = some fn) :
    false = Tryd.pinned.checked.prog.looks [] ∧ ∀ (j : Nat) t, fn.params[j]? = some t → Tryd.pinned.checked.prog.wantsStandIn t = false := by
  obtain rfl : f = 4 := Option.some.inj ((show Tryd.prog.funcNamed "gleaner/gleanerlaw11.RemsetKeeps" = some 4 by kernel_rfl).symm.trans hf) |>.symm
  obtain rfl : fn = Tryd.f4 := (Option.some.inj (Tryd.func4.symm.trans hfn)).symm
  refine ⟨by kernel_rfl, fun j t ht => ?_⟩
  rw [Tryd.params4] at ht
  have hm : t = 24 := by have := Array.mem_of_getElem? ht; simp at this; omega
  rcases hm with rfl
  · exact (show Tryd.prog.wantsStandIn 24 = false by kernel_rfl)

/-- The card. -/
theorem card : Rows.RemsetKeepsCardSaid :=
  Claim7.holds_tied_plain_at .later [] _ _ _ _ said (fun _ h => by cases h) (by kernel_rfl) (fun _ h => by cases h) remsetKeeps_row_tie rfl ⟨rfl, rfl⟩ (by kernel_rfl) rfl plain (by kernel_rfl)
end Go.Proofs.YtkbffmmomoeaiaaDoor.RemsetKeeps
