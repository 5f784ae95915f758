/- Package remset: list. -/
import Derived.Test.YtkbffmmomoeaiaaDoorSt
import Derived.Test.YtkbffmmomoeaiaaDoorB3
import Derived.Test.YtkbffmmomoeaiaaDoorTz
import Derived.Deep.RegionHeld3
import Derived.Deep.CutRange
namespace Go.Proofs.YtkbffmmomoeaiaaDoor
set_option linter.unusedVariables false
set_option linter.unusedSimpArgs false
open Go.RowKit Go.Gl

/-- Strictly rising lists with the same members. -/
theorem up_ext : ∀ {a b : List Int}, a.Pairwise (· < ·) → b.Pairwise (· < ·) → (∀ x, x ∈ a ↔ x ∈ b) → a = b
  | [], [], _, _, _ => rfl
  | [], y :: b, _, _, h => absurd ((h y).2 (by simp)) (by simp)
  | x :: a, [], _, _, h => absurd ((h x).1 (by simp)) (by simp)
  | x :: a, y :: b, ha, hb, h => by
    rw [List.pairwise_cons] at ha hb
    have h1 : x = y := by
      have p1 := (h x).1 (by simp)
      have p2 := (h y).2 (by simp)
      rw [List.mem_cons] at p1 p2
      rcases p1 with p1 | p1
      · exact p1
      rcases p2 with p2 | p2
      · exact p2.symm
      have := hb.1 x p1
      have := ha.1 y p2
      omega
    subst h1
    refine congrArg (x :: ·) (up_ext ha.2 hb.2 fun z => ?_)
    have := h z
    rw [List.mem_cons, List.mem_cons] at this
    constructor
    · intro hz
      have h2 := ha.1 z hz
      rcases this.1 (.inr hz) with h3 | h3
      · omega
      · exact h3
    · intro hz
      have h2 := hb.1 z hz
      rcases this.2 (.inr hz) with h3 | h3
      · omega
      · exact h3
/-- The cards of a source below its k'th that p has. -/
def part (per s : Nat) (p : Nat → Bool) (k : Nat) : List Int := ((List.range k).filter p).map fun i => ((s * per + i : Nat) : Int)
theorem part_zero (per s : Nat) (p : Nat → Bool) : part per s p 0 = [] := rfl
theorem part_yes {per s : Nat} {p : Nat → Bool} {k : Nat} (h : p k = true) : part per s p (k + 1) = part per s p k ++ [((s * per + k : Nat) : Int)] := by
  unfold part
  rw [List.range_succ, List.filter_append, List.map_append]
  simp [h]
theorem part_no {per s : Nat} {p : Nat → Bool} {k : Nat} (h : p k = false) : part per s p (k + 1) = part per s p k := by
  unfold part
  rw [List.range_succ, List.filter_append, List.map_append]
  simp [h]
theorem part_skip {per s : Nat} {p : Nat → Bool} {k : Nat} : ∀ d, (∀ j, k ≤ j → j < k + d → p j = false) → part per s p (k + d) = part per s p k
  | 0, _ => rfl
  | d + 1, h => by rw [← Nat.add_assoc, part_no (h (k + d) (by omega) (by omega)), part_skip d fun j h1 h2 => h j h1 (by omega)]
theorem part_to {per s : Nat} {p : Nat → Bool} {k m : Nat} (hkm : k ≤ m) (h : ∀ j, k ≤ j → j < m → p j = false) : part per s p m = part per s p k := by
  obtain ⟨d, rfl⟩ := Nat.exists_eq_add_of_le hkm
  exact part_skip d h
theorem part_len (per s : Nat) (p : Nat → Bool) (k : Nat) : (part per s p k).length ≤ k := by
  unfold part
  rw [List.length_map]
  exact Nat.le_trans (List.length_filter_le _ _) (by simp)
theorem part_mem {per s : Nat} {p : Nat → Bool} {k : Nat} {x : Int} : x ∈ part per s p k ↔ ∃ i, i < k ∧ p i = true ∧ x = ((s * per + i : Nat) : Int) := by
  unfold part
  rw [List.mem_map]
  constructor
  · rintro ⟨i, hi, rfl⟩
    obtain ⟨h1, h2⟩ := List.mem_filter.1 hi
    exact ⟨i, List.mem_range.1 h1, h2, rfl⟩
  · rintro ⟨i, h1, h2, rfl⟩
    exact ⟨i, List.mem_filter.2 ⟨List.mem_range.2 h1, h2⟩, rfl⟩
theorem part_up (per s : Nat) (p : Nat → Bool) (k : Nat) : (part per s p k).Pairwise (· < ·) := by
  unfold part
  refine List.pairwise_map.2 ((List.Pairwise.filter _ List.pairwise_lt_range).imp fun {a b} h => by omega)
theorem part_congr {per s : Nat} {p q : Nat → Bool} {k : Nat} (h : ∀ i, i < k → p i = q i) : part per s p k = part per s q k := by
  unfold part
  congr 1
  refine List.filter_congr fun i hi => h i (List.mem_range.1 hi)
/-- The cards that the home h has of the source s. -/
def cardsOf (σ : RS) (per h s : Nat) : List Int := part per s (fun i => hasN σ per h (s * per + i)) per
def ListPost (w : World) (G0 : List Nat) (xs : List Int) (e : Ending) (w' : World) : Prop :=
  ∃ A c G, e = .returned (.slice A xs.length c) ∧ Lr w' 3 A xs.length c G (zv xs) ∧ Fr G0 w w' ∧ ∀ g, g ∈ G → g ∈ G0 ∨ w.heap.size ≤ g
def toCome (per : Nat) (v : Value) : Nat := if intOf v < 0 then 0 else per - (intOf v).toNat
theorem toCome_end (per : Nat) : toCome per (.int .i64 (-1)) = 0 := by unfold toCome; exact if_pos (by decide)
theorem toCome_at (per R : Nat) : toCome per (.int .i64 (R : Int)) = per - R := by
  have h : ¬ intOf (.int .i64 (R : Int)) < 0 := by show ¬ (R : Int) < 0; omega
  unfold toCome; rw [if_neg h]; rfl
theorem next_part {ws : List Nat} {per s k : Nat} {p : Nat → Bool} {r : Int} (hp : ∀ i, i < per → wbit ws i = p i) (top : ∀ i, per ≤ i → wbit ws i = false) (hk : k ≤ per) (h : NextIs ws (k : Int) r) :
    (r = -1 ∧ part per s p per = part per s p k) ∨ ∃ R : Nat, r = (R : Int) ∧ R < per ∧ k ≤ R ∧ p R = true ∧ part per s p R = part per s p k := by
  rcases h with ⟨rfl, h⟩ | ⟨R, rfl, h1, h2, h3⟩
  · exact .inl ⟨rfl, part_to hk fun j h1 h2 => by rw [← hp j h2]; exact h j (by omega)⟩
  · have hR : R < per := by
      rcases Nat.lt_or_ge R per with h | h
      · exact h
      · rw [top R h] at h2; cases h2
    exact .inr ⟨R, rfl, hR, by omega, by rw [← hp R hR]; exact h2, part_to (by omega) fun j a b => by rw [← hp j (by omega)]; exact h3 j (by omega) b⟩
section
variable {w : World} {tg : Tg} {sb kb sB hB fB per n : Nat} {σ : RS} {fk : Value → Option Value} {Vs Vh Vf : Nat → Value}
set_option maxRecDepth 100000 in
set_option maxHeartbeats 3200000 in
theorem rlist_any (H : Rs w tg sb kb sB hB fB per n σ fk Vs Vh Vf) (hT : Tab w) {h s : Nat} (hh : h < n) (hs : s < n) (hw : σ.way h s ≠ 0) {A0 : Option Addr} {c0 : Nat} {G0 : List Nat} {l : List Int} (hL : Lr w 3 A0 l.length c0 G0 (zv l)) (hG : ∀ g, g ∈ G0 → (tg g).1 = 0) (hTG : 0 ∉ G0) (hlen : l.length + per ≤ 16777216) :
    Calls Tryd.prog 29 #[.pointer (some ⟨sb, 0, none⟩), .slice A0 l.length c0, .agg #[.int .i64 (h : Int), .int .i64 (s : Int)]] w (ListPost w G0 (l ++ cardsOf σ per h s)) := by
  have hd := H.ok.dim
  have hn := hd.n2
  have hp3 := hd.p3
  have hsp : s * per + per ≤ n * per := by rw [← Nat.succ_mul]; exact Nat.mul_le_mul_right _ hs
  have hnp := hd.p2
  obtain ⟨lt, hlt⟩ := pairKey (h : Int) (s : Int) (wf_nat (by omega)) (wf_nat (by omega))
  have c1 := H.st.c1
  have c2 := H.st.c2
  have N0 : sb < w.heap.size := Blk.lt H.st
  obtain ⟨v, hv, hm⟩ := H.kn.mem h s hh hs hw
  have HL : Hid (∀ w', Fr [] w w' → (Instr.lookup 55 (.map (some kb)) (.agg #[.int .i64 (h : Int), .int .i64 (s : Int)]) false).run Tryd.prog w' = .ok v w') := fun w' hf => by
    have := (H.kn.mp.fr0 hf).look Tryd.pairLaw Tryd.underlying55 (zeroMem w') hlt
    rw [hv] at this; exact this
  have hmw : ∀ w', Fr [] w w' → MemIs w' tg per (σ.has h) (σ.way h s) h s v := fun w' hf => hm.fr hf (fun _ hb => by cases hb) (TgUp.refl _ _)
  obtain ⟨W, A, ln, ca, k, rfl⟩ : ∃ (W : Int) (A : Option Addr) (ln ca : Nat) (k : Option Addr), v = .agg #[.int .i64 W, .slice A ln ca, .pointer k] := by
    rcases hm with ⟨e, A, c, G, l, rfl, _⟩ | ⟨e, bs, bw, ws, rfl, _⟩ | ⟨e, rfl⟩
    · exact ⟨1, A, _, c, none, rfl⟩
    · exact ⟨2, none, 0, 0, _, rfl⟩
    · exact ⟨3, none, 0, 0, none, rfl⟩
  obtain ⟨SP, hSP⟩ : ∃ SP, s * per = SP := ⟨_, rfl⟩
  have hmul : IntKind.i64.wrap ((s : Int) * (per : Int)) = (SP : Int) := by
    have e : (s : Int) * (per : Int) = ((s * per : Nat) : Int) := (Int.natCast_mul s per).symm
    rw [e, hSP, IntKind.wrap_i64]
    omega
  have HSP := hide hSP
  have L1 := HL.out ((w.alloc (.cells #[.int .i64 (h : Int), .int .i64 (s : Int)] 76))).drew (((Fr.refl _ _).alloc _).drew)
  have L2 := fun o => HL.out (((w.alloc (.cells #[.int .i64 (h : Int), .int .i64 (s : Int)] 76))).alloc o).drew ((((Fr.refl _ _).alloc _).alloc o).drew)
  have KK : ∀ w', Fr [] (w.alloc (.cells #[.int .i64 (h : Int), .int .i64 (s : Int)] 76)) w' → w'.cell? ⟨sb, 1, none⟩ = some (.int .i64 (per : Int)) ∧ w'.cell? ⟨sb, 2, none⟩ = some (.map (some kb)) ∧ w'.cell? ⟨w.heap.size, 0, none⟩ = some (.int .i64 (h : Int)) ∧ w'.cell? ⟨w.heap.size, 1, none⟩ = some (.int .i64 (s : Int)) := fun w' hf => by
    have hb := (Blk.new w 76 #[.int .i64 (h : Int), .int .i64 (s : Int)]).fr hf (by simp)
    have hf0 := ((Fr.refl [] w).alloc _).trans_same hf
    exact ⟨(hf0.cell N0 (by simp)).trans c1, (hf0.cell N0 (by simp)).trans c2, hb.cell 0, hb.cell 1⟩
  have K0 := KK _ ((Fr.refl _ _).drew)
  have K1 := fun o => KK _ (((Fr.refl _ _).alloc o).drew)
  have HH := hide H
  have HMW := hide hmw
  have HLr := hide hL
  have HGd := hide hG
  have HT := hide hT
  have HTG := hide hTG
  have HLen := hide hlen
  have HB : Hid (SP + per ≤ 4194304 ∧ per ≤ 4194304 ∧ 1 ≤ per) := ⟨by omega, hp3, hd.p1⟩
  have HMul := hide hmul
  clear H HL hm hmw KK hL hG hT hTG hd hlen hsp hnp c1 c2 hlt hv hSP
  go_enter Tryd.func29, Tryd.ntmps29
  go_wp2_with fail
  go_cut [7, 8] from 11 to 23 (fun p q wx => p = .pointer (some ⟨w.heap.size + 1, 0, none⟩) ∧ q = .int .i64 (SP : Int) ∧ wx = ((w.alloc (.cells #[.int .i64 (h : Int), .int .i64 (s : Int)] 76)).alloc (.cells #[.int .i64 W, .slice A ln ca, .pointer k] 82)).drew)
  case first =>
    go_region_held3 (fun w' => w'.cell? ⟨sb, 1, none⟩ = some (.int .i64 (per : Int)) ∧ w'.cell? ⟨sb, 2, none⟩ = some (.map (some kb)) ∧ w'.cell? ⟨w.heap.size, 0, none⟩ = some (.int .i64 (h : Int)) ∧ w'.cell? ⟨w.heap.size, 1, none⟩ = some (.int .i64 (s : Int)))
      (first | with_reducible exact K0 | with_reducible exact K1 _)
      (first | fail)
    all_goals
      go_wp2_with fail
      go_meet
      case rel => exact ⟨rfl, rfl, rfl⟩
  case rest =>
    obtain ⟨rfl, rfl, rfl⟩ := hcut
    have hF : Fr [] w ((w.alloc (.cells #[.int .i64 (h : Int), .int .i64 (s : Int)] 76)).alloc (.cells #[.int .i64 W, .slice A ln ca, .pointer k] 82)).drew := (((Fr.refl _ _).alloc _).alloc _).drew
    have hb := (Blk.new_at (w := w.alloc (.cells #[.int .i64 (h : Int), .int .i64 (s : Int)] 76)) (n := w.heap.size + 1) 82 #[.int .i64 W, .slice A ln ca, .pointer k] (by simp)).drew
    have hb0 := hb.cell 0
    have hb1 := hb.cell 1
    have hb2 := hb.cell 2
    simp only [List.getElem?_toArray, List.getElem?_cons_zero, List.getElem?_cons_succ] at hb0 hb1 hb2
    have hm := HMW.out _ hF
    have hst := HH.out.st.fr hF (by simp)
    have hl2 := HLr.out.fr0 hF
    have hT2 := HT.out.fr hF (by simp)
    have hHn : ∀ i, i < per → (s * per + i) / per = s := fun i hi => by
      rw [Nat.mul_comm, Nat.mul_add_div (by omega), Nat.div_eq_of_lt hi, Nat.add_zero]
    have hi0 := Tryd.info_int
    obtain ⟨i0, hi, hz0, hz1, hz2⟩ := info_parts Tryd.info_int
    have hGw : ∀ g, g ∈ G0 → g < w.heap.size := HLr.out.lt
    have hsz : w.heap.size + 1 < (((w.alloc (.cells #[.int .i64 (h : Int), .int .i64 (s : Int)] 76)).alloc (.cells #[.int .i64 W, .slice A ln ca, .pointer k] 82)).drew).heap.size := hb.lt
    have c1 := hst.c1
    have HS := hide hst
    have HFw := hide hF
    have HHn := hide hHn
    have HGw := hide hGw
    have HL2 := hide hl2
    have HT2 := hide hT2
    clear K0 K1 L1 L2 hF hb hst hHn hGw hl2 hT2 hi0 HMW HLr HT
    generalize ((w.alloc (.cells #[.int .i64 (h : Int), .int .i64 (s : Int)] 76)).alloc (.cells #[.int .i64 W, .slice A ln ca, .pointer k] 82)).drew = w2 at *
    rcases hm with ⟨e, A1, c1', G1, l1, ev, hl1, hg1, hfew⟩ | ⟨e, bs, bw, ws, ev, hset, hgs, hgw, hbits⟩ | ⟨e, ev⟩
    · simp only [memOf, Value.agg.injEq, Array.mk.injEq, List.cons.injEq, Value.int.injEq, Value.slice.injEq, Value.pointer.injEq, and_true, true_and] at ev
      obtain ⟨rfl, ⟨rfl, rfl, rfl⟩, rfl⟩ := ev
      have hE : l1 = cardsOf σ per h s := up_ext hfew.up (part_up _ _ _ _) fun x => by
        unfold cardsOf
        rw [part_mem, hfew.mem]
        constructor
        · rintro ⟨c, rfl, h1, h2⟩
          have h3 := Nat.div_add_mod c per
          have h4 := Nat.mod_lt c HB.out.2.2
          rw [h1, Nat.mul_comm] at h3
          refine ⟨c % per, h4, ?_, by rw [h3]⟩
          rw [h3]
          unfold hasN
          rw [h2, Bool.or_true]
        · rintro ⟨i, h1, h2, rfl⟩
          refine ⟨_, rfl, HHn.out i h1, ?_⟩
          unfold hasN at h2
          rw [HHn.out i h1, e] at h2
          simpa using h2
      have HE := hide hE
      have HX := hide (Lr.read hl1)
      have HN : Hid ((zv l1).length = l1.length ∧ ∀ u ∈ zv l1, u.oneCell' = true) := ⟨zv_len _, zv_one _⟩
      have HM1 : Hid (l1.length ≤ 4) := hfew.len
      clear hE hl1 hg1 hfew e
      go_wp2_with (first | (at_builtin; refine wpList_append_lr rfl _ _ 37 rfl 3 i0 (.int .i64 0) 8 Tryd.underlying37 hi hz0 hz1 hz2 rfl rfl HL2.out rfl HN.out.1 HX.out HN.out.2 (by have := HM1.out; have := HLen.out; unfold maxLen; omega) (by have := HM1.out; have := HLen.out; omega) ?_; intro A3 c3 G3 w3 HL3 HF3 HG3))
      go_ret
      have h2 := HL3.out
      rw [← zv_app, show l.length + l1.length = (l ++ l1).length by simp, HE.out] at h2
      refine ⟨A3, c3, G3, by rw [HE.out]; simp, h2, (HFw.out.mono (fun x hx => by cases hx)).trans_same HF3.out, fun g hg => ?_⟩
      rcases HG3.out g hg with h | ⟨h, _⟩
      · exact .inl h
      · have := HFw.out.size; exact .inr (by omega)
    · simp only [memOf, Value.agg.injEq, Array.mk.injEq, List.cons.injEq, Value.int.injEq, Value.slice.injEq, Value.pointer.injEq, and_true, true_and] at ev
      obtain ⟨rfl, ⟨rfl, rfl, rfl⟩, rfl⟩ := ev
      have HP : Hid (∀ i, i < per → wbit ws i = hasN σ per h (s * per + i)) := fun i hi => by
        rw [hbits i hi]
        unfold hasN
        rw [HHn.out i hi, e]
        rfl
      have HNx : Hid (∀ wr, Fr G0 w2 wr → ∀ i : Int, Calls Tryd.prog 44 #[.pointer (some ⟨bs, 0, none⟩), .int .i64 i] wr (NextPost ws i wr)) := fun wr hf i =>
        next_any (hset.fr hf (fun hg => by have := HGd.out _ hg; rw [hgs] at this; cases this) (fun hg => by have := HGd.out _ hg; rw [hgw] at this; cases this)) (HT2.out.fr hf HTG.out) i
      have HTop : Hid (∀ i, per ≤ i → wbit ws i = false) := hset.top
      clear hset hgs hgw hbits e
      have HN0 := hide (HNx.out w2 (Fr.refl _ _) 0)
      go_wp2_with (go_at_call 44; refine HN0.out.mono ?_; rintro e w' ⟨r, rfl, rfl, hr⟩; have HR0 := hide hr; clear hr)
      obtain ⟨pp, hpp⟩ : ∃ pp : Nat → Bool, (fun i => hasN σ per h (s * per + i)) = pp := ⟨_, rfl⟩
      have HC : Hid (cardsOf σ per h s = part per s pp per) := by show _ = _; unfold cardsOf; rw [hpp]
      have HPp : Hid (∀ i, i < per → wbit ws i = pp i) := fun i hi => by rw [← hpp]; exact HP.out i hi
      have hr := next_part (s := s) HPp.out HTop.out (Nat.zero_le _) HR0.out
      have HRr := hide hr
      clear HR0 HN0 hr hpp HP
      go_loopw [1, 9] (fun v i wr => ∃ (A2 : Option Addr) (c2 : Nat) (G2 : List Nat) (xs : List Int), v = .slice A2 (l ++ xs).length c2 ∧ Lr wr 3 A2 (l ++ xs).length c2 G2 (zv (l ++ xs)) ∧ Fr G0 w2 wr ∧ (∀ g, g ∈ G2 → g ∈ G0 ∨ w2.heap.size ≤ g) ∧ xs.length ≤ per ∧ ((i = .int .i64 (-1) ∧ xs = part per s pp per) ∨ ∃ R : Nat, i = .int .i64 R ∧ R < per ∧ pp R = true ∧ xs = part per s pp R)) (fun _ i _ => toCome per i)
      case atStart =>
        refine ⟨A0, c0, G0, [], by simp, by simpa using HL2.out, Fr.refl _ _, fun g hg => .inl hg, by simp, ?_⟩
        rcases HRr.out with ⟨rfl, h1⟩ | ⟨R, rfl, h1, _, h2, h3⟩
        · exact .inl ⟨rfl, by rw [h1]; rfl⟩
        · exact .inr ⟨R, rfl, h1, h2, by rw [h3]; rfl⟩
      case round =>
        obtain ⟨A2, c2, G2, xs, rfl, hl, hf, hg, hxl, hrel⟩ := hrel
        have HLx := hide hl
        have HFx := hide hf
        have HGx := hide hg
        have hb2r := (hf.cell (p := ⟨w.heap.size + 1, 2, none⟩) hsz (fun hg => by have := HGw.out _ hg; simp at this; omega)).trans hb2
        clear hl hf hg
        rcases hrel with ⟨rfl, rfl⟩ | ⟨R, rfl, hR, hpR, rfl⟩
        · go_wp2_with fail
          go_ret
          rw [HC.out]
          exact ⟨A2, c2, G2, rfl, HLx.out, (HFw.out.mono (fun x hx => by cases hx)).trans_same HFx.out, fun g hg => by
            rcases HGx.out g hg with h | h
            · exact .inl h
            · have := HFw.out.size; exact .inr (by omega)⟩
        · have HLn : Hid ((l ++ part per s pp R).length ≤ 16777215) := by
            have := part_len per s pp R
            have := HLen.out
            show _ ≤ _
            rw [List.length_append]; omega
          have hlen2 : (l ++ part per s pp R).length + 1 = (l ++ part per s pp (R + 1)).length := by rw [part_yes hpR]; simp; omega
          have HLe := hide hlen2
          have HZ : Hid (zv (l ++ part per s pp R) ++ [.int .i64 ((SP : Int) + (R : Int))] = zv (l ++ part per s pp (R + 1))) := by
            rw [part_yes hpR, HSP.out, ← List.append_assoc, zv_app (l ++ part per s pp R), Int.natCast_add]; rfl
          have hB1 : (SP : Int) + (R : Int) ≤ 4194304 := by have := HB.out.1; omega
          have hR0 : (R : Int) ≥ 0 := by omega
          have hR1 : (R : Int) ≤ 4194304 := by have := HB.out.2.1; omega
          clear hxl hlen2
          generalize hpl : (l ++ part per s pp R).length = ln at *
          have HPl := hide hpl
          clear hpl
          have HFa : Hid (∀ (wa w3 : World), Fr [] wr wa → Fr G2 wa w3 → Fr G0 w2 w3 ∧ w3.cell? ⟨w.heap.size + 1, 2, none⟩ = some (.pointer (some ⟨bs, 0, none⟩))) := fun wa w3 ha hf => by
            have h1 : Fr G0 w2 w3 := (HFx.out.trans ha (fun x hx => by cases hx)).trans hf (fun x hx => HGx.out x hx)
            exact ⟨h1, (h1.cell (p := ⟨w.heap.size + 1, 2, none⟩) hsz (fun hg => by have := HGw.out _ hg; simp at this; omega)).trans hb2⟩
          go_wp2_with (first | (at_builtin; refine wpList_append_lr rfl _ _ 37 rfl 3 i0 (.int .i64 0) 8 Tryd.underlying37 hi hz0 hz1 hz2 rfl rfl (HLx.out.alloc _) rfl rfl (fun _ => one_of wr _ 3 rfl _ (Fr.refl _ _)) (by simp [Value.oneCell']) (by have := HLn.out; unfold maxLen; omega) (by have := HLn.out; omega) ?_; intro A3 c3 G3 w3 HL3 HF3 HG3; have hb3 := (HFa.out _ _ ((Fr.refl _ _).alloc _) HF3.out).2) | (go_at_call 44; refine (HNx.out _ (HFa.out _ _ ((Fr.refl _ _).alloc _) HF3.out).1 _).mono ?_; rintro e w' ⟨r, rfl, rfl, hr⟩; have HR3 : Hid (NextIs ws ((R + 1 : Nat) : Int) r) := hr; clear hr))
          have hf3 := (HFa.out _ _ ((Fr.refl _ _).alloc _) HF3.out).1
          have hg3 : ∀ g, g ∈ G3 → g ∈ G0 ∨ w2.heap.size ≤ g := fun g hg => by
            rcases HG3.out g hg with h | ⟨h, _⟩
            · exact HGx.out g h
            · have := HFx.out.size; simp at h; exact .inr (by omega)
          have hl3 := HL3.out
          rw [HZ.out, HLe.out] at hl3
          have hxl : (part per s pp (R + 1)).length ≤ per := Nat.le_trans (part_len _ _ _ _) hR
          rcases next_part (s := s) (fun i hi => by rw [HPp.out i hi]) HTop.out hR HR3.out with ⟨rfl, h1⟩ | ⟨R', rfl, h1, h2, h3, h4⟩
          · go_roundw
            case rel => exact ⟨A3, c3, G3, part per s pp (R + 1), by rw [HLe.out], hl3, hf3, hg3, hxl, .inl ⟨rfl, h1.symm⟩⟩
            case measure => rw [toCome_end, toCome_at]; omega
          · go_roundw
            case rel => exact ⟨A3, c3, G3, part per s pp (R + 1), by rw [HLe.out], hl3, hf3, hg3, hxl, .inr ⟨R', rfl, h1, h3, h4.symm⟩⟩
            case measure => rw [toCome_at, toCome_at]; omega
    · simp only [memOf, Value.agg.injEq, Array.mk.injEq, List.cons.injEq, Value.int.injEq, Value.slice.injEq, Value.pointer.injEq, and_true, true_and] at ev
      obtain ⟨rfl, ⟨rfl, rfl, rfl⟩, rfl⟩ := ev
      have HP : Hid (∀ i, i < per → hasN σ per h (s * per + i) = true) := fun i hi => by
        unfold hasN
        rw [HHn.out i hi, e]
        rfl
      clear e
      obtain ⟨pp, hpp⟩ : ∃ pp : Nat → Bool, (fun i => hasN σ per h (s * per + i)) = pp := ⟨_, rfl⟩
      have HC : Hid (cardsOf σ per h s = part per s pp per) := by show _ = _; unfold cardsOf; rw [hpp]
      have HPp : Hid (∀ i, i < per → pp i = true) := fun i hi => by rw [← hpp]; exact HP.out i hi
      clear hpp HP
      go_wp2_with fail
      go_loopw [1, 56] (fun v i wr => ∃ (A2 : Option Addr) (c2 : Nat) (G2 : List Nat) (j : Nat), i = .int .i64 j ∧ j ≤ per ∧ v = .slice A2 (l ++ part per s pp j).length c2 ∧ Lr wr 3 A2 (l ++ part per s pp j).length c2 G2 (zv (l ++ part per s pp j)) ∧ Fr G0 w2 wr ∧ (∀ g, g ∈ G2 → g ∈ G0 ∨ w2.heap.size ≤ g)) (fun _ i _ => per - (intOf i).toNat)
      case atStart => exact ⟨A0, c0, G0, 0, rfl, Nat.zero_le _, by rw [part_zero]; simp, by rw [part_zero]; simpa using HL2.out, Fr.refl _ _, fun g hg => .inl hg⟩
      case round =>
        obtain ⟨A2, c2, G2, R, rfl, hR, rfl, hl, hf, hg⟩ := hrel
        have HLx := hide hl
        have HFx := hide hf
        have HGx := hide hg
        clear hl hf hg
        by_cases hlt : R < per
        · have hlt1 : (R : Int) < (per : Int) := by omega
          have hpR := HPp.out R hlt
          have HLn : Hid ((l ++ part per s pp R).length ≤ 16777215) := by
            have := part_len per s pp R
            have := HLen.out
            show _ ≤ _
            rw [List.length_append]; omega
          have hlen2 : (l ++ part per s pp R).length + 1 = (l ++ part per s pp (R + 1)).length := by rw [part_yes hpR]; simp; omega
          have HLe := hide hlen2
          have HZ : Hid (zv (l ++ part per s pp R) ++ [.int .i64 ((SP : Int) + (R : Int))] = zv (l ++ part per s pp (R + 1))) := by
            rw [part_yes hpR, HSP.out, ← List.append_assoc, zv_app (l ++ part per s pp R), Int.natCast_add]; rfl
          have hB1 : (SP : Int) + (R : Int) ≤ 4194304 := by have := HB.out.1; omega
          clear hlen2 hpR
          generalize hpl : (l ++ part per s pp R).length = ln at *
          have HPl := hide hpl
          clear hpl
          go_wp2_with (first | (at_builtin; refine wpList_append_lr rfl _ _ 37 rfl 3 i0 (.int .i64 0) 8 Tryd.underlying37 hi hz0 hz1 hz2 rfl rfl (HLx.out.alloc _) rfl rfl (fun _ => one_of wr _ 3 rfl _ (Fr.refl _ _)) (by simp [Value.oneCell']) (by have := HLn.out; unfold maxLen; omega) (by have := HLn.out; omega) ?_; intro A3 c3 G3 w3 HL3 HF3 HG3))
          have hf3 : Fr G0 w2 w3 := (HFx.out.alloc _).trans HF3.out (fun x hx => HGx.out x hx)
          have hg3 : ∀ g, g ∈ G3 → g ∈ G0 ∨ w2.heap.size ≤ g := fun g hg => by
            rcases HG3.out g hg with h | ⟨h, _⟩
            · exact HGx.out g h
            · have := HFx.out.size; simp at h; exact .inr (by omega)
          have hl3 := HL3.out
          rw [HZ.out, HLe.out] at hl3
          go_roundw
          case rel => exact ⟨A3, c3, G3, R + 1, by go_num, by omega, by rw [HLe.out], hl3, hf3, hg3⟩
          case measure => simp [intOf]; omega
        · have hlt1 : ¬ (R : Int) < (per : Int) := by omega
          obtain rfl : R = per := by omega
          go_wp2_with fail
          go_ret
          rw [HC.out]
          exact ⟨A2, c2, G2, (show Ending.returned (.slice A2 (l.length + (part R s pp R).length) c2) = _ by rw [List.length_append]), HLx.out, (HFw.out.mono (fun x hx => by cases hx)).trans_same HFx.out, fun g hg => by
            rcases HGx.out g hg with h | h
            · exact .inl h
            · have := HFw.out.size; exact .inr (by omega)⟩
end
end Go.Proofs.YtkbffmmomoeaiaaDoor
