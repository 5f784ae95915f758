/- OffsCovers: of objects one behind the other each card is told the one that covers its first word, whatever sizes come in. Conditions: none but the row's own (the library's table lies as its text lays it). -/
import Derived.Test.YtjjedmjcnppdkaaDoorL6
import Derived.Test.YtjjedmjcnppdkaaDoorCard
import Derived.Test.YtjjedmjcnppdkaaDoorNm
namespace Go.Proofs.YtjjedmjcnppdkaaDoor.OffsCovers
set_option linter.unusedVariables false
open Go.RowKit Go.Gl Go.ChangeShapes Go.WideShapes Go.ChangeAt Go.Deep

/-- A words are laid: the word j's object begins at st j; f is what the table tells. -/
structure Cov (A : Nat) (st f : Nat → Int) : Prop where
  max : A ≤ 256
  low : ∀ j, j < A → 0 ≤ st j ∧ st j ≤ 256
  in_ : ∀ c, 8 * c < A → f c = st (8 * c) + 1
  out : ∀ c, A ≤ 8 * c → f c = 0
def stE (A : Nat) (st : Nat → Int) : Nat → Int := fun j => if j < A then st j else (A : Int)
theorem Cov.zero : Cov 0 (fun _ => 0) (fun _ => 0) := ⟨by decide, fun j hj => by omega, fun c hc => by omega, fun _ _ => rfl⟩
theorem Cov.step {A m : Nat} {st f : Nat → Int} (h : Cov A st f) (hm : A + m ≤ 256) : Cov (A + m) (stE A st) (obj 8 f A m) := by
  refine ⟨hm, fun j hj => ?_, fun c hc => ?_, fun c hc => ?_⟩
  · unfold stE
    have := h.max
    split
    · exact h.low j (by omega)
    · omega
  · have h1 : c < cb 8 (A + m) := (cb_lt (by decide)).2 (by omega)
    unfold obj put2 stE
    by_cases hA : 8 * c < A
    · have h2 : c < cb 8 A := (cb_lt (by decide)).2 (by omega)
      rw [if_neg (by omega), if_pos hA, h.in_ c hA]
    · have h2 : ¬ c < cb 8 A := fun hh => by have := (cb_lt (by decide)).1 hh; omega
      rw [if_pos (by omega), if_neg hA]
  · have h1 : ¬ c < cb 8 (A + m) := fun hh => by have := (cb_lt (by decide)).1 hh; omega
    unfold obj put2
    rw [if_neg (by omega), h.out c (by omega)]
theorem zs_u8 {zs : List Int} (h : ∀ z ∈ zs, (Lit.int .u8 z).wf = true) (k : Nat) : 0 ≤ zs.getD k 0 ∧ zs.getD k 0 ≤ 255 := by
  rw [List.getD_eq_getElem?_getD]
  rcases Nat.lt_or_ge k zs.length with hk | hk
  · rw [List.getElem?_eq_getElem hk]
    have := h _ (List.getElem_mem hk)
    simpa [Lit.wf, IntKind.min, IntKind.max, IntKind.signed, IntKind.bits] using this
  · rw [List.getElem?_eq_none hk]; simp

set_option maxRecDepth 100000 in
set_option maxHeartbeats 3200000 in
theorem walk (W : World) (hT : Tab W) (P : Option Addr) (na ca : Nat) (zs : List Int) (hA : Sl W P na (fun k => .int .u8 (zs.getD k 0))) (hz : ∀ k, 0 ≤ zs.getD k 0 ∧ zs.getD k 0 ≤ 255) (hna : na ≤ 9223372036854775807) :
    Holds Tryd.prog 3 #[.slice P na ca] W := by
  have HT := hide hT
  have HA := hide hA
  have Hz := hide hz
  clear hT hA hz
  obtain ⟨i0, hi, hz0, hz1, hz2⟩ := info_parts Tryd.info_int
  unfold Holds
  go_enter Tryd.func3, Tryd.ntmps3
  go_wp2_with fail
  refine (awake_any W HT.out).mono ?_
  rintro e w0 ⟨rfl, hf0⟩
  go_wp2_with fail
  refine (small_any _).mono ?_
  rintro e w1 ⟨rfl, hf⟩
  have HF1 : Hid (Fr [] W w1) := hf0.trans_same hf
  have HT1 : Hid (Tab w1) := HT.out.fr HF1.out (by simp)
  clear hf hf0
  go_wp2_with fail
  refine (new6_any _ HT1.out).mono ?_
  rintro e w2 ⟨tb, rb, rfl, ho, hf, hl1, hl2⟩
  have HO := hide ho
  have HF2 : Hid (Fr [] W w2) := HF1.out.trans_same hf
  have HL : Hid (W.heap.size ≤ tb ∧ W.heap.size ≤ rb) := ⟨Nat.le_trans HF1.out.size hl1, Nat.le_trans HF1.out.size hl2⟩
  have HLt : Hid (tb < w2.heap.size ∧ rb < w2.heap.size) := ⟨ho.set.lt, ho.row.lt⟩
  clear ho hf hl1 hl2
  go_wp2_with fail
  go_loopw [5, 6, 7] (fun a v i wr => ∃ (k A : Nat) (st f : Nat → Int), a = .int .i64 A ∧ i = .int .i64 k ∧ k ≤ na ∧ Of wr tb rb 8 32 f ∧ Cov A st f ∧ wr.ownsRow w2.heap.size 3 1 v A (cellsQ .i64 st A) ∧ Fr [rb] w2 wr) (fun _ _ i _ => na - (intOf i).toNat)
  case atStart => exact ⟨0, 0, _, _, rfl, rfl, Nat.zero_le _, HO.out, Cov.zero, World.ownsRow_nil _ _ _ _, Fr.refl _ _⟩
  case round =>
    obtain ⟨k, A, st, f, rfl, rfl, hk, ho, hc, hw, hfr⟩ := hrel
    have HOr := hide ho
    have HC := hide hc
    have HV := hide hw
    have HF := hide hfr
    have HW : Hid (Fr [] W wr) := HF2.out.trans hfr (fun x hx => by have := HL.out; simp at hx; omega)
    have hA256 := hc.max
    clear ho hc hw hfr
    by_cases hlt : k < na
    · have hlt3 : (k : Int) < (na : Int) := by omega
      obtain ⟨b, off, rfl, hb1, hc1⟩ := HA.out (by omega)
      have hcell : wr.cell? ⟨b, off + k, none⟩ = some (.int .u8 (zs.getD k 0)) := (HW.out.cell (p := ⟨b, off + k, none⟩) hb1 (by simp)).trans (hc1 k hlt)
      obtain ⟨x1, x2⟩ := Hz.out k
      clear hc1
      generalize zs.getD k 0 = x at *
      obtain ⟨m, hm⟩ : ∃ m : Nat, (m : Int) = x % 40 + 1 := ⟨(x % 40 + 1).toNat, by omega⟩
      have hm1 : 1 ≤ m := by omega
      have hm2 : m ≤ 40 := by omega
      have EM := hide hm
      by_cases hfit : A + m ≤ 256
      · have hfit' : ¬ 256 < (A : Int) + (x % 40 + 1) := by omega
        clear hm
        go_wp2_with fail
        rw [← EM.out]
        clear hfit'
        refine (oput_at HOr.out (a := A) (s := m) hm1 (by omega)).mono ?_
        rintro e w4 ⟨rfl, ho4, hf4⟩
        have HO4 := hide ho4
        have HC4 := hide (HC.out.step hfit)
        have hw4 := own_fr HV.out hf4 (fun g hg => by have := own_far HV.out HLt.out.2; rw [hg] at this; intro h; simp at h; subst h; simp at this)
        rw [cellsQ_congr (g := stE A st) (fun j hj => by unfold stE; rw [if_pos hj])] at hw4
        have HV4 := hide hw4
        clear hw4
        have HF4 : Hid (Fr [rb] w2 w4) := HF.out.trans_same hf4
        have HE : Hid (∀ j, A ≤ j → stE A st j = (A : Int)) := fun j hj => by unfold stE; rw [if_neg (by omega)]
        generalize stE A st = st' at *
        generalize obj 8 f A m = f' at *
        clear ho4 hf4
        go_wp2_with fail
        go_loopw [6, 9] (fun v i wq => ∃ (q : Nat), i = .int .i64 q ∧ q ≤ m ∧ wq.ownsRow w2.heap.size 3 1 v (A + q) (cellsQ .i64 st' (A + q)) ∧ Of wq tb rb 8 32 f' ∧ Fr [rb] w2 wq) (fun _ i _ => m - (intOf i).toNat)
        case atStart => exact ⟨0, rfl, Nat.zero_le _, HV4.out, HO4.out, HF4.out⟩
        case round =>
          obtain ⟨wq, rfl⟩ : ∃ wq : World, wq = wr := ⟨_, rfl⟩
          obtain ⟨q, rfl, hq, hw5, ho5, hf5⟩ := hrel
          have HV5 := hide hw5
          have HO5 := hide ho5
          have HF5 := hide hf5
          clear hw5 ho5 hf5
          by_cases hq2 : q < m
          · have hq3 : (q : Int) < (m : Int) := by omega
            go_wp2_with (at_builtin; refine wpList_append_own _ rfl _ _ 31 rfl w2.heap.size 3 i0 (.int .i64 0) 1 8 Tryd.underlying31 hi hz0 hz1 hz2 rfl (by decide) _ _ _ rfl (HV5.out.alloc _) ⟨_, 0, none⟩ 1 1 [.int .i64 (A : Int)] rfl rfl (one_at _ _ _) ?c2 ?c3 ?c4 ?c5 ?_)
            case c2 => intro u hu; simp at hu; subst hu; rfl
            case c3 => unfold maxLen; omega
            case c4 => omega
            case c5 => have := HF5.out.size; simp; omega
            intro v' w6 hown6 hgr6 _
            have HV6 : Hid (w6.ownsRow w2.heap.size 3 1 v' (A + (q + 1)) (cellsQ .i64 st' (A + (q + 1)))) := by
              rw [← Nat.add_assoc, cellsQ_succ, HE.out _ (by omega)]; exact hown6
            have HF6 : Hid (Fr [rb] w2 w6) := own_grown (HF5.out.alloc _) HV5.out hgr6
            have HO6 : Hid (Of w6 tb rb 8 32 f') := (HO5.out.fr ((Fr.refl [] _).alloc _) (by simp) (by simp)).fr (grown_fr hgr6) (own_far HV5.out HLt.out.1) (own_far HV5.out HLt.out.2)
            clear hown6 hgr6
            go_wp2
            go_roundw
            case rel => exact ⟨q + 1, by go_num, by omega, HV6.out, HO6.out, HF6.out⟩
            case measure => simp [intOf]; omega
          · obtain rfl : q = m := by omega
            go_wp2_with fail
            go_roundw
            case rel => exact ⟨k + 1, A + q, st', f', by go_num, by go_num, by omega, HO5.out, HC4.out, HV5.out, HF5.out⟩
            case measure => simp [intOf]; omega
      · have hfit' : 256 < (A : Int) + (x % 40 + 1) := by omega
        clear hm
        obtain ⟨Ad, cc, rfl, hsl⟩ := Sl.own HV.out
        have HS := hide hsl
        clear hsl
        obtain ⟨wo, rfl⟩ : ∃ wo : World, wo = wr := ⟨_, rfl⟩
        go_wp2_with fail
        go_loopw [10] (fun i wq => ∃ c : Nat, i = .int .i64 c ∧ c ≤ 32 ∧ wq = wo) (fun i _ => 32 - (intOf i).toNat)
        case atStart => exact ⟨0, rfl, by omega, rfl⟩
        case round =>
          obtain ⟨c, rfl, hc, rfl⟩ := hrel
          by_cases hc2 : c < 32
          · have hc3 : (c : Int) < 32 := by omega
            have HF1 := hide (ofirst_at HOr.out hc2)
            by_cases hin : 8 * c < A
            · have hin' : 8 * (c : Int) < (A : Int) := by omega
              have hf := HC.out.in_ c hin
              obtain ⟨l1, l2⟩ := HC.out.low _ hin
              rw [if_neg (by omega), if_neg (by omega), show f c - 1 = st (8 * c) by omega] at HF1
              obtain ⟨b, off, rfl, hb, hcl⟩ := HS.out (by omega)
              have hcell := (hcl (8 * c) hin).trans (congrArg some (cellsQ_at hin undef))
              clear hcl hf
              generalize st (8 * c) = y at *
              go_wp2_with fail
              refine HF1.out.mono ?_
              rintro e w' ⟨rfl, rfl⟩
              go_wp2_with fail
              go_roundw
              case rel => exact ⟨c + 1, by go_num, by omega, trivial⟩
              case measure => simp [intOf]; omega
            · have hin' : ¬ 8 * (c : Int) < (A : Int) := by omega
              have hf := HC.out.out c (by omega)
              rw [if_pos hf, if_pos hf] at HF1
              clear hf
              go_wp2_with fail
              refine HF1.out.mono ?_
              rintro e w' ⟨rfl, rfl⟩
              go_wp2_with fail
              go_roundw
              case rel => exact ⟨c + 1, by go_num, by omega, trivial⟩
              case measure => simp [intOf]; omega
          · have hc3 : ¬ (c : Int) < 32 := by omega
            go_wp2_with fail
            go_ret
            exact ⟨rfl, HW.out.below_nil⟩
    · have hlt3 : ¬ (k : Int) < (na : Int) := by omega
      obtain ⟨Ad, cc, rfl, hsl⟩ := Sl.own HV.out
      have HS := hide hsl
      clear hsl
      obtain ⟨wo, rfl⟩ : ∃ wo : World, wo = wr := ⟨_, rfl⟩
      go_wp2_with fail
      go_loopw [10] (fun i wq => ∃ c : Nat, i = .int .i64 c ∧ c ≤ 32 ∧ wq = wo) (fun i _ => 32 - (intOf i).toNat)
      case atStart => exact ⟨0, rfl, by omega, rfl⟩
      case round =>
        obtain ⟨c, rfl, hc, rfl⟩ := hrel
        by_cases hc2 : c < 32
        · have hc3 : (c : Int) < 32 := by omega
          have HF1 := hide (ofirst_at HOr.out hc2)
          by_cases hin : 8 * c < A
          · have hin' : 8 * (c : Int) < (A : Int) := by omega
            have hf := HC.out.in_ c hin
            obtain ⟨l1, l2⟩ := HC.out.low _ hin
            rw [if_neg (by omega), if_neg (by omega), show f c - 1 = st (8 * c) by omega] at HF1
            obtain ⟨b, off, rfl, hb, hcl⟩ := HS.out (by omega)
            have hcell := (hcl (8 * c) hin).trans (congrArg some (cellsQ_at hin undef))
            clear hcl hf
            generalize st (8 * c) = y at *
            go_wp2_with fail
            refine HF1.out.mono ?_
            rintro e w' ⟨rfl, rfl⟩
            go_wp2_with fail
            go_roundw
            case rel => exact ⟨c + 1, by go_num, by omega, trivial⟩
            case measure => simp [intOf]; omega
          · have hin' : ¬ 8 * (c : Int) < (A : Int) := by omega
            have hf := HC.out.out c (by omega)
            rw [if_pos hf, if_pos hf] at HF1
            clear hf
            go_wp2_with fail
            refine HF1.out.mono ?_
            rintro e w' ⟨rfl, rfl⟩
            go_wp2_with fail
            go_roundw
            case rel => exact ⟨c + 1, by go_num, by omega, trivial⟩
            case measure => simp [intOf]; omega
        · have hc3 : ¬ (c : Int) < 32 := by omega
          go_wp2_with fail
          go_ret
          exact ⟨rfl, HW.out.below_nil⟩
theorem holds {H : Type} {enc : TypeId × Value → H} {W : World} {base : Nat} {args : Array Value} {ds : List (DataW H)} {p : List MemPlace}
    (hval : ∀ (j : Nat) t v, Tryd.f3.params[j]? = some t → args[j]? = some v → Value.okWide Tryd.prog W .any base t v)
    (hA : DataW.TrodAll enc Tryd.prog W 0 (fun _ => true) true Tryd.f3.params.toList args.toList ds p) (hT : Tab W) : Holds Tryd.prog 3 args W := by
  rw [Tryd.params3] at hA hval
  obtain ⟨v0, vs0, d0, ds0, p0, q0, hargs, rfl, rfl, h0, r0⟩ := trodAll_cons hA
  obtain ⟨rfl, rfl, rfl⟩ := trodAll_nil r0
  obtain rfl : args = #[v0] := by cases args; simp_all
  obtain ⟨A, na, ca, zs, rfl, hna, hA1, hw1⟩ := open_sl Tryd.underlying22 Tryd.underlying5 (by kernel_rfl) (hval 0 22 v0 rfl rfl) h0
  exact walk W hT A na ca zs hA1 (zs_u8 hw1) (by unfold maxLen at hna; omega)
theorem readable : ∀ t, t ∈ Tryd.f3.params.toList → Tryd.prog.readableRec t = true ∧ t < Tryd.prog.types.size := by
  intro t ht
  rw [Tryd.params3] at ht
  have hm : t = 22 := by simp at ht; omega
  rcases hm with rfl
  all_goals exact ⟨by kernel_rfl, of_decide_eq_true (by kernel_rfl)⟩
theorem laid_met (os : Os) : laidMet Tryd.prog Rows.offsCoversRow.laid ((laidWorld os).forCall (fun _ _ => 0) ⟨#[], #[.slice none 0 0], []⟩).memory :=
  laidMet_of_run' 8 (by kernel_rfl) (by kernel_rfl)
theorem reads (os : Os) {H : Type} (enc : TypeId × Value → H) : ∃ places, DataW.whole enc Tryd.prog ((laidWorld os).forCall (fun _ _ => 0) ⟨#[], #[.slice none 0 0], []⟩).memory Tryd.f3.params.toList Rows.offsCoversSpec.vars false (#[.slice none 0 0] : Array Value).toList 8 = some ([.nil], [], places) :=
  ⟨[], by kernel_rfl⟩
theorem spec {H : Type} : ∀ ds : List (DataW H), ds.length = Tryd.f3.params.toList.length → Rows.offsCoversSpec.fn H (ds ++ []) = { results := [.lit (.bool true)], args := ds, vars := [] } := by
  intro ds h
  rw [Tryd.params3] at h
  simp only [List.append_nil]
  match ds, h with
  | [_], _ => rfl

set_option maxRecDepth 100000 in
theorem lifted (os : Os) (started : os.Started) (H : Type) (enc : TypeId × Value → H) (F : Stop.Interp) :
    ReturnsInHanded {} Tryd.checked os 3 .any ((OpenSpec.ofChange Rows.offsCoversSpec).preRow enc Tryd.prog Tryd.f3 Rows.offsCoversRow.domain false Rows.offsCoversRow.laid) (((OpenSpec.ofChange Rows.offsCoversSpec).at F).post enc Tryd.prog Tryd.f3 false true false false) := by
  obtain ⟨places, hx⟩ := reads os enc
  refine returnsInHanded_of_row (C := Tryd.checked) (s := OpenSpec.ofChange Rows.offsCoversSpec) own started (by kernel_rfl) Tryd.func3
    (witness_row_at (enc := enc) (C := Tryd.checked) false (laidWorld os) #[.slice none 0 0] rfl (by kernel_rfl) (by kernel_rfl) (by kernel_rfl)
      (OpenSpec.preRow_of_cond 8 hx (by kernel_rfl) (fun k hk => by cases hk) (by kernel_rfl) (laid_met os))) ?_
  intro W base args ds gs before hval hW _ _ _ hL _ _
  have hW' : DataW.Whole enc Tryd.prog Tryd.f3.params.toList Rows.offsCoversSpec.vars false W args.toList ds gs before := hW
  exact law_close (s := Rows.offsCoversSpec) rfl rfl Tryd.underlying4 spec laidOut readable hW' (by
    obtain ⟨p, q, hA, _⟩ := hW'
    exact holds hval hA (table hL))

theorem said : Rows.OffsCoversSaid :=
  OpenClaim.holds_of_cond 3 Tryd.f3 rfl rfl rfl rfl rfl rfl rfl ⟨rfl, rfl, rfl, rfl, rfl⟩ rfl rfl rfl rfl rfl (by kernel_rfl) Tryd.func3 (by kernel_rfl)
    (of_decide_eq_true (by kernel_rfl)) (by unfold Func.isWrapper; first | (rw [if_pos (by decide +kernel)]; kernel_rfl) | (rw [if_neg (by decide +kernel)]; exact ⟨rfl, rfl⟩))
    (fun os started H enc _ F => by rw [OpenClaim.pre_eq_preRow]; exact lifted os started H enc F)

/-- No parameter wants a stand-in; the program's own looks are off. -/
theorem plain (f : FuncId) (fn : Func) (hf : Tryd.pinned.checked.prog.funcNamed "gleaner/gleanerlaw06.OffsCovers" = some f) (hfn : Tryd.pinned.checked.prog.funcs[f]? = some fn) :
    false = Tryd.pinned.checked.prog.looks [] ∧ ∀ (j : Nat) t, fn.params[j]? = some t → Tryd.pinned.checked.prog.wantsStandIn t = false := by
  obtain rfl : f = 3 := Option.some.inj ((show Tryd.prog.funcNamed "gleaner/gleanerlaw06.OffsCovers" = some 3 by kernel_rfl).symm.trans hf) |>.symm
  obtain rfl : fn = Tryd.f3 := (Option.some.inj (Tryd.func3.symm.trans hfn)).symm
  refine ⟨by kernel_rfl, fun j t ht => ?_⟩
  rw [Tryd.params3] at ht
  have hm : t = 22 := by have := Array.mem_of_getElem? ht; simp at this; omega
  rcases hm with rfl
  · exact (show Tryd.prog.wantsStandIn 22 = false by kernel_rfl)

/-- The card. -/
theorem card : Rows.OffsCoversCardSaid :=
  Claim7.holds_tied_plain_at .later [] _ _ _ _ said (fun _ h => by cases h) (by kernel_rfl) (fun _ h => by cases h) offsCovers_row_tie rfl ⟨rfl, rfl⟩ (by kernel_rfl) rfl plain (by kernel_rfl)
end Go.Proofs.YtjjedmjcnppdkaaDoor.OffsCovers
