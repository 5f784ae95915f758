/- The document's example of layer 14: one object, what its heap is. -/
import Derived.Test.YtapglokadaibnaaGreatDoorSVo
import Derived.Test.YtapglokadaibnaaGreatDoorSVg
import Derived.Test.YtapglokadaibnaaGreatDoorProg
import Derived.Test.YtapglokadaibnaaGreatDoorSKit
import Derived.WalkKit
import Derived.BigQuiet
import Derived.Test.YtapglokadaibnaaGreatDoorSVr
namespace Go.Proofs.YtapglokadaibnaaGreatDoor
set_option linter.unusedVariables false
set_option linter.unusedSimpArgs false
set_option maxRecDepth 100000
open Go.RowKit Go.Gl HS

def cfg14 : Cfg := ⟨6, 4, 3, 1, 4, 0, 0, 1, 0, 0, 0, 0, 0, 0⟩
theorem may14 : mayB cfg14 = true := by decide +kernel
theorem nw14 : NwOk cfg14 64 4 8 8 1 4 0 6 3 :=
  ⟨⟨by decide, by decide, by decide, by decide, by decide +kernel, by decide +kernel, by decide +kernel, by decide +kernel, by decide +kernel, by decide +kernel, by decide +kernel, by decide +kernel⟩,
   ⟨by decide +kernel, by decide +kernel, by decide +kernel, by decide +kernel, by decide +kernel, by decide, by decide, by decide, by decide, by decide, by decide, by decide⟩, rfl, rfl, rfl, by decide, by decide, by decide, by decide, by decide⟩
def f14 : Nat → Nat := upd (updRow (fun _ => 0) 0 3 (fun _ => 0)) 0 (objW 3 1)
def h14 : HS := ⟨cfg14.geo, 64, 4, 256, f14, put1 (fun _ => 0) 0 3, put1 (fun k => ((k * 64 : Nat) : Int)) 0 3, 1, fun _ => 0, fun _ => 0, setN (fun _ => []) 0 [1]⟩
theorem f14_0 : f14 0 = objW 3 1 := rfl
theorem of14 : Hd.of ((f14 0 : Nat) : Int) = objH 3 1 := by
  rw [f14_0]
  exact of_objW (s := 3) (p := 1) (by decide) (by decide)
theorem at14 : ObjAt h14 0 3 1 := by
  have h1 : atH h14.n h14.f ((0 : Nat) : Int) = objH 3 1 := (at_in (n := 256) (f := f14) (k := 0) (by decide)).1.trans of14
  have h2 : atE h14.n h14.f ((0 : Nat) : Int) = 0 := by
    refine (at_in (n := 256) (f := f14) (k := 0) (by decide)).2.trans ?_
    rw [of14]
    rfl
  exact ⟨by decide, (of14.trans h1.symm), h2, by rw [h1]; rfl, by rw [h1]; rfl, by rw [h1]; rfl, by decide, by decide, by decide, by decide⟩
theorem left14 (r : Int) : h14.leftL r h14.T = [] := by
  show h14.leftL r 1 = []
  unfold leftL leftL
  rw [if_neg (fun h => absurd h.1 (by decide))]
  rfl
theorem end14 (k : Nat) : h14.endOf k = h14.t k := by
  unfold endOf
  rw [if_pos (left14 _)]
theorem row14_0 : h14.rowL ((0 : Nat) : Int) = [0] ∧ h14.rowE ((0 : Nat) : Int) = 0 := by
  have hr : IsRow f14 0 [0] 3 := ⟨rfl, 3, by decide, by rw [of14]; rfl, by rw [of14]; exact .inl rfl, by decide, rfl⟩
  have h1 := hr.ans (n := 256) (by decide)
  have e : h14.endOf 0 = 3 := (end14 0).trans (put1_at (fun k => ((k * 64 : Nat) : Int)) 0 3)
  constructor
  · unfold rowL
    rw [if_neg (by decide), if_pos (.inr (.inr rfl))]
    show startsL 256 f14 _ (h14.endOf 0) = _
    rw [e]
    exact h1.1
  · unfold rowE
    rw [if_neg (by decide), if_pos (.inr (.inr rfl))]
    show startsE 256 f14 _ (h14.endOf 0) = _
    rw [e]
    exact h1.2
theorem row14_s {k : Nat} (h1 : 1 ≤ k) (h4 : k < 4) : h14.rowL (k : Int) = [] ∧ h14.rowE (k : Int) = 0 := by
  have hs : h14.s ((k : Int)).toNat = 0 := put1_far (f := fun _ => 0) (k := 0) (j := ((k : Int)).toNat) 3 (by omega)
  have hR : h14.R = 4 := rfl
  constructor
  · unfold rowL
    rw [if_neg (by rw [hR]; omega), if_neg (by rw [hs]; omega), if_neg (by rw [hs]; omega)]
  · unfold rowE
    rw [if_neg (by rw [hR]; omega), if_neg (by rw [hs]; omega), if_neg (by rw [hs]; omega)]
theorem in14 : ((0 : Nat) : Int) ∈ h14.objL := mem_objL.2 ⟨0, by decide, by rw [row14_0.1]; simp, at14.objE⟩
theorem obj14 {a : Int} (h : a ∈ h14.objL) : a = ((0 : Nat) : Int) := by
  obtain ⟨k, hk, hr, _⟩ := mem_objL.1 h
  have hk : k < 4 := hk
  rcases Nat.eq_zero_or_pos k with rfl | h1
  · rw [row14_0.1] at hr
    simpa using hr
  · rw [(row14_s h1 hk).1] at hr
    cases hr
theorem refs14 : h14.refsAt ((0 : Nat) : Int) = [0] := by
  rw [at14.refs]
  rfl
theorem sound14 : h14.Sound := by
  refine ⟨fun k hk => ?_, fun a ha => ?_, fun i hi => ?_⟩
  · have hk : k < 4 := hk
    rcases Nat.eq_zero_or_pos k with rfl | h1
    · exact row14_0.2
    · exact (row14_s h1 hk).2
  · obtain rfl := obj14 ha
    rw [refs14]
    intro r hr
    left
    simpa using hr
  · have hi : i < 1 := hi
    obtain rfl : i = 0 := by omega
    intro r hr
    have hr : r ∈ setN (fun _ => ([] : List Int)) 0 [1] 0 := hr
    rw [setN_at] at hr
    simp at hr
    subst hr
    right
    exact in14
theorem kids14 : kids h14.gs 1 = [0] := (gs_kids at14 in14).trans refs14
theorem st14 : h14.gs.st 0 = [1] := by
  show (if 0 < h14.T then h14.st 0 else []) = [1]
  rw [if_pos (by decide)]
  exact setN_at (fun _ => []) 0 [1]
theorem bfs14 : bfs h14.gs 1 0 = [1] ∧ bfs h14.gs 1 1 = [1] := by
  have h0 : bfs h14.gs 1 0 = [1] := by
    show visits [] (rootsOf h14.gs 1) = [1]
    rw [show rootsOf h14.gs 1 = [1] from by rw [rootsOf_succ, st14]; rfl]
    rfl
  refine ⟨h0, ?_⟩
  rw [bfs_step (r := 1) _ _ (by rw [h0]; rfl), h0, kids14]
  rfl
theorem order14 : order h14.gs 1 = [1] := by
  unfold order
  rw [bfs_still _ _ (m := 1) (by decide) (by rw [bfs14.2]; decide), bfs14.2]
theorem shape14 : shape h14.gs h14.T = [1, 1, 1, 1, 0, 0] := by
  show shape h14.gs 1 = _
  unfold shape
  rw [order14]
  have h1 : shapeT h14.gs [1] 0 = [1, 1] := by unfold shapeT; rw [st14]; rfl
  have h2 : shapeO h14.gs [1] 1 = [1, 1, 0, 0] := by
    unfold shapeO
    rw [kids14, show datas h14.gs 1 = [0] from by rw [show (1 : Int) = ((0 : Nat) : Int) + 1 from rfl, gs_datas at14 in14]; rfl]
    have hn := gs_np at14 in14
    rw [show h14.gs.np 1 = 1 from hn.1, show h14.gs.nw 1 = 1 from hn.2]
    rfl
  show List.flatMap (shapeT h14.gs [1]) (List.range 1) ++ List.flatMap (shapeO h14.gs [1]) [1] = _
  rw [show List.range 1 = [0] from rfl]
  simp only [List.flatMap_cons, List.flatMap_nil, h1, h2]
  rfl
end Go.Proofs.YtapglokadaibnaaGreatDoor
/- gleanerref13.Same. -/
namespace Go.Proofs.YtapglokadaibnaaGreatDoor
set_option linter.unusedVariables false
set_option linter.unusedSimpArgs false
open Go.RowKit Go.Gl

theorem gsame_any {w : World} {A B : Option Addr} {ca cb : Nat} {xs ys : List Int} (hA : Sl w A xs.length (fun k => .int .u64 (xs.getD k 0))) (hB : Sl w B ys.length (fun k => .int .u64 (ys.getD k 0)))
    (hx : xs.length ≤ 9223372036854775807) (hy : ys.length ≤ 9223372036854775807) :
    Calls Tryz.prog 15 #[.slice A xs.length ca, .slice B ys.length cb] w fun e w' => e = .returned (.bool (decide (xs = ys))) ∧ ∃ k, w' = w.drewN k := by
  by_cases hl : xs.length = ys.length
  · have hl' : ((xs.length : Int) != (ys.length : Int)) = false := by rw [bne_eq_false_iff_eq]; omega
    have HA := hide hA
    have HB := hide hB
    have HL := hide hl
    clear hA hB hl
    go_enter Tryz.func15, Tryz.ntmps15
    go_wp2
    go_loopw [5] (fun i wr => ∃ k q : Nat, i = .int .i64 k ∧ k ≤ xs.length ∧ (∀ j, j < k → xs.getD j 0 = ys.getD j 0) ∧ wr = w.drewN q) (fun i _ => xs.length - (intOf i).toNat)
    case atStart => exact ⟨0, 0, rfl, Nat.zero_le _, fun j hj => absurd hj (by omega), rfl⟩
    case round =>
      obtain ⟨k, q, rfl, hk, hs, rfl⟩ := hrel
      have HS := hide hs
      clear hs
      by_cases hlt : k < xs.length
      · have hlt1 : (k : Int) < (xs.length : Int) := by omega
        have hlt2 : (k : Int) < (ys.length : Int) := by have := HL.out; omega
        have hlt3 : k < ys.length := by omega
        obtain ⟨b, off, rfl, _, ha⟩ := HA.out (by omega)
        obtain ⟨b', off', rfl, _, hb⟩ := HB.out (by omega)
        have hca : w.cell? ⟨b, off + k, none⟩ = some (.int .u64 (xs.getD k 0)) := ha k hlt
        have hcb : w.cell? ⟨b', off' + k, none⟩ = some (.int .u64 (ys.getD k 0)) := hb k hlt3
        have HX : Hid (xs ≠ ys ∨ xs.getD k 0 = ys.getD k 0) := by
          by_cases h : xs = ys
          · right; rw [h]
          · exact .inl h
        clear ha hb
        generalize hX : xs.getD k 0 = x at *
        generalize hY : ys.getD k 0 = y at *
        have EX := hide hX
        have EY := hide hY
        clear hX hY
        by_cases he : x = y
        · subst he
          go_wp2_with fail
          go_quiet (fail)
          go_wp2
          go_roundw
          case rel => exact ⟨k + 1, q + nq, by go_num, by omega, fun j hj => by
            rcases Nat.lt_or_ge j k with h | h
            · exact HS.out j h
            · obtain rfl : j = k := by omega
              rw [EX.out, EY.out], rfl⟩
          case measure => simp [intOf]; omega
        · have hne : (x == y) = false := by simpa using he
          have hne' : (x != y) = true := by simpa using he
          go_wp2_with fail
          go_quiet (fail)
          go_wp2
          go_ret
          refine ⟨ret_bool ?_, q + nq, by rw [World.drewN_drewN]⟩
          rcases HX.out with h | h
          · simp [h]
          · exact absurd h he
      · go_wp2_with fail
        go_ret
        refine ⟨ret_bool ?_, _, rfl⟩
        have : xs = ys := by
          apply List.ext_getElem HL.out
          intro i h1 h2
          have := HS.out i (by omega)
          simpa [h1, h2] using this
        simp [this]
  · have hl' : ((xs.length : Int) != (ys.length : Int)) = true := by rw [bne_iff_ne]; omega
    have HE : Hid ((false : Bool) = decide (xs = ys)) := by
      refine Eq.symm ?_
      rw [decide_eq_false_iff_not]
      rintro rfl
      exact hl rfl
    clear hA hB hl
    go_enter Tryz.func15, Tryz.ntmps15
    go_wp2
    go_ret
    exact ⟨ret_bool HE.out, 0, rfl⟩
end Go.Proofs.YtapglokadaibnaaGreatDoor
/- The statements of layer 14: what each of them asks first. -/
namespace Go.Proofs.YtapglokadaibnaaGreatDoor
set_option linter.unusedVariables false
set_option linter.unusedSimpArgs false
set_option maxRecDepth 100000
open Go.RowKit Go.Gl

theorem small14_any (w : World) : Calls Tryz.prog 58 #[] w fun e w' => e = .returned cfg14.val ∧ Fr [] w w' := by
  go_enter Tryz.func58, Tryz.ntmps58
  go_wp2_with fail
  refine bodyPost_ret (v := cfg14.val) (by simp [results, Tryz.results58, go_sem, *]; rfl) rfl ⟨rfl, (Fr.refl _ _).alloc _⟩
set_option maxHeartbeats 3200000 in
theorem awake14_any (w : World) (tab : Tab w) : Calls Tryz.prog 10 #[] w fun e w' => e = .returned (.bool true) ∧ Fr [] w w' := by
  have HN : Hid (∀ w1, Tab w1 → Calls Tryz.prog 57 #[cfg14.val] w1 (HNewP w1 cfg14 cfg14.geo 64 4 256 1 8 8 0 4 6 3)) := fun w1 hT => heapnew_ok may14 nw14 w1 hT
  have HT := hide tab
  clear tab
  go_enter Tryz.func10, Tryz.ntmps10
  go_wp2_with fail
  refine (small14_any _).mono ?_
  rintro e w1 ⟨rfl, hf⟩
  have HF1 := hide hf
  clear hf
  have HN1 := hide (HN.out w1 (HT.out.fr HF1.out (by simp)))
  clear HN
  go_wp2_with fail
  refine HN1.out.mono ?_
  intro e w2 hP
  obtain ⟨L, X, own, rfl, hH, hB, -⟩ := hP.at HF1.out
  have HB : Hid (L.B = 4) := hB
  have c21 : w2.cell? ⟨L.hb, 21, none⟩ = some (.pointer (some ⟨L.tb, 0, none⟩)) := hH.hr.cT
  have HA := hide (hH.claim (y := 3) (.inr (.inr rfl)) (j := 0) ⟨by decide, rfl, fun j hj => absurd hj (by omega)⟩)
  unfold HpPost at HA
  clear hP hH hB HN1 HF1
  go_wp2_with fail
  refine HA.out.mono ?_
  rintro e w3 ⟨own3, rfl, hH, -⟩
  have c21 : w3.cell? ⟨L.hb, 21, none⟩ = some (.pointer (some ⟨L.tb, 0, none⟩)) := hH.hr.cT
  have HA3 := hide (hH.bump (j := 0) (by decide) (.inr (.inr rfl)) (c := 3) (by decide) (by decide))
  unfold HpPost at HA3
  clear hH HA
  go_wp2_with fail
  refine HA3.out.mono ?_
  rintro e w4 ⟨own4, rfl, hH, -⟩
  rw [show ({ (HSn cfg14.geo 64 4 256 1) with s := put1 (HSn cfg14.geo 64 4 256 1).s 0 3 } : HS).t 0 = 0 from rfl]
  have c20 : w4.cell? ⟨L.hb, 20, none⟩ = some (.pointer (some ⟨L.ab, 0, none⟩)) := hH.hr.cA
  have HA4 := hide (hH.make (I := 0) (S := 3) (P := 1) (by decide) (by decide) (by decide))
  unfold HpPost at HA4
  clear hH HA3
  go_wp2_with fail
  refine HA4.out.mono ?_
  rintro e w5 ⟨own5, rfl, hH, -⟩
  obtain ⟨rA, hrA⟩ : ∃ rA, rA = L.rA := ⟨_, rfl⟩
  have c27 : w5.cell? ⟨L.hb, 27, none⟩ = some (.slice L.rA 1 L.rc) := hH.hr.cR
  rw [← hrA] at c27
  obtain ⟨gr, offr, hrA2, _, hgr, hclr, _⟩ := hH.hr.row.pos (by decide)
  have hrA' := hrA.trans hrA2
  clear hrA hrA2
  subst hrA'
  have cs0 : w5.cell? ⟨gr, offr, none⟩ = some (.pointer (some ⟨L.S 0, 0, none⟩)) := (hclr 0 (by decide)).trans (stkV_at _ (by decide))
  have HA5 := hide (hH.push (i := 0) (by decide) (by rw [HB.out]; decide) (by rw [HB.out]; decide) (r := 1) (by decide))
  unfold HpPost at HA5
  clear hH HA4 hgr hclr
  go_wp2_with fail
  refine HA5.out.mono ?_
  rintro e w6 ⟨own6, rfl, hH, -⟩
  have hH : HpAt w w6 L X own6 h14 (HTn 8 8 4 0 256) 6 3 := hH
  have HH6 := hide hH
  have HSH := hide (hshape_ok hH.hr sound14)
  rw [shape14] at HSH
  unfold ShpP at HSH
  clear hH HA5 cs0 c27
  go_wp2_with fail
  refine HSH.out.mono ?_
  rintro e w7 ⟨A, c, G, rfl, hl, _, hr, hf⟩
  obtain ⟨hH7, -⟩ := HH6.out.looked hr hf
  have HCK := hide (hcheck_any hH7.hr)
  rw [checkE_ok sound14] at HCK
  unfold HrP at HCK
  have HL7 := hide hl
  have HH7 := hide hH7
  clear hl hr hf hH7 HSH
  go_wp2_with fail
  refine HCK.out.mono ?_
  rintro e w8 ⟨rfl, hr, hf⟩
  obtain ⟨c9, hc9⟩ := HH7.out.hr.ar
  have hl8 := HL7.out.fr hf (fun g hg hx => by
    simp at hx
    subst hx
    exact HL7.out.apart hc9.set (by decide) hg)
  have HFin : Hid (Fr [] w w8) := (HH7.out.looked hr hf).1.fr
  have HLS : Hid (Sl (w8.alloc (.cells #[.int .u64 1, .int .u64 1, .int .u64 1, .int .u64 1, .int .u64 0, .int .u64 0] 65)) (some ⟨w8.heap.size, 0, none⟩) 6 (fun k => .int .u64 (([1, 1, 1, 1, 0, 0] : List Int).getD k 0))) := fun _ => ⟨w8.heap.size, 0, rfl, by simp, fun k hk => by
    rw [(Blk.new w8 65 _).cell]
    obtain rfl | rfl | rfl | rfl | rfl | rfl : k = 0 ∨ k = 1 ∨ k = 2 ∨ k = 3 ∨ k = 4 ∨ k = 5 := by omega
    all_goals rfl⟩
  have SM := hide (gsame_any (ca := c) (cb := 6) (xs := [1, 1, 1, 1, 0, 0]) (ys := [1, 1, 1, 1, 0, 0]) (refSl (hl8.alloc (.cells #[.int .u64 1, .int .u64 1, .int .u64 1, .int .u64 1, .int .u64 0, .int .u64 0] 65))) HLS.out (by decide) (by decide))
  rw [show decide (([1, 1, 1, 1, 0, 0] : List Int) = [1, 1, 1, 1, 0, 0]) = true by simp] at SM
  clear hc9 hl8 hr hf HLS HCK HH7 HL7 HH6 hH
  go_wp2_with fail
  refine SM.out.mono ?_
  rintro e w9 ⟨rfl, q, rfl⟩
  go_wp2_with fail
  go_ret
  exact ⟨rfl, (HFin.out.alloc _).drewN q⟩
end Go.Proofs.YtapglokadaibnaaGreatDoor
