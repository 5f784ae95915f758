/- gleanerref13: Shape. -/
import Derived.Test.YtmodjkglcgoohaaHj
import Derived.Test.YtmodjkglcgoohaaGh
import Derived.WalkKit
import Derived.BigQuiet
import Derived.Deep.CutRange
import Derived.Deep.RegionHeld3
namespace Go.Proofs.Ytmodjkglcgoohaa
set_option linter.unusedVariables false
set_option linter.unusedSimpArgs false
open Go.RowKit Go.Gl

/-- The numbers told since w1. -/
def OutAt (w1 w : World) (A : Option Addr) (n c : Nat) (out : List Int) : Prop := Fr [] w1 w ∧ ∃ G, Lr w 32 A n c G (refV out) ∧ ∀ g, g ∈ G → w1.heap.size ≤ g
theorem OutAt.app {w1 w wa w' : World} {Go G' : List Nat} {A' : Option Addr} {n' c' : Nat} {out' : List Int} (hf : Fr [] w1 w) (k4 : ∀ g, g ∈ Go → w1.heap.size ≤ g) (hfa : Fr [] w wa) (hF : Fr Go wa w') (hL : Lr w' 32 A' n' c' G' (refV out')) (hG : ∀ g, g ∈ G' → g ∈ Go ∨ w.heap.size ≤ g) : OutAt w1 w' A' n' c' out' :=
  ⟨(hf.trans_same hfa).trans hF (fun x hx => .inr (k4 x hx)), G', hL, fun g hg => (hG g hg).elim (k4 g) (fun h => Nat.le_trans hf.size h)⟩
theorem OutAt.fr0 {w1 w w' : World} {A : Option Addr} {n c : Nat} {out : List Int} (h : OutAt w1 w A n c out) (hf : Fr [] w w') : OutAt w1 w' A n c out := by
  obtain ⟨h1, G, h2, h3⟩ := h
  exact ⟨h1.trans_same hf, G, h2.fr0 hf, h3⟩
section
variable {W w1 : World} {tg : TG} {Λ : ML} {T B M : Nat} {σ : GS}
set_option maxRecDepth 100000 in
set_option maxHeartbeats 3200000 in
theorem mshape_any (h : MG W tg Λ T T B M σ) (ok : GOk T B σ) (hd : GDim T B M) (hN : σ.N < 4096) : Calls Try.prog 15 #[.pointer (some ⟨Λ.m, 0, none⟩)] W (ShapePost W (shape σ T)) := by
  obtain ⟨i0, hi, hz0, hz1, hz2⟩ := info_parts Try.info_u64
  have HO := hide (morder_any h ok hd hN)
  have hOl : (order σ T).length ≤ 4096 := by have := order_len (T := T) ok; omega
  have HOL := hide hOl
  have HH := hide h
  have HK := hide ok
  have NM : Λ.m < W.heap.size := h.st.lt
  have hT := hd.t
  have HB64 : Hid (B ≤ 64) := hd.b
  have HLEN : Hid (∀ t, (σ.st t).length ≤ 64) := fun t => Nat.le_trans (ok.len t) hd.b
  have HMEM : Hid (∀ t k, k < (σ.st t).length → ∃ q : Nat, (σ.st t).getD k 0 = (q : Int) ∧ q ≤ σ.N) := fun t k hk => by
    have := ok.mem t ((σ.st t).getD k 0) (by simp [hk])
    obtain ⟨q, hq⟩ := Int.eq_ofNat_of_zero_le this.1
    exact ⟨q, hq, by omega⟩
  have HKM : Hid (∀ r j, j < σ.np r → ∃ q : Nat, (kids σ r).getD j 0 = (q : Int) ∧ q ≤ σ.N) := fun r j hj => by
    rw [kids_get σ r hj]
    obtain ⟨q, hq⟩ := Int.eq_ofNat_of_zero_le (ok.ref r j).1
    exact ⟨q, hq, by have := (ok.ref r j).2; omega⟩
  have HSH : Hid (shape σ T = (List.range T).flatMap (shapeT σ (order σ T)) ++ (order σ T).flatMap (shapeO σ (order σ T))) := rfl
  clear h ok hd hOl
  go_enter Try.func15, Try.ntmps15
  go_wp2_with fail
  refine HO.out.mono ?_
  rintro e w1 ⟨A, n, c, nb, rfl, hn, ht⟩
  have HR : Hid (∀ k r, (order σ T)[k]? = some r → ReadAt w1 Λ σ A k r) := fun k r hr => HH.out.read HK.out ht hn hr
  have HNUM : Hid (∀ (q : Nat) (w : World), q ≤ σ.N → Fr [] w1 w → w.cell? ⟨nb, q, none⟩ = some (.int .u64 (num (order σ T) (q : Int)))) := fun q w hq hw => ht.num hq hw
  have HF1 := hide ht.1
  have HN := hide hn
  have HNB : Hid (∀ q : Nat, 0 ≤ num (order σ T) (q : Int) ∧ num (order σ T) (q : Int) ≤ 4096) := fun q => by have := num_bounds (order σ T) (q : Int); have := HOL.out; omega
  have HROW : Hid (∀ w t, Fr [] w1 w → t < T → ∃ g off A2 c2, Λ.sA = some ⟨g, off, none⟩ ∧ w.cell? ⟨g, off + t, none⟩ = some (.pointer (some ⟨Λ.S t, 0, none⟩)) ∧ w.cell? ⟨Λ.S t, 1, none⟩ = some (.slice A2 (σ.st t).length c2) ∧ Sl w A2 (σ.st t).length (fun k => .int .u64 ((σ.st t).getD k 0))) := fun w t hw htT => by
    obtain ⟨g, off, A2, c2, s1, s2, s3, s4, s5⟩ := HH.out.stAt htT
    have hfw := HF1.out.trans_same hw
    exact ⟨g, off, A2, c2, s1, by rw [hfw.cell (p := ⟨g, off + t, none⟩) s2 (by simp)]; exact s3, by rw [hfw.cell (p := ⟨Λ.S t, 1, none⟩) (lt_of_cell s4) (by simp)]; exact s4, s5.fr hfw (by simp)⟩
  have HC2 : Hid (∀ w, Fr [] w1 w → w.cell? ⟨Λ.m, 2, none⟩ = some (.slice Λ.sA T Λ.sc) ∧ Λ.m < w.heap.size) := fun w hw => ⟨(HH.out.fr0 (HF1.out.trans_same hw)).c2, (HH.out.fr0 (HF1.out.trans_same hw)).st.lt⟩
  clear hn ht HO NM
  generalize hO : order σ T = O at *
  clear hO
  go_wp2_with fail
  go_loopw [5, 6] (fun s i wr => ∃ (t : Nat) (A' : Option Addr) (n' c' : Nat), i = .int .i64 t ∧ s = .slice A' n' c' ∧ n' ≤ t * 65 ∧ t ≤ T ∧ OutAt w1 wr A' n' c' ((List.range t).flatMap (shapeT σ O))) (fun _ i _ => T - (intOf i).toNat)
  case atStart => exact ⟨0, none, 0, 0, rfl, rfl, Nat.zero_le _, Nat.zero_le _, Fr.refl _ _, [], Lr.nil _ _, fun g hg => by cases hg⟩
  case round =>
    obtain ⟨t, A1, n1, c1, rfl, rfl, hn1, htT, hs1⟩ := hrel
    obtain ⟨x2, NM⟩ := HC2.out wr hs1.1
    by_cases hlt : t < T
    · have hlt1 : (t : Int) < (T : Int) := by omega
      obtain ⟨g, off, A2, c2, s1, y1, y2, s5⟩ := HROW.out wr t hs1.1 hlt
      rw [s1] at x2
      have HLT := hide hlt
      have HLN := HLEN.out t
      obtain ⟨ln, hln⟩ : ∃ ln, ln = (σ.st t).length := ⟨_, rfl⟩
      have HLL := hide hln
      rw [← hln] at y2 HLN
      have hwl : IntKind.u64.wrap (ln : Int) = (ln : Int) := IntWalk.u64_in _ ⟨by omega, by omega⟩
      obtain ⟨hf, Go, k2, k4⟩ := hs1
      have HF := hide hf
      have K4 := hide k4
      have HB : Hid (n1 + 1 ≤ maxLen ∧ (n1 + 1) * 8 ≤ 140737488355328) := ⟨by unfold maxLen; omega, by omega⟩
      have HLR2 : Hid (Lr (wr.alloc (.cells #[.int .u64 (ln : Int)] 32)) 32 A1 n1 c1 Go (refV ((List.range t).flatMap (shapeT σ O)))) := k2.alloc _
      have NG := lt_of_cell y1
      have NS := lt_of_cell y2
      clear hf k2 k4 hln s1 s5
      go_wp2_with (first | (at_builtin; refine wpList_append_lr rfl _ _ 42 rfl 32 i0 (.int .u64 0) 8 Try.underlying42 hi hz0 hz1 hz2 rfl rfl HLR2.out rfl (by rfl) (fun _ => one_of wr (.int .u64 (ln : Int)) 32 rfl _ (Fr.refl _ _)) (by intro u hu; simp at hu; subst hu; rfl) HB.out.1 HB.out.2 ?_; intro A' c' G' w4 HLn HFn HGn))
      have HS : Hid (OutAt w1 w4 A' (n1 + 1) c' ((List.range t).flatMap (shapeT σ O) ++ [(ln : Int)])) := OutAt.app HF.out K4.out ((Fr.refl [] wr).alloc _) HFn.out (by rw [refV_snoc]; exact HLn.out) (fun g hg => (HGn.out g hg).imp id (fun h => by rw [h.1]; simp))
      clear HF K4 HB HLR2 HLn HFn HGn hwl x2 y1 y2 NG NS NM
      have hn2 : n1 + 1 ≤ t * 65 + 1 := by omega
      clear hn1
      generalize n1 + 1 = n2 at *
      go_loopw [5, 7] (fun s i wr => ∃ (k : Nat) (A' : Option Addr) (n' c' : Nat), i = .int .i64 k ∧ s = .slice A' n' c' ∧ n' ≤ t * 65 + 1 + k ∧ k ≤ ln ∧ OutAt w1 wr A' n' c' ((List.range t).flatMap (shapeT σ O) ++ [(ln : Int)] ++ ((σ.st t).take k).map (num O))) (fun _ i _ => ln - (intOf i).toNat)
      case atStart => exact ⟨0, A', n2, c', rfl, rfl, by omega, Nat.zero_le _, by simpa using HS.out⟩
      case round =>
        obtain ⟨k, A5, n5, c5, rfl, rfl, hn5, hk, hs5⟩ := hrel
        obtain ⟨x2, NM⟩ := HC2.out wr hs5.1
        obtain ⟨g, off, A2, c2, s1, y1, y2, s5⟩ := HROW.out wr t hs5.1 HLT.out
        rw [s1] at x2
        rw [← HLL.out] at y2 s5
        by_cases hkl : k < ln
        · have hkl1 : (k : Int) < (ln : Int) := by omega
          have hks : k < (σ.st t).length := by have := HLL.out; omega
          obtain ⟨q, hq, hqN⟩ := HMEM.out t k hks
          obtain ⟨gs, os, rfl, _, hcs⟩ := s5 (by omega)
          have y3 : wr.cell? ⟨gs, os + k, none⟩ = some (.int .u64 (q : Int)) := by rw [← hq]; exact hcs k hkl
          have y4 := HNUM.out q wr hqN hs5.1
          have hq1 : (q : Int) < ((σ.N : Int) + 1) := by omega
          obtain ⟨hf, Go, k2, k4⟩ := hs5
          have HF := hide hf
          have K4 := hide k4
          have HB : Hid (n5 + 1 ≤ maxLen ∧ (n5 + 1) * 8 ≤ 140737488355328) := ⟨by unfold maxLen; omega, by omega⟩
          have HQ := hide hq
          have HKS := hide hks
          have HLT2 := hide hkl
          obtain ⟨y, hy⟩ : ∃ y, y = num O (q : Int) := ⟨_, rfl⟩
          rw [← hy] at y4
          have HY := hide hy
          have HLR2 : Hid (Lr (wr.alloc (.cells #[.int .u64 y] 32)) 32 A5 n5 c5 Go (refV ((List.range t).flatMap (shapeT σ O) ++ [(ln : Int)] ++ ((σ.st t).take k).map (num O)))) := k2.alloc _
          clear hf k2 k4 hcs hq hks hy s1 s5 HS
          go_wp2_with (first | (at_builtin; refine wpList_append_lr rfl _ _ 42 rfl 32 i0 (.int .u64 0) 8 Try.underlying42 hi hz0 hz1 hz2 rfl rfl HLR2.out rfl (by rfl) (fun _ => one_of wr (.int .u64 y) 32 rfl _ (Fr.refl _ _)) (by intro u hu; simp at hu; subst hu; rfl) HB.out.1 HB.out.2 ?_; intro A' c' G' w4 HLn HFn HGn))
          have HS' : Hid (OutAt w1 w4 A' (n5 + 1) c' ((List.range t).flatMap (shapeT σ O) ++ [(ln : Int)] ++ ((σ.st t).take (k + 1)).map (num O))) := OutAt.app HF.out K4.out ((Fr.refl [] wr).alloc _) HFn.out (by rw [take_succ_getD HKS.out, List.map_append, ← List.append_assoc, show [(σ.st t).getD k 0].map (num O) = [y] by rw [HY.out, HQ.out]; rfl, refV_snoc]; exact HLn.out) (fun g hg => (HGn.out g hg).imp id (fun h => by rw [h.1]; simp))
          go_roundw
          case rel => exact ⟨k + 1, A', n5 + 1, c', by go_num, rfl, by omega, by have := HLT2.out; omega, HS'.out⟩
          case measure => simp [intOf]; have := HLT2.out; omega
        · obtain rfl : k = ln := by omega
          have htk : (σ.st t).take k = σ.st t := by rw [List.take_of_length_le]; have := HLL.out; omega
          rw [htk] at hs5
          have HS5 : Hid (OutAt w1 wr A5 n5 c5 ((List.range (t + 1)).flatMap (shapeT σ O))) := by
            rw [List.range_succ, List.flatMap_append]
            have e : [t].flatMap (shapeT σ O) = [(k : Int)] ++ (σ.st t).map (num O) := by simp [shapeT, HLL.out]
            rw [e, ← List.append_assoc]
            exact hs5
          have hn6 : n5 ≤ (t + 1) * 65 := by omega
          clear hs5 htk HS s1 s5
          go_wp2_with fail
          go_roundw
          case rel => exact ⟨t + 1, A5, n5, c5, by go_num, rfl, hn6, by have := HLT.out; omega, HS5.out⟩
          case measure => simp [intOf]; have := HLT.out; omega
    · obtain rfl : t = T := by omega
      have HS1 := hide hs1
      have hn2 : n1 ≤ 4160 := by omega
      have HN2 := hide hn2
      clear hs1 hn1
      go_wp2_with fail
      clear x2 NM
      go_loopw [5, 8] (fun s i wr => ∃ (k : Nat) (A' : Option Addr) (n' c' : Nat), i = .int .i64 k ∧ s = .slice A' n' c' ∧ n' ≤ 4160 + k * 2097154 ∧ k ≤ n ∧ OutAt w1 wr A' n' c' ((List.range t).flatMap (shapeT σ O) ++ (O.take k).flatMap (shapeO σ O))) (fun _ i _ => n - (intOf i).toNat)
      case atStart => exact ⟨0, A1, n1, c1, rfl, rfl, by omega, Nat.zero_le _, by simpa using HS1.out⟩
      case round =>
        obtain ⟨k, A2, n2, c2, rfl, rfl, hn3, hk, hs2⟩ := hrel
        by_cases hlt2 : k < n
        · have hlt3 : (k : Int) < (n : Int) := by omega
          obtain ⟨r, hr⟩ : ∃ r, O[k]? = some r := ⟨_, List.getElem?_eq_getElem (by have := HN.out; omega)⟩
          obtain ⟨b, cc, q, gl, ol, rA, rc, dA, dc, dG, rfl, q1, q2, q3⟩ := HR.out k r hr
          have hnp := HK.out.np r
          have hnw := HK.out.nw r
          have hkb : k < 4096 := by have := HN.out; have := HOL.out; omega
          have HOK := hide hr
          obtain ⟨rn, hrn⟩ : ∃ rn, rn = σ.np r := ⟨_, rfl⟩
          obtain ⟨dn, hdn⟩ : ∃ dn, dn = σ.nw r := ⟨_, rfl⟩
          have HRN := hide hrn
          have HDN := hide hdn
          have HSC : Hid (∀ w' : World, Fr [] wr w' → (fun w' : World => w'.cell? ⟨Λ.m, 1, none⟩ = some (.slice (some ⟨b, 0, none⟩) σ.N cc) ∧ w'.cell? ⟨gl, ol + k, none⟩ = some (.int .i64 ((q : Int) + 1)) ∧ w'.cell? ⟨b, q * 2, none⟩ = some (.slice rA rn rc) ∧ w'.cell? ⟨b, q * 2 + 1, none⟩ = some (.slice dA dn dc)) w') := fun w' hw => by
            obtain ⟨a1, a2, a3, a4, _, _⟩ := q3 w' (hs2.1.trans_same hw)
            rw [hrn, hdn]
            exact ⟨a1, a2, a3, a4⟩
          have HKD : Hid (∀ w', Fr [] w1 w' → Sl w' rA rn (fun j => .int .u64 ((kids σ r).getD j 0)) ∧ Lr w' 32 dA dn dc dG (refV (datas σ r))) := fun w' hw => by
            obtain ⟨_, _, _, _, a5, a6⟩ := q3 w' hw
            rw [hrn, hdn]
            exact ⟨a5, a6⟩
          rw [← hrn] at hnp
          rw [← hdn] at hnw
          have hw1 : IntKind.i64.wrap ((q : Int) + 1 - 1) = (q : Int) := by
            rw [show (q : Int) + 1 - 1 = (q : Int) by omega]
            exact IntWalk.i64_in _ ⟨by omega, by omega⟩
          have hw2 : IntKind.i64.wrap (q : Int) = (q : Int) := IntWalk.i64_in _ ⟨by omega, by omega⟩
          have hw3 : IntKind.u64.wrap (rn : Int) = (rn : Int) := IntWalk.u64_in _ ⟨by omega, by omega⟩
          have hw4 : IntKind.u64.wrap (dn : Int) = (dn : Int) := IntWalk.u64_in _ ⟨by omega, by omega⟩
          have hqb : q < 4096 := by omega
          have hq1 : (q : Int) < (σ.N : Int) := by omega
          have HS2 := hide hs2
          have HLT := hide hlt2
          have HFD : Hid (Fr [] wr wr.drew) := (Fr.refl _ _).drew
          clear q3 hr hrn hdn q1 HS1 hs2 HR
          go_upto_region 14 with fail
          go_cut [9] from 74 to 123 (fun p wc => ∃ xb, p = .pointer (some ⟨xb, 0, none⟩) ∧ Blk wc xb 86 #[.slice rA rn rc, .slice dA dn dc] ∧ Fr [] wr wc)
          case first =>
            refine wp_region_held_drew (S := fun w' => w'.cell? ⟨Λ.m, 1, none⟩ = some (.slice (some ⟨b, 0, none⟩) σ.N cc) ∧ w'.cell? ⟨gl, ol + k, none⟩ = some (.int .i64 ((q : Int) + 1)) ∧ w'.cell? ⟨b, q * 2, none⟩ = some (.slice rA rn rc) ∧ w'.cell? ⟨b, q * 2 + 1, none⟩ = some (.slice dA dn dc)) (by kernel_rfl) (HSC.out _ HFD.out) (fun hHeld => ?_)
            refine wpAnyH_take (i := 0) (v := ?v0x12) rfl (by kernel_rfl) (by kernel_rfl) (by kernel_rfl) (fun _ _ _ h => h) (Or.inl ⟨by rfl, ?hy0x12⟩) (by assumption) ?rest0x12
            case hy0x12 => (intro w' hSw; (try dsimp only at hSw); (try simp only [List.getElem_toArray, List.getElem_cons_succ, List.getElem_cons_zero]); (first | (go_simp; done) | (go_simp; with_reducible rfl)))
            (try simp only [Act.put, List.getElem_toArray, List.getElem_cons_succ, List.getElem_cons_zero, List.setIfInBounds_toArray, List.set_cons_zero, List.set_cons_succ])
            refine wpAnyH_take (i := 1) (v := ?v1x13) rfl (by kernel_rfl) (by kernel_rfl) (by kernel_rfl) (fun _ _ _ h => h) (Or.inl ⟨by rfl, ?hy1x13⟩) (by assumption) ?rest1x13
            case hy1x13 => (intro w' hSw; (try dsimp only at hSw); (try simp only [List.getElem_toArray, List.getElem_cons_succ, List.getElem_cons_zero]); (first | (go_simp; done) | (go_simp; with_reducible rfl)))
            (try simp only [Act.put, List.getElem_toArray, List.getElem_cons_succ, List.getElem_cons_zero, List.setIfInBounds_toArray, List.set_cons_zero, List.set_cons_succ])
            refine wpAnyH_take (i := 2) (v := ?v2x14) rfl (by kernel_rfl) (by kernel_rfl) (by kernel_rfl) (fun _ _ _ h => h) (Or.inl ⟨by rfl, ?hy2x14⟩) (by assumption) ?rest2x14
            case hy2x14 => (intro w' hSw; (try dsimp only at hSw); (try simp only [List.getElem_toArray, List.getElem_cons_succ, List.getElem_cons_zero]); (first | (go_simp; done) | (go_simp; with_reducible rfl)))
            (try simp only [Act.put, List.getElem_toArray, List.getElem_cons_succ, List.getElem_cons_zero, List.setIfInBounds_toArray, List.set_cons_zero, List.set_cons_succ])
            refine wpAnyH_take (i := 3) (v := ?v3x15) rfl (by kernel_rfl) (by kernel_rfl) (by kernel_rfl) (fun _ _ _ h => h) (Or.inl ⟨by rfl, ?hy3x15⟩) (by assumption) ?rest3x15
            case hy3x15 => (intro w' hSw; (try dsimp only at hSw); (try simp only [List.getElem_toArray, List.getElem_cons_succ, List.getElem_cons_zero]); (first | (go_simp; done) | (go_simp; with_reducible rfl)))
            (try simp only [Act.put, List.getElem_toArray, List.getElem_cons_succ, List.getElem_cons_zero, List.setIfInBounds_toArray, List.set_cons_zero, List.set_cons_succ])
            refine wpAnyH_take (i := 4) (v := ?v4x16) rfl (by kernel_rfl) (by kernel_rfl) (by kernel_rfl) (fun _ _ _ h => h) (Or.inl ⟨by rfl, ?hy4x16⟩) (by assumption) ?rest4x16
            case hy4x16 => (intro w' hSw; (try dsimp only at hSw); (try simp only [List.getElem_toArray, List.getElem_cons_succ, List.getElem_cons_zero]); (first | (go_simp; done) | (go_simp; with_reducible rfl)))
            (try simp only [Act.put, List.getElem_toArray, List.getElem_cons_succ, List.getElem_cons_zero, List.setIfInBounds_toArray, List.set_cons_zero, List.set_cons_succ])
            refine wpAnyH_take (i := 5) (v := ?v5x17) rfl (by kernel_rfl) (by kernel_rfl) (by kernel_rfl) (fun _ _ _ h => h) (Or.inl ⟨by rfl, ?hy5x17⟩) (by assumption) ?rest5x17
            case hy5x17 => (intro w' hSw; (try dsimp only at hSw); (try simp only [List.getElem_toArray, List.getElem_cons_succ, List.getElem_cons_zero]); (first | (go_simp; done) | (go_simp; with_reducible rfl)))
            (try simp only [Act.put, List.getElem_toArray, List.getElem_cons_succ, List.getElem_cons_zero, List.setIfInBounds_toArray, List.set_cons_zero, List.set_cons_succ])
            refine wpAnyH_take (i := 6) (v := ?v6x18) rfl (by kernel_rfl) (by kernel_rfl) (by kernel_rfl) (fun _ _ _ h => h) (Or.inl ⟨by rfl, ?hy6x18⟩) (by assumption) ?rest6x18
            case hy6x18 => (intro w' hSw; (try dsimp only at hSw); (try simp only [List.getElem_toArray, List.getElem_cons_succ, List.getElem_cons_zero]); (first | (go_simp; done) | (go_simp; with_reducible rfl)))
            (try simp only [Act.put, List.getElem_toArray, List.getElem_cons_succ, List.getElem_cons_zero, List.setIfInBounds_toArray, List.set_cons_zero, List.set_cons_succ])
            refine wpAnyH_take (i := 7) (v := ?v7x19) rfl (by kernel_rfl) (by kernel_rfl) (by kernel_rfl) (fun _ _ _ h => h) (Or.inl ⟨by rfl, ?hy7x19⟩) (by assumption) ?rest7x19
            case hy7x19 => (intro w' hSw; (try dsimp only at hSw); (try simp only [List.getElem_toArray, List.getElem_cons_succ, List.getElem_cons_zero]); (first | (go_simp; done) | (go_simp; with_reducible rfl)))
            (try simp only [Act.put, List.getElem_toArray, List.getElem_cons_succ, List.getElem_cons_zero, List.setIfInBounds_toArray, List.set_cons_zero, List.set_cons_succ])
            refine wpAnyH_take (i := 8) (v := ?v8x20) rfl (by kernel_rfl) (by kernel_rfl) (by kernel_rfl) (fun _ _ _ h => h) (Or.inl ⟨by rfl, ?hy8x20⟩) (by assumption) ?rest8x20
            case hy8x20 => (intro w' hSw; (try dsimp only at hSw); (try simp only [List.getElem_toArray, List.getElem_cons_succ, List.getElem_cons_zero]); (first | (go_simp; done) | (go_simp; with_reducible rfl)))
            (try simp only [Act.put, List.getElem_toArray, List.getElem_cons_succ, List.getElem_cons_zero, List.setIfInBounds_toArray, List.set_cons_zero, List.set_cons_succ])
            refine wpAnyH_take (i := 9) (v := ?v9x21) rfl (by kernel_rfl) (by kernel_rfl) (by kernel_rfl) (fun _ _ _ h => h) (Or.inl ⟨by rfl, ?hy9x21⟩) (by assumption) ?rest9x21
            case hy9x21 => (intro w' hSw; (try dsimp only at hSw); (try simp only [List.getElem_toArray, List.getElem_cons_succ, List.getElem_cons_zero]); (first | (go_simp; done) | (go_simp; with_reducible rfl)))
            (try simp only [Act.put, List.getElem_toArray, List.getElem_cons_succ, List.getElem_cons_zero, List.setIfInBounds_toArray, List.set_cons_zero, List.set_cons_succ])
            refine wpAnyH_take (i := 10) (v := ?v10x22) rfl (by kernel_rfl) (by kernel_rfl) (by kernel_rfl) (fun _ _ _ h => h) (Or.inl ⟨by rfl, ?hy10x22⟩) (by assumption) ?rest10x22
            case hy10x22 => (intro w' hSw; (try dsimp only at hSw); (try simp only [List.getElem_toArray, List.getElem_cons_succ, List.getElem_cons_zero]); (first | (go_simp; done) | (go_simp; with_reducible rfl)))
            (try simp only [Act.put, List.getElem_toArray, List.getElem_cons_succ, List.getElem_cons_zero, List.setIfInBounds_toArray, List.set_cons_zero, List.set_cons_succ])
            refine wpAnyH_ready (rs := [11]) (by kernel_rfl) (by simp) ?_
            refine AllReadyH.cons rfl (fun K hK => ?_) AllReadyH.nil
            (try simp only [List.getElem_toArray, List.getElem_cons_succ, List.getElem_cons_zero])
            go_simp
            refine hK.out _ _ ((HSC.out _ (HFD.out.alloc _))) (fun hHeld => ?_)
            clear hK K
            (try simp only [Act.put, List.setIfInBounds_toArray, List.set_cons_zero, List.set_cons_succ])
            refine wpAnyH_ready (rs := [12]) (by kernel_rfl) (by simp) ?_
            refine AllReadyH.cons rfl (fun K hK => ?_) AllReadyH.nil
            (try simp only [List.getElem_toArray, List.getElem_cons_succ, List.getElem_cons_zero])
            go_simp
            refine hK.out _ _ ((HSC.out _ (HFD.out.alloc _))) (fun hHeld => ?_)
            clear hK K
            (try simp only [Act.put, List.setIfInBounds_toArray, List.set_cons_zero, List.set_cons_succ])
            refine wpAnyH_done (by kernel_rfl) ?_ _
            go_wp2_with fail
            go_meet
            case rel => exact ⟨_, rfl, Blk.new_at _ _ (by simp), HFD.out.alloc _⟩
          case rest =>
            obtain ⟨xb, rfl, hx, hf⟩ := hcut
            have hsc := HS2.out.fr0 hf
            have HSC2 := hide hsc
            have HXB := hide hx
            have HX : Hid (∀ w', Fr [] wc w' → w'.cell? ⟨xb, 0, none⟩ = some (.slice rA rn rc) ∧ w'.cell? ⟨xb, 1, none⟩ = some (.slice dA dn dc) ∧ xb < w'.heap.size) := fun w' hw => by
              have hb := hx.fr hw (by simp)
              exact ⟨by rw [hb.cell]; rfl, by rw [hb.cell]; rfl, hb.lt⟩
            obtain ⟨x0, x1, NX⟩ := HX.out wc (Fr.refl _ _)
            obtain ⟨hf5, Go, k2, k4⟩ := hsc
            have HXlt : Hid (w1.heap.size ≤ xb → True) := fun _ => trivial
            have HF := hide hf5
            have K4 := hide k4
            have HB : Hid (n2 + 2 ≤ maxLen ∧ (n2 + 2) * 8 ≤ 140737488355328) := ⟨by unfold maxLen; omega, by omega⟩
            have HLR2 : Hid (Lr (wc.alloc (.cells #[.int .u64 (rn : Int), .int .u64 (dn : Int)] 32)) 32 A2 n2 c2 Go (refV ((List.range t).flatMap (shapeT σ O) ++ (O.take k).flatMap (shapeO σ O)))) := k2.alloc _
            have HXG : Hid (xb ∉ Go) := k2.apart hx (by decide)
            have HGX : Hid (∀ w', Fr Go wc w' → Blk w' xb 86 #[.slice rA rn rc, .slice dA dn dc]) := fun w' hF => hx.fr hF HXG.out
            clear hf hf5 hx k2 k4 HSC HFD
            go_wp2_with (first | (at_builtin; refine wpList_append_lr rfl _ _ 42 rfl 32 i0 (.int .u64 0) 8 Try.underlying42 hi hz0 hz1 hz2 rfl rfl HLR2.out rfl (by rfl) (fun _ => news_at wc #[.int .u64 (rn : Int), .int .u64 (dn : Int)] 32 rfl _ (Fr.refl _ _)) (by intro u hu; simp at hu; rcases hu with rfl | rfl <;> rfl) HB.out.1 HB.out.2 ?_; intro A' c' G' w4 HLn HFn HGn))
            have HS4 : Hid (OutAt w1 w4 A' (n2 + 2) c' ((List.range t).flatMap (shapeT σ O) ++ (O.take k).flatMap (shapeO σ O) ++ [(rn : Int), (dn : Int)]) ∧ Blk w4 xb 86 #[.slice rA rn rc, .slice dA dn dc]) :=
              ⟨OutAt.app HF.out K4.out ((Fr.refl [] wc).alloc _) HFn.out (by rw [refV_app]; exact HLn.out) (fun g hg => (HGn.out g hg).imp id (fun h => by rw [h.1]; simp)), (HXB.out.alloc _).fr HFn.out HXG.out⟩
            clear HF K4 HB HLR2 HLn HFn HGn HXG HGX HSC2 HXB HX x0 x1 NX HXlt HS2
            have hn4 : n2 + 2 ≤ 4160 + k * 2097154 + 2 := by omega
            clear hn3
            generalize n2 + 2 = n3 at *
            go_loopw [5, 10] (fun s i wr => ∃ (j : Nat) (A' : Option Addr) (n' c' : Nat), i = .int .i64 j ∧ s = .slice A' n' c' ∧ n' ≤ 4160 + k * 2097154 + 2 + j ∧ j ≤ rn ∧ OutAt w1 wr A' n' c' ((List.range t).flatMap (shapeT σ O) ++ (O.take k).flatMap (shapeO σ O) ++ [(rn : Int), (dn : Int)] ++ ((kids σ r).take j).map (num O)) ∧ Blk wr xb 86 #[.slice rA rn rc, .slice dA dn dc]) (fun _ i _ => rn - (intOf i).toNat)
            case atStart => exact ⟨0, A', n3, c', rfl, rfl, by omega, Nat.zero_le _, by simpa using HS4.out.1, HS4.out.2⟩
            case round =>
              obtain ⟨j, A5, n5, c5, rfl, rfl, hn5, hj, hs5, hx5⟩ := hrel
              have x0 : wr.cell? ⟨xb, 0, none⟩ = some (.slice rA rn rc) := by rw [hx5.cell]; rfl
              have x1 : wr.cell? ⟨xb, 1, none⟩ = some (.slice dA dn dc) := by rw [hx5.cell]; rfl
              have NX : xb < wr.heap.size := hx5.lt
              by_cases hjl : j < rn
              · have hjl1 : (j : Int) < (rn : Int) := by omega
                have hjs : j < σ.np r := by have := HRN.out; omega
                obtain ⟨q, hq, hqN⟩ := HKM.out r j hjs
                obtain ⟨gs, os, rfl, _, hcs⟩ := (HKD.out wr hs5.1).1 (by omega)
                have y3 : wr.cell? ⟨gs, os + j, none⟩ = some (.int .u64 (q : Int)) := by rw [← hq]; exact hcs j hjl
                have y4 := HNUM.out q wr hqN hs5.1
                have hq1 : (q : Int) < ((σ.N : Int) + 1) := by omega
                obtain ⟨hf, Go, k2, k4⟩ := hs5
                have HF := hide hf
                have K4 := hide k4
                have HB : Hid (n5 + 1 ≤ maxLen ∧ (n5 + 1) * 8 ≤ 140737488355328) := ⟨by unfold maxLen; omega, by omega⟩
                have HQ := hide hq
                have HKS := hide hjs
                have HLT2 := hide hjl
                obtain ⟨y, hy⟩ : ∃ y, y = num O (q : Int) := ⟨_, rfl⟩
                rw [← hy] at y4
                have HY := hide hy
                have HXG : Hid (xb ∉ Go) := k2.apart hx5 (by decide)
                have HXB := hide hx5
                have HLR2 : Hid (Lr (wr.alloc (.cells #[.int .u64 y] 32)) 32 A5 n5 c5 Go (refV ((List.range t).flatMap (shapeT σ O) ++ (O.take k).flatMap (shapeO σ O) ++ [(rn : Int), (dn : Int)] ++ ((kids σ r).take j).map (num O)))) := k2.alloc _
                clear hf k2 k4 hcs hq hjs hy HS4 hx5 x1
                go_wp2_with (first | (at_builtin; refine wpList_append_lr rfl _ _ 42 rfl 32 i0 (.int .u64 0) 8 Try.underlying42 hi hz0 hz1 hz2 rfl rfl HLR2.out rfl (by rfl) (fun _ => one_of wr (.int .u64 y) 32 rfl _ (Fr.refl _ _)) (by intro u hu; simp at hu; subst hu; rfl) HB.out.1 HB.out.2 ?_; intro A' c' G' w4 HLn HFn HGn))
                have HS' : Hid (OutAt w1 w4 A' (n5 + 1) c' ((List.range t).flatMap (shapeT σ O) ++ (O.take k).flatMap (shapeO σ O) ++ [(rn : Int), (dn : Int)] ++ ((kids σ r).take (j + 1)).map (num O)) ∧ Blk w4 xb 86 #[.slice (some ⟨gs, os, none⟩) rn rc, .slice dA dn dc]) :=
                  ⟨OutAt.app HF.out K4.out ((Fr.refl [] wr).alloc _) HFn.out (by rw [take_succ_getD (by rw [kids_len]; exact HKS.out), List.map_append, ← List.append_assoc, show [(kids σ r).getD j 0].map (num O) = [y] by rw [HY.out, HQ.out]; rfl, refV_snoc]; exact HLn.out) (fun g hg => (HGn.out g hg).imp id (fun h => by rw [h.1]; simp)), (HXB.out.alloc _).fr HFn.out HXG.out⟩
                go_roundw
                case rel => exact ⟨j + 1, A', n5 + 1, c', by go_num, rfl, by omega, by have := HLT2.out; omega, HS'.out.1, HS'.out.2⟩
                case measure => simp [intOf]; have := HLT2.out; omega
              · obtain rfl : j = rn := by omega
                have htk : (kids σ r).take j = kids σ r := by rw [List.take_of_length_le]; rw [kids_len]; have := HRN.out; omega
                rw [htk] at hs5
                obtain ⟨hf, Go, k2, k4⟩ := hs5
                have HDL := hide (HKD.out wr hf).2
                have HF := hide hf
                have K4 := hide k4
                have hdl : (refV (datas σ r)).length = dn := by rw [refV_len]; have := HDN.out; simp [datas]; omega
                have HB : Hid ((refV (datas σ r)).length = dn ∧ (∀ u ∈ refV (datas σ r), u.oneCell' = true) ∧ n5 + dn ≤ maxLen ∧ (n5 + dn) * 8 ≤ 140737488355328) := ⟨hdl, refV_one _, by unfold maxLen; omega, by omega⟩
                have HLR2 : Hid (Lr wr 32 A5 n5 c5 Go (refV ((List.range t).flatMap (shapeT σ O) ++ (O.take k).flatMap (shapeO σ O) ++ [(j : Int), (dn : Int)] ++ (kids σ r).map (num O)))) := k2
                have HJN : Hid (j = σ.np r) := by have := HRN.out; show j = σ.np r; omega
                have HNX : Hid (n5 + dn ≤ 4160 + (k + 1) * 2097154) := by show _ ≤ _; omega
                clear hf k2 k4 htk HS4 hdl hx5
                go_upto_region 20 with fail
                go_wp2_with (at_builtin; refine wpList_append_lr rfl _ _ 42 rfl 32 i0 (.int .u64 0) 8 Try.underlying42 hi hz0 hz1 hz2 rfl rfl HLR2.out rfl HB.out.1 HDL.out.read HB.out.2.1 HB.out.2.2.1 HB.out.2.2.2 ?_; intro A' c' G' w4 HLn HFn HGn)
                have HS' : Hid (OutAt w1 w4 A' (n5 + dn) c' ((List.range t).flatMap (shapeT σ O) ++ (O.take (k + 1)).flatMap (shapeO σ O))) := by
                  have e1 : O.take (k + 1) = O.take k ++ [r] := by rw [List.take_add_one, HOK.out]; rfl
                  have e2 : (List.range t).flatMap (shapeT σ O) ++ (O.take (k + 1)).flatMap (shapeO σ O) = ((List.range t).flatMap (shapeT σ O) ++ (O.take k).flatMap (shapeO σ O) ++ [(j : Int), (dn : Int)] ++ (kids σ r).map (num O)) ++ datas σ r := by
                    rw [e1, List.flatMap_append, show [r].flatMap (shapeO σ O) = shapeO σ O r by simp]
                    unfold shapeO
                    rw [HJN.out, HDN.out]
                    simp [List.append_assoc]
                  rw [e2]
                  exact OutAt.app HF.out K4.out (Fr.refl [] wr) HFn.out (by rw [refV_app]; exact HLn.out) (fun g hg => (HGn.out g hg).imp id (fun h => by rw [h.1]; exact Nat.le_refl _))
                go_roundw
                case rel => exact ⟨k + 1, A', n5 + dn, c', by go_num, rfl, HNX.out, by have := HLT.out; omega, HS'.out⟩
                case measure => simp [intOf]; have := HLT.out; omega
        · obtain rfl : k = n := by omega
          have hlt3 : ¬ (k : Int) < (k : Int) := by omega
          have HE : Hid (ShapePost W (shape σ t) (.returned (.slice A2 n2 c2)) wr) := by
            obtain ⟨hf, Go, k2, k4⟩ := hs2
            refine ⟨A2, n2, c2, Go, rfl, ?_, HF1.out.trans_same hf, fun g hg => Nat.le_trans HF1.out.size (k4 g hg)⟩
            rw [HSH.out]
            rwa [List.take_of_length_le (by have := HN.out; omega)] at k2
          clear hs2 HR HS1
          go_wp2_with fail
          go_ret
          exact HE.out
end
end Go.Proofs.Ytmodjkglcgoohaa
