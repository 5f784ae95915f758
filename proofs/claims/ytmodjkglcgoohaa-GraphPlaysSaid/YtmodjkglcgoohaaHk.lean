/- gleanerref13: Words. -/
import Derived.Test.YtmodjkglcgoohaaHj
import Derived.WalkKit
import Derived.BigQuiet
import Derived.Deep.CutRange
import Derived.Deep.RegionHeld3
namespace Go.Proofs.Ytmodjkglcgoohaa
set_option linter.unusedVariables false
set_option linter.unusedSimpArgs false
open Go.RowKit Go.Gl

section
variable {W w1 : World} {tg : TG} {Λ : ML} {T B M : Nat} {σ : GS}
set_option maxRecDepth 100000 in
set_option maxHeartbeats 1600000 in
theorem mwords_any (h : MG W tg Λ T T B M σ) (ok : GOk T B σ) (hd : GDim T B M) (hN : σ.N < 4096) : Calls Try.prog 17 #[.pointer (some ⟨Λ.m, 0, none⟩)] W fun e w' => e = .returned (.int .i64 (words σ T : Int)) ∧ Fr [] W w' := by
  have HO := hide (morder_any h ok hd hN)
  have hOl : (order σ T).length ≤ 4096 := by have := order_len (T := T) ok; omega
  have HOL := hide hOl
  have HH := hide h
  have HK := hide ok
  have HWS : Hid (words σ T = ((order σ T).map (sizeOb σ)).sum) := rfl
  have HSL : Hid (∀ L : List Int, (L.map (sizeOb σ)).sum ≤ L.length * 2097153) := sum_le σ ok
  have NM : Λ.m < W.heap.size := h.st.lt
  clear h ok hd hOl
  go_enter Try.func17, Try.ntmps17
  go_wp2_with fail
  refine HO.out.mono ?_
  rintro e w1 ⟨A, n, c, nb, rfl, hn, ht⟩
  have HR : Hid (∀ k r, (order σ T)[k]? = some r → ReadAt w1 Λ σ A k r) := fun k r hr => HH.out.read HK.out ht hn hr
  have HF1 := hide ht.1
  have HN := hide hn
  clear hn ht HO
  generalize hO : order σ T = O at *
  clear hO
  go_wp2_with fail
  go_loopw [5, 6] (fun s i wr => ∃ k : Nat, i = .int .i64 k ∧ s = .int .i64 (((O.take k).map (sizeOb σ)).sum : Int) ∧ k ≤ n ∧ Fr [] w1 wr) (fun _ i _ => n - (intOf i).toNat)
  case atStart => exact ⟨0, rfl, rfl, Nat.zero_le _, Fr.refl _ _⟩
  case round =>
    obtain ⟨k, rfl, rfl, hk, hf⟩ := hrel
    by_cases hlt : k < n
    · have hlt1 : (k : Int) < (n : Int) := by omega
      obtain ⟨r, hr⟩ : ∃ r, O[k]? = some r := ⟨_, List.getElem?_eq_getElem (by have := HN.out; omega)⟩
      obtain ⟨b, cc, q, gl, ol, rA, rc, dA, dc, dG, rfl, q1, q2, q3⟩ := HR.out k r hr
      have hnp := HK.out.np r
      have hnw := HK.out.nw r
      have HS1 : Hid (((O.take (k + 1)).map (sizeOb σ)).sum = ((O.take k).map (sizeOb σ)).sum + (1 + σ.np r + σ.nw r)) := by
        show ((O.take (k + 1)).map (sizeOb σ)).sum = _
        rw [List.take_add_one, hr]
        simp [sizeOb]
      have hsm : ((O.take k).map (sizeOb σ)).sum ≤ 4096 * 2097153 := by
        have h2 : (O.take k).length ≤ 4096 := by rw [List.length_take]; have := HOL.out; omega
        exact Nat.le_trans (HSL.out (O.take k)) (Nat.mul_le_mul_right 2097153 h2)
      have hkb : k < 4096 := by have := HN.out; have := HOL.out; omega
      obtain ⟨sm, hsm0⟩ : ∃ sm, sm = ((O.take k).map (sizeOb σ)).sum := ⟨_, rfl⟩
      rw [← hsm0] at hsm HS1 ⊢
      obtain ⟨rn, hrn⟩ : ∃ rn, rn = σ.np r := ⟨_, rfl⟩
      obtain ⟨dn, hdn⟩ : ∃ dn, dn = σ.nw r := ⟨_, rfl⟩
      have HSC : Hid (∀ w' : World, Fr [] wr w' → (fun w' : World => w'.cell? ⟨Λ.m, 1, none⟩ = some (.slice (some ⟨b, 0, none⟩) σ.N cc) ∧ w'.cell? ⟨gl, ol + k, none⟩ = some (.int .i64 ((q : Int) + 1)) ∧ w'.cell? ⟨b, q * 2, none⟩ = some (.slice rA rn rc) ∧ w'.cell? ⟨b, q * 2 + 1, none⟩ = some (.slice dA dn dc)) w') := fun w' hw => by
        obtain ⟨a1, a2, a3, a4, _, _⟩ := q3 w' (hf.trans_same hw)
        rw [hrn, hdn]
        exact ⟨a1, a2, a3, a4⟩
      rw [← hrn, ← hdn] at HS1
      rw [← hrn] at hnp
      rw [← hdn] at hnw
      have hw1 : IntKind.i64.wrap ((q : Int) + 1 - 1) = (q : Int) := by
        rw [show (q : Int) + 1 - 1 = (q : Int) by omega]
        exact IntWalk.i64_in _ ⟨by omega, by omega⟩
      have hw2 : IntKind.i64.wrap (q : Int) = (q : Int) := IntWalk.i64_in _ ⟨by omega, by omega⟩
      have hw3 : IntKind.i64.wrap (1 + (rn : Int)) = 1 + (rn : Int) := IntWalk.i64_in _ ⟨by omega, by omega⟩
      have hw4 : IntKind.i64.wrap (1 + (rn : Int) + (dn : Int)) = 1 + (rn : Int) + (dn : Int) := IntWalk.i64_in _ ⟨by omega, by omega⟩
      have hw5 : IntKind.i64.wrap ((sm : Int) + (1 + (rn : Int) + (dn : Int))) = (sm : Int) + (1 + (rn : Int) + (dn : Int)) := IntWalk.i64_in _ ⟨by omega, by omega⟩
      have hqb : q < 4096 := by omega
      have hq1 : (q : Int) < (σ.N : Int) := by omega
      have HF := hide hf
      have HLT := hide hlt
      have HFD : Hid (Fr [] wr wr.drew) := (Fr.refl _ _).drew
      clear q3 hf hr hsm0 hrn hdn q1 HR
      go_upto_region 6 with fail
      go_cut [7] from 13 to 39 (fun p wc => ∃ xb, p = .pointer (some ⟨xb, 0, none⟩) ∧ Blk wc xb 86 #[.slice rA rn rc, .slice dA dn dc] ∧ Fr [] wr wc)
      case first =>
        refine wp_region_held_drew (S := fun w' => w'.cell? ⟨Λ.m, 1, none⟩ = some (.slice (some ⟨b, 0, none⟩) σ.N cc) ∧ w'.cell? ⟨gl, ol + k, none⟩ = some (.int .i64 ((q : Int) + 1)) ∧ w'.cell? ⟨b, q * 2, none⟩ = some (.slice rA rn rc) ∧ w'.cell? ⟨b, q * 2 + 1, none⟩ = some (.slice dA dn dc)) (by kernel_rfl) (HSC.out _ HFD.out) (fun hHeld => ?_)
        refine wpAnyH_take (i := 0) (v := ?v0x1) rfl (by kernel_rfl) (by kernel_rfl) (by kernel_rfl) (fun _ _ _ h => h) (Or.inl ⟨by rfl, ?hy0x1⟩) (by assumption) ?rest0x1
        case hy0x1 => (intro w' hSw; (try dsimp only at hSw); (try simp only [List.getElem_toArray, List.getElem_cons_succ, List.getElem_cons_zero]); (first | (go_simp; done) | (go_simp; with_reducible rfl)))
        (try simp only [Act.put, List.getElem_toArray, List.getElem_cons_succ, List.getElem_cons_zero, List.setIfInBounds_toArray, List.set_cons_zero, List.set_cons_succ])
        refine wpAnyH_take (i := 1) (v := ?v1x2) rfl (by kernel_rfl) (by kernel_rfl) (by kernel_rfl) (fun _ _ _ h => h) (Or.inl ⟨by rfl, ?hy1x2⟩) (by assumption) ?rest1x2
        case hy1x2 => (intro w' hSw; (try dsimp only at hSw); (try simp only [List.getElem_toArray, List.getElem_cons_succ, List.getElem_cons_zero]); (first | (go_simp; done) | (go_simp; with_reducible rfl)))
        (try simp only [Act.put, List.getElem_toArray, List.getElem_cons_succ, List.getElem_cons_zero, List.setIfInBounds_toArray, List.set_cons_zero, List.set_cons_succ])
        refine wpAnyH_take (i := 2) (v := ?v2x3) rfl (by kernel_rfl) (by kernel_rfl) (by kernel_rfl) (fun _ _ _ h => h) (Or.inl ⟨by rfl, ?hy2x3⟩) (by assumption) ?rest2x3
        case hy2x3 => (intro w' hSw; (try dsimp only at hSw); (try simp only [List.getElem_toArray, List.getElem_cons_succ, List.getElem_cons_zero]); (first | (go_simp; done) | (go_simp; with_reducible rfl)))
        (try simp only [Act.put, List.getElem_toArray, List.getElem_cons_succ, List.getElem_cons_zero, List.setIfInBounds_toArray, List.set_cons_zero, List.set_cons_succ])
        refine wpAnyH_take (i := 3) (v := ?v3x4) rfl (by kernel_rfl) (by kernel_rfl) (by kernel_rfl) (fun _ _ _ h => h) (Or.inl ⟨by rfl, ?hy3x4⟩) (by assumption) ?rest3x4
        case hy3x4 => (intro w' hSw; (try dsimp only at hSw); (try simp only [List.getElem_toArray, List.getElem_cons_succ, List.getElem_cons_zero]); (first | (go_simp; done) | (go_simp; with_reducible rfl)))
        (try simp only [Act.put, List.getElem_toArray, List.getElem_cons_succ, List.getElem_cons_zero, List.setIfInBounds_toArray, List.set_cons_zero, List.set_cons_succ])
        refine wpAnyH_take (i := 4) (v := ?v4x5) rfl (by kernel_rfl) (by kernel_rfl) (by kernel_rfl) (fun _ _ _ h => h) (Or.inl ⟨by rfl, ?hy4x5⟩) (by assumption) ?rest4x5
        case hy4x5 => (intro w' hSw; (try dsimp only at hSw); (try simp only [List.getElem_toArray, List.getElem_cons_succ, List.getElem_cons_zero]); (first | (go_simp; done) | (go_simp; with_reducible rfl)))
        (try simp only [Act.put, List.getElem_toArray, List.getElem_cons_succ, List.getElem_cons_zero, List.setIfInBounds_toArray, List.set_cons_zero, List.set_cons_succ])
        refine wpAnyH_take (i := 5) (v := ?v5x6) rfl (by kernel_rfl) (by kernel_rfl) (by kernel_rfl) (fun _ _ _ h => h) (Or.inl ⟨by rfl, ?hy5x6⟩) (by assumption) ?rest5x6
        case hy5x6 => (intro w' hSw; (try dsimp only at hSw); (try simp only [List.getElem_toArray, List.getElem_cons_succ, List.getElem_cons_zero]); (first | (go_simp; done) | (go_simp; with_reducible rfl)))
        (try simp only [Act.put, List.getElem_toArray, List.getElem_cons_succ, List.getElem_cons_zero, List.setIfInBounds_toArray, List.set_cons_zero, List.set_cons_succ])
        refine wpAnyH_take (i := 6) (v := ?v6x7) rfl (by kernel_rfl) (by kernel_rfl) (by kernel_rfl) (fun _ _ _ h => h) (Or.inl ⟨by rfl, ?hy6x7⟩) (by assumption) ?rest6x7
        case hy6x7 => (intro w' hSw; (try dsimp only at hSw); (try simp only [List.getElem_toArray, List.getElem_cons_succ, List.getElem_cons_zero]); (first | (go_simp; done) | (go_simp; with_reducible rfl)))
        (try simp only [Act.put, List.getElem_toArray, List.getElem_cons_succ, List.getElem_cons_zero, List.setIfInBounds_toArray, List.set_cons_zero, List.set_cons_succ])
        refine wpAnyH_take (i := 7) (v := ?v7x8) rfl (by kernel_rfl) (by kernel_rfl) (by kernel_rfl) (fun _ _ _ h => h) (Or.inl ⟨by rfl, ?hy7x8⟩) (by assumption) ?rest7x8
        case hy7x8 => (intro w' hSw; (try dsimp only at hSw); (try simp only [List.getElem_toArray, List.getElem_cons_succ, List.getElem_cons_zero]); (first | (go_simp; done) | (go_simp; with_reducible rfl)))
        (try simp only [Act.put, List.getElem_toArray, List.getElem_cons_succ, List.getElem_cons_zero, List.setIfInBounds_toArray, List.set_cons_zero, List.set_cons_succ])
        refine wpAnyH_take (i := 8) (v := ?v8x9) rfl (by kernel_rfl) (by kernel_rfl) (by kernel_rfl) (fun _ _ _ h => h) (Or.inl ⟨by rfl, ?hy8x9⟩) (by assumption) ?rest8x9
        case hy8x9 => (intro w' hSw; (try dsimp only at hSw); (try simp only [List.getElem_toArray, List.getElem_cons_succ, List.getElem_cons_zero]); (first | (go_simp; done) | (go_simp; with_reducible rfl)))
        (try simp only [Act.put, List.getElem_toArray, List.getElem_cons_succ, List.getElem_cons_zero, List.setIfInBounds_toArray, List.set_cons_zero, List.set_cons_succ])
        refine wpAnyH_take (i := 9) (v := ?v9x10) rfl (by kernel_rfl) (by kernel_rfl) (by kernel_rfl) (fun _ _ _ h => h) (Or.inl ⟨by rfl, ?hy9x10⟩) (by assumption) ?rest9x10
        case hy9x10 => (intro w' hSw; (try dsimp only at hSw); (try simp only [List.getElem_toArray, List.getElem_cons_succ, List.getElem_cons_zero]); (first | (go_simp; done) | (go_simp; with_reducible rfl)))
        (try simp only [Act.put, List.getElem_toArray, List.getElem_cons_succ, List.getElem_cons_zero, List.setIfInBounds_toArray, List.set_cons_zero, List.set_cons_succ])
        refine wpAnyH_take (i := 10) (v := ?v10x11) rfl (by kernel_rfl) (by kernel_rfl) (by kernel_rfl) (fun _ _ _ h => h) (Or.inl ⟨by rfl, ?hy10x11⟩) (by assumption) ?rest10x11
        case hy10x11 => (intro w' hSw; (try dsimp only at hSw); (try simp only [List.getElem_toArray, List.getElem_cons_succ, List.getElem_cons_zero]); (first | (go_simp; done) | (go_simp; with_reducible rfl)))
        (try simp only [Act.put, List.getElem_toArray, List.getElem_cons_succ, List.getElem_cons_zero, List.setIfInBounds_toArray, List.set_cons_zero, List.set_cons_succ])
        refine wpAnyH_ready (rs := [11]) (by kernel_rfl) (by simp) ?_
        refine AllReadyH.cons rfl (fun K hK => ?_) AllReadyH.nil
        (try simp only [List.getElem_toArray, List.getElem_cons_succ, List.getElem_cons_zero])
        go_simp
        refine hK.out _ _ ((HSC.out _ (HFD.out.alloc _))) (fun hHeld => ?_)
        clear hK K
        (try simp only [Act.put, List.setIfInBounds_toArray, List.set_cons_zero, List.set_cons_succ])
        refine wpAnyH_ready (rs := [12]) (by kernel_rfl) (by simp) ?_
        refine AllReadyH.cons rfl (fun K hK => ?_) AllReadyH.nil
        (try simp only [List.getElem_toArray, List.getElem_cons_succ, List.getElem_cons_zero])
        go_simp
        refine hK.out _ _ ((HSC.out _ (HFD.out.alloc _))) (fun hHeld => ?_)
        clear hK K
        (try simp only [Act.put, List.setIfInBounds_toArray, List.set_cons_zero, List.set_cons_succ])
        refine wpAnyH_done (by kernel_rfl) ?_ _
        go_wp2_with fail
        go_meet
        case rel => exact ⟨_, rfl, Blk.new_at _ _ (by simp), HFD.out.alloc _⟩
      case rest =>
        obtain ⟨xb, rfl, hx, hf⟩ := hcut
        have x0 : wc.cell? ⟨xb, 0, none⟩ = some (.slice rA rn rc) := by rw [hx.cell]; rfl
        have x1 : wc.cell? ⟨xb, 1, none⟩ = some (.slice dA dn dc) := by rw [hx.cell]; rfl
        have HF2 := hide (HF.out.trans_same hf)
        clear hx hf HSC
        go_wp2_with fail
        go_roundw
        case rel => exact ⟨k + 1, by go_num, by rw [HS1.out]; go_num, by have := HLT.out; omega, HF2.out⟩
        case measure => simp [intOf]; have := HLT.out; omega
    · obtain rfl : k = n := by omega
      have HE : Hid (((O.take k).map (sizeOb σ)).sum = words σ T ∧ Fr [] W wr) := by
        refine ⟨?_, HF1.out.trans_same hf⟩
        rw [HWS.out, List.take_of_length_le (by have := HN.out; omega)]
      clear hf HR
      go_wp2_with fail
      go_ret
      exact ⟨by rw [HE.out.1]; rfl, HE.out.2⟩
end
end Go.Proofs.Ytmodjkglcgoohaa
