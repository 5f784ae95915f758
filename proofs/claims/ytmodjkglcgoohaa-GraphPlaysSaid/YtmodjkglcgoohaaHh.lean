/- gleanerref13: meet and order. -/
import Derived.Test.YtmodjkglcgoohaaHc
import Derived.Test.YtmodjkglcgoohaaGg
import Derived.WalkKit
import Derived.BigQuiet
namespace Go.Proofs.Ytmodjkglcgoohaa
set_option linter.unusedVariables false
set_option linter.unusedSimpArgs false
open Go.RowKit Go.Gl

theorem num_snoc {L : List Int} {r : Int} (h : r ∉ L) (x : Int) : num (L ++ [r]) x = if x = r then ((L.length + 1 : Nat) : Int) else num L x := by
  by_cases e : x = r
  · subst e
    rw [if_pos rfl, num_last h]
  · rw [if_neg e]
    unfold num
    by_cases hx : x ∈ L
    · rw [if_pos hx, if_pos (by simp [hx]), List.idxOf_append, if_pos hx]
    · rw [if_neg hx, if_neg (by simp [hx, e])]
def numRow (N : Nat) (L : List Int) : Array Value := rowF (N + 1) fun j => .int .u64 (num L (j : Int))
/-- The order under way since W: the list, and each object's number. -/
def TrAt (W w : World) (N nb : Nat) (A : Option Addr) (n c : Nat) (L : List Int) : Prop :=
  Fr [] W w ∧ ∃ G, Lr w 3 A n c G (zv L) ∧ Blk w nb 32 (numRow N L) ∧ (∀ g, g ∈ G → W.heap.size ≤ g) ∧ W.heap.size ≤ nb
section
variable {W w w1 w' : World} {N nb n c : Nat} {A : Option Addr} {L : List Int}
theorem TrAt.fr0 (h : TrAt W w N nb A n c L) (hf : Fr [] w w') : TrAt W w' N nb A n c L := by
  obtain ⟨h0, G, h1, h2, h3, h4⟩ := h
  exact ⟨h0.trans_same hf, G, h1.fr0 hf, h2.fr hf (by simp), h3, h4⟩
theorem take_getD {l : List Int} {k : Nat} (h : k < l.length) : l.take (k + 1) = l.take k ++ [l.getD k 0] := by
  rw [List.take_add_one]
  congr 1
  simp [h]
set_option maxRecDepth 100000 in
set_option maxHeartbeats 1600000 in
theorem mmeet_any (ht : TrAt W w N nb A n c L) (hn : n = L.length) {la : Option Addr} {l : List Int} {lc : Nat} (hl : Sl W la l.length (fun k => .int .u64 (l.getD k 0))) (hr : ∀ r, r ∈ l → 0 ≤ r ∧ r ≤ (N : Int)) (hN : N ≤ 4096) (hll : l.length ≤ 1048576) (h0 : (0 : Int) ∉ L) {O : List Int} (hO : visits L l <+: O) (hOl : O.length ≤ 4096) :
    Calls Try.prog 48 #[.slice A n c, .slice (some ⟨nb, 0, none⟩) (N + 1) (N + 1), .slice la l.length lc] w fun e w' => ∃ A' n' c', e = .returned (.slice A' n' c') ∧ n' = (visits L l).length ∧ TrAt W w' N nb A' n' c' (visits L l) := by
  obtain ⟨i0, hi, hz0, hz1, hz2⟩ := info_parts Try.info_iH
  have HTR := hide ht
  have HN := hide hn
  have HR : Hid (∀ k, k < l.length → 0 ≤ l.getD k 0 ∧ l.getD k 0 ≤ (N : Int)) := fun k hk => hr _ (by simp [hk])
  have HLS := hide hl
  have H0 := hide h0
  have HPRE : Hid (∀ k, visits L (l.take k) <+: O) := fun k => by
    have e : visits L l = visits (visits L (l.take k)) (l.drop k) := by rw [← visits_app, List.take_append_drop]
    exact (e ▸ visits_pre _ _ : visits L (l.take k) <+: visits L l).trans hO
  have HB : Hid (N ≤ 4096 ∧ O.length ≤ 4096 ∧ l.length ≤ 1048576) := ⟨hN, hOl, hll⟩
  have HZ : Hid (∀ k, (0 : Int) ∉ visits L (l.take k)) := fun k hm => by
    rw [visits_mem] at hm
    rcases hm with hm | ⟨_, hm⟩
    · exact h0 hm
    · exact hm rfl
  clear ht hl hr hN hll h0 hO hOl hn
  go_enter Try.func48, Try.ntmps48
  go_wp2_with fail
  go_loopw [0, 7] (fun s i wr => ∃ (k : Nat) (A' : Option Addr) (n' c' : Nat), i = .int .i64 k ∧ s = .slice A' n' c' ∧ n' = (visits L (l.take k)).length ∧ k ≤ l.length ∧ TrAt W wr N nb A' n' c' (visits L (l.take k))) (fun _ i _ => l.length - (intOf i).toNat)
  case atStart => exact ⟨0, A, n, c, rfl, rfl, by simpa [visits_nil] using HN.out, Nat.zero_le _, by simpa [visits_nil] using HTR.out⟩
  case round =>
    obtain ⟨k, A1, n1, c1, rfl, rfl, hn1, hk, ht1⟩ := hrel
    by_cases hlt : k < l.length
    · have hlt1 : (k : Int) < (l.length : Int) := by omega
      obtain ⟨g, off, rfl, hgl, hcs⟩ := HLS.out (by omega)
      have hrb := HR.out k hlt
      have hv : visit (visits L (l.take k)) (l.getD k 0) = visits L (l.take (k + 1)) := by rw [take_getD hlt, visits_app, visits_one]
      have hpre1 := HPRE.out (k + 1)
      obtain ⟨q, hq⟩ := Int.eq_ofNat_of_zero_le hrb.1
      have x0 : wr.cell? ⟨g, off + k, none⟩ = some (.int .u64 (q : Int)) := by rw [← hq, ht1.1.cell (p := ⟨g, off + k, none⟩) hgl (by simp)]; exact hcs k hlt
      have hqN : q ≤ N := by omega
      have hkb : k < 1048576 := by have := HB.out.2.2; omega
      rw [hq] at hv
      obtain ⟨hf, G, k1, k2, k3, k4⟩ := ht1
      obtain ⟨L1, hL1⟩ : ∃ L1, L1 = visits L (l.take k) := ⟨_, rfl⟩
      rw [← hL1] at hv k1 k2 hn1
      have hz : (0 : Int) ∉ L1 := by rw [hL1]; exact HZ.out k
      have hN := HB.out.1
      have hq1 : (q : Int) < ((N : Int) + 1) := by omega
      have y0 : wr.cell? ⟨nb, q, none⟩ = some (.int .u64 (num L1 (q : Int))) := by
        rw [k2.cell]
        exact rowF_at (by omega)
      have HL1 := hide hL1
      have HLT := hide hlt
      by_cases e0 : q = 0
      · subst e0
        have HR1 : Hid (n1 = (visits L (l.take (k + 1))).length ∧ TrAt W wr N nb A1 n1 c1 (visits L (l.take (k + 1)))) := by
          rw [← hv, show visit L1 ((0 : Nat) : Int) = L1 by unfold visit; rw [if_pos (.inl rfl)]]
          exact ⟨hn1, hf, G, k1, k2, k3, k4⟩
        clear hf k1 k2 k3 k4 hcs hv hpre1 hq hrb hL1 hn1 hz y0
        go_wp2_with fail
        go_roundw
        case rel => exact ⟨k + 1, A1, n1, c1, by go_num, rfl, HR1.out.1, by have := HLT.out; omega, HR1.out.2⟩
        case measure => simp [intOf]; have := HLT.out; omega
      · have e1 : ((q : Int) == 0) = false := by simp; omega
        have e2 : ((q : Int) != 0) = true := by simp; omega
        by_cases hm : (q : Int) ∈ L1
        · have e3 : num L1 (q : Int) ≠ 0 := num_pos.2 hm
          have e4 : (num L1 (q : Int) == 0) = false := by simpa using e3
          have HR1 : Hid (n1 = (visits L (l.take (k + 1))).length ∧ TrAt W wr N nb A1 n1 c1 (visits L (l.take (k + 1)))) := by
            rw [← hv, show visit L1 (q : Int) = L1 by unfold visit; rw [if_pos (.inr hm)]]
            exact ⟨hn1, hf, G, k1, k2, k3, k4⟩
          generalize num L1 (q : Int) = x at *
          clear hf k1 k2 k3 k4 hcs hv hpre1 hq hrb hL1 hn1 hz e0 hm e3
          go_wp2_with fail
          go_roundw
          case rel => exact ⟨k + 1, A1, n1, c1, by go_num, rfl, HR1.out.1, by have := HLT.out; omega, HR1.out.2⟩
          case measure => simp [intOf]; have := HLT.out; omega
        · have e3 : num L1 (q : Int) = 0 := by unfold num; rw [if_neg hm]
          rw [e3] at y0
          have e5 : visit L1 (q : Int) = L1 ++ [(q : Int)] := by unfold visit; rw [if_neg (fun h => h.elim (fun h => by omega) hm)]
          have hlen : n1 < 4096 := by
            have h1 := hpre1.length_le
            rw [← hv, e5, List.length_append] at h1
            have := HB.out.2.1
            simp at h1
            omega
          have hw1 : IntKind.i64.wrap (q : Int) = (q : Int) := IntWalk.i64_in _ ⟨by omega, by omega⟩
          have hw2 : IntKind.u64.wrap ((n1 : Int) + 1) = (n1 : Int) + 1 := IntWalk.u64_in _ ⟨by omega, by omega⟩
          have HNB : Hid (n1 + 1 ≤ maxLen ∧ (n1 + 1) * 8 ≤ 140737488355328) := ⟨by unfold maxLen; omega, by omega⟩
          have hnG : nb ∉ G := k1.apart k2 (by decide)
          have NB0 : nb < wr.heap.size := k2.lt
          have NG0 : g < wr.heap.size := Nat.lt_of_lt_of_le hgl hf.size
          have HFZ : Hid (∀ w2, Fr G (wr.alloc (.cells #[.int .i64 (q : Int)] 3)) w2 → w2.cell? ⟨g, off + k, none⟩ = some (.int .u64 (q : Int)) ∧ w2.cell? ⟨nb, q, none⟩ = some (.int .u64 0) ∧ w2.frozen? ⟨nb, q, none⟩ = false) := fun w2 hF => by
            have hfa : Fr [] wr (wr.alloc (.cells #[.int .i64 (q : Int)] 3)) := (Fr.refl _ _).alloc _
            have hb := (k2.fr hfa (by simp)).fr hF hnG
            refine ⟨?_, ?_, hb.frozen q⟩
            · rw [hF.cell (p := ⟨g, off + k, none⟩) (Nat.lt_of_lt_of_le NG0 hfa.size) (fun hx => by have h8 : W.heap.size ≤ g := k3 _ hx; omega), hfa.cell (p := ⟨g, off + k, none⟩) NG0 (by simp)]
              exact x0
            · rw [hb.cell, ← e3]
              exact rowF_at (by omega)
          have HLR : Hid (Lr (wr.alloc (.cells #[.int .i64 (q : Int)] 3)) 3 A1 n1 c1 G (zv L1)) := k1.alloc _
          have HEND : Hid (∀ w2 A' c' G', Fr G (wr.alloc (.cells #[.int .i64 (q : Int)] 3)) w2 → Lr w2 3 A' (n1 + 1) c' G' (zv L1 ++ [.int .i64 (q : Int)]) → (∀ g, g ∈ G' → g ∈ G ∨ wr.heap.size ≤ g) →
              n1 + 1 = (visits L (l.take (k + 1))).length ∧ TrAt W (w2.setCell ⟨nb, q, none⟩ (.int .u64 ((n1 : Int) + 1))) N nb A' (n1 + 1) c' (visits L (l.take (k + 1)))) := fun w2 A' c' G' hF hLn hGn => by
            have hfa : Fr [] wr (wr.alloc (.cells #[.int .i64 (q : Int)] 3)) := (Fr.refl _ _).alloc _
            have hb := (k2.fr hfa (by simp)).fr hF hnG
            have hf3 : Fr [nb] w2 (w2.setCell ⟨nb, q, none⟩ (.int .u64 ((n1 : Int) + 1))) := (Fr.refl _ _).setCell (p := ⟨nb, q, none⟩) (.inl (by simp)) _
            rw [← hv, e5]
            refine ⟨by rw [List.length_append, ← hn1]; rfl, ((hf.trans_same hfa).trans hF (fun x hx => .inr (k3 x hx))).trans hf3 (fun x hx => .inr (by simp at hx; rw [hx]; exact k4)), G', ?_, ?_, fun g hg => ?_, k4⟩
            · rw [zv_app]
              refine hLn.fr hf3 (fun g hg hx => ?_)
              simp at hx
              exact (hLn.apart hb (by decide)) (hx ▸ hg)
            · have hp := hb.put q (.int .u64 ((n1 : Int) + 1))
              unfold numRow at hp ⊢
              rw [rowF_set] at hp
              have e : putF (fun j : Nat => Value.int .u64 (num L1 (j : Int))) q (.int .u64 ((n1 : Int) + 1)) = fun j : Nat => Value.int .u64 (num (L1 ++ [(q : Int)]) (j : Int)) := by
                funext j
                rw [num_snoc hm]
                by_cases e : j = q
                · subst e; rw [putF_at, if_pos rfl, ← hn1]; rfl
                · rw [putF_ne _ _ e, if_neg (by omega)]
              rw [e] at hp
              exact hp
            · rcases hGn g hg with h | h
              · exact k3 g h
              · exact Nat.le_trans hf.size h
          clear hf k1 k2 k3 k4 hcs hv hpre1 hq hrb hL1 hn1 hz e0 hm e3 e5 hnG HTR
          go_wp2_with (first | (at_builtin; refine wpList_append_lr rfl _ _ 55 rfl 3 i0 (.int .i64 0) 8 Try.underlying55 hi hz0 hz1 hz2 rfl rfl HLR.out rfl rfl (fun _ => one_of wr _ 3 rfl _ (Fr.refl _ _)) (by intro u hu; simp at hu; rw [hu]; rfl) HNB.out.1 HNB.out.2 ?_; intro A' c' G' w2 HLn HFn HGn; have d0 := (HFZ.out _ HFn.out).1; have d1 := (HFZ.out _ HFn.out).2.1; have dz := (HFZ.out _ HFn.out).2.2; have ND := lt_of_cell d1))
          have HR1 := hide (HEND.out w2 A' c' G' HFn.out HLn.out (fun g hg => (HGn.out g hg).imp id (fun h => by rw [h.1]; simp)))
          go_roundw
          case rel => exact ⟨k + 1, A', n1 + 1, c', by go_num, rfl, HR1.out.1, by have := HLT.out; omega, HR1.out.2⟩
          case measure => simp [intOf]; have := HLT.out; omega
    · obtain rfl : k = l.length := by omega
      rw [List.take_of_length_le (Nat.le_refl _)] at hn1 ht1
      have HE : Hid (n1 = (visits L l).length ∧ TrAt W wr N nb A1 n1 c1 (visits L l)) := ⟨hn1, ht1⟩
      clear ht1 hn1 HTR
      go_wp2_with fail
      go_ret
      exact ⟨A1, n1, c1, rfl, HE.out.1, HE.out.2⟩
end
end Go.Proofs.Ytmodjkglcgoohaa
