/- Package graph: tell and Shape. -/
import Derived.Test.YtmodjkglcgoohaaGf
import Derived.WalkKit
import Derived.BigQuiet
import Derived.Deep.RegionLaw
import Derived.Deep.AppendLies
import Derived.Deep.CutRange
namespace Go.Proofs.Ytmodjkglcgoohaa
set_option linter.unusedVariables false
set_option linter.unusedSimpArgs false
open Go.RowKit Go.Gl

theorem news_at (w : World) (cs : Array Value) (t : TypeId) {b : Nat} (hb : w.heap.size = b) (w' : World) (hf : Fr [] (w.alloc (.cells cs t)) w') : ∃ ad, some (⟨b, 0, none⟩ : Addr) = some ad ∧ ∀ j u, cs.toList[j]? = some u → w'.cell? (ad.add j) = some u := by
  subst hb
  exact ⟨_, rfl, World.news_of_block ((Blk.new w t cs).fr hf (by simp))⟩
/-- A shape under way since W: the tour, and the numbers that were told. -/
def ShAt (W w : World) (tp mb : Nat) (ob : Int → Nat) (L : List Int) (A : Option Addr) (n c : Nat) (out : List Int) : Prop :=
  Fr [] W w ∧ ∃ G Go, TourAt w tp mb G ob L ∧ Lr w 32 A n c Go (refV out) ∧ (∀ x, x ∈ tp :: mb :: G → W.heap.size ≤ x) ∧ ∀ x, x ∈ Go → W.heap.size ≤ x ∧ x ∉ tp :: mb :: G
section
variable {W w w1 w' : World} {tp mb : Nat} {ob : Int → Nat} {L : List Int} {A : Option Addr} {n c : Nat} {out : List Int}
theorem ShAt.fr0 (h : ShAt W w tp mb ob L A n c out) (hf : Fr [] w w') : ShAt W w' tp mb ob L A n c out := by
  obtain ⟨h0, G, Go, h1, h2, h3, h4⟩ := h
  exact ⟨h0.trans_same hf, G, Go, h1.fr0 hf, h2.fr0 hf, h3, h4⟩
theorem ShAt.app {G Go G' : List Nat} {A' : Option Addr} {n' c' : Nat} {out' : List Int} (hf : Fr [] W w) (k1 : TourAt w tp mb G ob L) (k3 : ∀ x, x ∈ tp :: mb :: G → W.heap.size ≤ x) (k4 : ∀ x, x ∈ Go → W.heap.size ≤ x ∧ x ∉ tp :: mb :: G)
    (hf1 : Fr [] w w1) (hF : Fr Go w1 w') (hL : Lr w' 32 A' n' c' G' (refV out')) (hG : ∀ g, g ∈ G' → g ∈ Go ∨ w.heap.size ≤ g) : ShAt W w' tp mb ob L A' n' c' out' := by
  have hd : ∀ x, x ∈ tp :: mb :: G → x ∉ Go := fun x hx hg => (k4 x hg).2 hx
  refine ⟨(hf.trans_same hf1).trans hF (fun x hx => .inr (k4 x hx).1), G, G', (k1.fr0 hf1).fr hF (hd tp (by simp)) (hd mb (by simp)) (fun g hg => hd g (by simp [hg])), hL, k3, fun x hx => ?_⟩
  rcases hG x hx with h | h
  · exact k4 x h
  · exact ⟨Nat.le_trans hf.size h, fun hm => by have := k1.lt x hm; omega⟩
/-- number, while a shape is under way. -/
theorem gnum_sh (h : ShAt W w tp mb ob L A n c out) {r : Int} (h1 : 0 ≤ r) (h2 : r ≤ 4096) (ho : r ≠ 0 → ∃ cs, Blk w (ob r) 90 cs ∧ cs[0]? = some (.int .u64 r)) (hl : L.length < 4096) (h0 : (0 : Int) ∉ L) :
    Calls Try.prog 24 #[.pointer (some ⟨tp, 0, none⟩), ptrV ob r] w fun e w' => e = .returned (.int .u64 (num (visit L r) r)) ∧ ShAt W w' tp mb ob (visit L r) A n c out := by
  obtain ⟨k0, G, Go, k1, k2, k3, k4⟩ := h
  refine (gnumber_any k1 h1 h2 ho hl h0).mono ?_
  rintro e w' ⟨rfl, G', j1, j2, j3⟩
  have hd : ∀ x, x ∈ G' → x ∈ tp :: mb :: G ∨ w.heap.size ≤ x := fun x hx => (j3 x hx).imp (fun h => by simp [h]) id
  refine ⟨rfl, k0.trans j2 (fun x hx => .inr (k3 x hx)), G', Go, j1, k2.fr j2 (fun g hg => (k4 g hg).2), fun x hx => ?_, fun x hx => ⟨(k4 x hx).1, fun hm => ?_⟩⟩
  · simp only [List.mem_cons] at hx
    rcases hx with rfl | rfl | hx
    · exact k3 _ (by simp)
    · exact k3 _ (by simp)
    · rcases hd x hx with h | h
      · exact k3 x h
      · exact Nat.le_trans k0.size h
  · simp only [List.mem_cons] at hm
    rcases hm with rfl | rfl | hm
    · exact (k4 _ hx).2 (by simp)
    · exact (k4 _ hx).2 (by simp)
    · rcases hd x hm with h | h
      · exact (k4 x hx).2 h
      · have := k2.lt x hx; omega
end
theorem refV_snoc (l : List Int) (x : Int) : refV (l ++ [x]) = refV l ++ [.int .u64 x] := by simp [refV]
def TellPost (W : World) (tp mb : Nat) (ob : Int → Nat) (L : List Int) (n : Nat) (out : List Int) (e : Ending) (w' : World) : Prop :=
  ∃ A c, e = .returned (.slice A n c) ∧ ShAt W w' tp mb ob L A n c out
theorem take_kids (σ : GS) (r : Int) {k : Nat} (h : k < σ.np r) : (kids σ r).take (k + 1) = (kids σ r).take k ++ [σ.ref r (k : Int)] := by
  rw [List.take_add_one]
  congr 1
  simp [kids, h]
theorem take_datas (σ : GS) (r : Int) {k : Nat} (h : k < σ.nw r) : (datas σ r).take (k + 1) = (datas σ r).take k ++ [σ.dat r (k : Int)] := by
  rw [List.take_add_one]
  congr 1
  simp [datas, h]
theorem visits_len {L O : List Int} (h : L <+: O) (hO : O.length < 4096) : L.length < 4096 := Nat.lt_of_le_of_lt h.length_le hO
section
variable {W w : World} {tg : TG} {Λ : GL} {T B M : Nat} {nn : Int} {σ : GS}
theorem PGm.obBlk (h : PGm W tg Λ T B M nn σ) (hf : Fr [] W w) {r : Int} (h0 : 0 ≤ r) (h2 : r ≤ (σ.N : Int)) : r ≠ 0 → ∃ cs, Blk w (Λ.ob r) 90 cs ∧ cs[0]? = some (.int .u64 r) := fun e =>
  ⟨_, (h.obs r (by omega) h2).st.fr hf (by simp), rfl⟩
set_option maxRecDepth 100000 in
set_option maxHeartbeats 3200000 in
theorem gtell_any (h : PGm W tg Λ T B M nn σ) (ok : GOk T B σ) (hN : σ.N < 4096) {tp mb : Nat} {L O : List Int} {A : Option Addr} {n c : Nat} {out : List Int} (hs : ShAt W w tp mb Λ.ob L A n c out) {r : Int} (h1 : 1 ≤ r) (h2 : r ≤ (σ.N : Int))
    (hO : visits L (kids σ r) <+: O) (h0 : (0 : Int) ∉ O) (hOl : O.length < 4096) (hn : n ≤ 1099511627776) :
    Calls Try.prog 25 #[.pointer (some ⟨tp, 0, none⟩), .slice A n c, .pointer (some ⟨Λ.ob r, 0, none⟩)] w (TellPost W tp mb Λ.ob (visits L (kids σ r)) (n + 2 + σ.np r + σ.nw r) (out ++ shapeO σ O r)) := by
  obtain ⟨i0, hi, hz0, hz1, hz2⟩ := info_parts Try.info_u64
  have ho := h.obs r h1 h2
  have hnp := ok.np r
  have hnw := ok.nw r
  have hfW := hs.1
  have HC : Hid (∀ w', Fr [] W w' → w'.cell? ⟨Λ.ob r, 2, none⟩ = some (.int .i64 (σ.np r : Int)) ∧ w'.cell? ⟨Λ.ob r, 3, none⟩ = some (.int .i64 (σ.nw r : Int)) ∧ w'.cell? ⟨Λ.ob r, 4, none⟩ = some (.map (some (Λ.rb r))) ∧ w'.cell? ⟨Λ.ob r, 5, none⟩ = some (.map (some (Λ.db r)))) := fun w' hf => by
    have hb := ho.st.fr hf (by simp)
    exact ⟨by rw [hb.cell]; rfl, by rw [hb.cell]; rfl, by rw [hb.cell]; rfl, by rw [hb.cell]; rfl⟩
  have HLR : Hid (∀ w' (k : Nat), Fr [] W w' → k < σ.np r → (Instr.lookup 87 (.map (some (Λ.rb r))) (.int .i64 (k : Int)) false).run Try.prog w' = .ok (ptrV Λ.ob (σ.ref r (k : Int))) w') := fun w' k hf hk => PGm.refLook (h.fr0 hf) h1 h2 ⟨by omega, by omega⟩
  have HLD : Hid (∀ w' (k : Nat), Fr [] W w' → k < σ.nw r → (Instr.lookup 88 (.map (some (Λ.db r))) (.int .i64 (k : Int)) false).run Try.prog w' = .ok (.int .u64 (σ.dat r (k : Int))) w') := fun w' k hf hk => PGm.datLook (h.fr0 hf) h1 h2 ⟨by omega, by omega⟩
  have HOB : Hid (∀ w' (k : Nat), Fr [] W w' → σ.ref r (k : Int) ≠ 0 → ∃ cs, Blk w' (Λ.ob (σ.ref r (k : Int))) 90 cs ∧ cs[0]? = some (.int .u64 (σ.ref r (k : Int)))) := fun w' k hf => h.obBlk hf (ok.ref r k).1 (ok.ref r k).2
  have HRB : Hid (∀ k : Nat, 0 ≤ σ.ref r (k : Int) ∧ σ.ref r (k : Int) ≤ 4096) := fun k => ⟨(ok.ref r k).1, by have := (ok.ref r k).2; omega⟩
  have HO := hide hO
  have HO0 := hide h0
  have HOL := hide hOl
  have HNP := hide hnp
  have HNW := hide hnw
  obtain ⟨hf, G, Go, k1, k2, k3, k4⟩ := hs
  obtain ⟨c2, c3, _, _⟩ := HC.out w hf
  have HF := hide hf
  have K1 := hide k1
  have K2 := hide k2
  have K3 := hide k3
  have K4 := hide k4
  have HB : Hid (n + 2 ≤ maxLen ∧ (n + 2) * 8 ≤ 140737488355328) := ⟨by unfold maxLen; omega, by omega⟩
  have NO : Λ.ob r < w.heap.size := lt_of_cell c2
  obtain ⟨a, ha⟩ : ∃ a, a = σ.np r := ⟨_, rfl⟩
  obtain ⟨b, hb⟩ : ∃ b, b = σ.nw r := ⟨_, rfl⟩
  rw [← ha] at c2 hnp
  rw [← hb] at c3 hnw
  have hwa : IntKind.u64.wrap (a : Int) = (a : Int) := IntWalk.u64_in _ ⟨by omega, by omega⟩
  have hwb : IntKind.u64.wrap (b : Int) = (b : Int) := IntWalk.u64_in _ ⟨by omega, by omega⟩
  have HA := hide ha
  have HBB := hide hb
  have HH := hide h
  clear h ok ho hfW h1 h2 hO h0 hOl hf k1 k2 k3 k4 ha hb hN
  go_enter Try.func25, Try.ntmps25
  go_wp2_with fail
  go_cut [1] from 9 to 21 (fun p wc => ∃ A' c', p = .slice A' (n + 2) c' ∧ ShAt W wc tp mb Λ.ob L A' (n + 2) c' (out ++ [(a : Int), (b : Int)]))
  case first =>
    go_region_law (first | (refine step_append_lr rfl _ _ 42 rfl 32 i0 (.int .u64 0) 8 Try.underlying42 hi hz0 hz1 hz2 rfl rfl (K2.out.fr0 ((Fr.refl _ _).alloc _).drew) rfl (by rfl) (fun _ => news_at w #[.int .u64 (a : Int), .int .u64 (b : Int)] 32 rfl _ ((Fr.refl _ _).drew)) (by intro u hu; simp at hu; rcases hu with rfl | rfl <;> rfl) HB.out.1 HB.out.2 ?_; intro A' c' G' w' HLn HFn HGn))
    all_goals
      have HS : Hid (ShAt W w' tp mb Λ.ob L A' (n + 2) c' (out ++ [(a : Int), (b : Int)])) := ShAt.app HF.out K1.out K3.out K4.out ((Fr.refl [] w).alloc _).drew HFn.out (by rw [refV_app]; exact HLn.out) (fun g hg => (HGn.out g hg).imp id (fun h => by rw [h.1]; simp))
      go_wp2_with fail
      go_meet
      case rel => exact ⟨A', c', rfl, HS.out⟩
  case rest =>
    obtain ⟨A1, c1, rfl, hs1⟩ := hcut
    obtain ⟨x2, x3, _, _⟩ := HC.out wc hs1.1
    rw [← HA.out] at x2
    rw [← HBB.out] at x3
    have HS1 := hide hs1
    have HTK : Hid (∀ k, visits L ((kids σ r).take k) <+: O) := fun k => by
      have e : visits L (kids σ r) = visits (visits L ((kids σ r).take k)) ((kids σ r).drop k) := by rw [← visits_app, List.take_append_drop]
      exact (e ▸ visits_pre _ _ : visits L ((kids σ r).take k) <+: visits L (kids σ r)).trans HO.out
    clear hs1 c2 c3 HF K1 K2 K3 K4 HB NO
    go_wp2_with fail
    go_loopw [1, 26] (fun s i wr => ∃ (k : Nat) (A' : Option Addr) (c' : Nat), i = .int .i64 k ∧ s = .slice A' (n + 2 + k) c' ∧ k ≤ a ∧ ShAt W wr tp mb Λ.ob (visits L ((kids σ r).take k)) A' (n + 2 + k) c' (out ++ [(a : Int), (b : Int)] ++ ((kids σ r).take k).map (num O))) (fun _ i _ => a - (intOf i).toNat)
    case atStart => exact ⟨0, A1, c1, rfl, rfl, Nat.zero_le _, by simpa [visits_nil] using HS1.out⟩
    case round =>
      obtain ⟨k, A2, c2, rfl, rfl, hk, hs2⟩ := hrel
      by_cases hlt : k < a
      · have hlt1 : (k : Int) < (a : Int) := by omega
        have hka : k < σ.np r := by have := HA.out; omega
        obtain ⟨_, _, x4, _⟩ := HC.out wr hs2.1
        have xl := HLR.out wr k hs2.1 hka
        have hv : visit (visits L ((kids σ r).take k)) (σ.ref r (k : Int)) = visits L ((kids σ r).take (k + 1)) := by rw [take_kids σ r hka, visits_app, visits_one]
        have HNU := hide (gnum_sh hs2 (HRB.out k).1 (HRB.out k).2 (HOB.out wr k hs2.1) (visits_len (HTK.out k) HOL.out) (fun hm => HO0.out ((HTK.out k).subset hm)))
        rw [hv] at HNU
        have hnum : num (visits L ((kids σ r).take (k + 1))) (σ.ref r (k : Int)) = num O (σ.ref r (k : Int)) := num_pre (HTK.out (k + 1)) HO0.out (by
          by_cases e : σ.ref r (k : Int) = 0
          · exact .inl e
          · exact .inr (by rw [← hv, visit_mem]; exact .inr ⟨rfl, e⟩))
        rw [hnum] at HNU
        have HKA := hide hka
        have HB : Hid (n + 2 + k + 1 ≤ maxLen ∧ (n + 2 + k + 1) * 8 ≤ 140737488355328) := ⟨by unfold maxLen; omega, by omega⟩
        have HLT := hide hlt
        obtain ⟨y, hy⟩ : ∃ y, y = num O (σ.ref r (k : Int)) := ⟨_, rfl⟩
        rw [← hy] at HNU
        have HY := hide hy
        clear hs2 hv hnum hka x2 x3 HS1 hy
        generalize ptrV Λ.ob (σ.ref r (k : Int)) = v at *
        go_wp2_with fail
        refine HNU.out.mono ?_
        rintro e w3 ⟨rfl, hs3⟩
        obtain ⟨hf, G3, Go3, k1, k2, k3, k4⟩ := hs3
        have HF := hide hf
        have K1 := hide k1
        have K2 := hide k2
        have K3 := hide k3
        have K4 := hide k4
        have HLR2 : Hid (Lr (w3.alloc (.cells #[.int .u64 y] 32)) 32 A2 (n + 2 + k) c2 Go3 (refV (out ++ [(a : Int), (b : Int)] ++ ((kids σ r).take k).map (num O)))) := k2.alloc _
        clear hf k1 k2 k3 k4 HNU x4 xl
        go_wp2_with (first | (at_builtin; refine wpList_append_lr rfl _ _ 42 rfl 32 i0 (.int .u64 0) 8 Try.underlying42 hi hz0 hz1 hz2 rfl rfl HLR2.out rfl (by rfl) (fun _ => one_of w3 (.int .u64 y) 32 rfl _ (Fr.refl _ _)) (by intro u hu; simp at hu; subst hu; rfl) HB.out.1 HB.out.2 ?_; intro A' c' G' w4 HLn HFn HGn))
        have HS : Hid (ShAt W w4 tp mb Λ.ob (visits L ((kids σ r).take (k + 1))) A' (n + 2 + k + 1) c' (out ++ [(a : Int), (b : Int)] ++ ((kids σ r).take (k + 1)).map (num O))) := ShAt.app HF.out K1.out K3.out K4.out ((Fr.refl [] w3).alloc _) HFn.out (by rw [take_kids σ r HKA.out, List.map_append, ← List.append_assoc, show [σ.ref r (k : Int)].map (num O) = [y] by rw [HY.out]; rfl, refV_snoc]; exact HLn.out) (fun g hg => (HGn.out g hg).imp id (fun h => by rw [h.1]; simp))
        go_roundw
        case rel => exact ⟨k + 1, A', c', by go_num, rfl, by have := HLT.out; omega, HS.out⟩
        case measure => simp [intOf]; have := HLT.out; omega
      · obtain rfl : k = a := by omega
        have hke : (kids σ r).take k = kids σ r := by rw [List.take_of_length_le]; rw [kids_len]; have := HA.out; omega
        rw [hke] at hs2
        obtain ⟨_, y3, _, _⟩ := HC.out wr hs2.1
        rw [← HBB.out] at y3
        have HS2 := hide hs2
        clear hs2 hke x2 x3 HS1
        go_wp2_with fail
        go_loopw [1, 45] (fun s i wr => ∃ (j : Nat) (A' : Option Addr) (c' : Nat), i = .int .i64 j ∧ s = .slice A' (n + 2 + k + j) c' ∧ j ≤ b ∧ ShAt W wr tp mb Λ.ob (visits L (kids σ r)) A' (n + 2 + k + j) c' (out ++ [(k : Int), (b : Int)] ++ (kids σ r).map (num O) ++ (datas σ r).take j)) (fun _ i _ => b - (intOf i).toNat)
        case atStart => exact ⟨0, A2, c2, rfl, rfl, Nat.zero_le _, by simpa using HS2.out⟩
        case round =>
          obtain ⟨j, A3, c3, rfl, rfl, hj, hs3⟩ := hrel
          by_cases hlt2 : j < b
          · have hlt3 : (j : Int) < (b : Int) := by omega
            have hjb : j < σ.nw r := by have := HBB.out; omega
            obtain ⟨_, _, _, x5⟩ := HC.out _ hs3.1
            have xl := HLD.out _ j hs3.1 hjb
            have HKA := hide hjb
            have HB : Hid (n + 2 + k + j + 1 ≤ maxLen ∧ (n + 2 + k + j + 1) * 8 ≤ 140737488355328) := ⟨by unfold maxLen; omega, by omega⟩
            have HLT := hide hlt2
            obtain ⟨y, hy⟩ : ∃ y, y = σ.dat r (j : Int) := ⟨_, rfl⟩
            rw [← hy] at xl
            have HY := hide hy
            obtain ⟨hf, G3, Go3, k1, k2, k3, k4⟩ := hs3
            obtain ⟨w3, hw3⟩ : ∃ w3, w3 = wr := ⟨_, rfl⟩
            subst hw3
            have HF := hide hf
            have K1 := hide k1
            have K2 := hide k2
            have K3 := hide k3
            have K4 := hide k4
            have HLR2 : Hid (Lr (w3.alloc (.cells #[.int .u64 y] 32)) 32 A3 (n + 2 + k + j) c3 Go3 (refV (out ++ [(k : Int), (b : Int)] ++ (kids σ r).map (num O) ++ (datas σ r).take j))) := k2.alloc _
            clear hf k1 k2 k3 k4 hy hjb HS2 y3
            go_wp2_with (first | (at_builtin; refine wpList_append_lr rfl _ _ 42 rfl 32 i0 (.int .u64 0) 8 Try.underlying42 hi hz0 hz1 hz2 rfl rfl HLR2.out rfl (by rfl) (fun _ => one_of w3 (.int .u64 y) 32 rfl _ (Fr.refl _ _)) (by intro u hu; simp at hu; subst hu; rfl) HB.out.1 HB.out.2 ?_; intro A' c' G' w4 HLn HFn HGn))
            have HS : Hid (ShAt W w4 tp mb Λ.ob (visits L (kids σ r)) A' (n + 2 + k + j + 1) c' (out ++ [(k : Int), (b : Int)] ++ (kids σ r).map (num O) ++ (datas σ r).take (j + 1))) := ShAt.app HF.out K1.out K3.out K4.out ((Fr.refl [] w3).alloc _) HFn.out (by rw [take_datas σ r HKA.out, ← List.append_assoc, ← HY.out, refV_snoc]; exact HLn.out) (fun g hg => (HGn.out g hg).imp id (fun h => by rw [h.1]; simp))
            go_roundw
            case rel => exact ⟨j + 1, A', c', by go_num, rfl, by have := HLT.out; omega, HS.out⟩
            case measure => simp [intOf]; have := HLT.out; omega
          · obtain rfl : j = b := by omega
            have hke : (datas σ r).take j = datas σ r := by rw [List.take_of_length_le]; unfold datas; simp; have := HBB.out; omega
            rw [hke] at hs3
            have HS3 := hide hs3
            clear hs3 hke HS2 y3
            go_wp2_with fail
            go_ret
            have h5 := HS3.out
            have e1 := HA.out
            have e2 := HBB.out
            refine ⟨A3, c3, by rw [e1, e2]; rfl, ?_⟩
            unfold shapeO
            rw [← e1, ← e2, ← List.append_assoc, ← List.append_assoc]
            exact h5
end
end Go.Proofs.Ytmodjkglcgoohaa
