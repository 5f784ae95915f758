/- Package graph: Shape. -/
import Derived.Test.YtmodjkglcgoohaaGg
import Derived.WalkKit
import Derived.BigQuiet
namespace Go.Proofs.Ytmodjkglcgoohaa
set_option linter.unusedVariables false
set_option linter.unusedSimpArgs false
open Go.RowKit Go.Gl

/-- All rows of the type t that were there are as they were. -/
def KeepT (t : TypeId) (w w' : World) : Prop := ∀ b cs, Blk w b t cs → Blk w' b t cs
theorem KeepT.lr {t : TypeId} {w w' : World} (h : KeepT t w w') {A : Option Addr} {n c : Nat} {G : List Nat} {xs : List Value} (hl : Lr w t A n c G xs) : Lr w' t A n c G xs :=
  ⟨hl.len, hl.le, hl.max, hl.zero, fun hc => by
    obtain ⟨g, off, cur, h1, h2, h3, h4, h5⟩ := hl.blk hc
    exact ⟨g, off, cur, h1, h2, h _ _ h3, h4, h5⟩⟩
theorem KeepT.of {t : TypeId} {w w' : World} {F : List Nat} (hf : Fr F w w') (h : ∀ x, x ∈ F → ∀ cs, ¬ Blk w x t cs) : KeepT t w w' := fun b cs hb => hb.fr hf (fun hx => h b hx cs hb)
theorem lr_noT {w : World} {e t : TypeId} {A : Option Addr} {n c : Nat} {G : List Nat} {xs : List Value} (h : Lr w e A n c G xs) (hne : e ≠ t) : ∀ x, x ∈ G → ∀ cs, ¬ Blk w x t cs := fun x hx cs hb => by
  have := h.apart hb hne
  exact this hx
section
variable {W w w1 w' : World} {tp mb : Nat} {ob : Int → Nat} {L : List Int} {A : Option Addr} {n c : Nat} {out : List Int}
theorem gnum_sh2 (h : ShAt W w tp mb ob L A n c out) {r : Int} (h1 : 0 ≤ r) (h2 : r ≤ 4096) (ho : r ≠ 0 → ∃ cs, Blk w (ob r) 90 cs ∧ cs[0]? = some (.int .u64 r)) (hl : L.length < 4096) (h0 : (0 : Int) ∉ L) :
    Calls Try.prog 24 #[.pointer (some ⟨tp, 0, none⟩), ptrV ob r] w fun e w' => e = .returned (.int .u64 (num (visit L r) r)) ∧ ShAt W w' tp mb ob (visit L r) A n c out ∧ KeepT 51 w w' := by
  obtain ⟨k0, G, Go, k1, k2, k3, k4⟩ := h
  refine (gnumber_any k1 h1 h2 ho hl h0).mono ?_
  rintro e w' ⟨rfl, G', j1, j2, j3⟩
  have hd : ∀ x, x ∈ G' → x ∈ tp :: mb :: G ∨ w.heap.size ≤ x := fun x hx => (j3 x hx).imp (fun h => by simp [h]) id
  refine ⟨rfl, ⟨k0.trans j2 (fun x hx => .inr (k3 x hx)), G', Go, j1, k2.fr j2 (fun g hg => (k4 g hg).2), fun x hx => ?_, fun x hx => ⟨(k4 x hx).1, fun hm => ?_⟩⟩, KeepT.of j2 (fun x hx cs hb => ?_)⟩
  · simp only [List.mem_cons] at hx
    rcases hx with rfl | rfl | hx
    · exact k3 _ (by simp)
    · exact k3 _ (by simp)
    · rcases hd x hx with h | h
      · exact k3 x h
      · exact Nat.le_trans k0.size h
  · simp only [List.mem_cons] at hm
    rcases hm with rfl | rfl | hm
    · exact (k4 _ hx).2 (by simp)
    · exact (k4 _ hx).2 (by simp)
    · rcases hd x hm with h | h
      · exact (k4 x hx).2 h
      · have := k2.lt x hx; omega
  · obtain ⟨A, c, q1, q2, f, q3, _⟩ := k1
    simp only [List.mem_cons] at hx
    rcases hx with rfl | rfl | hx
    · exact Blk.apart q1 hb (by decide) rfl
    · exact q3.blk_ne hb rfl
    · exact lr_noT q2 (by decide) x hx cs hb
end
def ShapePost (W : World) (l : List Int) (e : Ending) (w' : World) : Prop := ∃ A n c G, e = .returned (.slice A n c) ∧ Lr w' 32 A n c G (refV l) ∧ Fr [] W w' ∧ ∀ g, g ∈ G → W.heap.size ≤ g
theorem take_succ_getD {l : List Int} {k : Nat} (h : k < l.length) : l.take (k + 1) = l.take k ++ [l.getD k 0] := by
  rw [List.take_add_one]
  congr 1
  simp [h]
section
variable {W : World} {tg : TG} {Λ : GL} {T B M : Nat} {nn : Int} {σ : GS}
theorem roots_pre (ok : GOk T B σ) {t : Nat} (ht : t < T) (k : Nat) : visits (visits [] (rootsOf σ t)) ((σ.st t).take k) <+: order σ T := by
  refine List.IsPrefix.trans ?_ (bfs_order ok 0)
  show visits (visits [] (rootsOf σ t)) ((σ.st t).take k) <+: visits [] (rootsOf σ T)
  have h1 : ∀ d, ∃ l, rootsOf σ (t + 1 + d) = rootsOf σ (t + 1) ++ l := fun d => by
    induction d with
    | zero => exact ⟨[], by simp⟩
    | succ d ih =>
      obtain ⟨l, hl⟩ := ih
      exact ⟨l ++ σ.st (t + 1 + d), by rw [← Nat.add_assoc, rootsOf_succ, hl, List.append_assoc]⟩
  obtain ⟨l, hl⟩ := h1 (T - (t + 1))
  rw [show t + 1 + (T - (t + 1)) = T by omega, rootsOf_succ] at hl
  have e : rootsOf σ T = rootsOf σ t ++ ((σ.st t).take k ++ ((σ.st t).drop k ++ l)) := by
    rw [hl, List.append_assoc]
    congr 1
    rw [← List.append_assoc, List.take_append_drop]
  rw [e, visits_app, visits_app]
  exact visits_pre _ _
set_option maxRecDepth 100000 in
set_option maxHeartbeats 6400000 in
theorem gshape_any (h : PGm W tg Λ T B M nn σ) (ok : GOk T B σ) (hd : GDim T B M) (hN : σ.N < 4096) :
    Calls Try.prog 14 #[.pointer (some ⟨Λ.g, 0, none⟩)] W (ShapePost W (shape σ T)) := by
  obtain ⟨i0, hi, hz0, hz1, hz2⟩ := info_parts Try.info_u64
  obtain ⟨O, hO⟩ : ∃ O, O = order σ T := ⟨_, rfl⟩
  have HPRE : Hid (∀ t k, t < T → visits (visits [] (rootsOf σ t)) ((σ.st t).take k) <+: O) := fun t k ht => hO ▸ roots_pre ok ht k
  have HO0 : Hid ((0 : Int) ∉ O) := hO ▸ order_0 ok
  have HOL : Hid (O.length < 4096) := hO ▸ Nat.lt_of_le_of_lt (order_len ok) hN
  have HBP : Hid (∀ n, bfs σ T n <+: O) := fun n => hO ▸ bfs_order ok n
  have HBE : Hid (∀ n, (bfs σ T n).length ≤ n → O = bfs σ T n) := fun n hl => hO ▸ bfs_end ok hl
  have HBI : Hid (∀ n r, r ∈ bfs σ T n → 1 ≤ r ∧ r ≤ (σ.N : Int)) := bfs_in ok
  have HTELL : Hid (∀ w tp mb L A n c out r, ShAt W w tp mb Λ.ob L A n c out → 1 ≤ r → r ≤ (σ.N : Int) → visits L (kids σ r) <+: O → n ≤ 1099511627776 → Calls Try.prog 25 #[.pointer (some ⟨tp, 0, none⟩), .slice A n c, .pointer (some ⟨Λ.ob r, 0, none⟩)] w (TellPost W tp mb Λ.ob (visits L (kids σ r)) (n + 2 + σ.np r + σ.nw r) (out ++ shapeO σ O r))) :=
    fun w tp mb L A n c out r hs h1 h2 hp hn => gtell_any h ok hN hs h1 h2 hp HO0.out HOL.out hn
  have HNPW : Hid (∀ r, σ.np r ≤ 1048576 ∧ σ.nw r ≤ 1048576) := fun r => ⟨ok.np r, ok.nw r⟩
  have HLIST : Hid (∀ w t, Fr [] W w → t < T → Calls Try.prog 23 #[.pointer (some ⟨Λ.S t, 0, none⟩)] w (ClonePost w (σ.st t))) := fun w t hf ht => by
    obtain ⟨G, k1, _⟩ := (h.fr0 hf).stk t ht
    exact hlist_any k1 (by have := ok.len t; have := hd.b; omega)
  have HLEN : Hid (∀ t, (σ.st t).length ≤ 64) := fun t => Nat.le_trans (ok.len t) hd.b
  have HMEM : Hid (∀ (t k : Nat), k < (σ.st t).length → 0 ≤ (σ.st t).getD k 0 ∧ (σ.st t).getD k 0 ≤ (σ.N : Int)) := fun t k hk => ok.mem t _ (by simp [hk])
  have HLOOK : Hid (∀ w t k, Fr [] W w → t < T → k < (σ.st t).length → (Instr.lookup 49 (.map (some Λ.hb)) (.int .u64 ((σ.st t).getD k 0)) false).run Try.prog w = .ok (ptrV Λ.ob ((σ.st t).getD k 0)) w) := fun w t k hf ht hk => by
    have hm : (σ.st t).getD k 0 ∈ σ.st t := by simp [hk]
    have hb := ok.mem t _ hm
    refine (h.fr0 hf).look ?_ (wf_u64_of ⟨by omega, by omega⟩)
    by_cases e : (σ.st t).getD k 0 = 0
    · exact .inl ⟨e, fun e' => by have := e'.1; omega⟩
    · exact .inr ⟨by omega, cnt_mem ht hm⟩
  have HOB : Hid (∀ w r, Fr [] W w → 0 ≤ r → r ≤ (σ.N : Int) → r ≠ 0 → ∃ cs, Blk w (Λ.ob r) 90 cs ∧ cs[0]? = some (.int .u64 r)) := fun w r hf h0 h2 => h.obBlk hf h0 h2
  obtain ⟨AT, cpT, hv, c0, hTm⟩ := h.c0
  have HROW : Hid (∀ w t, Fr [] W w → t < T → ∃ p, AT = some ⟨p, 0, none⟩ ∧ p < w.heap.size ∧ w.cell? ⟨p, t * 2, none⟩ = some (.pointer (some ⟨Λ.S t, 0, none⟩)) ∧ w.cell? ⟨p, t * 2 + 1, none⟩ = some (.int .i64 (σ.done t : Int))) := fun w t hf ht => by
    obtain ⟨p, cp, hv', hpl, _, hcl⟩ := (h.fr0 hf).row.pos (by omega)
    rw [hv] at hv'
    injection hv' with q1 _ _
    exact ⟨p, q1, hpl, (hcl t ht).1, (hcl t ht).2⟩
  have HC2 : Hid (∀ w, Fr [] W w → w.cell? ⟨Λ.g, 2, none⟩ = some (.map (some Λ.hb)) ∧ Λ.g < w.heap.size) := fun w hf => ⟨(h.fr0 hf).c2, (h.fr0 hf).st.lt⟩
  have NG : Λ.g < W.heap.size := h.st.lt
  have hT := hd.t
  have HNN := hide hN
  have HSH : Hid (shape σ T = (List.range T).flatMap (shapeT σ O) ++ O.flatMap (shapeO σ O)) := by
    show shape σ T = _
    unfold shape
    rw [hO]
  have hmm := @run_makeMap Try.prog
  clear h ok hd hN hO hv hTm
  go_enter Try.func14, Try.ntmps14
  go_wp2_with fail
  have HT0 : Hid (ShAt W ((W.alloc (.map #[] 0)).alloc (.cells #[.slice none 0 0, .map (some W.heap.size)] 75)) (W.heap.size + 1) W.heap.size Λ.ob [] none 0 0 []) :=
    ⟨((Fr.refl _ _).alloc _).alloc _, [], [], TourAt.new W Λ.ob, Lr.nil _ _, fun x hx => by simp at hx; omega, fun x hx => by cases hx⟩
  generalize (W.alloc (.map #[] 0)).alloc (.cells #[.slice none 0 0, .map (some W.heap.size)] 75) = w0 at *
  obtain ⟨tp, htp⟩ : ∃ tp, tp = W.heap.size + 1 := ⟨_, rfl⟩
  rw [← htp] at HT0 ⊢
  clear htp hmm c0 NG
  go_loopw [4, 21] (fun s i wr => ∃ (t : Nat) (A' : Option Addr) (n' c' : Nat), i = .int .i64 t ∧ s = .slice A' n' c' ∧ n' ≤ t * 65 ∧ t ≤ T ∧ ShAt W wr tp W.heap.size Λ.ob (visits [] (rootsOf σ t)) A' n' c' ((List.range t).flatMap (shapeT σ O))) (fun _ i _ => T - (intOf i).toNat)
  case atStart => exact ⟨0, none, 0, 0, rfl, rfl, Nat.zero_le _, Nat.zero_le _, HT0.out⟩
  case round =>
    obtain ⟨t, A1, n1, c1, rfl, rfl, hn1, htT, hs1⟩ := hrel
    by_cases hlt : t < T
    · have hlt1 : (t : Int) < (T : Int) := by omega
      obtain ⟨p, rfl, hpl, p0, p1⟩ := HROW.out wr t hs1.1 hlt
      have HS1 := hide hs1
      have HLT := hide hlt
      have HL := hide (HLIST.out (wr.alloc (.cells #[.pointer (some ⟨Λ.S t, 0, none⟩), .int .i64 (σ.done t : Int)] 67)) t (hs1.1.alloc _) hlt)
      have HLN := HLEN.out t
      obtain ⟨ln, hln⟩ : ∃ ln, ln = (σ.st t).length := ⟨_, rfl⟩
      have HLL := hide hln
      have hwl : IntKind.u64.wrap (ln : Int) = (ln : Int) := IntWalk.u64_in _ ⟨by omega, by omega⟩
      rw [← hln] at HLN
      generalize σ.done t = dn at *
      clear hs1 hln HT0
      go_wp2_with fail
      refine HL.out.mono ?_
      rintro e w2 ⟨A3, c3, G3, rfl, hl3, hf3, hg3⟩
      rw [← HLL.out] at hl3 ⊢
      have hsh := (HS1.out.fr0 ((Fr.refl [] wr).alloc (.cells #[.pointer (some ⟨Λ.S t, 0, none⟩), .int .i64 (dn : Int)] 67))).fr0 hf3
      obtain ⟨hfw, G, Go, k1, k2, k3, k4⟩ := hsh
      have HL3 := hide hl3
      have HF := hide hfw
      have K1 := hide k1
      have K2 := hide k2
      have K3 := hide k3
      have K4 := hide k4
      have HB : Hid (n1 + 1 ≤ maxLen ∧ (n1 + 1) * 8 ≤ 140737488355328) := ⟨by unfold maxLen; omega, by omega⟩
      have HLR2 : Hid (Lr (w2.alloc (.cells #[.int .u64 (ln : Int)] 32)) 32 A1 n1 c1 Go (refV ((List.range t).flatMap (shapeT σ O)))) := k2.alloc _
      clear hl3 hf3 hg3 hfw k1 k2 k3 k4 HL HS1 p0 p1 hpl
      go_wp2_with (first | (at_builtin; refine wpList_append_lr rfl _ _ 42 rfl 32 i0 (.int .u64 0) 8 Try.underlying42 hi hz0 hz1 hz2 rfl rfl HLR2.out rfl (by rfl) (fun _ => one_of w2 (.int .u64 (ln : Int)) 32 rfl _ (Fr.refl _ _)) (by intro u hu; simp at hu; subst hu; rfl) HB.out.1 HB.out.2 ?_; intro A' c' G' w4 HLn HFn HGn))
      have HS : Hid (ShAt W w4 tp W.heap.size Λ.ob (visits [] (rootsOf σ t)) A' (n1 + 1) c' ((List.range t).flatMap (shapeT σ O) ++ [(ln : Int)])) := ShAt.app HF.out K1.out K3.out K4.out ((Fr.refl [] w2).alloc _) HFn.out (by rw [refV_snoc]; exact HLn.out) (fun g hg => (HGn.out g hg).imp id (fun h => by rw [h.1]; simp))
      have HL4 : Hid (Lr w4 51 A3 ln c3 G3 (refV (σ.st t))) := by
        have h1 : Lr (w2.alloc (.cells #[.int .u64 (ln : Int)] 32)) 51 A3 ln c3 G3 (refV (σ.st t)) := HL3.out.alloc _
        exact (KeepT.of HFn.out (lr_noT HLR2.out (t := 51) (by decide))).lr h1
      clear HL3 HF K1 K2 K3 K4 HB HLR2 HLn HFn HGn hwl
      have hn2 : n1 + 1 ≤ t * 65 + 1 := by omega
      clear hn1
      generalize n1 + 1 = n2 at *
      go_loopw [4, 36] (fun s i wr => ∃ (k : Nat) (A' : Option Addr) (n' c' : Nat), i = .int .i64 k ∧ s = .slice A' n' c' ∧ n' ≤ t * 65 + 1 + k ∧ k ≤ ln ∧ ShAt W wr tp W.heap.size Λ.ob (visits (visits [] (rootsOf σ t)) ((σ.st t).take k)) A' n' c' ((List.range t).flatMap (shapeT σ O) ++ [(ln : Int)] ++ ((σ.st t).take k).map (num O)) ∧ Lr wr 51 A3 ln c3 G3 (refV (σ.st t))) (fun _ i _ => ln - (intOf i).toNat)
      case atStart => exact ⟨0, A', n2, c', rfl, rfl, by omega, Nat.zero_le _, by simpa [visits_nil] using HS.out, HL4.out⟩
      case round =>
        obtain ⟨k, A5, n5, c5, rfl, rfl, hn5, hk, hs5, hl5⟩ := hrel
        by_cases hkl : k < ln
        · have hkl1 : (k : Int) < (ln : Int) := by omega
          have hks : k < (σ.st t).length := by have := HLL.out; omega
          obtain ⟨g5, off5, rfl, _, _, hcell, _, _⟩ := hl5.pos (by omega)
          have y0 : wr.cell? ⟨g5, off5 + k, none⟩ = some (.int .u64 ((σ.st t).getD k 0)) := by rw [hcell k hkl, refV_get _ hks]
          have xl := HLOOK.out wr t k hs5.1 HLT.out hks
          obtain ⟨x2, NG⟩ := HC2.out wr hs5.1
          have hmb := HMEM.out t k hks
          have hpk := HPRE.out t k HLT.out
          have hpk1 := HPRE.out t (k + 1) HLT.out
          have hv : visit (visits (visits [] (rootsOf σ t)) ((σ.st t).take k)) ((σ.st t).getD k 0) = visits (visits [] (rootsOf σ t)) ((σ.st t).take (k + 1)) := by rw [take_succ_getD hks, visits_app, visits_one]
          have HNU := hide (gnum_sh2 hs5 hmb.1 (by have := HNN.out; omega) (HOB.out wr _ hs5.1 hmb.1 hmb.2) (visits_len hpk HOL.out) (fun hm => HO0.out (hpk.subset hm)))
          rw [hv] at HNU
          have hnum : num (visits (visits [] (rootsOf σ t)) ((σ.st t).take (k + 1))) ((σ.st t).getD k 0) = num O ((σ.st t).getD k 0) := num_pre hpk1 HO0.out (by
            by_cases e : (σ.st t).getD k 0 = 0
            · exact .inl e
            · exact .inr (by rw [← hv, visit_mem]; exact .inr ⟨rfl, e⟩))
          rw [hnum] at HNU
          have HLT2 := hide hkl
          have HKS := hide hks
          have HL5 := hide hl5
          have HB : Hid (n5 + 1 ≤ maxLen ∧ (n5 + 1) * 8 ≤ 140737488355328) := ⟨by unfold maxLen; omega, by omega⟩
          obtain ⟨y, hy⟩ : ∃ y, y = num O ((σ.st t).getD k 0) := ⟨_, rfl⟩
          rw [← hy] at HNU
          have HY := hide hy
          obtain ⟨z, hz⟩ : ∃ z, z = (σ.st t).getD k 0 := ⟨_, rfl⟩
          rw [← hz] at xl y0 HNU
          clear hs5 hl5 hv hnum hks hcell hy hz hmb hpk hpk1 HS HL4
          generalize ptrV Λ.ob z = v at *
          go_wp2_with fail
          refine HNU.out.mono ?_
          rintro e w3 ⟨rfl, hs3, hkp⟩
          obtain ⟨hf, G6, Go6, k1, k2, k3, k4⟩ := hs3
          have HF := hide hf
          have K1 := hide k1
          have K2 := hide k2
          have K3 := hide k3
          have K4 := hide k4
          have HL6 := hide (hkp.lr HL5.out)
          have HLR2 : Hid (Lr (w3.alloc (.cells #[.int .u64 y] 32)) 32 A5 n5 c5 Go6 (refV ((List.range t).flatMap (shapeT σ O) ++ [(ln : Int)] ++ ((σ.st t).take k).map (num O)))) := k2.alloc _
          clear hf k1 k2 k3 k4 HNU x2 xl y0 hkp NG
          go_wp2_with (first | (at_builtin; refine wpList_append_lr rfl _ _ 42 rfl 32 i0 (.int .u64 0) 8 Try.underlying42 hi hz0 hz1 hz2 rfl rfl HLR2.out rfl (by rfl) (fun _ => one_of w3 (.int .u64 y) 32 rfl _ (Fr.refl _ _)) (by intro u hu; simp at hu; subst hu; rfl) HB.out.1 HB.out.2 ?_; intro A' c' G' w4 HLn HFn HGn))
          have HS' : Hid (ShAt W w4 tp W.heap.size Λ.ob (visits (visits [] (rootsOf σ t)) ((σ.st t).take (k + 1))) A' (n5 + 1) c' ((List.range t).flatMap (shapeT σ O) ++ [(ln : Int)] ++ ((σ.st t).take (k + 1)).map (num O))) := ShAt.app HF.out K1.out K3.out K4.out ((Fr.refl [] w3).alloc _) HFn.out (by rw [take_succ_getD HKS.out, List.map_append, ← List.append_assoc, show [(σ.st t).getD k 0].map (num O) = [y] by rw [HY.out]; rfl, refV_snoc]; exact HLn.out) (fun g hg => (HGn.out g hg).imp id (fun h => by rw [h.1]; simp))
          have HL7 : Hid (Lr w4 51 (some ⟨g5, off5, none⟩) ln c3 G3 (refV (σ.st t))) := by
            have h1 : Lr (w3.alloc (.cells #[.int .u64 y] 32)) 51 (some ⟨g5, off5, none⟩) ln c3 G3 (refV (σ.st t)) := HL6.out.alloc _
            exact (KeepT.of HFn.out (lr_noT HLR2.out (t := 51) (by decide))).lr h1
          go_roundw
          case rel => exact ⟨k + 1, A', n5 + 1, c', by go_num, rfl, by omega, by have := HLT2.out; omega, HS'.out, HL7.out⟩
          case measure => simp [intOf]; have := HLT2.out; omega
        · obtain rfl : k = ln := by omega
          have htk : (σ.st t).take k = σ.st t := by rw [List.take_of_length_le]; have := HLL.out; omega
          rw [htk] at hs5
          have HS5 : Hid (ShAt W wr tp W.heap.size Λ.ob (visits [] (rootsOf σ (t + 1))) A5 n5 c5 ((List.range (t + 1)).flatMap (shapeT σ O))) := by
            rw [rootsOf_succ, visits_app, List.range_succ, List.flatMap_append]
            have e : [t].flatMap (shapeT σ O) = [(k : Int)] ++ (σ.st t).map (num O) := by simp [shapeT, HLL.out]
            rw [e, ← List.append_assoc]
            exact hs5
          have hn6 : n5 ≤ (t + 1) * 65 := by omega
          clear hs5 hl5 htk HS HL4
          go_wp2_with fail
          go_roundw
          case rel => exact ⟨t + 1, A5, n5, c5, by go_num, rfl, hn6, by have := HLT.out; omega, HS5.out⟩
          case measure => simp [intOf]; have := HLT.out; omega
    · obtain rfl : t = T := by omega
      have HS1 := hide hs1
      have hn2 : n1 ≤ 4160 := by omega
      have HN2 := hide hn2
      clear hs1 HT0 hn1
      go_wp2_with fail
      go_loopw [4, 10] (fun s i wr => ∃ (k : Nat) (A' : Option Addr) (n' c' : Nat), i = .int .i64 k ∧ s = .slice A' n' c' ∧ n' ≤ 4160 + k * 2097154 ∧ k ≤ 4096 ∧ ShAt W wr tp W.heap.size Λ.ob (bfs σ t k) A' n' c' ((List.range t).flatMap (shapeT σ O) ++ (O.take k).flatMap (shapeO σ O))) (fun _ i _ => 4096 - (intOf i).toNat)
      case atStart => exact ⟨0, A1, n1, c1, rfl, rfl, by omega, by omega, by simpa [bfs] using HS1.out⟩
      case round =>
        obtain ⟨k, A2, n2, c2, rfl, rfl, hn3, hk, hs2⟩ := hrel
        have hs3 := hs2
        obtain ⟨hf, G, Go, ⟨AL, cL, l1, l2, _⟩, k2, k3, k4⟩ := hs2
        have x0 : wr.cell? ⟨tp, 0, none⟩ = some (.slice AL (bfs σ t k).length cL) := by rw [l1.cell]; rfl
        have hpre := HBP.out k
        have hlen : (bfs σ t k).length < 4096 := visits_len hpre HOL.out
        by_cases hlt2 : k < (bfs σ t k).length
        · obtain ⟨r, hr⟩ : ∃ r, (bfs σ t k)[k]? = some r := ⟨_, List.getElem?_eq_getElem hlt2⟩
          have hrm := List.mem_of_getElem? hr
          obtain ⟨r1, r2⟩ := HBI.out k r hrm
          obtain ⟨gl, ol, rfl, _, _, hcell, _, _⟩ := l2.pos (by omega)
          have y0 : wr.cell? ⟨gl, ol + k, none⟩ = some (.pointer (some ⟨Λ.ob r, 0, none⟩)) := by
            rw [hcell k hlt2, List.getElem?_map, hr]
            simp [ptrV_pos _ (show r ≠ 0 by omega)]
          have hst := bfs_step σ t hr
          have HTL := hide (HTELL.out wr tp W.heap.size _ A2 n2 c2 _ r hs3 r1 r2 (by rw [← hst]; exact HBP.out (k + 1)) (by omega))
          rw [← hst] at HTL
          have hOk : O[k]? = some r := by
            obtain ⟨l, hl⟩ := hpre
            rw [← hl, List.getElem?_append_left hlt2]
            exact hr
          have hnw := HNPW.out r
          obtain ⟨ml, hml⟩ : ∃ ml, ml = (bfs σ t k).length := ⟨_, rfl⟩
          rw [← hml] at x0 hlt2 hlen
          have hlt3 : (k : Int) < (ml : Int) := by omega
          have HK4 : Hid (k < 4096) := by show k < 4096; omega
          have HOK := hide hOk
          have HNP : Hid (σ.np r ≤ 1048576 ∧ σ.nw r ≤ 1048576) := hnw
          clear hs3 hf l1 l2 k2 k3 k4 hpre hr hrm hcell hst hOk hml HS1 r1 r2 hnw
          generalize σ.np r = a at *
          generalize σ.nw r = b at *
          generalize Λ.ob r = o at *
          go_wp2_with fail
          refine HTL.out.mono ?_
          rintro e w3 ⟨A4, c4, rfl, hs4⟩
          have HS4 : Hid (ShAt W w3 tp W.heap.size Λ.ob (bfs σ t (k + 1)) A4 (n2 + 2 + a + b) c4 ((List.range t).flatMap (shapeT σ O) ++ (O.take (k + 1)).flatMap (shapeO σ O))) := by
            have e1 : O.take (k + 1) = O.take k ++ [r] := by rw [List.take_add_one, HOK.out]; rfl
            rw [e1, List.flatMap_append, ← List.append_assoc, show [r].flatMap (shapeO σ O) = shapeO σ O r by simp]
            exact hs4
          have HNX : Hid (n2 + 2 + a + b ≤ 4160 + (k + 1) * 2097154) := by have := HNP.out; show _ ≤ _; omega
          clear hs4 HTL x0 y0
          go_wp2_with fail
          go_roundw
          case rel => exact ⟨k + 1, A4, n2 + 2 + a + b, c4, by go_num, rfl, HNX.out, by have := HK4.out; omega, HS4.out⟩
          case measure => simp [intOf]; have := HK4.out; omega
        · have hOe := HBE.out k (by omega)
          have htk : O.take k = O := by rw [List.take_of_length_le]; rw [hOe]; omega
          have HEND : Hid (Lr wr 32 A2 n2 c2 Go (refV (shape σ t)) ∧ Fr [] W wr ∧ ∀ g, g ∈ Go → W.heap.size ≤ g) := by
            rw [HSH.out, ← htk]
            rw [htk] at k2
            have e : O.take k = O := htk
            refine ⟨?_, hf, fun g hg => (k4 g hg).1⟩
            rw [e]
            exact k2
          obtain ⟨ml, hml⟩ : ∃ ml, ml = (bfs σ t k).length := ⟨_, rfl⟩
          rw [← hml] at x0 hlt2 hlen
          have hlt3 : ¬ (k : Int) < (ml : Int) := by omega
          clear hs3 hf l1 l2 k2 k3 k4 hpre hml HS1 htk hOe
          go_wp2_with fail
          go_ret
          exact ⟨A2, n2, c2, Go, rfl, HEND.out⟩
end
end Go.Proofs.Ytmodjkglcgoohaa
