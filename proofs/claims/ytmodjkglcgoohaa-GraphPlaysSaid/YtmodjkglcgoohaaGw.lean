/- Package graph: Words. -/
import Derived.Test.YtmodjkglcgoohaaGh
import Derived.WalkKit
import Derived.BigQuiet
namespace Go.Gl
set_option linter.unusedVariables false
open Go.RowKit Go.ChangeMaps Go.MapKept
open Go.Maps (Keyed)
theorem Rng.fr {P : Program} {k : TypeId} {w w' : World} {b r cnt : Nat} {f : Value → Option Value} {left : Value → Prop} {F : List Nat} (h : Rng P k w b r f left cnt) (hf : Fr F w w') (hb : b ∉ F) (hr : r ∉ F) : Rng P k w' b r f left cnt := by
  obtain ⟨es, clock, since, seen, c0, h1, h2, h3, h4⟩ := h
  exact ⟨es, clock, since, seen, c0, (hf.block b (Array.getElem?_eq_some_iff.1 h1).1 hb).trans h1, h2, (hf.block r (Array.getElem?_eq_some_iff.1 h3).1 hr).trans h3, h4⟩
theorem Rng.noCells {P : Program} {k : TypeId} {w : World} {b r cnt : Nat} {f : Value → Option Value} {left : Value → Prop} (h : Rng P k w b r f left cnt) {g : Nat} {t : TypeId} {cs : Array Value} (hb : Blk w g t cs) : r ≠ g := by
  obtain ⟨es, clock, since, seen, c0, h1, h2, h3, h4⟩ := h
  rintro rfl
  unfold Blk at hb
  rw [h3] at hb
  cases hb
theorem Rng.noMap {P : Program} {k k' : TypeId} {w : World} {b r cnt : Nat} {f f' : Value → Option Value} {left : Value → Prop} (h : Rng P k w b r f left cnt) {g : Nat} (hb : Mp P k' w g f') : r ≠ g := by
  obtain ⟨es, clock, since, seen, c0, h1, h2, h3, h4⟩ := h
  rintro rfl
  obtain ⟨es', clock', hb, _⟩ := hb
  rw [h3] at hb
  cases hb
section
variable {P : Program} {k : TypeId} {w : World} {b r cnt : Nat} {f : Value → Option Value} {left : Value → Prop} {o : Oper} {a : Act} {K : Act → World → Prop} {Q : Exit → Act → World → Prop}
/-- The next entry of a map of pointers. -/
theorem wp_nextP (q : IntKind) (vf : Int → Value) (good : Int → Prop) (it : Operand) (hop : o.op = Op.next it false) (hit : a.eval it = .pointer (some ⟨r, 0, none⟩)) (h : Rng P k w b r f left cnt)
    (hks : ∀ x v, f x = some v → ∃ s : Int, good s ∧ x = .int q s ∧ v = vf s) (hDone : Hid (∀ x v, f x = some v → ¬ left x) → K (a.put o.dst (.tuple #[.bool false])) w)
    (hMore : ∀ (s : Int) w' cnt', Hid (good s) → Hid (Rng P k w' b r f (fun x => left x ∧ x ≠ .int q s) cnt') → Hid (cnt' < cnt) → Hid (Fr [r] w w') → (Instr.entry (.pointer (some ⟨r, 0, none⟩))).run P w' = .ok (.tuple #[.int q s, vf s]) w' → K (a.put o.dst (.tuple #[.bool true, .int q s, vf s])) w') : Oper.wp P o a w K Q :=
  wp_next it hop hit h (fun _ hd => hDone hd) fun key v w' cnt' hf hl hg hlt hF hen => by
    obtain ⟨s, hs, rfl, rfl⟩ := hks key v hf
    exact hMore s w' cnt' hs hg hlt hF hen
end
end Go.Gl
namespace Go.Proofs.Ytmodjkglcgoohaa
set_option linter.unusedVariables false
set_option linter.unusedSimpArgs false
open Go.RowKit Go.Gl

/-- A tour under way since W. -/
def WdAt (W w : World) (tp mb : Nat) (ob : Int → Nat) (L : List Int) : Prop := Fr [] W w ∧ ∃ G, TourAt w tp mb G ob L ∧ ∀ x, x ∈ tp :: mb :: G → W.heap.size ≤ x
section
variable {W w w1 w' : World} {tp mb : Nat} {ob : Int → Nat} {L : List Int}
theorem WdAt.fr0 (h : WdAt W w tp mb ob L) (hf : Fr [] w w') : WdAt W w' tp mb ob L := by
  obtain ⟨h0, G, h1, h3⟩ := h
  exact ⟨h0.trans_same hf, G, h1.fr0 hf, h3⟩
/-- An iterator's step. -/
theorem WdAt.next {k : TypeId} {b r cnt : Nat} {f : Value → Option Value} {left : Value → Prop} (h : WdAt W w tp mb ob L) (hg : Rng Try.prog k w b r f left cnt) (hr : W.heap.size ≤ r) (hf : Fr [r] w w') : WdAt W w' tp mb ob L := by
  obtain ⟨h0, G, h1, h3⟩ := h
  have h1' := h1
  obtain ⟨A, c, q1, q2, g, q3, _⟩ := h1'
  refine ⟨h0.trans hf (fun x hx => .inr (by simp at hx; omega)), G, h1.fr hf (by simpa using Ne.symm (hg.noCells q1)) (by simpa using Ne.symm (hg.noMap q3)) (fun x hx hx' => ?_), h3⟩
  simp at hx'
  subst hx'
  rcases Nat.eq_zero_or_pos c with hc | hc
  · rw [q2.zero hc] at hx; cases hx
  · obtain ⟨g', off, cur, _, e2, e3, _⟩ := q2.blk hc
    rw [e2] at hx
    simp at hx
    exact hg.noCells e3 hx
theorem gnum_wd (h : WdAt W w tp mb ob L) {r : Int} (h1 : 0 ≤ r) (h2 : r ≤ 4096) (ho : r ≠ 0 → ∃ cs, Blk w (ob r) 90 cs ∧ cs[0]? = some (.int .u64 r)) (hl : L.length < 4096) (h0 : (0 : Int) ∉ L) :
    Calls Try.prog 24 #[.pointer (some ⟨tp, 0, none⟩), ptrV ob r] w fun e w' => (e = .returned (.int .u64 (num (visit L r) r))) ∧ WdAt W w' tp mb ob (visit L r) ∧ ∀ k b q f left cnt, Rng Try.prog k w b q f left cnt → b < W.heap.size → Rng Try.prog k w' b q f left cnt := by
  obtain ⟨k0, G, k1, k3⟩ := h
  refine (gnumber_any k1 h1 h2 ho hl h0).mono ?_
  rintro e w' ⟨rfl, G', j1, j2, j3⟩
  refine ⟨rfl, ⟨k0.trans j2 (fun x hx => .inr (k3 x hx)), G', j1, fun x hx => ?_⟩, fun k b q f left cnt hg hb => hg.fr j2 (fun hx => by have := k3 b hx; omega) (fun hx => ?_)⟩
  · simp only [List.mem_cons] at hx
    rcases hx with rfl | rfl | hx
    · exact k3 _ (by simp)
    · exact k3 _ (by simp)
    · rcases j3 x hx with h | h
      · exact k3 x (by simp [h])
      · exact Nat.le_trans k0.size h
  · obtain ⟨A, c, q1, q2, g, q3, _⟩ := k1
    simp only [List.mem_cons] at hx
    rcases hx with rfl | rfl | hx
    · exact hg.noCells q1 rfl
    · exact hg.noMap q3 rfl
    · rcases Nat.eq_zero_or_pos c with hc | hc
      · rw [q2.zero hc] at hx; cases hx
      · obtain ⟨g', off, cur, _, e2, e3, _⟩ := q2.blk hc
        rw [e2] at hx
        simp at hx
        exact hg.noCells e3 hx
end
theorem sum_take {l : List Int} (g : Int → Nat) {k : Nat} {r : Int} (h : l[k]? = some r) : ((l.take (k + 1)).map g).sum = ((l.take k).map g).sum + g r := by
  rw [List.take_add_one, h]
  simp
section
variable {W : World} {tg : TG} {Λ : GL} {T B M : Nat} {nn : Int} {σ : GS}
set_option maxRecDepth 100000 in
set_option maxHeartbeats 6400000 in
theorem gwords_any (h : PGm W tg Λ T B M nn σ) (ok : GOk T B σ) (hd : GDim T B M) (hN : σ.N < 4096) :
    Calls Try.prog 16 #[.pointer (some ⟨Λ.g, 0, none⟩)] W fun e w' => e = .returned (.int .i64 (words σ T : Int)) ∧ Fr [] W w' := by
  obtain ⟨O, hO⟩ : ∃ O, O = order σ T := ⟨_, rfl⟩
  have HO0 : Hid ((0 : Int) ∉ O) := hO ▸ order_0 ok
  have HOI : Hid (∀ r, r ∈ O → 1 ≤ r ∧ r ≤ (σ.N : Int)) := fun r hr => order_in ok (hO ▸ hr)
  have HKID : Hid (∀ r, r ∈ O → ∀ j : Int, 0 ≤ j → j < (σ.np r : Int) → σ.ref r j ≠ 0 → σ.ref r j ∈ O) := fun r hr j j0 j1 hx => by
    obtain ⟨k, rfl⟩ := Int.eq_ofNat_of_zero_le j0
    rw [hO] at hr ⊢
    exact order_kid ok hr (kids_mem.2 ⟨k, by omega, rfl⟩) hx
  have HHD : Hid (∀ r, hdOf σ T r → r ∈ O) := fun r hr => by
    rw [hO]
    obtain ⟨t, ht, hm⟩ := mem_cnt hr.2
    exact order_root (rootsOf_mem.2 ⟨t, ht, hm⟩) (by have := hr.1; omega) ok
  have HSUM : Hid (∀ L : List Int, L.Nodup → (∀ r, r ∈ L → r ∈ O) → (∀ r, hdOf σ T r → r ∈ L) → (∀ r, r ∈ L → ∀ x, x ∈ kids σ r → x ≠ 0 → x ∈ L) → (L.map (sizeOb σ)).sum = words σ T) := fun L hn h1 h2 h3 => by
    refine words_perm hn fun r => ⟨fun hr => hO ▸ h1 r hr, fun hr => order_least (fun x hx h0 => h2 x ?_) h3 σ.N r hr⟩
    obtain ⟨t, ht, hm⟩ := rootsOf_mem.1 hx
    have := ok.mem t x hm
    exact ⟨by omega, cnt_mem ht hm⟩
  have HNPW : Hid (∀ r, σ.np r ≤ 1048576 ∧ σ.nw r ≤ 1048576) := fun r => ⟨ok.np r, ok.nw r⟩
  have HLEN : Hid (∀ L : List Int, L.Nodup → (∀ r, r ∈ L → r ∈ O) → L.length < 4096) := fun L hn h1 => Nat.lt_of_le_of_lt (nodup_le σ.N L hn (fun r hr => HOI.out r (h1 r hr))) hN
  have HOB : Hid (∀ w r, Fr [] W w → 0 ≤ r → r ≤ (σ.N : Int) → r ≠ 0 → ∃ cs, Blk w (Λ.ob r) 90 cs ∧ cs[0]? = some (.int .u64 r)) := fun w r hf h0 h2 => h.obBlk hf h0 h2
  have HCELL : Hid (∀ w r, Fr [] W w → r ∈ O → w.cell? ⟨Λ.ob r, 2, none⟩ = some (.int .i64 (σ.np r : Int)) ∧ w.cell? ⟨Λ.ob r, 3, none⟩ = some (.int .i64 (σ.nw r : Int)) ∧ w.cell? ⟨Λ.ob r, 4, none⟩ = some (.map (some (Λ.rb r)))) := fun w r hf hr => by
    obtain ⟨r1, r2⟩ := HOI.out r hr
    have hb := (h.obs r r1 r2).st.fr hf (by simp)
    exact ⟨by rw [hb.cell]; rfl, by rw [hb.cell]; rfl, by rw [hb.cell]; rfl⟩
  have HMAP : Hid (∀ w r, Fr [] W w → r ∈ O → Λ.rb r < W.heap.size ∧ ∃ f, Mp Try.prog 3 w (Λ.rb r) f ∧ (∀ x v, f x = some v → ∃ j : Int, (0 ≤ j ∧ j < (σ.np r : Int)) ∧ x = .int .i64 j ∧ v = ptrV Λ.ob (σ.ref r j)) ∧ ∀ j : Int, σ.ref r j ≠ 0 → ∃ v, f (.int .i64 j) = some v) := fun w r hf hr => by
    obtain ⟨r1, r2⟩ := HOI.out r hr
    obtain ⟨f, f1, f2, f3⟩ := (h.obs r r1 r2).refs
    refine ⟨f1.lt, f, f1.fr0 hf, fun x v hx => ?_, fun j hj => ?_⟩
    · obtain ⟨j, j0, j1, rfl⟩ := f3 x v hx
      have := f2 j
      rw [hx] at this
      exact ⟨j, ⟨j0, j1⟩, rfl, this⟩
    · have := f2 j
      rw [ptrV_pos _ hj] at this
      cases hc : f (.int .i64 j) with
      | none => rw [hc] at this; cases this
      | some v => exact ⟨v, rfl⟩
  have HREF : Hid (∀ r j, 0 ≤ σ.ref r j ∧ σ.ref r j ≤ (σ.N : Int)) := ok.ref
  obtain ⟨f, f1, f2, f3, f4⟩ := h.held
  have HM := hide (f1.fr0 (((Fr.refl [] W).alloc (.map #[] 0)).alloc (.cells #[.slice none 0 0, .map (some W.heap.size)] 75)))
  have HHB : Hid (Λ.hb < W.heap.size) := f1.lt
  have HFK : Hid (∀ x v, f x = some v → ∃ s : Int, hdOf σ T s ∧ x = .int .u64 s ∧ v = ptrV Λ.ob s) := fun x v hx => by
    obtain ⟨s, rfl⟩ := f4 x v hx
    by_cases hs : hdOf σ T s
    · rw [f2 s hs] at hx
      cases hx
      exact ⟨s, hs, rfl, rfl⟩
    · rw [f3 s hs] at hx; cases hx
  have HFS : Hid (∀ s, hdOf σ T s → f (.int .u64 s) = some (ptrV Λ.ob s)) := f2
  have c2 := h.c2
  have NG : Λ.g < W.heap.size := h.st.lt
  have HNN := hide hN
  have hmm := @run_makeMap Try.prog
  clear h ok hd hN hO f1 f2 f3 f4
  go_enter Try.func16, Try.ntmps16
  go_wp2_with (first | (at_range; refine list_of rfl fun K hK => wp_range _ 49 rfl Try.underlying49 rfl HM.out ?_; intro w1 cnt hg hF; refine hK _ _ ?_))
  go_frame
  have HR1 : Hid (((W.alloc (.map #[] 0)).alloc (.cells #[.slice none 0 0, .map (some W.heap.size)] 75)).heap.size = W.heap.size + 1 + 1) := by show _ = _; simp
  have HW0 : Hid (WdAt W w1 (W.heap.size + 1) W.heap.size Λ.ob []) := ⟨(((Fr.refl _ _).alloc _).alloc _).trans_same hF.out, [], (TourAt.new W Λ.ob).fr0 hF.out, fun x hx => by simp at hx; omega⟩
  rw [HR1.out] at hg ⊢
  obtain ⟨tp, htp⟩ : ∃ tp, tp = W.heap.size + 1 := ⟨_, rfl⟩
  have HRW : Hid (W.heap.size ≤ tp + 1) := by show _ ≤ _; omega
  rw [← htp] at hg HW0 ⊢
  obtain ⟨r1, hr1⟩ : ∃ r1, r1 = tp + 1 := ⟨_, rfl⟩
  rw [← hr1] at hg HRW ⊢
  have HG1 := hide hg
  clear htp hr1 HR1 hmm c2 NG hg hF HM
  go_loopw [5] (fun _ wr => ∃ (L : List Int) (left : Value → Prop) (cnt : Nat), Rng Try.prog 51 wr Λ.hb r1 f left cnt ∧ WdAt W wr tp W.heap.size Λ.ob L ∧ L.Nodup ∧ (∀ x, x ∈ L → x ∈ O) ∧ ∀ x, hdOf σ T x → ¬ left (.int .u64 x) → x ∈ L) (fun _ wr => rngLeft wr Λ.hb r1)
  case atStart => exact ⟨[], _, cnt, HG1.out, HW0.out, List.nodup_nil, fun x hx => (by cases hx), fun x _ hx => absurd trivial hx⟩
  case round =>
    obtain ⟨L, left, cnt2, hg, hw, hn, hO, hl⟩ := hrel
    have HG := hide hg
    have HW := hide hw
    have HN := hide hn
    have HOO := hide hO
    have HLF := hide hl
    have HNU : Hid (∀ s w2, hdOf σ T s → WdAt W w2 tp W.heap.size Λ.ob L → Calls Try.prog 24 #[.pointer (some ⟨tp, 0, none⟩), ptrV Λ.ob s] w2 fun e w' => (e = .returned (.int .u64 (num (visit L s) s))) ∧ WdAt W w' tp W.heap.size Λ.ob (visit L s) ∧ ∀ k b q f left cnt, Rng Try.prog k w2 b q f left cnt → b < W.heap.size → Rng Try.prog k w' b q f left cnt) := fun s w2 hs hw2 => by
      have hb := HOI.out s (HHD.out s hs)
      exact gnum_wd hw2 (by omega) (by have := HNN.out; omega) (HOB.out w2 s hw2.1 (by omega) hb.2) (HLEN.out L HN.out HOO.out) (fun hm => HO0.out (HOO.out 0 hm))
    clear hg hw hn hO hl HG1 HW0
    go_wp2_with (first | (at_next; refine list_of rfl fun K hK => wp_nextP .u64 (fun s => ptrV Λ.ob s) (hdOf σ T) _ rfl rfl HG.out HFK.out (fun hd => hK _ _ ?_) (fun s w2 cnt3 hs hg2 hlt hF2 hen => hK _ _ ?_)) | (go_at_call 24; refine (HNU.out s w2 hs.out (HW.out.next HG.out HRW.out hF2.out)).mono ?_; rintro e w3 ⟨rfl, hw3, hg3⟩; have HW3 := hide hw3; have HG3 := hide (hg3 _ _ _ _ _ _ hg2.out HHB.out); clear hw3 hg3))
    · have HROOT : Hid (∀ x, hdOf σ T x → x ∈ L) := fun x hx => HLF.out x hx (hd.out _ _ (HFS.out x hx))
      clear HNU HLF HG
      go_wp2_with fail
      go_loopw [6, 7] (fun s i wr => ∃ (k acc : Nat) (L : List Int), i = .int .i64 k ∧ s = .int .i64 acc ∧ acc = ((L.take k).map (sizeOb σ)).sum ∧ acc ≤ k * 2097153 ∧ k ≤ L.length ∧ WdAt W wr tp W.heap.size Λ.ob L ∧ L.Nodup ∧ (∀ x, x ∈ L → x ∈ O) ∧ (∀ x, hdOf σ T x → x ∈ L) ∧ ∀ (j : Nat) r, j < k → L[j]? = some r → ∀ x, x ∈ kids σ r → x ≠ 0 → x ∈ L) (fun _ i _ => 4096 - (intOf i).toNat)
      case atStart => exact ⟨0, 0, L, rfl, rfl, by simp, by omega, Nat.zero_le _, HW.out, HN.out, HOO.out, HROOT.out, fun j r hj => absurd hj (by omega)⟩
      case round =>
        obtain ⟨k, acc, L2, rfl, rfl, hacc, hab, hk, hw2, hn2, hO2, hr2, hc2⟩ := hrel
        have hlen2 := HLEN.out L2 hn2 hO2
        have hw2' := hw2
        obtain ⟨hf, G, ⟨AL, cL, l1, l2, _⟩, k3⟩ := hw2'
        have x0 : wr.cell? ⟨tp, 0, none⟩ = some (.slice AL L2.length cL) := by rw [l1.cell]; rfl
        by_cases hlt2 : k < L2.length
        · obtain ⟨r, hr⟩ : ∃ r, L2[k]? = some r := ⟨_, List.getElem?_eq_getElem hlt2⟩
          have hrm := List.mem_of_getElem? hr
          have hrO := hO2 r hrm
          obtain ⟨r1', r2'⟩ := HOI.out r hrO
          obtain ⟨gl, ol, rfl, _, _, hcell, _, _⟩ := l2.pos (by omega)
          have y0 : wr.cell? ⟨gl, ol + k, none⟩ = some (.pointer (some ⟨Λ.ob r, 0, none⟩)) := by
            rw [hcell k hlt2, List.getElem?_map, hr]
            simp [ptrV_pos _ (show r ≠ 0 by omega)]
          obtain ⟨z2, z3, z4⟩ := HCELL.out wr r hf hrO
          obtain ⟨hrb, fr, m1, m2, m3⟩ := HMAP.out wr r hf hrO
          obtain ⟨np1, nw1⟩ := HNPW.out r
          obtain ⟨ml, hml⟩ : ∃ ml, ml = L2.length := ⟨_, rfl⟩
          rw [← hml] at x0 hlt2 hlen2
          have hlt3 : (k : Int) < (ml : Int) := by omega
          have HSZ : Hid (sizeOb σ r = 1 + σ.np r + σ.nw r) := rfl
          obtain ⟨a, ha⟩ : ∃ a, a = σ.np r := ⟨_, rfl⟩
          obtain ⟨b, hb⟩ : ∃ b, b = σ.nw r := ⟨_, rfl⟩
          have HAA := hide ha
          have HBB := hide hb
          rw [← ha] at z2 np1
          rw [← hb] at z3 nw1
          have e1 : IntKind.i64.wrap (1 + (a : Int)) = 1 + (a : Int) := IntWalk.i64_in _ ⟨by omega, by omega⟩
          have e1' : IntKind.i64.wrap ((a : Int) + (b : Int)) = (a : Int) + (b : Int) := IntWalk.i64_in _ ⟨by omega, by omega⟩
          have e2 : IntKind.i64.wrap (1 + (a : Int) + (b : Int)) = 1 + (a : Int) + (b : Int) := IntWalk.i64_in _ ⟨by omega, by omega⟩
          have e3 : IntKind.i64.wrap ((acc : Int) + (1 + (a : Int) + (b : Int))) = (acc : Int) + (1 + (a : Int) + (b : Int)) := IntWalk.i64_in _ ⟨by omega, by omega⟩
          have HM2 := hide (fun n => m1.fr0 ((Fr.refl [] wr).drewN n))
          have HMK := hide m2
          have HMS := hide m3
          have HRB := hide hrb
          have HW2 := hide hw2
          have HN2 := hide hn2
          have HO2 := hide hO2
          have HRT2 := hide hr2
          have HC2 := hide hc2
          have HACC := hide hacc
          have HR := hide hr
          have HRO := hide hrO
          have HK4 : Hid (k < 4096 ∧ k < L2.length ∧ acc ≤ k * 2097153) := ⟨by omega, by omega, hab⟩
          have Hab : acc ≤ 8589934592 := by omega
          clear hacc hab hw2 hn2 hO2 hr2 hc2 hf l1 l2 k3 hr hrm hrO hcell m1 m2 m3 hrb hml ha hb HW HROOT HN HOO hd hk r1' r2'
          generalize hrbe : Λ.rb r = rbr at *
          generalize Λ.ob r = o at *
          go_wp2_with fail
          go_quiet (fail)
          go_wp2_with (first | (at_range; refine list_of rfl fun K hK => wp_range _ 87 rfl Try.underlying87 rfl (HM2.out _) ?_; intro w3 cnt hg hF; refine hK _ _ ?_))
          go_frame
          have HEQ : (wr.drewN nq).heap.size = wr.heap.size := rfl
          rw [HEQ] at hg
          try rw [HEQ]
          have HWR : Hid (W.heap.size ≤ wr.heap.size) := HW2.out.1.size
          have HW3 : Hid (WdAt W w3 tp W.heap.size Λ.ob L2) := (HW2.out.fr0 ((Fr.refl _ _).drewN nq)).fr0 hF.out
          obtain ⟨r2, hr2⟩ : ∃ r2, r2 = wr.heap.size := ⟨_, rfl⟩
          rw [← hr2] at hg HWR ⊢
          have HG1 := hide hg
          clear hr2 HEQ hg hF HM2 HW2 x0 y0 z2 z3 z4 e1 e1' e2 e3 hlt3
          go_loopw [10] (fun _ wr => ∃ (L3 : List Int) (left : Value → Prop) (cnt : Nat), Rng Try.prog 3 wr rbr r2 fr left cnt ∧ WdAt W wr tp W.heap.size Λ.ob L3 ∧ L2 <+: L3 ∧ L3.Nodup ∧ (∀ x, x ∈ L3 → x ∈ O) ∧ ∀ (j : Int) v, fr (.int .i64 j) = some v → ¬ left (.int .i64 j) → σ.ref r j ≠ 0 → σ.ref r j ∈ L3) (fun _ wr => rngLeft wr rbr r2)
          case atStart => exact ⟨L2, _, cnt, HG1.out, HW3.out, List.prefix_refl _, HN2.out, HO2.out, fun j v _ hx => absurd trivial hx⟩
          case round =>
            obtain ⟨L3, left3, cnt3, hg, hw, hp, hn, hO, hl⟩ := hrel
            have HG := hide hg
            have HW := hide hw
            have HP := hide hp
            have HN := hide hn
            have HOO := hide hO
            have HLF := hide hl
            have HNU : Hid (∀ (s : Int) w2, (0 ≤ s ∧ s < (σ.np r : Int)) → WdAt W w2 tp W.heap.size Λ.ob L3 → Calls Try.prog 24 #[.pointer (some ⟨tp, 0, none⟩), ptrV Λ.ob (σ.ref r s)] w2 fun e w' => (e = .returned (.int .u64 (num (visit L3 (σ.ref r s)) (σ.ref r s)))) ∧ WdAt W w' tp W.heap.size Λ.ob (visit L3 (σ.ref r s)) ∧ ∀ k b q f left cnt, Rng Try.prog k w2 b q f left cnt → b < W.heap.size → Rng Try.prog k w' b q f left cnt) := fun s w2 hs hw2 => by
              have hb := HREF.out r s
              exact gnum_wd hw2 hb.1 (by have := HNN.out; omega) (HOB.out w2 _ hw2.1 hb.1 hb.2) (HLEN.out L3 HN.out HOO.out) (fun hm => HO0.out (HOO.out 0 hm))
            clear hg hw hp hn hO hl HG1 HW3
            go_wp2_with (first | (at_next; refine list_of rfl fun K hK => wp_nextP .i64 (fun s => ptrV Λ.ob (σ.ref r s)) (fun j => 0 ≤ j ∧ j < (σ.np r : Int)) _ rfl rfl HG.out HMK.out (fun hd => hK _ _ ?_) (fun s w2 cnt4 hs hg2 hlt hF2 hen => hK _ _ ?_)) | (go_at_call 24; refine (HNU.out s w2 hs.out (HW.out.next HG.out HWR.out hF2.out)).mono ?_; rintro e w4 ⟨rfl, hw4, hg4⟩; have HW4 := hide hw4; have HG4 := hide (hg4 _ _ _ _ _ _ hg2.out HRB.out); clear hw4 hg4))
            · have HKIDS : Hid (∀ x, x ∈ kids σ r → x ≠ 0 → x ∈ L3) := fun x hx h0 => by
                obtain ⟨j, hj, rfl⟩ := kids_mem.1 hx
                obtain ⟨v, hv⟩ := HMS.out (j : Int) h0
                exact HLF.out _ v hv (hd.out _ _ hv) h0
              clear HNU HLF HG hd
              go_roundw
              case rel =>
                refine ⟨k + 1, acc + (1 + a + b), L3, by go_num, by go_num, ?_, ?_, ?_, HW.out, HN.out, HOO.out, fun x hx => HP.out.subset (HRT2.out x hx), fun j x hj hx y hy h0 => ?_⟩
                · have hget : L3[k]? = some r := by
                    obtain ⟨l, hl⟩ := HP.out
                    rw [← hl, List.getElem?_append_left HK4.out.2.1]
                    exact HR.out
                  have htk : L3.take k = L2.take k := by
                    obtain ⟨l, hl⟩ := HP.out
                    rw [← hl, List.take_append_of_le_length (by have := HK4.out.2.1; omega)]
                  rw [sum_take _ hget, htk, ← HACC.out, HSZ.out, ← HAA.out, ← HBB.out]
                · have := HK4.out.2.2
                  omega
                · have h6 := HP.out.length_le
                  have := HK4.out.2.1
                  omega
                · rcases Nat.lt_or_ge j k with h1 | h1
                  · have hx2 : L2[j]? = some x := by
                      obtain ⟨l, hl⟩ := HP.out
                      rw [← hl, List.getElem?_append_left (by have := HK4.out.2.1; omega)] at hx
                      exact hx
                    exact HP.out.subset (HC2.out j x h1 hx2 y hy h0)
                  · obtain rfl : j = k := by omega
                    have hget : L3[j]? = some r := by
                      obtain ⟨l, hl⟩ := HP.out
                      rw [← hl, List.getElem?_append_left HK4.out.2.1]
                      exact HR.out
                    rw [hget] at hx
                    injection hx with hx
                    subst hx
                    exact HKIDS.out y hy h0
              case measure => simp [intOf]; have := HK4.out.1; omega
            · have hmeas : rngLeft w4 rbr r2 < rngLeft wr rbr r2 := by
                rw [HG4.out.left_eq, HG.out.left_eq]
                exact hlt.out
              refine ⟨⟨visit L3 (σ.ref r s), _, cnt4, HG4.out, HW4.out, HP.out.trans (visit_pre _ _), visit_nodup HN.out _, fun x hx => ?_, fun j v hv hx h0 => ?_⟩, hmeas⟩
              · rcases (visit_mem _ _ _).1 hx with h1 | ⟨rfl, h1⟩
                · exact HOO.out x h1
                · exact HKID.out r HRO.out s hs.out.1 hs.out.2 h1
              · by_cases e : j = s
                · subst e
                  exact (visit_mem _ _ _).2 (.inr ⟨rfl, h0⟩)
                · refine (visit_mem _ _ _).2 (.inl (HLF.out j v hv (fun hl => hx ⟨hl, ?_⟩) h0))
                  simpa using e
        · have hke : k = L2.length := by omega
          have hsum := HSUM.out L2 hn2 hO2 hr2 (fun r hr x hx h0 => by
            obtain ⟨j, hj, rfl⟩ := List.getElem_of_mem hr
            exact hc2 j _ (by omega) (List.getElem?_eq_getElem hj) x hx h0)
          rw [List.take_of_length_le (by omega), hsum] at hacc
          have HFE := hide hf
          obtain ⟨ml, hml⟩ : ∃ ml, ml = L2.length := ⟨_, rfl⟩
          rw [← hml] at x0 hlt2 hlen2
          have hlt3 : ¬ (k : Int) < (ml : Int) := by omega
          have HAC := hide hacc
          clear hacc hw2 hn2 hO2 hr2 hc2 hf l1 l2 k3 hml hke hsum HW HROOT HN HOO hd hk hab
          go_wp2_with fail
          go_ret
          exact ⟨by rw [HAC.out]; rfl, HFE.out⟩
    · have hmeas : rngLeft w3 Λ.hb r1 < rngLeft wr Λ.hb r1 := by
        rw [HG3.out.left_eq, HG.out.left_eq]
        exact hlt.out
      refine ⟨⟨visit L s, _, cnt3, HG3.out, HW3.out, visit_nodup HN.out _, fun x hx => ?_, fun x hx hlx => ?_⟩, hmeas⟩
      · rcases (visit_mem _ _ _).1 hx with h1 | ⟨rfl, h1⟩
        · exact HOO.out x h1
        · exact HHD.out x hs.out
      · by_cases e : x = s
        · subst e
          exact (visit_mem _ _ _).2 (.inr ⟨rfl, by have := hx.1; omega⟩)
        · refine (visit_mem _ _ _).2 (.inl (HLF.out x hx (fun hl => hlx ⟨hl, ?_⟩)))
          simpa using e
end
end Go.Proofs.Ytmodjkglcgoohaa
