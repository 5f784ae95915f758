/- gleanerref11: Add, a card that the set doesn't have: its source is there. -/
import Derived.Test.YtkbffmmomoeaiaaDoorMa
namespace Go.Proofs.YtkbffmmomoeaiaaDoor
set_option linter.unusedVariables false
set_option linter.unusedSimpArgs false
open Go.RowKit Go.Gl

/-- From a world to a later one only tagged blocks have turned, and only new ones were tagged. -/
def Rch (w : World) (tg : Tg) (w' : World) (tg' : Tg) : Prop := ∃ F, Fr F w w' ∧ (∀ b, b ∈ F → (tg b).1 ≠ 0) ∧ TgUp w tg tg'
theorem Rch.refl (w : World) (tg : Tg) : Rch w tg w tg := ⟨[], Fr.refl _ _, (fun b hb => by cases hb), TgUp.refl _ _⟩
theorem Rch.trans {w w1 w2 : World} {tg tg1 tg2 : Tg} (h : Rch w tg w1 tg1) (k : Rch w1 tg1 w2 tg2) : Rch w tg w2 tg2 := by
  obtain ⟨F, h1, h2, h3⟩ := h
  obtain ⟨G, k1, k2, k3⟩ := k
  refine ⟨F ++ G.filter (· < w.heap.size), (h1.mono (G := F ++ G.filter (· < w.heap.size)) fun x hx => .inl (by simp [hx])).trans k1 fun x hx => ?_, fun b hb => ?_, h3.trans k3 h1.size⟩
  · by_cases e : x < w.heap.size
    · exact .inl (List.mem_append.2 (.inr (List.mem_filter.2 ⟨hx, by simpa using e⟩)))
    · exact .inr (by omega)
  · rcases List.mem_append.1 hb with hb | hb
    · exact h2 b hb
    · obtain ⟨h4, h5⟩ := List.mem_filter.1 hb
      have := k2 b h4
      rw [h3 b (by simpa using h5)] at this
      exact this
theorem Rch.fr {w w' : World} {tg : Tg} (h : Fr [] w w') : Rch w tg w' tg := ⟨[], h, (fun b hb => by cases hb), TgUp.refl _ _⟩
theorem MUpd.of {w w' : World} {tg tg' : Tg} {mb lb per n : Nat} {v : Value} {σ : RS} {L : Nat → List Sr} {V : Nat → Value} {cv : Nat → Nat → Value} (h : Rch w tg w' tg') (hm : Ms w' tg' mb lb per n L V cv) (ht : Mt per n σ L) : MUpd w tg mb per n v σ (.returned v) w' := by
  obtain ⟨F, h1, h2, h3⟩ := h
  exact ⟨tg', F, rfl, ⟨lb, L, V, cv, hm, ht⟩, h1, h2, h3⟩
theorem nums_snoc (l : List Nat) (c : Nat) : nums l ++ [.int .i64 (c : Int)] = nums (l ++ [c]) := by simp [nums]
theorem cell_far {w : World} {p q : Addr} {u v : Value} (h : w.cell? p = some v) (hne : p.block ≠ q.block) : (w.setCell q u).cell? p = some v := by
  have hf : Fr [q.block] w (w.setCell q u) := (Fr.refl _ _).setCell (.inl (by simp)) u
  exact (hf.cell (lt_of_cell h) (by simpa using hne)).trans h
theorem one_in {w : World} {s : Nat} {x : Value} {t : TypeId} (hb : Blk w s t #[x]) : ∀ (j : Nat) u, [x][j]? = some u → w.cell? (Addr.add ⟨s, 0, none⟩ j) = some u := by
  intro j u hj
  have e : Addr.add ⟨s, 0, none⟩ j = ⟨s, 0 + j, none⟩ := Go.WideShapes.add_plain _ _ _
  rw [e, Nat.zero_add, hb.cell]
  simpa using hj
def Carded (w : World) (tg : Tg) (mb lb per n : Nat) (L : Nat → List Sr) (V : Nat → Value) (h k r W c : Nat) (cs : List Nat) (wc : World) : Prop :=
  ∃ tg' cv', Ms wc tg' mb lb per n (putF L h ((L h).set k ⟨r, W, cs ++ [c]⟩)) V cv' ∧ Rch w tg wc tg'
/-- Behind the append of a card to its source's cards, and the store of the slice. -/
theorem Ms.card {w X w5 : World} {tg : Tg} {mb lb per n : Nat} {L : Nat → List Sr} {V : Nat → Value} {cv : Nat → Nat → Value} (hm : Ms w tg mb lb per n L V cv) {h k r W c : Nat} (hh : h < n) (hup : (L h).Pairwise fun a b => a.reg < b.reg) {cs : List Nat} {g cz g5 cap5 : Nat}
    (hv : V h = .slice (some ⟨g, 0, none⟩) (L h).length cz) (hk : (L h)[k]? = some ⟨r, W, cs⟩) (hx : Fr [] w X) (hg : X.grownBy w5 (cv h r).ownBlock)
    (ho : w5.ownsRow 0 3 1 (.slice (some ⟨g5, 0, none⟩) (cs.length + 1) cap5) (cs.length + 1) (nums cs ++ [.int .i64 (c : Int)])) (hat : (cv h r).ownBlock = some g5 ∨ g5 = X.heap.size) (hlt : g5 < w5.heap.size) :
    Carded w tg mb lb per n L V h k r W c cs (w5.setCell ⟨g, k * 3 + 2, none⟩ (.slice (some ⟨g5, 0, none⟩) (cs.length + 1) cap5)) := by
  have hcd := (hm.own h hh).cds _ (List.mem_of_getElem? hk)
  have htg : tg g = (3, h, 0) := (hm.own h hh).tag g (by rw [hv]; rfl)
  have hf : Fr (cv h r).ownBlock.toList w w5 := (hx.mono (fun x hx => by cases hx)).trans_same (grown_fr hg)
  have hF : ∀ b, b ∈ (cv h r).ownBlock.toList → tg b = (4, h, r) := fun b hb => hcd.2 b (by simpa using hb)
  have hu : TgUp w tg (setTg tg g5 (4, h, r)) := fun b hb => by
    by_cases e : b = g5
    · subst e
      rw [setTg_at]
      rcases hat with h1 | h1
      · exact (hcd.2 _ h1).symm
      · have := hx.size; omega
    · exact setTg_ne _ _ e
  have hto : TgOk w5 (setTg tg g5 (4, h, r)) := fun b hb => by
    by_cases e : b = g5
    · subst e; exact hlt
    · rw [setTg_ne _ _ e] at hb; exact Nat.lt_of_lt_of_le (hm.tok b hb) hf.size
  refine ⟨setTg tg g5 (4, h, r), putF cv h (putF (cv h) r (.slice (some ⟨g5, 0, none⟩) (cs.length + 1) cap5)), ?_, g :: (cv h r).ownBlock.toList, (hf.mono (G := g :: (cv h r).ownBlock.toList) fun x hx => .inl (by simp [hx])).setCell (p := ⟨g, k * 3 + 2, none⟩) (.inl (by simp)) _, fun b hb => ?_, hu⟩
  · refine hm.turn2 hh hv hk hup hf hF hu hto ⟨?_, fun x hx => ?_⟩
    · rw [nums_snoc] at ho
      simpa using ho
    · injection hx with hx
      rw [← hx]; exact setTg_at _ _ _
  · rcases List.mem_cons.1 hb with rfl | hb
    · rw [htg]; simp
    · rw [hF b hb]; simp
section
variable {w : World} {tg : Tg} {mb lb per n : Nat} {L : Nat → List Sr} {V : Nat → Value} {cv : Nat → Nat → Value} {σ : RS}
set_option maxRecDepth 100000 in
set_option maxHeartbeats 1600000 in
theorem madd_found (hm : Ms w tg mb lb per n L V cv) (ht : Mt per n σ L) {h c : Nat} (hh : h < n) (hc : c < n * per) (hs : ¬ c / per = h) (hno : hasN σ per h c = false) (hf : fnd (L h) ((c / per : Nat) : Int) < (L h).length) :
    Calls Tryd.prog 25 #[.pointer (some ⟨mb, 0, none⟩), .int .i64 (h : Int), .int .i64 (c : Int)] w (MUpd w tg mb per n (.tuple #[.bool true, .int .i64 0]) (addS σ per n h c)) := by
  have hd := ht.ok.dim
  have hdm := hd.div hc
  have HR := hide (hm.region hd (h : Int))
  rw [decide_eq_true (show 0 ≤ (h : Int) ∧ (h : Int) < (n : Int) by omega)] at HR
  have k0 := hm.c0
  have k1 := hm.c1
  have k2 := hm.c2
  have hp2 := hd.p2
  have hn := hd.n2
  have hp3 := hd.p3
  have hp1 := hd.p1
  have hwN : IntKind.i64.wrap ((n : Int) * (per : Int)) = ((n * per : Nat) : Int) := by rw [← Int.natCast_mul]; exact IntWalk.i64_in _ ⟨by omega, by omega⟩
  have hcd : decide ((c : Int) < 0) = false := decide_eq_false (by omega)
  have hcd1 : decide ((c : Int) ≥ ((n * per : Nat) : Int)) = false := decide_eq_false (by omega)
  have td : (c : Int).tdiv (per : Int) = ((c / per : Nat) : Int) := by rw [Int.tdiv_eq_ediv_of_nonneg (by omega)]; rfl
  have td2 : (c : Int) / (per : Int) = ((c / per : Nat) : Int) := rfl
  have hper0 : ¬ (per : Int) = 0 := by omega
  have hsd : (((c / per : Nat) : Int) == (h : Int)) = false := by rw [beq_eq_false_iff_ne]; omega
  have HF : Hid (∀ i, Calls Tryd.prog 31 #[.pointer (some ⟨mb, 0, none⟩), .int .i64 (h : Int), .int .i64 ((c / per : Nat) : Int)] (w.drewN i) fun e w' => e = .returned (.int .i64 (fndI (L h) ((c / per : Nat) : Int))) ∧ w.drewN i = w') := fun i => mfind_any (hm.fr0 ((Fr.refl _ _).drewN i)) hd hh (ht.len hh) _
  obtain ⟨wy, wn⟩ := way_found ht hh (b := ((c / per : Nat) : Int))
  have HN : Hid (c < n * per ∧ ¬ c / per = h) := ⟨hc, hs⟩
  have HNo := hide hno
  obtain ⟨i0, hi, hz0, hz1, hz2⟩ := info_parts Tryd.info_int
  obtain ⟨s, hsk, hw⟩ := wy hf
  obtain ⟨s', hs', hreg⟩ := fnd_yes hf
  obtain rfl : s = s' := Option.some.inj (hsk.symm.trans hs')
  have hE : fndI (L h) ((c / per : Nat) : Int) = (fnd (L h) ((c / per : Nat) : Int) : Int) := if_pos hf
  rw [hE] at HF
  have HRd := hide (Ready.found ht hh hsk (by omega) hno)
  have HOk := hide ht.ok
  have HP3 := hide hp3
  have HMq : Hid (∀ q, Ms (w.drewN q) tg mb lb per n L V cv) := fun q => hm.fr0 ((Fr.refl _ _).drewN q)
  have hf1 : decide ((fnd (L h) ((c / per : Nat) : Int) : Int) < 0) = false := decide_eq_false (by omega)
  clear hm ht hd wy wn hw hE hsk hs' hreg hno hf hs
  generalize s.cds = cs at *
  generalize s.way = W at *
  generalize fnd (L h) ((c / per : Nat) : Int) = k at *
  obtain ⟨N, hN⟩ : ∃ N, n * per = N := ⟨_, rfl⟩
  rw [hN] at hwN hcd1 hc hp2
  obtain ⟨d, hd⟩ : ∃ d, c / per = d := ⟨_, rfl⟩
  rw [hd] at td td2 hsd HF hdm
  have HDd := hide hd
  clear hN hd
  go_enter Tryd.func25, Tryd.ntmps25
  go_wp2_with fail
  go_quiet ((go_at_call 30; exact quiet_left (HR.out _)))
  have HMz := hide (HMq.out nq)
  have HRc : Hid (Rch w tg (w.drewN nq) tg) := Rch.fr ((Fr.refl _ _).drewN nq)
  have HF1 := hide (HF.out nq)
  have z1 : (w.drewN nq).cell? ⟨mb, 1, none⟩ = some (.int .i64 (per : Int)) := HMz.out.c1
  clear HMq HF k0 k1 k2
  generalize w.drewN nq = wz at *
  obtain ⟨tgz, Lz, Vz, cvz, σz, HMz, HRd, HRc⟩ : ∃ tgz Lz Vz cvz σz, Hid (Ms wz tgz mb lb per n Lz Vz cvz) ∧ Hid (Ready per n σ σz Lz h c k W cs) ∧ Hid (Rch w tg wz tgz) := ⟨_, _, _, _, _, HMz, HRd, HRc⟩

  have a0 := HRd.out.at'
  have hW := HRd.out.way
  have hoz := HMz.out.own h hh
  have hupz := HRd.out.mt.up h hh
  obtain ⟨g, cz, hvz, hgl, hfz, hcells⟩ := hoz.row.cells a0
  obtain ⟨_, e1, e3⟩ := hcells _ _ a0
  have hcdz := hoz.cds _ (List.mem_of_getElem? a0)
  have htg : tgz g = (3, h, 0) := hoz.tag g (by rw [hvz]; rfl)
  have hkz : k < (Lz h).length := (List.getElem?_eq_some_iff.1 a0).1
  have hlz := HRd.out.mt.len hh
  have hclz : cs.length ≤ 4194304 := by
    rw [HRd.out.mt.cnt hh (List.mem_of_getElem? a0)]
    exact Nat.le_trans (cntS_le _ _ _ _) HP3.out
  have HI := hide (min_any hcdz.1 hclz c)
  rw [show decide (c ∈ (⟨c / per, W, cs⟩ : Sr).cds) = false from decide_eq_false HRd.out.no] at HI
  obtain ⟨A3, c3, hv3⟩ := hcdz.form
  simp only at hv3 e1 e3 HI
  have q2 := HMz.out.c2
  have qr := HMz.out.cr hh
  rw [hvz] at qr
  have fz := hfz (k * 3 + 2)
  have fz1 := hfz (k * 3 + 1)
  have hh1 : (h : Int) < (n : Int) := by omega
  have hk1 : (k : Int) < ((Lz h).length : Int) := by omega
  have hW3 : ((W : Int) == 3) = false := by rw [beq_eq_false_iff_ne]; omega
  have n1 : mb ≠ g := fun e => by have h1 := HMz.out.tst; rw [e, htg] at h1; simp at h1
  have n2 : lb ≠ g := fun e => by have h1 := HMz.out.trow; rw [e, htg] at h1; simp at h1
  have HCd := hide hcdz.1
  have HK : Hid (∀ X w5, Fr [] wz X → X.grownBy w5 (cvz h (c / per)).ownBlock → w5.cell? ⟨mb, 2, none⟩ = some (.slice (some ⟨lb, 0, none⟩) n n) ∧ w5.cell? ⟨lb, h, none⟩ = some (.slice (some ⟨g, 0, none⟩) (Lz h).length cz) ∧ w5.cell? ⟨g, k * 3 + 2, none⟩ = some (cvz h (c / per)) ∧ w5.frozen? ⟨g, k * 3 + 2, none⟩ = false ∧ w5.cell? ⟨g, k * 3 + 1, none⟩ = some (.int .i64 (W : Int)) ∧ w5.frozen? ⟨g, k * 3 + 1, none⟩ = false) := fun X w5 hx hg => by
    have hf : Fr (cvz h (c / per)).ownBlock.toList wz w5 := (hx.mono (fun x hx => by cases hx)).trans_same (grown_fr hg)
    have hF : ∀ b, b ∈ (cvz h (c / per)).ownBlock.toList → tgz b = (4, h, c / per) := fun b hb => hcdz.2 b (by simpa using hb)
    have f1 : mb ∉ (cvz h (c / per)).ownBlock.toList := fun hb => by have := hF _ hb; rw [HMz.out.tst] at this; simp at this
    have f2 : lb ∉ (cvz h (c / per)).ownBlock.toList := fun hb => by have := hF _ hb; rw [HMz.out.trow] at this; simp at this
    have f3 : g ∉ (cvz h (c / per)).ownBlock.toList := fun hb => by have := hF _ hb; rw [htg] at this; simp at this
    exact ⟨(hf.cell (p := ⟨mb, 2, none⟩) (lt_of_cell q2) f1).trans q2, (hf.cell (p := ⟨lb, h, none⟩) (lt_of_cell qr) f2).trans qr, (hf.cell (p := ⟨g, k * 3 + 2, none⟩) hgl f3).trans e3, (hf.frozen (p := ⟨g, k * 3 + 2, none⟩) hgl f3).trans fz, (hf.cell (p := ⟨g, k * 3 + 1, none⟩) hgl f3).trans e1, (hf.frozen (p := ⟨g, k * 3 + 1, none⟩) hgl f3).trans fz1⟩
  have HCard : Hid (∀ X w5 g5 cap5, Fr [] wz X → X.grownBy w5 (cvz h (c / per)).ownBlock → w5.ownsRow 0 3 1 (.slice (some ⟨g5, 0, none⟩) (cs.length + 1) cap5) (cs.length + 1) (nums cs ++ [.int .i64 (c : Int)]) → ((cvz h (c / per)).ownBlock = some g5 ∨ g5 = X.heap.size) → g5 < w5.heap.size → Carded wz tgz mb lb per n Lz Vz h k (c / per) W c cs (w5.setCell ⟨g, k * 3 + 2, none⟩ (.slice (some ⟨g5, 0, none⟩) (cs.length + 1) cap5))) := fun X w5 g5 cap5 hx hg ho hat hlt => HMz.out.card hh hupz hvz a0 hx hg ho hat hlt
  have HZ : Hid (Vz h = .slice (some ⟨g, 0, none⟩) (Lz h).length cz) := hvz
  have HRdy := hide HRd.out
  rw [hv3] at HK HCard HCd HI e3
  clear hoz hupz hcells hcdz hfz hvz a0 hv3 hlz htg
  have N0 : mb < wz.heap.size := lt_of_cell q2
  have N1 : lb < wz.heap.size := lt_of_cell qr
  obtain ⟨cl, hcl⟩ : ∃ cl, cs.length = cl := ⟨_, rfl⟩
  obtain ⟨ll, hll⟩ : ∃ ll, (Lz h).length = ll := ⟨_, rfl⟩
  rw [hcl] at HK HCard HCd HI e3 hclz
  rw [hll] at HK qr hk1 hkz
  have HCl := hide hcl
  have HLl := hide hll
  clear hcl hll
  have K0 : Hid (wz.drew.cell? ⟨mb, 2, none⟩ = some (.slice (some ⟨lb, 0, none⟩) n n) ∧ wz.drew.cell? ⟨lb, h, none⟩ = some (.slice (some ⟨g, 0, none⟩) ll cz)) := ⟨q2, qr⟩
  have K1 : Hid (∀ o, (wz.alloc o).drew.cell? ⟨mb, 2, none⟩ = some (.slice (some ⟨lb, 0, none⟩) n n) ∧ (wz.alloc o).drew.cell? ⟨lb, h, none⟩ = some (.slice (some ⟨g, 0, none⟩) ll cz)) := fun o => ⟨((((Fr.refl [] wz).alloc o).drew).cell (p := ⟨mb, 2, none⟩) N0 (by simp)).trans q2, ((((Fr.refl [] wz).alloc o).drew).cell (p := ⟨lb, h, none⟩) N1 (by simp)).trans qr⟩
  have HB1 : Hid (cl + 1 ≤ maxLen ∧ (cl + 1) * 8 ≤ 140737488355328) := ⟨by unfold maxLen; omega, by omega⟩
  go_wp2_with (first | (go_at_call 31; refine HF1.out.mono ?_; rintro e w' ⟨rfl, rfl⟩) | (go_at_call 39; refine HI.out.mono ?_; rintro e w' ⟨rfl, rfl⟩))
  go_cut [] from 161 to 184 (fun wc => ∃ w6, w6 = wc ∧ Carded wz tgz mb lb per n Lz Vz h k (c / per) W c cs w6)
  case first =>
    refine wp_region_held_drew (S := fun w' => w'.cell? ⟨mb, 2, none⟩ = some (.slice (some ⟨lb, 0, none⟩) n n) ∧ w'.cell? ⟨lb, h, none⟩ = some (.slice (some ⟨g, 0, none⟩) ll cz)) (by kernel_rfl) (K0.out) (fun hHeld => ?_)
    refine wpAnyH_take (i := 0) (v := ?v0x47) rfl (by kernel_rfl) (by kernel_rfl) (by kernel_rfl) (fun _ _ _ h => h) (Or.inl ⟨by rfl, ?hy0x47⟩) (by assumption) ?rest0x47
    case hy0x47 => (intro w' hSw; (try dsimp only at hSw); (try simp only [List.getElem_toArray, List.getElem_cons_succ, List.getElem_cons_zero]); (first | (go_simp; done) | (go_simp; with_reducible rfl)))
    (try simp only [Act.put, List.getElem_toArray, List.getElem_cons_succ, List.getElem_cons_zero, List.setIfInBounds_toArray, List.set_cons_zero, List.set_cons_succ])
    refine wpAnyH_take (i := 1) (v := ?v1x48) rfl (by kernel_rfl) (by kernel_rfl) (by kernel_rfl) (fun _ _ _ h => h) (Or.inl ⟨by rfl, ?hy1x48⟩) (by assumption) ?rest1x48
    case hy1x48 => (intro w' hSw; (try dsimp only at hSw); (try simp only [List.getElem_toArray, List.getElem_cons_succ, List.getElem_cons_zero]); (first | (go_simp; done) | (go_simp; with_reducible rfl)))
    (try simp only [Act.put, List.getElem_toArray, List.getElem_cons_succ, List.getElem_cons_zero, List.setIfInBounds_toArray, List.set_cons_zero, List.set_cons_succ])
    refine wpAnyH_take (i := 2) (v := ?v2x49) rfl (by kernel_rfl) (by kernel_rfl) (by kernel_rfl) (fun _ _ _ h => h) (Or.inl ⟨by rfl, ?hy2x49⟩) (by assumption) ?rest2x49
    case hy2x49 => (intro w' hSw; (try dsimp only at hSw); (try simp only [List.getElem_toArray, List.getElem_cons_succ, List.getElem_cons_zero]); (first | (go_simp; done) | (go_simp; with_reducible rfl)))
    (try simp only [Act.put, List.getElem_toArray, List.getElem_cons_succ, List.getElem_cons_zero, List.setIfInBounds_toArray, List.set_cons_zero, List.set_cons_succ])
    refine wpAnyH_take (i := 3) (v := ?v3x50) rfl (by kernel_rfl) (by kernel_rfl) (by kernel_rfl) (fun _ _ _ h => h) (Or.inl ⟨by rfl, ?hy3x50⟩) (by assumption) ?rest3x50
    case hy3x50 => (intro w' hSw; (try dsimp only at hSw); (try simp only [List.getElem_toArray, List.getElem_cons_succ, List.getElem_cons_zero]); (first | (go_simp; done) | (go_simp; with_reducible rfl)))
    (try simp only [Act.put, List.getElem_toArray, List.getElem_cons_succ, List.getElem_cons_zero, List.setIfInBounds_toArray, List.set_cons_zero, List.set_cons_succ])
    refine wpAnyH_take (i := 4) (v := ?v4x51) rfl (by kernel_rfl) (by kernel_rfl) (by kernel_rfl) (fun _ _ _ h => h) (Or.inl ⟨by rfl, ?hy4x51⟩) (by assumption) ?rest4x51
    case hy4x51 => (intro w' hSw; (try dsimp only at hSw); (try simp only [List.getElem_toArray, List.getElem_cons_succ, List.getElem_cons_zero]); (first | (go_simp; done) | (go_simp; with_reducible rfl)))
    (try simp only [Act.put, List.getElem_toArray, List.getElem_cons_succ, List.getElem_cons_zero, List.setIfInBounds_toArray, List.set_cons_zero, List.set_cons_succ])
    refine wpAnyH_take (i := 5) (v := ?v5x52) rfl (by kernel_rfl) (by kernel_rfl) (by kernel_rfl) (fun _ _ _ h => h) (Or.inl ⟨by rfl, ?hy5x52⟩) (by assumption) ?rest5x52
    case hy5x52 => (intro w' hSw; (try dsimp only at hSw); (try simp only [List.getElem_toArray, List.getElem_cons_succ, List.getElem_cons_zero]); (first | (go_simp; done) | (go_simp; with_reducible rfl)))
    (try simp only [Act.put, List.getElem_toArray, List.getElem_cons_succ, List.getElem_cons_zero, List.setIfInBounds_toArray, List.set_cons_zero, List.set_cons_succ])
    refine wpAnyH_take (i := 6) (v := ?v6x53) rfl (by kernel_rfl) (by kernel_rfl) (by kernel_rfl) (fun _ _ _ h => h) (Or.inl ⟨by rfl, ?hy6x53⟩) (by assumption) ?rest6x53
    case hy6x53 => (intro w' hSw; (try dsimp only at hSw); (try simp only [List.getElem_toArray, List.getElem_cons_succ, List.getElem_cons_zero]); (first | (go_simp; done) | (go_simp; with_reducible rfl)))
    (try simp only [Act.put, List.getElem_toArray, List.getElem_cons_succ, List.getElem_cons_zero, List.setIfInBounds_toArray, List.set_cons_zero, List.set_cons_succ])
    refine wpAnyH_take (i := 7) (v := ?v7x54) rfl (by kernel_rfl) (by kernel_rfl) (by kernel_rfl) (fun _ _ _ h => h) (Or.inl ⟨by rfl, ?hy7x54⟩) (by assumption) ?rest7x54
    case hy7x54 => (intro w' hSw; (try dsimp only at hSw); (try simp only [List.getElem_toArray, List.getElem_cons_succ, List.getElem_cons_zero]); (first | (go_simp; done) | (go_simp; with_reducible rfl)))
    (try simp only [Act.put, List.getElem_toArray, List.getElem_cons_succ, List.getElem_cons_zero, List.setIfInBounds_toArray, List.set_cons_zero, List.set_cons_succ])
    refine wpAnyH_take (i := 8) (v := ?v8x55) rfl (by kernel_rfl) (by kernel_rfl) (by kernel_rfl) (fun _ _ _ h => h) (Or.inl ⟨by rfl, ?hy8x55⟩) (by assumption) ?rest8x55
    case hy8x55 => (intro w' hSw; (try dsimp only at hSw); (try simp only [List.getElem_toArray, List.getElem_cons_succ, List.getElem_cons_zero]); (first | (go_simp; done) | (go_simp; with_reducible rfl)))
    (try simp only [Act.put, List.getElem_toArray, List.getElem_cons_succ, List.getElem_cons_zero, List.setIfInBounds_toArray, List.set_cons_zero, List.set_cons_succ])
    refine wpAnyH_take (i := 9) (v := ?v9x56) rfl (by kernel_rfl) (by kernel_rfl) (by kernel_rfl) (fun _ _ _ h => h) (Or.inl ⟨by rfl, ?hy9x56⟩) (by assumption) ?rest9x56
    case hy9x56 => (intro w' hSw; (try dsimp only at hSw); (try simp only [List.getElem_toArray, List.getElem_cons_succ, List.getElem_cons_zero]); (first | (go_simp; done) | (go_simp; with_reducible rfl)))
    (try simp only [Act.put, List.getElem_toArray, List.getElem_cons_succ, List.getElem_cons_zero, List.setIfInBounds_toArray, List.set_cons_zero, List.set_cons_succ])
    refine wpAnyH_take (i := 10) (v := ?v10x57) rfl (by kernel_rfl) (by kernel_rfl) (by kernel_rfl) (fun _ _ _ h => h) (Or.inl ⟨by rfl, ?hy10x57⟩) (by assumption) ?rest10x57
    case hy10x57 => (intro w' hSw; (try dsimp only at hSw); (try simp only [List.getElem_toArray, List.getElem_cons_succ, List.getElem_cons_zero]); (first | (go_simp; done) | (go_simp; with_reducible rfl)))
    (try simp only [Act.put, List.getElem_toArray, List.getElem_cons_succ, List.getElem_cons_zero, List.setIfInBounds_toArray, List.set_cons_zero, List.set_cons_succ])
    refine wpAnyH_take (i := 11) (v := ?v11x58) rfl (by kernel_rfl) (by kernel_rfl) (by kernel_rfl) (fun _ _ _ h => h) (Or.inl ⟨by rfl, ?hy11x58⟩) (by assumption) ?rest11x58
    case hy11x58 => (intro w' hSw; (try dsimp only at hSw); (try simp only [List.getElem_toArray, List.getElem_cons_succ, List.getElem_cons_zero]); (first | (go_simp; done) | (go_simp; with_reducible rfl)))
    (try simp only [Act.put, List.getElem_toArray, List.getElem_cons_succ, List.getElem_cons_zero, List.setIfInBounds_toArray, List.set_cons_zero, List.set_cons_succ])
    refine wpAnyH_take (i := 12) (v := ?v12x59) rfl (by kernel_rfl) (by kernel_rfl) (by kernel_rfl) (fun _ _ _ h => h) (Or.inl ⟨by rfl, ?hy12x59⟩) (by assumption) ?rest12x59
    case hy12x59 => (intro w' hSw; (try dsimp only at hSw); (try simp only [List.getElem_toArray, List.getElem_cons_succ, List.getElem_cons_zero]); (first | (go_simp; done) | (go_simp; with_reducible rfl)))
    (try simp only [Act.put, List.getElem_toArray, List.getElem_cons_succ, List.getElem_cons_zero, List.setIfInBounds_toArray, List.set_cons_zero, List.set_cons_succ])
    refine wpAnyH_take (i := 13) (v := ?v13x60) rfl (by kernel_rfl) (by kernel_rfl) (by kernel_rfl) (fun _ _ _ h => h) (Or.inl ⟨by rfl, ?hy13x60⟩) (by assumption) ?rest13x60
    case hy13x60 => (intro w' hSw; (try dsimp only at hSw); (try simp only [List.getElem_toArray, List.getElem_cons_succ, List.getElem_cons_zero]); (first | (go_simp; done) | (go_simp; with_reducible rfl)))
    (try simp only [Act.put, List.getElem_toArray, List.getElem_cons_succ, List.getElem_cons_zero, List.setIfInBounds_toArray, List.set_cons_zero, List.set_cons_succ])
    refine wpAnyH_take (i := 14) (v := ?v14x61) rfl (by kernel_rfl) (by kernel_rfl) (by kernel_rfl) (fun _ _ _ h => h) (Or.inl ⟨by rfl, ?hy14x61⟩) (by assumption) ?rest14x61
    case hy14x61 => (intro w' hSw; (try dsimp only at hSw); (try simp only [List.getElem_toArray, List.getElem_cons_succ, List.getElem_cons_zero]); (first | (go_simp; done) | (go_simp; with_reducible rfl)))
    (try simp only [Act.put, List.getElem_toArray, List.getElem_cons_succ, List.getElem_cons_zero, List.setIfInBounds_toArray, List.set_cons_zero, List.set_cons_succ])
    refine wpAnyH_take (i := 15) (v := ?v15x62) rfl (by kernel_rfl) (by kernel_rfl) (by kernel_rfl) (fun _ _ _ h => h) (Or.inl ⟨by rfl, ?hy15x62⟩) (by assumption) ?rest15x62
    case hy15x62 => (intro w' hSw; (try dsimp only at hSw); (try simp only [List.getElem_toArray, List.getElem_cons_succ, List.getElem_cons_zero]); (first | (go_simp; done) | (go_simp; with_reducible rfl)))
    (try simp only [Act.put, List.getElem_toArray, List.getElem_cons_succ, List.getElem_cons_zero, List.setIfInBounds_toArray, List.set_cons_zero, List.set_cons_succ])
    refine wpAnyH_take (i := 16) (v := ?v16x63) rfl (by kernel_rfl) (by kernel_rfl) (by kernel_rfl) (fun _ _ _ h => h) (Or.inl ⟨by rfl, ?hy16x63⟩) (by assumption) ?rest16x63
    case hy16x63 => (intro w' hSw; (try dsimp only at hSw); (try simp only [List.getElem_toArray, List.getElem_cons_succ, List.getElem_cons_zero]); (first | (go_simp; done) | (go_simp; with_reducible rfl)))
    (try simp only [Act.put, List.getElem_toArray, List.getElem_cons_succ, List.getElem_cons_zero, List.setIfInBounds_toArray, List.set_cons_zero, List.set_cons_succ])
    refine wpAnyH_take (i := 17) (v := ?v17x64) rfl (by kernel_rfl) (by kernel_rfl) (by kernel_rfl) (fun _ _ _ h => h) (Or.inl ⟨by rfl, ?hy17x64⟩) (by assumption) ?rest17x64
    case hy17x64 => (intro w' hSw; (try dsimp only at hSw); (try simp only [List.getElem_toArray, List.getElem_cons_succ, List.getElem_cons_zero]); (first | (go_simp; done) | (go_simp; with_reducible rfl)))
    (try simp only [Act.put, List.getElem_toArray, List.getElem_cons_succ, List.getElem_cons_zero, List.setIfInBounds_toArray, List.set_cons_zero, List.set_cons_succ])
    refine wpAnyH_take (i := 19) (v := ?v19x65) rfl (by kernel_rfl) (by kernel_rfl) (by kernel_rfl) (fun _ _ _ h => h) (Or.inl ⟨by rfl, ?hy19x65⟩) (by assumption) ?rest19x65
    case hy19x65 => (intro w' hSw; (try dsimp only at hSw); (try simp only [List.getElem_toArray, List.getElem_cons_succ, List.getElem_cons_zero]); (first | (go_simp; done) | (go_simp; with_reducible rfl)))
    (try simp only [Act.put, List.getElem_toArray, List.getElem_cons_succ, List.getElem_cons_zero, List.setIfInBounds_toArray, List.set_cons_zero, List.set_cons_succ])
    refine wpAnyH_ready (rs := [18, 20]) (by kernel_rfl) (by simp) ?_
    refine AllReadyH.cons rfl (fun K hK => ?_) (AllReadyH.cons rfl (fun K hK => ?_) AllReadyH.nil)
    · (try simp only [List.getElem_toArray, List.getElem_cons_succ, List.getElem_cons_zero])
      go_simp
      refine hK.out _ _ (K0.out) (fun hHeld => ?_)
      clear hK K
      (try simp only [Act.put, List.setIfInBounds_toArray, List.set_cons_zero, List.set_cons_succ])
      refine wpAnyH_ready (rs := [20]) (by kernel_rfl) (by simp) ?_
      refine AllReadyH.cons rfl (fun K hK => ?_) AllReadyH.nil
      (try simp only [List.getElem_toArray, List.getElem_cons_succ, List.getElem_cons_zero])
      go_simp
      refine hK.out _ _ (K1.out _) (fun hHeld => ?_)
      clear hK K
      (try simp only [Act.put, List.setIfInBounds_toArray, List.set_cons_zero, List.set_cons_succ])
      refine wpAnyH_ready (rs := [21]) (by kernel_rfl) (by simp) ?_
      refine AllReadyH.cons rfl (fun K hK => ?_) AllReadyH.nil
      (try simp only [List.getElem_toArray, List.getElem_cons_succ, List.getElem_cons_zero])
      rw [if_pos (by rfl)]
      refine wp_append_lies _ _ _ 37 rfl 0 3 i0 (.int .i64 0) 1 8 Tryd.underlying37 hi hz0 hz1 hz2 rfl (by decide) (.slice A3 cl c3) cl (nums cs) rfl (own_fr HCd.out (((Fr.refl [] _).alloc _).drew) (fun _ _ => by simp)) ⟨wz.heap.size, 0, none⟩ 1 1 [.int .i64 (c : Int)] rfl rfl (one_in ((Blk.new wz 3 #[.int .i64 (c : Int)]).drew)) (by intro u hu; simp at hu; rcases hu with rfl; rfl) (by decide) HB1.out.1 HB1.out.2 (Nat.zero_le _) _ rfl ?_
      intro g5 cap5 w5 hown hgr hat hlt
      have HKK := hide (HK.out _ _ (((Fr.refl [] _).alloc _).drew) hgr)
      have HC5 := hide (HCard.out _ _ _ _ (((Fr.refl [] _).alloc _).drew) hgr hown hat hlt)
      have p3 := HKK.out.2.2.1
      have pz := HKK.out.2.2.2.1
      clear hown hgr hat hlt
      refine hK.out _ _ ((⟨HKK.out.1, HKK.out.2.1⟩)) (fun hHeld => ?_)
      clear hK K
      (try simp only [Act.put, List.setIfInBounds_toArray, List.set_cons_zero, List.set_cons_succ])
      refine wpAnyH_take (i := 22) (v := ?v22x66) rfl (by kernel_rfl) (by kernel_rfl) (by kernel_rfl) (fun _ _ _ h => h) (Or.inl ⟨by rfl, ?hy22x66⟩) (by assumption) ?rest22x66
      case hy22x66 => (intro w' hSw; (try dsimp only at hSw); (try simp only [List.getElem_toArray, List.getElem_cons_succ, List.getElem_cons_zero]); (first | (go_simp; done) | (go_simp; with_reducible rfl)))
      (try simp only [Act.put, List.getElem_toArray, List.getElem_cons_succ, List.getElem_cons_zero, List.setIfInBounds_toArray, List.set_cons_zero, List.set_cons_succ])
      refine wpAnyH_take (i := 23) (v := ?v23x67) rfl (by kernel_rfl) (by kernel_rfl) (by kernel_rfl) (fun _ _ _ h => h) (Or.inl ⟨by rfl, ?hy23x67⟩) (by assumption) ?rest23x67
      case hy23x67 => (intro w' hSw; (try dsimp only at hSw); (try simp only [List.getElem_toArray, List.getElem_cons_succ, List.getElem_cons_zero]); (first | (go_simp; done) | (go_simp; with_reducible rfl)))
      (try simp only [Act.put, List.getElem_toArray, List.getElem_cons_succ, List.getElem_cons_zero, List.setIfInBounds_toArray, List.set_cons_zero, List.set_cons_succ])
      refine wpAnyH_ready (rs := [24]) (by kernel_rfl) (by simp) ?_
      refine AllReadyH.cons rfl (fun K hK => ?_) AllReadyH.nil
      (try simp only [List.getElem_toArray, List.getElem_cons_succ, List.getElem_cons_zero])
      go_simp
      refine hK.out _ _ ((⟨cell_far HKK.out.1 n1, cell_far HKK.out.2.1 n2⟩)) (fun hHeld => ?_)
      clear hK K
      (try simp only [Act.put, List.setIfInBounds_toArray, List.set_cons_zero, List.set_cons_succ])
      refine wpAnyH_done (by kernel_rfl) ?_ _
      go_wp2_with fail
      go_meet
      case rel => exact ⟨_, rfl, HC5.out⟩
    · (try simp only [List.getElem_toArray, List.getElem_cons_succ, List.getElem_cons_zero])
      go_simp
      refine hK.out _ _ (K1.out _) (fun hHeld => ?_)
      clear hK K
      (try simp only [Act.put, List.setIfInBounds_toArray, List.set_cons_zero, List.set_cons_succ])
      refine wpAnyH_ready (rs := [18]) (by kernel_rfl) (by simp) ?_
      refine AllReadyH.cons rfl (fun K hK => ?_) AllReadyH.nil
      (try simp only [List.getElem_toArray, List.getElem_cons_succ, List.getElem_cons_zero])
      go_simp
      refine hK.out _ _ (K1.out _) (fun hHeld => ?_)
      clear hK K
      (try simp only [Act.put, List.setIfInBounds_toArray, List.set_cons_zero, List.set_cons_succ])
      refine wpAnyH_ready (rs := [21]) (by kernel_rfl) (by simp) ?_
      refine AllReadyH.cons rfl (fun K hK => ?_) AllReadyH.nil
      (try simp only [List.getElem_toArray, List.getElem_cons_succ, List.getElem_cons_zero])
      rw [if_pos (by rfl)]
      refine wp_append_lies _ _ _ 37 rfl 0 3 i0 (.int .i64 0) 1 8 Tryd.underlying37 hi hz0 hz1 hz2 rfl (by decide) (.slice A3 cl c3) cl (nums cs) rfl (own_fr HCd.out (((Fr.refl [] _).alloc _).drew) (fun _ _ => by simp)) ⟨wz.heap.size, 0, none⟩ 1 1 [.int .i64 (c : Int)] rfl rfl (one_in ((Blk.new wz 3 #[.int .i64 (c : Int)]).drew)) (by intro u hu; simp at hu; rcases hu with rfl; rfl) (by decide) HB1.out.1 HB1.out.2 (Nat.zero_le _) _ rfl ?_
      intro g5 cap5 w5 hown hgr hat hlt
      have HKK := hide (HK.out _ _ (((Fr.refl [] _).alloc _).drew) hgr)
      have HC5 := hide (HCard.out _ _ _ _ (((Fr.refl [] _).alloc _).drew) hgr hown hat hlt)
      have p3 := HKK.out.2.2.1
      have pz := HKK.out.2.2.2.1
      clear hown hgr hat hlt
      refine hK.out _ _ ((⟨HKK.out.1, HKK.out.2.1⟩)) (fun hHeld => ?_)
      clear hK K
      (try simp only [Act.put, List.setIfInBounds_toArray, List.set_cons_zero, List.set_cons_succ])
      refine wpAnyH_take (i := 22) (v := ?v22x68) rfl (by kernel_rfl) (by kernel_rfl) (by kernel_rfl) (fun _ _ _ h => h) (Or.inl ⟨by rfl, ?hy22x68⟩) (by assumption) ?rest22x68
      case hy22x68 => (intro w' hSw; (try dsimp only at hSw); (try simp only [List.getElem_toArray, List.getElem_cons_succ, List.getElem_cons_zero]); (first | (go_simp; done) | (go_simp; with_reducible rfl)))
      (try simp only [Act.put, List.getElem_toArray, List.getElem_cons_succ, List.getElem_cons_zero, List.setIfInBounds_toArray, List.set_cons_zero, List.set_cons_succ])
      refine wpAnyH_take (i := 23) (v := ?v23x69) rfl (by kernel_rfl) (by kernel_rfl) (by kernel_rfl) (fun _ _ _ h => h) (Or.inl ⟨by rfl, ?hy23x69⟩) (by assumption) ?rest23x69
      case hy23x69 => (intro w' hSw; (try dsimp only at hSw); (try simp only [List.getElem_toArray, List.getElem_cons_succ, List.getElem_cons_zero]); (first | (go_simp; done) | (go_simp; with_reducible rfl)))
      (try simp only [Act.put, List.getElem_toArray, List.getElem_cons_succ, List.getElem_cons_zero, List.setIfInBounds_toArray, List.set_cons_zero, List.set_cons_succ])
      refine wpAnyH_ready (rs := [24]) (by kernel_rfl) (by simp) ?_
      refine AllReadyH.cons rfl (fun K hK => ?_) AllReadyH.nil
      (try simp only [List.getElem_toArray, List.getElem_cons_succ, List.getElem_cons_zero])
      go_simp
      refine hK.out _ _ ((⟨cell_far HKK.out.1 n1, cell_far HKK.out.2.1 n2⟩)) (fun hHeld => ?_)
      clear hK K
      (try simp only [Act.put, List.setIfInBounds_toArray, List.set_cons_zero, List.set_cons_succ])
      refine wpAnyH_done (by kernel_rfl) ?_ _
      go_wp2_with fail
      go_meet
      case rel => exact ⟨_, rfl, HC5.out⟩
  case rest =>
    obtain ⟨w6, hw6, tg6, cv6, hm6, hr6⟩ := hcut
    subst hw6
    have HM6 := hide hm6
    have HR6 := hide (HRc.out.trans hr6)
    clear hm6 hr6
    have hne : h ≠ c / per := fun e => HN.out.2 e.symm
    have HMt1 := hide (fun W' (hW' : W' = 1 ∨ W' = 2) => HRdy.out.mt1 HOk.out hh HN.out.1 hne hW')
    have ho6 := HM6.out.own h hh
    rw [putF_at] at ho6
    have hkz' : k < (Lz h).length := by rw [HLl.out]; exact hkz
    have a6 : ((Lz h).set k ⟨c / per, W, cs ++ [c]⟩)[k]? = some ⟨c / per, W, cs ++ [c]⟩ := by rw [List.getElem?_set, if_pos rfl, if_pos hkz']
    obtain ⟨g', c', hv6, hgl6, hfz6, hc6⟩ := ho6.row.cells a6
    rw [List.length_set, HZ.out] at hv6
    injection hv6 with hv6 _ _
    injection hv6 with hv6
    injection hv6 with hv6
    subst hv6
    obtain ⟨_, f1, f3⟩ := hc6 _ _ a6
    obtain ⟨A7, c7, hv7⟩ := (ho6.cds _ (List.mem_of_getElem? a6)).form
    have f3' : w6.cell? ⟨g, k * 3 + 2, none⟩ = some (.slice A7 (cl + 1) c7) := by
      rw [f3, hv7, ← HCl.out]; simp
    have f1' : w6.cell? ⟨g, k * 3 + 1, none⟩ = some (.int .i64 (W : Int)) := f1
    have d2 := HM6.out.c2
    have dr := HM6.out.cr hh
    rw [HZ.out, HLl.out] at dr
    have dz := hfz6 (k * 3 + 1)
    have htg6 : tg6 g = (3, h, 0) := ho6.tag g (by rw [HZ.out]; rfl)
    have HTg6 := hide htg6
    have HHas : Hid (W = 2 ↔ σ.way h (c / per) = 2) := HRdy.out.two
    have n3 := n1.symm
    have n4 := n2.symm
    have N6 : mb < w6.heap.size := lt_of_cell d2
    have HA : Hid (addS σ per n h c = if σ.way h (c / per) = 2 then σ.put per h (c / per) 2 (plus σ h c) else if cntS (σ.put per h (c / per) 1 (plus σ h c)) per h (c / per) ≤ 4 then σ.put per h (c / per) 1 (plus σ h c) else coarsen (σ.put per h (c / per) 2 (plus σ h c)) per n h) := rfl
    clear ho6 hc6 f1 f3 hv7 htg6
    by_cases hw2 : W = 2
    · have w21 : ((W : Int) == 1) = false := by rw [beq_eq_false_iff_ne]; omega
      have HA2 : Hid (addS σ per n h c = σ.put per h (c / per) 2 (plus σ h c)) := by have := HA.out; rw [if_pos (HHas.out.1 hw2)] at this; exact this
      have HMt2 := hide (HMt1.out W (.inr hw2))
      have HW2 := hide hw2
      clear a6 hfz6 hw2 HMt1
      go_wp2_with fail
      go_ret2
      rw [HA2.out]
      have h5 := HMt2.out
      rw [show σ.put per h (c / per) W (plus σ h c) = σ.put per h (c / per) 2 (plus σ h c) by rw [HW2.out]] at h5
      exact MUpd.of HR6.out HM6.out h5
    · have hw1 : W = 1 := by omega
      have w21 : ((W : Int) == 1) = true := by rw [beq_iff_eq]; omega
      have hlong : cl + 1 = cntS (σ.put per h (c / per) 1 (plus σ h c)) per h (c / per) := by
        rw [← HCl.out]
        have := HRdy.out
        rw [hw1] at this
        exact this.long HOk.out hh HN.out.1 hne
      have hw2' : ¬ σ.way h (c / per) = 2 := fun e => hw2 (HHas.out.2 e)
      rw [if_neg hw2', ← hlong] at HA
      have HW1 := hide hw1
      clear hlong hw2' hw2 hw1
      by_cases h4 : cl + 1 ≤ 4
      · have h4' : ¬ ((cl : Int) + 1) > 4 := by omega
        have h4'' : decide (((cl : Int) + 1) > 4) = false := decide_eq_false h4'
        rw [if_pos h4] at HA
        have HMt2 := hide (HMt1.out W (.inl HW1.out))
        clear a6 hfz6 HMt1
        go_wp2_with fail
        go_ret2
        rw [HA.out]
        have h5 := HMt2.out
        rw [show σ.put per h (c / per) W (plus σ h c) = σ.put per h (c / per) 1 (plus σ h c) by rw [HW1.out]] at h5
        exact MUpd.of HR6.out HM6.out h5
      · have h4' : ((cl : Int) + 1) > 4 := by omega
        rw [if_neg h4] at HA
        have hup6 := (HMt1.out W (.inl HW1.out))
        have M7 := HM6.out.turn1 hup6 hh (wy := 2) (by rw [HZ.out, putF_at, List.length_set]) (by rw [putF_at]; exact a6)
        have Mt7 := (HMt1.out 2 (.inr rfl)).congr (L' := putF (putF Lz h ((Lz h).set k ⟨c / per, W, cs ++ [c]⟩)) h (((putF Lz h ((Lz h).set k ⟨c / per, W, cs ++ [c]⟩)) h).set k ⟨c / per, 2, cs ++ [c]⟩)) (fun a ha => by
          by_cases e : a = h
          · subst e; rw [putF_at, putF_at, putF_at, List.set_set]
          · rw [putF_ne _ _ e, putF_ne _ _ e, putF_ne _ _ e])
        have HCo := hide (mcoarsen_any M7 Mt7 hh)
        have HR7 : Hid (Rch w tg (w6.setCell ⟨g, k * 3 + 1, none⟩ (.int .i64 ((2 : Nat) : Int))) tg6) := HR6.out.trans ⟨[g], (Fr.refl _ _).setCell (p := ⟨g, k * 3 + 1, none⟩) (.inl (by simp)) _, (fun b hb => by simp at hb; rw [hb, HTg6.out]; simp), TgUp.refl _ _⟩
        rw [show ((2 : Nat) : Int) = 2 from rfl] at HCo HR7
        clear a6 hfz6 HMt1 hup6 M7 Mt7
        go_wp2_with (go_at_call 40; refine HCo.out.mono ?_; rintro e w8 ⟨tg8, F8, rfl, hm8, hf8, ht8, hu8⟩; have HM8 := hide hm8; have HR8 : Hid (Rch w tg w8 tg8) := HR7.out.trans ⟨F8, hf8, ht8, hu8⟩; clear hm8 hf8 ht8 hu8)
        go_ret2
        rw [HA.out]
        obtain ⟨F9, r1, r2, r3⟩ := HR8.out
        exact ⟨tg8, F9, rfl, HM8.out, r1, r2, r3⟩
end
end Go.Proofs.YtkbffmmomoeaiaaDoor
/- gleanerref11: Add, a card that the set doesn't have: its source is not there yet. -/
namespace Go.Proofs.YtkbffmmomoeaiaaDoor
set_option linter.unusedVariables false
set_option linter.unusedSimpArgs false
open Go.RowKit Go.Gl

theorem putF_twice {α : Type} (f : Nat → α) (k : Nat) (a b : α) : putF (putF f k a) k b = putF f k b := by
  funext j
  by_cases e : j = k
  · subst e; rw [putF_at, putF_at]
  · rw [putF_ne _ _ e, putF_ne _ _ e, putF_ne _ _ e]
theorem putF_same {α : Type} (f : Nat → α) (k : Nat) : putF f k (f k) = f := by
  funext j
  by_cases e : j = k
  · subst e; rw [putF_at]
  · rw [putF_ne _ _ e]
/-- A source of a home is stored whole. -/
theorem Ms.one {w : World} {tg : Tg} {mb lb per n : Nat} {L : Nat → List Sr} {V : Nat → Value} {cv : Nat → Nat → Value} (hm : Ms w tg mb lb per n L V cv) {h i : Nat} (hh : h < n) {s : Sr} {g c : Nat} (hv : V h = .slice (some ⟨g, 0, none⟩) (L h).length c) (hi : i < (L h).length) (hs : CdAt w tg h s (cv h s.reg)) :
    Ms (((w.setCell ⟨g, i * 3, none⟩ (.int .i64 (s.reg : Int))).setCell ⟨g, i * 3 + 1, none⟩ (.int .i64 (s.way : Int))).setCell ⟨g, i * 3 + 2, none⟩ (cv h s.reg)) tg mb lb per n (putF L h ((L h).set i s)) V cv ∧ Fr [g] w (((w.setCell ⟨g, i * 3, none⟩ (.int .i64 (s.reg : Int))).setCell ⟨g, i * 3 + 1, none⟩ (.int .i64 (s.way : Int))).setCell ⟨g, i * 3 + 2, none⟩ (cv h s.reg)) ∧ tg g = (3, h, 0) := by
  have ho := hm.own h hh
  rw [hv] at ho
  have htg : tg g = (3, h, 0) := ho.tag g rfl
  have hf : Fr [g] w (((w.setCell ⟨g, i * 3, none⟩ (.int .i64 (s.reg : Int))).setCell ⟨g, i * 3 + 1, none⟩ (.int .i64 (s.way : Int))).setCell ⟨g, i * 3 + 2, none⟩ (cv h s.reg)) :=
    (((Fr.refl _ _).setCell (p := ⟨g, i * 3, none⟩) (.inl (by simp)) _).setCell (p := ⟨g, i * 3 + 1, none⟩) (.inl (by simp)) _).setCell (p := ⟨g, i * 3 + 2, none⟩) (.inl (by simp)) _
  have h1 := RowAt.set ho.row s hi
  have far : ∀ u : Sr, ∀ b, b ∈ [g] → tg b ≠ (4, h, u.reg) := fun u b hb => by simp at hb; rw [hb, htg]; simp
  have := hm.turn hh (l := (L h).set i s) (c := cv h) hf (fun b hb => by simp at hb; rw [hb]; exact .inl htg) (TgUp.refl _ _) (fun b hb => Nat.lt_of_lt_of_le (hm.tok b hb) hf.size) ⟨by rw [hv]; exact h1, by rw [hv]; exact fun x hx => by injection hx with hx; rw [← hx]; exact htg, fun u hu => by
    rcases List.mem_or_eq_of_mem_set hu with hu | rfl
    · exact (ho.cds u hu).fr hf (far u) (TgUp.refl _ _)
    · exact hs.fr hf (far u) (TgUp.refl _ _)⟩
  rw [putF_same] at this
  exact ⟨this, hf, htg⟩
def Longer (w : World) (tg : Tg) (mb lb per n : Nat) (L : Nat → List Sr) (V : Nat → Value) (h r : Nat) (wc : World) : Prop :=
  ∃ tg' cv' g5 cap5, Ms wc tg' mb lb per n (putF L h (L h ++ [⟨r, 1, []⟩])) (putF V h (.slice (some ⟨g5, 0, none⟩) ((L h).length + 1) cap5)) cv' ∧ Rch w tg wc tg' ∧ cv' h r = .slice none 0 0
theorem flat3_congr {cv cv' : Nat → Value} : ∀ {l : List Sr}, (∀ s, s ∈ l → cv s.reg = cv' s.reg) → flat3 cv l = flat3 cv' l
  | [], _ => rfl
  | a :: r, h => by
    have e : ∀ c, flat3 c (a :: r) = cell3 c a ++ flat3 c r := fun c => by simp [flat3]
    rw [e, e, flat3_congr (l := r) (fun s hs => h s (List.mem_cons_of_mem _ hs))]
    unfold cell3
    rw [h a (by simp)]
theorem Ms.longer {w X w5 : World} {tg : Tg} {mb lb per n : Nat} {L : Nat → List Sr} {V : Nat → Value} {cv : Nat → Nat → Value} (hm : Ms w tg mb lb per n L V cv) {h r : Nat} (hh : h < n) {g5 cap5 : Nat} (hx : Fr [] w X) (hg : X.grownBy w5 (V h).ownBlock)
    (ho : w5.ownsRow 0 79 3 (.slice (some ⟨g5, 0, none⟩) ((L h).length + 1) cap5) ((L h).length + 1) (flat3 (cv h) (L h) ++ [.int .i64 (r : Int), .int .i64 1, .slice none 0 0])) (hat : (V h).ownBlock = some g5 ∨ g5 = X.heap.size) (hlt : g5 < w5.heap.size) (hab : ∀ s, s ∈ L h → s.reg ≠ r) :
    Longer w tg mb lb per n L V h r (w5.setCell ⟨lb, h, none⟩ (.slice (some ⟨g5, 0, none⟩) ((L h).length + 1) cap5)) := by
  have hh0 := hm.own h hh
  have hf : Fr (V h).ownBlock.toList w w5 := (hx.mono (fun x hx => by cases hx)).trans_same (grown_fr hg)
  have hF : ∀ b, b ∈ (V h).ownBlock.toList → tg b = (3, h, 0) := fun b hb => hh0.tag b (by simpa using hb)
  have hu : TgUp w tg (setTg tg g5 (3, h, 0)) := fun b hb => by
    by_cases e : b = g5
    · subst e
      rw [setTg_at]
      rcases hat with h1 | h1
      · exact (hh0.tag _ h1).symm
      · have := hx.size; omega
    · exact setTg_ne _ _ e
  have hto : TgOk w5 (setTg tg g5 (3, h, 0)) := fun b hb => by
    by_cases e : b = g5
    · subst e; exact hlt
    · rw [setTg_ne _ _ e] at hb; exact Nat.lt_of_lt_of_le (hm.tok b hb) hf.size
  refine ⟨setTg tg g5 (3, h, 0), putF cv h (putF (cv h) r (.slice none 0 0)), g5, cap5, ?_, ⟨lb :: (V h).ownBlock.toList, (hf.mono (G := lb :: (V h).ownBlock.toList) fun x hx => .inl (by simp [hx])).setCell (p := ⟨lb, h, none⟩) (.inl (by simp)) _, fun b hb => ?_, hu⟩, by rw [putF_at, putF_at]⟩
  · refine hm.put hh hf (fun b hb => .inl (hF b hb)) hu hto ⟨?_, fun x hx => ?_, fun s hs => ?_⟩
    · have e : flat3 (putF (cv h) r (.slice none 0 0)) (L h ++ [⟨r, 1, []⟩]) = flat3 (cv h) (L h) ++ [.int .i64 (r : Int), .int .i64 1, .slice none 0 0] := by
        have e1 : flat3 (putF (cv h) r (.slice none 0 0)) (L h ++ [⟨r, 1, []⟩]) = flat3 (putF (cv h) r (.slice none 0 0)) (L h) ++ cell3 (putF (cv h) r (.slice none 0 0)) ⟨r, 1, []⟩ := by simp [flat3]
        rw [e1, flat3_congr (fun s hs => putF_ne _ _ (hab s hs))]
        unfold cell3
        simp only [putF_at]
        rfl
      have hl : (L h ++ [⟨r, 1, []⟩] : List Sr).length = (L h).length + 1 := by simp
      refine RowAt.of_owns (base := 0) ?_
      rw [e, hl]; exact ho
    · injection hx with hx
      rw [← hx]; exact setTg_at _ _ _
    · rcases List.mem_append.1 hs with hs | hs
      · rw [putF_ne _ _ (hab s hs)]
        exact (hh0.cds s hs).fr hf (fun b hb => by rw [hF b hb]; simp) hu
      · simp at hs
        subst hs
        show CdAt _ _ _ _ (putF (cv h) r (.slice none 0 0) r)
        rw [putF_at]; exact CdAt.nil _ _ _ _ _
  · rcases List.mem_cons.1 hb with rfl | hb
    · rw [hm.trow]; simp
    · rw [hF b hb]; simp
section
variable {w : World} {tg : Tg} {mb lb per n : Nat} {L : Nat → List Sr} {V : Nat → Value} {cv : Nat → Nat → Value} {σ : RS}
set_option maxRecDepth 100000 in
set_option maxHeartbeats 3200000 in
theorem madd_fresh (hm : Ms w tg mb lb per n L V cv) (ht : Mt per n σ L) {h c : Nat} (hh : h < n) (hc : c < n * per) (hs : ¬ c / per = h) (hno : hasN σ per h c = false) (hf : ¬ fnd (L h) ((c / per : Nat) : Int) < (L h).length) :
    Calls Tryd.prog 25 #[.pointer (some ⟨mb, 0, none⟩), .int .i64 (h : Int), .int .i64 (c : Int)] w (MUpd w tg mb per n (.tuple #[.bool true, .int .i64 0]) (addS σ per n h c)) := by
  have hd := ht.ok.dim
  have hdm := hd.div hc
  have HR := hide (hm.region hd (h : Int))
  rw [decide_eq_true (show 0 ≤ (h : Int) ∧ (h : Int) < (n : Int) by omega)] at HR
  have k0 := hm.c0
  have k1 := hm.c1
  have k2 := hm.c2
  have hp2 := hd.p2
  have hn := hd.n2
  have hp3 := hd.p3
  have hp1 := hd.p1
  have hwN : IntKind.i64.wrap ((n : Int) * (per : Int)) = ((n * per : Nat) : Int) := by rw [← Int.natCast_mul]; exact IntWalk.i64_in _ ⟨by omega, by omega⟩
  have hcd : decide ((c : Int) < 0) = false := decide_eq_false (by omega)
  have hcd1 : decide ((c : Int) ≥ ((n * per : Nat) : Int)) = false := decide_eq_false (by omega)
  have td : (c : Int).tdiv (per : Int) = ((c / per : Nat) : Int) := by rw [Int.tdiv_eq_ediv_of_nonneg (by omega)]; rfl
  have td2 : (c : Int) / (per : Int) = ((c / per : Nat) : Int) := rfl
  have hper0 : ¬ (per : Int) = 0 := by omega
  have hsd : (((c / per : Nat) : Int) == (h : Int)) = false := by rw [beq_eq_false_iff_ne]; omega
  have HF : Hid (∀ i, Calls Tryd.prog 31 #[.pointer (some ⟨mb, 0, none⟩), .int .i64 (h : Int), .int .i64 ((c / per : Nat) : Int)] (w.drewN i) fun e w' => e = .returned (.int .i64 (fndI (L h) ((c / per : Nat) : Int))) ∧ w.drewN i = w') := fun i => mfind_any (hm.fr0 ((Fr.refl _ _).drewN i)) hd hh (ht.len hh) _
  obtain ⟨wy, wn⟩ := way_found ht hh (b := ((c / per : Nat) : Int))
  have HN : Hid (c < n * per ∧ ¬ c / per = h) := ⟨hc, hs⟩
  have HNo := hide hno
  obtain ⟨i0, hi, hz0, hz1, hz2⟩ := info_parts Tryd.info_int
  obtain ⟨j0, hj, hy0, hy1, hy2⟩ := info_parts Tryd.info_src11
  have hw0 := wn hf
  rw [wayI_at] at hw0
  have hE : fndI (L h) ((c / per : Nat) : Int) = -1 := if_neg hf
  rw [hE] at HF
  have HW0 := hide hw0
  have HT := hide ht
  have HAb := hide (ht.absent hh hw0)
  have HOk := hide ht.ok
  have HP3 := hide hp3
  have hlen := ht.len hh
  have HMq : Hid (∀ q, Ms (w.drewN q) tg mb lb per n L V cv) := fun q => hm.fr0 ((Fr.refl _ _).drewN q)
  clear hm ht hd wy wn hw0 hE hno hf hs
  obtain ⟨N, hN⟩ : ∃ N, n * per = N := ⟨_, rfl⟩
  rw [hN] at hwN hcd1 hc hp2
  obtain ⟨d, hd⟩ : ∃ d, c / per = d := ⟨_, rfl⟩
  rw [hd] at td td2 hsd HF hdm HAb HW0
  have HDd := hide hd
  clear hN hd
  go_enter Tryd.func25, Tryd.ntmps25
  go_wp2_with fail
  go_quiet ((go_at_call 30; exact quiet_left (HR.out _)))
  have HM1 := hide (HMq.out nq)
  have HRc1 : Hid (Rch w tg (w.drewN nq) tg) := Rch.fr ((Fr.refl _ _).drewN nq)
  have HF1 := hide (HF.out nq)
  have z1 : (w.drewN nq).cell? ⟨mb, 1, none⟩ = some (.int .i64 (per : Int)) := HM1.out.c1
  have z2 : (w.drewN nq).cell? ⟨mb, 2, none⟩ = some (.slice (some ⟨lb, 0, none⟩) n n) := HM1.out.c2
  clear HMq HF k0 k1 k2
  generalize w.drewN nq = w1 at *
  have ho1 := HM1.out.own h hh
  obtain ⟨A0, c0, hv0⟩ := ho1.row.form
  have zr := HM1.out.cr hh
  rw [hv0] at zr
  have zz := HM1.out.fz h
  have hh1 : (h : Int) < (n : Int) := by omega
  have N0 : mb < w1.heap.size := lt_of_cell z2
  have N1 : lb < w1.heap.size := lt_of_cell zr
  have n0 : mb ≠ lb := fun e => by have h1 := HM1.out.tst; rw [e, HM1.out.trow] at h1; simp at h1
  have HOw := hide ho1.row.owns
  have HK8 : Hid (∀ X w5, Fr [] w1 X → X.grownBy w5 (V h).ownBlock → w5.cell? ⟨mb, 2, none⟩ = some (.slice (some ⟨lb, 0, none⟩) n n) ∧ w5.cell? ⟨lb, h, none⟩ = some (V h) ∧ w5.frozen? ⟨lb, h, none⟩ = false) := fun X w5 hx hg => by
    have hf : Fr (V h).ownBlock.toList w1 w5 := (hx.mono (fun x hx => by cases hx)).trans_same (grown_fr hg)
    have hF : ∀ b, b ∈ (V h).ownBlock.toList → tg b = (3, h, 0) := fun b hb => ho1.tag b (by simpa using hb)
    have f1 : mb ∉ (V h).ownBlock.toList := fun hb => by have := hF _ hb; rw [HM1.out.tst] at this; simp at this
    have f2 : lb ∉ (V h).ownBlock.toList := fun hb => by have := hF _ hb; rw [HM1.out.trow] at this; simp at this
    exact ⟨(hf.cell (p := ⟨mb, 2, none⟩) N0 f1).trans z2, (hf.cell (p := ⟨lb, h, none⟩) N1 f2).trans (HM1.out.cr hh), (hf.frozen (p := ⟨lb, h, none⟩) N1 f2).trans zz⟩
  have HLong : Hid (∀ X w5 g5 cap5, Fr [] w1 X → X.grownBy w5 (V h).ownBlock → w5.ownsRow 0 79 3 (.slice (some ⟨g5, 0, none⟩) ((L h).length + 1) cap5) ((L h).length + 1) (flat3 (cv h) (L h) ++ [.int .i64 (d : Int), .int .i64 1, .slice none 0 0]) → ((V h).ownBlock = some g5 ∨ g5 = X.heap.size) → g5 < w5.heap.size → Longer w1 tg mb lb per n L V h d (w5.setCell ⟨lb, h, none⟩ (.slice (some ⟨g5, 0, none⟩) ((L h).length + 1) cap5))) := fun X w5 g5 cap5 hx hg ho hat hlt => HM1.out.longer hh hx hg ho hat hlt HAb.out
  rw [hv0] at HK8 HLong HOw
  have K08 : Hid (w1.drew.cell? ⟨mb, 2, none⟩ = some (.slice (some ⟨lb, 0, none⟩) n n)) := z2
  have K18 : Hid (∀ o, (w1.alloc o).drew.cell? ⟨mb, 2, none⟩ = some (.slice (some ⟨lb, 0, none⟩) n n)) := fun o => ((((Fr.refl [] w1).alloc o).drew).cell (p := ⟨mb, 2, none⟩) N0 (by simp)).trans z2
  obtain ⟨ll, hll⟩ : ∃ ll, (L h).length = ll := ⟨_, rfl⟩
  rw [hll] at HLong HOw HK8 zr hlen
  have HLl0 := hide hll
  obtain ⟨fl, hfl⟩ : ∃ fl, flat3 (cv h) (L h) = fl := ⟨_, rfl⟩
  rw [hfl] at HLong HOw
  clear hll hfl ho1 hv0
  have HB8 : Hid (ll + 1 ≤ maxLen ∧ (ll + 1) * 40 ≤ 140737488355328) := ⟨by unfold maxLen; omega, by omega⟩
  go_wp2_with (first | (go_at_call 31; refine HF1.out.mono ?_; rintro e w' ⟨rfl, rfl⟩))
  go_cut [] from 47 to 63 (fun wc => ∃ w6, w6 = wc ∧ Longer w1 tg mb lb per n L V h d w6)
  case first =>
    refine wp_region_held_drew (S := fun w' => w'.cell? ⟨mb, 2, none⟩ = some (.slice (some ⟨lb, 0, none⟩) n n)) (by kernel_rfl) (K08.out) (fun hHeld => ?_)
    refine wpAnyH_take (i := 0) (v := ?v0x70) rfl (by kernel_rfl) (by kernel_rfl) (by kernel_rfl) (fun _ _ _ h => h) (Or.inl ⟨by rfl, ?hy0x70⟩) (by assumption) ?rest0x70
    case hy0x70 => (intro w' hSw; (try dsimp only at hSw); (try simp only [List.getElem_toArray, List.getElem_cons_succ, List.getElem_cons_zero]); (first | (go_simp; done) | (go_simp; with_reducible rfl)))
    (try simp only [Act.put, List.getElem_toArray, List.getElem_cons_succ, List.getElem_cons_zero, List.setIfInBounds_toArray, List.set_cons_zero, List.set_cons_succ])
    refine wpAnyH_take (i := 1) (v := ?v1x71) rfl (by kernel_rfl) (by kernel_rfl) (by kernel_rfl) (fun _ _ _ h => h) (Or.inl ⟨by rfl, ?hy1x71⟩) (by assumption) ?rest1x71
    case hy1x71 => (intro w' hSw; (try dsimp only at hSw); (try simp only [List.getElem_toArray, List.getElem_cons_succ, List.getElem_cons_zero]); (first | (go_simp; done) | (go_simp; with_reducible rfl)))
    (try simp only [Act.put, List.getElem_toArray, List.getElem_cons_succ, List.getElem_cons_zero, List.setIfInBounds_toArray, List.set_cons_zero, List.set_cons_succ])
    refine wpAnyH_take (i := 2) (v := ?v2x72) rfl (by kernel_rfl) (by kernel_rfl) (by kernel_rfl) (fun _ _ _ h => h) (Or.inl ⟨by rfl, ?hy2x72⟩) (by assumption) ?rest2x72
    case hy2x72 => (intro w' hSw; (try dsimp only at hSw); (try simp only [List.getElem_toArray, List.getElem_cons_succ, List.getElem_cons_zero]); (first | (go_simp; done) | (go_simp; with_reducible rfl)))
    (try simp only [Act.put, List.getElem_toArray, List.getElem_cons_succ, List.getElem_cons_zero, List.setIfInBounds_toArray, List.set_cons_zero, List.set_cons_succ])
    refine wpAnyH_take (i := 3) (v := ?v3x73) rfl (by kernel_rfl) (by kernel_rfl) (by kernel_rfl) (fun _ _ _ h => h) (Or.inl ⟨by rfl, ?hy3x73⟩) (by assumption) ?rest3x73
    case hy3x73 => (intro w' hSw; (try dsimp only at hSw); (try simp only [List.getElem_toArray, List.getElem_cons_succ, List.getElem_cons_zero]); (first | (go_simp; done) | (go_simp; with_reducible rfl)))
    (try simp only [Act.put, List.getElem_toArray, List.getElem_cons_succ, List.getElem_cons_zero, List.setIfInBounds_toArray, List.set_cons_zero, List.set_cons_succ])
    refine wpAnyH_take (i := 4) (v := ?v4x74) rfl (by kernel_rfl) (by kernel_rfl) (by kernel_rfl) (fun _ _ _ h => h) (Or.inl ⟨by rfl, ?hy4x74⟩) (by assumption) ?rest4x74
    case hy4x74 => (intro w' hSw; (try dsimp only at hSw); (try simp only [List.getElem_toArray, List.getElem_cons_succ, List.getElem_cons_zero]); (first | (go_simp; done) | (go_simp; with_reducible rfl)))
    (try simp only [Act.put, List.getElem_toArray, List.getElem_cons_succ, List.getElem_cons_zero, List.setIfInBounds_toArray, List.set_cons_zero, List.set_cons_succ])
    refine wpAnyH_take (i := 5) (v := ?v5x75) rfl (by kernel_rfl) (by kernel_rfl) (by kernel_rfl) (fun _ _ _ h => h) (Or.inl ⟨by rfl, ?hy5x75⟩) (by assumption) ?rest5x75
    case hy5x75 => (intro w' hSw; (try dsimp only at hSw); (try simp only [List.getElem_toArray, List.getElem_cons_succ, List.getElem_cons_zero]); (first | (go_simp; done) | (go_simp; with_reducible rfl)))
    (try simp only [Act.put, List.getElem_toArray, List.getElem_cons_succ, List.getElem_cons_zero, List.setIfInBounds_toArray, List.set_cons_zero, List.set_cons_succ])
    refine wpAnyH_take (i := 6) (v := ?v6x76) rfl (by kernel_rfl) (by kernel_rfl) (by kernel_rfl) (fun _ _ _ h => h) (Or.inl ⟨by rfl, ?hy6x76⟩) (by assumption) ?rest6x76
    case hy6x76 => (intro w' hSw; (try dsimp only at hSw); (try simp only [List.getElem_toArray, List.getElem_cons_succ, List.getElem_cons_zero]); (first | (go_simp; done) | (go_simp; with_reducible rfl)))
    (try simp only [Act.put, List.getElem_toArray, List.getElem_cons_succ, List.getElem_cons_zero, List.setIfInBounds_toArray, List.set_cons_zero, List.set_cons_succ])
    refine wpAnyH_take (i := 7) (v := ?v7x77) rfl (by kernel_rfl) (by kernel_rfl) (by kernel_rfl) (fun _ _ _ h => h) (Or.inl ⟨by rfl, ?hy7x77⟩) (by assumption) ?rest7x77
    case hy7x77 => (intro w' hSw; (try dsimp only at hSw); (try simp only [List.getElem_toArray, List.getElem_cons_succ, List.getElem_cons_zero]); (first | (go_simp; done) | (go_simp; with_reducible rfl)))
    (try simp only [Act.put, List.getElem_toArray, List.getElem_cons_succ, List.getElem_cons_zero, List.setIfInBounds_toArray, List.set_cons_zero, List.set_cons_succ])
    refine wpAnyH_take (i := 8) (v := ?v8x78) rfl (by kernel_rfl) (by kernel_rfl) (by kernel_rfl) (fun _ _ _ h => h) (Or.inl ⟨by rfl, ?hy8x78⟩) (by assumption) ?rest8x78
    case hy8x78 => (intro w' hSw; (try dsimp only at hSw); (try simp only [List.getElem_toArray, List.getElem_cons_succ, List.getElem_cons_zero]); (first | (go_simp; done) | (go_simp; with_reducible rfl)))
    (try simp only [Act.put, List.getElem_toArray, List.getElem_cons_succ, List.getElem_cons_zero, List.setIfInBounds_toArray, List.set_cons_zero, List.set_cons_succ])
    refine wpAnyH_take (i := 9) (v := ?v9x79) rfl (by kernel_rfl) (by kernel_rfl) (by kernel_rfl) (fun _ _ _ h => h) (Or.inl ⟨by rfl, ?hy9x79⟩) (by assumption) ?rest9x79
    case hy9x79 => (intro w' hSw; (try dsimp only at hSw); (try simp only [List.getElem_toArray, List.getElem_cons_succ, List.getElem_cons_zero]); (first | (go_simp; done) | (go_simp; with_reducible rfl)))
    (try simp only [Act.put, List.getElem_toArray, List.getElem_cons_succ, List.getElem_cons_zero, List.setIfInBounds_toArray, List.set_cons_zero, List.set_cons_succ])
    refine wpAnyH_take (i := 10) (v := ?v10x80) rfl (by kernel_rfl) (by kernel_rfl) (by kernel_rfl) (fun _ _ _ h => h) (Or.inl ⟨by rfl, ?hy10x80⟩) (by assumption) ?rest10x80
    case hy10x80 => (intro w' hSw; (try dsimp only at hSw); (try simp only [List.getElem_toArray, List.getElem_cons_succ, List.getElem_cons_zero]); (first | (go_simp; done) | (go_simp; with_reducible rfl)))
    (try simp only [Act.put, List.getElem_toArray, List.getElem_cons_succ, List.getElem_cons_zero, List.setIfInBounds_toArray, List.set_cons_zero, List.set_cons_succ])
    refine wpAnyH_take (i := 12) (v := ?v12x81) rfl (by kernel_rfl) (by kernel_rfl) (by kernel_rfl) (fun _ _ _ h => h) (Or.inl ⟨by rfl, ?hy12x81⟩) (by assumption) ?rest12x81
    case hy12x81 => (intro w' hSw; (try dsimp only at hSw); (try simp only [List.getElem_toArray, List.getElem_cons_succ, List.getElem_cons_zero]); (first | (go_simp; done) | (go_simp; with_reducible rfl)))
    (try simp only [Act.put, List.getElem_toArray, List.getElem_cons_succ, List.getElem_cons_zero, List.setIfInBounds_toArray, List.set_cons_zero, List.set_cons_succ])
    refine wpAnyH_take (i := 13) (v := ?v13x82) rfl (by kernel_rfl) (by kernel_rfl) (by kernel_rfl) (fun _ _ _ h => h) (Or.inl ⟨by rfl, ?hy13x82⟩) (by assumption) ?rest13x82
    case hy13x82 => (intro w' hSw; (try dsimp only at hSw); (try simp only [List.getElem_toArray, List.getElem_cons_succ, List.getElem_cons_zero]); (first | (go_simp; done) | (go_simp; with_reducible rfl)))
    (try simp only [Act.put, List.getElem_toArray, List.getElem_cons_succ, List.getElem_cons_zero, List.setIfInBounds_toArray, List.set_cons_zero, List.set_cons_succ])
    refine wpAnyH_ready (rs := [11, 14]) (by kernel_rfl) (by simp) ?_
    refine AllReadyH.cons rfl (fun K hK => ?_) (AllReadyH.cons rfl (fun K hK => ?_) AllReadyH.nil)
    · (try simp only [List.getElem_toArray, List.getElem_cons_succ, List.getElem_cons_zero])
      go_simp
      refine hK.out _ _ (K08.out) (fun hHeld => ?_)
      clear hK K
      (try simp only [Act.put, List.setIfInBounds_toArray, List.set_cons_zero, List.set_cons_succ])
      refine wpAnyH_ready (rs := [14]) (by kernel_rfl) (by simp) ?_
      refine AllReadyH.cons rfl (fun K hK => ?_) AllReadyH.nil
      (try simp only [List.getElem_toArray, List.getElem_cons_succ, List.getElem_cons_zero])
      go_simp
      refine hK.out _ _ (K18.out _) (fun hHeld => ?_)
      clear hK K
      (try simp only [Act.put, List.setIfInBounds_toArray, List.set_cons_zero, List.set_cons_succ])
      refine wpAnyH_ready (rs := [15]) (by kernel_rfl) (by simp) ?_
      refine AllReadyH.cons rfl (fun K hK => ?_) AllReadyH.nil
      (try simp only [List.getElem_toArray, List.getElem_cons_succ, List.getElem_cons_zero])
      rw [if_pos (by rfl)]
      refine wp_append_lies _ _ _ 77 rfl 0 79 j0 (.agg #[.int .i64 0, .int .i64 0, .slice none 0 0]) 3 40 Tryd.underlying77 hj hy0 hy1 hy2 rfl (by decide) (.slice A0 ll c0) ll fl rfl (own_fr HOw.out (((Fr.refl [] _).alloc _).drew) (fun _ _ => by simp)) ⟨w1.heap.size, 0, none⟩ 1 1 [.int .i64 (d : Int), .int .i64 1, .slice none 0 0] rfl rfl (three_in ((Blk.new w1 79 #[.int .i64 (d : Int), .int .i64 1, .slice none 0 0]).drew)) (by intro u hu; simp at hu; rcases hu with rfl | rfl | rfl <;> rfl) (by decide) HB8.out.1 HB8.out.2 (Nat.zero_le _) _ rfl ?_
      intro g5 cap5 w5 hown hgr hat hlt
      have HKK := hide (HK8.out _ _ (((Fr.refl [] _).alloc _).drew) hgr)
      have HC5 := hide (HLong.out _ _ _ _ (((Fr.refl [] _).alloc _).drew) hgr hown hat hlt)
      have p2 := HKK.out.1
      have p3 := HKK.out.2.1
      have pz := HKK.out.2.2
      clear hown hgr hat hlt
      refine hK.out _ _ (HKK.out.1) (fun hHeld => ?_)
      clear hK K
      (try simp only [Act.put, List.setIfInBounds_toArray, List.set_cons_zero, List.set_cons_succ])
      refine wpAnyH_take (i := 16) (v := ?v16x83) rfl (by kernel_rfl) (by kernel_rfl) (by kernel_rfl) (fun _ _ _ h => h) (Or.inl ⟨by rfl, ?hy16x83⟩) (by assumption) ?rest16x83
      case hy16x83 => (intro w' hSw; (try dsimp only at hSw); (try simp only [List.getElem_toArray, List.getElem_cons_succ, List.getElem_cons_zero]); (first | (go_simp; done) | (go_simp; with_reducible rfl)))
      (try simp only [Act.put, List.getElem_toArray, List.getElem_cons_succ, List.getElem_cons_zero, List.setIfInBounds_toArray, List.set_cons_zero, List.set_cons_succ])
      refine wpAnyH_ready (rs := [17]) (by kernel_rfl) (by simp) ?_
      refine AllReadyH.cons rfl (fun K hK => ?_) AllReadyH.nil
      (try simp only [List.getElem_toArray, List.getElem_cons_succ, List.getElem_cons_zero])
      go_simp
      refine hK.out _ _ (cell_far HKK.out.1 n0) (fun hHeld => ?_)
      clear hK K
      (try simp only [Act.put, List.setIfInBounds_toArray, List.set_cons_zero, List.set_cons_succ])
      refine wpAnyH_done (by kernel_rfl) ?_ _
      go_wp2_with fail
      go_meet
      case rel => exact ⟨_, rfl, HC5.out⟩
    · (try simp only [List.getElem_toArray, List.getElem_cons_succ, List.getElem_cons_zero])
      go_simp
      refine hK.out _ _ (K18.out _) (fun hHeld => ?_)
      clear hK K
      (try simp only [Act.put, List.setIfInBounds_toArray, List.set_cons_zero, List.set_cons_succ])
      refine wpAnyH_ready (rs := [11]) (by kernel_rfl) (by simp) ?_
      refine AllReadyH.cons rfl (fun K hK => ?_) AllReadyH.nil
      (try simp only [List.getElem_toArray, List.getElem_cons_succ, List.getElem_cons_zero])
      go_simp
      refine hK.out _ _ (K18.out _) (fun hHeld => ?_)
      clear hK K
      (try simp only [Act.put, List.setIfInBounds_toArray, List.set_cons_zero, List.set_cons_succ])
      refine wpAnyH_ready (rs := [15]) (by kernel_rfl) (by simp) ?_
      refine AllReadyH.cons rfl (fun K hK => ?_) AllReadyH.nil
      (try simp only [List.getElem_toArray, List.getElem_cons_succ, List.getElem_cons_zero])
      rw [if_pos (by rfl)]
      refine wp_append_lies _ _ _ 77 rfl 0 79 j0 (.agg #[.int .i64 0, .int .i64 0, .slice none 0 0]) 3 40 Tryd.underlying77 hj hy0 hy1 hy2 rfl (by decide) (.slice A0 ll c0) ll fl rfl (own_fr HOw.out (((Fr.refl [] _).alloc _).drew) (fun _ _ => by simp)) ⟨w1.heap.size, 0, none⟩ 1 1 [.int .i64 (d : Int), .int .i64 1, .slice none 0 0] rfl rfl (three_in ((Blk.new w1 79 #[.int .i64 (d : Int), .int .i64 1, .slice none 0 0]).drew)) (by intro u hu; simp at hu; rcases hu with rfl | rfl | rfl <;> rfl) (by decide) HB8.out.1 HB8.out.2 (Nat.zero_le _) _ rfl ?_
      intro g5 cap5 w5 hown hgr hat hlt
      have HKK := hide (HK8.out _ _ (((Fr.refl [] _).alloc _).drew) hgr)
      have HC5 := hide (HLong.out _ _ _ _ (((Fr.refl [] _).alloc _).drew) hgr hown hat hlt)
      have p2 := HKK.out.1
      have p3 := HKK.out.2.1
      have pz := HKK.out.2.2
      clear hown hgr hat hlt
      refine hK.out _ _ (HKK.out.1) (fun hHeld => ?_)
      clear hK K
      (try simp only [Act.put, List.setIfInBounds_toArray, List.set_cons_zero, List.set_cons_succ])
      refine wpAnyH_take (i := 16) (v := ?v16x84) rfl (by kernel_rfl) (by kernel_rfl) (by kernel_rfl) (fun _ _ _ h => h) (Or.inl ⟨by rfl, ?hy16x84⟩) (by assumption) ?rest16x84
      case hy16x84 => (intro w' hSw; (try dsimp only at hSw); (try simp only [List.getElem_toArray, List.getElem_cons_succ, List.getElem_cons_zero]); (first | (go_simp; done) | (go_simp; with_reducible rfl)))
      (try simp only [Act.put, List.getElem_toArray, List.getElem_cons_succ, List.getElem_cons_zero, List.setIfInBounds_toArray, List.set_cons_zero, List.set_cons_succ])
      refine wpAnyH_ready (rs := [17]) (by kernel_rfl) (by simp) ?_
      refine AllReadyH.cons rfl (fun K hK => ?_) AllReadyH.nil
      (try simp only [List.getElem_toArray, List.getElem_cons_succ, List.getElem_cons_zero])
      go_simp
      refine hK.out _ _ (cell_far HKK.out.1 n0) (fun hHeld => ?_)
      clear hK K
      (try simp only [Act.put, List.setIfInBounds_toArray, List.set_cons_zero, List.set_cons_succ])
      refine wpAnyH_done (by kernel_rfl) ?_ _
      go_wp2_with fail
      go_meet
      case rel => exact ⟨_, rfl, HC5.out⟩
  case rest =>
    obtain ⟨w6, hw6, tg1, cv1, g5, cap5, hm6, hr6, hcv6⟩ := hcut
    subst hw6
    have HM6 := hide hm6
    have HRc6 := hide (HRc1.out.trans hr6)
    have HCv := hide hcv6
    have s2 := hm6.c2
    have sr := hm6.cr hh
    rw [putF_at, HLl0.out] at sr
    have HTg := hide ((hm6.own h hh).tag g5 (by rw [putF_at]; rfl))
    have n1 : mb ≠ g5 := fun e => by have h1 := hm6.tst; rw [e, HTg.out] at h1; simp at h1
    have n2 : lb ≠ g5 := fun e => by have h1 := hm6.trow; rw [e, HTg.out] at h1; simp at h1
    have n3 := n1.symm
    have n4 := n2.symm
    obtain ⟨V1, hV1⟩ : ∃ V1, putF V h (.slice (some ⟨g5, 0, none⟩) ((L h).length + 1) cap5) = V1 := ⟨_, rfl⟩
    have HVh : Hid (V1 h = .slice (some ⟨g5, 0, none⟩) (ll + 1) cap5) := by show _ = _; rw [← hV1, putF_at, HLl0.out]
    rw [hV1, ← ins_end] at HM6
    rw [HLl0.out] at HM6
    clear hm6 hr6 hcv6 hV1 HK8 HLong HOw K08 K18 HB8 z1 z2 zr zz HM1 HRc1 HF1 HR N0 N1 n0
    go_wp2_with fail
    go_loopw [9] (fun i wr => ∃ k : Nat, i = .int .i64 k ∧ k ≤ ll ∧ Ms wr tg1 mb lb per n (putF L h (ins (L h) k ⟨d, 1, []⟩)) V1 cv1 ∧ Rch w tg wr tg1 ∧ ∀ j s, k ≤ j → (L h)[j]? = some s → d < s.reg) (fun i _ => (intOf i).toNat)
    case atStart => exact ⟨ll, by go_num, Nat.le_refl _, HM6.out, HRc6.out, fun j s hj hs => absurd (List.getElem?_eq_some_iff.1 hs).1 (by have := HLl0.out; omega)⟩
    case round =>
      obtain ⟨k, rfl, hk, hmr, hrr, hhi⟩ := hrel
      have HMr := hide hmr
      have HRr := hide hrr
      have HHi := hide hhi
      have r2 := hmr.c2
      have rr := hmr.cr hh
      rw [HVh.out] at rr
      have hlI : (ins (L h) k ⟨d, 1, []⟩).length = ll + 1 := by rw [ins_len _ _ _ (by have := HLl0.out; omega), HLl0.out]
      have hVr : V1 h = .slice (some ⟨g5, 0, none⟩) ((putF L h (ins (L h) k ⟨d, 1, []⟩)) h).length cap5 := by rw [putF_at, hlI]; exact HVh.out
      have HVr := hide hVr
      have hoR := hmr.own h hh
      rw [putF_at] at hoR
      have aI : (ins (L h) k ⟨d, 1, []⟩)[k]? = some ⟨d, 1, []⟩ := ins_at (by have := HLl0.out; omega)
      obtain ⟨gg, cc, hvv, hgl5, hfz5, hc5⟩ := hoR.row.cells aI
      rw [HVh.out] at hvv
      injection hvv with hvv hvl hvc
      clear hvl hvc
      injection hvv with hvv
      injection hvv with hvv
      subst hvv
      clear hmr hrr hhi hlI
      by_cases hgo : ∃ j s, k = j + 1 ∧ (L h)[j]? = some s ∧ d < s.reg
      · obtain ⟨j, s, rfl, hjs, hds⟩ := hgo
        have hjp := ins_prev (x := ⟨d, 1, []⟩) hjs
        obtain ⟨e0, e1, e2⟩ := hc5 _ _ hjp
        obtain ⟨x0, x1, x2⟩ := hc5 _ _ aI
        obtain ⟨A9, c9, hv9⟩ := (hoR.cds s (List.mem_of_getElem? hjp)).form
        have HV9 := hide hv9
        have HCd9 := hide (hoR.cds s (List.mem_of_getElem? hjp))
        rw [hv9] at e2
        rw [HCv.out] at x2
        simp only at x0 x1 x2
        have hij : ((j + 1 : Nat) : Int) - 1 = (j : Int) := by omega
        have hk0 : decide (((j + 1 : Nat) : Int) > 0) = true := decide_eq_true (by omega)
        have hk0' : ((j + 1 : Nat) : Int) > 0 := by omega
        have hreg : decide ((s.reg : Int) > (d : Int)) = true := decide_eq_true (by omega)
        have hreg' : (s.reg : Int) > (d : Int) := by omega
        have hjl : (j : Int) < ((ll + 1 : Nat) : Int) := by omega
        have hil : ((j + 1 : Nat) : Int) < ((ll + 1 : Nat) : Int) := by omega
        have HSl : Hid ((((ins (L h) (j + 1) ⟨d, 1, []⟩).set (j + 1) s).set j ⟨d, 1, []⟩) = ins (L h) j ⟨d, 1, []⟩) := ins_swap hjs
        have HJs := hide hjs
        have HDs := hide hds
        have zA := hfz5 ((j + 1) * 3)
        have zB := hfz5 ((j + 1) * 3 + 1)
        have zC := hfz5 ((j + 1) * 3 + 2)
        have zD := hfz5 (j * 3)
        have zE := hfz5 (j * 3 + 1)
        have zF := hfz5 (j * 3 + 2)
        clear hjs hds hjp aI hc5 hfz5 hoR hv9
        obtain ⟨i, hi9⟩ : ∃ i, j + 1 = i := ⟨_, rfl⟩
        rw [hi9] at hij hk0 hk0' hil x0 x1 x2 zA zB zC hk HSl HHi HMr HVr ⊢
        have HI9 := hide hi9
        clear hi9 hVr
        have HFa : Hid (Fr [] wr (wr.alloc (.cells #[.int .i64 (d : Int), .int .i64 1, .slice none 0 0] 79))) := (Fr.refl _ _).alloc _
        have HXb : Hid (Blk (wr.alloc (.cells #[.int .i64 (d : Int), .int .i64 1, .slice none 0 0] 79)) wr.heap.size 79 #[.int .i64 (d : Int), .int .i64 1, .slice none 0 0]) := Blk.new _ _ _
        have q0 := (HFa.out.cell (p := ⟨g5, j * 3, none⟩) hgl5 (by simp)).trans e0
        have q1 := (HFa.out.cell (p := ⟨g5, j * 3 + 1, none⟩) hgl5 (by simp)).trans e1
        have q2 := (HFa.out.cell (p := ⟨g5, j * 3 + 2, none⟩) hgl5 (by simp)).trans e2
        have y0 := (HFa.out.cell (p := ⟨g5, i * 3, none⟩) hgl5 (by simp)).trans x0
        have y1 := (HFa.out.cell (p := ⟨g5, i * 3 + 1, none⟩) hgl5 (by simp)).trans x1
        have y2 := (HFa.out.cell (p := ⟨g5, i * 3 + 2, none⟩) hgl5 (by simp)).trans x2
        have v0 := (HFa.out.frozen (p := ⟨g5, i * 3, none⟩) hgl5 (by simp)).trans zA
        have v1 := (HFa.out.frozen (p := ⟨g5, i * 3 + 1, none⟩) hgl5 (by simp)).trans zB
        have v2 := (HFa.out.frozen (p := ⟨g5, i * 3 + 2, none⟩) hgl5 (by simp)).trans zC
        have v3 := (HFa.out.frozen (p := ⟨g5, j * 3, none⟩) hgl5 (by simp)).trans zD
        have v4 := (HFa.out.frozen (p := ⟨g5, j * 3 + 1, none⟩) hgl5 (by simp)).trans zE
        have v5 := (HFa.out.frozen (p := ⟨g5, j * 3 + 2, none⟩) hgl5 (by simp)).trans zF
        go_wp2_with fail
        have HMa := hide (HMr.out.fr0 HFa.out)
        have HRa := hide (HRr.out.trans (Rch.fr HFa.out))
        have HCda := hide (HCd9.out.fr HFa.out (fun b hb => by cases hb) (TgUp.refl _ _))
        have HNx : Hid (g5 < wr.heap.size) := hgl5
        clear e0 e1 e2 x0 x1 x2 zA zB zC zD zE zF r2 rr HMr HRr HCd9 HFa hgl5
        generalize wr.alloc (.cells #[.int .i64 (d : Int), .int .i64 1, .slice none 0 0] 79) = wa at *
        obtain ⟨xb, hxb⟩ : ∃ xb, wr.heap.size = xb := ⟨_, rfl⟩
        rw [hxb] at HXb HNx ⊢
        clear hxb
        have r2 := HMa.out.c2
        have rr := HMa.out.cr hh
        rw [HVh.out] at rr
        have hwi : IntKind.i64.wrap ((i : Int) - 1) = (j : Int) := by rw [hij]; exact IntWalk.i64_in _ ⟨by omega, by omega⟩
        have hwj : IntKind.i64.wrap (j : Int) = (j : Int) := IntWalk.i64_in _ ⟨by omega, by omega⟩
        have hjl2 : (j : Int) < (ll : Int) + 1 := by omega
        have hil2 : (i : Int) < (ll : Int) + 1 := by omega
        have hjl3 : j < ll + 1 := by omega
        have hil3 : i < ll + 1 := by omega
        refine region_tail 20 (by kernel_rfl) (by kernel_rfl) ?_
        simp only [List.take_succ_cons, List.take_zero, List.drop_succ_cons, List.drop_zero]
        repeat still_step
        refine wpStill_nil ?_
        go_wp2_with fail
        have hlI : (ins (L h) i ⟨d, 1, []⟩).length = ll + 1 := by rw [ins_len _ _ _ (by have := HLl0.out; omega), HLl0.out]
        obtain ⟨m13, f13, t13⟩ := HMa.out.one (i := i) (s := s) hh HVr.out (by rw [putF_at, hlI]; exact hil3) HCda.out
        rw [HV9.out] at m13 f13
        rw [putF_at, putF_twice] at m13
        have HM13 := hide (m13.fr0 ((Fr.refl [] _).drew))
        have HF13 := hide (f13.drew)
        have hVr13 : V1 h = .slice (some ⟨g5, 0, none⟩) ((putF L h ((ins (L h) i ⟨d, 1, []⟩).set i s)) h).length cap5 := by rw [putF_at, List.length_set, hlI]; exact HVh.out
        have hjp : (ins (L h) i ⟨d, 1, []⟩)[j]? = some s := by rw [← HI9.out]; exact ins_prev HJs.out
        have a13 : ((ins (L h) i ⟨d, 1, []⟩).set i s)[j]? = some s := by rw [List.getElem?_set, if_neg (by have := HI9.out; omega)]; exact hjp
        have ho13 := HM13.out.own h hh
        rw [putF_at] at ho13
        obtain ⟨g13, c13, hv13, hl13, hfz13, hc13⟩ := ho13.row.cells a13
        rw [HVh.out] at hv13
        injection hv13 with hv13 hvl hvc
        clear hvl hvc
        injection hv13 with hv13
        injection hv13 with hv13
        subst hv13
        obtain ⟨e0, e1, e2⟩ := hc13 _ _ a13
        rw [HV9.out] at e2
        have zD := hfz13 (j * 3)
        have zE := hfz13 (j * 3 + 1)
        have zF := hfz13 (j * 3 + 2)
        have HR13 := hide (HRa.out.trans ⟨[g5], HF13.out, (fun b hb => by simp at hb; rw [hb, t13]; simp), TgUp.refl _ _⟩)
        have HX13 := hide (HXb.out.fr HF13.out (by have := HNx.out; simp; omega))
        have HV13 := hide hVr13
        have HL13 : Hid (j < ((putF L h ((ins (L h) i ⟨d, 1, []⟩).set i s)) h).length) := by
          show _
          rw [putF_at, List.length_set, hlI]; exact hjl3
        clear m13 f13 t13 hjp a13 ho13 hc13 hfz13 hVr13 hlI q0 q1 q2 y0 y1 y2 v0 v1 v2 v3 v4 v5 r2 rr HF13 HMa HRa HXb HCda
        generalize (((wa.setCell ⟨g5, i * 3, none⟩ (.int .i64 (s.reg : Int))).setCell ⟨g5, i * 3 + 1, none⟩ (.int .i64 (s.way : Int))).setCell ⟨g5, i * 3 + 2, none⟩ (.slice A9 s.cds.length c9)).drew = wb at *
        have r2 := HM13.out.c2
        have rr := HM13.out.cr hh
        rw [HVh.out] at rr
        have b0 : wb.cell? ⟨xb, 0, none⟩ = some (.int .i64 (d : Int)) := by rw [HX13.out.cell]; rfl
        have b1 : wb.cell? ⟨xb, 1, none⟩ = some (.int .i64 1) := by rw [HX13.out.cell]; rfl
        have b2 : wb.cell? ⟨xb, 2, none⟩ = some (.slice none 0 0) := by rw [HX13.out.cell]; rfl
        refine region_tail 11 (by kernel_rfl) (by kernel_rfl) ?_
        simp only [List.take_succ_cons, List.take_zero, List.drop_succ_cons, List.drop_zero]
        repeat still_step
        refine wpStill_nil ?_
        go_wp2_with fail
        obtain ⟨m14, f14, t14⟩ := HM13.out.one (i := j) (s := ⟨d, 1, []⟩) hh HV13.out HL13.out (by
          show CdAt _ _ _ _ (cv1 h d)
          rw [HCv.out]; exact CdAt.nil _ _ _ _ _)
        simp only at m14 f14
        rw [HCv.out] at m14 f14
        rw [putF_at, putF_twice, HSl.out] at m14
        go_roundw
        case rel => exact ⟨j, by go_num, by omega, m14.fr0 ((Fr.refl [] _).drew), HR13.out.trans ⟨[g5], f14.drew, (fun b hb => by simp at hb; rw [hb, t14]; simp), TgUp.refl _ _⟩, fun a t ha hat => by
          rcases Nat.lt_or_ge a i with h1 | h1
          · obtain rfl : a = j := by have := HI9.out; omega
            rw [Option.some.inj (hat.symm.trans HJs.out)]; exact HDs.out
          · exact HHi.out a t h1 hat⟩
        case measure => have := HI9.out; simp [intOf]; omega
      · obtain ⟨wz, hwz⟩ : ∃ wz, wz = wr := ⟨_, rfl⟩
        subst hwz
        have hx : k = 0 ∨ ∃ j s, k = j + 1 ∧ (L h)[j]? = some s ∧ ¬ d < s.reg := by
          rcases Nat.eq_zero_or_pos k with h0 | h0
          · exact .inl h0
          · have hlt : k - 1 < (L h).length := by have := HLl0.out; omega
            exact .inr ⟨k - 1, _, by omega, List.getElem?_eq_getElem hlt, fun hd => hgo ⟨k - 1, _, by omega, List.getElem?_eq_getElem hlt, hd⟩⟩
        have hlo : ∀ j' s', j' < k → (L h)[j']? = some s' → s'.reg < d := fun j' s' hj' hs' => by
          rcases hx with h0 | ⟨j, s, h1, h2, h3⟩
          · omega
          · have h4 := HAb.out s (List.mem_of_getElem? h2)
            rcases Nat.lt_or_ge j' j with h5 | h5
            · have h6 := List.pairwise_iff_getElem.1 (HT.out.up h hh) j' j (List.getElem?_eq_some_iff.1 hs').1 (List.getElem?_eq_some_iff.1 h2).1 h5
              rw [(List.getElem?_eq_some_iff.1 hs').2, (List.getElem?_eq_some_iff.1 h2).2] at h6
              omega
            · obtain rfl : j' = j := by omega
              rw [Option.some.inj (hs'.symm.trans h2)]; omega
        have hpk : ∃ tgz Lz Vz cvz σz W cs, Hid (Ms wz tgz mb lb per n Lz Vz cvz) ∧ Hid (Ready per n σ σz Lz h c k W cs) ∧ Hid (Rch w tg wz tgz) ∧ Hid (∀ j s, k = j + 1 → (L h)[j]? = some s → (Lz h)[j]? = some s) := by
          have hm0 := HMr.out
          have hw0 := HW0.out
          have hhi0 := HHi.out
          have hne0 : h ≠ c / per := fun e => HN.out.2 e.symm
          rw [← HDd.out] at hm0 hw0 hhi0 hlo
          exact ⟨tg1, _, V1, cv1, _, 1, [], hm0, Ready.fresh HT.out hh (by rw [HDd.out]; exact hdm) hne0 hw0 (by have := HLl0.out; omega) hlo hhi0, HRr.out, fun j s hj hjs => by rw [putF_at, hj]; exact ins_prev hjs⟩
        obtain ⟨tgz, Lz, Vz, cvz, σz, W, cs, HMz, HRd, HRc, HPrev⟩ := hpk
        have hkb : k ≤ 65536 := by omega
        clear hlo HMr HRr HHi HVr hVr hoR aI hgl5 hfz5 hc5 r2 rr hgo HVh HM6 HRc6 HCv s2 sr HTg n1 n2 n3 n4 hk hlen HLl0
        rcases hx with hk0 | ⟨j, s, hkj, hjs, hds⟩
        · have hkz0 : decide ((k : Int) > 0) = false := decide_eq_false (by omega)
          have hkz1 : ¬ (k : Int) > 0 := by omega
          clear hk0

          have a0 := HRd.out.at'
          have hW := HRd.out.way
          have hoz := HMz.out.own h hh
          have hupz := HRd.out.mt.up h hh
          obtain ⟨g, cz, hvz, hgl, hfz, hcells⟩ := hoz.row.cells a0
          obtain ⟨_, e1, e3⟩ := hcells _ _ a0
          try (have e0 := (hcells _ _ HJp.out).1)
          have hcdz := hoz.cds _ (List.mem_of_getElem? a0)
          have htg : tgz g = (3, h, 0) := hoz.tag g (by rw [hvz]; rfl)
          have hkz : k < (Lz h).length := (List.getElem?_eq_some_iff.1 a0).1
          have hlz := HRd.out.mt.len hh
          have hclz : cs.length ≤ 4194304 := by
            rw [HRd.out.mt.cnt hh (List.mem_of_getElem? a0)]
            exact Nat.le_trans (cntS_le _ _ _ _) HP3.out
          have HI := hide (min_any hcdz.1 hclz c)
          rw [show decide (c ∈ (⟨c / per, W, cs⟩ : Sr).cds) = false from decide_eq_false HRd.out.no] at HI
          obtain ⟨A3, c3, hv3⟩ := hcdz.form
          simp only at hv3 e1 e3 HI
          have q2 := HMz.out.c2
          have qr := HMz.out.cr hh
          rw [hvz] at qr
          have fz := hfz (k * 3 + 2)
          have fz1 := hfz (k * 3 + 1)
          have hh1 : (h : Int) < (n : Int) := by omega
          have hk1 : (k : Int) < ((Lz h).length : Int) := by omega
          have hW3 : ((W : Int) == 3) = false := by rw [beq_eq_false_iff_ne]; omega
          have n1 : mb ≠ g := fun e => by have h1 := HMz.out.tst; rw [e, htg] at h1; simp at h1
          have n2 : lb ≠ g := fun e => by have h1 := HMz.out.trow; rw [e, htg] at h1; simp at h1
          have HCd := hide hcdz.1
          have HK : Hid (∀ X w5, Fr [] wz X → X.grownBy w5 (cvz h (c / per)).ownBlock → w5.cell? ⟨mb, 2, none⟩ = some (.slice (some ⟨lb, 0, none⟩) n n) ∧ w5.cell? ⟨lb, h, none⟩ = some (.slice (some ⟨g, 0, none⟩) (Lz h).length cz) ∧ w5.cell? ⟨g, k * 3 + 2, none⟩ = some (cvz h (c / per)) ∧ w5.frozen? ⟨g, k * 3 + 2, none⟩ = false ∧ w5.cell? ⟨g, k * 3 + 1, none⟩ = some (.int .i64 (W : Int)) ∧ w5.frozen? ⟨g, k * 3 + 1, none⟩ = false) := fun X w5 hx hg => by
            have hf : Fr (cvz h (c / per)).ownBlock.toList wz w5 := (hx.mono (fun x hx => by cases hx)).trans_same (grown_fr hg)
            have hF : ∀ b, b ∈ (cvz h (c / per)).ownBlock.toList → tgz b = (4, h, c / per) := fun b hb => hcdz.2 b (by simpa using hb)
            have f1 : mb ∉ (cvz h (c / per)).ownBlock.toList := fun hb => by have := hF _ hb; rw [HMz.out.tst] at this; simp at this
            have f2 : lb ∉ (cvz h (c / per)).ownBlock.toList := fun hb => by have := hF _ hb; rw [HMz.out.trow] at this; simp at this
            have f3 : g ∉ (cvz h (c / per)).ownBlock.toList := fun hb => by have := hF _ hb; rw [htg] at this; simp at this
            exact ⟨(hf.cell (p := ⟨mb, 2, none⟩) (lt_of_cell q2) f1).trans q2, (hf.cell (p := ⟨lb, h, none⟩) (lt_of_cell qr) f2).trans qr, (hf.cell (p := ⟨g, k * 3 + 2, none⟩) hgl f3).trans e3, (hf.frozen (p := ⟨g, k * 3 + 2, none⟩) hgl f3).trans fz, (hf.cell (p := ⟨g, k * 3 + 1, none⟩) hgl f3).trans e1, (hf.frozen (p := ⟨g, k * 3 + 1, none⟩) hgl f3).trans fz1⟩
          have HCard : Hid (∀ X w5 g5 cap5, Fr [] wz X → X.grownBy w5 (cvz h (c / per)).ownBlock → w5.ownsRow 0 3 1 (.slice (some ⟨g5, 0, none⟩) (cs.length + 1) cap5) (cs.length + 1) (nums cs ++ [.int .i64 (c : Int)]) → ((cvz h (c / per)).ownBlock = some g5 ∨ g5 = X.heap.size) → g5 < w5.heap.size → Carded wz tgz mb lb per n Lz Vz h k (c / per) W c cs (w5.setCell ⟨g, k * 3 + 2, none⟩ (.slice (some ⟨g5, 0, none⟩) (cs.length + 1) cap5))) := fun X w5 g5 cap5 hx hg ho hat hlt => HMz.out.card hh hupz hvz a0 hx hg ho hat hlt
          have HZ : Hid (Vz h = .slice (some ⟨g, 0, none⟩) (Lz h).length cz) := hvz
          have HRdy := hide HRd.out
          rw [hv3] at HK HCard HCd HI e3
          clear hoz hupz hcells hcdz hfz hvz a0 hv3 hlz htg
          have N0 : mb < wz.heap.size := lt_of_cell q2
          have N1 : lb < wz.heap.size := lt_of_cell qr
          obtain ⟨cl, hcl⟩ : ∃ cl, cs.length = cl := ⟨_, rfl⟩
          obtain ⟨ll, hll⟩ : ∃ ll, (Lz h).length = ll := ⟨_, rfl⟩
          rw [hcl] at HK HCard HCd HI e3 hclz
          rw [hll] at HK qr hk1 hkz
          have HCl := hide hcl
          have HLl := hide hll
          clear hcl hll
          have K0 : Hid (wz.drew.cell? ⟨mb, 2, none⟩ = some (.slice (some ⟨lb, 0, none⟩) n n) ∧ wz.drew.cell? ⟨lb, h, none⟩ = some (.slice (some ⟨g, 0, none⟩) ll cz)) := ⟨q2, qr⟩
          have K1 : Hid (∀ o, (wz.alloc o).drew.cell? ⟨mb, 2, none⟩ = some (.slice (some ⟨lb, 0, none⟩) n n) ∧ (wz.alloc o).drew.cell? ⟨lb, h, none⟩ = some (.slice (some ⟨g, 0, none⟩) ll cz)) := fun o => ⟨((((Fr.refl [] wz).alloc o).drew).cell (p := ⟨mb, 2, none⟩) N0 (by simp)).trans q2, ((((Fr.refl [] wz).alloc o).drew).cell (p := ⟨lb, h, none⟩) N1 (by simp)).trans qr⟩
          have HB1 : Hid (cl + 1 ≤ maxLen ∧ (cl + 1) * 8 ≤ 140737488355328) := ⟨by unfold maxLen; omega, by omega⟩
          try (have hjl : (j : Int) < (ll : Int) := by omega)
          go_wp2_with (first | (go_at_call 31; refine HF1.out.mono ?_; rintro e w' ⟨rfl, rfl⟩) | (go_at_call 39; refine HI.out.mono ?_; rintro e w' ⟨rfl, rfl⟩))
          go_cut [] from 161 to 184 (fun wc => ∃ w6, w6 = wc ∧ Carded wz tgz mb lb per n Lz Vz h k (c / per) W c cs w6)
          case first =>
            refine wp_region_held_drew (S := fun w' => w'.cell? ⟨mb, 2, none⟩ = some (.slice (some ⟨lb, 0, none⟩) n n) ∧ w'.cell? ⟨lb, h, none⟩ = some (.slice (some ⟨g, 0, none⟩) ll cz)) (by kernel_rfl) (K0.out) (fun hHeld => ?_)
            refine wpAnyH_take (i := 0) (v := ?v0x1) rfl (by kernel_rfl) (by kernel_rfl) (by kernel_rfl) (fun _ _ _ h => h) (Or.inl ⟨by rfl, ?hy0x1⟩) (by assumption) ?rest0x1
            case hy0x1 => (intro w' hSw; (try dsimp only at hSw); (try simp only [List.getElem_toArray, List.getElem_cons_succ, List.getElem_cons_zero]); (first | (go_simp; done) | (go_simp; with_reducible rfl)))
            (try simp only [Act.put, List.getElem_toArray, List.getElem_cons_succ, List.getElem_cons_zero, List.setIfInBounds_toArray, List.set_cons_zero, List.set_cons_succ])
            refine wpAnyH_take (i := 1) (v := ?v1x2) rfl (by kernel_rfl) (by kernel_rfl) (by kernel_rfl) (fun _ _ _ h => h) (Or.inl ⟨by rfl, ?hy1x2⟩) (by assumption) ?rest1x2
            case hy1x2 => (intro w' hSw; (try dsimp only at hSw); (try simp only [List.getElem_toArray, List.getElem_cons_succ, List.getElem_cons_zero]); (first | (go_simp; done) | (go_simp; with_reducible rfl)))
            (try simp only [Act.put, List.getElem_toArray, List.getElem_cons_succ, List.getElem_cons_zero, List.setIfInBounds_toArray, List.set_cons_zero, List.set_cons_succ])
            refine wpAnyH_take (i := 2) (v := ?v2x3) rfl (by kernel_rfl) (by kernel_rfl) (by kernel_rfl) (fun _ _ _ h => h) (Or.inl ⟨by rfl, ?hy2x3⟩) (by assumption) ?rest2x3
            case hy2x3 => (intro w' hSw; (try dsimp only at hSw); (try simp only [List.getElem_toArray, List.getElem_cons_succ, List.getElem_cons_zero]); (first | (go_simp; done) | (go_simp; with_reducible rfl)))
            (try simp only [Act.put, List.getElem_toArray, List.getElem_cons_succ, List.getElem_cons_zero, List.setIfInBounds_toArray, List.set_cons_zero, List.set_cons_succ])
            refine wpAnyH_take (i := 3) (v := ?v3x4) rfl (by kernel_rfl) (by kernel_rfl) (by kernel_rfl) (fun _ _ _ h => h) (Or.inl ⟨by rfl, ?hy3x4⟩) (by assumption) ?rest3x4
            case hy3x4 => (intro w' hSw; (try dsimp only at hSw); (try simp only [List.getElem_toArray, List.getElem_cons_succ, List.getElem_cons_zero]); (first | (go_simp; done) | (go_simp; with_reducible rfl)))
            (try simp only [Act.put, List.getElem_toArray, List.getElem_cons_succ, List.getElem_cons_zero, List.setIfInBounds_toArray, List.set_cons_zero, List.set_cons_succ])
            refine wpAnyH_take (i := 4) (v := ?v4x5) rfl (by kernel_rfl) (by kernel_rfl) (by kernel_rfl) (fun _ _ _ h => h) (Or.inl ⟨by rfl, ?hy4x5⟩) (by assumption) ?rest4x5
            case hy4x5 => (intro w' hSw; (try dsimp only at hSw); (try simp only [List.getElem_toArray, List.getElem_cons_succ, List.getElem_cons_zero]); (first | (go_simp; done) | (go_simp; with_reducible rfl)))
            (try simp only [Act.put, List.getElem_toArray, List.getElem_cons_succ, List.getElem_cons_zero, List.setIfInBounds_toArray, List.set_cons_zero, List.set_cons_succ])
            refine wpAnyH_take (i := 5) (v := ?v5x6) rfl (by kernel_rfl) (by kernel_rfl) (by kernel_rfl) (fun _ _ _ h => h) (Or.inl ⟨by rfl, ?hy5x6⟩) (by assumption) ?rest5x6
            case hy5x6 => (intro w' hSw; (try dsimp only at hSw); (try simp only [List.getElem_toArray, List.getElem_cons_succ, List.getElem_cons_zero]); (first | (go_simp; done) | (go_simp; with_reducible rfl)))
            (try simp only [Act.put, List.getElem_toArray, List.getElem_cons_succ, List.getElem_cons_zero, List.setIfInBounds_toArray, List.set_cons_zero, List.set_cons_succ])
            refine wpAnyH_take (i := 6) (v := ?v6x7) rfl (by kernel_rfl) (by kernel_rfl) (by kernel_rfl) (fun _ _ _ h => h) (Or.inl ⟨by rfl, ?hy6x7⟩) (by assumption) ?rest6x7
            case hy6x7 => (intro w' hSw; (try dsimp only at hSw); (try simp only [List.getElem_toArray, List.getElem_cons_succ, List.getElem_cons_zero]); (first | (go_simp; done) | (go_simp; with_reducible rfl)))
            (try simp only [Act.put, List.getElem_toArray, List.getElem_cons_succ, List.getElem_cons_zero, List.setIfInBounds_toArray, List.set_cons_zero, List.set_cons_succ])
            refine wpAnyH_take (i := 7) (v := ?v7x8) rfl (by kernel_rfl) (by kernel_rfl) (by kernel_rfl) (fun _ _ _ h => h) (Or.inl ⟨by rfl, ?hy7x8⟩) (by assumption) ?rest7x8
            case hy7x8 => (intro w' hSw; (try dsimp only at hSw); (try simp only [List.getElem_toArray, List.getElem_cons_succ, List.getElem_cons_zero]); (first | (go_simp; done) | (go_simp; with_reducible rfl)))
            (try simp only [Act.put, List.getElem_toArray, List.getElem_cons_succ, List.getElem_cons_zero, List.setIfInBounds_toArray, List.set_cons_zero, List.set_cons_succ])
            refine wpAnyH_take (i := 8) (v := ?v8x9) rfl (by kernel_rfl) (by kernel_rfl) (by kernel_rfl) (fun _ _ _ h => h) (Or.inl ⟨by rfl, ?hy8x9⟩) (by assumption) ?rest8x9
            case hy8x9 => (intro w' hSw; (try dsimp only at hSw); (try simp only [List.getElem_toArray, List.getElem_cons_succ, List.getElem_cons_zero]); (first | (go_simp; done) | (go_simp; with_reducible rfl)))
            (try simp only [Act.put, List.getElem_toArray, List.getElem_cons_succ, List.getElem_cons_zero, List.setIfInBounds_toArray, List.set_cons_zero, List.set_cons_succ])
            refine wpAnyH_take (i := 9) (v := ?v9x10) rfl (by kernel_rfl) (by kernel_rfl) (by kernel_rfl) (fun _ _ _ h => h) (Or.inl ⟨by rfl, ?hy9x10⟩) (by assumption) ?rest9x10
            case hy9x10 => (intro w' hSw; (try dsimp only at hSw); (try simp only [List.getElem_toArray, List.getElem_cons_succ, List.getElem_cons_zero]); (first | (go_simp; done) | (go_simp; with_reducible rfl)))
            (try simp only [Act.put, List.getElem_toArray, List.getElem_cons_succ, List.getElem_cons_zero, List.setIfInBounds_toArray, List.set_cons_zero, List.set_cons_succ])
            refine wpAnyH_take (i := 10) (v := ?v10x11) rfl (by kernel_rfl) (by kernel_rfl) (by kernel_rfl) (fun _ _ _ h => h) (Or.inl ⟨by rfl, ?hy10x11⟩) (by assumption) ?rest10x11
            case hy10x11 => (intro w' hSw; (try dsimp only at hSw); (try simp only [List.getElem_toArray, List.getElem_cons_succ, List.getElem_cons_zero]); (first | (go_simp; done) | (go_simp; with_reducible rfl)))
            (try simp only [Act.put, List.getElem_toArray, List.getElem_cons_succ, List.getElem_cons_zero, List.setIfInBounds_toArray, List.set_cons_zero, List.set_cons_succ])
            refine wpAnyH_take (i := 11) (v := ?v11x12) rfl (by kernel_rfl) (by kernel_rfl) (by kernel_rfl) (fun _ _ _ h => h) (Or.inl ⟨by rfl, ?hy11x12⟩) (by assumption) ?rest11x12
            case hy11x12 => (intro w' hSw; (try dsimp only at hSw); (try simp only [List.getElem_toArray, List.getElem_cons_succ, List.getElem_cons_zero]); (first | (go_simp; done) | (go_simp; with_reducible rfl)))
            (try simp only [Act.put, List.getElem_toArray, List.getElem_cons_succ, List.getElem_cons_zero, List.setIfInBounds_toArray, List.set_cons_zero, List.set_cons_succ])
            refine wpAnyH_take (i := 12) (v := ?v12x13) rfl (by kernel_rfl) (by kernel_rfl) (by kernel_rfl) (fun _ _ _ h => h) (Or.inl ⟨by rfl, ?hy12x13⟩) (by assumption) ?rest12x13
            case hy12x13 => (intro w' hSw; (try dsimp only at hSw); (try simp only [List.getElem_toArray, List.getElem_cons_succ, List.getElem_cons_zero]); (first | (go_simp; done) | (go_simp; with_reducible rfl)))
            (try simp only [Act.put, List.getElem_toArray, List.getElem_cons_succ, List.getElem_cons_zero, List.setIfInBounds_toArray, List.set_cons_zero, List.set_cons_succ])
            refine wpAnyH_take (i := 13) (v := ?v13x14) rfl (by kernel_rfl) (by kernel_rfl) (by kernel_rfl) (fun _ _ _ h => h) (Or.inl ⟨by rfl, ?hy13x14⟩) (by assumption) ?rest13x14
            case hy13x14 => (intro w' hSw; (try dsimp only at hSw); (try simp only [List.getElem_toArray, List.getElem_cons_succ, List.getElem_cons_zero]); (first | (go_simp; done) | (go_simp; with_reducible rfl)))
            (try simp only [Act.put, List.getElem_toArray, List.getElem_cons_succ, List.getElem_cons_zero, List.setIfInBounds_toArray, List.set_cons_zero, List.set_cons_succ])
            refine wpAnyH_take (i := 14) (v := ?v14x15) rfl (by kernel_rfl) (by kernel_rfl) (by kernel_rfl) (fun _ _ _ h => h) (Or.inl ⟨by rfl, ?hy14x15⟩) (by assumption) ?rest14x15
            case hy14x15 => (intro w' hSw; (try dsimp only at hSw); (try simp only [List.getElem_toArray, List.getElem_cons_succ, List.getElem_cons_zero]); (first | (go_simp; done) | (go_simp; with_reducible rfl)))
            (try simp only [Act.put, List.getElem_toArray, List.getElem_cons_succ, List.getElem_cons_zero, List.setIfInBounds_toArray, List.set_cons_zero, List.set_cons_succ])
            refine wpAnyH_take (i := 15) (v := ?v15x16) rfl (by kernel_rfl) (by kernel_rfl) (by kernel_rfl) (fun _ _ _ h => h) (Or.inl ⟨by rfl, ?hy15x16⟩) (by assumption) ?rest15x16
            case hy15x16 => (intro w' hSw; (try dsimp only at hSw); (try simp only [List.getElem_toArray, List.getElem_cons_succ, List.getElem_cons_zero]); (first | (go_simp; done) | (go_simp; with_reducible rfl)))
            (try simp only [Act.put, List.getElem_toArray, List.getElem_cons_succ, List.getElem_cons_zero, List.setIfInBounds_toArray, List.set_cons_zero, List.set_cons_succ])
            refine wpAnyH_take (i := 16) (v := ?v16x17) rfl (by kernel_rfl) (by kernel_rfl) (by kernel_rfl) (fun _ _ _ h => h) (Or.inl ⟨by rfl, ?hy16x17⟩) (by assumption) ?rest16x17
            case hy16x17 => (intro w' hSw; (try dsimp only at hSw); (try simp only [List.getElem_toArray, List.getElem_cons_succ, List.getElem_cons_zero]); (first | (go_simp; done) | (go_simp; with_reducible rfl)))
            (try simp only [Act.put, List.getElem_toArray, List.getElem_cons_succ, List.getElem_cons_zero, List.setIfInBounds_toArray, List.set_cons_zero, List.set_cons_succ])
            refine wpAnyH_take (i := 17) (v := ?v17x18) rfl (by kernel_rfl) (by kernel_rfl) (by kernel_rfl) (fun _ _ _ h => h) (Or.inl ⟨by rfl, ?hy17x18⟩) (by assumption) ?rest17x18
            case hy17x18 => (intro w' hSw; (try dsimp only at hSw); (try simp only [List.getElem_toArray, List.getElem_cons_succ, List.getElem_cons_zero]); (first | (go_simp; done) | (go_simp; with_reducible rfl)))
            (try simp only [Act.put, List.getElem_toArray, List.getElem_cons_succ, List.getElem_cons_zero, List.setIfInBounds_toArray, List.set_cons_zero, List.set_cons_succ])
            refine wpAnyH_take (i := 19) (v := ?v19x19) rfl (by kernel_rfl) (by kernel_rfl) (by kernel_rfl) (fun _ _ _ h => h) (Or.inl ⟨by rfl, ?hy19x19⟩) (by assumption) ?rest19x19
            case hy19x19 => (intro w' hSw; (try dsimp only at hSw); (try simp only [List.getElem_toArray, List.getElem_cons_succ, List.getElem_cons_zero]); (first | (go_simp; done) | (go_simp; with_reducible rfl)))
            (try simp only [Act.put, List.getElem_toArray, List.getElem_cons_succ, List.getElem_cons_zero, List.setIfInBounds_toArray, List.set_cons_zero, List.set_cons_succ])
            refine wpAnyH_ready (rs := [18, 20]) (by kernel_rfl) (by simp) ?_
            refine AllReadyH.cons rfl (fun K hK => ?_) (AllReadyH.cons rfl (fun K hK => ?_) AllReadyH.nil)
            · (try simp only [List.getElem_toArray, List.getElem_cons_succ, List.getElem_cons_zero])
              go_simp
              refine hK.out _ _ (K0.out) (fun hHeld => ?_)
              clear hK K
              (try simp only [Act.put, List.setIfInBounds_toArray, List.set_cons_zero, List.set_cons_succ])
              refine wpAnyH_ready (rs := [20]) (by kernel_rfl) (by simp) ?_
              refine AllReadyH.cons rfl (fun K hK => ?_) AllReadyH.nil
              (try simp only [List.getElem_toArray, List.getElem_cons_succ, List.getElem_cons_zero])
              go_simp
              refine hK.out _ _ (K1.out _) (fun hHeld => ?_)
              clear hK K
              (try simp only [Act.put, List.setIfInBounds_toArray, List.set_cons_zero, List.set_cons_succ])
              refine wpAnyH_ready (rs := [21]) (by kernel_rfl) (by simp) ?_
              refine AllReadyH.cons rfl (fun K hK => ?_) AllReadyH.nil
              (try simp only [List.getElem_toArray, List.getElem_cons_succ, List.getElem_cons_zero])
              rw [if_pos (by rfl)]
              refine wp_append_lies _ _ _ 37 rfl 0 3 i0 (.int .i64 0) 1 8 Tryd.underlying37 hi hz0 hz1 hz2 rfl (by decide) (.slice A3 cl c3) cl (nums cs) rfl (own_fr HCd.out (((Fr.refl [] _).alloc _).drew) (fun _ _ => by simp)) ⟨wz.heap.size, 0, none⟩ 1 1 [.int .i64 (c : Int)] rfl rfl (one_in ((Blk.new wz 3 #[.int .i64 (c : Int)]).drew)) (by intro u hu; simp at hu; rcases hu with rfl; rfl) (by decide) HB1.out.1 HB1.out.2 (Nat.zero_le _) _ rfl ?_
              intro g5 cap5 w5 hown hgr hat hlt
              have HKK := hide (HK.out _ _ (((Fr.refl [] _).alloc _).drew) hgr)
              have HC5 := hide (HCard.out _ _ _ _ (((Fr.refl [] _).alloc _).drew) hgr hown hat hlt)
              have p3 := HKK.out.2.2.1
              have pz := HKK.out.2.2.2.1
              clear hown hgr hat hlt
              refine hK.out _ _ ((⟨HKK.out.1, HKK.out.2.1⟩)) (fun hHeld => ?_)
              clear hK K
              (try simp only [Act.put, List.setIfInBounds_toArray, List.set_cons_zero, List.set_cons_succ])
              refine wpAnyH_take (i := 22) (v := ?v22x20) rfl (by kernel_rfl) (by kernel_rfl) (by kernel_rfl) (fun _ _ _ h => h) (Or.inl ⟨by rfl, ?hy22x20⟩) (by assumption) ?rest22x20
              case hy22x20 => (intro w' hSw; (try dsimp only at hSw); (try simp only [List.getElem_toArray, List.getElem_cons_succ, List.getElem_cons_zero]); (first | (go_simp; done) | (go_simp; with_reducible rfl)))
              (try simp only [Act.put, List.getElem_toArray, List.getElem_cons_succ, List.getElem_cons_zero, List.setIfInBounds_toArray, List.set_cons_zero, List.set_cons_succ])
              refine wpAnyH_take (i := 23) (v := ?v23x21) rfl (by kernel_rfl) (by kernel_rfl) (by kernel_rfl) (fun _ _ _ h => h) (Or.inl ⟨by rfl, ?hy23x21⟩) (by assumption) ?rest23x21
              case hy23x21 => (intro w' hSw; (try dsimp only at hSw); (try simp only [List.getElem_toArray, List.getElem_cons_succ, List.getElem_cons_zero]); (first | (go_simp; done) | (go_simp; with_reducible rfl)))
              (try simp only [Act.put, List.getElem_toArray, List.getElem_cons_succ, List.getElem_cons_zero, List.setIfInBounds_toArray, List.set_cons_zero, List.set_cons_succ])
              refine wpAnyH_ready (rs := [24]) (by kernel_rfl) (by simp) ?_
              refine AllReadyH.cons rfl (fun K hK => ?_) AllReadyH.nil
              (try simp only [List.getElem_toArray, List.getElem_cons_succ, List.getElem_cons_zero])
              go_simp
              refine hK.out _ _ ((⟨cell_far HKK.out.1 n1, cell_far HKK.out.2.1 n2⟩)) (fun hHeld => ?_)
              clear hK K
              (try simp only [Act.put, List.setIfInBounds_toArray, List.set_cons_zero, List.set_cons_succ])
              refine wpAnyH_done (by kernel_rfl) ?_ _
              go_wp2_with fail
              go_meet
              case rel => exact ⟨_, rfl, HC5.out⟩
            · (try simp only [List.getElem_toArray, List.getElem_cons_succ, List.getElem_cons_zero])
              go_simp
              refine hK.out _ _ (K1.out _) (fun hHeld => ?_)
              clear hK K
              (try simp only [Act.put, List.setIfInBounds_toArray, List.set_cons_zero, List.set_cons_succ])
              refine wpAnyH_ready (rs := [18]) (by kernel_rfl) (by simp) ?_
              refine AllReadyH.cons rfl (fun K hK => ?_) AllReadyH.nil
              (try simp only [List.getElem_toArray, List.getElem_cons_succ, List.getElem_cons_zero])
              go_simp
              refine hK.out _ _ (K1.out _) (fun hHeld => ?_)
              clear hK K
              (try simp only [Act.put, List.setIfInBounds_toArray, List.set_cons_zero, List.set_cons_succ])
              refine wpAnyH_ready (rs := [21]) (by kernel_rfl) (by simp) ?_
              refine AllReadyH.cons rfl (fun K hK => ?_) AllReadyH.nil
              (try simp only [List.getElem_toArray, List.getElem_cons_succ, List.getElem_cons_zero])
              rw [if_pos (by rfl)]
              refine wp_append_lies _ _ _ 37 rfl 0 3 i0 (.int .i64 0) 1 8 Tryd.underlying37 hi hz0 hz1 hz2 rfl (by decide) (.slice A3 cl c3) cl (nums cs) rfl (own_fr HCd.out (((Fr.refl [] _).alloc _).drew) (fun _ _ => by simp)) ⟨wz.heap.size, 0, none⟩ 1 1 [.int .i64 (c : Int)] rfl rfl (one_in ((Blk.new wz 3 #[.int .i64 (c : Int)]).drew)) (by intro u hu; simp at hu; rcases hu with rfl; rfl) (by decide) HB1.out.1 HB1.out.2 (Nat.zero_le _) _ rfl ?_
              intro g5 cap5 w5 hown hgr hat hlt
              have HKK := hide (HK.out _ _ (((Fr.refl [] _).alloc _).drew) hgr)
              have HC5 := hide (HCard.out _ _ _ _ (((Fr.refl [] _).alloc _).drew) hgr hown hat hlt)
              have p3 := HKK.out.2.2.1
              have pz := HKK.out.2.2.2.1
              clear hown hgr hat hlt
              refine hK.out _ _ ((⟨HKK.out.1, HKK.out.2.1⟩)) (fun hHeld => ?_)
              clear hK K
              (try simp only [Act.put, List.setIfInBounds_toArray, List.set_cons_zero, List.set_cons_succ])
              refine wpAnyH_take (i := 22) (v := ?v22x22) rfl (by kernel_rfl) (by kernel_rfl) (by kernel_rfl) (fun _ _ _ h => h) (Or.inl ⟨by rfl, ?hy22x22⟩) (by assumption) ?rest22x22
              case hy22x22 => (intro w' hSw; (try dsimp only at hSw); (try simp only [List.getElem_toArray, List.getElem_cons_succ, List.getElem_cons_zero]); (first | (go_simp; done) | (go_simp; with_reducible rfl)))
              (try simp only [Act.put, List.getElem_toArray, List.getElem_cons_succ, List.getElem_cons_zero, List.setIfInBounds_toArray, List.set_cons_zero, List.set_cons_succ])
              refine wpAnyH_take (i := 23) (v := ?v23x23) rfl (by kernel_rfl) (by kernel_rfl) (by kernel_rfl) (fun _ _ _ h => h) (Or.inl ⟨by rfl, ?hy23x23⟩) (by assumption) ?rest23x23
              case hy23x23 => (intro w' hSw; (try dsimp only at hSw); (try simp only [List.getElem_toArray, List.getElem_cons_succ, List.getElem_cons_zero]); (first | (go_simp; done) | (go_simp; with_reducible rfl)))
              (try simp only [Act.put, List.getElem_toArray, List.getElem_cons_succ, List.getElem_cons_zero, List.setIfInBounds_toArray, List.set_cons_zero, List.set_cons_succ])
              refine wpAnyH_ready (rs := [24]) (by kernel_rfl) (by simp) ?_
              refine AllReadyH.cons rfl (fun K hK => ?_) AllReadyH.nil
              (try simp only [List.getElem_toArray, List.getElem_cons_succ, List.getElem_cons_zero])
              go_simp
              refine hK.out _ _ ((⟨cell_far HKK.out.1 n1, cell_far HKK.out.2.1 n2⟩)) (fun hHeld => ?_)
              clear hK K
              (try simp only [Act.put, List.setIfInBounds_toArray, List.set_cons_zero, List.set_cons_succ])
              refine wpAnyH_done (by kernel_rfl) ?_ _
              go_wp2_with fail
              go_meet
              case rel => exact ⟨_, rfl, HC5.out⟩
          case rest =>
            obtain ⟨w6, hw6, tg6, cv6, hm6, hr6⟩ := hcut
            subst hw6
            have HM6 := hide hm6
            have HR6 := hide (HRc.out.trans hr6)
            clear hm6 hr6
            have hne : h ≠ c / per := fun e => HN.out.2 e.symm
            have HMt1 := hide (fun W' (hW' : W' = 1 ∨ W' = 2) => HRdy.out.mt1 HOk.out hh HN.out.1 hne hW')
            have ho6 := HM6.out.own h hh
            rw [putF_at] at ho6
            have hkz' : k < (Lz h).length := by rw [HLl.out]; exact hkz
            have a6 : ((Lz h).set k ⟨c / per, W, cs ++ [c]⟩)[k]? = some ⟨c / per, W, cs ++ [c]⟩ := by rw [List.getElem?_set, if_pos rfl, if_pos hkz']
            obtain ⟨g', c', hv6, hgl6, hfz6, hc6⟩ := ho6.row.cells a6
            rw [List.length_set, HZ.out] at hv6
            injection hv6 with hv6 _ _
            injection hv6 with hv6
            injection hv6 with hv6
            subst hv6
            obtain ⟨_, f1, f3⟩ := hc6 _ _ a6
            obtain ⟨A7, c7, hv7⟩ := (ho6.cds _ (List.mem_of_getElem? a6)).form
            have f3' : w6.cell? ⟨g, k * 3 + 2, none⟩ = some (.slice A7 (cl + 1) c7) := by
              rw [f3, hv7, ← HCl.out]; simp
            have f1' : w6.cell? ⟨g, k * 3 + 1, none⟩ = some (.int .i64 (W : Int)) := f1
            have d2 := HM6.out.c2
            have dr := HM6.out.cr hh
            rw [HZ.out, HLl.out] at dr
            have dz := hfz6 (k * 3 + 1)
            have htg6 : tg6 g = (3, h, 0) := ho6.tag g (by rw [HZ.out]; rfl)
            have HTg6 := hide htg6
            have HHas : Hid (W = 2 ↔ σ.way h (c / per) = 2) := HRdy.out.two
            have n3 := n1.symm
            have n4 := n2.symm
            have N6 : mb < w6.heap.size := lt_of_cell d2
            have HA : Hid (addS σ per n h c = if σ.way h (c / per) = 2 then σ.put per h (c / per) 2 (plus σ h c) else if cntS (σ.put per h (c / per) 1 (plus σ h c)) per h (c / per) ≤ 4 then σ.put per h (c / per) 1 (plus σ h c) else coarsen (σ.put per h (c / per) 2 (plus σ h c)) per n h) := rfl
            clear ho6 hc6 f1 f3 hv7 htg6
            by_cases hw2 : W = 2
            · have w21 : ((W : Int) == 1) = false := by rw [beq_eq_false_iff_ne]; omega
              have HA2 : Hid (addS σ per n h c = σ.put per h (c / per) 2 (plus σ h c)) := by have := HA.out; rw [if_pos (HHas.out.1 hw2)] at this; exact this
              have HMt2 := hide (HMt1.out W (.inr hw2))
              have HW2 := hide hw2
              clear a6 hfz6 hw2 HMt1
              go_wp2_with fail
              go_ret2
              rw [HA2.out]
              have h5 := HMt2.out
              rw [show σ.put per h (c / per) W (plus σ h c) = σ.put per h (c / per) 2 (plus σ h c) by rw [HW2.out]] at h5
              exact MUpd.of HR6.out HM6.out h5
            · have hw1 : W = 1 := by omega
              have w21 : ((W : Int) == 1) = true := by rw [beq_iff_eq]; omega
              have hlong : cl + 1 = cntS (σ.put per h (c / per) 1 (plus σ h c)) per h (c / per) := by
                rw [← HCl.out]
                have := HRdy.out
                rw [hw1] at this
                exact this.long HOk.out hh HN.out.1 hne
              have hw2' : ¬ σ.way h (c / per) = 2 := fun e => hw2 (HHas.out.2 e)
              rw [if_neg hw2', ← hlong] at HA
              have HW1 := hide hw1
              clear hlong hw2' hw2 hw1
              by_cases h4 : cl + 1 ≤ 4
              · have h4' : ¬ ((cl : Int) + 1) > 4 := by omega
                have h4'' : decide (((cl : Int) + 1) > 4) = false := decide_eq_false h4'
                rw [if_pos h4] at HA
                have HMt2 := hide (HMt1.out W (.inl HW1.out))
                clear a6 hfz6 HMt1
                go_wp2_with fail
                go_ret2
                rw [HA.out]
                have h5 := HMt2.out
                rw [show σ.put per h (c / per) W (plus σ h c) = σ.put per h (c / per) 1 (plus σ h c) by rw [HW1.out]] at h5
                exact MUpd.of HR6.out HM6.out h5
              · have h4' : ((cl : Int) + 1) > 4 := by omega
                rw [if_neg h4] at HA
                have hup6 := (HMt1.out W (.inl HW1.out))
                have M7 := HM6.out.turn1 hup6 hh (wy := 2) (by rw [HZ.out, putF_at, List.length_set]) (by rw [putF_at]; exact a6)
                have Mt7 := (HMt1.out 2 (.inr rfl)).congr (L' := putF (putF Lz h ((Lz h).set k ⟨c / per, W, cs ++ [c]⟩)) h (((putF Lz h ((Lz h).set k ⟨c / per, W, cs ++ [c]⟩)) h).set k ⟨c / per, 2, cs ++ [c]⟩)) (fun a ha => by
                  by_cases e : a = h
                  · subst e; rw [putF_at, putF_at, putF_at, List.set_set]
                  · rw [putF_ne _ _ e, putF_ne _ _ e, putF_ne _ _ e])
                have HCo := hide (mcoarsen_any M7 Mt7 hh)
                have HR7 : Hid (Rch w tg (w6.setCell ⟨g, k * 3 + 1, none⟩ (.int .i64 ((2 : Nat) : Int))) tg6) := HR6.out.trans ⟨[g], (Fr.refl _ _).setCell (p := ⟨g, k * 3 + 1, none⟩) (.inl (by simp)) _, (fun b hb => by simp at hb; rw [hb, HTg6.out]; simp), TgUp.refl _ _⟩
                rw [show ((2 : Nat) : Int) = 2 from rfl] at HCo HR7
                clear a6 hfz6 HMt1 hup6 M7 Mt7
                go_wp2_with (go_at_call 40; refine HCo.out.mono ?_; rintro e w8 ⟨tg8, F8, rfl, hm8, hf8, ht8, hu8⟩; have HM8 := hide hm8; have HR8 : Hid (Rch w tg w8 tg8) := HR7.out.trans ⟨F8, hf8, ht8, hu8⟩; clear hm8 hf8 ht8 hu8)
                go_ret2
                rw [HA.out]
                obtain ⟨F9, r1, r2, r3⟩ := HR8.out
                exact ⟨tg8, F9, rfl, HM8.out, r1, r2, r3⟩
        · have HJp := hide (HPrev.out j s hkj hjs)
          have hij : (k : Int) - 1 = (j : Int) := by omega
          have hkz0 : decide ((k : Int) > 0) = true := decide_eq_true (by omega)
          have hjb : j ≤ 65536 := by omega
          have hkz1 : (k : Int) > 0 := by omega
          have hreg : decide ((s.reg : Int) > (d : Int)) = false := decide_eq_false (by omega)
          have hreg1 : ¬ (s.reg : Int) > (d : Int) := by omega
          clear hjs hds hkj

          have a0 := HRd.out.at'
          have hW := HRd.out.way
          have hoz := HMz.out.own h hh
          have hupz := HRd.out.mt.up h hh
          obtain ⟨g, cz, hvz, hgl, hfz, hcells⟩ := hoz.row.cells a0
          obtain ⟨_, e1, e3⟩ := hcells _ _ a0
          try (have e0 := (hcells _ _ HJp.out).1)
          have hcdz := hoz.cds _ (List.mem_of_getElem? a0)
          have htg : tgz g = (3, h, 0) := hoz.tag g (by rw [hvz]; rfl)
          have hkz : k < (Lz h).length := (List.getElem?_eq_some_iff.1 a0).1
          have hlz := HRd.out.mt.len hh
          have hclz : cs.length ≤ 4194304 := by
            rw [HRd.out.mt.cnt hh (List.mem_of_getElem? a0)]
            exact Nat.le_trans (cntS_le _ _ _ _) HP3.out
          have HI := hide (min_any hcdz.1 hclz c)
          rw [show decide (c ∈ (⟨c / per, W, cs⟩ : Sr).cds) = false from decide_eq_false HRd.out.no] at HI
          obtain ⟨A3, c3, hv3⟩ := hcdz.form
          simp only at hv3 e1 e3 HI
          have q2 := HMz.out.c2
          have qr := HMz.out.cr hh
          rw [hvz] at qr
          have fz := hfz (k * 3 + 2)
          have fz1 := hfz (k * 3 + 1)
          have hh1 : (h : Int) < (n : Int) := by omega
          have hk1 : (k : Int) < ((Lz h).length : Int) := by omega
          have hW3 : ((W : Int) == 3) = false := by rw [beq_eq_false_iff_ne]; omega
          have n1 : mb ≠ g := fun e => by have h1 := HMz.out.tst; rw [e, htg] at h1; simp at h1
          have n2 : lb ≠ g := fun e => by have h1 := HMz.out.trow; rw [e, htg] at h1; simp at h1
          have HCd := hide hcdz.1
          have HK : Hid (∀ X w5, Fr [] wz X → X.grownBy w5 (cvz h (c / per)).ownBlock → w5.cell? ⟨mb, 2, none⟩ = some (.slice (some ⟨lb, 0, none⟩) n n) ∧ w5.cell? ⟨lb, h, none⟩ = some (.slice (some ⟨g, 0, none⟩) (Lz h).length cz) ∧ w5.cell? ⟨g, k * 3 + 2, none⟩ = some (cvz h (c / per)) ∧ w5.frozen? ⟨g, k * 3 + 2, none⟩ = false ∧ w5.cell? ⟨g, k * 3 + 1, none⟩ = some (.int .i64 (W : Int)) ∧ w5.frozen? ⟨g, k * 3 + 1, none⟩ = false) := fun X w5 hx hg => by
            have hf : Fr (cvz h (c / per)).ownBlock.toList wz w5 := (hx.mono (fun x hx => by cases hx)).trans_same (grown_fr hg)
            have hF : ∀ b, b ∈ (cvz h (c / per)).ownBlock.toList → tgz b = (4, h, c / per) := fun b hb => hcdz.2 b (by simpa using hb)
            have f1 : mb ∉ (cvz h (c / per)).ownBlock.toList := fun hb => by have := hF _ hb; rw [HMz.out.tst] at this; simp at this
            have f2 : lb ∉ (cvz h (c / per)).ownBlock.toList := fun hb => by have := hF _ hb; rw [HMz.out.trow] at this; simp at this
            have f3 : g ∉ (cvz h (c / per)).ownBlock.toList := fun hb => by have := hF _ hb; rw [htg] at this; simp at this
            exact ⟨(hf.cell (p := ⟨mb, 2, none⟩) (lt_of_cell q2) f1).trans q2, (hf.cell (p := ⟨lb, h, none⟩) (lt_of_cell qr) f2).trans qr, (hf.cell (p := ⟨g, k * 3 + 2, none⟩) hgl f3).trans e3, (hf.frozen (p := ⟨g, k * 3 + 2, none⟩) hgl f3).trans fz, (hf.cell (p := ⟨g, k * 3 + 1, none⟩) hgl f3).trans e1, (hf.frozen (p := ⟨g, k * 3 + 1, none⟩) hgl f3).trans fz1⟩
          have HCard : Hid (∀ X w5 g5 cap5, Fr [] wz X → X.grownBy w5 (cvz h (c / per)).ownBlock → w5.ownsRow 0 3 1 (.slice (some ⟨g5, 0, none⟩) (cs.length + 1) cap5) (cs.length + 1) (nums cs ++ [.int .i64 (c : Int)]) → ((cvz h (c / per)).ownBlock = some g5 ∨ g5 = X.heap.size) → g5 < w5.heap.size → Carded wz tgz mb lb per n Lz Vz h k (c / per) W c cs (w5.setCell ⟨g, k * 3 + 2, none⟩ (.slice (some ⟨g5, 0, none⟩) (cs.length + 1) cap5))) := fun X w5 g5 cap5 hx hg ho hat hlt => HMz.out.card hh hupz hvz a0 hx hg ho hat hlt
          have HZ : Hid (Vz h = .slice (some ⟨g, 0, none⟩) (Lz h).length cz) := hvz
          have HRdy := hide HRd.out
          rw [hv3] at HK HCard HCd HI e3
          clear hoz hupz hcells hcdz hfz hvz a0 hv3 hlz htg
          have N0 : mb < wz.heap.size := lt_of_cell q2
          have N1 : lb < wz.heap.size := lt_of_cell qr
          obtain ⟨cl, hcl⟩ : ∃ cl, cs.length = cl := ⟨_, rfl⟩
          obtain ⟨ll, hll⟩ : ∃ ll, (Lz h).length = ll := ⟨_, rfl⟩
          rw [hcl] at HK HCard HCd HI e3 hclz
          rw [hll] at HK qr hk1 hkz
          have HCl := hide hcl
          have HLl := hide hll
          clear hcl hll
          have K0 : Hid (wz.drew.cell? ⟨mb, 2, none⟩ = some (.slice (some ⟨lb, 0, none⟩) n n) ∧ wz.drew.cell? ⟨lb, h, none⟩ = some (.slice (some ⟨g, 0, none⟩) ll cz)) := ⟨q2, qr⟩
          have K1 : Hid (∀ o, (wz.alloc o).drew.cell? ⟨mb, 2, none⟩ = some (.slice (some ⟨lb, 0, none⟩) n n) ∧ (wz.alloc o).drew.cell? ⟨lb, h, none⟩ = some (.slice (some ⟨g, 0, none⟩) ll cz)) := fun o => ⟨((((Fr.refl [] wz).alloc o).drew).cell (p := ⟨mb, 2, none⟩) N0 (by simp)).trans q2, ((((Fr.refl [] wz).alloc o).drew).cell (p := ⟨lb, h, none⟩) N1 (by simp)).trans qr⟩
          have HB1 : Hid (cl + 1 ≤ maxLen ∧ (cl + 1) * 8 ≤ 140737488355328) := ⟨by unfold maxLen; omega, by omega⟩
          try (have hjl : (j : Int) < (ll : Int) := by omega)
          go_wp2_with (first | (go_at_call 31; refine HF1.out.mono ?_; rintro e w' ⟨rfl, rfl⟩) | (go_at_call 39; refine HI.out.mono ?_; rintro e w' ⟨rfl, rfl⟩))
          go_cut [] from 161 to 184 (fun wc => ∃ w6, w6 = wc ∧ Carded wz tgz mb lb per n Lz Vz h k (c / per) W c cs w6)
          case first =>
            refine wp_region_held_drew (S := fun w' => w'.cell? ⟨mb, 2, none⟩ = some (.slice (some ⟨lb, 0, none⟩) n n) ∧ w'.cell? ⟨lb, h, none⟩ = some (.slice (some ⟨g, 0, none⟩) ll cz)) (by kernel_rfl) (K0.out) (fun hHeld => ?_)
            refine wpAnyH_take (i := 0) (v := ?v0x24) rfl (by kernel_rfl) (by kernel_rfl) (by kernel_rfl) (fun _ _ _ h => h) (Or.inl ⟨by rfl, ?hy0x24⟩) (by assumption) ?rest0x24
            case hy0x24 => (intro w' hSw; (try dsimp only at hSw); (try simp only [List.getElem_toArray, List.getElem_cons_succ, List.getElem_cons_zero]); (first | (go_simp; done) | (go_simp; with_reducible rfl)))
            (try simp only [Act.put, List.getElem_toArray, List.getElem_cons_succ, List.getElem_cons_zero, List.setIfInBounds_toArray, List.set_cons_zero, List.set_cons_succ])
            refine wpAnyH_take (i := 1) (v := ?v1x25) rfl (by kernel_rfl) (by kernel_rfl) (by kernel_rfl) (fun _ _ _ h => h) (Or.inl ⟨by rfl, ?hy1x25⟩) (by assumption) ?rest1x25
            case hy1x25 => (intro w' hSw; (try dsimp only at hSw); (try simp only [List.getElem_toArray, List.getElem_cons_succ, List.getElem_cons_zero]); (first | (go_simp; done) | (go_simp; with_reducible rfl)))
            (try simp only [Act.put, List.getElem_toArray, List.getElem_cons_succ, List.getElem_cons_zero, List.setIfInBounds_toArray, List.set_cons_zero, List.set_cons_succ])
            refine wpAnyH_take (i := 2) (v := ?v2x26) rfl (by kernel_rfl) (by kernel_rfl) (by kernel_rfl) (fun _ _ _ h => h) (Or.inl ⟨by rfl, ?hy2x26⟩) (by assumption) ?rest2x26
            case hy2x26 => (intro w' hSw; (try dsimp only at hSw); (try simp only [List.getElem_toArray, List.getElem_cons_succ, List.getElem_cons_zero]); (first | (go_simp; done) | (go_simp; with_reducible rfl)))
            (try simp only [Act.put, List.getElem_toArray, List.getElem_cons_succ, List.getElem_cons_zero, List.setIfInBounds_toArray, List.set_cons_zero, List.set_cons_succ])
            refine wpAnyH_take (i := 3) (v := ?v3x27) rfl (by kernel_rfl) (by kernel_rfl) (by kernel_rfl) (fun _ _ _ h => h) (Or.inl ⟨by rfl, ?hy3x27⟩) (by assumption) ?rest3x27
            case hy3x27 => (intro w' hSw; (try dsimp only at hSw); (try simp only [List.getElem_toArray, List.getElem_cons_succ, List.getElem_cons_zero]); (first | (go_simp; done) | (go_simp; with_reducible rfl)))
            (try simp only [Act.put, List.getElem_toArray, List.getElem_cons_succ, List.getElem_cons_zero, List.setIfInBounds_toArray, List.set_cons_zero, List.set_cons_succ])
            refine wpAnyH_take (i := 4) (v := ?v4x28) rfl (by kernel_rfl) (by kernel_rfl) (by kernel_rfl) (fun _ _ _ h => h) (Or.inl ⟨by rfl, ?hy4x28⟩) (by assumption) ?rest4x28
            case hy4x28 => (intro w' hSw; (try dsimp only at hSw); (try simp only [List.getElem_toArray, List.getElem_cons_succ, List.getElem_cons_zero]); (first | (go_simp; done) | (go_simp; with_reducible rfl)))
            (try simp only [Act.put, List.getElem_toArray, List.getElem_cons_succ, List.getElem_cons_zero, List.setIfInBounds_toArray, List.set_cons_zero, List.set_cons_succ])
            refine wpAnyH_take (i := 5) (v := ?v5x29) rfl (by kernel_rfl) (by kernel_rfl) (by kernel_rfl) (fun _ _ _ h => h) (Or.inl ⟨by rfl, ?hy5x29⟩) (by assumption) ?rest5x29
            case hy5x29 => (intro w' hSw; (try dsimp only at hSw); (try simp only [List.getElem_toArray, List.getElem_cons_succ, List.getElem_cons_zero]); (first | (go_simp; done) | (go_simp; with_reducible rfl)))
            (try simp only [Act.put, List.getElem_toArray, List.getElem_cons_succ, List.getElem_cons_zero, List.setIfInBounds_toArray, List.set_cons_zero, List.set_cons_succ])
            refine wpAnyH_take (i := 6) (v := ?v6x30) rfl (by kernel_rfl) (by kernel_rfl) (by kernel_rfl) (fun _ _ _ h => h) (Or.inl ⟨by rfl, ?hy6x30⟩) (by assumption) ?rest6x30
            case hy6x30 => (intro w' hSw; (try dsimp only at hSw); (try simp only [List.getElem_toArray, List.getElem_cons_succ, List.getElem_cons_zero]); (first | (go_simp; done) | (go_simp; with_reducible rfl)))
            (try simp only [Act.put, List.getElem_toArray, List.getElem_cons_succ, List.getElem_cons_zero, List.setIfInBounds_toArray, List.set_cons_zero, List.set_cons_succ])
            refine wpAnyH_take (i := 7) (v := ?v7x31) rfl (by kernel_rfl) (by kernel_rfl) (by kernel_rfl) (fun _ _ _ h => h) (Or.inl ⟨by rfl, ?hy7x31⟩) (by assumption) ?rest7x31
            case hy7x31 => (intro w' hSw; (try dsimp only at hSw); (try simp only [List.getElem_toArray, List.getElem_cons_succ, List.getElem_cons_zero]); (first | (go_simp; done) | (go_simp; with_reducible rfl)))
            (try simp only [Act.put, List.getElem_toArray, List.getElem_cons_succ, List.getElem_cons_zero, List.setIfInBounds_toArray, List.set_cons_zero, List.set_cons_succ])
            refine wpAnyH_take (i := 8) (v := ?v8x32) rfl (by kernel_rfl) (by kernel_rfl) (by kernel_rfl) (fun _ _ _ h => h) (Or.inl ⟨by rfl, ?hy8x32⟩) (by assumption) ?rest8x32
            case hy8x32 => (intro w' hSw; (try dsimp only at hSw); (try simp only [List.getElem_toArray, List.getElem_cons_succ, List.getElem_cons_zero]); (first | (go_simp; done) | (go_simp; with_reducible rfl)))
            (try simp only [Act.put, List.getElem_toArray, List.getElem_cons_succ, List.getElem_cons_zero, List.setIfInBounds_toArray, List.set_cons_zero, List.set_cons_succ])
            refine wpAnyH_take (i := 9) (v := ?v9x33) rfl (by kernel_rfl) (by kernel_rfl) (by kernel_rfl) (fun _ _ _ h => h) (Or.inl ⟨by rfl, ?hy9x33⟩) (by assumption) ?rest9x33
            case hy9x33 => (intro w' hSw; (try dsimp only at hSw); (try simp only [List.getElem_toArray, List.getElem_cons_succ, List.getElem_cons_zero]); (first | (go_simp; done) | (go_simp; with_reducible rfl)))
            (try simp only [Act.put, List.getElem_toArray, List.getElem_cons_succ, List.getElem_cons_zero, List.setIfInBounds_toArray, List.set_cons_zero, List.set_cons_succ])
            refine wpAnyH_take (i := 10) (v := ?v10x34) rfl (by kernel_rfl) (by kernel_rfl) (by kernel_rfl) (fun _ _ _ h => h) (Or.inl ⟨by rfl, ?hy10x34⟩) (by assumption) ?rest10x34
            case hy10x34 => (intro w' hSw; (try dsimp only at hSw); (try simp only [List.getElem_toArray, List.getElem_cons_succ, List.getElem_cons_zero]); (first | (go_simp; done) | (go_simp; with_reducible rfl)))
            (try simp only [Act.put, List.getElem_toArray, List.getElem_cons_succ, List.getElem_cons_zero, List.setIfInBounds_toArray, List.set_cons_zero, List.set_cons_succ])
            refine wpAnyH_take (i := 11) (v := ?v11x35) rfl (by kernel_rfl) (by kernel_rfl) (by kernel_rfl) (fun _ _ _ h => h) (Or.inl ⟨by rfl, ?hy11x35⟩) (by assumption) ?rest11x35
            case hy11x35 => (intro w' hSw; (try dsimp only at hSw); (try simp only [List.getElem_toArray, List.getElem_cons_succ, List.getElem_cons_zero]); (first | (go_simp; done) | (go_simp; with_reducible rfl)))
            (try simp only [Act.put, List.getElem_toArray, List.getElem_cons_succ, List.getElem_cons_zero, List.setIfInBounds_toArray, List.set_cons_zero, List.set_cons_succ])
            refine wpAnyH_take (i := 12) (v := ?v12x36) rfl (by kernel_rfl) (by kernel_rfl) (by kernel_rfl) (fun _ _ _ h => h) (Or.inl ⟨by rfl, ?hy12x36⟩) (by assumption) ?rest12x36
            case hy12x36 => (intro w' hSw; (try dsimp only at hSw); (try simp only [List.getElem_toArray, List.getElem_cons_succ, List.getElem_cons_zero]); (first | (go_simp; done) | (go_simp; with_reducible rfl)))
            (try simp only [Act.put, List.getElem_toArray, List.getElem_cons_succ, List.getElem_cons_zero, List.setIfInBounds_toArray, List.set_cons_zero, List.set_cons_succ])
            refine wpAnyH_take (i := 13) (v := ?v13x37) rfl (by kernel_rfl) (by kernel_rfl) (by kernel_rfl) (fun _ _ _ h => h) (Or.inl ⟨by rfl, ?hy13x37⟩) (by assumption) ?rest13x37
            case hy13x37 => (intro w' hSw; (try dsimp only at hSw); (try simp only [List.getElem_toArray, List.getElem_cons_succ, List.getElem_cons_zero]); (first | (go_simp; done) | (go_simp; with_reducible rfl)))
            (try simp only [Act.put, List.getElem_toArray, List.getElem_cons_succ, List.getElem_cons_zero, List.setIfInBounds_toArray, List.set_cons_zero, List.set_cons_succ])
            refine wpAnyH_take (i := 14) (v := ?v14x38) rfl (by kernel_rfl) (by kernel_rfl) (by kernel_rfl) (fun _ _ _ h => h) (Or.inl ⟨by rfl, ?hy14x38⟩) (by assumption) ?rest14x38
            case hy14x38 => (intro w' hSw; (try dsimp only at hSw); (try simp only [List.getElem_toArray, List.getElem_cons_succ, List.getElem_cons_zero]); (first | (go_simp; done) | (go_simp; with_reducible rfl)))
            (try simp only [Act.put, List.getElem_toArray, List.getElem_cons_succ, List.getElem_cons_zero, List.setIfInBounds_toArray, List.set_cons_zero, List.set_cons_succ])
            refine wpAnyH_take (i := 15) (v := ?v15x39) rfl (by kernel_rfl) (by kernel_rfl) (by kernel_rfl) (fun _ _ _ h => h) (Or.inl ⟨by rfl, ?hy15x39⟩) (by assumption) ?rest15x39
            case hy15x39 => (intro w' hSw; (try dsimp only at hSw); (try simp only [List.getElem_toArray, List.getElem_cons_succ, List.getElem_cons_zero]); (first | (go_simp; done) | (go_simp; with_reducible rfl)))
            (try simp only [Act.put, List.getElem_toArray, List.getElem_cons_succ, List.getElem_cons_zero, List.setIfInBounds_toArray, List.set_cons_zero, List.set_cons_succ])
            refine wpAnyH_take (i := 16) (v := ?v16x40) rfl (by kernel_rfl) (by kernel_rfl) (by kernel_rfl) (fun _ _ _ h => h) (Or.inl ⟨by rfl, ?hy16x40⟩) (by assumption) ?rest16x40
            case hy16x40 => (intro w' hSw; (try dsimp only at hSw); (try simp only [List.getElem_toArray, List.getElem_cons_succ, List.getElem_cons_zero]); (first | (go_simp; done) | (go_simp; with_reducible rfl)))
            (try simp only [Act.put, List.getElem_toArray, List.getElem_cons_succ, List.getElem_cons_zero, List.setIfInBounds_toArray, List.set_cons_zero, List.set_cons_succ])
            refine wpAnyH_take (i := 17) (v := ?v17x41) rfl (by kernel_rfl) (by kernel_rfl) (by kernel_rfl) (fun _ _ _ h => h) (Or.inl ⟨by rfl, ?hy17x41⟩) (by assumption) ?rest17x41
            case hy17x41 => (intro w' hSw; (try dsimp only at hSw); (try simp only [List.getElem_toArray, List.getElem_cons_succ, List.getElem_cons_zero]); (first | (go_simp; done) | (go_simp; with_reducible rfl)))
            (try simp only [Act.put, List.getElem_toArray, List.getElem_cons_succ, List.getElem_cons_zero, List.setIfInBounds_toArray, List.set_cons_zero, List.set_cons_succ])
            refine wpAnyH_take (i := 19) (v := ?v19x42) rfl (by kernel_rfl) (by kernel_rfl) (by kernel_rfl) (fun _ _ _ h => h) (Or.inl ⟨by rfl, ?hy19x42⟩) (by assumption) ?rest19x42
            case hy19x42 => (intro w' hSw; (try dsimp only at hSw); (try simp only [List.getElem_toArray, List.getElem_cons_succ, List.getElem_cons_zero]); (first | (go_simp; done) | (go_simp; with_reducible rfl)))
            (try simp only [Act.put, List.getElem_toArray, List.getElem_cons_succ, List.getElem_cons_zero, List.setIfInBounds_toArray, List.set_cons_zero, List.set_cons_succ])
            refine wpAnyH_ready (rs := [18, 20]) (by kernel_rfl) (by simp) ?_
            refine AllReadyH.cons rfl (fun K hK => ?_) (AllReadyH.cons rfl (fun K hK => ?_) AllReadyH.nil)
            · (try simp only [List.getElem_toArray, List.getElem_cons_succ, List.getElem_cons_zero])
              go_simp
              refine hK.out _ _ (K0.out) (fun hHeld => ?_)
              clear hK K
              (try simp only [Act.put, List.setIfInBounds_toArray, List.set_cons_zero, List.set_cons_succ])
              refine wpAnyH_ready (rs := [20]) (by kernel_rfl) (by simp) ?_
              refine AllReadyH.cons rfl (fun K hK => ?_) AllReadyH.nil
              (try simp only [List.getElem_toArray, List.getElem_cons_succ, List.getElem_cons_zero])
              go_simp
              refine hK.out _ _ (K1.out _) (fun hHeld => ?_)
              clear hK K
              (try simp only [Act.put, List.setIfInBounds_toArray, List.set_cons_zero, List.set_cons_succ])
              refine wpAnyH_ready (rs := [21]) (by kernel_rfl) (by simp) ?_
              refine AllReadyH.cons rfl (fun K hK => ?_) AllReadyH.nil
              (try simp only [List.getElem_toArray, List.getElem_cons_succ, List.getElem_cons_zero])
              rw [if_pos (by rfl)]
              refine wp_append_lies _ _ _ 37 rfl 0 3 i0 (.int .i64 0) 1 8 Tryd.underlying37 hi hz0 hz1 hz2 rfl (by decide) (.slice A3 cl c3) cl (nums cs) rfl (own_fr HCd.out (((Fr.refl [] _).alloc _).drew) (fun _ _ => by simp)) ⟨wz.heap.size, 0, none⟩ 1 1 [.int .i64 (c : Int)] rfl rfl (one_in ((Blk.new wz 3 #[.int .i64 (c : Int)]).drew)) (by intro u hu; simp at hu; rcases hu with rfl; rfl) (by decide) HB1.out.1 HB1.out.2 (Nat.zero_le _) _ rfl ?_
              intro g5 cap5 w5 hown hgr hat hlt
              have HKK := hide (HK.out _ _ (((Fr.refl [] _).alloc _).drew) hgr)
              have HC5 := hide (HCard.out _ _ _ _ (((Fr.refl [] _).alloc _).drew) hgr hown hat hlt)
              have p3 := HKK.out.2.2.1
              have pz := HKK.out.2.2.2.1
              clear hown hgr hat hlt
              refine hK.out _ _ ((⟨HKK.out.1, HKK.out.2.1⟩)) (fun hHeld => ?_)
              clear hK K
              (try simp only [Act.put, List.setIfInBounds_toArray, List.set_cons_zero, List.set_cons_succ])
              refine wpAnyH_take (i := 22) (v := ?v22x43) rfl (by kernel_rfl) (by kernel_rfl) (by kernel_rfl) (fun _ _ _ h => h) (Or.inl ⟨by rfl, ?hy22x43⟩) (by assumption) ?rest22x43
              case hy22x43 => (intro w' hSw; (try dsimp only at hSw); (try simp only [List.getElem_toArray, List.getElem_cons_succ, List.getElem_cons_zero]); (first | (go_simp; done) | (go_simp; with_reducible rfl)))
              (try simp only [Act.put, List.getElem_toArray, List.getElem_cons_succ, List.getElem_cons_zero, List.setIfInBounds_toArray, List.set_cons_zero, List.set_cons_succ])
              refine wpAnyH_take (i := 23) (v := ?v23x44) rfl (by kernel_rfl) (by kernel_rfl) (by kernel_rfl) (fun _ _ _ h => h) (Or.inl ⟨by rfl, ?hy23x44⟩) (by assumption) ?rest23x44
              case hy23x44 => (intro w' hSw; (try dsimp only at hSw); (try simp only [List.getElem_toArray, List.getElem_cons_succ, List.getElem_cons_zero]); (first | (go_simp; done) | (go_simp; with_reducible rfl)))
              (try simp only [Act.put, List.getElem_toArray, List.getElem_cons_succ, List.getElem_cons_zero, List.setIfInBounds_toArray, List.set_cons_zero, List.set_cons_succ])
              refine wpAnyH_ready (rs := [24]) (by kernel_rfl) (by simp) ?_
              refine AllReadyH.cons rfl (fun K hK => ?_) AllReadyH.nil
              (try simp only [List.getElem_toArray, List.getElem_cons_succ, List.getElem_cons_zero])
              go_simp
              refine hK.out _ _ ((⟨cell_far HKK.out.1 n1, cell_far HKK.out.2.1 n2⟩)) (fun hHeld => ?_)
              clear hK K
              (try simp only [Act.put, List.setIfInBounds_toArray, List.set_cons_zero, List.set_cons_succ])
              refine wpAnyH_done (by kernel_rfl) ?_ _
              go_wp2_with fail
              go_meet
              case rel => exact ⟨_, rfl, HC5.out⟩
            · (try simp only [List.getElem_toArray, List.getElem_cons_succ, List.getElem_cons_zero])
              go_simp
              refine hK.out _ _ (K1.out _) (fun hHeld => ?_)
              clear hK K
              (try simp only [Act.put, List.setIfInBounds_toArray, List.set_cons_zero, List.set_cons_succ])
              refine wpAnyH_ready (rs := [18]) (by kernel_rfl) (by simp) ?_
              refine AllReadyH.cons rfl (fun K hK => ?_) AllReadyH.nil
              (try simp only [List.getElem_toArray, List.getElem_cons_succ, List.getElem_cons_zero])
              go_simp
              refine hK.out _ _ (K1.out _) (fun hHeld => ?_)
              clear hK K
              (try simp only [Act.put, List.setIfInBounds_toArray, List.set_cons_zero, List.set_cons_succ])
              refine wpAnyH_ready (rs := [21]) (by kernel_rfl) (by simp) ?_
              refine AllReadyH.cons rfl (fun K hK => ?_) AllReadyH.nil
              (try simp only [List.getElem_toArray, List.getElem_cons_succ, List.getElem_cons_zero])
              rw [if_pos (by rfl)]
              refine wp_append_lies _ _ _ 37 rfl 0 3 i0 (.int .i64 0) 1 8 Tryd.underlying37 hi hz0 hz1 hz2 rfl (by decide) (.slice A3 cl c3) cl (nums cs) rfl (own_fr HCd.out (((Fr.refl [] _).alloc _).drew) (fun _ _ => by simp)) ⟨wz.heap.size, 0, none⟩ 1 1 [.int .i64 (c : Int)] rfl rfl (one_in ((Blk.new wz 3 #[.int .i64 (c : Int)]).drew)) (by intro u hu; simp at hu; rcases hu with rfl; rfl) (by decide) HB1.out.1 HB1.out.2 (Nat.zero_le _) _ rfl ?_
              intro g5 cap5 w5 hown hgr hat hlt
              have HKK := hide (HK.out _ _ (((Fr.refl [] _).alloc _).drew) hgr)
              have HC5 := hide (HCard.out _ _ _ _ (((Fr.refl [] _).alloc _).drew) hgr hown hat hlt)
              have p3 := HKK.out.2.2.1
              have pz := HKK.out.2.2.2.1
              clear hown hgr hat hlt
              refine hK.out _ _ ((⟨HKK.out.1, HKK.out.2.1⟩)) (fun hHeld => ?_)
              clear hK K
              (try simp only [Act.put, List.setIfInBounds_toArray, List.set_cons_zero, List.set_cons_succ])
              refine wpAnyH_take (i := 22) (v := ?v22x45) rfl (by kernel_rfl) (by kernel_rfl) (by kernel_rfl) (fun _ _ _ h => h) (Or.inl ⟨by rfl, ?hy22x45⟩) (by assumption) ?rest22x45
              case hy22x45 => (intro w' hSw; (try dsimp only at hSw); (try simp only [List.getElem_toArray, List.getElem_cons_succ, List.getElem_cons_zero]); (first | (go_simp; done) | (go_simp; with_reducible rfl)))
              (try simp only [Act.put, List.getElem_toArray, List.getElem_cons_succ, List.getElem_cons_zero, List.setIfInBounds_toArray, List.set_cons_zero, List.set_cons_succ])
              refine wpAnyH_take (i := 23) (v := ?v23x46) rfl (by kernel_rfl) (by kernel_rfl) (by kernel_rfl) (fun _ _ _ h => h) (Or.inl ⟨by rfl, ?hy23x46⟩) (by assumption) ?rest23x46
              case hy23x46 => (intro w' hSw; (try dsimp only at hSw); (try simp only [List.getElem_toArray, List.getElem_cons_succ, List.getElem_cons_zero]); (first | (go_simp; done) | (go_simp; with_reducible rfl)))
              (try simp only [Act.put, List.getElem_toArray, List.getElem_cons_succ, List.getElem_cons_zero, List.setIfInBounds_toArray, List.set_cons_zero, List.set_cons_succ])
              refine wpAnyH_ready (rs := [24]) (by kernel_rfl) (by simp) ?_
              refine AllReadyH.cons rfl (fun K hK => ?_) AllReadyH.nil
              (try simp only [List.getElem_toArray, List.getElem_cons_succ, List.getElem_cons_zero])
              go_simp
              refine hK.out _ _ ((⟨cell_far HKK.out.1 n1, cell_far HKK.out.2.1 n2⟩)) (fun hHeld => ?_)
              clear hK K
              (try simp only [Act.put, List.setIfInBounds_toArray, List.set_cons_zero, List.set_cons_succ])
              refine wpAnyH_done (by kernel_rfl) ?_ _
              go_wp2_with fail
              go_meet
              case rel => exact ⟨_, rfl, HC5.out⟩
          case rest =>
            obtain ⟨w6, hw6, tg6, cv6, hm6, hr6⟩ := hcut
            subst hw6
            have HM6 := hide hm6
            have HR6 := hide (HRc.out.trans hr6)
            clear hm6 hr6
            have hne : h ≠ c / per := fun e => HN.out.2 e.symm
            have HMt1 := hide (fun W' (hW' : W' = 1 ∨ W' = 2) => HRdy.out.mt1 HOk.out hh HN.out.1 hne hW')
            have ho6 := HM6.out.own h hh
            rw [putF_at] at ho6
            have hkz' : k < (Lz h).length := by rw [HLl.out]; exact hkz
            have a6 : ((Lz h).set k ⟨c / per, W, cs ++ [c]⟩)[k]? = some ⟨c / per, W, cs ++ [c]⟩ := by rw [List.getElem?_set, if_pos rfl, if_pos hkz']
            obtain ⟨g', c', hv6, hgl6, hfz6, hc6⟩ := ho6.row.cells a6
            rw [List.length_set, HZ.out] at hv6
            injection hv6 with hv6 _ _
            injection hv6 with hv6
            injection hv6 with hv6
            subst hv6
            obtain ⟨_, f1, f3⟩ := hc6 _ _ a6
            obtain ⟨A7, c7, hv7⟩ := (ho6.cds _ (List.mem_of_getElem? a6)).form
            have f3' : w6.cell? ⟨g, k * 3 + 2, none⟩ = some (.slice A7 (cl + 1) c7) := by
              rw [f3, hv7, ← HCl.out]; simp
            have f1' : w6.cell? ⟨g, k * 3 + 1, none⟩ = some (.int .i64 (W : Int)) := f1
            have d2 := HM6.out.c2
            have dr := HM6.out.cr hh
            rw [HZ.out, HLl.out] at dr
            have dz := hfz6 (k * 3 + 1)
            have htg6 : tg6 g = (3, h, 0) := ho6.tag g (by rw [HZ.out]; rfl)
            have HTg6 := hide htg6
            have HHas : Hid (W = 2 ↔ σ.way h (c / per) = 2) := HRdy.out.two
            have n3 := n1.symm
            have n4 := n2.symm
            have N6 : mb < w6.heap.size := lt_of_cell d2
            have HA : Hid (addS σ per n h c = if σ.way h (c / per) = 2 then σ.put per h (c / per) 2 (plus σ h c) else if cntS (σ.put per h (c / per) 1 (plus σ h c)) per h (c / per) ≤ 4 then σ.put per h (c / per) 1 (plus σ h c) else coarsen (σ.put per h (c / per) 2 (plus σ h c)) per n h) := rfl
            clear ho6 hc6 f1 f3 hv7 htg6
            by_cases hw2 : W = 2
            · have w21 : ((W : Int) == 1) = false := by rw [beq_eq_false_iff_ne]; omega
              have HA2 : Hid (addS σ per n h c = σ.put per h (c / per) 2 (plus σ h c)) := by have := HA.out; rw [if_pos (HHas.out.1 hw2)] at this; exact this
              have HMt2 := hide (HMt1.out W (.inr hw2))
              have HW2 := hide hw2
              clear a6 hfz6 hw2 HMt1
              go_wp2_with fail
              go_ret2
              rw [HA2.out]
              have h5 := HMt2.out
              rw [show σ.put per h (c / per) W (plus σ h c) = σ.put per h (c / per) 2 (plus σ h c) by rw [HW2.out]] at h5
              exact MUpd.of HR6.out HM6.out h5
            · have hw1 : W = 1 := by omega
              have w21 : ((W : Int) == 1) = true := by rw [beq_iff_eq]; omega
              have hlong : cl + 1 = cntS (σ.put per h (c / per) 1 (plus σ h c)) per h (c / per) := by
                rw [← HCl.out]
                have := HRdy.out
                rw [hw1] at this
                exact this.long HOk.out hh HN.out.1 hne
              have hw2' : ¬ σ.way h (c / per) = 2 := fun e => hw2 (HHas.out.2 e)
              rw [if_neg hw2', ← hlong] at HA
              have HW1 := hide hw1
              clear hlong hw2' hw2 hw1
              by_cases h4 : cl + 1 ≤ 4
              · have h4' : ¬ ((cl : Int) + 1) > 4 := by omega
                have h4'' : decide (((cl : Int) + 1) > 4) = false := decide_eq_false h4'
                rw [if_pos h4] at HA
                have HMt2 := hide (HMt1.out W (.inl HW1.out))
                clear a6 hfz6 HMt1
                go_wp2_with fail
                go_ret2
                rw [HA.out]
                have h5 := HMt2.out
                rw [show σ.put per h (c / per) W (plus σ h c) = σ.put per h (c / per) 1 (plus σ h c) by rw [HW1.out]] at h5
                exact MUpd.of HR6.out HM6.out h5
              · have h4' : ((cl : Int) + 1) > 4 := by omega
                rw [if_neg h4] at HA
                have hup6 := (HMt1.out W (.inl HW1.out))
                have M7 := HM6.out.turn1 hup6 hh (wy := 2) (by rw [HZ.out, putF_at, List.length_set]) (by rw [putF_at]; exact a6)
                have Mt7 := (HMt1.out 2 (.inr rfl)).congr (L' := putF (putF Lz h ((Lz h).set k ⟨c / per, W, cs ++ [c]⟩)) h (((putF Lz h ((Lz h).set k ⟨c / per, W, cs ++ [c]⟩)) h).set k ⟨c / per, 2, cs ++ [c]⟩)) (fun a ha => by
                  by_cases e : a = h
                  · subst e; rw [putF_at, putF_at, putF_at, List.set_set]
                  · rw [putF_ne _ _ e, putF_ne _ _ e, putF_ne _ _ e])
                have HCo := hide (mcoarsen_any M7 Mt7 hh)
                have HR7 : Hid (Rch w tg (w6.setCell ⟨g, k * 3 + 1, none⟩ (.int .i64 ((2 : Nat) : Int))) tg6) := HR6.out.trans ⟨[g], (Fr.refl _ _).setCell (p := ⟨g, k * 3 + 1, none⟩) (.inl (by simp)) _, (fun b hb => by simp at hb; rw [hb, HTg6.out]; simp), TgUp.refl _ _⟩
                rw [show ((2 : Nat) : Int) = 2 from rfl] at HCo HR7
                clear a6 hfz6 HMt1 hup6 M7 Mt7
                go_wp2_with (go_at_call 40; refine HCo.out.mono ?_; rintro e w8 ⟨tg8, F8, rfl, hm8, hf8, ht8, hu8⟩; have HM8 := hide hm8; have HR8 : Hid (Rch w tg w8 tg8) := HR7.out.trans ⟨F8, hf8, ht8, hu8⟩; clear hm8 hf8 ht8 hu8)
                go_ret2
                rw [HA.out]
                obtain ⟨F9, r1, r2, r3⟩ := HR8.out
                exact ⟨tg8, F9, rfl, HM8.out, r1, r2, r3⟩
end
end Go.Proofs.YtkbffmmomoeaiaaDoor
