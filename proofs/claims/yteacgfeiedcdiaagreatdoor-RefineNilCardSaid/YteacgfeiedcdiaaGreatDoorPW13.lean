/- gleanerref14.Right: may a plan be laid? -/
import Derived.Test.YteacgfeiedcdiaaGreatDoorPW02
import Derived.Test.YteacgfeiedcdiaaGreatDoorPW12
import Derived.Deep.CutRange
namespace Go.Proofs.YteacgfeiedcdiaaGreatDoor
set_option linter.unusedVariables false
set_option linter.unusedSimpArgs false
set_option maxRecDepth 100000
open Go.RowKit Go.Gl

/-- A thing that may be laid. -/
structure PT.Ok (g : Geo) (n : Nat) (t : PT) : Prop where
  z2 : 2 ≤ t.sz
  zm : (t.sz : Int) ≤ g.max
  big : g.bigB t.sz = (t.st == 4)
  s1 : 1 ≤ t.st
  s4 : t.st ≤ 4
  rf : RefsOk t.rf n
/-- A plan that may be laid. -/
structure Pl.Right (p : Pl) : Prop where
  may : mayB p.c = true
  wd : p.c.geo.words ≤ 4096
  n : p.n ≤ 200
  m : (p.m : Int) ≤ p.c.threads
  t : ∀ i, i < p.n → (p.T i).Ok p.c.geo p.n
  hl : ∀ i, i < p.m → ((p.H i).length : Int) ≤ p.c.roots
  hr : ∀ i, i < p.m → RefsOk (p.H i) p.n
open Classical in
noncomputable def Pl.rightB (p : Pl) : Bool := decide p.Right
theorem Pl.rightB_yes {p : Pl} : p.rightB = true ↔ p.Right := by unfold Pl.rightB; simp
theorem Pl.rightB_no {p : Pl} (h : ¬ p.Right) : p.rightB = false := by unfold Pl.rightB; simpa using h
theorem sz_wrap {t : PT} (h1 : t.rf.length ≤ 9223372036854775807) (h2 : t.dt.length ≤ 9223372036854775807) {Z : Int} (hZ : wrap64 ((1 + t.rf.length + t.dt.length : Nat) : Int) = Z) :
    (¬ Z < 2 → Z = (t.sz : Int)) ∧ ((t.sz : Int) ≤ 9223372036854775807 → Z = (t.sz : Int)) := by
  unfold wrap64 at hZ
  unfold PT.sz
  refine ⟨fun h => ?_, fun h => ?_⟩ <;> omega
/-- Which way the look at a thing goes. -/
theorem thing_ways (g : Geo) (n : Nat) {t : PT} {Z : Int} (hm : g.max ≤ 1048576) (hz1 : ¬ Z < 2 → Z = (t.sz : Int)) (hz2 : (t.sz : Int) ≤ 9223372036854775807 → Z = (t.sz : Int)) {B R : Bool} (hB : g.bigB Z = B) (hR : refsB t.rf n = R) :
    (decide (Z < 2) = true ∧ Hid (¬ t.Ok g n)) ∨ (decide (Z < 2) = false ∧ decide (g.max < Z) = true ∧ Hid (¬ t.Ok g n)) ∨ (decide (Z < 2) = false ∧ decide (g.max < Z) = false ∧ B = true ∧ (t.st == 4) = false ∧ Hid (¬ t.Ok g n)) ∨ (decide (Z < 2) = false ∧ decide (g.max < Z) = false ∧ B = false ∧ t.st = 4 ∧ Hid (¬ t.Ok g n)) ∨
    (decide (Z < 2) = false ∧ decide (g.max < Z) = false ∧ B = true ∧ t.st = 4 ∧ R = false ∧ Hid (¬ t.Ok g n)) ∨ (decide (Z < 2) = false ∧ decide (g.max < Z) = false ∧ B = true ∧ t.st = 4 ∧ R = true ∧ Hid (t.Ok g n)) ∨
    (decide (Z < 2) = false ∧ decide (g.max < Z) = false ∧ B = false ∧ (t.st == 4) = false ∧ decide (t.st < 1) = true ∧ Hid (¬ t.Ok g n)) ∨ (decide (Z < 2) = false ∧ decide (g.max < Z) = false ∧ B = false ∧ (t.st == 4) = false ∧ decide (t.st < 1) = false ∧ decide (4 < t.st) = true ∧ Hid (¬ t.Ok g n)) ∨
    (decide (Z < 2) = false ∧ decide (g.max < Z) = false ∧ B = false ∧ (t.st == 4) = false ∧ decide (t.st < 1) = false ∧ decide (4 < t.st) = false ∧ R = false ∧ Hid (¬ t.Ok g n)) ∨ (decide (Z < 2) = false ∧ decide (g.max < Z) = false ∧ B = false ∧ (t.st == 4) = false ∧ decide (t.st < 1) = false ∧ decide (4 < t.st) = false ∧ R = true ∧ Hid (t.Ok g n)) := by
  unfold Hid
  by_cases h1 : Z < 2
  · exact .inl ⟨decide_eq_true h1, fun o => by have := o.z2; have := o.zm; have := hz2 (by omega); omega⟩
  · have e := hz1 h1
    subst e
    by_cases h2 : g.max < (t.sz : Int)
    · exact .inr (.inl ⟨decide_eq_false h1, decide_eq_true h2, fun o => by have := o.zm; omega⟩)
    · have hst : (t.st == 4) = decide (t.st = 4) := by rw [Bool.eq_iff_iff]; simp
      by_cases h3 : t.st = 4
      · cases B with
        | false => exact .inr (.inr (.inr (.inl ⟨decide_eq_false h1, decide_eq_false h2, rfl, h3, fun o => by have := o.big; rw [hB, h3] at this; simp at this⟩)))
        | true => cases R with
          | false => exact .inr (.inr (.inr (.inr (.inl ⟨decide_eq_false h1, decide_eq_false h2, rfl, h3, rfl, fun o => by have := refsB_yes.2 o.rf; rw [hR] at this; cases this⟩))))
          | true => exact .inr (.inr (.inr (.inr (.inr (.inl ⟨decide_eq_false h1, decide_eq_false h2, rfl, h3, rfl, ⟨by omega, by omega, by rw [hB, h3]; rfl, by omega, by omega, refsB_yes.1 hR⟩⟩)))))
      · cases B with
        | true => exact .inr (.inr (.inl ⟨decide_eq_false h1, decide_eq_false h2, rfl, hst.trans (decide_eq_false h3), fun o => by have := o.big; rw [hB, hst] at this; simp [h3] at this⟩))
        | false =>
          by_cases h4 : t.st < 1
          · exact .inr (.inr (.inr (.inr (.inr (.inr (.inl ⟨decide_eq_false h1, decide_eq_false h2, rfl, hst.trans (decide_eq_false h3), decide_eq_true h4, fun o => by have := o.s1; omega⟩))))))
          · by_cases h5 : 4 < t.st
            · exact .inr (.inr (.inr (.inr (.inr (.inr (.inr (.inl ⟨decide_eq_false h1, decide_eq_false h2, rfl, hst.trans (decide_eq_false h3), decide_eq_false h4, decide_eq_true h5, fun o => by have := o.s4; omega⟩)))))))
            · cases R with
              | false => exact .inr (.inr (.inr (.inr (.inr (.inr (.inr (.inr (.inl ⟨decide_eq_false h1, decide_eq_false h2, rfl, hst.trans (decide_eq_false h3), decide_eq_false h4, decide_eq_false h5, rfl, fun o => by have := refsB_yes.2 o.rf; rw [hR] at this; cases this⟩))))))))
              | true => exact .inr (.inr (.inr (.inr (.inr (.inr (.inr (.inr (.inr ⟨decide_eq_false h1, decide_eq_false h2, rfl, hst.trans (decide_eq_false h3), decide_eq_false h4, decide_eq_false h5, rfl, ⟨by omega, by omega, by rw [hB, hst]; simp [h3], by omega, by omega, refsB_yes.1 hR⟩⟩))))))))
set_option maxHeartbeats 6400000 in
theorem right14_any {W : World} {Q : PA} {p : Pl} (hP : PlAt W Q p) : Calls Tryz.prog 7 #[Q.val p] W fun e w' => e = .returned (.bool p.rightB) ∧ Fr [] W w' := by
  obtain ⟨R, hR⟩ : ∃ R, p.rightB = R := ⟨_, rfl⟩
  have HRB := hide hR
  have HP := hide hP
  have HN := hide hP.nm
  have HM := hide hP.mm
  rw [hR]
  have HG := hide (fun w => r2new_any p.c w)
  clear hP hR
  by_cases hm : mayB p.c = true
  · have HG : Hid (∀ w, Calls Tryz.prog 29 #[p.c.val] w fun e w' => e = .returned (.tuple #[p.c.geo.val, .int .i64 0]) ∧ Fr [] w w') := fun w => (HG.out w).mono fun e w' ⟨h1, h2⟩ => ⟨by rw [h1]; unfold Cfg.ans Cfg.err; rw [if_pos hm, if_pos hm], h2⟩
    have ok := Cfg.geo_ok (mayB_lie hm)
    have HMay := hide hm
    have gmx : p.c.geo.max ≤ 1048576 := Int.min_le_left _ _
    have hrw0 : 0 ≤ p.c.geo.rw := Int.le_of_lt (pw_pos _)
    have hrw1 : p.c.geo.rw ≤ 4194304 := ok.rw_max
    have HOK := hide ok
    obtain ⟨g, hg⟩ : ∃ g, g = p.c.geo := ⟨_, rfl⟩
    rw [← hg] at HG gmx hrw0 hrw1
    have HGE := hide hg
    clear hm ok hg
    unfold Cfg.val Geo.val at HG
    unfold PA.val
    obtain ⟨tA, htA⟩ : ∃ x, x = Q.tA := ⟨_, rfl⟩
    obtain ⟨hA, hhA⟩ : ∃ x, x = Q.hA := ⟨_, rfl⟩
    rw [← htA, ← hhA]
    have HTA := hide htA
    have HHA := hide hhA
    clear htA hhA
    go_enter Tryz.func7, Tryz.ntmps7
    go_wp2_with fail
    refine (HG.out _).mono ?_
    rintro e w1 ⟨rfl, hf⟩
    have B1 := ((Blk.new W 27 _).fr hf (by simp))
    have F1 := ((Fr.refl [] W).alloc _).trans_same hf
    have HF1 := hide F1
    have HB1 := hide B1
    have p3 : w1.cell? ⟨W.heap.size, 3, none⟩ = some (.int .i64 p.c.threads) := B1.cell 3
    have p14 : w1.cell? ⟨W.heap.size, 14, none⟩ = some (.slice tA p.n Q.tc) := B1.cell 14
    have p15 : w1.cell? ⟨W.heap.size, 15, none⟩ = some (.slice hA p.m Q.hc) := B1.cell 15
    have N0 : W.heap.size < w1.heap.size := B1.lt
    clear hf B1 F1
    by_cases hw : 4096 < g.words
    · go_wp2_with fail
      go_ret
      exact ⟨ret_bool (by rw [← HRB.out]; exact (Pl.rightB_no fun r => by have := r.wd; rw [← HGE.out] at this; omega).symm), HF1.out.alloc _⟩
    by_cases hn : (200 : Int) < (p.n : Int)
    · go_wp2_with fail
      go_ret
      exact ⟨ret_bool (by rw [← HRB.out]; exact (Pl.rightB_no fun r => by have := r.n; omega).symm), HF1.out.alloc _⟩
    by_cases hmm : p.c.threads < (p.m : Int)
    · go_wp2_with fail
      go_ret
      exact ⟨ret_bool (by rw [← HRB.out]; exact (Pl.rightB_no fun r => by have := r.m; omega).symm), HF1.out.alloc _⟩
    go_wp2_with fail
    have HB2 := hide (HB1.out.alloc (.cells #[.int .i64 g.words, .int .i64 g.rw, .int .i64 g.cw, .int .i64 g.regions, .int .i64 g.cards, .int .i64 g.max] 76))
    have HG2 : Hid (Blk (w1.alloc (.cells #[.int .i64 g.words, .int .i64 g.rw, .int .i64 g.cw, .int .i64 g.regions, .int .i64 g.cards, .int .i64 g.max] 76)) w1.heap.size 76 g.cells) := Blk.new _ _ _
    have HF2 := hide (HF1.out.alloc (.cells #[.int .i64 g.words, .int .i64 g.rw, .int .i64 g.cw, .int .i64 g.regions, .int .i64 g.cards, .int .i64 g.max] 76))
    have HW : Hid (g.words ≤ 4096 ∧ p.n ≤ 200 ∧ (p.m : Int) ≤ p.c.threads) := ⟨by omega, by omega, by omega⟩
    clear p3 p14 p15 HB1 HF1 HG hw hn hmm
    generalize w1.alloc _ = w2 at *
    generalize w1.heap.size = gb at *
    obtain ⟨pb, hpb⟩ : ∃ pb, pb = W.heap.size := ⟨_, rfl⟩
    rw [← hpb] at HB2 N0 ⊢
    have HPB := hide hpb
    clear hpb w1 N0
    go_loopw [5] (fun i wr => ∃ t : Nat, i = .int .i64 t ∧ t ≤ p.n ∧ (∀ j, j < t → (p.T j).Ok g p.n) ∧ Fr [] w2 wr) (fun i _ => p.n - (intOf i).toNat)
    case atStart => exact ⟨0, rfl, Nat.zero_le _, fun j hj => absurd hj (by omega), Fr.refl _ _⟩
    case round =>
      obtain ⟨t, rfl, ht, hall, hf⟩ := hrel
      have hnb := HN.out
      have HAll := hide hall
      have HF := hide hf
      have B := HB2.out.fr hf (by simp)
      have G := HG2.out.fr hf (by simp)
      have q14 : wr.cell? ⟨pb, 14, none⟩ = some (.slice tA p.n Q.tc) := B.cell 14
      have HPr := hide (HP.out.fr0 (HF2.out.trans_same hf))
      by_cases hlt : t < p.n
      · have hlt1 : (t : Int) < (p.n : Int) := by omega
        have ta := HTA.out.trans (HPr.out.ta (by omega))
        subst ta
        have t0 := HPr.out.t0 t hlt
        have t1 := HPr.out.t1 t hlt
        have t2 := HPr.out.t2 t hlt
        have hways := thing_ways g p.n gmx (sz_wrap (t := p.T t) (HPr.out.rm t hlt) (HPr.out.dm t hlt) rfl).1 (sz_wrap (t := p.T t) (HPr.out.rm t hlt) (HPr.out.dm t hlt) rfl).2 rfl rfl
        have HRf := hide (fun w hw => refs14_any (n := p.n) (c := Q.rc t) ((HPr.out.fr0 (w' := w) hw).rs t hlt) (HPr.out.rm t hlt))
        have HSz := hide (fun w => size14_any (A := Q.rA t) (D := Q.dA t) (c := Q.rc t) (d := Q.dc t) (p.T t).st (HPr.out.rm t hlt) (HPr.out.dm t hlt) w)
        obtain ⟨Z, hZ⟩ : ∃ Z, wrap64 ((1 + (p.T t).rf.length + (p.T t).dt.length : Nat) : Int) = Z := ⟨_, rfl⟩
        rw [hZ] at hways HSz
        have HBg := hide (fun w => r2big_any g Z w hrw0 hrw1)
        obtain ⟨bB, hbB⟩ : ∃ bB, g.bigB Z = bB := ⟨_, rfl⟩
        obtain ⟨rB, hrB⟩ : ∃ rB, refsB (p.T t).rf p.n = rB := ⟨_, rfl⟩
        rw [hbB] at hways HBg
        rw [hrB] at hways HRf
        unfold Geo.val at HBg
        obtain ⟨x, hx⟩ : ∃ x, (p.T t).st = x := ⟨_, rfl⟩
        rw [hx] at hways HSz t0
        clear hZ hbB hrB hx
        go_wp2_with fail
        generalize hw3 : wr.alloc _ = w3
        have hTb : Blk w3 wr.heap.size 62 #[.int .i64 x, .slice (Q.rA t) (p.T t).rf.length (Q.rc t), .slice (Q.dA t) (p.T t).dt.length (Q.dc t)] := hw3 ▸ Blk.new wr 62 _
        have F3 : Hid (Fr [] wr w3) := hw3 ▸ (Fr.refl _ _).alloc _
        have Bq := B.fr F3.out (by simp)
        have Gq := G.fr F3.out (by simp)
        have c0 : ∀ u : Cls (Fr [] w3), u.w.cell? ⟨wr.heap.size, 0, none⟩ = some (.int .i64 x) := fun u => u.cell (hTb.cell 0) (by simp)
        have c1 : ∀ u : Cls (Fr [] w3), u.w.cell? ⟨wr.heap.size, 1, none⟩ = some (.slice (Q.rA t) (p.T t).rf.length (Q.rc t)) := fun u => u.cell (hTb.cell 1) (by simp)
        have c2 : ∀ u : Cls (Fr [] w3), u.w.cell? ⟨wr.heap.size, 2, none⟩ = some (.slice (Q.dA t) (p.T t).dt.length (Q.dc t)) := fun u => u.cell (hTb.cell 2) (by simp)
        have b14 : ∀ u : Cls (Fr [] w3), u.w.cell? ⟨pb, 14, none⟩ = some (.slice (some ⟨Q.tb, Q.to, none⟩) p.n Q.tc) := fun u => u.cell (Bq.cell 14) (by simp)
        have g0 : ∀ u : Cls (Fr [] w3), u.w.cell? ⟨gb, 0, none⟩ = some (.int .i64 g.words) := fun u => u.cell (Gq.cell 0) (by simp)
        have g1 : ∀ u : Cls (Fr [] w3), u.w.cell? ⟨gb, 1, none⟩ = some (.int .i64 g.rw) := fun u => u.cell (Gq.cell 1) (by simp)
        have g2 : ∀ u : Cls (Fr [] w3), u.w.cell? ⟨gb, 2, none⟩ = some (.int .i64 g.cw) := fun u => u.cell (Gq.cell 2) (by simp)
        have g3 : ∀ u : Cls (Fr [] w3), u.w.cell? ⟨gb, 3, none⟩ = some (.int .i64 g.regions) := fun u => u.cell (Gq.cell 3) (by simp)
        have g4 : ∀ u : Cls (Fr [] w3), u.w.cell? ⟨gb, 4, none⟩ = some (.int .i64 g.cards) := fun u => u.cell (Gq.cell 4) (by simp)
        have g5 : ∀ u : Cls (Fr [] w3), u.w.cell? ⟨gb, 5, none⟩ = some (.int .i64 g.max) := fun u => u.cell (Gq.cell 5) (by simp)
        have HRf2 : Hid (∀ u : Cls (Fr [] w3), Calls Tryz.prog 32 #[.slice (Q.rA t) (p.T t).rf.length (Q.rc t), .int .i64 (p.n : Int)] u.w fun e w' => e = .returned (.bool rB) ∧ ∃ u' : Cls (Fr [] w3), w' = u'.w) := fun u => Cls.grow ((HRf.out u.w (F3.out.trans_same u.ok)).mono fun e w' ⟨h1, k, h2⟩ => ⟨h1, by rw [h2]; exact (Fr.refl _ _).drewN k⟩)
        clear hTb Bq Gq HRf hw3 B G hf hall
        refine wp_region_cls (Fr [] w3) (by kernel_rfl) (by kernel_rfl) (Fr.refl _ _).drew ?_
        repeat (go_big_quiet_step ((first | (go_at_call 31; exact Cls.grow (HSz.out _)) | (go_at_call 30; exact Cls.grow (HBg.out _)))))
        refine wpQuiet_nil ?_
        rintro _ ⟨u, rfl⟩
        rcases hways with ⟨h1, HO⟩ | ⟨h1, h2, HO⟩ | ⟨h1, h2, rfl, h3, HO⟩ | ⟨h1, h2, rfl, rfl, HO⟩ | ⟨h1, h2, rfl, rfl, rfl, HO⟩ | ⟨h1, h2, rfl, rfl, rfl, HO⟩ | ⟨h1, h2, rfl, h3, h4, HO⟩ | ⟨h1, h2, rfl, h3, h4, h5, HO⟩ | ⟨h1, h2, rfl, h3, h4, h5, rfl, HO⟩ | ⟨h1, h2, rfl, h3, h4, h5, rfl, HO⟩
        all_goals
          go_wp2_with fail
          refine wp_region_cls (Fr [] w3) (by kernel_rfl) (by kernel_rfl) u.ok.drew ?_
          repeat (go_big_quiet_step ((first | (go_at_call 31; exact Cls.grow (HSz.out _)) | (go_at_call 32; exact HRf2.out _))))
          refine wpQuiet_nil ?_
          rintro _ ⟨u', rfl⟩
          go_wp2_with fail
          first
            | (go_ret
               exact ⟨ret_bool (by rw [← HRB.out]; exact (Pl.rightB_no fun r => HO.out (by have := r.t t hlt; rwa [← HGE.out] at this)).symm), HF2.out.trans_same ((HF.out.trans_same F3.out).trans_same u'.ok)⟩)
            | (go_roundw
               case rel => exact ⟨t + 1, by go_num, by omega, fun j hj => if e : j = t then e ▸ HO.out else HAll.out j (by omega), (HF.out.trans_same F3.out).trans_same u'.ok⟩
               case measure => simp [intOf]; omega)
      · obtain rfl : t = p.n := by omega
        clear B G hall
        have hB2 := HB2.out.fr hf (by simp)
        clear q14
        obtain ⟨w5, hw5⟩ : ∃ w5, w5 = wr := ⟨_, rfl⟩
        subst hw5
        have q14 : w5.cell? ⟨pb, 14, none⟩ = some (.slice tA p.n Q.tc) := hB2.cell 14
        go_wp2_with fail
        go_loopw [8] (fun i wr => ∃ t : Nat, i = .int .i64 t ∧ t ≤ p.m ∧ (∀ j, j < t → ((p.H j).length : Int) ≤ p.c.roots ∧ RefsOk (p.H j) p.n) ∧ Fr [] w5 wr) (fun i _ => p.m - (intOf i).toNat)
        case atStart => exact ⟨0, rfl, Nat.zero_le _, fun j hj => absurd hj (by omega), Fr.refl _ _⟩
        case round =>
          obtain ⟨t, rfl, ht, hall, hf⟩ := hrel
          have hmb := HM.out
          have HAll2 := hide hall
          have HF5 := hide hf
          have B := hB2.fr hf (by simp)
          have q4 : wr.cell? ⟨pb, 4, none⟩ = some (.int .i64 p.c.roots) := B.cell 4
          have q14 : wr.cell? ⟨pb, 14, none⟩ = some (.slice tA p.n Q.tc) := B.cell 14
          have q15 : wr.cell? ⟨pb, 15, none⟩ = some (.slice hA p.m Q.hc) := B.cell 15
          have HFw := hide (HF2.out.trans_same (HF.out.trans_same hf))
          have hPr := HP.out.fr0 HFw.out
          by_cases hlt : t < p.m
          · have hlt1 : (t : Int) < (p.m : Int) := by omega
            have ha := HHA.out.trans (hPr.ha (by omega))
            subst ha
            have h0 := hPr.h0 t hlt
            have HLm := hide (hPr.lm t hlt)
            have HRf : Hid (∀ q, Calls Tryz.prog 32 #[.slice (Q.lA t) (p.H t).length (Q.lc t), .int .i64 (p.n : Int)] (wr.drewN q) fun e w' => e = .returned (.bool (refsB (p.H t) p.n)) ∧ ∃ k, w' = (wr.drewN q).drewN k) := fun q => refs14_any ((hPr.fr0 ((Fr.refl _ _).drewN q)).ls t hlt) (hPr.lm t hlt)
            obtain ⟨rB, hrB⟩ : ∃ rB, refsB (p.H t) p.n = rB := ⟨_, rfl⟩
            rw [hrB] at HRf
            have HRB2 := hide hrB
            obtain ⟨ln, hln⟩ : ∃ ln, (p.H t).length = ln := ⟨_, rfl⟩
            rw [hln] at HRf h0
            have HLn := hide hln
            clear hPr hrB hln B hf hall
            by_cases hgt : p.c.roots < (ln : Int)
            · have hgt1 : decide (p.c.roots < (ln : Int)) = true := decide_eq_true hgt
              go_wp2_with fail
              go_quiet (fail)
              go_wp2
              go_ret
              exact ⟨ret_bool (by rw [← HRB.out]; exact (Pl.rightB_no fun r => by have := r.hl t hlt; rw [HLn.out] at this; omega).symm), HFw.out.trans_same ((Fr.refl _ _).drewN _)⟩
            · have hgt1 : decide (p.c.roots < (ln : Int)) = false := decide_eq_false hgt
              cases rB with
              | false =>
                go_wp2_with fail
                go_quiet ((go_at_call 32; exact Calls.quiet_of (HRf.out _)))
                go_wp2
                go_ret
                exact ⟨ret_bool (by rw [← HRB.out]; exact (Pl.rightB_no fun r => by have := refsB_yes.2 (r.hr t hlt); rw [HRB2.out] at this; cases this).symm), HFw.out.trans_same ((Fr.refl _ _).drewN _)⟩
              | true =>
                go_wp2_with fail
                go_quiet ((go_at_call 32; exact Calls.quiet_of (HRf.out _)))
                go_wp2
                go_roundw
                case rel =>
                  refine ⟨t + 1, by go_num, by omega, fun j hj => ?_, HF5.out.trans_same ((Fr.refl _ _).drewN _)⟩
                  by_cases e : j = t
                  · subst e; exact ⟨by rw [HLn.out]; omega, refsB_yes.1 HRB2.out⟩
                  · exact HAll2.out j (by omega)
                case measure => simp [intOf]; omega
          · obtain rfl : t = p.m := by omega
            go_wp2_with fail
            go_ret
            exact ⟨ret_bool (by
              rw [← HRB.out]
              exact (Pl.rightB_yes.2 ⟨HMay.out, by rw [← HGE.out]; exact HW.out.1, HW.out.2.1, HW.out.2.2, fun i hi => by rw [← HGE.out]; exact HAll.out i hi, fun i hi => (HAll2.out i hi).1, fun i hi => (HAll2.out i hi).2⟩).symm), HFw.out⟩
  · have HG : Hid (∀ w, Calls Tryz.prog 29 #[p.c.val] w fun e w' => e = .returned (.tuple #[.agg #[.int .i64 0, .int .i64 0, .int .i64 0, .int .i64 0, .int .i64 0, .int .i64 0], .int .i64 20]) ∧ Fr [] w w') := fun w => (HG.out w).mono fun e w' ⟨h1, h2⟩ => ⟨by rw [h1]; unfold Cfg.ans Cfg.err; rw [if_neg hm, if_neg hm]; rfl, h2⟩
    have HNR : Hid (p.rightB = false) := Pl.rightB_no fun r => hm r.may
    clear hm
    unfold Cfg.val at HG
    unfold PA.val
    go_enter Tryz.func7, Tryz.ntmps7
    go_wp2_with fail
    refine (HG.out _).mono ?_
    rintro e w1 ⟨rfl, hf⟩
    have HF1 := hide (((Fr.refl [] W).alloc _).trans_same hf)
    clear hf
    go_wp2_with fail
    go_ret
    exact ⟨ret_bool (by rw [← HRB.out]; exact HNR.out.symm), HF1.out.alloc _⟩
end Go.Proofs.YteacgfeiedcdiaaGreatDoor
