/- Package heap: Check. -/
import Derived.Test.YtapglokadaibnaaGreatDoorSVe
import Derived.Deep.AppendLies
namespace Go.Proofs.YtapglokadaibnaaGreatDoor
set_option linter.unusedVariables false
set_option linter.unusedSimpArgs false
set_option maxRecDepth 100000
open Go.RowKit Go.Gl

theorem minL_mem {l : List Int} (h : l ≠ []) : HS.minL l ∈ l := by
  cases l with
  | nil => exact absurd rfl h
  | cons x l =>
    show l.foldl min x ∈ x :: l
    have key : ∀ (l : List Int) (x : Int), l.foldl min x = x ∨ l.foldl min x ∈ l := by
      intro l
      induction l with
      | nil => intro x; exact .inl rfl
      | cons a l ih =>
        intro x
        rw [List.foldl_cons]
        rcases ih (min x a) with h1 | h1
        · rw [h1]
          by_cases e : x ≤ a
          · left; omega
          · right; simp; left; omega
        · right; simp [h1]
    rcases key l x with h1 | h1
    · rw [h1]; simp
    · simp [h1]
section
variable {h : HS} {s k : Nat}
theorem leftL_mem {r : Int} {x : Int} : ∀ {j}, x ∈ h.leftL r j → ∃ i, i < j ∧ x = h.bx i ∧ h.bx i < h.be i ∧ h.g.regionOf (h.bx i) = r
  | 0, hx => by cases hx
  | j + 1, hx => by
    unfold HS.leftL at hx
    rcases List.mem_append.1 hx with h1 | h1
    · obtain ⟨i, h2, h3⟩ := leftL_mem h1
      exact ⟨i, by omega, h3⟩
    · split at h1
      · rename_i e
        simp at h1
        exact ⟨j, by omega, h1, e⟩
      · cases h1
theorem endOf_in (ok : h.Ok s k) {r : Nat} (hr : r < h.R) : ((r * h.W : Nat) : Int) ≤ h.endOf r ∧ h.endOf r ≤ ((r * h.W + h.W : Nat) : Int) := by
  unfold HS.endOf
  split
  · exact ok.tok r hr
  · rename_i e
    obtain ⟨i, _, h2, _, h4⟩ := leftL_mem (minL_mem e)
    rw [h2]
    unfold Geo.regionOf at h4
    split at h4
    · rename_i hc
      rw [ok.rw] at h4
      have hw := ok.wpos
      have h5 := Int.mul_ediv_add_emod (h.bx i) (h.W : Int)
      have h6 := Int.emod_nonneg (h.bx i) (show (h.W : Int) ≠ 0 by omega)
      have h7 := Int.emod_lt_of_pos (h.bx i) (show 0 < (h.W : Int) by omega)
      rw [h4, Int.mul_comm, ← Int.natCast_mul] at h5
      omega
    · omega
theorem rowE_30 (ok : h.Ok s k) {r : Nat} (hr : r < h.R) (e : h.rowE (r : Int) ≠ 0) : h.rowE (r : Int) = 30 := by
  have hb := ok.base_le hr
  rcases rowE_ways h (r : Int) with ⟨h1, _⟩ | ⟨r', e1, hr', hw⟩
  · exact absurd (by omega) h1
  · obtain rfl : r' = r := by omega
    rcases hw with ⟨_, h2, _⟩ | ⟨_, h2, _⟩ | ⟨_, _, _, _, h2, _⟩
    · rw [h2] at e ⊢
      have hi := endOf_in ok hr
      have hbn : bndE h.n ((r' * h.W : Nat) : Int) (h.endOf r') = 0 := by
        unfold bndE
        rw [if_pos ⟨by omega, hi.1, by omega⟩]
      unfold startsE at e ⊢
      rw [if_pos hbn] at e ⊢
      split at e
      · exact absurd rfl e
      · rfl
    · rw [h2] at e ⊢
      by_cases e0 : h.objE (((r' * h.W : Nat) : Int) + 1) = 0
      · by_cases hc : h.Cont r' (h.g.spanOf (h.objV (((r' * h.W : Nat) : Int) + 1)).size)
        · exact absurd (bigE_yes e0 hc) e
        · exact bigE_bad e0 hc
      · rw [bigE_no e0]
        have hw := ok.wpos
        rcases HS.objE_ways h (((r' * h.W : Nat) : Int) + 1) with ⟨_, h3⟩ | ⟨_, _, h3⟩ | ⟨_, h3⟩ | ⟨_, h3⟩
        · omega
        · exact absurd ⟨by omega, by omega⟩ h3
        · exact h3
        · exact absurd h3 e0
    · exact absurd h2 e
theorem checkE_ok (hs : h.Sound) : h.checkE = 0 := by unfold HS.checkE; rw [if_pos hs]
theorem checkE_bad (hs : ¬ h.Sound) : h.checkE = 30 := by unfold HS.checkE; rw [if_neg hs]
theorem flat_le {α : Type} (f : Nat → List α) (b : Nat) (h : ∀ i, (f i).length ≤ b) : ∀ n, ((List.range n).flatMap f).length ≤ n * b
  | 0 => by simp
  | n + 1 => by
    rw [List.range_succ, List.flatMap_append, List.length_append]
    have h1 := flat_le f b h n
    have h2 := h n
    have e : ([n].flatMap f).length = (f n).length := by simp
    rw [e, Nat.add_mul]
    omega
theorem objL_len (ok : h.Ok s k) : h.objL.length ≤ 274877906944 := by
  have hR : h.R ≤ 65536 := by have := ok.geo.r65536; have := ok.rg; omega
  have h1 := flat_le h.objsK 4194304 (fun i => by
    unfold HS.objsK
    exact Nat.le_trans (List.length_filter_le _ _) (Nat.le_trans (rowL_len ok _) ok.nmax)) h.R
  have h2 : h.R * 4194304 ≤ 65536 * 4194304 := Nat.mul_le_mul_right _ hR
  exact Nat.le_trans h1 h2
theorem refsAt_u64 (ok : h.Ok s k) {a r : Int} (hr : r ∈ h.refsAt a) : 0 ≤ r ∧ r < 18446744073709551616 := by
  unfold HS.refsAt at hr
  obtain ⟨i, _, rfl⟩ := List.mem_map.1 hr
  have := ok.fok i.toNat
  omega
end
section
variable {w : World} {L : HL} {h : HS} {s k : Nat}
set_option maxHeartbeats 6400000 in
theorem hcheck_any (H : Hr w L h s k) : Calls Tryz.prog 14 #[.pointer (some ⟨L.hb, 0, none⟩)] w (HrP w L h s k (.int .i64 h.checkE)) := by
  have HH := hide H
  have HOK := hide H.ok
  have HOJ := hide (hobjects_any H)
  unfold ObjsP at HOJ
  have HLen := objL_len H.ok
  have HQ : Hid (L.ab < w.heap.size) := by
    obtain ⟨c, hc⟩ := H.ar
    exact hc.set.lt
  have HRf : Hid (∀ w' i, Hr w' L h s k → (i : Int) ∈ h.objL → Calls Tryz.prog 75 #[.pointer (some ⟨L.hb, 0, none⟩), .int .i64 (i : Int)] w' (HrR w' L h s k (h.refsAt (i : Int)))) := fun w' i h' hi => by
    obtain ⟨j, S, P, e, o⟩ := h'.ok.objAt hi
    rw [e]
    exact hrefs_any h' o
  unfold HrR at HRf
  have HLi : Hid (∀ w' i, Hr w' L h s k → i < h.T → Calls Tryz.prog 71 #[.pointer (some ⟨L.S i, 0, none⟩)] w' (ClonePost w' (h.st i))) := fun w' i h' hi => by
    obtain ⟨F, h1⟩ := h'.stk i hi
    exact hlist_any h1 (by have := h'.ok.rlen i hi; omega)
  unfold ClonePost at HLi
  unfold HrP
  obtain ⟨CE, hCE⟩ : ∃ CE, CE = h.checkE := ⟨_, rfl⟩
  rw [← hCE]
  have HCE := hide hCE
  clear H hCE
  go_enter Tryz.func14, Tryz.ntmps14
  go_wp2_with fail
  refine HOJ.out.mono ?_
  rintro e w1 ⟨hH1, hf1, hway⟩
  rcases hway with ⟨A, c, G, mb, rfl, hrows, hl, hkn, hg, hmb⟩ | ⟨r, hr, he, rfl⟩
  · have HL1 := hide hl.slz
    have HK1 := hide hkn
    have HH1 := hide hH1
    have HF1 := hide hf1
    have HRows := hide hrows
    have HS0 : Hid ((∀ m, m < h.objL.length → knownB (h.refsAt (h.objL.getD m 0)) h.objL = true) → (∀ i, i < h.T → knownB (h.st i) h.objL = true) → CE = 0) := fun h1 h2 => HCE.out.trans <| checkE_ok ⟨HRows.out, fun a ha => by
      obtain ⟨m, hm, rfl⟩ := List.getElem_of_mem ha
      have := knownB_iff.1 (h1 m hm)
      rwa [show h.objL.getD m 0 = h.objL[m] by simp [hm]] at this, fun i hi => knownB_iff.1 (h2 i hi)⟩
    have HS1 : Hid (∀ m, m < h.objL.length → knownB (h.refsAt (h.objL.getD m 0)) h.objL = false → CE = 30) := fun m hm e => HCE.out.trans <| checkE_bad fun hs => by
      have := knownB_iff.2 (hs.refs (h.objL.getD m 0) (by simp [hm]))
      rw [e] at this
      cases this
    have HS2 : Hid (∀ i, i < h.T → knownB (h.st i) h.objL = false → CE = 30) := fun i hi e => HCE.out.trans <| checkE_bad fun hs => by
      have := knownB_iff.2 (hs.stk i hi)
      rw [e] at this
      cases this
    have HM : Hid (∀ m, m < h.objL.length → h.objL.getD m 0 ∈ h.objL) := fun m hm => by simp [hm]
    obtain ⟨n, hn⟩ : ∃ n, n = h.objL.length := ⟨_, rfl⟩
    have HNM : Hid (n ≤ 274877906944) := by rw [hn]; exact HLen
    rw [← hn] at HL1 HS0 HS1 HM ⊢
    have hB := Blk.new w1 148 #[.slice A n c, .map (some mb)]
    have HB1 := hide hB
    have HH2 : Hid (Hr (w1.alloc (.cells #[.slice A n c, .map (some mb)] 148)) L h s k) := hH1.fr0 ((Fr.refl _ _).alloc _)
    have HF2 : Hid (Fr [L.ab] w (w1.alloc (.cells #[.slice A n c, .map (some mb)] 148))) := hf1.alloc _
    have HK2 : Hid (KnownAt (w1.alloc (.cells #[.slice A n c, .map (some mb)] 148)) mb h.objL) := hkn.fr ((Fr.refl [] _).alloc _) (by simp)
    have HL2 : Hid (∀ w', Fr [L.ab] (w1.alloc (.cells #[.slice A n c, .map (some mb)] 148)) w' → Sl w' A n (fun k => .int .i64 (h.objL.getD k 0))) := fun w' hf => by
      obtain ⟨c9, h9⟩ := hH1.ar
      have := (hl.alloc (.cells #[.slice A n c, .map (some mb)] 148)).fr hf (fun g hg hx => by simp at hx; rw [hx] at hg; exact hl.apart h9.set (by decide) hg)
      have := this.slz
      rwa [← hn] at this
    clear hl hkn hH1 hf1 hrows hg hmb hn hB HLen HL1
    go_wp2_with fail
    generalize w1.alloc (.cells #[.slice A n c, .map (some mb)] 148) = w2 at *
    obtain ⟨t3, ht3⟩ : ∃ t3, t3 = w1.heap.size := ⟨_, rfl⟩
    rw [← ht3] at HB1 ⊢
    clear ht3
    have HD : Hid (t3 ≠ L.ab ∧ mb ≠ L.ab) := by
      obtain ⟨c9, h9⟩ := HH2.out.ar
      obtain ⟨f, kf, _⟩ := HK2.out
      exact ⟨HB1.out.apart h9.set (by decide), kf.blk_ne h9.set⟩
    have HT0 : Hid (∀ w', Fr [L.ab] w2 w' → w'.cell? ⟨t3, 0, none⟩ = some (.slice A n c) ∧ w'.cell? ⟨t3, 1, none⟩ = some (.map (some mb)) ∧ t3 < w'.heap.size ∧ KnownAt w' mb h.objL ∧ L.hb < w'.heap.size) := fun w' hf => by
      have hb := HB1.out.fr hf (by simpa using HD.out.1)
      exact ⟨hb.cell 0, hb.cell 1, hb.lt, HK2.out.fr hf (by simpa using HD.out.2), Nat.lt_of_lt_of_le HH2.out.st.lt hf.size⟩
    have HL3 : Hid (∀ w', Fr [L.ab] w2 w' → Sl w' A n (fun k => .int .i64 (h.objL.getD k 0))) := fun w' hf => HL2.out w' hf
    have hnb : n ≤ 274877906944 := HNM.out
    go_loopw [22] (fun q wr => ∃ j : Nat, q = .int .i64 j ∧ j ≤ n ∧ (∀ m, m < j → knownB (h.refsAt (h.objL.getD m 0)) h.objL = true) ∧ Hr wr L h s k ∧ Fr [L.ab] w2 wr) (fun q _ => n - (intOf q).toNat)
    case atStart => exact ⟨0, rfl, Nat.zero_le _, (fun m hm => absurd hm (by omega)), HH2.out, Fr.refl _ _⟩
    case round =>
      obtain ⟨j, rfl, hj, hkn, hH, hf⟩ := hrel
      have HKN := hide hkn
      have HH3 := hide hH
      have HF3 := hide hf
      obtain ⟨x0, x1, NT, _, NH⟩ := HT0.out wr hf
      by_cases hlt : j < n
      · have hlt1 : (j : Int) < (n : Int) := by omega
        obtain ⟨b, off, rfl, hb0, hcl⟩ := HL3.out wr hf (by omega)
        have c0 : wr.cell? ⟨b, off + j, none⟩ = some (.int .i64 (h.objL.getD j 0)) := hcl j hlt
        have HKN1 : Hid (knownB (h.refsAt (h.objL.getD j 0)) h.objL = true → ∀ m, m < j + 1 → knownB (h.refsAt (h.objL.getD m 0)) h.objL = true) := fun e m hm => by
          rcases Nat.lt_or_ge m j with h3 | h3
          · exact HKN.out m h3
          · obtain rfl : m = j := by omega
            exact e
        have HC1 := hide (HRf.out wr.drew (h.objL.getD j 0) (hH.fr0 (Fr.refl _ _).drew) (HM.out j hlt))
        have HBD : Hid (∀ r, r ∈ h.refsAt (h.objL.getD j 0) → 0 ≤ r ∧ r < 18446744073709551616) := fun r hr => refsAt_u64 HOK.out hr
        have HRN : Hid ((h.refsAt (h.objL.getD j 0)).length ≤ 1048576) := by
          obtain ⟨i, S, P, e, o⟩ := HOK.out.objAt (HM.out j hlt)
          rw [e, o.refs]
          have := o.ps
          have := o.max
          show _ ≤ _
          simp
          omega
        have HBad := hide (HS1.out j hlt)
        clear hkn hH hf hb0 hcl
        generalize h.objL.getD j 0 = a at *
        generalize h.refsAt a = l at *
        have HHas : Hid (∀ w' B cB, KnownAt w' mb h.objL → Sl w' B l.length (fun k => .int .u64 (l.getD k 0)) → Calls Tryz.prog 74 #[.agg #[.slice (some ⟨b, off, none⟩) n c, .map (some mb)], .slice B l.length cB] w' fun e w'' => e = .returned (.bool (knownB l h.objL)) ∧ Fr [] w' w'') := fun w' B cB hk hs => hhas_any hk _ rfl hs HBD.out (by have := HRN.out; omega)
        have HRM : Hid (∀ w3 A3 c3 G3, Lr w3 66 A3 l.length c3 G3 (refV l) → Hr w3 L h s k → Fr [L.ab] wr.drew w3 → (Hr w3 L h s k ∧ Fr [L.ab] w2 w3 ∧ w3.cell? ⟨t3, 0, none⟩ = some (.slice (some ⟨b, off, none⟩) n c) ∧ w3.cell? ⟨t3, 1, none⟩ = some (.map (some mb)) ∧ t3 < w3.heap.size ∧ Calls Tryz.prog 74 #[.agg #[.slice (some ⟨b, off, none⟩) n c, .map (some mb)], .slice A3 l.length c3] w3 fun e w'' => e = .returned (.bool (knownB l h.objL)) ∧ Fr [] w3 w'')) := fun w3 A3 c3 G3 h1 h2 h3 => by
          have hf4 := HF3.out.trans_same h3.from_drew
          obtain ⟨y0, y1, NT3, hk3, _⟩ := HT0.out _ hf4
          exact ⟨h2, hf4, y0, y1, NT3, HHas.out w3 A3 c3 hk3 (refSl h1)⟩
        clear HHas
        by_cases hB : knownB l h.objL = true
        · have HKN2 := hide (HKN1.out hB)
          rw [hB] at HRM
          clear hB HBad HKN1
          go_wp2_with fail
          go_region_with (first | (go_at_call 75; refine HC1.out.mono ?_; rintro e w3 ⟨A3, c3, G3, rfl, hl3, hg3, hH3, hf3⟩; obtain ⟨hH4, hf4, y0, y1, NT3, hx⟩ := HRM.out w3 A3 c3 G3 hl3 hH3 hf3; have HH4 := hide hH4; have HF4 := hide hf4; have HX := hide hx; clear hl3 hg3 hH3 hf3 hH4 hf4 hx) | (go_at_call 74; refine HX.out.mono ?_; rintro e w4 ⟨rfl, hf5⟩; have HF5 := hide hf5; clear hf5))
          all_goals
            go_wp2_with fail
            exact ⟨⟨j + 1, by go_num, by omega, HKN2.out, HH4.out.fr0 HF5.out, HF4.out.trans_nil HF5.out⟩, by simp [intOf]; omega⟩
        · have hB' : knownB l h.objL = false := by simpa using hB
          have hc : CE = 30 := HBad.out hB'
          rw [hB'] at HRM
          clear hB hB' HBad HKN1 HS0 HS1 HS2
          subst hc
          go_wp2_with fail
          go_region_with (first | (go_at_call 75; refine HC1.out.mono ?_; rintro e w3 ⟨A3, c3, G3, rfl, hl3, hg3, hH3, hf3⟩; obtain ⟨hH4, hf4, y0, y1, NT3, hx⟩ := HRM.out w3 A3 c3 G3 hl3 hH3 hf3; have HH4 := hide hH4; have HF4 := hide hf4; have HX := hide hx; clear hl3 hg3 hH3 hf3 hH4 hf4 hx) | (go_at_call 74; refine HX.out.mono ?_; rintro e w4 ⟨rfl, hf5⟩; have HF5 := hide hf5; clear hf5))
          all_goals
            go_wp2_with fail
            go_ret
            exact ⟨rfl, HH4.out.fr0 HF5.out, HF2.out.trans_same (HF4.out.trans_nil HF5.out)⟩
      · obtain rfl : j = n := by omega
        have r0 := hH.cR
        obtain ⟨rA, hrA0⟩ : ∃ rA, rA = L.rA := ⟨_, rfl⟩
        rw [← hrA0] at r0
        have HRA := hide hrA0
        clear hrA0
        clear hkn hH hf
        go_wp2_with fail
        go_loopw [38] (fun q wr => ∃ i : Nat, q = .int .i64 i ∧ i ≤ h.T ∧ (∀ m, m < i → knownB (h.st m) h.objL = true) ∧ Hr wr L h s k ∧ Fr [L.ab] w2 wr) (fun q _ => h.T - (intOf q).toNat)
        case atStart => exact ⟨0, rfl, Nat.zero_le _, (fun m hm => absurd hm (by omega)), HH3.out, HF3.out⟩
        case round =>
          obtain ⟨i, rfl, hi, hkn2, hH, hf⟩ := hrel
          have HKN5 := hide hkn2
          have HH5 := hide hH
          have HF5 := hide hf
          obtain ⟨x0, x1, NT, _, NH⟩ := HT0.out wr hf
          by_cases hlt2 : i < h.T
          · have hlt3 : (i : Int) < (h.T : Int) := by omega
            have hTm := HOK.out.tm
            obtain ⟨gr, offr, hrA, _, hgr, hclr, _⟩ := hH.row.pos (by omega)
            have hrA' := HRA.out.trans hrA
            clear hrA HRA
            subst hrA'
            have c0 : wr.cell? ⟨gr, offr + i, none⟩ = some (.pointer (some ⟨L.S i, 0, none⟩)) := by rw [hclr i hlt2, stkV_at _ hlt2]
            have HKN6 : Hid (knownB (h.st i) h.objL = true → ∀ m, m < i + 1 → knownB (h.st m) h.objL = true) := fun e m hm => by
              rcases Nat.lt_or_ge m i with h3 | h3
              · exact HKN5.out m h3
              · obtain rfl : m = i := by omega
                exact e
            have HC1 := hide (HLi.out wr.drew i (hH.fr0 (Fr.refl _ _).drew) hlt2)
            have HBD : Hid (∀ r, r ∈ h.st i → 0 ≤ r ∧ r < 18446744073709551616) := HOK.out.rok i hlt2
            have HRN : Hid ((h.st i).length ≤ 64) := HOK.out.rlen i hlt2
            have HBad := hide (HS2.out i hlt2)
            clear hkn2 hH hf hclr
            generalize h.st i = l at *
            generalize L.S i = sp at *
            have HRM : Hid (∀ w3 A3 c3 G3, Lr w3 66 A3 l.length c3 G3 (refV l) → Fr [] wr.drew w3 → (Hr w3 L h s k ∧ Fr [L.ab] w2 w3 ∧ w3.cell? ⟨t3, 0, none⟩ = some (.slice A j c) ∧ w3.cell? ⟨t3, 1, none⟩ = some (.map (some mb)) ∧ t3 < w3.heap.size ∧ Calls Tryz.prog 74 #[.agg #[.slice A j c, .map (some mb)], .slice A3 l.length c3] w3 fun e w'' => e = .returned (.bool (knownB l h.objL)) ∧ Fr [] w3 w'')) := fun w3 A3 c3 G3 h1 h3 => by
              have hf4 := HF5.out.trans_nil h3.from_drew
              obtain ⟨y0, y1, NT3, hk3, _⟩ := HT0.out _ hf4
              exact ⟨HH5.out.fr0 h3.from_drew, hf4, y0, y1, NT3, hhas_any hk3 _ rfl (refSl h1) HBD.out (by have := HRN.out; omega)⟩
            by_cases hB : knownB l h.objL = true
            · have HKN2 := hide (HKN6.out hB)
              rw [hB] at HRM
              clear hB HBad HKN6
              go_wp2_with fail
              go_region_with (first | (go_at_call 71; refine HC1.out.mono ?_; rintro e w3 ⟨A3, c3, G3, rfl, hl3, hf3, hg3⟩; obtain ⟨hH4, hf4, y0, y1, NT3, hx⟩ := HRM.out w3 A3 c3 G3 hl3 hf3; have HH4 := hide hH4; have HF4 := hide hf4; have HX := hide hx; clear hl3 hg3 hf3 hH4 hf4 hx) | (go_at_call 74; refine HX.out.mono ?_; rintro e w4 ⟨rfl, hf5⟩; have HF6 := hide hf5; clear hf5))
              all_goals
                go_wp2_with fail
                go_roundw
                case rel => exact ⟨i + 1, by go_num, by omega, HKN2.out, HH4.out.fr0 HF6.out, HF4.out.trans_nil HF6.out⟩
                case measure => simp [intOf]; omega
            · have hB' : knownB l h.objL = false := by simpa using hB
              have hc : CE = 30 := HBad.out hB'
              rw [hB'] at HRM
              clear hB hB' HBad HKN6 HS0 HS1 HS2
              subst hc
              go_wp2_with fail
              go_region_with (first | (go_at_call 71; refine HC1.out.mono ?_; rintro e w3 ⟨A3, c3, G3, rfl, hl3, hf3, hg3⟩; obtain ⟨hH4, hf4, y0, y1, NT3, hx⟩ := HRM.out w3 A3 c3 G3 hl3 hf3; have HH4 := hide hH4; have HF4 := hide hf4; have HX := hide hx; clear hl3 hg3 hf3 hH4 hf4 hx) | (go_at_call 74; refine HX.out.mono ?_; rintro e w4 ⟨rfl, hf5⟩; have HF6 := hide hf5; clear hf5))
              all_goals
                go_wp2_with fail
                go_ret
                exact ⟨rfl, HH4.out.fr0 HF6.out, HF2.out.trans_same (HF4.out.trans_nil HF6.out)⟩
          · obtain rfl : i = h.T := by omega
            have hc : CE = 0 := HS0.out HKN.out HKN5.out
            clear hkn2 hH hf HS0 HS1 HS2
            subst hc
            go_wp2_with fail
            go_ret
            exact ⟨rfl, HH5.out, HF2.out.trans_same HF5.out⟩
  · have hE : CE = h.rowE (r : Int) := by
      rw [rowE_30 HOK.out hr he, HCE.out]
      exact checkE_bad fun hs => he (hs.rows r hr)
    have HH1 := hide hH1
    have HF1 := hide hf1
    have he' : (h.rowE (r : Int) != 0) = true := by simpa using he
    clear he hH1 hf1 HCE
    rw [← hE] at he' ⊢
    clear hE
    go_wp2_with fail
    go_ret
    exact ⟨rfl, HH1.out.fr0 ((Fr.refl _ _).alloc _), HF1.out.alloc _⟩
end
end Go.Proofs.YtapglokadaibnaaGreatDoor
/- Package heap: the numbers that objects get as they are come to. -/
namespace Go.Proofs.YtapglokadaibnaaGreatDoor
set_option linter.unusedVariables false
set_option linter.unusedSimpArgs false
set_option maxRecDepth 100000
open Go.RowKit Go.Gl

theorem Tryz.info_u64H : (Tryz.prog.info? 65).map (fun i => (i.zero, i.size, i.bytes)) = some (some (.int .u64 0), 1, 8) := by kernel_rfl
theorem zeroUH (w : World) : (zeroValue 65).run Tryz.prog w = .ok (.int .u64 0) w := by kernel_rfl
theorem refV_snocH (l : List Int) (x : Int) : refV (l ++ [x]) = refV l ++ [.int .u64 x] := by simp [refV]
/-- A tour at tp with the list L, its map at mb, its list's block in G. -/
def TourH (w : World) (tp mb : Nat) (G : List Nat) (L : List Int) : Prop :=
  ∃ A c, Blk w tp 142 #[.slice A L.length c, .map (some mb)] ∧ Lr w 66 A L.length c G (refV L) ∧
    ∃ f, Mp Tryz.prog 66 w mb f ∧ ∀ r, (f (.int .u64 r)).getD (.int .u64 0) = .int .u64 (num L r)
section
variable {w w' : World} {tp mb : Nat} {F G : List Nat} {L : List Int}
theorem TourH.fr (h : TourH w tp mb G L) (hf : Fr F w w') (h1 : tp ∉ F) (h2 : mb ∉ F) (h3 : ∀ g, g ∈ G → g ∉ F) : TourH w' tp mb G L := by
  obtain ⟨A, c, k1, k2, f, k3, k4⟩ := h
  exact ⟨A, c, k1.fr hf h1, k2.fr hf h3, f, k3.fr hf h2, k4⟩
theorem TourH.fr0 (h : TourH w tp mb G L) (hf : Fr [] w w') : TourH w' tp mb G L := h.fr hf (by simp) (by simp) (fun _ _ => by simp)
theorem TourH.lt (h : TourH w tp mb G L) : ∀ x, x ∈ tp :: mb :: G → x < w.heap.size := by
  obtain ⟨A, c, k1, k2, f, k3, k4⟩ := h
  intro x hx
  simp only [List.mem_cons] at hx
  rcases hx with rfl | rfl | hx
  · exact k1.lt
  · exact k3.lt
  · exact k2.lt x hx
theorem TourH.ab (h : TourH w tp mb G L) {b : Nat} {cs : Array Value} (hb : Blk w b 220 cs) : b ∉ tp :: mb :: G := by
  obtain ⟨A, c, k1, k2, f, k3, k4⟩ := h
  intro hx
  simp only [List.mem_cons] at hx
  rcases hx with rfl | rfl | hx
  · exact k1.apart hb (by decide) rfl
  · exact k3.blk_ne hb rfl
  · exact k2.apart hb (by decide) hx
def NumH (w : World) (tp mb : Nat) (G : List Nat) (L : List Int) (v : Value) (e : Ending) (w' : World) : Prop :=
  e = .returned v ∧ ∃ G', TourH w' tp mb G' L ∧ Fr (tp :: mb :: G) w w' ∧ ∀ g, g ∈ G' → g ∈ G ∨ w.heap.size ≤ g
set_option maxHeartbeats 1600000 in
theorem hnumber_any (h : TourH w tp mb G L) {r : Int} (h1 : 0 ≤ r) (h2 : r ≤ 4194304) (hl : L.length ≤ 4194304) (h0 : (0 : Int) ∉ L) :
    Calls Tryz.prog 142 #[.pointer (some ⟨tp, 0, none⟩), .int .u64 r] w (NumH w tp mb G (visit L r) (.int .u64 (num (visit L r) r))) := by
  by_cases e0 : r = 0
  · subst e0
    have e1 : visit L 0 = L := by unfold visit; rw [if_pos (.inl rfl)]
    have e2 : num L 0 = 0 := by unfold num; rw [if_neg h0]
    rw [e1, e2]
    have H := hide h
    clear h h0
    go_enter Tryz.func142, Tryz.ntmps142
    go_wp2_with fail
    go_ret
    exact ⟨rfl, G, H.out, Fr.refl _ _, fun g hg => .inl hg⟩
  · have H := hide h
    obtain ⟨A, c, k1, k2, f, k3, k4⟩ := h
    have hkey := refKey r (wf_u64_of ⟨by omega, by omega⟩)
    have c1 : w.cell? ⟨tp, 1, none⟩ = some (.map (some mb)) := k1.cell 1
    have hlk : (Instr.lookup 140 (.map (some mb)) (.int .u64 r) false).run Tryz.prog w = .ok (.int .u64 (num L r)) w := by
      rw [k3.look Tryz.refLaw Tryz.underlying140 (zeroUH _) hkey, k4 r]
    have hnb := num_bounds L r
    have e0' : (r == 0) = false := by simpa using e0
    by_cases hm : r ∈ L
    · have e1 : visit L r = L := by unfold visit; rw [if_pos (.inr hm)]
      have e2 : (num L r != 0) = true := by simp; exact num_pos.2 hm
      rw [e1]
      generalize num L r = x at *
      clear k1 k2 k3 k4 hkey hm h0
      go_enter Tryz.func142, Tryz.ntmps142
      go_wp2_with fail
      go_ret
      exact ⟨rfl, G, H.out, Fr.refl _ _, fun g hg => .inl hg⟩
    · have e1 : visit L r = L ++ [r] := by unfold visit; rw [if_neg (by simp [e0, hm])]
      have e2 : num L r = 0 := by unfold num; rw [if_neg hm]
      rw [e1, num_last hm, show ((L.length + 1 : Nat) : Int) = (L.length : Int) + 1 by omega]
      rw [e2] at hlk
      obtain ⟨i0, hi, hz0, hz1, hz2⟩ := info_parts Tryz.info_ref
      obtain ⟨n, hn0⟩ : ∃ n, n = L.length := ⟨_, rfl⟩
      have HN : Hid (([Value.int .u64 r]).length = 1 ∧ (∀ u ∈ [Value.int .u64 r], u.oneCell' = true) ∧ n + 1 ≤ maxLen ∧ (n + 1) * 8 ≤ 140737488355328) := ⟨rfl, by simp [Value.oneCell'], by unfold maxLen; omega, by omega⟩
      have hnl : n ≤ 4194304 := by omega
      rw [← hn0] at k1 k2 ⊢
      have HN0 := hide hn0
      have HK := hide hkey
      have H4 := hide k4
      have HM := hide hm
      have hneq : tp ∉ G := k2.apart k1 (by decide)
      have hne1 : mb ∉ G := fun hg => by
        rcases Nat.eq_zero_or_pos c with hc | hc
        · rw [k2.zero hc] at hg; cases hg
        · obtain ⟨g, off, cur, _, q2, q3, _⟩ := k2.blk hc
          rw [q2] at hg
          simp at hg
          exact k3.blk_ne q3 hg
      have hne2 : mb ≠ tp := k3.blk_ne k1
      have K1 := hide k1
      have K2 := hide k2
      have K3 := hide k3
      have HNE : Hid (tp ∉ G ∧ mb ∉ G ∧ mb ≠ tp) := ⟨hneq, hne1, hne2⟩
      have c0 : w.cell? ⟨tp, 0, none⟩ = some (.slice A n c) := k1.cell 0
      have N0 : tp < w.heap.size := k1.lt
      have HFZ : Hid (∀ w2 w', Fr [] w w2 → Fr G w2 w' → w'.cell? ⟨tp, 0, none⟩ = some (.slice A n c) ∧ w'.frozen? ⟨tp, 0, none⟩ = false ∧ tp < w'.heap.size ∧ w'.cell? ⟨tp, 1, none⟩ = some (.map (some mb))) := fun w2 w' hf0 hf => by
        have hb := (K1.out.fr hf0 (by simp)).fr hf HNE.out.1
        exact ⟨hb.cell 0, hb.frozen 0, hb.lt, hb.cell 1⟩
      have HLR : Hid (Lr (w.alloc (.cells #[.int .u64 r] 66)) 66 A n c G (refV L)) := K2.out.alloc _
      have hwn : IntKind.u64.wrap ((n : Int) + 1) = (n : Int) + 1 := IntWalk.u64_in _ ⟨by omega, by omega⟩
      clear k1 k2 k3 k4 hkey hm h0 hn0 hl e0 hneq hne1 hne2 e1 e2
      go_enter Tryz.func142, Tryz.ntmps142
      go_wp2_with (first | (at_builtin; refine wpList_append_lr rfl _ _ 106 rfl 66 i0 (.int .u64 0) 8 Tryz.underlying106 hi hz0 hz1 hz2 rfl rfl HLR.out rfl HN.out.1 (fun _ => one_of w _ 66 rfl _ (Fr.refl _ _)) HN.out.2.1 HN.out.2.2.1 HN.out.2.2.2 ?_; intro A' c' G' w2 HLn HFn HGn; obtain ⟨d0, dz, d1, d2⟩ := HFZ.out _ _ ((Fr.refl _ _).alloc _) HFn.out; have K33 : Hid (Mp Tryz.prog 66 (w2.setCell ⟨tp, 0, none⟩ (.slice A' (n + 1) c')) mb f) := (((K3.out.fr0 ((Fr.refl _ _).alloc _)).fr HFn.out HNE.out.2.1).fr (F := [tp]) ((Fr.refl _ _).setCell (p := ⟨tp, 0, none⟩) (.inl (by simp)) _) (by simpa using HNE.out.2.2))) | (at_mapUpdate; refine list_of rfl fun K hK => wp_update (key := .int .u64 r) (v := .int .u64 ((n : Int) + 1)) _ _ _ 140 rfl Tryz.refLaw Tryz.underlying140 K33.out (Fr.refl _ _) rfl rfl HK.out rfl ?_; intro w4 hM hF; refine hK _ _ ?_))
      go_ret
      have hfs : Fr [tp] w2 (w2.setCell ⟨tp, 0, none⟩ (.slice A' (n + 1) c')) := (Fr.refl _ _).setCell (p := ⟨tp, 0, none⟩) (.inl (by simp)) _
      have hb2 := (K1.out.alloc (.cells #[.int .u64 r] 66)).fr HFn.out HNE.out.1
      have hGt : tp ∉ G' := HLn.out.apart hb2 (by decide)
      have hk2 := (K3.out.fr0 ((Fr.refl _ _).alloc (.cells #[.int .u64 r] 66))).fr HFn.out HNE.out.2.1
      have hGm : mb ∉ G' := fun hg => by
        rcases Nat.eq_zero_or_pos c' with hc | hc
        · rw [HLn.out.zero hc] at hg; cases hg
        · obtain ⟨g, off, cur, _, q2, q3, _⟩ := HLn.out.blk hc
          rw [q2] at hg
          simp at hg
          exact hk2.blk_ne q3 hg
      have hlen : (L ++ [r]).length = n + 1 := by rw [HN0.out]; simp
      refine ⟨rfl, G', ⟨A', c', ?_, ?_, upF f (.int .u64 r) (.int .u64 ((n : Int) + 1)), hM.out, fun x => ?_⟩, ?_, fun g hg => ?_⟩
      · rw [hlen]
        have := (hb2.put 0 (.slice A' (n + 1) c')).fr hF.out (by simpa using Ne.symm HNE.out.2.2)
        simpa using this
      · rw [hlen, refV_snocH]
        exact (HLn.out.fr hfs (fun g hg hx => hGt (by simp at hx; rw [← hx]; exact hg))).fr hF.out (fun g hg hx => hGm (by simp at hx; rw [← hx]; exact hg))
      · by_cases e : x = r
        · subst e
          rw [upF_at, num_last HM.out, ← HN0.out]
          rfl
        · rw [upF_ne _ _ (by simpa using e), H4.out x]
          congr 1
          unfold num
          by_cases hx : x ∈ L
          · rw [if_pos hx, if_pos (by simp [hx]), List.idxOf_append, if_pos hx]
          · rw [if_neg hx, if_neg (by simp [hx, e])]
      · have f1 : Fr (tp :: mb :: G) w w2 := (((Fr.refl [] w).alloc (.cells #[.int .u64 r] 66)).mono (fun x hx => by cases hx)).trans HFn.out (fun x hx => .inl (by simp [hx]))
        exact (f1.trans hfs (fun x hx => .inl (by simp at hx; simp [hx]))).trans hF.out (fun x hx => .inl (by simp at hx; simp [hx]))
      · rcases HGn.out g hg with h1 | h1
        · exact .inl h1
        · right; have := h1.1; simp at this; omega
end
end Go.Proofs.YtapglokadaibnaaGreatDoor
/- Package heap: tell, describe. -/
namespace Go.Proofs.YtapglokadaibnaaGreatDoor
set_option linter.unusedVariables false
set_option linter.unusedSimpArgs false
set_option maxRecDepth 100000
open Go.RowKit Go.Gl

/-- A shape under way since W: the tour at tp, mb with the list L, the numbers out told so far; no block of P is its own. -/
structure ShH (W w : World) (Λ : HL) (h : HS) (s k : Nat) (P : Nat → Prop) (tp mb : Nat) (L : List Int) (A : Option Addr) (n c : Nat) (out : List Int) : Prop where
  base : Hr W Λ h s k
  hr : Hr w Λ h s k
  fr : Fr [Λ.ab] W w
  own : ∃ G Go, TourH w tp mb G L ∧ Lr w 65 A n c Go (refV out) ∧ (∀ x, x ∈ tp :: mb :: G → W.heap.size ≤ x ∧ ¬ P x) ∧ ∀ x, x ∈ Go → W.heap.size ≤ x ∧ ¬ P x ∧ x ∉ tp :: mb :: G
section
variable {W w w1 w' : World} {Λ : HL} {h : HS} {s k : Nat} {P P' : Nat → Prop} {tp mb : Nat} {L : List Int} {A : Option Addr} {n c : Nat} {out : List Int}
theorem ShH.look (a : ShH W w Λ h s k P tp mb L A n c out) (hH : Hr w' Λ h s k) (hf : Fr [Λ.ab] w w') : ShH W w' Λ h s k P tp mb L A n c out := by
  obtain ⟨G, Go, h1, h2, h3, h4⟩ := a.own
  obtain ⟨c9, h9⟩ := a.hr.ar
  have hab := h1.ab h9.set
  exact ⟨a.base, hH, a.fr.trans_same hf, G, Go, h1.fr hf (fun hx => hab (by simp at hx; simp [hx])) (fun hx => hab (by simp at hx; simp [hx])) (fun g hg hx => hab (by simp at hx; rw [← hx]; simp [hg])),
    h2.fr hf (fun g hg hx => h2.apart h9.set (by decide) (by simp at hx; rw [← hx]; exact hg)), h3, h4⟩
theorem ShH.look0 (a : ShH W w Λ h s k P tp mb L A n c out) (hf : Fr [] w w') : ShH W w' Λ h s k P tp mb L A n c out := a.look (a.hr.fr0 hf) (hf.mono (fun x hx => by cases hx))
theorem ShH.weak (a : ShH W w Λ h s k P tp mb L A n c out) (hp : ∀ x, x < w.heap.size → P' x → P x) : ShH W w Λ h s k P' tp mb L A n c out := by
  obtain ⟨G, Go, h1, h2, h3, h4⟩ := a.own
  exact ⟨a.base, a.hr, a.fr, G, Go, h1, h2, fun x hx => ⟨(h3 x hx).1, fun hx' => (h3 x hx).2 (hp x (h1.lt x hx) hx')⟩, fun x hx => ⟨(h4 x hx).1, fun hx' => (h4 x hx).2.1 (hp x (h2.lt x hx) hx'), (h4 x hx).2.2⟩⟩
/-- Behind an append onto what was told. -/
theorem ShH.app (a : ShH W w Λ h s k P tp mb L A n c out) {G Go G' : List Nat} (k1 : TourH w tp mb G L) (k2 : Lr w 65 A n c Go (refV out)) (k3 : ∀ x, x ∈ tp :: mb :: G → W.heap.size ≤ x ∧ ¬ P x) (k4 : ∀ x, x ∈ Go → W.heap.size ≤ x ∧ ¬ P x ∧ x ∉ tp :: mb :: G)
    (hPl : ∀ x, P x → x < w.heap.size) (hf1 : Fr [] w w1) (hF : Fr Go w1 w') {A' : Option Addr} {n' c' : Nat} {out' : List Int} (hL : Lr w' 65 A' n' c' G' (refV out')) (hG : ∀ g, g ∈ G' → g ∈ Go ∨ w.heap.size ≤ g) : ShH W w' Λ h s k P tp mb L A' n' c' out' := by
  obtain ⟨c9, h9⟩ := a.hr.ar
  have hd : ∀ x, x ∈ tp :: mb :: G → x ∉ Go := fun x hx hg => (k4 x hg).2.2 hx
  have hfr : Fr [Λ.ab] W w' := (a.fr.trans_nil hf1).trans hF (fun x hx => .inr (k4 x hx).1)
  refine ⟨a.base, a.base.fr1 hfr ⟨c9, (h9.fr hf1 (by simp) (by simp)).fr hF (k2.apart h9.set (by decide)) (fun hx => ?_)⟩, hfr, G, G', (k1.fr0 hf1).fr hF (hd tp (by simp)) (hd mb (by simp)) (fun g hg => hd g (by simp [hg])), hL, k3, fun x hx => ?_⟩
  · have := (k4 _ hx).1
    obtain ⟨c8, h8⟩ := a.base.ar
    have := h8.row.lt
    omega
  · rcases hG x hx with h | h
    · exact k4 x h
    · have := a.fr.size
      exact ⟨by omega, fun hp => by have := hPl x hp; omega, fun hm => by have := k1.lt x hm; omega⟩
/-- number, while a shape is under way; a list of what is not its own stays. -/
theorem hnum_sh (a : ShH W w Λ h s k P tp mb L A n c out) (hPl : ∀ x, P x → x < w.heap.size) {r : Int} (h1 : 0 ≤ r) (h2 : r ≤ 4194304) (hl : L.length ≤ 4194304) (h0 : (0 : Int) ∉ L) {B : Option Addr} {m cB : Nat} {GB : List Nat} {xs : List Value} (hB : Lr w 66 B m cB GB xs) (hGB : ∀ g, g ∈ GB → P g) :
    Calls Tryz.prog 142 #[.pointer (some ⟨tp, 0, none⟩), .int .u64 r] w fun e w' => e = .returned (.int .u64 (num (visit L r) r)) ∧ ShH W w' Λ h s k P tp mb (visit L r) A n c out ∧ Lr w' 66 B m cB GB xs ∧ w.heap.size ≤ w'.heap.size := by
  obtain ⟨G, Go, k1, k2, k3, k4⟩ := a.own
  obtain ⟨c9, h9⟩ := a.hr.ar
  refine (hnumber_any k1 h1 h2 hl h0).mono ?_
  rintro e w' ⟨rfl, G', j1, j2, j3⟩
  have hab := k1.ab h9.set
  have hfr : Fr [Λ.ab] W w' := a.fr.trans j2 (fun x hx => .inr (k3 x hx).1)
  have haw : Λ.aw ∉ tp :: mb :: G := fun hx => by
    have := (k3 _ hx).1
    obtain ⟨c8, h8⟩ := a.base.ar
    have := h8.row.lt
    omega
  have hs := a.fr.size
  have hd : ∀ x, x ∈ G' → x ∈ tp :: mb :: G ∨ w.heap.size ≤ x := fun x hx => (j3 x hx).imp (fun h => by simp [h]) id
  refine ⟨rfl, ⟨a.base, a.base.fr1 hfr ⟨c9, h9.fr j2 hab haw⟩, hfr, G', Go, j1, k2.fr j2 (fun g hg => (k4 g hg).2.2), fun x hx => ?_, fun x hx => ⟨(k4 x hx).1, (k4 x hx).2.1, fun hm => ?_⟩⟩, hB.fr j2 (fun g hg hx => (k3 g hx).2 (hGB g hg)), j2.size⟩
  · simp only [List.mem_cons] at hx
    rcases hx with rfl | rfl | hx
    · exact k3 _ (by simp)
    · exact k3 _ (by simp)
    · rcases hd x hx with h | h
      · exact k3 x h
      · exact ⟨by omega, fun hp => by have := hPl x hp; omega⟩
  · simp only [List.mem_cons] at hm
    rcases hm with rfl | rfl | hm
    · exact (k4 _ hx).2.2 (by simp)
    · exact (k4 _ hx).2.2 (by simp)
    · rcases hd x hm with h | h
      · exact (k4 x hx).2.2 h
      · have := k2.lt x hx; omega
def TellH (W : World) (Λ : HL) (h : HS) (s k : Nat) (P : Nat → Prop) (tp mb : Nat) (L : List Int) (n : Nat) (out : List Int) (e : Ending) (w' : World) : Prop :=
  ∃ A c, e = .returned (.slice A n c) ∧ ShH W w' Λ h s k P tp mb L A n c out
set_option maxHeartbeats 3200000 in
theorem htell_any (a : ShH W w Λ h s k P tp mb L A n c out) (hPl : ∀ x, P x → x < w.heap.size) {l O : List Int} {B : Option Addr} {cB : Nat} {GB : List Nat} (hB : Lr w 66 B l.length cB GB (refV l)) (hGB : ∀ g, g ∈ GB → P g)
    (hlb : ∀ r, r ∈ l → 0 ≤ r ∧ r ≤ 4194304) (hO : visits L l <+: O) (h0 : (0 : Int) ∉ O) (hOl : O.length ≤ 4194304) (hn : n ≤ 8796093022208) (hl : l.length ≤ 1048576) :
    Calls Tryz.prog 70 #[.pointer (some ⟨tp, 0, none⟩), .slice A n c, .slice B l.length cB] w (TellH W Λ h s k P tp mb (visits L l) (n + l.length) (out ++ l.map (num O))) := by
  obtain ⟨i0, hi, hz0, hz1, hz2⟩ := info_parts Tryz.info_u64H
  have HA := hide a
  have HB0 := hide hB
  have HPl := hide hPl
  have HGB := hide hGB
  have HLB : Hid (∀ j, j < l.length → 0 ≤ l.getD j 0 ∧ l.getD j 0 ≤ 4194304) := fun j hj => hlb _ (by simp [hj])
  have HTK : Hid (∀ j, visits L (l.take j) <+: O) := fun j => by
    have e : visits L l = visits (visits L (l.take j)) (l.drop j) := by rw [← visits_app, List.take_append_drop]
    exact (e ▸ visits_pre _ _ : visits L (l.take j) <+: visits L l).trans hO
  have HO0 := hide h0
  have HOL := hide hOl
  obtain ⟨ln, hln⟩ : ∃ ln, ln = l.length := ⟨_, rfl⟩
  have HLN := hide hln
  rw [← hln] at HB0 HLB hl ⊢
  clear a hB hPl hGB hlb hO h0 hOl hln
  go_enter Tryz.func70, Tryz.ntmps70
  go_wp2_with fail
  go_loopw [1, 11] (fun p i wr => ∃ (j : Nat) (A' : Option Addr) (c' : Nat), i = .int .i64 j ∧ p = .slice A' (n + j) c' ∧ j ≤ ln ∧ w.heap.size ≤ wr.heap.size ∧ ShH W wr Λ h s k P tp mb (visits L (l.take j)) A' (n + j) c' (out ++ (l.take j).map (num O)) ∧ Lr wr 66 B ln cB GB (refV l)) (fun _ i _ => ln - (intOf i).toNat)
  case atStart => exact ⟨0, A, c, rfl, rfl, Nat.zero_le _, Nat.le_refl _, by simpa [visits_nil] using HA.out, HB0.out⟩
  case round =>
    obtain ⟨j, A1, c1, rfl, rfl, hj, hsz, hs, hb⟩ := hrel
    by_cases hlt : j < ln
    · have hlt1 : (j : Int) < (ln : Int) := by omega
      have hjl : j < l.length := by have := HLN.out; omega
      obtain ⟨gb, ob, rfl, _, _, hcell, _, _⟩ := hb.pos (by omega)
      have x0 : wr.cell? ⟨gb, ob + j, none⟩ = some (.int .u64 (l.getD j 0)) := by rw [hcell j hlt, refV_get _ hjl]
      have hlb := HLB.out j hlt
      have hP2 : ∀ x, P x → x < wr.heap.size := fun x hx => Nat.lt_of_lt_of_le (HPl.out x hx) hsz
      have hpk := HTK.out j
      have hpk1 := HTK.out (j + 1)
      have hv : visit (visits L (l.take j)) (l.getD j 0) = visits L (l.take (j + 1)) := by rw [take_getD hjl, visits_app, visits_one]
      have HNU := hide (hnum_sh hs hP2 hlb.1 hlb.2 (Nat.le_trans hpk.length_le HOL.out) (fun hm => HO0.out (hpk.subset hm)) hb HGB.out)
      rw [hv] at HNU
      have hnum : num (visits L (l.take (j + 1))) (l.getD j 0) = num O (l.getD j 0) := num_pre hpk1 HO0.out (by
        by_cases e : l.getD j 0 = 0
        · exact .inl e
        · exact .inr (by rw [← hv, visit_mem]; exact .inr ⟨rfl, e⟩))
      rw [hnum] at HNU
      have HTJ : Hid ((l.take (j + 1)).map (num O) = (l.take j).map (num O) ++ [num O (l.getD j 0)]) := by
        show _ = _
        rw [take_getD hjl, List.map_append]; rfl
      have HBn : Hid (n + j + 1 ≤ maxLen ∧ (n + j + 1) * 8 ≤ 140737488355328) := ⟨by unfold maxLen; omega, by omega⟩
      have HP2 := hide hP2
      obtain ⟨y, hy⟩ : ∃ y, y = num O (l.getD j 0) := ⟨_, rfl⟩
      rw [← hy] at HNU HTJ
      generalize l.getD j 0 = z at *
      clear hs hb hcell hv hnum hpk hpk1 hP2 hy hlb
      go_wp2_with fail
      refine HNU.out.mono ?_
      rintro e w3 ⟨rfl, hs3, hb3, hsz3⟩
      obtain ⟨G3, Go3, k1, k2, k3, k4⟩ := hs3.own
      have HS3 := hide hs3
      have HB3 := hide hb3
      have K1 := hide k1
      have K2 := hide k2
      have K3 := hide k3
      have K4 := hide k4
      have HLR2 : Hid (Lr (w3.alloc (.cells #[.int .u64 y] 65)) 65 A1 (n + j) c1 Go3 (refV (out ++ (l.take j).map (num O)))) := k2.alloc _
      clear hs3 hb3 k1 k2 k3 k4 HNU x0
      go_wp2_with (first | (at_builtin; refine wpList_append_lr rfl _ _ 36 rfl 65 i0 (.int .u64 0) 8 Tryz.underlying36 hi hz0 hz1 hz2 rfl rfl HLR2.out rfl (by rfl) (fun _ => one_of w3 (.int .u64 y) 65 rfl _ (Fr.refl _ _)) (by intro u hu; simp at hu; subst hu; rfl) HBn.out.1 HBn.out.2 ?_; intro A' c' G' w4 HLn HFn HGn))
      have HS4 : Hid (ShH W w4 Λ h s k P tp mb (visits L (l.take (j + 1))) A' (n + j + 1) c' (out ++ (l.take (j + 1)).map (num O))) :=
        ShH.app HS3.out K1.out K2.out K3.out K4.out (fun x hx => Nat.lt_of_lt_of_le (HP2.out x hx) hsz3) ((Fr.refl [] w3).alloc _) HFn.out (by rw [HTJ.out, ← List.append_assoc, refV_snocH]; exact HLn.out) (fun g hg => (HGn.out g hg).imp id (fun h => by rw [h.1]; simp))
      have HB4 : Hid (Lr w4 66 (some ⟨gb, ob, none⟩) ln cB GB (refV l)) := (HB3.out.alloc _).fr HFn.out (fun g hg hx => (K4.out g hx).2.1 (HGB.out g hg))
      have hsz4 : w.heap.size ≤ w4.heap.size := by have := HFn.out.size; simp at this; omega
      have HSZ := hide hsz4
      clear hsz4
      go_roundw
      case rel => exact ⟨j + 1, A', c', by go_num, rfl, by omega, HSZ.out, HS4.out, HB4.out⟩
      case measure => simp [intOf]; omega
    · obtain rfl : j = ln := by omega
      have htk : l.take j = l := by rw [List.take_of_length_le]; have := HLN.out; omega
      rw [htk] at hs
      have HS := hide hs
      clear hs hb htk
      go_wp2_with fail
      go_ret
      exact ⟨A1, c1, rfl, HS.out⟩
end
end Go.Proofs.YtapglokadaibnaaGreatDoor
/- Package heap: describe. -/
namespace Go.Proofs.YtapglokadaibnaaGreatDoor
set_option linter.unusedVariables false
set_option linter.unusedSimpArgs false
set_option maxRecDepth 100000
open Go.RowKit Go.Gl

theorem news_atH (w : World) (cs : Array Value) (t : TypeId) {b : Nat} (hb : w.heap.size = b) (w' : World) (hf : Fr [] (w.alloc (.cells cs t)) w') : ∃ ad, some (⟨b, 0, none⟩ : Addr) = some ad ∧ ∀ j u, cs.toList[j]? = some u → w'.cell? (ad.add j) = some u := by
  subst hb
  exact ⟨_, rfl, World.news_of_block ((Blk.new w t cs).fr hf (by simp))⟩
/-- What an object's words are behind its references. -/
def dataAt (h : HS) (i S P : Nat) : List Int := (List.range (S - 1 - P)).map fun (j : Nat) => (h.f (i + 1 + P + j) : Int)
theorem dataAt_len (h : HS) (i S P : Nat) : (dataAt h i S P).length = S - 1 - P := by simp [dataAt]
theorem dataAt_take (h : HS) (i S P : Nat) {j : Nat} (hj : j < S - 1 - P) : (dataAt h i S P).take (j + 1) = (dataAt h i S P).take j ++ [(h.f (i + 1 + P + j) : Int)] := by
  rw [take_getD (by rw [dataAt_len]; exact hj)]
  congr 2
  simp [dataAt, hj]
section
variable {W w : World} {Λ : HL} {h : HS} {s k : Nat} {tp mb : Nat} {L : List Int} {A : Option Addr} {n c : Nat} {out : List Int}
set_option maxHeartbeats 3200000 in
theorem hdescribe_any (a : ShH W w Λ h s k (fun _ => False) tp mb L A n c out) {i S P : Nat} (o : HS.ObjAt h i S P) {O : List Int}
    (hlb : ∀ r, r ∈ h.refsAt (i : Int) → 0 ≤ r ∧ r ≤ 4194304) (hO : visits L (h.refsAt (i : Int)) <+: O) (h0 : (0 : Int) ∉ O) (hOl : O.length ≤ 4194304) (hn : n ≤ 4400000000000) :
    Calls Tryz.prog 72 #[.pointer (some ⟨Λ.hb, 0, none⟩), .slice A n c, .pointer (some ⟨tp, 0, none⟩), .int .u64 ((i : Int) + 1)] w (TellH W Λ h s k (fun _ => False) tp mb (visits L (h.refsAt (i : Int))) (n + 2 + P + (S - 1 - P)) (out ++ [(P : Int), ((S - 1 - P : Nat) : Int)] ++ (h.refsAt (i : Int)).map (num O) ++ dataAt h i S P)) := by
  obtain ⟨i0, hi, hz0, hz1, hz2⟩ := info_parts Tryz.info_u64H
  have HA := hide a
  have hnm := a.base.ok.nmax
  have hfit := o.fit
  have hps := o.ps
  have hmx := o.max
  have HOB : Hid (∀ w', Hr w' Λ h s k → Calls Tryz.prog 19 #[.pointer (some ⟨Λ.hb, 0, none⟩), .int .u64 ((i : Int) + 1)] w' (HrP w' Λ h s k (.tuple #[.agg #[.int .i64 1, .int .i64 (S : Int), .int .i64 (P : Int), .int .i64 (atH h.n h.f (i : Int)).age, .int .i64 0], .int .i64 0]))) := fun w' h' => by
    have := hobject_any h' (r := (i : Int) + 1) (by omega) (by omega)
    rw [o.objE, o.objV] at this
    exact this
  unfold HrP at HOB
  have HAD : Hid (∀ w', Calls Tryz.prog 83 #[.int .u64 ((i : Int) + 1)] w' fun e w'' => e = .returned (.int .i64 (i : Int)) ∧ w' = w'') := fun w' => by
    have := address_any (r := (i : Int) + 1) (by omega) (by omega) w'
    rwa [show (i : Int) + 1 - 1 = (i : Int) by omega] at this
  have HRF : Hid (∀ w', Hr w' Λ h s k → Calls Tryz.prog 75 #[.pointer (some ⟨Λ.hb, 0, none⟩), .int .i64 (i : Int)] w' (HrR w' Λ h s k (h.refsAt (i : Int)))) := fun w' h' => hrefs_any h' o
  unfold HrR at HRF
  have HRL : Hid ((h.refsAt (i : Int)).length = P) := by show _ = _; rw [o.refs]; simp
  rw [HRL.out] at HRF
  have HWD : Hid (∀ w' a, Hr w' Λ h s k → a < h.n → Calls Tryz.prog 144 #[.pointer (some ⟨Λ.hb, 0, none⟩), .int .i64 (a : Int)] w' (HrP w' Λ h s k (.int .u64 (h.f a : Int)))) := fun w' a h' ha => hword_at h' ha
  unfold HrP at HWD
  have HDT := hide (fun j (hj : j < S - 1 - P) => dataAt_take h i S P hj)
  have HDL := hide (dataAt_len h i S P)
  have HLB := hide hlb
  have HO := hide hO
  have HO0 := hide h0
  have HOL := hide hOl
  obtain ⟨D, hD⟩ : ∃ D, D = S - 1 - P := ⟨_, rfl⟩
  rw [← hD] at HDT HDL ⊢
  have hDS : i + 1 + P + D = i + S := by omega

  have hw1 : IntKind.i64.wrap ((i : Int) + 1) = (i : Int) + 1 := IntWalk.i64_in _ ⟨by omega, by omega⟩
  have hw2 : IntKind.i64.wrap ((i : Int) + 1 + (P : Int)) = (i : Int) + 1 + (P : Int) := IntWalk.i64_in _ ⟨by omega, by omega⟩
  have hw3 : IntKind.i64.wrap ((i : Int) + (S : Int)) = (i : Int) + (S : Int) := IntWalk.i64_in _ ⟨by omega, by omega⟩
  have hw4 : IntKind.i64.wrap ((i : Int) + (S : Int) - ((i : Int) + 1 + (P : Int))) = (D : Int) := by rw [show (i : Int) + (S : Int) - ((i : Int) + 1 + (P : Int)) = (D : Int) by omega]; exact IntWalk.i64_in _ ⟨by omega, by omega⟩
  have hw5 : IntKind.u64.wrap (P : Int) = (P : Int) := IntWalk.u64_in _ ⟨by omega, by omega⟩
  have hw6 : IntKind.u64.wrap (D : Int) = (D : Int) := IntWalk.u64_in _ ⟨by omega, by omega⟩
  have HBn : Hid (n + 2 ≤ maxLen ∧ (n + 2) * 8 ≤ 140737488355328) := ⟨by unfold maxLen; omega, by omega⟩
  have HC1 := hide (HOB.out w a.hr)
  clear a o hlb hO h0 hOl hD
  generalize (atH h.n h.f (i : Int)).age = ag at *
  obtain ⟨n1, hn1⟩ : ∃ n1, n1 = n + 2 + P := ⟨_, rfl⟩
  obtain ⟨out1, ho1⟩ : ∃ out1, out1 = out ++ [(P : Int), (D : Int)] ++ (h.refsAt (i : Int)).map (num O) := ⟨_, rfl⟩
  obtain ⟨L1, hl1⟩ : ∃ L1, L1 = visits L (h.refsAt (i : Int)) := ⟨_, rfl⟩
  rw [← hn1, ← ho1, ← hl1]
  have HN1 := hide hn1
  have HO1 := hide ho1
  have HL1 := hide hl1
  clear hn1 ho1 hl1
  go_enter Tryz.func72, Tryz.ntmps72
  go_wp2_with (first | (go_at_call 19; refine HC1.out.mono ?_; rintro e w1 ⟨rfl, hH, hf⟩; have HS1 := hide (HA.out.look hH hf); clear hH hf) | (go_at_call 83; refine (HAD.out _).mono ?_; rintro e w' ⟨rfl, rfl⟩))
  go_quiet (fail)
  have HS2 : Hid (ShH W ((w1.alloc (.cells #[.int .i64 1, .int .i64 (S : Int), .int .i64 (P : Int), .int .i64 ag, .int .i64 0] 62)).drewN nq) Λ h s k (fun _ => False) tp mb L A n c out) := HS1.out.look0 (((Fr.refl _ _).alloc _).drewN _)
  have hX := (Blk.new w1 62 #[.int .i64 1, .int .i64 (S : Int), .int .i64 (P : Int), .int .i64 ag, .int .i64 0]).drewN nq
  obtain ⟨w2, hw2e⟩ : ∃ w2, w2 = (w1.alloc (.cells #[.int .i64 1, .int .i64 (S : Int), .int .i64 (P : Int), .int .i64 ag, .int .i64 0] 62)).drewN nq := ⟨_, rfl⟩
  rw [← hw2e] at HS2 hX ⊢
  have x2 : w2.cell? ⟨w1.heap.size, 2, none⟩ = some (.int .i64 (P : Int)) := hX.cell 2
  have NX := hX.lt
  clear hw2e hX
  generalize w1.heap.size = xb at *
  obtain ⟨G2, Go2, k1, k2, k3, k4⟩ := HS2.out.own
  have K1 := hide k1
  have K2 := hide k2
  have K3 := hide k3
  have K4 := hide k4
  have HLR1 : Hid (Lr (w2.alloc (.cells #[.int .u64 (P : Int), .int .u64 (D : Int)] 65)) 65 A n c Go2 (refV out)) := k2.alloc _
  clear k1 k2 k3 k4
  go_wp2_with (first | (at_builtin; refine wpList_append_lr rfl _ _ 36 rfl 65 i0 (.int .u64 0) 8 Tryz.underlying36 hi hz0 hz1 hz2 rfl rfl HLR1.out rfl (by rfl) (fun _ => news_atH w2 #[.int .u64 (P : Int), .int .u64 (D : Int)] 65 rfl _ (Fr.refl _ _)) (by intro u hu; simp at hu; rcases hu with rfl | rfl <;> rfl) HBn.out.1 HBn.out.2 ?_; intro A' c' G' w4 HLn HFn HGn; have HS4 : Hid (ShH W w4 Λ h s k (fun _ => False) tp mb L A' (n + 2) c' (out ++ [(P : Int), (D : Int)])) := ShH.app HS2.out K1.out K2.out K3.out K4.out (fun x hx => hx.elim) ((Fr.refl [] w2).alloc _) HFn.out (by rw [refV_app]; exact HLn.out) (fun g hg => (HGn.out g hg).imp id (fun h => by rw [h.1]; simp)); have HC4 := hide (HRF.out w4 HS4.out.hr)) | (go_at_call 75; refine HC4.out.mono ?_; rintro e w5 ⟨B5, cB5, G5, rfl, hl5, hg5, hH5, hf5⟩; have HS5 : Hid (ShH W w5 Λ h s k (fun x => x ∈ G5) tp mb L A' (n + 2) c' (out ++ [(P : Int), (D : Int)])) := ((HS4.out.weak (P' := fun x => w4.heap.size ≤ x) (fun x h1 h2 => absurd h2 (by omega))).look hH5 hf5).weak (fun x _ hx => hg5 x hx); have HT5 := hide (htell_any HS5.out (fun x hx => hl5.lt x hx) (by rw [HRL.out]; exact hl5) (fun g hg => hg) HLB.out HO.out HO0.out HOL.out (by omega) (by rw [HRL.out]; omega)); rw [HRL.out, ← HN1.out, ← HO1.out, ← HL1.out] at HT5; unfold TellH at HT5; clear hl5 hg5 hH5 hf5) | (go_at_call 70; refine HT5.out.mono ?_; rintro e w6 ⟨A6, c6, rfl, hs6⟩; have HS6 : Hid (ShH W w6 Λ h s k (fun _ => False) tp mb L1 A6 n1 c6 out1) := hs6.weak (fun _ _ h => h.elim); clear hs6))
  clear x2 NX
  have hn2 : n1 ≤ 4400000000000 + 2 + 1048576 := by have := HN1.out; omega
  go_loopw [1, 12] (fun p q wr => ∃ (j : Nat) (A' : Option Addr) (c' : Nat), q = .int .i64 ((i : Int) + 1 + (P : Int) + (j : Int)) ∧ p = .slice A' (n1 + j) c' ∧ j ≤ D ∧ ShH W wr Λ h s k (fun _ => False) tp mb L1 A' (n1 + j) c' (out1 ++ (dataAt h i S P).take j)) (fun _ q _ => i + S - (intOf q).toNat)
  case atStart => exact ⟨0, A6, c6, by simp, rfl, Nat.zero_le _, by simpa using HS6.out⟩
  case round =>
    obtain ⟨j, A7, c7, rfl, rfl, hj, hs⟩ := hrel
    have HS7 := hide hs
    clear hs
    have hw7 : IntKind.i64.wrap ((i : Int) + 1 + (P : Int) + (j : Int) + 1) = (i : Int) + 1 + (P : Int) + (j : Int) + 1 := IntWalk.i64_in _ ⟨by omega, by omega⟩
    by_cases hlt : j < D
    · have hlt1 : (i : Int) + 1 + (P : Int) + (j : Int) < (i : Int) + (S : Int) := by omega
      have HW7 := hide (HWD.out wr (i + 1 + P + j) HS7.out.hr (by omega))
      rw [show ((i + 1 + P + j : Nat) : Int) = (i : Int) + 1 + (P : Int) + (j : Int) by omega] at HW7
      have HTJ := hide (HDT.out j hlt)
      obtain ⟨y, hy⟩ : ∃ y : Int, y = (h.f (i + 1 + P + j) : Int) := ⟨_, rfl⟩
      rw [← hy] at HW7 HTJ
      clear hy
      have HB7 : Hid (n1 + j + 1 ≤ maxLen ∧ (n1 + j + 1) * 8 ≤ 140737488355328) := ⟨by unfold maxLen; omega, by omega⟩
      go_wp2_with fail
      refine HW7.out.mono ?_
      rintro e w8 ⟨rfl, hH8, hf8⟩
      have hs8 := HS7.out.look hH8 hf8
      obtain ⟨G8, Go8, k1, k2, k3, k4⟩ := hs8.own
      have HS8 := hide hs8
      have K18 := hide k1
      have K28 := hide k2
      have K38 := hide k3
      have K48 := hide k4
      have HLR8 : Hid (Lr (w8.alloc (.cells #[.int .u64 y] 65)) 65 A7 (n1 + j) c7 Go8 (refV (out1 ++ (dataAt h i S P).take j))) := k2.alloc _
      clear k1 k2 k3 k4 hs8 hH8 hf8
      go_wp2_with (first | (at_builtin; refine wpList_append_lr rfl _ _ 36 rfl 65 i0 (.int .u64 0) 8 Tryz.underlying36 hi hz0 hz1 hz2 rfl rfl HLR8.out rfl (by rfl) (fun _ => one_of w8 (.int .u64 y) 65 rfl _ (Fr.refl _ _)) (by intro u hu; simp at hu; subst hu; rfl) HB7.out.1 HB7.out.2 ?_; intro A9 c9 G9 w9 HLn9 HFn9 HGn9))
      have HS9 : Hid (ShH W w9 Λ h s k (fun _ => False) tp mb L1 A9 (n1 + j + 1) c9 (out1 ++ (dataAt h i S P).take (j + 1))) :=
        ShH.app HS8.out K18.out K28.out K38.out K48.out (fun x hx => hx.elim) ((Fr.refl [] w8).alloc _) HFn9.out (by rw [HTJ.out, ← List.append_assoc, refV_snocH]; exact HLn9.out) (fun g hg => (HGn9.out g hg).imp id (fun h => by rw [h.1]; simp))
      go_roundw
      case rel => exact ⟨j + 1, A9, c9, by go_num, rfl, by omega, HS9.out⟩
      case measure => simp [intOf]; omega
    · obtain rfl : j = D := by omega
      have hlt1 : ¬ (i : Int) + 1 + (P : Int) + (j : Int) < (i : Int) + (S : Int) := by omega
      have HTE : Hid ((dataAt h i S P).take j = dataAt h i S P) := by show _ = _; rw [List.take_of_length_le]; rw [HDL.out]; exact Nat.le_refl _
      go_wp2_with fail
      go_ret
      refine ⟨A7, c7, rfl, ?_⟩
      have := HS7.out
      rwa [HTE.out] at this
end
end Go.Proofs.YtapglokadaibnaaGreatDoor
/- Package heap: Shape. -/
namespace Go.Proofs.YtapglokadaibnaaGreatDoor
set_option linter.unusedVariables false
set_option linter.unusedSimpArgs false
set_option maxRecDepth 100000
open Go.RowKit Go.Gl

/-- What Shape answers. -/
def ShpP (w : World) (L : HL) (h : HS) (s k : Nat) (l : List Int) (er : Int) (e : Ending) (w' : World) : Prop :=
  ∃ A c G, e = .returned (.tuple #[.slice A l.length c, .int .i64 er]) ∧ Lr w' 65 A l.length c G (refV l) ∧ (∀ g, g ∈ G → w.heap.size ≤ g) ∧ Hr w' L h s k ∧ Fr [L.ab] w w'
section
variable {w : World} {L : HL} {h : HS} {s k : Nat}
theorem bfs_upto {σ : GS} {T : Nat} {O : List Int} (hO : order σ T = O) (ok : GIn σ) (k : Nat) : bfs σ T k <+: O := hO ▸ gbfs_order ok k
/-- What an object tells. -/
theorem shapeO_at {i S P : Nat} (o : HS.ObjAt h i S P) (ha : (i : Int) ∈ h.objL) (O : List Int) : shapeO h.gs O ((i : Int) + 1) = [(P : Int), ((S - 1 - P : Nat) : Int)] ++ (h.refsAt (i : Int)).map (num O) ++ dataAt h i S P := by
  unfold shapeO
  rw [HS.gs_kids o ha, (HS.gs_np o ha).1, (HS.gs_np o ha).2, HS.gs_datas o ha]
  rfl
theorem rootsOf_split (σ : GS) (m T : Nat) (h : m ≤ T) : ∃ l, rootsOf σ T = rootsOf σ m ++ l := by
  induction T with
  | zero => obtain rfl : m = 0 := by omega
            exact ⟨[], by simp⟩
  | succ T ih =>
    rcases Nat.eq_or_lt_of_le h with rfl | h
    · exact ⟨[], by simp⟩
    · obtain ⟨l, e⟩ := ih (by omega)
      exact ⟨l ++ σ.st T, by rw [rootsOf_succ, e, List.append_assoc]⟩
theorem gs_st (h : HS) {t : Nat} (ht : t < h.T) : h.gs.st t = h.st t := by
  show (if t < h.T then h.st t else []) = _
  rw [if_pos ht]
set_option maxHeartbeats 6400000 in
theorem hshape_ok (H : Hr w L h s k) (hs : h.Sound) : Calls Tryz.prog 13 #[.pointer (some ⟨L.hb, 0, none⟩)] w (ShpP w L h s k (shape h.gs h.T) 0) := by
  obtain ⟨i0, hi, hz0, hz1, hz2⟩ := info_parts Tryz.info_u64H
  have HC := hide (hcheck_any H)
  rw [checkE_ok hs] at HC
  unfold HrP at HC
  have ok := H.ok
  have gin := HS.gs_in ok hs
  obtain ⟨O, hO⟩ : ∃ O, order h.gs h.T = O := ⟨_, rfl⟩
  have HBP := hide (fun k => bfs_upto hO gin k)
  have HO0 : Hid ((0 : Int) ∉ O) := hO ▸ gorder_0 gin
  have hnm := ok.nmax
  have HOL : Hid (O.length ≤ h.n) := hO ▸ gorder_len gin
  have HBE : Hid (∀ k, (bfs h.gs h.T k).length ≤ k → O = bfs h.gs h.T k) := fun k hk => hO ▸ gbfs_end gin hk
  have HBI := hide (HS.gs_order ok hs)
  have HOK := hide ok
  have HSO := hide hs
  have HIN := hide gin
  have HSH : Hid (shape h.gs h.T = (List.range h.T).flatMap (shapeT h.gs O) ++ O.flatMap (shapeO h.gs O)) := by
    show shape h.gs h.T = _
    unfold shape
    rw [hO]
  have HLi : Hid (∀ w' i, Hr w' L h s k → i < h.T → Calls Tryz.prog 71 #[.pointer (some ⟨L.S i, 0, none⟩)] w' (ClonePost w' (h.st i))) := fun w' i h' hi => by
    obtain ⟨F, h1⟩ := h'.stk i hi
    exact hlist_any h1 (by have := h'.ok.rlen i hi; omega)
  unfold ClonePost at HLi
  have HLn : Hid (∀ w' i, Hr w' L h s k → i < h.T → Calls Tryz.prog 69 #[.pointer (some ⟨L.S i, 0, none⟩)] w' fun e w'' => e = .returned (.int .i64 ((h.st i).length : Int)) ∧ w' = w'') := fun w' i h' hi => by
    obtain ⟨F, h1⟩ := h'.stk i hi
    exact hlen_any h1
  have hmm := @run_makeMap Tryz.prog
  unfold ShpP
  have HH0 := hide H
  clear H ok hs gin
  go_enter Tryz.func13, Tryz.ntmps13
  go_wp2_with (go_at_call 14; refine HC.out.mono ?_; rintro e w1 ⟨rfl, hH, hf⟩; have HH := hide hH; have HF := hide hf; obtain ⟨rA, hrA0⟩ : ∃ rA, rA = L.rA := ⟨_, rfl⟩; have r0 := hH.cR; rw [← hrA0] at r0; have HRA := hide hrA0; clear hrA0; have NH := hH.st.lt; clear hH hf)
  have HT0 : Hid (ShH w ((w1.alloc (.map #[] 0)).alloc (.cells #[.slice none 0 0, .map (some w1.heap.size)] 142)) L h s k (fun _ => False) (w1.heap.size + 1) w1.heap.size [] none 0 0 []) := by
    have hsz := HF.out.size
    refine ⟨HH0.out, (HH.out.fr0 ((Fr.refl _ _).alloc _)).fr0 ((Fr.refl _ _).alloc _), (HF.out.alloc _).alloc _, [], [], ⟨none, 0, Blk.new_at _ _ (by simp), Lr.nil _ _, fun _ => none, (Mp.made w1).fr0 ((Fr.refl _ _).alloc _), fun r => rfl⟩, Lr.nil _ _, fun x hx => ⟨?_, fun h => h⟩, fun x hx => by cases hx⟩
    simp at hx
    omega
  generalize (w1.alloc (.map #[] 0)).alloc (.cells #[.slice none 0 0, .map (some w1.heap.size)] 142) = w2 at *
  obtain ⟨tp, htp⟩ : ∃ tp, tp = w1.heap.size + 1 := ⟨_, rfl⟩
  rw [← htp] at HT0 ⊢
  clear htp hmm r0 NH
  generalize w1.heap.size = mb at *
  go_loopw [6, 23] (fun p i wr => ∃ (t : Nat) (A' : Option Addr) (n' c' : Nat), i = .int .i64 t ∧ p = .slice A' n' c' ∧ n' ≤ t * 65 ∧ t ≤ h.T ∧ ShH w wr L h s k (fun _ => False) tp mb (visits [] (rootsOf h.gs t)) A' n' c' ((List.range t).flatMap (shapeT h.gs O))) (fun _ i _ => h.T - (intOf i).toNat)
  case atStart => exact ⟨0, none, 0, 0, rfl, rfl, Nat.zero_le _, Nat.zero_le _, HT0.out⟩
  case round =>
    obtain ⟨t, A1, n1, c1, rfl, rfl, hn1, htT, hs1⟩ := hrel
    by_cases hlt : t < h.T
    · have hlt1 : (t : Int) < (h.T : Int) := by omega
      have hTm := HOK.out.tm
      obtain ⟨gr, offr, hrA, _, hgr, hclr, _⟩ := hs1.hr.row.pos (by omega)
      have hrA' := HRA.out.trans hrA
      clear hrA HRA
      subst hrA'
      have c0 : wr.cell? ⟨gr, offr + t, none⟩ = some (.pointer (some ⟨L.S t, 0, none⟩)) := by rw [hclr t hlt, stkV_at _ hlt]
      have HLT := hide hlt
      have HS1 := hide hs1
      have HNL := hide (HLn.out wr t hs1.hr hlt)
      have HLL := hide (HOK.out.rlen t hlt)
      have hrk := HOK.out.rok t hlt
      have HLB : Hid (∀ r, r ∈ h.st t → 0 ≤ r ∧ r ≤ 4194304) := fun r hr => by
        rcases HSO.out.stk t hlt r hr with h1 | h1
        · omega
        · have := HOK.out.obj_lt _ h1; omega
      have HVS : Hid (visits (visits [] (rootsOf h.gs t)) (h.st t) = visits [] (rootsOf h.gs (t + 1))) := by
        show _ = _
        rw [rootsOf_succ, visits_app, gs_st h hlt]
      have HPR : Hid (visits (visits [] (rootsOf h.gs t)) (h.st t) <+: O) := by
        show _ <+: _
        rw [HVS.out]
        obtain ⟨l, e⟩ := rootsOf_split h.gs (t + 1) h.T (by omega)
        have h1 : visits [] (rootsOf h.gs (t + 1)) <+: visits [] (rootsOf h.gs h.T) := by rw [e, visits_app]; exact visits_pre _ _
        exact h1.trans (HBP.out 0)
      have HSX : Hid ((List.range (t + 1)).flatMap (shapeT h.gs O) = (List.range t).flatMap (shapeT h.gs O) ++ [((h.st t).length : Int)] ++ (h.st t).map (num O)) := by
        show _ = _
        rw [List.range_succ, List.flatMap_append]
        simp [shapeT, gs_st h hlt]
      obtain ⟨ln, hln⟩ : ∃ ln, ln = (h.st t).length := ⟨_, rfl⟩
      have HLE := hide hln
      rw [← hln] at HNL HSX HLL
      have hlb : ln ≤ 64 := HLL.out
      have hwl : IntKind.u64.wrap (ln : Int) = (ln : Int) := IntWalk.u64_in _ ⟨by omega, by omega⟩
      have HBn : Hid (n1 + 1 ≤ maxLen ∧ (n1 + 1) * 8 ≤ 140737488355328) := ⟨by unfold maxLen; omega, by omega⟩
      obtain ⟨Ga, Goa, k1, k2, k3, k4⟩ := hs1.own
      have K1 := hide k1
      have K2 := hide k2
      have K3 := hide k3
      have K4 := hide k4
      have HLR2 : Hid (Lr (wr.alloc (.cells #[.int .u64 (ln : Int)] 65)) 65 A1 n1 c1 Goa (refV ((List.range t).flatMap (shapeT h.gs O)))) := k2.alloc _
      clear hclr hs1 hln k1 k2 k3 k4 HT0 hrk
      go_wp2_with (first | (go_at_call 69; refine HNL.out.mono ?_; rintro e w' ⟨rfl, rfl⟩) | (at_builtin; refine wpList_append_lr rfl _ _ 36 rfl 65 i0 (.int .u64 0) 8 Tryz.underlying36 hi hz0 hz1 hz2 rfl rfl HLR2.out rfl (by rfl) (fun _ => one_of wr (.int .u64 (ln : Int)) 65 rfl _ (Fr.refl _ _)) (by intro u hu; simp at hu; subst hu; rfl) HBn.out.1 HBn.out.2 ?_; intro A' c' G' w4 HLn4 HFn4 HGn4; have HS4 : Hid (ShH w w4 L h s k (fun _ => False) tp mb (visits [] (rootsOf h.gs t)) A' (n1 + 1) c' ((List.range t).flatMap (shapeT h.gs O) ++ [(ln : Int)])) := ShH.app HS1.out K1.out K2.out K3.out K4.out (fun x hx => hx.elim) ((Fr.refl [] wr).alloc _) HFn4.out (by rw [refV_snocH]; exact HLn4.out) (fun g hg => (HGn4.out g hg).imp id (fun h => by rw [h.1]; simp)); have HC4 := hide (HLi.out w4 t HS4.out.hr HLT.out); rw [← HLE.out] at HC4) | (go_at_call 71; refine HC4.out.mono ?_; rintro e w5 ⟨B5, cB5, G5, rfl, hl5, hf5, hg5⟩; have HS5 : Hid (ShH w w5 L h s k (fun x => x ∈ G5) tp mb (visits [] (rootsOf h.gs t)) A' (n1 + 1) c' ((List.range t).flatMap (shapeT h.gs O) ++ [(ln : Int)])) := ((HS4.out.weak (P' := fun x => w4.heap.size ≤ x) (fun x h1 h2 => absurd h2 (by omega))).look0 hf5).weak (fun x _ hx => hg5 x hx); have HT5 := hide (htell_any HS5.out (fun x hx => hl5.lt x hx) (by rw [← HLE.out]; exact hl5) (fun g hg => hg) HLB.out HPR.out HO0.out (Nat.le_trans HOL.out hnm) (by omega) (by have := HLL.out; have := HLE.out; omega)); rw [HVS.out, ← HSX.out, ← HLE.out] at HT5; unfold TellH at HT5; clear hl5 hg5 hf5) | (go_at_call 70; refine HT5.out.mono ?_; rintro e w6 ⟨A6, c6, rfl, hs6⟩; have HS6 := hide (hs6.weak (P' := fun _ => False) (fun _ _ h => h.elim)); clear hs6))
      have HS7 : Hid (ShH w w6 L h s k (fun _ => False) tp mb (visits [] (rootsOf h.gs (t + 1))) A6 (n1 + 1 + ln) c6 ((List.range (t + 1)).flatMap (shapeT h.gs O))) := HS6.out
      have hn7 : n1 + 1 + ln ≤ (t + 1) * 65 := by omega
      exact ⟨⟨t + 1, A6, n1 + 1 + ln, c6, by go_num, rfl, hn7, by omega, HS7.out⟩, by simp [intOf]; omega⟩
    · obtain rfl : t = h.T := by omega
      have HTM := hide HOK.out.tm
      have hn2 : n1 ≤ 4160 := by have := HTM.out; omega
      have HS1 := hide hs1
      clear hs1 HT0 hn1
      go_wp2_with fail
      go_loopw [6, 9] (fun p q wr => ∃ (j : Nat) (A' : Option Addr) (n' c' : Nat), q = .int .i64 j ∧ p = .slice A' n' c' ∧ n' ≤ 4160 + j * 1048578 ∧ j ≤ 4194304 ∧ ShH w wr L h s k (fun _ => False) tp mb (bfs h.gs h.T j) A' n' c' ((List.range h.T).flatMap (shapeT h.gs O) ++ (O.take j).flatMap (shapeO h.gs O))) (fun _ q _ => 4194304 - (intOf q).toNat)
      case atStart => exact ⟨0, A1, n1, c1, rfl, rfl, by omega, by omega, by simpa [bfs] using HS1.out⟩
      case round =>
        obtain ⟨j, A2, n2, c2, rfl, rfl, hn3, hj, hs2⟩ := hrel
        obtain ⟨G, Go, ⟨AL, cL, l1, l2, l3⟩, k2, k3, k4⟩ := hs2.own
        have x0 : wr.cell? ⟨tp, 0, none⟩ = some (.slice AL (bfs h.gs h.T j).length cL) := l1.cell 0
        have hpre := HBP.out j
        have hlen : (bfs h.gs h.T j).length ≤ 4194304 := Nat.le_trans hpre.length_le (Nat.le_trans HOL.out hnm)
        have HS2 := hide hs2
        by_cases hlt2 : j < (bfs h.gs h.T j).length
        · obtain ⟨r, hr⟩ : ∃ r, (bfs h.gs h.T j)[j]? = some r := ⟨_, List.getElem?_eq_getElem hlt2⟩
          have hrm := List.mem_of_getElem? hr
          have hra := HBI.out j r hrm
          obtain ⟨i, S, P, hri, o⟩ := HOK.out.objAt hra
          obtain rfl : r = (i : Int) + 1 := by omega
          rw [hri] at hra
          obtain ⟨gl, ol, hAL, _, _, hcell, _, _⟩ := l2.pos (by omega)
          subst hAL
          have y0 : wr.cell? ⟨gl, ol + j, none⟩ = some (.int .u64 ((i : Int) + 1)) := by
            rw [hcell j hlt2]
            unfold refV
            rw [List.getElem?_map, hr]
            rfl
          have hst := bfs_step h.gs h.T hr
          rw [HS.gs_kids o hra] at hst
          have hlb : ∀ r, r ∈ h.refsAt (i : Int) → 0 ≤ r ∧ r ≤ 4194304 := fun r hr => by
            rcases HSO.out.refs _ hra r hr with h1 | h1
            · omega
            · have := HOK.out.obj_lt _ h1; omega
          have HDS := hide (hdescribe_any hs2 o hlb (by rw [← hst]; exact HBP.out (j + 1)) HO0.out (Nat.le_trans HOL.out hnm) (by omega))
          rw [← hst] at HDS
          unfold TellH at HDS
          have hOk : O[j]? = some ((i : Int) + 1) := by
            obtain ⟨l, hl⟩ := hpre
            rw [← hl, List.getElem?_append_left hlt2]
            exact hr
          have HSX : Hid ((List.range h.T).flatMap (shapeT h.gs O) ++ (O.take (j + 1)).flatMap (shapeO h.gs O) = (List.range h.T).flatMap (shapeT h.gs O) ++ (O.take j).flatMap (shapeO h.gs O) ++ [(P : Int), ((S - 1 - P : Nat) : Int)] ++ (h.refsAt (i : Int)).map (num O) ++ dataAt h i S P) := by
            show _ = _
            rw [List.take_add_one, hOk]
            simp only [Option.toList_some, List.flatMap_append, List.flatMap_cons, List.flatMap_nil, List.append_nil]
            rw [shapeO_at o hra O]
            simp [List.append_assoc]
          rw [← HSX.out] at HDS
          have hps : n2 + 2 + P + (S - 1 - P) ≤ 4160 + (j + 1) * 1048578 := by have := o.ps; have := o.max; omega
          have HPS := hide hps
          have hj4 : j + 1 ≤ 4194304 := by omega
          obtain ⟨ml, hml⟩ : ∃ ml, ml = (bfs h.gs h.T j).length := ⟨_, rfl⟩
          rw [← hml] at x0 hlt2 hlen
          have hlt3 : (j : Int) < (ml : Int) := by omega
          clear hs2 l1 l2 l3 k2 k3 k4 hpre hr hrm hra hcell hst hlb hOk hml HS1 hps o hri HSX
          generalize n2 + 2 + P + (S - 1 - P) = n5 at *
          go_wp2_with fail
          refine HDS.out.mono ?_
          rintro e w3 ⟨A4, c4, rfl, hs4⟩
          have HS4 := hide hs4
          clear hs4 HDS x0 y0
          go_wp2_with fail
          go_roundw
          case rel => exact ⟨j + 1, A4, n5, c4, by go_num, rfl, HPS.out, by omega, HS4.out⟩
          case measure => simp [intOf]; omega
        · have hOe := HBE.out j (by omega)
          have htk : O.take j = O := by rw [List.take_of_length_le]; rw [hOe]; omega
          have HEND : Hid (ShH w wr L h s k (fun _ => False) tp mb (bfs h.gs h.T j) A2 n2 c2 (shape h.gs h.T)) := by
            show ShH _ _ _ _ _ _ _ _ _ _ _ _ _ _
            rw [HSH.out]
            rwa [htk] at hs2
          obtain ⟨ml, hml⟩ : ∃ ml, ml = (bfs h.gs h.T j).length := ⟨_, rfl⟩
          rw [← hml] at x0 hlt2 hlen
          have hlt3 : ¬ (j : Int) < (ml : Int) := by omega
          have NT : tp < wr.heap.size := l1.lt
          clear hs2 l1 l2 l3 k2 k3 k4 hpre hml HS1 htk hOe
          go_wp2_with fail
          go_ret2
          obtain ⟨G9, Go9, k19, k29, k39, k49⟩ := HEND.out.own
          obtain rfl : n2 = (shape h.gs h.T).length := by have := k29.len; rw [refV_len] at this; exact this.symm
          exact ⟨A2, c2, rfl, Go9, k29, fun g hg => (k49 g hg).1, HEND.out.hr, HEND.out.fr⟩
end
end Go.Proofs.YtapglokadaibnaaGreatDoor
