/- gleanerref18: Choose. -/
import Derived.Test.YteggdpcfeljphaaKg
namespace Go.Gl
/-- The keys of those that aren't done. -/
def und (n : Nat) (D : Nat → Bool) (key : Nat → Int × Int) : List (Int × Int) := ((List.range n).filter fun i => !D i).map key
theorem und_pick {n k : Nat} {D : Nat → Bool} (key : Nat → Int × Int) (hk : k < n) (hd : D k = false) : (und n D key).Perm (key k :: und n (putF D k true) key) := by
  unfold und
  rw [← List.map_cons]
  refine List.Perm.map _ ?_
  have hm : k ∈ (List.range n).filter fun i => !D i := by simp [hk, hd]
  have hn : ((List.range n).filter fun i => !D i).Nodup := List.Pairwise.filter _ List.nodup_range
  refine (List.perm_cons_erase hm).trans (List.Perm.cons _ ?_)
  rw [List.Nodup.erase_eq_filter hn, List.filter_filter]
  refine List.Perm.of_eq (List.filter_congr fun i _ => ?_)
  unfold putF
  by_cases h : i = k
  · subst h; simp
  · simp [h]
theorem und_none (n : Nat) (key : Nat → Int × Int) : und n (fun _ => false) key = (List.range n).map key := by
  unfold und
  rw [List.filter_eq_self.2 (by simp)]
theorem und_some {n : Nat} {D : Nat → Bool} {key : Nat → Int × Int} (h : 0 < (und n D key).length) : ∃ i, i < n ∧ D i = false := by
  unfold und at h
  rw [List.length_map] at h
  obtain ⟨i, hi⟩ := List.exists_mem_of_length_pos h
  simp at hi
  exact ⟨i, hi⟩
theorem und_step {n k r : Nat} {D : Nat → Bool} {key : Nat → Int × Int} {s : List (Int × Int)} (hk : k < n) (hd : D k = false) (hmin : ∀ j, j < n → D j = false → kle (key k) (key j)) (h : Srt (und n D key) (s.drop r)) :
    s.getD r (0, 0) = key k ∧ Srt (und n (putF D k true) key) (s.drop (r + 1)) := by
  have hp := h.perm.trans (und_pick key hk hd)
  have hup := h.up
  have hdrop : s.drop (r + 1) = (s.drop r).drop 1 := by rw [List.drop_drop]
  have hg : s.getD r (0, 0) = (s.drop r).getD 0 (0, 0) := by simp
  rw [hdrop, hg]
  have hperm := h.perm
  clear hdrop hg h
  generalize s.drop r = rest at *
  cases rest with
  | nil => have := hp.length_eq; simp at this
  | cons a t =>
    obtain ⟨u1, u2⟩ := List.pairwise_cons.1 hup
    have e : a = key k := by
      have h1 : key k ∈ a :: t := hp.mem_iff.2 (by simp)
      have h2 : a ∈ und n D key := hperm.mem_iff.1 (by simp)
      unfold und at h2
      obtain ⟨j, hj, rfl⟩ := List.mem_map.1 h2
      simp at hj
      have h3 := hmin j hj.1 hj.2
      rcases List.mem_cons.1 h1 with h1 | h1
      · exact h1.symm
      · exact kle_antisymm (u1 _ h1) h3
    subst e
    exact ⟨by simp, ⟨hp.cons_inv, u2⟩⟩
end Go.Gl
namespace Go.Proofs.Yteggdpcfeljphaa
set_option linter.unusedVariables false
set_option maxRecDepth 100000
open Go.RowKit Go.Gl Go.Shelf Go.Sort

theorem Try.info_bool : (Try.prog.info? 4).map (fun i => (i.zero, i.size, i.bytes)) = some (some (.bool false), 1, 1) := by kernel_rfl
/-- A list of numbers among new memory, a set. -/
def OutAt (w wr : World) (S : Int → Prop) (m : Nat) (v : Value) : Prop := ∃ A c G l, v = .slice A l.length c ∧ Lr wr 3 A l.length c G (zv l) ∧ IsSet S l ∧ l.length ≤ m ∧ ∀ g, g ∈ G → w.heap.size ≤ g
theorem OutAt.fr0 {w wr w' : World} {S : Int → Prop} {m : Nat} {v : Value} (h : OutAt w wr S m v) (hf : Fr [] wr w') : OutAt w w' S m v := by
  obtain ⟨A, c, G, l, e, h1, h2, h3, h4⟩ := h
  exact ⟨A, c, G, l, e, h1.fr0 hf, h2, h3, h4⟩
theorem OutAt.far {w wr w' : World} {S : Int → Prop} {m : Nat} {v : Value} (h : OutAt w wr S m v) {g : Nat} {t : TypeId} {cs : Array Value} (hb : Blk wr g t cs) (hne : 3 ≠ t) (hf : Fr [g] wr w') : OutAt w w' S m v := by
  obtain ⟨A, c, G, l, e, h1, h2, h3, h4⟩ := h
  exact ⟨A, c, G, l, e, h1.fr hf (fun x hx hm => by simp at hm; subst hm; exact h1.apart hb hne hx), h2, h3, h4⟩
/-- add, of such a list. -/
theorem OutAt.add {w wr : World} {S : Int → Prop} {m : Nat} {v : Value} (h : OutAt w wr S m v) (hm : m ≤ 65536) (hsz : w.heap.size ≤ wr.heap.size) (x : Int) (hfw : Fr [] w wr) :
    Calls Try.prog 18 #[v, .int .i64 x] wr fun e w' => ∃ v', e = .returned v' ∧ OutAt w w' (fun y => S y ∨ y = x) (m + 1) v' ∧ Fr [] w w' ∧ ∀ g t cs, Blk wr g t cs → 3 ≠ t → Blk w' g t cs := by
  obtain ⟨A, c, G, l, rfl, h1, h2, h3, h4⟩ := h
  refine (r18add_any h1 h2 (by omega) x).mono ?_
  rintro e w' ⟨A', r, c', G', rfl, q1, q2, q3, q4, q5⟩
  refine ⟨_, rfl, ⟨A', c', G', r, rfl, q2, q1, by omega, fun g hg => ?_⟩, hfw.trans q3 (fun g hg => .inr (h4 g hg)), fun g t cs hb hne => hb.fr q3 (h1.apart hb hne)⟩
  rcases q4 g hg with h | h
  · exact h4 g h
  · omega
/-- What the inner loop has found among the first i. -/
def Found (D : Nat → Bool) (key : Nat → Int × Int) (i : Nat) (z : Int) : Prop := (z = -1 ∧ ∀ j, j < i → D j = true) ∨ ∃ m : Nat, m < i ∧ z = (m : Int) ∧ D m = false ∧ ∀ j, j < i → D j = false → kle (key m) (key j)
theorem Found.skip {D : Nat → Bool} {key : Nat → Int × Int} {i : Nat} {z : Int} (h : Found D key i z) (hd : D i = true) : Found D key (i + 1) z := by
  rcases h with ⟨h1, h2⟩ | ⟨m, h1, h2, h3, h4⟩
  · refine .inl ⟨h1, fun j hj => ?_⟩
    rcases Nat.lt_or_ge j i with h | h
    · exact h2 j h
    · rw [show j = i by omega]; exact hd
  · refine .inr ⟨m, by omega, h2, h3, fun j hj he => ?_⟩
    rcases Nat.lt_or_ge j i with h | h
    · exact h4 j h he
    · rw [show j = i by omega, hd] at he; cases he
theorem Found.first {D : Nat → Bool} {key : Nat → Int × Int} {i : Nat} (h : Found D key i (-1)) (hd : D i = false) : Found D key (i + 1) (i : Int) := by
  rcases h with ⟨h1, h2⟩ | ⟨m, h1, h2, h3, h4⟩
  · refine .inr ⟨i, by omega, rfl, hd, fun j hj he => ?_⟩
    rcases Nat.lt_or_ge j i with h | h
    · rw [h2 j h] at he; cases he
    · rw [show j = i by omega]; exact kle_refl _
  · omega
theorem Found.better {D : Nat → Bool} {key : Nat → Int × Int} {i m : Nat} (h : Found D key i (m : Int)) (hd : D i = false) (hk : klt (key i) (key m) = true) : Found D key (i + 1) (i : Int) := by
  have hk' := (klt_iff _ _).1 hk
  rcases h with ⟨h1, h2⟩ | ⟨m', h1, h2, h3, h4⟩
  · omega
  · obtain rfl : m = m' := by omega
    refine .inr ⟨i, by omega, rfl, hd, fun j hj he => ?_⟩
    rcases Nat.lt_or_ge j i with h | h
    · rcases kle_total (key i) (key m) with h5 | h5
      · exact kle_trans h5 (h4 j h he)
      · exact absurd h5 hk'
    · rw [show j = i by omega]; exact kle_refl _
theorem Found.worse {D : Nat → Bool} {key : Nat → Int × Int} {i m : Nat} (h : Found D key i (m : Int)) (hk : klt (key i) (key m) = false) : Found D key (i + 1) (m : Int) := by
  have hk' : kle (key m) (key i) := Classical.byContradiction fun hn => by rw [(klt_iff _ _).2 hn] at hk; cases hk
  rcases h with ⟨h1, h2⟩ | ⟨m', h1, h2, h3, h4⟩
  · omega
  · obtain rfl : m = m' := by omega
    refine .inr ⟨m, by omega, rfl, h3, fun j hj he => ?_⟩
    rcases Nat.lt_or_ge j i with h | h
    · exact h4 j h he
    · rw [show j = i by omega]; exact hk'
def R18ChooseP (w : World) (Y : List Int) (L : List (Int × Int)) (b : Int) (e : Ending) (w' : World) : Prop :=
  ∃ A r c G, e = .returned (.slice A r.length c) ∧ IsSet (Chosen Y L b) r ∧ Lr w' 3 A r.length c G (zv r) ∧ Fr [] w w' ∧ r.length ≤ Y.length + L.length
set_option maxHeartbeats 3200000 in
theorem r18choose_any {w : World} {A0 : Option Addr} {c0 : Nat} {Y : List Int} (hY : Sl w A0 Y.length (fun k => .int .i64 (Y.getD k 0))) (hYl : Y.length ≤ 1024) {A : Option Addr} {n c : Nat} {f : Nat → Nat → Int} (h : Recs w A n 2 (fun _ => .i64) f) (hl : n ≤ 1024) (b : Int)
    (hb : -9223372036854775808 ≤ b ∧ b ≤ 9223372036854775807) (hf : ∀ i, i < n → f i 1 ≤ 9223372036854775807) :
    Calls Try.prog 12 #[.slice A0 Y.length c0, .slice A n c, .int .i64 b] w (R18ChooseP w Y (candL n f) b) := by
  obtain ⟨i0, hi, hz0, hz1, hz2⟩ := info_parts Try.info_bool
  have H := hide h
  have HY := hide hY
  have HB := hide hb
  have HF1 := hide hf
  clear h hY hb hf
  go_enter Try.func12, Try.ntmps12
  go_wp2_with fail
  go_loopw [8, 7] (fun (x : Value) (y : Value) wr => ∃ k : Nat, x = .int .i64 k ∧ k ≤ Y.length ∧ OutAt w wr (· ∈ Y.take k) k y ∧ Fr [] w wr) (fun x _ _ => Y.length - (intOf x).toNat)
  case atStart => exact ⟨0, rfl, Nat.zero_le _, ⟨none, 0, [], [], rfl, Lr.nil _ _, ⟨List.Pairwise.nil, fun x => by simp⟩, Nat.zero_le _, fun g hg => by cases hg⟩, Fr.refl _ _⟩
  case round =>
    obtain ⟨k, rfl, hk, ho, hfr⟩ := hrel
    have HO := hide ho
    have HF := hide hfr
    clear ho hfr
    by_cases hlt : k < Y.length
    · have hlt1 : (k : Int) < (Y.length : Int) := by omega
      obtain ⟨b2, o2, rfl, hb2, hc⟩ := HY.out (by omega)
      have ct : wr.cell? ⟨b2, o2 + k, none⟩ = some (.int .i64 (Y.getD k 0)) := (HF.out.cell (p := ⟨b2, o2 + k, none⟩) hb2 (by simp)).trans (hc k hlt)
      have HS : Hid (∀ z, (z ∈ Y.take k ∨ z = Y.getD k 0) ↔ z ∈ Y.take (k + 1)) := fun z => by
        have e : Y.take (k + 1) = Y.take k ++ [Y.getD k 0] := by rw [List.take_add_one]; simp [hlt]
        rw [e]; simp
      have TA := hide (HO.out.add (by omega) HF.out.size (Y.getD k 0) HF.out)
      clear hc
      generalize Y.getD k 0 = y at *
      go_wp2_with fail
      refine TA.out.mono ?_
      rintro e w2 ⟨v', rfl, ho2, hf2, _⟩
      have HO2 := hide ho2
      have HF2 := hide hf2
      clear ho2 hf2 TA
      go_wp2_with fail
      go_roundw
      case rel =>
        refine ⟨k + 1, by go_num, by omega, ?_, HF2.out⟩
        obtain ⟨A', c', G', l, e, h1, h2, h3, h4⟩ := HO2.out
        exact ⟨A', c', G', l, e, h1, h2.congr HS.out, h3, h4⟩
      case measure => simp [intOf]; omega
    · obtain rfl : k = Y.length := by omega
      have HO1 : Hid (OutAt w wr (· ∈ Y) Y.length u7) := by have := HO.out; rwa [List.take_length] at this
      have HSZ := hide HF.out.size
      clear HO hk hlt
      go_wp2_with (first | (at_make; go_loud (refine wpList_make_full _ rfl _ _ 38 rfl wr.heap.size 4 i0 (.bool false) 1 Try.underlying38 hi hz0 hz1 _ _ _ _ n rfl rfl rfl rfl (by rw [hz2]; omega) (by unfold maxLen; omega) (Nat.le_refl _) ?_; intro w1 hown hgr)))
      have HD0 : Hid (Blk w1 wr.heap.size 4 (rowF n fun k => .bool false)) := by
        have h := own_full hown
        rw [Nat.mul_one, made_one _ rfl] at h
        show Blk _ _ _ _
        rw [rowF_const]
        exact h
      have HO2 : Hid (OutAt w w1 (· ∈ Y) Y.length u7) := HO1.out.fr0 ((Fr.refl [] wr).grown hgr fun k hk => by cases hk)
      have HF2 : Hid (Fr [] w w1) := HF.out.grown hgr fun k hk => by cases hk
      clear hown hgr HO1 HF
      obtain ⟨s, hs⟩ := Srt.some ((candL n f).map keyC)
      have HK : Hid ((candL n f).map keyC = (List.range n).map fun i => keyC (f i 0, f i 1)) := by
        show _ = _
        simp [candL]
      have HS := hide hs
      have HSL : Hid (s.length = n) := by
        have := hs.perm.length_eq
        show _ = _
        simpa [candL] using this
      clear hs
      generalize hdb : wr.heap.size = db at *
      have HDB := hide hdb
      clear hdb
      obtain ⟨key, hkey⟩ : ∃ key : Nat → Int × Int, key = fun i => keyC (f i 0, f i 1) := ⟨_, rfl⟩
      have HKEY : Hid (∀ i, key i = (max (f i 1) 0, f i 0)) := fun i => by rw [hkey]; rfl
      have HS0 : Hid (Srt (und n (fun _ => false) key) s) := by
        have := HS.out
        rw [HK.out, ← hkey] at this
        show Srt _ _
        rw [und_none]; exact this
      clear hkey HK
      go_wp2_with fail
      go_loopw [10, 2, 7] (fun (x : Value) (y : Value) (z : Value) wr => ∃ (r : Nat) (D : Nat → Bool), x = .int .i64 r ∧ r ≤ n ∧ y = .int .i64 (leftB s b r) ∧ TakenB s b r ∧ Srt (und n D key) (s.drop r) ∧ Blk wr db 4 (rowF n fun k => .bool (D k)) ∧ OutAt w wr (fun x => x ∈ Y ∨ x ∈ (s.take r).map (·.2)) (Y.length + r) z ∧ Fr [] w wr) (fun x _ _ _ => n - (intOf x).toNat)
      case atStart => exact ⟨0, fun _ => false, rfl, Nat.zero_le _, rfl, fun j hj => absurd hj (by omega), by simpa using HS0.out, HD0.out, by simpa using HO2.out, HF2.out⟩
      case round =>
        obtain ⟨r, D, rfl, hr, rfl, ht, hsr, hbd, ho, hfr⟩ := hrel
        have HT := hide ht
        have HSR := hide hsr
        have HBD := hide hbd
        have HO := hide ho
        have HF := hide hfr
        clear ht hsr hbd ho hfr HD0 HO2 HF2 HS0
        by_cases hlt : r < n
        · have hlt1 : (r : Int) < (n : Int) := by omega
          generalize wr = wo at *
          go_wp2_with fail
          go_loopw [12, 11] (fun (x : Value) (y : Value) wr => ∃ (i : Nat) (z : Int), x = .int .i64 i ∧ i ≤ n ∧ y = .int .i64 z ∧ Found D key i z ∧ Fr [] wo wr) (fun x _ _ => n - (intOf x).toNat)
          case atStart => exact ⟨0, -1, rfl, Nat.zero_le _, rfl, .inl ⟨rfl, fun j hj => absurd hj (by omega)⟩, Fr.refl _ _⟩
          case round =>
            obtain ⟨i, z, rfl, hin, rfl, hfd, hfi⟩ := hrel
            have HFD := hide hfd
            have HFI := hide hfi
            clear hfd hfi
            by_cases hit : i < n
            · have hit1 : (i : Int) < (n : Int) := by omega
              have cd : wr.cell? ⟨db, i, none⟩ = some (.bool (D i)) := by rw [(HBD.out.fr HFI.out (by simp)).cell]; exact rowF_at hit
              rcases (show D i = true ∨ D i = false by cases D i <;> simp) with hdi | hdi
              · have HFN := hide (HFD.out.skip hdi)
                rw [hdi] at cd
                clear hdi HFD
                go_wp2_with fail
                go_quiet (fail)
                go_wp2
                go_roundw
                case rel => exact ⟨i + 1, z, by go_num, by omega, rfl, HFN.out, HFI.out.drewN _⟩
                case measure => simp [intOf]; omega
              · have hz : z = -1 ∨ ∃ m : Nat, m < i ∧ z = (m : Int) := by
                  rcases HFD.out with ⟨h, _⟩ | ⟨m, h, h2, _⟩
                  · exact .inl h
                  · exact .inr ⟨m, h, h2⟩
                rcases hz with rfl | ⟨m, hmi, rfl⟩
                · have HFN := hide (HFD.out.first hdi)
                  rw [hdi] at cd
                  clear hdi HFD
                  go_wp2_with fail
                  go_quiet (fail)
                  go_wp2
                  go_roundw
                  case rel => exact ⟨i + 1, _, by go_num, by omega, rfl, HFN.out, HFI.out.drewN _⟩
                  case measure => simp [intOf]; omega
                · have HFB := fun h => hide (HFD.out.better hdi h)
                  have HFW := fun h => hide (HFD.out.worse h)
                  obtain ⟨bb, off, rfl, hbb, hc⟩ := H.out (by omega)
                  have HWR : Hid (Fr [] w wr) := HF.out.trans_same HFI.out
                  have hcl : ∀ q : Nat, q < n → wr.cell? ⟨bb, off + q * 2, none⟩ = some (.int .i64 (f q 0)) ∧ wr.cell? ⟨bb, off + q * 2 + 1, none⟩ = some (.int .i64 (f q 1)) := fun q hq =>
                    ⟨(HWR.out.cell (p := ⟨bb, off + q * 2, none⟩) hbb (by simp)).trans (by simpa using hc q hq 0 (by omega)), (HWR.out.cell (p := ⟨bb, off + q * 2 + 1, none⟩) hbb (by simp)).trans (by simpa [Nat.add_assoc] using hc q hq 1 (by omega))⟩
                  have ci0 : ∀ u : Cls (Fr [] wr), u.w.cell? ⟨bb, off + i * 2, none⟩ = some (.int .i64 (f i 0)) := fun u => u.cell (hcl i hit).1 (by simp)
                  have ci1 : ∀ u : Cls (Fr [] wr), u.w.cell? ⟨bb, off + i * 2 + 1, none⟩ = some (.int .i64 (f i 1)) := fun u => u.cell (hcl i hit).2 (by simp)
                  have cm0 : ∀ u : Cls (Fr [] wr), u.w.cell? ⟨bb, off + m * 2, none⟩ = some (.int .i64 (f m 0)) := fun u => u.cell (hcl m (by omega)).1 (by simp)
                  have cm1 : ∀ u : Cls (Fr [] wr), u.w.cell? ⟨bb, off + m * 2 + 1, none⟩ = some (.int .i64 (f m 1)) := fun u => u.cell (hcl m (by omega)).2 (by simp)
                  have cdu : ∀ u : Cls (Fr [] wr), u.w.cell? ⟨db, i, none⟩ = some (.bool false) := fun u => u.cell (by rw [cd, hdi]) (by simp)
                  have TL : Hid (∀ w', Calls Try.prog 19 #[.agg #[.int .i64 (f i 0), .int .i64 (f i 1)], .agg #[.int .i64 (f m 0), .int .i64 (f m 1)]] w' fun e w'' => e = .returned (.bool (klt (key i) (key m))) ∧ Fr [] w' w'') := fun w' => by
                    have := r18less_any (f i 0, f i 1) (f m 0, f m 1) w'
                    rw [HKEY.out, HKEY.out]; exact this
                  have hmn : (m : Int) < (n : Int) := by omega
                  have hm0 : decide ((m : Int) < 0) = false := by simp
                  clear hc hcl cd hdi HFD
                  generalize f i 0 = xi at *
                  generalize f i 1 = yi at *
                  generalize f m 0 = xm at *
                  generalize f m 1 = ym at *
                  generalize klt (key i) (key m) = L at *
                  rcases (show L = true ∨ L = false by cases L <;> simp) with rfl | rfl
                  · have HFN := HFB rfl
                    clear HFB HFW
                    go_wp2_with fail
                    refine wp_region_cls (Fr [] wr) (by kernel_rfl) (by kernel_rfl) (Fr.refl _ _).drew ?_
                    repeat (go_big_quiet_step ((go_at_call 19; (with_reducible exact Cls.grow (TL.out _)))))
                    refine wpQuiet_nil ?_
                    rintro _ ⟨u, rfl⟩
                    go_wp2_with fail
                    go_roundw
                    case rel => exact ⟨i + 1, _, by go_num, by omega, rfl, HFN.out, HFI.out.trans_same u.ok⟩
                    case measure => simp [intOf]; omega
                  · have HFN := HFW rfl
                    clear HFB HFW
                    go_wp2_with fail
                    refine wp_region_cls (Fr [] wr) (by kernel_rfl) (by kernel_rfl) (Fr.refl _ _).drew ?_
                    repeat (go_big_quiet_step ((go_at_call 19; (with_reducible exact Cls.grow (TL.out _)))))
                    refine wpQuiet_nil ?_
                    rintro _ ⟨u, rfl⟩
                    go_wp2_with fail
                    go_roundw
                    case rel => exact ⟨i + 1, _, by go_num, by omega, rfl, HFN.out, HFI.out.trans_same u.ok⟩
                    case measure => simp [intOf]; omega
            · obtain rfl : i = n := by omega
              obtain ⟨m, hmn, rfl, hdm, hmin⟩ : ∃ m : Nat, m < i ∧ z = (m : Int) ∧ D m = false ∧ ∀ j, j < i → D j = false → kle (key m) (key j) := by
                rcases HFD.out with ⟨_, h⟩ | h
                · have hp := HSR.out.perm.length_eq
                  rw [List.length_drop, HSL.out] at hp
                  obtain ⟨j, hj, hj2⟩ := und_some (n := i) (D := D) (key := key) (by omega)
                  rw [h j hj] at hj2; cases hj2
                · exact h
              obtain ⟨hgr, hsn⟩ := und_step hmn hdm hmin HSR.out
              have HSN := hide hsn
              have HGR : Hid ((s.getD r (0, 0)).1 = max (f m 1) 0 ∧ (s.getD r (0, 0)).2 = f m 0) := by rw [hgr, HKEY.out]; exact ⟨rfl, rfl⟩
              have HBZ : Hid (Blk wr db 4 (rowF i fun k => .bool (D k))) := HBD.out.fr HFI.out (by simp)
              have HBP : Hid (Blk (wr.setCell ⟨db, m, none⟩ (.bool true)) db 4 (rowF i fun k => .bool (putF D m true k))) := by
                have := HBZ.out.put m (.bool true)
                rw [rowF_set] at this
                have e : putF (fun k => Value.bool (D k)) m (.bool true) = fun k => Value.bool (putF D m true k) := by
                  funext k; unfold putF; split <;> rfl
                rwa [e] at this
              have HOZ : Hid (OutAt w (wr.setCell ⟨db, m, none⟩ (.bool true)) (fun x => x ∈ Y ∨ x ∈ (s.take r).map (·.2)) (Y.length + r) u7) := (HO.out.fr0 HFI.out).far HBZ.out (by decide) ((Fr.refl [db] wr).setCell (.inl (by simp)) _)
              have HFZ : Hid (Fr [] w (wr.setCell ⟨db, m, none⟩ (.bool true))) := (HF.out.trans_same HFI.out).setCell (.inr HSZ.out) _
              have f0 := HBZ.out.frozen m
              have cz : wr.cell? ⟨db, m, none⟩ = some (.bool (D m)) := by rw [HBZ.out.cell]; exact rowF_at hmn
              have hmn1 : (m : Int) < (i : Int) := by omega
              clear hgr hsn hdm hmin HFD HO HBD HF HFI HSR HBZ hit hin
              obtain ⟨bb, off, rfl, hbb, hc⟩ := H.out (by omega)
              have hne : bb ≠ db := by have := HSZ.out; omega
              have hne' : db ≠ bb := fun e => hne e.symm
              have HCL : Hid (∀ w', Fr [] w w' → w'.cell? ⟨bb, off + m * 2, none⟩ = some (.int .i64 (f m 0)) ∧ w'.cell? ⟨bb, off + m * 2 + 1, none⟩ = some (.int .i64 (f m 1))) := fun w' hf =>
                    ⟨(hf.cell (p := ⟨bb, off + m * 2, none⟩) hbb (by simp)).trans (by simpa using hc m hmn 0 (by omega)), (hf.cell (p := ⟨bb, off + m * 2 + 1, none⟩) hbb (by simp)).trans (by simpa [Nat.add_assoc] using hc m hmn 1 (by omega))⟩
              have HXM : Hid (f m 1 ≤ 9223372036854775807) := HF1.out m hmn
              have h1 := leftB_le (s := s) (b := b) (fun c hc => by
                have : c ∈ (candL i f).map keyC := HS.out.perm.mem_iff.1 hc
                obtain ⟨x, _, rfl⟩ := List.mem_map.1 this
                show 0 ≤ max x.2 0
                omega) r (by have := HSL.out; omega)
              have h2 : -9223372036854775808 ≤ leftB s b r := by
                rcases Nat.eq_zero_or_pos r with h0 | h0
                · subst h0; exact HB.out.1
                · have := leftB_nn HT.out (by omega); omega
              have h3 : leftB s b r ≤ 9223372036854775807 := by have := HB.out.2; omega
              have HN1 : Hid (leftB s b (r + 1) = leftB s b r - max (f m 1) 0) := by show _ - _ = _; rw [HGR.out.1]
              have TC : ∀ w', Hid (Calls Try.prog 20 #[.agg #[.int .i64 (f m 0), .int .i64 (f m 1)]] w' fun e w'' => e = .returned (.int .i64 (max (f m 1) 0)) ∧ Fr [] w' w'') := fun w' => r18live_any (f m 0, f m 1) w'
              have HXC := hide (show 0 ≤ max (f m 1) 0 ∧ max (f m 1) 0 ≤ 9223372036854775807 by have := HXM.out; omega)
              have cc0 := (HCL.out _ HFZ.out).1
              have cc1 := (HCL.out _ HFZ.out).2
              generalize hxx : f m 0 = x at *
              generalize hyy : f m 1 = y at *
              generalize hcc : max y 0 = cost at *
              generalize hll : leftB s b r = X at *
              have HLL := hide hll
              clear hxx hyy hcc hll hc h1
              have HOU := hide HOZ.out
              have TA := fun wq (h : OutAt w wq (fun x => x ∈ Y ∨ x ∈ (s.take r).map (·.2)) (Y.length + r) u7) (hf : Fr [] w wq) => hide (h.add (by omega) hf.size x hf)
              obtain ⟨hx0, hx1⟩ := HXC.out
              rcases (show X < cost ∨ cost ≤ X by omega) with hv | hv
              · go_wp2_with (go_at_call 20; (with_reducible refine Calls.mono (TC _).out ?_); rintro e w5 ⟨rfl, hg5⟩; have HG5 := hide hg5; clear hg5)
                go_ret
                have hst := takenB_stop s b r (by have := HSL.out; omega) HT.out (by rw [HLL.out, HGR.out.1]; exact hv)
                obtain ⟨A', c', G', l, e, q1, q2, q3, q4⟩ := HOZ.out.fr0 HG5.out
                subst e
                exact ⟨A', l, c', G', rfl, q2.congr fun z => by rw [chosen_iff HS.out, hst], q1, HFZ.out.trans_same HG5.out, by rw [candL_len]; omega⟩
              · have hw1 : -9223372036854775808 ≤ X - cost := by omega
                have hw2 : X - cost ≤ 9223372036854775807 := by omega
                go_wp2_with (go_at_call 20; (with_reducible refine Calls.mono (TC _).out ?_); rintro e w5 ⟨rfl, hg5⟩; have d0 := (HCL.out _ (HFZ.out.trans_same hg5)).1; have d1 := (HCL.out _ (HFZ.out.trans_same hg5)).2; have HG5 := hide hg5; clear hg5)
                (with_reducible refine Calls.mono (TC _).out ?_)
                rintro e w6 ⟨rfl, hg6⟩
                have HG6 : Hid (Fr [] (wr.setCell ⟨db, m, none⟩ (.bool true)) w6) := HG5.out.trans_same hg6
                have TA6 := TA w6 (HOZ.out.fr0 HG6.out) (HFZ.out.trans_same HG6.out)
                have e0 := (HCL.out _ (HFZ.out.trans_same HG6.out)).1
                have e1 := (HCL.out _ (HFZ.out.trans_same HG6.out)).2
                clear hg6 d0 d1 cc0 cc1 TA
                go_wp2_with fail
                refine TA6.out.mono ?_
                rintro e w7 ⟨v', rfl, ho7, hf7, hb7⟩
                have HO7 := hide ho7
                have HF7 := hide hf7
                have HB7 := hide (hb7 db 4 _ (HBP.out.fr HG6.out (by simp)) (by decide))
                clear ho7 hf7 hb7 TA6
                go_wp2_with fail
                go_roundw
                case rel =>
                  refine ⟨r + 1, putF D m true, by go_num, by omega, by rw [HN1.out], fun j hj => ?_, HSN.out, HB7.out, ?_, HF7.out⟩
                  · rcases Nat.lt_or_ge j r with h | h
                    · exact HT.out j h
                    · rw [show j = r by omega, HLL.out, HGR.out.1]; exact hv
                  · obtain ⟨A', c', G', l, e, q1, q2, q3, q4⟩ := HO7.out
                    refine ⟨A', c', G', l, e, q1, q2.congr fun z => ?_, by omega, q4⟩
                    have hr2 : r < s.length := by have := HSL.out; omega
                    have e : s.take (r + 1) = s.take r ++ [s.getD r (0, 0)] := by rw [List.take_add_one]; simp [hr2]
                    rw [e, List.map_append, List.mem_append, List.map_cons, List.map_nil, List.mem_singleton, HGR.out.2, or_assoc]
                case measure => simp [intOf]; omega
        · obtain rfl : r = n := by omega
          clear hlt hr
          go_wp2_with fail
          go_ret
          have hst := takenB_all (s := s) (b := b) (by rw [HSL.out]; exact HT.out)
          obtain ⟨A', c', G', l, e, q1, q2, q3, q4⟩ := HO.out
          subst e
          exact ⟨A', l, c', G', rfl, q2.congr fun z => by rw [chosen_iff HS.out, hst, List.take_of_length_le (by rw [HSL.out]; exact Nat.le_refl _)], q1, HF.out, by rw [candL_len]; omega⟩
end Go.Proofs.Yteggdpcfeljphaa
