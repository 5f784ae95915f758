/- ArenaMoves: a row that is moved there and back, over words that are kept, is as it was, and no other word is touched, whatever comes in. Conditions: none but the row's own. -/
import Derived.Test.YtodlchdelmojnaaL3
import Derived.Test.YtodlchdelmojnaaCard0
namespace Go.Proofs.Ytodlchdelmojnaa.ArenaMoves
set_option linter.unusedVariables false
open Go.RowKit Go.Gl Go.ChangeShapes Go.WideShapes Go.ChangeAt Go.Deep

theorem Try.info_u64b : (Try.prog.info? 29).map (fun i => (i.zero, i.size, i.bytes)) = some (some (.int .u64 0), 1, 8) := by kernel_rfl
theorem one_u64 (w : World) (v : Value) (t : TypeId) : ∀ (j : Nat) u, [v][j]? = some u → (w.alloc (.cells #[v] t)).cell? (Addr.add ⟨w.heap.size, 0, none⟩ j) = some u := by
  intro j u hj
  match j, hj with
  | 0, hj =>
    simp only [List.getElem?_cons_zero, Option.some.injEq] at hj
    subst hj
    have := (Blk.new w t #[v]).cell 0
    exact this
/-- A number brought into 0 to 100 - F by two remainders. -/
theorem into (x : Int) (F : Nat) (h : (F : Int) < 101) : ∃ N : Nat, (x.tmod (101 - (F : Int)) + 101 - (F : Int)) % (101 - (F : Int)) = (N : Int) ∧ -(101 - (F : Int)) < x.tmod (101 - (F : Int)) ∧ x.tmod (101 - (F : Int)) < 101 - (F : Int) ∧ (N : Int) < 101 - (F : Int) := by
  have h1 := Int.lt_tmod_of_pos x (show 0 < 101 - (F : Int) by omega)
  have h2 := Int.tmod_lt_of_pos x (show 0 < 101 - (F : Int) by omega)
  obtain ⟨N, hN⟩ := Int.eq_ofNat_of_zero_le (Int.emod_nonneg (x.tmod (101 - (F : Int)) + 101 - (F : Int)) (show 101 - (F : Int) ≠ 0 by omega))
  have h3 := Int.emod_lt_of_pos (x.tmod (101 - (F : Int)) + 101 - (F : Int)) (show 0 < 101 - (F : Int) by omega)
  exact ⟨N, hN, h1, h2, by omega⟩
theorem into100 (x : Int) : ∃ F : Nat, x.tmod 100 % 100 = (F : Int) ∧ -100 < x.tmod 100 ∧ x.tmod 100 < 100 ∧ (F : Int) < 100 := by
  have h1 := Int.lt_tmod_of_pos x (show (0 : Int) < 100 by decide)
  have h2 := Int.tmod_lt_of_pos x (show (0 : Int) < 100 by decide)
  obtain ⟨F, hF⟩ := Int.eq_ofNat_of_zero_le (Int.emod_nonneg (x.tmod 100) (show (100 : Int) ≠ 0 by decide))
  have h3 := Int.emod_lt_of_pos (x.tmod 100) (show (0 : Int) < 100 by decide)
  exact ⟨F, hF, h1, h2, by omega⟩

def cells64 (f : Nat → Nat) (k : Nat) : List Value := (List.range k).map fun j => .int .u64 (f j : Int)
theorem cells64_succ (f : Nat → Nat) (k : Nat) : cells64 f (k + 1) = cells64 f k ++ [.int .u64 (f k : Int)] := by
  unfold cells64
  rw [List.range_succ, List.map_append]; rfl
theorem cells64_len (f : Nat → Nat) (k : Nat) : (cells64 f k).length = k := by simp [cells64]

set_option maxRecDepth 100000 in
set_option maxHeartbeats 3200000 in
theorem walk (W : World) (A : Option Addr) (na ca : Nat) (xs : Nat → Nat) (hA : Sl W A na (fun k => .int .u64 (xs k : Int))) (hx : ∀ k, xs k < 18446744073709551616) (hna : na ≤ 9223372036854775807) (p q r : Int) :
    Holds Try.prog 3 #[.slice A na ca, .int .i64 p, .int .i64 q, .int .i64 r] W := by
  have HA := hide hA
  have HX := hide hx
  clear hA hx
  obtain ⟨i0, hi, hz0, hz1, hz2⟩ := info_parts Try.info_u64b
  have hn := hide (anew_any 200 (by decide))
  obtain ⟨F, E1, f1, f2, f3⟩ := into100 p
  obtain ⟨N, E2, n1, n2, n3⟩ := into r F (by omega)
  obtain ⟨T, E3, t1, t2, t3⟩ := into q N (by omega)
  unfold Holds
  go_enter Try.func3, Try.ntmps3
  go_wp2_with fail
  refine (awake_any W).mono ?_
  rintro e w0 ⟨rfl, hf0⟩
  go_wp2_with fail
  refine (hn.out _).mono ?_
  rintro e w1 ⟨ab, aw, rfl, hs, hf, hlb, hlw⟩
  have HS := hide hs
  have HF : Hid (Fr [] W w1) := hf0.trans_nil hf
  have s0 := hf0.size
  have z1 : W.heap.size ≤ ab := by omega
  have z2 : W.heap.size ≤ aw := by omega
  clear hs hf hf0 hlb hlw s0
  go_wp2_with fail
  go_loopw [11] (fun i wr => ∃ (k : Nat) (f : Nat → Nat) (c : Int), i = .int .i64 k ∧ k ≤ na ∧ k ≤ 100 ∧ Ar wr ab aw 200 f c ∧ Fr [ab, aw] w1 wr) (fun i _ => na - (intOf i).toNat)
  case atStart => exact ⟨0, _, _, rfl, Nat.zero_le _, by omega, HS.out, Fr.refl _ _⟩
  case round =>
    obtain ⟨k, f, c, rfl, hk, hk2, har, hfr⟩ := hrel
    have HR := hide har
    have HG := hide hfr
    have HW : Hid (Fr [ab, aw] W wr) := (HF.out.mono (fun x hx => by cases hx)).trans_same hfr
    clear har hfr
    by_cases hlt : k < na ∧ k < 100
    · obtain ⟨hlt1, hlt2⟩ := hlt
      have hlt3 : (k : Int) < (na : Int) := by omega
      have hlt4 : (k : Int) < 100 := by omega
      obtain ⟨b, off, rfl, hb1, hc1⟩ := HA.out (by omega)
      have hc : wr.cell? ⟨b, off + k, none⟩ = some (.int .u64 (xs k : Int)) := (HW.out.cell (p := ⟨b, off + k, none⟩) hb1 (by simp; omega)).trans (hc1 k hlt1)
      have HX1 := hide (HX.out k)
      clear hc1
      generalize xs k = x at *
      go_wp2_with (go_at_call 7; refine (store_any HR.out _ x HX1.out).mono ?_; rintro e w' ⟨er, f', c', rfl, hs', hf', ht'⟩; have HS' := hide hs'; have HF' := hide hf'; clear hs' hf' ht')
      go_roundw
      case rel => exact ⟨k + 1, f', c', by go_num, by omega, by omega, HS'.out, HG.out.trans_same HF'.out⟩
      case measure => simp [intOf]; omega
    · have hway : ¬ (k : Int) < (na : Int) ∨ ((k : Int) < (na : Int) ∧ ¬ (k : Int) < 100) := by omega
      clear hlt
      have Rows : Hid (F + N ≤ 100 ∧ T + N ≤ 100) := ⟨by omega, by omega⟩
      have HRows : Hid (F + N ≤ 100 ∧ T + N ≤ 100) := ⟨by omega, by omega⟩
      obtain ⟨wo, rfl⟩ : ∃ wo : World, wo = wr := ⟨_, rfl⟩
      rcases hway with w1 | ⟨w1, w2⟩
      all_goals
        go_wp2_with fail
        clear E1 E2 E3 f1 f2 f3 n1 n2 n3 t1 t2 t3
        have g1 := HR.out.set.lt
        have g2 := HR.out.row.lt
        go_loopw [12, 13] (fun v i wr => ∃ (k : Nat) (c : Int), i = .int .i64 k ∧ k ≤ 100 ∧ Ar wr ab aw 200 f c ∧ wr.ownsRow wo.heap.size 29 1 v k (cells64 f k) ∧ Fr [ab] wo wr) (fun _ i _ => 100 - (intOf i).toNat)
        case atStart => exact ⟨0, c, rfl, by omega, HR.out, World.ownsRow_nil _ _ _ _, Fr.refl _ _⟩
        case round =>
          obtain ⟨k2, c2, rfl, hk3, har2, hown2, hfr2⟩ := hrel
          have HR2 := hide har2
          have HO2 := hide hown2
          have HF2 := hide hfr2
          clear har2 hown2 hfr2
          by_cases hlt : k2 < 100
          · have hlt' : (k2 : Int) < 100 := by omega
            obtain ⟨x, hxx⟩ : ∃ x, f k2 = x := ⟨_, rfl⟩
            have HXX := hide hxx
            clear hxx
            go_wp2_with fail
            refine (load_at HR2.out rfl (show k2 < 200 by omega) HXX.out).mono ?_
            rintro e w3 ⟨rfl, har3, hfr3⟩
            have HR3 := hide har3
            have HF3 := hide hfr3
            have HO3 := hide (own_fr HO2.out hfr3 (fun g hg => by simpa using own_ne HO2.out HR2.out.set (by decide) g hg))
            clear har3 hfr3
            go_wp2_with (at_builtin; refine wpList_append_own _ rfl _ _ 22 rfl wo.heap.size 29 i0 (.int .u64 0) 1 8 Try.underlying22 hi hz0 hz1 hz2 rfl (by decide) _ _ _ rfl (HO3.out.alloc _) ⟨_, 0, none⟩ 1 1 [.int .u64 (x : Int)] rfl rfl (one_u64 _ _ _) ?c2 ?c3 ?c4 ?c5 ?_)
            case c2 => intro u hu; simp at hu; subst hu; rfl
            case c3 => unfold maxLen; omega
            case c4 => omega
            case c5 => have := HF2.out.size; have := HF3.out.size; simp; omega
            intro v' w4 hown4 hgr4 _
            have HO4 : Hid (w4.ownsRow wo.heap.size 29 1 v' (k2 + 1) (cells64 f (k2 + 1))) := by
              rw [cells64_succ, HXX.out]; exact hown4
            have HF4 : Hid (Fr [ab] wo w4) := own_grown ((HF2.out.trans_same HF3.out).alloc _) HO3.out hgr4
            have HR4 : Hid (Ar w4 ab aw 200 f (wrap64 (c2 + 1))) := (HR3.out.fr ((Fr.refl [] _).alloc _) (by simp) (by simp)).fr (grown_fr hgr4) (own_far HO3.out g1) (own_far HO3.out g2)
            clear hown4 hgr4
            go_wp2
            go_roundw
            case rel => exact ⟨k2 + 1, _, by go_num, by omega, HR4.out, HO4.out, HF4.out⟩
            case measure => simp [intOf]; omega
          · obtain rfl : k2 = 100 := by omega
            rcases own_blk HO2.out with ⟨_, h0, _⟩ | ⟨g, cap, cur, rfl, hbase, hblk, hlen, _, hsz, htake, _⟩
            · exact absurd h0 (by decide)
            have HC : Hid (∀ w' : World, Fr [ab, aw] wr w' → ∀ j, j < 100 → w'.cell? ⟨g, j, none⟩ = some (.int .u64 (f j : Int))) := fun w' hf j hj => by
              rw [hf.cell (p := ⟨g, j, none⟩) hblk.lt (by simp; omega), hblk.cell]
              have e1 : (cur.toList.take 100)[j]? = (cells64 f 100)[j]? := by rw [htake]
              rw [List.getElem?_take_of_lt hj] at e1
              rw [← Array.getElem?_toList, e1]
              simp [cells64, hj]
            clear hblk hsz htake
            obtain ⟨q1, q2⟩ := HRows.out
            go_wp2_with fail
            refine (move_at HR2.out (I := 100 + T) (J := F) (M := N) (by omega) rfl rfl (by omega) (by omega)).mono ?_
            rintro e w5 ⟨rfl, har5, hfr5⟩
            have HR5 := hide har5
            have HF5 := hide hfr5
            clear har5 hfr5
            go_wp2_with fail
            refine (zero_at HR5.out (I := F) (M := N) rfl rfl (by omega)).mono ?_
            rintro e w6 ⟨rfl, har6, hfr6⟩
            have HR6 := hide har6
            have HF6 : Hid (Fr [ab, aw] wr w6) := (HF5.out.trans_same hfr6).mono (fun x hx => by simp at hx; simp [hx])
            clear har6 hfr6
            obtain ⟨f2, hf2⟩ : ∃ f2, f2 = updRow (updRow f (100 + T) N fun k => f (F + k)) F N fun _ => 0 := ⟨_, rfl⟩
            rw [← hf2] at HR6
            have HG0 : Hid (∀ j, F ≤ j → j < F + N → f2 j = 0) := fun j a b => by rw [hf2]; unfold updRow; rw [if_pos ⟨a, b⟩]
            have HG1 : Hid (∀ j, j < 100 → (j < F ∨ F + N ≤ j) → f2 j = f j) := fun j a b => by
              rw [hf2]; unfold updRow; rw [if_neg (by omega), if_neg (by omega)]
            have HG2 : Hid (∀ j, j < N → f2 (100 + T + j) = f (F + j)) := fun j a => by
              rw [hf2]; unfold updRow; rw [if_neg (by omega), if_pos (by omega)]; congr 1; omega
            clear hf2
            have H6 := hide HF6.out.size
            obtain ⟨wp, rfl⟩ : ∃ wp : World, wp = wr := ⟨_, rfl⟩
            go_wp2_with fail
            go_loopw [16] (fun i wr => ∃ (k : Nat) (c : Int), i = .int .i64 k ∧ k ≤ 100 ∧ Ar wr ab aw 200 f2 c ∧ Fr [ab] w6 wr) (fun i _ => 100 - (intOf i).toNat)
            case atStart => exact ⟨0, _, rfl, by omega, HR6.out, Fr.refl _ _⟩
            case round =>
              obtain ⟨k3, c3, rfl, hk4, har7, hfr7⟩ := hrel
              have HR7 := hide har7
              have HF7 := hide hfr7
              have HF7' : Hid (Fr [ab, aw] wp wr) := HF6.out.trans hfr7 (fun x hx => by simp at hx; simp [hx])
              clear har7 hfr7
              by_cases hlt : k3 < 100
              · have hlt' : (k3 : Int) < 100 := by omega
                by_cases hg : F ≤ k3 ∧ k3 < F + N
                · obtain ⟨y1, y2⟩ := hg
                  have y3 : (F : Int) ≤ (k3 : Int) := by omega
                  have y4 : (k3 : Int) < (F : Int) + (N : Int) := by omega
                  have HV := hide (HG0.out k3 y1 y2)
                  go_wp2_with fail
                  refine (load_at HR7.out rfl (show k3 < 200 by omega) HV.out).mono ?_
                  rintro e w8 ⟨rfl, har8, hfr8⟩
                  have HR8 := hide har8
                  have HF8 := hide hfr8
                  clear har8 hfr8
                  go_wp2_with fail
                  go_roundw
                  case rel => exact ⟨k3 + 1, _, by go_num, by omega, HR8.out, HF7.out.trans_same HF8.out⟩
                  case measure => simp [intOf]; omega
                · have hg' : (k3 < F) ∨ (F ≤ k3 ∧ F + N ≤ k3) := by omega
                  have HV0 := hide (HG1.out k3 hlt (by omega))
                  obtain ⟨x, hxx⟩ : ∃ x, f k3 = x := ⟨_, rfl⟩
                  have HV : Hid (f2 k3 = x) := HV0.out.trans hxx
                  have HXX := hide hxx
                  clear hxx HV0 hg
                  rcases hg' with y1 | ⟨y1, y2⟩
                  · have y3 : (k3 : Int) < (F : Int) := by omega
                    go_wp2_with fail
                    refine (load_at HR7.out rfl (show k3 < 200 by omega) HV.out).mono ?_
                    rintro e w8 ⟨rfl, har8, hfr8⟩
                    have HR8 := hide har8
                    have HF8 := hide hfr8
                    have hcell := HC.out w8 (HF7'.out.trans hfr8 (fun x hx => by simp at hx; simp [hx])) k3 hlt
                    rw [HXX.out] at hcell
                    clear har8 hfr8
                    go_wp2_with fail
                    go_roundw
                    case rel => exact ⟨k3 + 1, _, by go_num, by omega, HR8.out, HF7.out.trans_same HF8.out⟩
                    case measure => simp [intOf]; omega
                  · have y3 : (F : Int) ≤ (k3 : Int) := by omega
                    have y4 : (F : Int) + (N : Int) ≤ (k3 : Int) := by omega
                    go_wp2_with fail
                    refine (load_at HR7.out rfl (show k3 < 200 by omega) HV.out).mono ?_
                    rintro e w8 ⟨rfl, har8, hfr8⟩
                    have HR8 := hide har8
                    have HF8 := hide hfr8
                    have hcell := HC.out w8 (HF7'.out.trans hfr8 (fun x hx => by simp at hx; simp [hx])) k3 hlt
                    rw [HXX.out] at hcell
                    clear har8 hfr8
                    go_wp2_with fail
                    go_roundw
                    case rel => exact ⟨k3 + 1, _, by go_num, by omega, HR8.out, HF7.out.trans_same HF8.out⟩
                    case measure => simp [intOf]; omega
              · go_wp2_with fail
                refine (move_at HR7.out (I := F) (J := 100 + T) (M := N) rfl (by omega) rfl (by omega) (by omega)).mono ?_
                rintro e w9 ⟨rfl, har9, hfr9⟩
                have HR9 := hide har9
                have HF9 : Hid (Fr [ab, aw] wp w9) := HF7'.out.trans hfr9 (fun x hx => by simp at hx; simp [hx])
                clear har9 hfr9
                obtain ⟨f3, hf3⟩ : ∃ f3, f3 = updRow f2 F N fun k => f2 (100 + T + k) := ⟨_, rfl⟩
                rw [← hf3] at HR9
                have HG3 : Hid (∀ j, j < 100 → f3 j = f j) := fun j a => by
                  rw [hf3]; unfold updRow
                  by_cases hj : F ≤ j ∧ j < F + N
                  · rw [if_pos hj]; exact (HG2.out (j - F) (by omega)).trans (by congr 1; omega)
                  · rw [if_neg hj]; exact HG1.out j a (by omega)
                clear hf3
                obtain ⟨ws, rfl⟩ : ∃ ws : World, ws = wr := ⟨_, rfl⟩
                go_wp2_with fail
                go_loopw [20] (fun i wr => ∃ (k : Nat) (c : Int), i = .int .i64 k ∧ k ≤ 100 ∧ Ar wr ab aw 200 f3 c ∧ Fr [ab] w9 wr) (fun i _ => 100 - (intOf i).toNat)
                case atStart => exact ⟨0, _, rfl, by omega, HR9.out, Fr.refl _ _⟩
                case round =>
                  obtain ⟨k5, c5, rfl, hk6, har10, hfr10⟩ := hrel
                  have HR10 := hide har10
                  have HF10 := hide hfr10
                  have HF10' : Hid (Fr [ab, aw] wp wr) := HF9.out.trans hfr10 (fun x hx => by simp at hx; simp [hx])
                  clear har10 hfr10
                  by_cases hlt : k5 < 100
                  · have hlt' : (k5 : Int) < 100 := by omega
                    obtain ⟨x, hxx⟩ : ∃ x, f k5 = x := ⟨_, rfl⟩
                    have HV : Hid (f3 k5 = x) := (HG3.out k5 hlt).trans hxx
                    have HXX := hide hxx
                    clear hxx
                    go_wp2_with fail
                    refine (load_at HR10.out rfl (show k5 < 200 by omega) HV.out).mono ?_
                    rintro e w11 ⟨rfl, har11, hfr11⟩
                    have HR11 := hide har11
                    have HF11 := hide hfr11
                    have hcell := HC.out w11 (HF10'.out.trans hfr11 (fun x hx => by simp at hx; simp [hx])) k5 hlt
                    rw [HXX.out] at hcell
                    clear har11 hfr11
                    go_wp2_with fail
                    go_roundw
                    case rel => exact ⟨k5 + 1, _, by go_num, by omega, HR11.out, HF10.out.trans_same HF11.out⟩
                    case measure => simp [intOf]; omega
                  · go_wp2_with fail
                    go_ret
                    refine ⟨rfl, ((HW.out.trans HF2.out ?_).trans_same HF10'.out).below (Nat.le_refl _) ?_⟩
                    · intro x hx; simp at hx; simp [hx]
                    · intro x hx; simp at hx; omega

theorem zs_u64 {zs : List Int} (h : ∀ z ∈ zs, (Lit.int .u64 z).wf = true) (k : Nat) : ∃ x : Nat, zs.getD k 0 = (x : Int) ∧ x < 18446744073709551616 := by
  rw [List.getD_eq_getElem?_getD]
  rcases Nat.lt_or_ge k zs.length with hk | hk
  · rw [List.getElem?_eq_getElem hk]
    have := h _ (List.getElem_mem hk)
    simp [Lit.wf, IntKind.min, IntKind.max, IntKind.signed, IntKind.bits] at this
    obtain ⟨x, hx⟩ := Int.eq_ofNat_of_zero_le this.1
    exact ⟨x, hx, by have := this.2; omega⟩
  · rw [List.getElem?_eq_none hk]; exact ⟨0, rfl, by decide⟩
theorem holds {H : Type} {enc : TypeId × Value → H} {W : World} {base : Nat} {args : Array Value} {ds : List (DataW H)} {p : List MemPlace}
    (hval : ∀ (j : Nat) t v, Try.f3.params[j]? = some t → args[j]? = some v → Value.okWide Try.prog W .any base t v)
    (hA : DataW.TrodAll enc Try.prog W 0 (fun _ => true) true Try.f3.params.toList args.toList ds p) : Holds Try.prog 3 args W := by
  rw [Try.params3] at hA hval
  obtain ⟨v0, vs0, d0, ds0, p0, q0, hargs, rfl, rfl, h0, r0⟩ := trodAll_cons hA
  obtain ⟨v1, vs1, d1, ds1, p1, q1, rfl, rfl, rfl, h1, r1⟩ := trodAll_cons r0
  obtain ⟨v2, vs2, d2, ds2, p2, q2, rfl, rfl, rfl, h2, r2⟩ := trodAll_cons r1
  obtain ⟨v3, vs3, d3, ds3, p3, q3, rfl, rfl, rfl, h3, r3⟩ := trodAll_cons r2
  obtain ⟨rfl, rfl, rfl⟩ := trodAll_nil r3
  obtain rfl : args = #[v0, v1, v2, v3] := by cases args; simp_all
  obtain ⟨A, na, ca, zs, rfl, hna, hA1, hw⟩ := open_sl Try.underlying22 Try.underlying29 (by kernel_rfl) (hval 0 22 v0 rfl rfl) h0
  obtain ⟨x1, rfl, rfl, rfl, _⟩ := open_int Try.underlying3 (hval 1 3 v1 rfl rfl) h1
  obtain ⟨x2, rfl, rfl, rfl, _⟩ := open_int Try.underlying3 (hval 2 3 v2 rfl rfl) h2
  obtain ⟨x3, rfl, rfl, rfl, _⟩ := open_int Try.underlying3 (hval 3 3 v3 rfl rfl) h3
  have hx : ∀ k, ((zs.getD k 0).toNat : Int) = zs.getD k 0 ∧ (zs.getD k 0).toNat < 18446744073709551616 := fun k => by
    obtain ⟨x, e, l⟩ := zs_u64 hw k
    rw [e, Int.toNat_natCast]; exact ⟨rfl, l⟩
  refine walk W A na ca (fun k => (zs.getD k 0).toNat) ?_ (fun k => (hx k).2) (by unfold maxLen at hna; omega) x1 x2 x3
  have : (fun k => Value.int .u64 (((zs.getD k 0).toNat : Nat) : Int)) = fun k => Value.int .u64 (zs.getD k 0) := funext fun k => by rw [(hx k).1]
  rw [this]
  exact hA1
theorem readable : ∀ t, t ∈ Try.f3.params.toList → Try.prog.readableRec t = true ∧ t < Try.prog.types.size := by
  intro t ht
  rw [Try.params3] at ht
  have hm : t = 22 ∨ t = 3 := by simp at ht; omega
  rcases hm with rfl | rfl
  all_goals exact ⟨by kernel_rfl, of_decide_eq_true (by kernel_rfl)⟩
theorem laid_met (os : Os) : laidMet Try.prog Rows.arenaMovesRow.laid ((laidWorld os).forCall (fun _ _ => 0) ⟨#[], #[.slice none 0 0, .int .i64 0, .int .i64 0, .int .i64 0], []⟩).memory :=
  ⟨[], rfl, List.nodup_nil, fun _ _ h => by cases h⟩
theorem reads (os : Os) {H : Type} (enc : TypeId × Value → H) : ∃ places, DataW.whole enc Try.prog ((laidWorld os).forCall (fun _ _ => 0) ⟨#[], #[.slice none 0 0, .int .i64 0, .int .i64 0, .int .i64 0], []⟩).memory Try.f3.params.toList Rows.arenaMovesSpec.vars false (#[.slice none 0 0, .int .i64 0, .int .i64 0, .int .i64 0] : Array Value).toList 8 = some ([.nil, .lit (.int .i64 0), .lit (.int .i64 0), .lit (.int .i64 0)], [], places) :=
  ⟨[], by kernel_rfl⟩
theorem spec {H : Type} : ∀ ds : List (DataW H), ds.length = Try.f3.params.toList.length → Rows.arenaMovesSpec.fn H (ds ++ []) = { results := [.lit (.bool true)], args := ds, vars := [] } := by
  intro ds h
  rw [Try.params3] at h
  simp only [List.append_nil]
  match ds, h with
  | [_, _, _, _], _ => rfl

set_option maxRecDepth 100000 in
theorem lifted (os : Os) (started : os.Started) (H : Type) (enc : TypeId × Value → H) (F : Stop.Interp) :
    ReturnsInHanded {} Try.checked os 3 .any ((OpenSpec.ofChange Rows.arenaMovesSpec).preRow enc Try.prog Try.f3 Rows.arenaMovesRow.domain false Rows.arenaMovesRow.laid) (((OpenSpec.ofChange Rows.arenaMovesSpec).at F).post enc Try.prog Try.f3 false true false false) := by
  obtain ⟨places, hx⟩ := reads os enc
  refine returnsInHanded_of_row (C := Try.checked) (s := OpenSpec.ofChange Rows.arenaMovesSpec) own started (by kernel_rfl) Try.func3
    (witness_row_at (enc := enc) (C := Try.checked) false (laidWorld os) #[.slice none 0 0, .int .i64 0, .int .i64 0, .int .i64 0] rfl (by kernel_rfl) (by kernel_rfl) (by kernel_rfl)
      (OpenSpec.preRow_of_cond 8 hx (by kernel_rfl) (fun k hk => by cases hk) (by kernel_rfl) (laid_met os))) ?_
  intro W base args ds gs before hval hW _ _ _ hL _ _
  have hW' : DataW.Whole enc Try.prog Try.f3.params.toList Rows.arenaMovesSpec.vars false W args.toList ds gs before := hW
  exact law_close (s := Rows.arenaMovesSpec) rfl rfl Try.underlying4 spec laidOut readable hW' (by
    obtain ⟨p, q, hA, _⟩ := hW'
    exact holds hval hA)

theorem said : Rows.ArenaMovesSaid :=
  OpenClaim.holds_of_cond 3 Try.f3 rfl rfl rfl rfl rfl rfl rfl ⟨rfl, rfl, rfl, rfl, rfl⟩ rfl rfl rfl rfl rfl (by kernel_rfl) Try.func3 (by kernel_rfl)
    (of_decide_eq_true (by kernel_rfl)) (by unfold Func.isWrapper; first | (rw [if_pos (by decide +kernel)]; kernel_rfl) | (rw [if_neg (by decide +kernel)]; exact ⟨rfl, rfl⟩))
    (fun os started H enc _ F => by rw [OpenClaim.pre_eq_preRow]; exact lifted os started H enc F)
end Go.Proofs.Ytodlchdelmojnaa.ArenaMoves
