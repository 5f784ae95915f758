/- ParsePlays: objects and fillers are made and gone through just as the document says, over any words whatever, whatever script comes in. Conditions: none but the row's own. -/
import Derived.Test.YtjnnegbcijmclaaL5
import Derived.Test.YtjnnegbcijmclaaCard0
import Derived.Deep.RegionHeld3
namespace Go.Proofs.Ytjnnegbcijmclaa.ParsePlays
set_option linter.unusedVariables false
open Go.RowKit Go.Gl Go.ChangeShapes Go.WideShapes Go.ChangeAt Go.Deep

/-- A call of the script. -/
structure Call where
  (kind a b n : Int)
  v : Nat
structure Call.Ok (x : Call) : Prop where
  a1 : x.a ≤ 9223372036854775807
  kind1 : x.kind ≤ 9223372036854775807
  v1 : x.v < 18446744073709551616
/-- The script's calls lie there. -/
def Acts (w : World) (A : Option Addr) (n : Nat) (f : Nat → Call) : Prop :=
  0 < n → ∃ b off, A = some ⟨b, off, none⟩ ∧ b < w.heap.size ∧ ∀ k, k < n → w.cell? ⟨b, off + k * 5, none⟩ = some (.int .i64 (f k).kind) ∧ w.cell? ⟨b, off + k * 5 + 1, none⟩ = some (.int .i64 (f k).a) ∧
    w.cell? ⟨b, off + k * 5 + 2, none⟩ = some (.int .i64 (f k).b) ∧ w.cell? ⟨b, off + k * 5 + 3, none⟩ = some (.int .i64 (f k).n) ∧ w.cell? ⟨b, off + k * 5 + 4, none⟩ = some (.int .u64 ((f k).v : Int))
theorem Try.info_u64c : (Try.prog.info? 29).map (fun i => (i.zero, i.size, i.bytes)) = some (some (.int .u64 0), 1, 8) := by kernel_rfl
theorem into (x : Int) : ∃ F : Nat, x.tmod 300 % 300 = (F : Int) ∧ -300 < x.tmod 300 ∧ x.tmod 300 < 300 ∧ (F : Int) < 300 := by
  have h1 := Int.lt_tmod_of_pos x (show (0 : Int) < 300 by decide)
  have h2 := Int.tmod_lt_of_pos x (show (0 : Int) < 300 by decide)
  obtain ⟨F, hF⟩ := Int.eq_ofNat_of_zero_le (Int.emod_nonneg (x.tmod 300) (show (300 : Int) ≠ 0 by decide))
  have h3 := Int.emod_lt_of_pos (x.tmod 300) (show (0 : Int) < 300 by decide)
  exact ⟨F, hF, h1, h2, by omega⟩
/-- The arena and the list hold the same words. -/
def Both (w : World) (ab aw g n : Nat) : Prop := ∃ f c, Ar w ab aw n f c ∧ Ws w g n f

set_option maxRecDepth 100000 in
set_option maxHeartbeats 6400000 in
theorem walk (W : World) (p : Int) (A : Option Addr) (na ca : Nat) (f : Nat → Call) (hA : Acts W A na f) (hf : ∀ k, (f k).Ok) (hna : na ≤ 9223372036854775807) :
    Holds Try.prog 3 #[.int .i64 p, .slice A na ca] W := by
  have HA := hide hA
  have Hf := hide hf
  clear hA hf
  obtain ⟨i0, hi, hz0, hz1, hz2⟩ := info_parts Try.info_u64c
  obtain ⟨n, E1, f1, f2, f3⟩ := into p
  have hn := hide (anew_any n (by omega))
  unfold Holds
  go_enter Try.func3, Try.ntmps3
  go_wp2_with fail
  refine (awake_any W).mono ?_
  rintro e w0 ⟨rfl, hf0⟩
  go_wp2_with fail
  refine (hn.out _).mono ?_
  rintro e w1 ⟨ab, aw, rfl, hs1, hf1, hl1, hl2⟩
  have HS1 := hide hs1
  have HF1 : Hid (Fr [] W w1) := hf0.trans_nil hf1
  have HL1 : Hid (W.heap.size ≤ ab ∧ W.heap.size ≤ aw) := ⟨by have := hf0.size; omega, by have := hf0.size; omega⟩
  clear hs1 hf1 hf0 hl1 hl2
  go_wp2_with (at_make; refine wpList_make_full _ rfl _ _ 28 rfl w1.heap.size 29 i0 (.int .u64 0) 1 Try.underlying28 hi hz0 hz1 _ _ _ _ n rfl rfl rfl rfl (by rw [hz2]; omega) (by unfold maxLen; omega) (Nat.le_refl _) ?_)
  intro w2 hown hgr
  rw [show (madeCells #[Value.int .u64 0] n).toList = List.replicate n (.int .u64 0) from made_one (.int .u64 0) rfl n] at hown
  have hb := own_full hown
  have hmem : memV n (fun _ => 0) = (List.replicate n (Value.int .u64 0)).toArray := by
    unfold memV
    congr 1
    apply List.ext_getElem <;> simp
  rw [← hmem] at hb
  have hf2 : Fr [] w1 w2 := (Fr.refl _ _).grown hgr (fun _ hk => by cases hk)
  have HB2 : Hid (Both w2 ab aw w1.heap.size n) := ⟨_, _, HS1.out.fr hf2 (by simp) (by simp), ⟨hb, by omega, fun _ => by decide⟩⟩
  have HF2 : Hid (Fr [] W w2) := HF1.out.trans_nil hf2
  have HL2 : Hid (W.heap.size ≤ ab ∧ W.heap.size ≤ aw ∧ W.heap.size ≤ w1.heap.size) := ⟨HL1.out.1, HL1.out.2, HF1.out.size⟩
  obtain ⟨g, hg⟩ : ∃ g, g = w1.heap.size := ⟨_, rfl⟩
  have HNE : Hid (aw ≠ g) := by show aw ≠ g; have := HS1.out.row.lt; omega
  rw [← hg] at HB2 HL2 ⊢
  clear hown hgr hb hmem hf2 hg
  go_wp2_with fail
  go_loopw [8] (fun i wr => ∃ k : Nat, i = .int .i64 k ∧ k ≤ na ∧ k ≤ 200 ∧ Both wr ab aw g n ∧ Fr [ab, aw, g] w2 wr) (fun i _ => na - (intOf i).toNat)
  case atStart => exact ⟨0, rfl, Nat.zero_le _, by omega, HB2.out, Fr.refl _ _⟩
  case round =>
    obtain ⟨k, rfl, hk, hk2, hb, hfr⟩ := hrel
    have HB := hide hb
    have HF := hide hfr
    have HW : Hid (Fr [ab, aw, g] W wr) := (HF2.out.mono (fun x hx => by cases hx)).trans_same hfr
    have z := HL2.out
    clear hb hfr
    by_cases hlt : k < na ∧ k < 200
    · obtain ⟨hlt1, hlt2⟩ := hlt
      have hlt3 : (k : Int) < (na : Int) := by omega
      have hlt4 : (k : Int) < 200 := by omega
      obtain ⟨b0, off, rfl, hb0, hcl⟩ := HA.out (by omega)
      obtain ⟨c0, c1, c2, c3, c4⟩ := hcl k hlt1
      have tr : ∀ j, wr.cell? ⟨b0, j, none⟩ = W.cell? ⟨b0, j, none⟩ := fun j => HW.out.cell (p := ⟨b0, j, none⟩) hb0 (by simp; omega)
      rw [← tr] at c0 c1 c2 c3 c4
      obtain ⟨g0, g1, g2⟩ := Hf.out k
      generalize f k = X at *
      obtain ⟨K, a, b, m, v⟩ := X
      simp only at c0 c1 c2 c3 c4 g1 g0 g2
      clear tr hcl
      obtain ⟨fw, cc, hs, hr⟩ := HB.out
      have nga : g ≠ ab := (hs.set.apart hr.row (by decide)).symm
      have NR : Hid (g ≠ ab ∧ g ≠ aw) := ⟨nga, HNE.out.symm⟩
      have q1 := hs.set.lt
      have q2 := hs.row.lt
      have q3 := hr.row.lt
      have hmax := hr.max
      have HX : Hid (Fr [] wr (wr.alloc (.cells #[.int .i64 K, .int .i64 a, .int .i64 b, .int .i64 m, .int .u64 (v : Int)] 31))) := (Fr.refl _ _).alloc _
      have HFX : Hid (Fr [ab, aw, g] w2 (wr.alloc (.cells #[.int .i64 K, .int .i64 a, .int .i64 b, .int .i64 m, .int .u64 (v : Int)] 31))) := HF.out.trans_nil HX.out
      have HXB : Hid (Blk (wr.alloc (.cells #[.int .i64 K, .int .i64 a, .int .i64 b, .int .i64 m, .int .u64 (v : Int)] 31)) wr.heap.size 31 #[.int .i64 K, .int .i64 a, .int .i64 b, .int .i64 m, .int .u64 (v : Int)]) := Blk.new _ _ _
      have HS := hide (hs.fr HX.out (by simp) (by simp))
      have HR := hide (hr.fr HX.out (by simp))
      have kt1 : -3 ≤ K.tmod 4 := by have := Int.lt_tmod_of_pos K (show (0 : Int) < 4 by decide); omega
      have kt2 : K.tmod 4 ≤ 3 := by have := Int.tmod_lt_of_pos K (show (0 : Int) < 4 by decide); omega
      have G0 := hide g0
      have G2 := hide g2
      clear hs hr nga g0 g1 g2
      rcases (show K.tmod 4 % 4 = 0 ∨ K.tmod 4 % 4 = 1 ∨ K.tmod 4 % 4 = 2 ∨ K.tmod 4 % 4 = 3 by omega) with hk0 | hk0 | hk0 | hk0
      · have HM1 : Hid (∀ w c, Ar w ab aw n fw c → Calls Try.prog 9 #[.pointer (some ⟨ab, 0, none⟩), .int .i64 a, .int .i64 b, .int .i64 m] w (WritePost w ab aw n (makeE n a b m) (makeF n fw a b m))) := fun w c h => pmake_any h a b m G0.out
        have HM2 : Hid (∀ w, Ws w g n fw → Calls Try.prog 10 #[.slice (some ⟨g, 0, none⟩) n n, .int .i64 a, .int .i64 b, .int .i64 m] w (RWritePost w g n (makeE n a b m) (makeF n fw a b m))) := fun w h => r5make_any h a b m
        generalize makeE n a b m = ER at *
        generalize makeF n fw a b m = FR at *
        go_wp2_with fail
        generalize hwx : wr.alloc (.cells #[.int .i64 K, .int .i64 a, .int .i64 b, .int .i64 m, .int .u64 (v : Int)] 31) = wx at *
        have X1 : wx.cell? ⟨wr.heap.size, 1, none⟩ = some (.int .i64 a) := by rw [HXB.out.cell]; rfl
        have X2 : wx.cell? ⟨wr.heap.size, 2, none⟩ = some (.int .i64 b) := by rw [HXB.out.cell]; rfl
        have X3 : wx.cell? ⟨wr.heap.size, 3, none⟩ = some (.int .i64 m) := by rw [HXB.out.cell]; rfl
        have XL : wr.heap.size < wx.heap.size := HXB.out.lt
        have XN : Hid (wr.heap.size ∉ [ab, aw] ∧ wr.heap.size ∉ [ab, aw, g]) := ⟨by simp; omega, by simp; omega⟩
        clear hwx c0 c1 c2 c3 c4
        go_region_held3 (fun w' => w'.cell? ⟨wr.heap.size, 1, none⟩ = some (.int .i64 a) ∧ w'.cell? ⟨wr.heap.size, 2, none⟩ = some (.int .i64 b) ∧ w'.cell? ⟨wr.heap.size, 3, none⟩ = some (.int .i64 m))
          (first | exact ⟨X1, X2, X3⟩ | exact ⟨(hf3.from_drew.cell (p := ⟨_, 1, none⟩) XL XN.out.1).trans X1, (hf3.from_drew.cell (p := ⟨_, 2, none⟩) XL XN.out.1).trans X2, (hf3.from_drew.cell (p := ⟨_, 3, none⟩) XL XN.out.1).trans X3⟩ | exact ⟨(hf34.cell (p := ⟨_, 1, none⟩) XL XN.out.2).trans X1, (hf34.cell (p := ⟨_, 2, none⟩) XL XN.out.2).trans X2, (hf34.cell (p := ⟨_, 3, none⟩) XL XN.out.2).trans X3⟩ | go_keep)
          (first | (go_at_call 9; refine (HM1.out _ _ HS.out.drew).mono ?_; rintro e w3 ⟨c3, rfl, hs3, hf3⟩; have HR3 := hide (HR.out.fr hf3.from_drew (by simpa using NR.out))) | (go_at_call 10; refine (HM2.out _ HR3.out).mono ?_; rintro e w4 ⟨rfl, hr4, hf4⟩; have hf34 : Fr [ab, aw, g] wx w4 := (hf3.from_drew.mono (G := [ab, aw, g]) (fun x hx => by simp at hx; simp; omega)).trans hf4 (fun x hx => by simp at hx; simp [hx])))
        have HB4 : Hid (Both w4 ab aw g n) := ⟨FR, c3, hs3.fr hf4 (by simpa using NR.out.1.symm) (by simpa using NR.out.2.symm), hr4⟩
        have HF4 : Hid (Fr [ab, aw, g] w2 w4) := HFX.out.trans hf34 (fun x hx => .inl hx)
        clear hs3 hf3 hr4 hf4 hf34 X1 X2 X3
        go_wp2_with fail
        go_roundw
        case rel => exact ⟨k + 1, by go_num, by omega, by omega, HB4.out, HF4.out⟩
        case measure => simp [intOf]; omega
      · have HM1 : Hid (∀ w c, Ar w ab aw n fw c → Calls Try.prog 11 #[.pointer (some ⟨ab, 0, none⟩), .int .i64 a, .int .i64 b] w (WritePost w ab aw n (bndE n a b) (fillN n fw a b))) := fun w c h => pfill_any h a b
        have HM2 : Hid (∀ w, Ws w g n fw → Calls Try.prog 12 #[.slice (some ⟨g, 0, none⟩) n n, .int .i64 a, .int .i64 b] w (RWritePost w g n (bndE n a b) (fillN n fw a b))) := fun w h => r5fill_any h a b
        generalize bndE n a b = ER at *
        generalize fillN n fw a b = FR at *
        go_wp2_with fail
        generalize hwx : wr.alloc (.cells #[.int .i64 K, .int .i64 a, .int .i64 b, .int .i64 m, .int .u64 (v : Int)] 31) = wx at *
        have X1 : wx.cell? ⟨wr.heap.size, 1, none⟩ = some (.int .i64 a) := by rw [HXB.out.cell]; rfl
        have X2 : wx.cell? ⟨wr.heap.size, 2, none⟩ = some (.int .i64 b) := by rw [HXB.out.cell]; rfl
        have XL : wr.heap.size < wx.heap.size := HXB.out.lt
        have XN : Hid (wr.heap.size ∉ [ab, aw] ∧ wr.heap.size ∉ [ab, aw, g]) := ⟨by simp; omega, by simp; omega⟩
        clear hwx c0 c1 c2 c3 c4
        go_region_held3 (fun w' => w'.cell? ⟨wr.heap.size, 1, none⟩ = some (.int .i64 a) ∧ w'.cell? ⟨wr.heap.size, 2, none⟩ = some (.int .i64 b))
          (first | exact ⟨X1, X2⟩ | exact ⟨(hf3.from_drew.cell (p := ⟨_, 1, none⟩) XL XN.out.1).trans X1, (hf3.from_drew.cell (p := ⟨_, 2, none⟩) XL XN.out.1).trans X2⟩ | exact ⟨(hf34.cell (p := ⟨_, 1, none⟩) XL XN.out.2).trans X1, (hf34.cell (p := ⟨_, 2, none⟩) XL XN.out.2).trans X2⟩ | go_keep)
          (first | (go_at_call 11; refine (HM1.out _ _ HS.out.drew).mono ?_; rintro e w3 ⟨c3, rfl, hs3, hf3⟩; have HR3 := hide (HR.out.fr hf3.from_drew (by simpa using NR.out))) | (go_at_call 12; refine (HM2.out _ HR3.out).mono ?_; rintro e w4 ⟨rfl, hr4, hf4⟩; have hf34 : Fr [ab, aw, g] wx w4 := (hf3.from_drew.mono (G := [ab, aw, g]) (fun x hx => by simp at hx; simp; omega)).trans hf4 (fun x hx => by simp at hx; simp [hx])))
        have HB4 : Hid (Both w4 ab aw g n) := ⟨FR, c3, hs3.fr hf4 (by simpa using NR.out.1.symm) (by simpa using NR.out.2.symm), hr4⟩
        have HF4 : Hid (Fr [ab, aw, g] w2 w4) := HFX.out.trans hf34 (fun x hx => .inl hx)
        clear hs3 hf3 hr4 hf4 hf34 X1 X2
        go_wp2_with fail
        go_roundw
        case rel => exact ⟨k + 1, by go_num, by omega, by omega, HB4.out, HF4.out⟩
        case measure => simp [intOf]; omega
      · by_cases hi : 0 ≤ a ∧ a < (n : Int)
        · obtain ⟨hi0, hi1⟩ := hi
          obtain ⟨J, rfl⟩ := Int.eq_ofNat_of_zero_le hi0
          have hJ : J < n := by omega
          go_wp2_with fail
          refine (store_at HS.out rfl hJ rfl G2.out).mono ?_
          rintro e w3 ⟨rfl, hs3, hf3⟩
          have HR3 := hide (HR.out.fr hf3 (by simpa using NR.out))
          have hcw := HR3.out.cw hJ
          have hzw := HR3.out.row.frozen J
          have HR4 := hide (HR3.out.put J G2.out)
          have B3 := HXB.out.fr hf3 (by simp; omega)
          have d1 := B3.cell 1
          have d4 := B3.cell 4
          have HB4 : Hid (Both (w3.setCell ⟨g, J, none⟩ (.int .u64 (v : Int))) ab aw g n) := ⟨upd fw J v, _, hs3.fr ((Fr.refl [g] _).setCell (p := ⟨g, J, none⟩) (.inl (by simp)) _) (by simpa using NR.out.1.symm) (by simpa using NR.out.2.symm), HR4.out⟩
          have HF4 : Hid (Fr [ab, aw, g] w2 (w3.setCell ⟨g, J, none⟩ (.int .u64 (v : Int)))) := (HFX.out.trans hf3 (fun x hx => by simp at hx; simp; omega)).setCell (p := ⟨g, J, none⟩) (.inl (by simp)) _
          clear hs3 hf3 B3
          go_wp2_with fail
          go_roundw
          case rel => exact ⟨k + 1, by go_num, by omega, by omega, HB4.out, HF4.out⟩
          case measure => simp [intOf]; omega
        · go_wp2_with fail
          refine (store_any HS.out a v G2.out).mono ?_
          rintro e w3 ⟨er, f3, c3, rfl, hs3, hf3, ht3⟩
          obtain ⟨rfl, rfl⟩ : er = 2 ∧ f3 = fw := by
            rcases ht3 with ⟨a1, a2, _⟩ | ⟨_, a2, a3, _⟩
            · exact absurd ⟨a1, a2⟩ hi
            · exact ⟨a2, a3⟩
          have HB4 : Hid (Both w3 ab aw g n) := ⟨_, _, hs3, HR.out.fr hf3 (by simpa using NR.out)⟩
          have HF4 : Hid (Fr [ab, aw, g] w2 w3) := HFX.out.trans hf3 (fun x hx => by simp at hx; simp; omega)
          clear hs3 hf3 ht3 hi
          go_wp2_with fail
          go_roundw
          case rel => exact ⟨k + 1, by go_num, by omega, by omega, HB4.out, HF4.out⟩
          case measure => simp [intOf]; omega
      · go_wp2_with fail
        refine (asks_any HS.out HR.out a b).mono ?_
        rintro e w3 ⟨rfl, ⟨c3, hs3⟩, hf3⟩
        have HB4 : Hid (Both w3 ab aw g n) := ⟨_, _, hs3, HR.out.fr hf3 (by simpa using NR.out.1)⟩
        have HF4 : Hid (Fr [ab, aw, g] w2 w3) := HFX.out.trans hf3 (fun x hx => by simp at hx; simp [hx])
        clear hs3 hf3
        go_wp2_with fail
        go_roundw
        case rel => exact ⟨k + 1, by go_num, by omega, by omega, HB4.out, HF4.out⟩
        case measure => simp [intOf]; omega
    · have hway : ¬ (k : Int) < (na : Int) ∨ ((k : Int) < (na : Int) ∧ ¬ (k : Int) < 200) := by omega
      obtain ⟨wo, rfl⟩ : ∃ wo : World, wo = wr := ⟨_, rfl⟩
      clear hlt
      rcases hway with w1' | ⟨w1', w2'⟩
      all_goals
        go_wp2_with fail
        clear E1 f1 f2
        go_loopw [10] (fun i wr => ∃ j : Nat, i = .int .i64 j ∧ j ≤ n ∧ Both wr ab aw g n ∧ Fr [ab, aw, g] W wr) (fun i _ => n - (intOf i).toNat)
        case atStart => exact ⟨0, rfl, Nat.zero_le _, HB.out, HW.out⟩
        case round =>
          obtain ⟨j, rfl, hj, hb3, hf3⟩ := hrel
          have HF3 := hide hf3
          obtain ⟨fw, cc, hs, hr⟩ := hb3
          have nga : g ≠ ab := (hs.set.apart hr.row (by decide)).symm
          have NR : Hid (g ≠ ab ∧ g ≠ aw) := ⟨nga, HNE.out.symm⟩
          have HS := hide hs
          have HR := hide hr
          clear hf3 nga
          by_cases hlt : j < n
          · have hlt' : (j : Int) < (n : Int) := by omega
            obtain ⟨x, hxx⟩ : ∃ x, fw j = x := ⟨_, rfl⟩
            have HL := hide (load_at HS.out (i := (j : Int)) (k := j) (v := x) rfl hlt hxx)
            have hcw := hr.cw hlt
            rw [hxx] at hcw
            clear hs hr hxx
            go_wp2_with fail
            refine HL.out.mono ?_
            rintro e w4 ⟨rfl, hs4, hf4⟩
            have HS4 := hide hs4
            have HR4 := hide (HR.out.fr hf4 (by simpa using NR.out.1))
            have hcw4 : w4.cell? ⟨g, j, none⟩ = some (.int .u64 (x : Int)) := (hf4.cell (p := ⟨g, j, none⟩) HR.out.row.lt (by simpa using NR.out.1)).trans hcw
            have HF4 : Hid (Fr [ab, aw, g] W w4) := HF3.out.trans hf4 (fun x hx => by simp at hx; simp [hx])
            clear hs4 hf4 hcw
            go_wp2_with fail
            refine (asks_any HS4.out HR4.out (j : Int) (n : Int)).mono ?_
            rintro e w5 ⟨rfl, ⟨c5, hs5⟩, hf5⟩
            have HB5 : Hid (Both w5 ab aw g n) := ⟨_, _, hs5, HR4.out.fr hf5 (by simpa using NR.out.1)⟩
            have HF5 : Hid (Fr [ab, aw, g] W w5) := HF4.out.trans hf5 (fun x hx => by simp at hx; simp [hx])
            clear hs5 hf5
            go_wp2_with fail
            go_roundw
            case rel => exact ⟨j + 1, by go_num, by omega, HB5.out, HF5.out⟩
            case measure => simp [intOf]; omega
          · clear hs hr
            go_wp2_with fail
            refine (asks_any HS.out HR.out 0 (n : Int)).mono ?_
            rintro e w5 ⟨rfl, ⟨c5, hs5⟩, hf5⟩
            have HF5 : Hid (Fr [ab, aw, g] W w5) := HF3.out.trans hf5 (fun x hx => by simp at hx; simp [hx])
            clear hs5 hf5
            go_wp2_with fail
            go_ret
            exact ⟨rfl, HF5.out.below (Nat.le_refl _) (fun x hx => by simp at hx; omega)⟩

theorem open_acts {H : Type} {enc : TypeId × Value → H} {W : World} {r : Reach} {b : Nat} {v : Value} {d : DataW H} {p : List MemPlace}
    (hv : Value.okWide Try.prog W r b 22 v) (h : DataW.Trod enc Try.prog W 0 (fun _ => true) true 22 v d p) :
    ∃ A n c f, v = .slice A n c ∧ n ≤ maxLen ∧ Acts W A n f ∧ ∀ k, (f k).Ok := by
  obtain ⟨a0, len, cap, rfl⟩ := okWide_slice Try.underlying22 hv
  obtain ⟨fuel, hf⟩ := h
  rcases open_slice_fields Try.underlying22 Try.underlying31 (by kernel_rfl) (by kernel_rfl) hf with ⟨hcs, hx⟩ | ⟨a, len', cap', m, D, Pl, hcs, _, hl, hm, hmm, hx, hi⟩
  · simp only [Value.cells] at hcs
    injection hcs with h1 _
    injection h1 with h1 h2 h3
    subst h1 h2 h3
    exact ⟨none, 0, 0, fun _ => ⟨0, 0, 0, 0, 0⟩, rfl, Nat.zero_le _, fun h => absurd h (by decide), fun _ => (⟨by decide, by decide, by decide⟩ : (⟨0, 0, 0, 0, 0⟩ : Call).Ok)⟩
  · simp only [Value.cells] at hcs
    injection hcs with h1 _
    injection h1 with h1 h2 h3
    subst h1 h2 h3
    simp only [if_true] at hmm
    subst hmm
    have each : ∀ k, ∃ x : Call, x.Ok ∧ (k < m → W.cell? (a.add (k * 5)) = some (.int .i64 x.kind) ∧ W.cell? (a.add (k * 5 + 1)) = some (.int .i64 x.a) ∧ W.cell? (a.add (k * 5 + 2)) = some (.int .i64 x.b) ∧ W.cell? (a.add (k * 5 + 3)) = some (.int .i64 x.n) ∧ W.cell? (a.add (k * 5 + 4)) = some (.int .u64 (x.v : Int))) := by
      intro k
      by_cases hk : k < m
      · obtain ⟨ys, n, _, _, _, hf⟩ := hi k hk
        obtain ⟨v0, y0, k0, _, t0⟩ := hf 0 _ rfl
        obtain ⟨v1, y1, k1, _, t1⟩ := hf 1 _ rfl
        obtain ⟨v2, y2, k2, _, t2⟩ := hf 2 _ rfl
        obtain ⟨v3, y3, k3, _, t3⟩ := hf 3 _ rfl
        obtain ⟨v4, y4, k4, _, t4⟩ := hf 4 _ rfl
        obtain ⟨z0, e0, _, w0⟩ := DataW.trod_int Try.underlying3 t0
        obtain ⟨z1, e1, _, w1⟩ := DataW.trod_int Try.underlying3 t1
        obtain ⟨z2, e2, _, w2⟩ := DataW.trod_int Try.underlying3 t2
        obtain ⟨z3, e3, _, w3⟩ := DataW.trod_int Try.underlying3 t3
        obtain ⟨z4, e4, _, w4⟩ := DataW.trod_int Try.underlying29 t4
        simp only [List.cons.injEq, and_true] at e0 e1 e2 e3 e4
        subst e0 e1 e2 e3 e4
        obtain ⟨u0, u1⟩ := u64_bounds w4
        obtain ⟨V, rfl⟩ := Int.eq_ofNat_of_zero_le u0
        exact ⟨⟨z0, z1, z2, z3, V⟩, ⟨(int_bounds w1).2, (int_bounds w0).2, by simp only; omega⟩, fun _ => ⟨k0, k1, k2, k3, k4⟩⟩
      · exact ⟨⟨0, 0, 0, 0, 0⟩, ⟨by decide, by decide, by decide⟩, fun h => absurd h hk⟩
    obtain ⟨g, hfun⟩ : ∃ g : Nat → Call, ∀ k, (g k).Ok ∧ (k < m → W.cell? (a.add (k * 5)) = some (.int .i64 (g k).kind) ∧ W.cell? (a.add (k * 5 + 1)) = some (.int .i64 (g k).a) ∧ W.cell? (a.add (k * 5 + 2)) = some (.int .i64 (g k).b) ∧ W.cell? (a.add (k * 5 + 3)) = some (.int .i64 (g k).n) ∧ W.cell? (a.add (k * 5 + 4)) = some (.int .u64 ((g k).v : Int))) :=
      ⟨fun k => Classical.choose (each k), fun k => Classical.choose_spec (each k)⟩
    clear each
    refine ⟨some a, len, m, g, rfl, by omega, fun hn => ?_, fun k => (hfun k).1⟩
    have h0 := ((hfun 0).2 (by omega)).1
    obtain ⟨b0, off, spot⟩ := a
    have hspot : spot = none := by
      have := World.cell?_spot h0
      simpa [Addr.add] using this
    subst hspot
    refine ⟨b0, off, rfl, ?_, fun k hk => ?_⟩
    · have := lt_of_cell h0
      simpa [Addr.add] using this
    · obtain ⟨q0, q1, q2, q3, q4⟩ := (hfun k).2 (by omega)
      have ea : ∀ j : Nat, Addr.add ⟨b0, off, none⟩ j = ⟨b0, off + j, none⟩ := fun j => Go.WideShapes.add_plain b0 off j
      rw [ea] at q0 q1 q2 q3 q4
      exact ⟨q0, by rw [Nat.add_assoc]; exact q1, by rw [Nat.add_assoc]; exact q2, by rw [Nat.add_assoc]; exact q3, by rw [Nat.add_assoc]; exact q4⟩
theorem holds {H : Type} {enc : TypeId × Value → H} {W : World} {base : Nat} {args : Array Value} {ds : List (DataW H)} {p : List MemPlace}
    (hval : ∀ (j : Nat) t v, Try.f3.params[j]? = some t → args[j]? = some v → Value.okWide Try.prog W .any base t v)
    (hA : DataW.TrodAll enc Try.prog W 0 (fun _ => true) true Try.f3.params.toList args.toList ds p) : Holds Try.prog 3 args W := by
  rw [Try.params3] at hA hval
  obtain ⟨v0, vs0, d0, ds0, p0, q0, hargs, rfl, rfl, h0, r0⟩ := trodAll_cons hA
  obtain ⟨v1, vs1, d1, ds1, p1, q1, rfl, rfl, rfl, h1, r1⟩ := trodAll_cons r0
  obtain ⟨rfl, rfl, rfl⟩ := trodAll_nil r1
  obtain rfl : args = #[v0, v1] := by cases args; simp_all
  obtain ⟨n, rfl, rfl, rfl, w0⟩ := open_int Try.underlying3 (hval 0 3 v0 rfl rfl) h0
  obtain ⟨A, na, ca, f, rfl, hna, hA1, hf1⟩ := open_acts (hval 1 22 v1 rfl rfl) h1
  exact walk W n A na ca f hA1 hf1 (by unfold maxLen at hna; omega)
theorem readable : ∀ t, t ∈ Try.f3.params.toList → Try.prog.readableRec t = true ∧ t < Try.prog.types.size := by
  intro t ht
  rw [Try.params3] at ht
  have hm : t = 3 ∨ t = 22 := by simp at ht; omega
  rcases hm with rfl | rfl
  all_goals exact ⟨by kernel_rfl, of_decide_eq_true (by kernel_rfl)⟩
theorem laid_met (os : Os) : laidMet Try.prog Rows.parsePlaysRow.laid ((laidWorld os).forCall (fun _ _ => 0) ⟨#[], #[.int .i64 0, .slice none 0 0], []⟩).memory :=
  ⟨[], rfl, List.nodup_nil, fun _ _ h => by cases h⟩
theorem reads (os : Os) {H : Type} (enc : TypeId × Value → H) : ∃ places, DataW.whole enc Try.prog ((laidWorld os).forCall (fun _ _ => 0) ⟨#[], #[.int .i64 0, .slice none 0 0], []⟩).memory Try.f3.params.toList Rows.parsePlaysSpec.vars false (#[.int .i64 0, .slice none 0 0] : Array Value).toList 8 = some ([.lit (.int .i64 0), .nil], [], places) :=
  ⟨[], by kernel_rfl⟩
theorem spec {H : Type} : ∀ ds : List (DataW H), ds.length = Try.f3.params.toList.length → Rows.parsePlaysSpec.fn H (ds ++ []) = { results := [.lit (.bool true)], args := ds, vars := [] } := by
  intro ds h
  rw [Try.params3] at h
  simp only [List.append_nil]
  match ds, h with
  | [_, _], _ => rfl

set_option maxRecDepth 100000 in
theorem lifted (os : Os) (started : os.Started) (H : Type) (enc : TypeId × Value → H) (F : Stop.Interp) :
    ReturnsInHanded {} Try.checked os 3 .any ((OpenSpec.ofChange Rows.parsePlaysSpec).preRow enc Try.prog Try.f3 Rows.parsePlaysRow.domain false Rows.parsePlaysRow.laid) (((OpenSpec.ofChange Rows.parsePlaysSpec).at F).post enc Try.prog Try.f3 false true false false) := by
  obtain ⟨places, hx⟩ := reads os enc
  refine returnsInHanded_of_row (C := Try.checked) (s := OpenSpec.ofChange Rows.parsePlaysSpec) own started (by kernel_rfl) Try.func3
    (witness_row_at (enc := enc) (C := Try.checked) false (laidWorld os) #[.int .i64 0, .slice none 0 0] rfl (by kernel_rfl) (by kernel_rfl) (by kernel_rfl)
      (OpenSpec.preRow_of_cond 8 hx (by kernel_rfl) (fun k hk => by cases hk) (by kernel_rfl) (laid_met os))) ?_
  intro W base args ds gs before hval hW _ _ _ hL _ _
  have hW' : DataW.Whole enc Try.prog Try.f3.params.toList Rows.parsePlaysSpec.vars false W args.toList ds gs before := hW
  exact law_close (s := Rows.parsePlaysSpec) rfl rfl Try.underlying4 spec laidOut readable hW' (by
    obtain ⟨p, q, hA, _⟩ := hW'
    exact holds hval hA)

theorem said : Rows.ParsePlaysSaid :=
  OpenClaim.holds_of_cond 3 Try.f3 rfl rfl rfl rfl rfl rfl rfl ⟨rfl, rfl, rfl, rfl, rfl⟩ rfl rfl rfl rfl rfl (by kernel_rfl) Try.func3 (by kernel_rfl)
    (of_decide_eq_true (by kernel_rfl)) (by unfold Func.isWrapper; first | (rw [if_pos (by decide +kernel)]; kernel_rfl) | (rw [if_neg (by decide +kernel)]; exact ⟨rfl, rfl⟩))
    (fun os started H enc _ F => by rw [OpenClaim.pre_eq_preRow]; exact lifted os started H enc F)
end Go.Proofs.Ytjnnegbcijmclaa.ParsePlays
