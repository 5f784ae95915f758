/- The package offs: New, Put, First, Drop. -/
import Derived.Test.YtjjedmjcnppdkaaDoorOf
import Derived.Deep.RegionHeld3
namespace Go.Proofs.YtjjedmjcnppdkaaDoor
set_option linter.unusedVariables false
open Go.RowKit Go.Gl

theorem oput_nil (a b : Int) (w : World) : Calls Tryd.prog 8 #[.pointer none, .int .i64 a, .int .i64 b] w fun e w' => e = .returned (.int .i64 1) ∧ w = w' := by
  go_enter Tryd.func8, Tryd.ntmps8
  go_wp2
  go_ret
  exact ⟨rfl, rfl⟩
theorem odrop_nil (a b : Int) (w : World) : Calls Tryd.prog 10 #[.pointer none, .int .i64 a, .int .i64 b] w fun e w' => e = .returned (.int .i64 1) ∧ w = w' := by
  go_enter Tryd.func10, Tryd.ntmps10
  go_wp2
  go_ret
  exact ⟨rfl, rfl⟩
theorem ofirst_nil (a : Int) (w : World) : Calls Tryd.prog 9 #[.pointer none, .int .i64 a] w fun e w' => e = .returned (.tuple #[.int .i64 0, .int .i64 1]) ∧ w = w' := by
  go_enter Tryd.func9, Tryd.ntmps9
  go_wp2
  go_ret2
  exact ⟨rfl, rfl⟩

/-- What First tells of a card. -/
theorem ofirst_out {w : World} {tb rb cw n : Nat} {f : Nat → Int} (h : Of w tb rb cw n f) {c : Int} (hc : ¬ (0 ≤ c ∧ c < (n : Int))) :
    Calls Tryd.prog 9 #[.pointer (some ⟨tb, 0, none⟩), .int .i64 c] w fun e w' => e = .returned (.tuple #[.int .i64 0, .int .i64 2]) ∧ w = w' := by
  have c3 := h.c3
  have hn := h.nmax
  clear h
  by_cases c1 : c < 0
  · clear hc
    go_enter Tryd.func9, Tryd.ntmps9
    go_wp2
    go_ret2
    exact ⟨rfl, rfl⟩
  · have c2 : (n : Int) ≤ c := by omega
    clear hc
    go_enter Tryd.func9, Tryd.ntmps9
    go_wp2
    go_ret2
    exact ⟨rfl, rfl⟩
theorem ofirst_at {w : World} {tb rb cw n : Nat} {f : Nat → Int} (h : Of w tb rb cw n f) {c : Nat} (hc : c < n) :
    Calls Tryd.prog 9 #[.pointer (some ⟨tb, 0, none⟩), .int .i64 (c : Int)] w fun e w' => e = .returned (.tuple #[.int .i64 (if f c = 0 then 0 else f c - 1), .int .i64 (if f c = 0 then 5 else 0)]) ∧ w = w' := by
  have c3 := h.c3
  have cr := h.cr hc
  have hn := h.nmax
  obtain ⟨ok1, ok2⟩ := h.ok c
  have hc' : (c : Int) < (n : Int) := by omega
  clear h
  generalize f c = x at *
  by_cases hx : x = 0
  · subst hx
    go_enter Tryd.func9, Tryd.ntmps9
    go_wp2
    go_ret2
    exact ⟨rfl, rfl⟩
  · rw [if_neg hx, if_neg hx]
    go_enter Tryd.func9, Tryd.ntmps9
    go_wp2
    go_ret2
    exact ⟨rfl, rfl⟩

/-- An object of so many words at an address: which cards are told. -/
def obj (cw : Nat) (f : Nat → Int) (a s : Nat) : Nat → Int := put2 f (cb cw a) (cb cw (a + s)) fun _ => (a : Int) + 1
def OPut (w : World) (tb rb cw n : Nat) (f' : Nat → Int) (e : Ending) (w' : World) : Prop :=
  e = .returned (.int .i64 0) ∧ Of w' tb rb cw n f' ∧ Fr [rb] w w'
theorem Of.turned {w w' : World} {tb rb cw n : Nat} {f f' : Nat → Int} (h : Of w tb rb cw n f) (hf : Fr [rb] w w') (hb : Blk w' rb 46 (rowV .u32 n f')) (hok : ∀ k, 0 ≤ f' k ∧ f' k ≤ 4194304) : Of w' tb rb cw n f' :=
  ⟨h.set.fr hf (by simpa using h.ne), hb, h.pos, h.cwm, h.max, hok⟩
theorem put2_ok {f g : Nat → Int} {a b : Nat} (h : ∀ k, 0 ≤ f k ∧ f k ≤ 4194304) (hg : ∀ k, a ≤ k → k < b → 0 ≤ g k ∧ g k ≤ 4194304) : ∀ k, 0 ≤ put2 f a b g k ∧ put2 f a b g k ≤ 4194304 := fun k => by
  unfold put2
  split
  · exact hg k (by omega) (by omega)
  · exact h k
theorem oput_out {w : World} {tb rb cw n : Nat} {f : Nat → Int} (h : Of w tb rb cw n f) {a s : Int} (ha : a ≤ 9223372036854775807) (hc : ¬ (0 ≤ a ∧ 1 ≤ s ∧ a + s ≤ ((cw * n : Nat) : Int))) :
    Calls Tryd.prog 8 #[.pointer (some ⟨tb, 0, none⟩), .int .i64 a, .int .i64 s] w fun e w' => e = .returned (.int .i64 2) ∧ w = w' := by
  have c0 := h.c0
  have hm := h.max
  generalize cw * n = m at *
  clear h
  by_cases c1 : a < 0
  · clear hc
    go_enter Tryd.func8, Tryd.ntmps8
    go_wp2
    go_ret
    exact ⟨rfl, rfl⟩
  · by_cases c2 : s < 1
    · clear hc
      go_enter Tryd.func8, Tryd.ntmps8
      go_wp2
      go_ret
      exact ⟨rfl, rfl⟩
    · have c3 : (m : Int) - a < s := by omega
      clear hc
      go_enter Tryd.func8, Tryd.ntmps8
      go_wp2
      go_ret
      exact ⟨rfl, rfl⟩
theorem oput_at {w : World} {tb rb cw n : Nat} {f : Nat → Int} (h : Of w tb rb cw n f) {a s : Nat} (hs : 1 ≤ s) (hm : a + s ≤ cw * n) :
    Calls Tryd.prog 8 #[.pointer (some ⟨tb, 0, none⟩), .int .i64 (a : Int), .int .i64 (s : Int)] w (OPut w tb rb cw n (obj cw f a s)) := by
  have c0 := h.c0
  have hmax := h.max
  have hn := h.nmax
  have HB := hide (beginning_any h a (a + s) (by omega) hm)
  have hxy := cb_mono (a := a) (b := a + s) h.pos (by omega)
  have hyn := cb_le h.pos hm
  have H := hide h
  unfold obj
  have ha4 : a < 4194304 := by omega
  generalize cb cw a = x at *
  generalize cb cw (a + s) = y at *
  have hm' : (s : Int) ≤ ((cw * n : Nat) : Int) - (a : Int) := by omega
  generalize cw * n = m at *
  unfold OPut
  clear h hm
  go_enter Tryd.func8, Tryd.ntmps8
  go_wp2_with fail
  rw [show (a : Int) + (s : Int) = ((a + s : Nat) : Int) from (Int.natCast_add a s).symm]
  refine HB.out.mono ?_
  rintro e w1 ⟨A, c, rfl, hA, k1, rfl⟩
  have HA := hide hA
  clear hA
  go_wp2_with fail
  go_loopw [39] (fun i wr => ∃ k : Nat, i = .int .i64 k ∧ k ≤ y - x ∧ Of wr tb rb cw n (put2 f x (x + k) fun _ => (a : Int) + 1) ∧ Fr [rb] w wr) (fun i _ => (y - x) - (intOf i).toNat)
  case atStart => exact ⟨0, rfl, Nat.zero_le _, by rw [Nat.add_zero, put2_none (Nat.le_refl _)]; exact H.out.drewN _, (Fr.refl _ _).drewN _⟩
  case round =>
    obtain ⟨k, rfl, hk, ho, hfr⟩ := hrel
    have HO := hide ho
    have HF := hide hfr
    by_cases hlt : k < y - x
    · obtain rfl := HA.out (by omega)
      have hc := ho.cr (k := x + k) (by omega)
      have hz := ho.row.frozen (x + k)
      have HP := hide (ho.row.putRow (x + k) ((a : Int) + 1))
      have HG : Hid (Fr [rb] wr (wr.setCell ⟨rb, x + k, none⟩ (.int .u32 ((a : Int) + 1)))) := (Fr.refl _ _).setCell (p := ⟨rb, x + k, none⟩) (.inl (by simp)) _
      have hlt' : (k : Int) < ((y - x : Nat) : Int) := by omega
      clear ho hfr
      generalize put2 f x (x + k) (fun _ => (a : Int) + 1) (x + k) = old at *
      go_wp2_with fail
      go_roundw
      case rel =>
        refine ⟨k + 1, by go_num, by omega, HO.out.turned HG.out ?_ ?_, HF.out.trans_same HG.out⟩
        · rw [← Nat.add_assoc, ← put2_step (by omega)]; exact HP.out
        · exact put2_ok H.out.ok (fun _ _ _ => by omega)
      case measure => simp [intOf]; omega
    · have hlt' : ¬ (k : Int) < ((y - x : Nat) : Int) := by omega
      obtain rfl : k = y - x := by omega
      clear ho hfr
      go_wp2_with fail
      go_ret
      refine ⟨rfl, ?_, HF.out⟩
      have := HO.out
      rw [show x + (y - x) = y by omega] at this
      exact this

theorem Tryd.zero_u32 (w : World) : (zeroValue 46).run Tryd.prog w = .ok (.int .u32 0) w := by kernel_rfl
theorem odrop_out {w : World} {tb rb cw n : Nat} {f : Nat → Int} (h : Of w tb rb cw n f) {a b : Int} (hc : ¬ (0 ≤ a ∧ a ≤ b ∧ b ≤ ((cw * n : Nat) : Int))) :
    Calls Tryd.prog 10 #[.pointer (some ⟨tb, 0, none⟩), .int .i64 a, .int .i64 b] w fun e w' => e = .returned (.int .i64 2) ∧ w = w' := by
  have c0 := h.c0
  have hm := h.max
  generalize cw * n = m at *
  clear h
  by_cases c1 : a < 0
  · clear hc
    go_enter Tryd.func10, Tryd.ntmps10
    go_wp2
    go_ret
    exact ⟨rfl, rfl⟩
  · by_cases c2 : b < a
    · clear hc
      go_enter Tryd.func10, Tryd.ntmps10
      go_wp2
      go_ret
      exact ⟨rfl, rfl⟩
    · have c3 : (m : Int) < b := by omega
      clear hc
      go_enter Tryd.func10, Tryd.ntmps10
      go_wp2
      go_ret
      exact ⟨rfl, rfl⟩
theorem odrop_at {w : World} {tb rb cw n : Nat} {f : Nat → Int} (h : Of w tb rb cw n f) {a b : Nat} (hab : a ≤ b) (hm : b ≤ cw * n) :
    Calls Tryd.prog 10 #[.pointer (some ⟨tb, 0, none⟩), .int .i64 (a : Int), .int .i64 (b : Int)] w (OPut w tb rb cw n (put2 f (cb cw a) (cb cw b) fun _ => 0)) := by
  have c0 := h.c0
  have hmax := h.max
  have HB := hide (beginning_any h a b hab hm)
  have hxy := cb_mono (a := a) (b := b) h.pos hab
  have hyn := cb_le h.pos hm
  have H := hide h
  generalize cb cw a = x at *
  generalize cb cw b = y at *
  have HE := hide (rowV_splice (q := .u32) (n := n) (f := f) (off := x) (m := y - x) (cs := List.replicate (y - x) (.int .u32 0)) (g := fun _ => 0) (by simp) (by omega) (fun j hj => by simp [hj]))
  have HS : Hid ((rowV .u32 n f).size = n) := rowV_size _ _ _
  have hfit : x + (y - x) ≤ n := by omega
  have HY : Hid (x + (y - x) = y) := by show x + (y - x) = y; omega
  generalize cw * n = m at *
  unfold OPut
  clear h
  go_enter Tryd.func10, Tryd.ntmps10
  go_wp2_with fail
  refine HB.out.mono ?_
  rintro e w1 ⟨A, c, rfl, hA, k1, rfl⟩
  have HA := hide hA
  clear hA
  go_wp2_with (with_reducible refine wpList_clear_blk rfl _ 43 rfl 46 Tryd.underlying43 Tryd.zero_u32 rfl rfl A (y - x) c rfl rb x (rowV .u32 n f) 46 (H.out.row.drewN _) HA.out (by rw [HS.out]; exact hfit) ?_)
  intro w2 hb hf
  go_wp2
  go_ret
  have h2 := HE.out
  rw [HY.out] at h2
  refine ⟨rfl, H.out.turned hf.out.from_drewN ?_ (put2_ok H.out.ok fun _ _ _ => by omega), hf.out.from_drewN⟩
  rw [← h2]; exact hb.out

/-- A geometry that a table may be made of. -/
structure OkGeo (g : Geo) (cw n : Nat) : Prop where
  pos : 1 ≤ cw
  cwm : cw < 9223372036854775808
  max : cw * n ≤ 4194304
  words : g.words = ((cw * n : Nat) : Int)
  cw : g.cw = (cw : Int)
  cards : g.cards = (n : Int)
theorem OkGeo.rem {cw n : Nat} (h : 1 ≤ cw) : ((cw * n : Nat) : Int) % (cw : Int) = 0 ∧ (n : Int) = ((cw * n : Nat) : Int) / (cw : Int) := by
  constructor
  · rw [← Int.natCast_emod, Nat.mul_mod_right]; rfl
  · rw [← Int.natCast_ediv, Nat.mul_div_cancel_left _ (by omega)]
theorem omay_ok (g : Geo) {cw n : Nat} (ok : OkGeo g cw n) (w : World) : Calls Tryd.prog 11 #[g.val] w fun e w' => e = .returned (.bool true) ∧ Fr [] w w' := by
  obtain ⟨W, rw', C, R, N, M⟩ := g
  obtain ⟨h1, h2, h3, h4, h5, h6⟩ := ok
  simp only at h4 h5 h6
  obtain ⟨h7, h8⟩ := OkGeo.rem (n := n) h1
  rw [← h4, ← h5] at h7 h8
  rw [← h6] at h8
  have hW : 0 ≤ W ∧ W ≤ 4194304 := by omega
  obtain ⟨hW1, hW2⟩ := hW
  have hC : 1 ≤ C ∧ C ≤ 9223372036854775807 := by omega
  obtain ⟨hC1, hC2⟩ := hC
  clear h1 h2 h3 h4 h5 h6
  unfold Geo.val
  go_enter Tryd.func11, Tryd.ntmps11
  go_wp2_with fail
  go_quiet (fail)
  go_wp2
  go_ret
  exact ⟨rfl, ((Fr.refl _ _).alloc _).drewN _⟩
theorem Tryd.info_u32o : (Tryd.prog.info? 46).map (fun i => (i.zero, i.size, i.bytes)) = some (some (.int .u32 0), 1, 4) := by kernel_rfl
def ONew (w : World) (cw n : Nat) (e : Ending) (w' : World) : Prop :=
  ∃ tb rb, e = .returned (.tuple #[.pointer (some ⟨tb, 0, none⟩), .int .i64 0]) ∧ Of w' tb rb cw n (fun _ => 0) ∧ Fr [] w w' ∧ w.heap.size ≤ tb ∧ w.heap.size ≤ rb
theorem onew_ok (g : Geo) {cw n : Nat} (ok : OkGeo g cw n) (w : World) (hT : Tab w) : Calls Tryd.prog 6 #[g.val] w (ONew w cw n) := by
  have hm := omay_ok g ok
  obtain ⟨i0, hi, hz0, hz1, hz2⟩ := info_parts Tryd.info_u32o
  have HOk := hide ok
  have HT := hide hT
  have hs := oS_lt ok.pos ok.cwm
  have hc1 := ok.pos
  have hc2 := ok.cwm
  have hn : n ≤ 4194304 := Nat.le_trans (Nat.le_mul_of_pos_left n ok.pos) ok.max
  have HD : Hid ((cw : Int) / 2 ^ oS cw = ((oD cw : Nat) : Int)) := by
    show _ = _
    unfold oD
    rw [show (2 : Int) ^ oS cw = ((2 ^ oS cw : Nat) : Int) from (Int.natCast_pow 2 _).symm, ← Int.natCast_ediv]
  have HZ : Hid (∀ w', Tab w' → Calls Tryd.prog 12 #[.int .u64 (cw : Int)] w' fun e w'' => e = .returned (.int .i64 ((oS cw : Nat) : Int)) ∧ w' = w'') := fun w' hT' => tz_any cw (by omega) (by omega) w' hT'
  obtain ⟨W, rw', C, R, N, M⟩ := g
  have h4 : W = ((cw * n : Nat) : Int) := ok.words
  obtain rfl : C = (cw : Int) := ok.cw
  obtain rfl : N = (n : Int) := ok.cards
  have HW := hide h4
  have HM := hide hm
  unfold Geo.val
  have HS : Hid (oS cw = oS cw) := rfl
  generalize hsd : oS cw = s at *
  have HSD := hide hsd
  clear hT ok hm h4 HS hsd
  go_enter Tryd.func6, Tryd.ntmps6
  go_wp2_with fail
  refine (HM.out _).mono ?_
  rintro e w1 ⟨rfl, hf⟩
  have hg := GeoAt.of ((Blk.new w 29 (Geo.cells ⟨W, rw', (cw : Int), R, (n : Int), M⟩)).fr hf (by simp))
  have HT1 := hide ((HT.out.alloc _).fr hf (by simp))
  have g0 := hg.c0
  have g2 := hg.c2
  have g4 := hg.c4
  have HF : Hid (Fr [] w w1) := ((Fr.refl _ _).alloc _).trans_same hf
  clear hf hg
  go_wp2_with fail
  refine (HZ.out _ HT1.out).mono ?_
  rintro e w' ⟨rfl, rfl⟩
  go_wp2_with fail
  obtain ⟨w2, hrun, r1, r2⟩ := run_make_full (P := Tryd.prog) w1.drew w1.heap.size 43 46 i0 (.int .u32 0) 1 Tryd.underlying43 hi hz0 hz1 .i64 .i64 n (by rw [hz2]; omega) (by unfold maxLen; omega) (Nat.le_refl _)
  have HO := hide r1
  have HG := hide r2
  have k0 : w2.cell? ⟨w.heap.size, 0, none⟩ = some (.int .i64 W) := (((Fr.refl [] w1).drew.grown r2 (fun _ hk => by cases hk)).cell (lt_of_cell g0) (by simp)).trans g0
  have k2 : w2.cell? ⟨w.heap.size, 2, none⟩ = some (.int .i64 (cw : Int)) := (((Fr.refl [] w1).drew.grown r2 (fun _ hk => by cases hk)).cell (lt_of_cell g2) (by simp)).trans g2
  have k4 : w2.cell? ⟨w.heap.size, 4, none⟩ = some (.int .i64 (n : Int)) := (((Fr.refl [] w1).drew.grown r2 (fun _ hk => by cases hk)).cell (lt_of_cell g4) (by simp)).trans g4
  have N0 := World.new_ne w2 _ k0
  clear r1 r2
  go_region_held3 (fun w' => w'.cell? ⟨w.heap.size, 0, none⟩ = some (.int .i64 W) ∧ w'.cell? ⟨w.heap.size, 2, none⟩ = some (.int .i64 (cw : Int)) ∧ w'.cell? ⟨w.heap.size, 4, none⟩ = some (.int .i64 (n : Int)))
    (first | exact ⟨g0, g2, g4⟩ | exact ⟨k0, k2, k4⟩ | go_keep)
    (first | fail)
  go_wp2
  go_ret2
  have hown := HO.out
  rw [Nat.mul_one, made_one _ rfl] at hown
  have hb := own_full hown
  have HG2 : Fr [] w1 w2 := ((Fr.refl _ w1).drew).grown HG.out (fun _ hk => by cases hk)
  refine ⟨w2.heap.size, w1.heap.size, rfl, ⟨?_, ?_, HOk.out.pos, HOk.out.cwm, HOk.out.max, fun _ => by decide⟩, HF.out.trans_same (HG2.alloc _), Nat.le_trans HF.out.size HG2.size, HF.out.size⟩
  · rw [← HW.out, HSD.out, ← HD.out]
    exact Blk.new _ _ _
  · rw [rowV_const]; exact hb.alloc _
end Go.Proofs.YtjjedmjcnppdkaaDoor
