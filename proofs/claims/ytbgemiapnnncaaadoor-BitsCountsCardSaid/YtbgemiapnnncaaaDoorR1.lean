/- The document's sets, a bool a number: what each call answers and leaves. -/
import Derived.Test.YtbgemiapnnncaaaDoorB5
namespace Go.Proofs.YtbgemiapnnncaaaDoor
set_option linter.unusedVariables false
open Go.RowKit Go.Gl

theorem same_any {w : World} {A B : Option Addr} {ca cb : Nat} {xs ys : List Int} (hA : Sl w A xs.length (fun k => .int .i64 (xs.getD k 0))) (hB : Sl w B ys.length (fun k => .int .i64 (ys.getD k 0)))
    (hx : xs.length ≤ 4611686018427387904) (hy : ys.length ≤ 4611686018427387904) :
    Calls Tryd.prog 23 #[.slice A xs.length ca, .slice B ys.length cb] w fun e w' => e = .returned (.bool (decide (xs = ys))) ∧ ∃ k, w' = w.drewN k := by
  by_cases hl : xs.length = ys.length
  · have hl' : ((xs.length : Int) != (ys.length : Int)) = false := by rw [bne_eq_false_iff_eq]; omega
    have HA := hide hA
    have HB := hide hB
    have HL := hide hl
    clear hA hB hl
    go_enter Tryd.func23, Tryd.ntmps23
    go_wp2
    go_loopw [5] (fun i wr => ∃ k q : Nat, i = .int .i64 k ∧ k ≤ xs.length ∧ (∀ j, j < k → xs.getD j 0 = ys.getD j 0) ∧ wr = w.drewN q) (fun i _ => xs.length - (intOf i).toNat)
    case atStart => exact ⟨0, 0, rfl, Nat.zero_le _, fun j hj => absurd hj (by omega), rfl⟩
    case round =>
      obtain ⟨k, q, rfl, hk, hs, rfl⟩ := hrel
      have HS := hide hs
      clear hs
      by_cases hlt : k < xs.length
      · have hlt1 : (k : Int) < (xs.length : Int) := by omega
        have hlt2 : (k : Int) < (ys.length : Int) := by have := HL.out; omega
        have hlt3 : k < ys.length := by omega
        obtain ⟨b, off, rfl, _, ha⟩ := HA.out (by omega)
        obtain ⟨b', off', rfl, _, hb⟩ := HB.out (by omega)
        have hca : w.cell? ⟨b, off + k, none⟩ = some (.int .i64 (xs.getD k 0)) := ha k hlt
        have hcb : w.cell? ⟨b', off' + k, none⟩ = some (.int .i64 (ys.getD k 0)) := hb k hlt3
        have HX : Hid (xs ≠ ys ∨ xs.getD k 0 = ys.getD k 0) := by
          by_cases h : xs = ys
          · right; rw [h]
          · exact .inl h
        clear ha hb
        generalize hX : xs.getD k 0 = x at *
        generalize hY : ys.getD k 0 = y at *
        have EX := hide hX
        have EY := hide hY
        clear hX hY
        by_cases he : x = y
        · subst he
          go_wp2_with fail
          go_quiet (fail)
          go_wp2
          go_roundw
          case rel => exact ⟨k + 1, q + nq, by go_num, by omega, fun j hj => by
            rcases Nat.lt_or_ge j k with h | h
            · exact HS.out j h
            · obtain rfl : j = k := by omega
              rw [EX.out, EY.out], rfl⟩
          case measure => simp [intOf]; omega
        · have hne : (x == y) = false := by simpa using he
          have hne' : (x != y) = true := by simpa using he
          go_wp2_with fail
          go_quiet (fail)
          go_wp2
          go_ret
          refine ⟨ret_bool ?_, q + nq, by rw [World.drewN_drewN]⟩
          rcases HX.out with h | h
          · simp [h]
          · exact absurd h he
      · go_wp2_with fail
        go_ret
        refine ⟨ret_bool ?_, _, rfl⟩
        have : xs = ys := by
          apply List.ext_getElem HL.out
          intro i h1 h2
          have := HS.out i (by omega)
          simpa [h1, h2] using this
        simp [this]
  · have hl' : ((xs.length : Int) != (ys.length : Int)) = true := by rw [bne_iff_ne]; omega
    have HE : Hid ((false : Bool) = decide (xs = ys)) := by
      refine Eq.symm ?_
      rw [decide_eq_false_iff_not]
      rintro rfl
      exact hl rfl
    clear hA hB hl
    go_enter Tryd.func23, Tryd.ntmps23
    go_wp2
    go_ret
    exact ⟨ret_bool HE.out, 0, rfl⟩
def bv (L : List Bool) : Array Value := (L.map Value.bool).toArray
theorem bv_at (L : List Bool) (k : Nat) (h : k < L.length) : (bv L)[k]? = some (.bool (L.getD k false)) := by simp [bv, h]
theorem bv_set (L : List Bool) (k : Nat) (x : Bool) : (bv L).setIfInBounds k (.bool x) = bv (L.set k x) := by simp [bv]
/-- The numbers of such a set. -/
def rS (L : List Bool) (j : Nat) : Bool := L.getD j false
theorem rS_set {L : List Bool} {k : Nat} (h : k < L.length) (x : Bool) (j : Nat) : rS (L.set k x) j = if j = k then x else rS L j := by
  unfold rS
  simp only [List.getD_eq_getElem?_getD, List.getElem?_set]
  by_cases hj : k = j
  · subst hj; simp [h]
  · rw [if_neg hj, if_neg (fun e => hj e.symm)]
theorem rS_far {L : List Bool} {j : Nat} (h : L.length ≤ j) : rS L j = false := by
  unfold rS
  rw [List.getD_eq_getElem?_getD, List.getElem?_eq_none h]; rfl
structure RSet (w : World) (rs rb : Nat) (L : List Bool) : Prop where
  set : Blk w rs 45 #[.slice (some ⟨rb, 0, none⟩) L.length L.length]
  row : Blk w rb 4 (bv L)
  max : L.length ≤ 4194304
section
variable {w w' : World} {rs rb : Nat} {L : List Bool} {F : List Nat}
theorem RSet.fr (h : RSet w rs rb L) (hf : Fr F w w') (h1 : rs ∉ F) (h2 : rb ∉ F) : RSet w' rs rb L := ⟨h.set.fr hf h1, h.row.fr hf h2, h.max⟩
theorem RSet.drewN (h : RSet w rs rb L) (k : Nat) : RSet (w.drewN k) rs rb L := ⟨h.set, h.row, h.max⟩
theorem RSet.c0 (h : RSet w rs rb L) : w.cell? ⟨rs, 0, none⟩ = some (.slice (some ⟨rb, 0, none⟩) L.length L.length) := by rw [h.set.cell]; rfl
theorem RSet.cw (h : RSet w rs rb L) {k : Nat} (hk : k < L.length) : w.cell? ⟨rb, k, none⟩ = some (.bool (rS L k)) := by rw [h.row.cell, bv_at _ _ hk]; rfl
theorem RSet.ne (h : RSet w rs rb L) : rs ≠ rb := h.set.apart h.row (by decide)
theorem RSet.put (h : RSet w rs rb L) (k : Nat) (x : Bool) : RSet (w.setCell ⟨rb, k, none⟩ (.bool x)) rs rb (L.set k x) :=
  ⟨by rw [List.length_set]; exact h.set.far (p := ⟨rb, k, none⟩) h.ne _, by have := h.row.put k (.bool x); rw [bv_set] at this; exact this, by rw [List.length_set]; exact h.max⟩
end
def inS (S : Nat → Bool) (i : Int) : Bool := decide (0 ≤ i) && S i.toNat
theorem r1has_any {w : World} {rs rb : Nat} {L : List Bool} (h : RSet w rs rb L) (i : Int) :
    Calls Tryd.prog 17 #[.pointer (some ⟨rs, 0, none⟩), .int .i64 i] w fun e w' => e = .returned (.bool (inS (rS L) i)) ∧ w = w' := by
  have h0 := h.c0
  by_cases h1 : 0 ≤ i
  · obtain ⟨I, rfl⟩ := Int.eq_ofNat_of_zero_le h1
    by_cases h2 : I < L.length
    · have h3 : (I : Int) < (L.length : Int) := by omega
      have hc := h.cw h2
      have HE : Hid (rS L I = inS (rS L) (I : Int)) := by unfold inS; show _ = _; simp
      generalize rS L I = x at *
      clear h
      go_enter Tryd.func17, Tryd.ntmps17
      go_wp2
      go_ret
      exact ⟨ret_bool HE.out, rfl⟩
    · have h3 : decide ((I : Int) < (L.length : Int)) = false := by simp; omega
      have h4 : ¬ ((I : Int) < (L.length : Int)) := by omega
      have HE : Hid (false = inS (rS L) (I : Int)) := by
        show _ = _
        unfold inS
        rw [show (I : Int).toNat = I from rfl, rS_far (by omega)]; simp
      clear h
      go_enter Tryd.func17, Tryd.ntmps17
      go_wp2
      go_ret
      exact ⟨ret_bool HE.out, rfl⟩
  · have HE : Hid (false = inS (rS L) i) := by
      show _ = _
      simp [inS, h1]
    clear h
    go_enter Tryd.func17, Tryd.ntmps17
    go_wp2
    go_ret
    exact ⟨ret_bool HE.out, rfl⟩

def RTurned (S : Nat → Bool) (n : Nat) (i : Int) (on c : Bool) (er : Int) (S' : Nat → Bool) : Prop :=
  (0 ≤ i ∧ i < (n : Int) ∧ er = 0 ∧ c = (S i.toNat != on) ∧ ∀ j : Nat, S' j = if j = i.toNat then on else S j) ∨
  (¬ (0 ≤ i ∧ i < (n : Int)) ∧ er = 2 ∧ c = false ∧ S' = S)
def RTurnPost (w : World) (rs rb : Nat) (L : List Bool) (i : Int) (on : Bool) (e : Ending) (w' : World) : Prop :=
  ∃ c er L', e = .returned (.tuple #[.bool c, .int .i64 er]) ∧ RSet w' rs rb L' ∧ L'.length = L.length ∧ Fr [rb] w w' ∧ RTurned (rS L) L.length i on c er (rS L')
theorem r1set_any {w : World} {rs rb : Nat} {L : List Bool} (h : RSet w rs rb L) (i : Int) (on : Bool) :
    Calls Tryd.prog 28 #[.pointer (some ⟨rs, 0, none⟩), .int .i64 i, .bool on] w (RTurnPost w rs rb L i on) := by
  have h0 := h.c0
  have H := hide h
  have HN : ¬ (0 ≤ i ∧ i < (L.length : Int)) → Hid (RTurned (rS L) L.length i on false 2 (rS L)) := fun hn => .inr ⟨hn, rfl, rfl, rfl⟩
  by_cases h1 : 0 ≤ i
  · obtain ⟨I, rfl⟩ := Int.eq_ofNat_of_zero_le h1
    by_cases h2 : I < L.length
    · have h3 : (I : Int) < (L.length : Int) := by omega
      have hc := h.cw h2
      have hfz := h.row.frozen I
      have HB := hide (h.put I on)
      have HT : Hid (RTurned (rS L) L.length (I : Int) on (rS L I != on) 0 (rS (L.set I on))) := .inl ⟨h1, h3, rfl, rfl, fun j => by rw [rS_set h2]; rfl⟩
      generalize hX : rS L I = x at *
      clear h HN hX
      go_enter Tryd.func28, Tryd.ntmps28
      go_wp2
      go_ret2
      exact ⟨_, 0, _, rfl, HB.out, by simp, (Fr.refl _ _).setCell (p := ⟨rb, I, none⟩) (.inl (by simp)) _, HT.out⟩
    · have h3 : ¬ ((I : Int) < (L.length : Int)) := by omega
      have HN' := HN (by omega)
      clear h HN
      go_enter Tryd.func28, Tryd.ntmps28
      go_wp2
      go_ret2
      exact ⟨false, 2, L, rfl, H.out, rfl, Fr.refl _ _, HN'.out⟩
  · have HN' := HN (by omega)
    clear h HN
    go_enter Tryd.func28, Tryd.ntmps28
    go_wp2
    go_ret2
    exact ⟨false, 2, L, rfl, H.out, rfl, Fr.refl _ _, HN'.out⟩
theorem r1put_any {w : World} {rs rb : Nat} {L : List Bool} (h : RSet w rs rb L) (i : Int) :
    Calls Tryd.prog 11 #[.pointer (some ⟨rs, 0, none⟩), .int .i64 i] w (RTurnPost w rs rb L i true) := by
  have H := hide h
  clear h
  go_enter Tryd.func11, Tryd.ntmps11
  go_wp2_with (go_at_call 28; refine (r1set_any H.out i true).mono ?_; rintro e w' ⟨c, er, L', rfl, a1, a2, a3, a4⟩)
  go_ret2
  exact ⟨c, er, L', rfl, a1, a2, a3, a4⟩
theorem r1drop_any {w : World} {rs rb : Nat} {L : List Bool} (h : RSet w rs rb L) (i : Int) :
    Calls Tryd.prog 13 #[.pointer (some ⟨rs, 0, none⟩), .int .i64 i] w (RTurnPost w rs rb L i false) := by
  have H := hide h
  clear h
  go_enter Tryd.func13, Tryd.ntmps13
  go_wp2_with (go_at_call 28; refine (r1set_any H.out i false).mono ?_; rintro e w' ⟨c, er, L', rfl, a1, a2, a3, a4⟩)
  go_ret2
  exact ⟨c, er, L', rfl, a1, a2, a3, a4⟩

theorem Tryd.info_bool : (Tryd.prog.info? 4).map (fun i => (i.zero, i.size, i.bytes)) = some (some (.bool false), 1, 1) := by kernel_rfl
def RNewPost (w : World) (n : Nat) (e : Ending) (w' : World) : Prop :=
  ∃ rs rb, e = .returned (.tuple #[.pointer (some ⟨rs, 0, none⟩), .int .i64 0]) ∧ RSet w' rs rb (List.replicate n false) ∧ Fr [] w w' ∧ w.heap.size ≤ rs ∧ w.heap.size ≤ rb
theorem r1new_bad (n : Int) (h : n < 0 ∨ 4194304 < n) (w : World) : Calls Tryd.prog 9 #[.int .i64 n] w fun e w' => e = .returned (.tuple #[.pointer none, .int .i64 2]) ∧ w = w' := by
  rcases h with h | h
  all_goals
    go_enter Tryd.func9, Tryd.ntmps9
    go_wp2
    go_ret2
    exact ⟨rfl, rfl⟩
theorem r1new_any (n : Nat) (h : n ≤ 4194304) (w : World) : Calls Tryd.prog 9 #[.int .i64 (n : Int)] w (RNewPost w n) := by
  obtain ⟨i0, hi, hz0, hz1, hz2⟩ := info_parts Tryd.info_bool
  go_enter Tryd.func9, Tryd.ntmps9
  go_wp2_with (first | (at_make; refine wpList_make_full _ rfl _ _ 43 rfl w.heap.size 4 i0 (.bool false) 1 Tryd.underlying43 hi hz0 hz1 _ _ _ _ n rfl rfl rfl rfl (by rw [hz2]; omega) (by unfold maxLen; omega) (Nat.le_refl _) ?_; intro w1 hown hgr; have HO := hide hown; have HG := hide hgr; clear hown hgr))
  go_ret2
  have hown := HO.out
  rw [Nat.mul_one, made_one _ rfl] at hown
  have hb := own_full hown
  refine ⟨w1.heap.size, w.heap.size, rfl, ⟨?_, ?_, by simpa using h⟩, ((Fr.refl _ _).grown HG.out (fun _ hk => by cases hk)).alloc _, HG.out.size, Nat.le_refl _⟩
  · rw [List.length_replicate]; exact Blk.new _ _ _
  · have : bv (List.replicate n false) = (List.replicate n (Value.bool false)).toArray := by simp [bv]
    rw [this]; exact hb.alloc _
end Go.Proofs.YtbgemiapnnncaaaDoor
