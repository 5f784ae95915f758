/- The document's sets, a bool a number, the last: Fill, List. -/
import Derived.Test.YtbgemiapnnncaaaDoorR1b
namespace Go.Proofs.YtbgemiapnnncaaaDoor
set_option linter.unusedVariables false
open Go.RowKit Go.Gl

def RFilled (S : Nat → Bool) (n : Nat) (f t : Int) (on : Bool) (er : Int) (S' : Nat → Bool) : Prop :=
  (0 ≤ f ∧ f ≤ t ∧ t ≤ (n : Int) ∧ er = 0 ∧ ∀ j : Nat, S' j = if f ≤ (j : Int) ∧ (j : Int) < t then on else S j) ∨
  (¬ (0 ≤ f ∧ f ≤ t ∧ t ≤ (n : Int)) ∧ er = 2 ∧ S' = S)
def RFillPost (w : World) (rs rb : Nat) (L : List Bool) (f t : Int) (on : Bool) (e : Ending) (w' : World) : Prop :=
  ∃ er L', e = .returned (.int .i64 er) ∧ RSet w' rs rb L' ∧ L'.length = L.length ∧ Fr [rb] w w' ∧ RFilled (rS L) L.length f t on er (rS L')
theorem r1fill_any {w : World} {rs rb : Nat} {L : List Bool} (h : RSet w rs rb L) (f t : Int) (on : Bool) :
    Calls Tryd.prog 15 #[.pointer (some ⟨rs, 0, none⟩), .int .i64 f, .int .i64 t, .bool on] w (RFillPost w rs rb L f t on) := by
  have h0 := h.c0
  have hmax := h.max
  have H := hide h
  by_cases hb : 0 ≤ f ∧ f ≤ t ∧ t ≤ (L.length : Int)
  · obtain ⟨b1, b2, b3⟩ := hb
    clear h
    go_enter Tryd.func15, Tryd.ntmps15
    go_wp2
    go_loopw [9] (fun a wr => ∃ (A : Nat) (L' : List Bool), a = .int .i64 A ∧ f ≤ A ∧ (A : Int) ≤ t ∧ RSet wr rs rb L' ∧ L'.length = L.length ∧ Fr [rb] w wr ∧ ∀ j : Nat, rS L' j = if f ≤ (j : Int) ∧ (j : Int) < A then on else rS L j) (fun a _ => (t - intOf a).toNat)
    case atStart => exact ⟨f.toNat, L, by go_num, by omega, by omega, H.out, rfl, Fr.refl _ _, fun j => by rw [if_neg (by omega)]⟩
    case round =>
      obtain ⟨A, L', rfl, hA, hA2, hs, hl, hfr, hv⟩ := hrel
      have HS := hide hs
      have HF := hide hfr
      have HV := hide hv
      have HL := hide hl
      have hc0 := hs.c0
      by_cases hlt : (A : Int) < t
      · have hl2 : A < L'.length := by omega
        have hl3 : (A : Int) < (L'.length : Int) := by omega
        have hc := hs.cw hl2
        have hfz := hs.row.frozen A
        have HB := hide (hs.put A on)
        have HW : Hid (∀ j : Nat, rS (L'.set A on) j = if f ≤ (j : Int) ∧ (j : Int) < ((A + 1 : Nat) : Int) then on else rS L j) := fun j => by
          rw [rS_set hl2, hv j]
          by_cases hj : j = A
          · subst hj; rw [if_pos rfl, if_pos (by omega)]
          · rw [if_neg hj]
            by_cases hk : f ≤ (j : Int) ∧ (j : Int) < (A : Int)
            · rw [if_pos hk, if_pos (by omega)]
            · rw [if_neg hk, if_neg (by omega)]
        clear hs hfr hv hl h0
        go_wp2
        exact ⟨⟨A + 1, L'.set A on, by go_num, by omega, by omega, HB.out, by rw [List.length_set]; exact HL.out, HF.out.setCell (p := ⟨rb, A, none⟩) (.inl (by simp)) _, HW.out⟩, by simp [intOf]; omega⟩
      · clear hs hfr hv hl h0
        go_wp2
        go_ret
        refine ⟨0, L', rfl, HS.out, HL.out, HF.out, .inl ⟨b1, b2, b3, rfl, fun j => ?_⟩⟩
        rw [HV.out j, show (A : Int) = t by omega]
  · have HN : Hid (RFilled (rS L) L.length f t on 2 (rS L)) := .inr ⟨hb, rfl, rfl⟩
    clear h
    by_cases c1 : f < 0
    · clear hb
      go_enter Tryd.func15, Tryd.ntmps15
      go_wp2
      go_ret
      exact ⟨2, L, rfl, H.out, rfl, Fr.refl _ _, HN⟩
    · by_cases c2 : t < f
      · clear hb
        go_enter Tryd.func15, Tryd.ntmps15
        go_wp2
        go_ret
        exact ⟨2, L, rfl, H.out, rfl, Fr.refl _ _, HN⟩
      · have c3 : (L.length : Int) < t := by omega
        clear hb
        go_enter Tryd.func15, Tryd.ntmps15
        go_wp2
        go_ret
        exact ⟨2, L, rfl, H.out, rfl, Fr.refl _ _, HN⟩

def belowS (S : Nat → Bool) (b : Nat) : List Nat := (List.range b).filter S
theorem belowS_succ (S : Nat → Bool) (b : Nat) : belowS S (b + 1) = belowS S b ++ (if S b then [b] else []) := by
  unfold belowS
  rw [List.range_succ, List.filter_append]
  congr 1
  by_cases h : S b <;> simp [h]
theorem belowS_le (S : Nat → Bool) (b : Nat) : (belowS S b).length ≤ b := by
  unfold belowS
  exact Nat.le_trans (List.length_filter_le _ _) (by simp)
theorem r1list_any {w : World} {rs rb : Nat} {L : List Bool} (h : RSet w rs rb L) :
    Calls Tryd.prog 25 #[.pointer (some ⟨rs, 0, none⟩)] w (ListPost w (belowS (rS L) L.length)) := by
  have hmax := h.max
  have H := hide h
  obtain ⟨i0, hi, hz0, hz1, hz2⟩ := info_parts Tryd.info_int
  clear h
  go_enter Tryd.func25, Tryd.ntmps25
  go_wp2
  go_loopw [3, 4] (fun v i wr => ∃ k : Nat, i = .int .i64 k ∧ k ≤ L.length ∧ wr.ownsRow w.heap.size 3 1 v (belowS (rS L) k).length (nums (belowS (rS L) k)) ∧ Fr [] w wr) (fun _ i _ => L.length - (intOf i).toNat)
  case atStart => exact ⟨0, rfl, Nat.zero_le _, World.ownsRow_nil _ _ _ _, Fr.refl _ _⟩
  case round =>
    obtain ⟨k, rfl, hk, hown, hfr⟩ := hrel
    have HO := hide hown
    have HF := hide hfr
    have hc0 := (hfr.cell (p := ⟨rs, 0, none⟩) H.out.set.lt (by simp)).trans H.out.c0
    have hbl := belowS_le (rS L) k
    clear hown hfr
    by_cases hlt : k < L.length
    · have hlt1 : (k : Int) < (L.length : Int) := by omega
      have hc := (HF.out.cell (p := ⟨rb, k, none⟩) H.out.row.lt (by simp)).trans (H.out.cw hlt)
      have HS := hide (belowS_succ (rS L) k)
      generalize rS L k = x at *
      cases x
      · go_wp2
        go_roundw
        case rel => exact ⟨k + 1, by go_num, by omega, by rw [HS.out]; simpa using HO.out, HF.out⟩
        case measure => simp [intOf]; omega
      · go_wp2_with (first | (at_builtin; refine wpList_append_own _ rfl _ _ 47 rfl w.heap.size 3 i0 (.int .i64 0) 1 8 Tryd.underlying47 hi hz0 hz1 hz2 rfl (by decide) _ _ _ rfl (HO.out.alloc _) ⟨_, 0, none⟩ 1 1 [.int .i64 (k : Int)] rfl rfl (one_at _ _ _) ?c2 ?c3 ?c4 ?c5 ?_))
        case c2 => first | rfl | (intro u hu; simp at hu; subst hu; rfl)
        case c3 => unfold maxLen; omega
        case c4 => omega
        case c5 => have := HF.out.size; simp; omega
        intro v' w3 hown3 hgr3 _
        have HO4 : Hid (w3.ownsRow w.heap.size 3 1 v' (belowS (rS L) (k + 1)).length (nums (belowS (rS L) (k + 1)))) := by
          have e := HS.out
          simp only [if_true] at e
          rw [e, nums_app, List.length_append]; exact hown3
        have HF3 : Hid (Fr [] w w3) := own_grown (HF.out.alloc _) HO.out hgr3
        clear hown3 hgr3
        go_wp2
        go_roundw
        case rel => exact ⟨k + 1, by go_num, by omega, HO4.out, HF3.out⟩
        case measure => simp [intOf]; omega
    · have hke : k = L.length := by omega
      subst hke
      go_wp2
      go_ret
      exact ⟨_, rfl, HO.out, HF.out⟩
end Go.Proofs.YtbgemiapnnncaaaDoor
