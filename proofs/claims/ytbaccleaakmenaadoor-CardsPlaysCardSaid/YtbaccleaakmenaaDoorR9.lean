/- The document's card tables, a bool a card: what each call answers and leaves. -/
import Derived.Test.YtbaccleaakmenaaDoorBb
import Derived.Test.YtbaccleaakmenaaDoorNm
import Derived.Test.YtbaccleaakmenaaDoorGeo
import Derived.WalkKit
import Derived.BigQuiet
namespace Go.Proofs.YtbaccleaakmenaaDoor
set_option linter.unusedVariables false
open Go.RowKit Go.Gl

/-- At rs lies a table of the document's, its bools at rb. -/
structure Dt (w : World) (rs rb : Nat) (L : List Bool) : Prop where
  set : Blk w rs 43 #[.slice (some ⟨rb, 0, none⟩) L.length L.length]
  row : Blk w rb 4 (bv L)
  max : L.length ≤ 4194304
section
variable {w w' : World} {rs rb : Nat} {L : List Bool} {F : List Nat}
theorem Dt.fr (h : Dt w rs rb L) (hf : Fr F w w') (h1 : rs ∉ F) (h2 : rb ∉ F) : Dt w' rs rb L := ⟨h.set.fr hf h1, h.row.fr hf h2, h.max⟩
theorem Dt.fr0 (h : Dt w rs rb L) (hf : Fr [] w w') : Dt w' rs rb L := h.fr hf (by simp) (by simp)
theorem Dt.drewN (h : Dt w rs rb L) (k : Nat) : Dt (w.drewN k) rs rb L := ⟨h.set, h.row, h.max⟩
theorem Dt.c0 (h : Dt w rs rb L) : w.cell? ⟨rs, 0, none⟩ = some (.slice (some ⟨rb, 0, none⟩) L.length L.length) := by rw [h.set.cell]; rfl
theorem Dt.cw (h : Dt w rs rb L) {k : Nat} (hk : k < L.length) : w.cell? ⟨rb, k, none⟩ = some (.bool (rS L k)) := by rw [h.row.cell, bv_at _ _ hk]; rfl
theorem Dt.ne (h : Dt w rs rb L) : rs ≠ rb := h.set.apart h.row (by decide)
theorem Dt.put (h : Dt w rs rb L) (k : Nat) (x : Bool) : Dt (w.setCell ⟨rb, k, none⟩ (.bool x)) rs rb (L.set k x) :=
  ⟨by rw [List.length_set]; exact h.set.far (p := ⟨rb, k, none⟩) h.ne _, by have := h.row.put k (.bool x); rw [bv_set] at this; exact this, by rw [List.length_set]; exact h.max⟩
end
def DtPost (w : World) (rs rb : Nat) (L : List Bool) (i : Int) (on : Bool) (e : Ending) (w' : World) : Prop :=
  ∃ c er L', e = .returned (.tuple #[.bool c, .int .i64 er]) ∧ Dt w' rs rb L' ∧ L'.length = L.length ∧ Fr [rb] w w' ∧ RTurned (rS L) L.length i on c er (rS L')
theorem r9set_any {w : World} {rs rb : Nat} {L : List Bool} (h : Dt w rs rb L) (i : Int) (on : Bool) :
    Calls Tryd.prog 10 #[.pointer (some ⟨rs, 0, none⟩), .int .i64 i, .bool on] w (DtPost w rs rb L i on) := by
  have h0 := h.c0
  have H := hide h
  have HN : ¬ (0 ≤ i ∧ i < (L.length : Int)) → Hid (RTurned (rS L) L.length i on false 2 (rS L)) := fun hn => .inr ⟨hn, rfl, rfl, rfl⟩
  by_cases h1 : 0 ≤ i
  · obtain ⟨I, rfl⟩ := Int.eq_ofNat_of_zero_le h1
    by_cases h2 : I < L.length
    · have h3 : (I : Int) < (L.length : Int) := by omega
      have hc := h.cw h2
      have hfz := h.row.frozen I
      have HB := hide (h.put I on)
      have HT : Hid (RTurned (rS L) L.length (I : Int) on (rS L I != on) 0 (rS (L.set I on))) := .inl ⟨h1, h3, rfl, rfl, fun j => by rw [rS_set h2]; rfl⟩
      generalize hX : rS L I = x at *
      clear h HN hX
      go_enter Tryd.func10, Tryd.ntmps10
      go_wp2
      go_ret2
      exact ⟨_, 0, _, rfl, HB.out, by simp, (Fr.refl _ _).setCell (p := ⟨rb, I, none⟩) (.inl (by simp)) _, HT.out⟩
    · have h3 : ¬ ((I : Int) < (L.length : Int)) := by omega
      have HN' := HN (by omega)
      clear h HN
      go_enter Tryd.func10, Tryd.ntmps10
      go_wp2
      go_ret2
      exact ⟨false, 2, L, rfl, H.out, rfl, Fr.refl _ _, HN'.out⟩
  · have HN' := HN (by omega)
    clear h HN
    go_enter Tryd.func10, Tryd.ntmps10
    go_wp2
    go_ret2
    exact ⟨false, 2, L, rfl, H.out, rfl, Fr.refl _ _, HN'.out⟩
def DtNew (w : World) (n : Nat) (e : Ending) (w' : World) : Prop :=
  ∃ rs rb, e = .returned (.tuple #[.pointer (some ⟨rs, 0, none⟩), .int .i64 0]) ∧ Dt w' rs rb (List.replicate n false) ∧ Fr [] w w' ∧ w.heap.size ≤ rs ∧ w.heap.size ≤ rb
theorem r9new_bad (g : Geo) (hg : g.cards < 0 ∨ 4194304 < g.cards) (w : World) : Calls Tryd.prog 8 #[g.val] w fun e w' => e = .returned (.tuple #[.pointer none, .int .i64 20]) ∧ Fr [] w w' := by
  unfold Geo.val
  rcases hg with h | h
  all_goals
    go_enter Tryd.func8, Tryd.ntmps8
    go_wp2
    go_ret2
    exact ⟨rfl, (Fr.refl _ _).alloc _⟩
theorem r9new_any (g : Geo) (n : Nat) (h : n ≤ 4194304) (hg : g.cards = (n : Int)) (w : World) : Calls Tryd.prog 8 #[g.val] w (DtNew w n) := by
  obtain ⟨i0, hi, hz0, hz1, hz2⟩ := info_parts Tryd.info_bool
  obtain ⟨a, b, c, d, m, f⟩ := g
  obtain rfl : m = (n : Int) := hg
  unfold Geo.val
  go_enter Tryd.func8, Tryd.ntmps8
  go_wp2_with (first | (at_make; refine wpList_make_full _ rfl _ _ 41 rfl (w.heap.size + 1) 4 i0 (.bool false) 1 Tryd.underlying41 hi hz0 hz1 _ _ _ _ n rfl rfl rfl rfl (by rw [hz2]; omega) (by unfold maxLen; omega) (by simp) ?_; intro w1 hown hgr; have HO := hide hown; have HG := hide hgr; clear hown hgr))
  go_ret2
  have hown := HO.out
  rw [Nat.mul_one, made_one _ rfl] at hown
  have hb := own_full hown
  rw [show ∀ o, (w.alloc o).heap.size = w.heap.size + 1 from fun o => by simp] at hb
  have HF : Fr [] w w1 := ((Fr.refl [] w).alloc _).grown HG.out (fun _ hk => by cases hk)
  refine ⟨w1.heap.size, w.heap.size + 1, rfl, ⟨?_, ?_, by simpa using h⟩, HF.alloc _, HF.size, by omega⟩
  · rw [List.length_replicate]; exact Blk.new _ _ _
  · have : bv (List.replicate n false) = (List.replicate n (Value.bool false)).toArray := by simp [bv]
    rw [this]; exact hb.alloc _
def RListPost (w : World) (l : List Nat) (e : Ending) (w' : World) : Prop := ∃ v, e = .returned v ∧ w'.ownsRow w.heap.size 3 1 v l.length (nums l) ∧ Fr [] w w'
theorem r9list_any {w : World} {rs rb : Nat} {L : List Bool} (h : Dt w rs rb L) :
    Calls Tryd.prog 15 #[.pointer (some ⟨rs, 0, none⟩)] w (RListPost w (belowS (rS L) L.length)) := by
  have hmax := h.max
  have H := hide h
  obtain ⟨i0, hi, hz0, hz1, hz2⟩ := info_parts Tryd.info_int
  clear h
  go_enter Tryd.func15, Tryd.ntmps15
  go_wp2
  go_loopw [3, 4] (fun v i wr => ∃ k : Nat, i = .int .i64 k ∧ k ≤ L.length ∧ wr.ownsRow w.heap.size 3 1 v (belowS (rS L) k).length (nums (belowS (rS L) k)) ∧ Fr [] w wr) (fun _ i _ => L.length - (intOf i).toNat)
  case atStart => exact ⟨0, rfl, Nat.zero_le _, World.ownsRow_nil _ _ _ _, Fr.refl _ _⟩
  case round =>
    obtain ⟨k, rfl, hk, hown, hfr⟩ := hrel
    have HO := hide hown
    have HF := hide hfr
    have hc0 := (hfr.cell (p := ⟨rs, 0, none⟩) H.out.set.lt (by simp)).trans H.out.c0
    have hbl := belowS_le (rS L) k
    clear hown hfr
    by_cases hlt : k < L.length
    · have hlt1 : (k : Int) < (L.length : Int) := by omega
      have hc := (HF.out.cell (p := ⟨rb, k, none⟩) H.out.row.lt (by simp)).trans (H.out.cw hlt)
      have HS := hide (belowS_succ (rS L) k)
      generalize rS L k = x at *
      cases x
      · go_wp2
        go_roundw
        case rel => exact ⟨k + 1, by go_num, by omega, by rw [HS.out]; simpa using HO.out, HF.out⟩
        case measure => simp [intOf]; omega
      · go_wp2_with (first | (at_builtin; refine wpList_append_own _ rfl _ _ 45 rfl w.heap.size 3 i0 (.int .i64 0) 1 8 Tryd.underlying45 hi hz0 hz1 hz2 rfl (by decide) _ _ _ rfl (HO.out.alloc _) ⟨_, 0, none⟩ 1 1 [.int .i64 (k : Int)] rfl rfl (one_at _ _ _) ?c2 ?c3 ?c4 ?c5 ?_))
        case c2 => first | rfl | (intro u hu; simp at hu; subst hu; rfl)
        case c3 => unfold maxLen; omega
        case c4 => omega
        case c5 => have := HF.out.size; simp; omega
        intro v' w3 hown3 hgr3 _
        have HO4 : Hid (w3.ownsRow w.heap.size 3 1 v' (belowS (rS L) (k + 1)).length (nums (belowS (rS L) (k + 1)))) := by
          have e := HS.out
          simp only [if_true] at e
          rw [e, nums_app, List.length_append]; exact hown3
        have HF3 : Hid (Fr [] w w3) := own_grown (HF.out.alloc _) HO.out hgr3
        clear hown3 hgr3
        go_wp2
        go_roundw
        case rel => exact ⟨k + 1, by go_num, by omega, HO4.out, HF3.out⟩
        case measure => simp [intOf]; omega
    · have hke : k = L.length := by omega
      subst hke
      go_wp2
      go_ret
      exact ⟨_, rfl, HO.out, HF.out⟩
end Go.Proofs.YtbaccleaakmenaaDoor
