/- slices.DeleteFunc by leaveFine's closure, over lists. -/
import Derived.Test.YtkbffmmomoeaiaaDoorSa
namespace Go.Proofs.YtkbffmmomoeaiaaDoor
set_option linter.unusedVariables false
open Go.RowKit Go.Gl Go.Shelf Go.Sort

theorem leaveEq_any {w : World} {pb : Nat} {s : Int} (h : w.cell? ⟨pb, 1, none⟩ = some (.int .i64 s)) (x : Int) :
    Calls Tryd.prog 59 #[.int .i64 x, .pointer (some ⟨pb, 0, none⟩)] w fun e w' => e = .returned (.bool (decide (x = s))) ∧ w = w' := by
  go_enter Tryd.func59, Tryd.ntmps59
  go_wp2
  all_goals go_ret
  all_goals exact ⟨ret_bool (by first | rfl | (simp; done) | simp_all), rfl⟩
theorem Blk_putRow {w : World} {g : Nat} {t : TypeId} {cur : Array Value} (h : Blk w g t cur) (enc : Int → Value) (off : Nat) (d : Array Int) : Blk (putRow enc w g off d) g t (putCells enc off d cur) := by
  unfold Blk at h ⊢
  simp [putRow, mapBlock, Array.getElem?_modify, h, onCells]
theorem Fr_putRow (w : World) (g : Nat) (enc : Int → Value) (off : Nat) (d : Array Int) : Fr [g] w (putRow enc w g off d) :=
  ⟨rfl, rfl, rfl, by simp [putRow, mapBlock], fun i _ hi => by
    have : g ≠ i := fun e => hi (by simp [e])
    simp [putRow, mapBlock, Array.getElem?_modify, this]⟩
theorem delete_lr {w : World} {A : Option Addr} {c : Nat} {G : List Nat} {l : List Int} (h : Lr w 3 A l.length c G (zv l)) {pb : Nat} {s : Int} (hc : w.cell? ⟨pb, 1, none⟩ = some (.int .i64 s)) (hpG : pb ∉ G) (hl : l.length ≤ 1099511627776) :
    Calls Tryd.prog 58 #[.slice A l.length c, .func (.func 59) #[] #[.pointer (some ⟨pb, 0, none⟩)]] w fun e w' => ∃ k, k = (l.filter fun x => !decide (x = s)).length ∧ e = .returned (.slice A k c) ∧ Lr w' 3 A k c G (zv (l.filter fun x => !decide (x = s))) ∧ Fr G w w' := by
  have hpb : pb < w.heap.size := lt_of_cell hc
  rcases Nat.eq_zero_or_pos l.length with h0 | h0
  · obtain rfl : l = [] := List.eq_nil_of_length_eq_zero h0
    have HL := hide h
    have HI : ∀ fv, Calls Tryd.prog 78 #[.slice A 0 c, fv] w fun e w' => e = .returned (.int .i64 (-1)) ∧ w' = w := fun fv => AnyE.slices_IndexFunc_empty { Tryd.shDelete with } A c fv w
    have HI1 := hide HI
    clear h hc HI
    go_enter Tryd.func58, Tryd.ntmps58
    go_wp2_with (go_at_call 78; refine (HI1.out _).mono ?_; rintro e w' ⟨rfl, rfl⟩)
    go_ret
    exact ⟨0, rfl, rfl, HL.out, Fr.refl _ _⟩
  · obtain ⟨g, off, rfl, rfl, hgl, hcell, hfz, cur, hb, hsz⟩ := h.pos h0
    have hpg : pb ≠ g := by simpa using hpG
    have hH : Holds encZ w g off l.toArray := fun j hj => by
      have hj' : j < l.length := by simpa using hj
      refine ⟨?_, hfz _⟩
      rw [hcell j hj', zv_get _ hj', getElem!_pos l.toArray j (by simpa using hj')]
      simp [hj']
    have eg : ∀ args w, (callFunc 59 args).run Tryd.prog w = .ok (.enter 59 args) w := enters_of Tryd.func59 (by kernel_rfl) rfl
    have gives : ∀ W x, W.cell? ⟨pb, 1, none⟩ = some (.int .i64 s) → FnGives Tryd.prog 59 #[.pointer (some ⟨pb, 0, none⟩)] #[encZ x] (.bool (decide (x = s))) W := fun W x hW => by
      show Calls Tryd.prog 59 #[.int .i64 x, .pointer (some ⟨pb, 0, none⟩)] W _
      exact (leaveEq_any hW x).mono fun e w' h => ⟨h.1, 0, h.2.symm⟩
    have hp : PredAt Tryd.prog 59 #[.pointer (some ⟨pb, 0, none⟩)] encZ (fun x => decide (x = s)) w := fun W x hbl => gives W x ((hbl.cell (p := ⟨pb, 1, none⟩) hpb).trans hc)
    have hpo : PredOver Tryd.prog 59 #[.pointer (some ⟨pb, 0, none⟩)] encZ (fun x => decide (x = s)) g off l.toArray.size w := fun n os dk x _ => gives _ x (by
      unfold sortWorld
      rw [cell?_grow _ _ _ (by show pb < (putRow _ _ _ _ _).heap.size; rw [size_putRow]; exact hpb), cell?_putRow_other _ _ g off _ _ (Or.inl hpg)]
      exact hc)
    refine (AnyE.slices_DeleteFunc Tryd.shDelete encZ (fun _ => rfl) (fun x => decide (x = s)) 59 #[.pointer (some ⟨pb, 0, none⟩)] eg 0 Tryd.zeroValue3 g off c l.toArray w hp hpo hH (by simp; omega) (by simpa using h.le)).mono ?_
    rintro e w' ⟨rfl, q, rfl⟩
    simp only [show Sort.ahead w q = w.drewN q from rfl, List.size_toArray]
    have hfl : (l.filter fun x => !decide (x = s)).length ≤ l.length := List.length_filter_le _ _
    have hb' := Blk_putRow (hb.drewN q) encZ off ((l.filter fun x => !decide (x = s)) ++ List.replicate (l.length - (l.filter fun x => !decide (x = s)).length) 0).toArray
    have hle := h.le
    refine ⟨_, rfl, rfl, Lr_of_cells hb' (by omega) h.max (by omega) (by simp [putCells]; exact hsz) (zv_len _) (fun j hj => ?_), ((Fr.refl [g] w).drewN q).trans_same (Fr_putRow _ _ _ _ _)⟩
    rw [hb'.cell]
    have hr : (cur[off + j]?).isSome = true := by simp; omega
    obtain ⟨y, hy⟩ := Option.isSome_iff_exists.1 hr
    simp only [putCells, Array.getElem?_mapIdx, hy, Option.map_some]
    rw [if_pos ⟨by omega, by simp; omega⟩, zv_get _ hj, show off + j - off = j by omega, getElem!_pos _ j (by simp; omega)]
    simp only [List.getElem_toArray]
    rw [List.getElem_append_left hj]
    simp [hj]
end Go.Proofs.YtkbffmmomoeaiaaDoor
