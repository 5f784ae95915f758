/- Package remset: index.put. -/
import Derived.Test.YtkbffmmomoeaiaaDoorSa
import Derived.WalkSpells
namespace Go.Proofs.YtkbffmmomoeaiaaDoor
set_option linter.unusedVariables false
open Go.RowKit Go.Gl

def setTg (tg : Tg) (b : Nat) (t : Nat × Nat × Nat) : Tg := fun x => if x = b then t else tg x
theorem setTg_at (tg : Tg) (b : Nat) (t) : setTg tg b t b = t := by simp [setTg]
theorem setTg_ne (tg : Tg) {b x : Nat} (t) (h : x ≠ b) : setTg tg b t x = tg x := by simp [setTg, h]
theorem TgUp.set {w : World} {tg : Tg} {b : Nat} (t) (h : w.heap.size ≤ b) : TgUp w tg (setTg tg b t) := fun x hx => setTg_ne _ _ (by omega)
def PutPost (w : World) (tg : Tg) (kd rB n : Nat) (p : Nat → Nat → Prop) (e : Ending) (w' : World) : Prop :=
  ∃ V' tg' F, e = .returned (.tuple #[]) ∧ Ix w' tg' kd rB n p V' ∧ Fr F w w' ∧ (∀ b, b ∈ F → (tg b).1 = kd - 3 ∨ (tg b).1 = kd) ∧ TgUp w tg tg' ∧ (TgOk w tg → TgOk w' tg')
set_option maxRecDepth 100000 in
set_option maxHeartbeats 1600000 in
theorem rput_any {w : World} {tg : Tg} {kd rB n r x : Nat} {p : Nat → Nat → Prop} {V : Nat → Value} (h : Ix w tg kd rB n p V) (hkd : 4 ≤ kd) (hr : r < n) (hx : x < n) (hn : n ≤ 65536) :
    Calls Tryd.prog 50 #[.slice (some ⟨rB, 0, none⟩) n n, .int .i64 (r : Int), .int .i64 (x : Int)] w (PutPost w tg kd rB n (fun a b => p a b ∨ (a = r ∧ b = x))) := by
  have hr1 : (r : Int) < (n : Int) := by omega
  have hkey := intKey (x : Int) (wf_nat (by omega))
  have cr : w.cell? ⟨rB, r, none⟩ = some (V r) := by rw [h.row.cell, rowF_at hr]
  have fr : w.frozen? ⟨rB, r, none⟩ = false := h.row.frozen r
  have N0 : rB < w.heap.size := h.row.lt
  have HX := hide hx
  have HK := hide hkey
  rcases h.own r hr with ⟨hv, hno⟩ | ⟨b, f, hv, hm, ht, hf, hfp⟩
  · rw [hv] at cr
    have H := hide h
    have HV := hide hv
    have HNo := hide hno
    have HM0 : Hid (Mp Tryd.prog 3 ((w.setCell ⟨rB, r, none⟩ (.map (some w.heap.size))).alloc (.map #[] 0)) w.heap.size (fun _ => none)) := by
      have := Mp.made (P := Tryd.prog) (k := 3) (w.setCell ⟨rB, r, none⟩ (.map (some w.heap.size)))
      have e : (w.setCell ⟨rB, r, none⟩ (.map (some w.heap.size))).heap.size = w.heap.size := by simp
      rw [e] at this; exact this
    have hmm := @run_makeMap Tryd.prog
    have he : (binOp .eql 72 (.map none) (.map none)).run Tryd.prog w = .ok (.bool true) w := run_eql_map_nil w _ _ _ none Tryd.underlying72
    clear h hv hno hx hkey
    go_enter Tryd.func50, Tryd.ntmps50
    go_wp2_with (at_mapUpdate; refine list_of rfl fun K hK => wp_update (key := .int .i64 (x : Int)) (v := .agg #[]) _ _ _ 72 rfl Tryd.intLaw Tryd.underlying72 HM0.out (Fr.refl _ _) rfl rfl HK.out rfl ?_; intro w1 hM hF; refine hK _ _ ?_)
    go_end0
    have hs0 : Fr [rB] w ((w.setCell ⟨rB, r, none⟩ (.map (some w.heap.size))).alloc (.map #[] 0)) := ((Fr.refl _ _).setCell (p := ⟨rB, r, none⟩) (.inl (by simp)) _).alloc _
    have hF1 : Fr [rB] w w1 := hs0.trans hF.out (fun y hy => .inr (by simp at hy; omega))
    have hrow : Blk ((w.setCell ⟨rB, r, none⟩ (.map (some w.heap.size))).alloc (.map #[] 0)) rB 72 (rowF n (putF V r (.map (some w.heap.size)))) := by
      have := H.out.row.put r (.map (some w.heap.size))
      rw [rowF_set] at this; exact this.alloc _
    have hu := TgUp.set (w := w) (tg := tg) (b := w.heap.size) (kd, r, 0) (Nat.le_refl _)
    refine ⟨putF V r (.map (some w.heap.size)), setTg tg w.heap.size (kd, r, 0), [rB], rfl, ⟨hrow.fr hF.out (by simp; omega), (hu rB N0).trans H.out.tag, fun r' hr' => ?_⟩, hF1, fun b hb => .inl (by simp at hb; subst hb; rw [H.out.tag]), hu, fun hk b hb => ?_⟩
    · by_cases e : r' = r
      · subst e
        rw [putF_at]
        refine .inr ⟨_, _, rfl, hM.out, setTg_at _ _ _, fun y v hy => ?_, fun s hs => ?_⟩
        · by_cases e2 : y = .int .i64 (x : Int)
          · exact ⟨x, HX.out, e2⟩
          · rw [upF_ne _ _ e2] at hy; cases hy
        · by_cases e2 : s = x
          · subst e2; rw [upF_at]; simp
          · rw [upF_ne _ _ (by simp; omega)]
            have := HNo.out s hs
            simp [this, e2]
      · rw [putF_ne _ _ e]
        exact ((H.out.own r' hr').fr hF1 (fun b hb hq => by simp at hb; subst hb; rw [H.out.tag] at hq; injection hq with h1; omega) hu).congr fun y hy => by simp [e]
    · by_cases e : b = w.heap.size
      · have := hF1.size
        have h3 := hM.out.lt
        omega
      · rw [setTg_ne _ _ e] at hb
        exact Nat.lt_of_lt_of_le (hk b hb) hF1.size
  · rw [hv] at cr
    have H := hide h
    have HV := hide hv
    have HM0 := hide hm
    have HT := hide ht
    have HFs := hide hf
    have HFp := hide hfp
    have he : (binOp .eql 72 (.map (some b)) (.map none)).run Tryd.prog w = .ok (.bool false) w := run_eql_map_nil w _ _ _ (some b) Tryd.underlying72
    clear h hv hm ht hf hfp hx hkey
    go_enter Tryd.func50, Tryd.ntmps50
    go_wp2_with (at_mapUpdate; refine list_of rfl fun K hK => wp_update (key := .int .i64 (x : Int)) (v := .agg #[]) _ _ _ 72 rfl Tryd.intLaw Tryd.underlying72 HM0.out (Fr.refl _ _) rfl rfl HK.out rfl ?_; intro w1 hM hF; refine hK _ _ ?_)
    go_end0
    have hbB : b ≠ rB := HM0.out.blk_ne H.out.row
    refine ⟨V, tg, [b], rfl, ⟨H.out.row.fr hF.out (by simpa using Ne.symm hbB), H.out.tag, fun r' hr' => ?_⟩, hF.out, fun y hy => .inr (by simp at hy; subst hy; rw [HT.out]), TgUp.refl _ _, fun hk b hb => Nat.lt_of_lt_of_le (hk b hb) hF.out.size⟩
    by_cases e : r' = r
    · subst e
      rw [HV.out]
      refine .inr ⟨b, _, rfl, hM.out, HT.out, fun y v hy => ?_, fun s hs => ?_⟩
      · by_cases e2 : y = .int .i64 (x : Int)
        · exact ⟨x, HX.out, e2⟩
        · rw [upF_ne _ _ e2] at hy; exact HFs.out y v hy
      · by_cases e2 : s = x
        · subst e2; rw [upF_at]; simp
        · rw [upF_ne _ _ (by simp; omega), HFp.out s hs]
          simp [e2]
    · exact ((H.out.own r' hr').fr hF.out (fun y hy hq => by simp at hy; subst hy; rw [HT.out] at hq; injection hq with _ h2; injection h2 with h2; exact e h2.symm) (TgUp.refl _ _)).congr fun y hy => by simp [e]
end Go.Proofs.YtkbffmmomoeaiaaDoor
