/- Package remset: Add. -/
import Derived.Test.YtkbffmmomoeaiaaDoorSp
namespace Go.Proofs.YtkbffmmomoeaiaaDoor
set_option linter.unusedVariables false
set_option linter.unusedSimpArgs false
open Go.RowKit Go.Gl

open Classical in
/-- What Add answers, and what it leaves. -/
noncomputable def addR (σ : RS) (per n : Nat) (a c : Int) : Bool × Int × RS :=
  if ¬ (0 ≤ a ∧ a < (n : Int)) ∨ ¬ (0 ≤ c ∧ c < ((n * per : Nat) : Int)) then (false, 2, σ)
  else if c.toNat / per = a.toNat then (false, 3, σ)
  else if hasN σ per a.toNat c.toNat = true then (false, 0, σ)
  else (true, 0, addS σ per n a.toNat c.toNat)
theorem addR_bad {σ : RS} {per n : Nat} {a c : Int} (h : ¬ (0 ≤ a ∧ a < (n : Int)) ∨ ¬ (0 ≤ c ∧ c < ((n * per : Nat) : Int))) : addR σ per n a c = (false, 2, σ) := by unfold addR; rw [if_pos h]
theorem addR_at {σ : RS} {per n a c : Nat} (ha : a < n) (hc : c < n * per) : addR σ per n (a : Int) (c : Int) = if c / per = a then (false, 3, σ) else if hasN σ per a c = true then (false, 0, σ) else (true, 0, addS σ per n a c) := by
  unfold addR
  rw [if_neg (by omega)]
  simp only [Int.toNat_natCast]
def AddPost (w : World) (tg : Tg) (sb kb sB hB fB per n : Nat) (r : Bool × Int × RS) (e : Ending) (w' : World) : Prop :=
  ∃ tg' fk' Vs' Vh' Vf' F, e = .returned (.tuple #[.bool r.1, .int .i64 r.2.1]) ∧ Rs w' tg' sb kb sB hB fB per n r.2.2 fk' Vs' Vh' Vf' ∧ Fr F w w' ∧ (∀ b, b ∈ F → (tg b).1 ≠ 0) ∧ TgUp w tg tg'
theorem radd_nil (a c : Int) (w : World) : Calls Tryd.prog 19 #[.pointer none, .int .i64 a, .int .i64 c] w fun e w' => e = .returned (.tuple #[.bool false, .int .i64 1]) ∧ w = w' := by
  go_enter Tryd.func19, Tryd.ntmps19
  go_wp2
  go_ret2
  exact ⟨rfl, rfl⟩
set_option maxRecDepth 100000 in
set_option maxHeartbeats 1600000 in
theorem radd_any {w : World} {tg : Tg} {sb kb sB hB fB per n : Nat} {σ : RS} {fk : Value → Option Value} {Vs Vh Vf : Nat → Value} (H : Rs w tg sb kb sB hB fB per n σ fk Vs Vh Vf) (a c : Int) :
    Calls Tryd.prog 19 #[.pointer (some ⟨sb, 0, none⟩), .int .i64 a, .int .i64 c] w (AddPost w tg sb kb sB hB fB per n (addR σ per n a c)) := by
  have HRg := hide (isRegion_any H.st H.ok.dim a)
  have HCd := hide (isCard_any H.st H.ok.dim c)
  have hn := H.ok.dim.n2
  by_cases ha : 0 ≤ a ∧ a < (n : Int)
  case neg =>
    have hd : decide (0 ≤ a ∧ a < (n : Int)) = false := decide_eq_false ha
    rw [hd] at HRg
    rw [addR_bad (.inl ha)]
    have HR := hide H
    clear H ha hd HCd
    go_enter Tryd.func19, Tryd.ntmps19
    go_wp2_with (go_at_call 26; refine HRg.out.mono ?_; rintro e w' ⟨rfl, rfl⟩)
    go_ret2
    exact ⟨tg, _, _, _, _, [], rfl, HR.out, Fr.refl _ _, (fun _ hb => by cases hb), TgUp.refl _ _⟩
  case pos =>
  have hd : decide (0 ≤ a ∧ a < (n : Int)) = true := decide_eq_true ha
  rw [hd] at HRg
  clear hd
  by_cases hc : 0 ≤ c ∧ c < ((n * per : Nat) : Int)
  case neg =>
    have hd : decide (0 ≤ c ∧ c < ((n * per : Nat) : Int)) = false := decide_eq_false hc
    rw [hd] at HCd
    rw [addR_bad (.inr hc)]
    have HR := hide H
    clear H ha hc hd
    go_enter Tryd.func19, Tryd.ntmps19
    go_wp2_with (first | (go_at_call 26; refine HRg.out.mono ?_; rintro e w' ⟨rfl, rfl⟩) | (go_at_call 33; refine HCd.out.mono ?_; rintro e w' ⟨rfl, rfl⟩))
    go_ret2
    exact ⟨tg, _, _, _, _, [], rfl, HR.out, Fr.refl _ _, (fun _ hb => by cases hb), TgUp.refl _ _⟩
  case pos =>
  have hd : decide (0 ≤ c ∧ c < ((n * per : Nat) : Int)) = true := decide_eq_true hc
  rw [hd] at HCd
  clear hd
  obtain ⟨h, rfl⟩ := Int.eq_ofNat_of_zero_le ha.1
  obtain ⟨m, rfl⟩ := Int.eq_ofNat_of_zero_le hc.1
  have hh : h < n := by omega
  have hm : m < n * per := by omega
  rw [addR_at hh hm]
  have HSo := hide (sourceOf_any H.st H.ok.dim hm)
  clear ha hc
  by_cases he : m / per = h
  · rw [if_pos he]
    rw [he] at HSo
    have HR := hide H
    clear H he
    go_enter Tryd.func19, Tryd.ntmps19
    go_wp2_with (first | (go_at_call 26; refine HRg.out.mono ?_; rintro e w' ⟨rfl, rfl⟩) | (go_at_call 33; refine HCd.out.mono ?_; rintro e w' ⟨rfl, rfl⟩) | (go_at_call 34; refine HSo.out.mono ?_; rintro e w' ⟨rfl, rfl⟩))
    go_ret2
    exact ⟨tg, _, _, _, _, [], rfl, HR.out.fr0 ((Fr.refl _ _).alloc _), (Fr.refl _ _).alloc _, (fun _ hb => by cases hb), TgUp.refl _ _⟩
  · rw [if_neg he]
    have hq : m / per < n := H.ok.dim.div hm
    obtain ⟨w1, hw1⟩ : ∃ w1, w1 = w.alloc (.cells #[.int .i64 (h : Int), .int .i64 ((m / per : Nat) : Int)] 76) := ⟨_, rfl⟩
    have hF1 : Fr [] w w1 := hw1 ▸ (Fr.refl _ _).alloc _
    have hpb : Blk w1 w.heap.size 76 #[.int .i64 (h : Int), .int .i64 ((m / per : Nat) : Int)] := by rw [hw1]; exact Blk.new w _ _
    have HHas : Hid (Calls Tryd.prog 20 #[.pointer (some ⟨sb, 0, none⟩), .int .i64 (h : Int), .int .i64 (m : Int)] w1 fun e w' => e = .returned (.bool (hasN σ per h m)) ∧ Fr [] w1 w') := by
      have := rhas_any (H.fr0 hF1) (h : Int) (m : Int) (wf_nat (by omega))
      rw [hasI_at σ per n h m hm] at this
      exact this
    have HRem : Hid (∀ w', Fr [] w1 w' → hasN σ per h m = false → Calls Tryd.prog 35 #[.pointer (some ⟨sb, 0, none⟩), .agg #[.int .i64 (h : Int), .int .i64 ((m / per : Nat) : Int)], .int .i64 (m : Int)] w' (RemPost w' tg sb kb sB hB fB per n (addS σ per n h m))) := fun w' hf hno => remember_any (H.fr0 (hF1.trans_nil hf)) hh hm rfl (fun e => he e.symm) hno
    have HPb : Hid (∀ w', Fr [] w1 w' → w'.cell? ⟨w.heap.size, 0, none⟩ = some (.int .i64 (h : Int)) ∧ w'.cell? ⟨w.heap.size, 1, none⟩ = some (.int .i64 ((m / per : Nat) : Int))) := fun w' hf => by
      have := hpb.fr hf (by simp)
      exact ⟨by rw [this.cell]; rfl, by rw [this.cell]; rfl⟩
    have HR := hide H
    have HF1 := hide hF1
    clear H hpb hF1
    subst hw1
    generalize addS σ per n h m = σ' at *
    generalize m / per = q at *
    have hqh : ((q : Int) == (h : Int)) = false := by simp; omega
    cases hno : hasN σ per h m with
    | true =>
      rw [hno] at HHas
      rw [if_pos rfl]
      clear HRem hno
      go_enter Tryd.func19, Tryd.ntmps19
      go_wp2_with (first | (go_at_call 26; refine HRg.out.mono ?_; rintro e w' ⟨rfl, rfl⟩) | (go_at_call 33; refine HCd.out.mono ?_; rintro e w' ⟨rfl, rfl⟩) | (go_at_call 34; refine HSo.out.mono ?_; rintro e w' ⟨rfl, rfl⟩) | (go_at_call 20; refine HHas.out.mono ?_; rintro e w2 ⟨rfl, hf2⟩))
      go_ret2
      have hf := HF1.out.trans_nil hf2
      exact ⟨tg, _, _, _, _, [], rfl, HR.out.fr0 hf, hf, (fun _ hb => by cases hb), TgUp.refl _ _⟩
    | false =>
      rw [hno] at HHas
      rw [if_neg (by decide)]
      have HNo := hide hno
      clear hno
      go_enter Tryd.func19, Tryd.ntmps19
      go_wp2_with (first | (go_at_call 26; refine HRg.out.mono ?_; rintro e w' ⟨rfl, rfl⟩) | (go_at_call 33; refine HCd.out.mono ?_; rintro e w' ⟨rfl, rfl⟩) | (go_at_call 34; refine HSo.out.mono ?_; rintro e w' ⟨rfl, rfl⟩) | (go_at_call 20; refine HHas.out.mono ?_; rintro e w2 ⟨rfl, hf2⟩; have p0 := (HPb.out w2 hf2).1; have p1 := (HPb.out w2 hf2).2; have HRm := hide (HRem.out w2 hf2 HNo.out); have HF2 := hide hf2; clear hf2) | (go_at_call 35; refine HRm.out.mono ?_; rintro e w3 ⟨tg', fk', Vs', Vh', Vf', F, rfl, hr3, hf3, hk3, hu3⟩))
      go_ret2
      have hf := HF1.out.trans_nil HF2.out
      exact ⟨tg', _, _, _, _, F, rfl, hr3, (hf.mono (fun _ hx => by cases hx)).trans_same hf3, hk3, fun b hb => hu3 b (Nat.lt_of_lt_of_le hb hf.size)⟩
end Go.Proofs.YtkbffmmomoeaiaaDoor
