/- Package remset: what is asked. -/
import Derived.Test.YtkbffmmomoeaiaaDoorSs
import Derived.Test.YtkbffmmomoeaiaaDoorSh
import Derived.BigRegion
import Derived.Deep.RegionLaw
import Derived.Deep.RegionWith
import Derived.Deep.CutRange
import Derived.BigQuiet
import Derived.StillTailTactics
namespace Go.Proofs.YtkbffmmomoeaiaaDoor
set_option linter.unusedVariables false
open Go.RowKit Go.Gl

section
variable {w : World} {sb kb sB hB fB per n : Nat}
theorem isRegion_any (h : St w sb kb sB hB fB per n) (hd : Dim per n) (r : Int) : Calls Tryd.prog 26 #[.pointer (some ⟨sb, 0, none⟩), .int .i64 r] w fun e w' => e = .returned (.bool (decide (0 ≤ r ∧ r < (n : Int)))) ∧ w = w' := by
  have c5 := h.c5
  have hn := hd.n2
  clear h hd
  go_enter Tryd.func26, Tryd.ntmps26
  go_wp2
  all_goals go_ret
  all_goals
    rename_i hi
    refine ⟨ret_bool ?_, rfl⟩
    first | (simp [hi]; done) | (simp; omega)
theorem isCard_any (h : St w sb kb sB hB fB per n) (hd : Dim per n) (c : Int) : Calls Tryd.prog 33 #[.pointer (some ⟨sb, 0, none⟩), .int .i64 c] w fun e w' => e = .returned (.bool (decide (0 ≤ c ∧ c < ((n * per : Nat) : Int)))) ∧ w = w' := by
  have c0 := h.c0
  have hn := hd.p2
  generalize n * per = nc at *
  clear h hd
  go_enter Tryd.func33, Tryd.ntmps33
  go_wp2
  all_goals go_ret
  all_goals
    rename_i hi
    refine ⟨ret_bool ?_, rfl⟩
    first | (simp [hi]; done) | (simp; omega)
theorem sourceOf_any (h : St w sb kb sB hB fB per n) (hd : Dim per n) {c : Nat} (hc : c < n * per) : Calls Tryd.prog 34 #[.pointer (some ⟨sb, 0, none⟩), .int .i64 (c : Int)] w fun e w' => e = .returned (.int .i64 ((c / per : Nat) : Int)) ∧ w = w' := by
  have c1 := h.c1
  have hp := hd.p1
  have h3 := hd.p3
  have h2 := hd.p2
  have hp0 : ¬ ((per : Int) = 0) := by omega
  have hq : c / per ≤ c := Nat.div_le_self _ _
  have HQ : (c : Int) / (per : Int) = ((c / per : Nat) : Int) := by simp
  have HQ' : (c : Int).tdiv (per : Int) = ((c / per : Nat) : Int) := by rw [Int.tdiv_eq_ediv_of_nonneg (Int.natCast_nonneg _)]; simp
  generalize c / per = q at *
  have hq2 : q ≤ 4194304 := by omega
  clear h hd
  go_enter Tryd.func34, Tryd.ntmps34
  go_wp2
  all_goals go_ret
  all_goals exact ⟨ret_int (by go_num), rfl⟩
theorem within_any (h : St w sb kb sB hB fB per n) (hd : Dim per n) {c : Nat} (hc : c < n * per) : Calls Tryd.prog 38 #[.pointer (some ⟨sb, 0, none⟩), .int .i64 (c : Int)] w fun e w' => e = .returned (.int .i64 ((c % per : Nat) : Int)) ∧ w = w' := by
  have c1 := h.c1
  have hp := hd.p1
  have h3 := hd.p3
  have hp0 : ¬ ((per : Int) = 0) := by omega
  have hq : c % per < per := Nat.mod_lt _ hp
  have HQ : (c : Int) % (per : Int) = ((c % per : Nat) : Int) := by simp
  have HQ' : (c : Int).tmod (per : Int) = ((c % per : Nat) : Int) := by rw [Int.tmod_eq_emod_of_nonneg (Int.natCast_nonneg _)]; simp
  generalize c % per = q at *
  have hq2 : q ≤ 4194304 := by omega
  clear h hd
  go_enter Tryd.func38, Tryd.ntmps38
  go_wp2
  all_goals go_ret
  all_goals exact ⟨ret_int (by go_num), rfl⟩
end
/-- Way, at any numbers. -/
def wayI (σ : RS) (a b : Int) : Nat := if 0 ≤ a ∧ 0 ≤ b then σ.way a.toNat b.toNat else 0
theorem wayI_at (σ : RS) (h s : Nat) : wayI σ (h : Int) (s : Int) = σ.way h s := by simp [wayI]
theorem wayI_no {σ : RS} {a b : Int} (h : ¬ ∃ x s : Nat, a = x ∧ b = s ∧ σ.way x s ≠ 0) : wayI σ a b = 0 := by
  unfold wayI
  split
  · rename_i h1
    obtain ⟨x, rfl⟩ := Int.eq_ofNat_of_zero_le h1.1
    obtain ⟨s, rfl⟩ := Int.eq_ofNat_of_zero_le h1.2
    rcases Nat.eq_zero_or_pos (σ.way x s) with h2 | h2
    · simpa using h2
    · exact absurd ⟨x, s, rfl, rfl, by omega⟩ h
  · rfl
theorem way_nil (a b : Int) (w : World) : Calls Tryd.prog 14 #[.pointer none, .int .i64 a, .int .i64 b] w fun e w' => e = .returned (.int .i64 0) ∧ w = w' := by
  go_enter Tryd.func14, Tryd.ntmps14
  go_wp2
  go_ret
  exact ⟨rfl, rfl⟩
set_option maxRecDepth 100000 in
theorem way_any {w : World} {tg : Tg} {sb kb sB hB fB per n : Nat} {σ : RS} {fk : Value → Option Value} {Vs Vh Vf : Nat → Value} (h : Rs w tg sb kb sB hB fB per n σ fk Vs Vh Vf) (a b : Int) (wa : (Lit.int .i64 a).wf = true) (wb : (Lit.int .i64 b).wf = true) :
    Calls Tryd.prog 14 #[.pointer (some ⟨sb, 0, none⟩), .int .i64 a, .int .i64 b] w fun e w' => e = .returned (.int .i64 (wayI σ a b : Int)) ∧ w = w' := by
  have c2 := h.st.c2
  obtain ⟨l, hl⟩ := pairKey a b wa wb
  have hlk := h.kn.mp.look Tryd.pairLaw Tryd.underlying55 (zeroMem w) hl
  have hat := h.kn.at h.ok a b
  obtain ⟨f, m, hfm⟩ : ∃ f m, (fk (pairV a b)).getD (memOf 0 (.slice none 0 0) (.pointer none)) = memOf (wayI σ a b : Int) f m := by
    rcases hat with ⟨x, s, rfl, rfl, _, _, hw, v, e1, e2⟩ | ⟨e1, e2⟩
    · rw [e1, wayI_at]
      rcases e2 with ⟨e, A, c, G, l, rfl, _⟩ | ⟨e, bs, bw, ws, rfl, _⟩ | ⟨e, rfl⟩
      · rw [e]; exact ⟨_, _, rfl⟩
      · rw [e]; exact ⟨_, _, rfl⟩
      · rw [e]; exact ⟨_, _, rfl⟩
    · rw [e1, wayI_no e2]; exact ⟨_, _, rfl⟩
  rw [hfm] at hlk
  unfold pairV memOf at hlk
  generalize wayI σ a b = W at *
  have hfd := field_way (.int .i64 (W : Int)) f m w
  clear hat hfm h hl
  go_enter Tryd.func14, Tryd.ntmps14
  go_wp2
  all_goals go_ret
  all_goals exact ⟨rfl, rfl⟩
end Go.Proofs.YtkbffmmomoeaiaaDoor
