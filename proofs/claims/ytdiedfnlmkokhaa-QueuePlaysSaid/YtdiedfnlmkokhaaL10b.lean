/- The statements of layer 10: a queue's calls, whatever is asked. -/
import Derived.Test.YtdiedfnlmkokhaaL10
import Derived.Test.YtdiedfnlmkokhaaRp
import Derived.Test.YtdiedfnlmkokhaaRc
namespace Go.Proofs.Ytdiedfnlmkokhaa
set_option linter.unusedVariables false
open Go.RowKit Go.Gl Go.Deep

def popC : List Int → List Int
  | [] => []
  | _ :: l => l
def popX : List Int → Int
  | [] => 0
  | x :: _ => x
def popE : List Int → Int
  | [] => 5
  | _ :: _ => 0
theorem QOk.popC {n B : Nat} {C : List Int} {O : Nat → List Int} (h : QOk n B C O) : QOk n B (popC C) O := by
  cases C with
  | nil => exact h
  | cons x l => exact h.pop
theorem qpop_any {w : World} {q : Nat} {F : List Nat} {n B : Nat} {C : List Int} {O : Nat → List Int} (h : Qq w q F n B C O) (hk : QOk n B C O) : Calls Try.prog 9 #[.pointer (some ⟨q, 0, none⟩)] w (QPop w F (fun w' F' => Qq w' q F' n B (popC C) O) (popX C) (popE C)) := by
  cases C with
  | nil => exact qpop_none h
  | cons x l => exact qpop_some h hk
def inR (n : Nat) (T X : Int) : Prop := 0 ≤ T ∧ T < (n : Int) ∧ 0 ≤ X
instance {n : Nat} {T X : Int} : Decidable (inR n T X) := by unfold inR; infer_instance
def pC (n B : Nat) (C : List Int) (O : Nat → List Int) (T X : Int) : List Int := if inR n T X then pushC B C O T.toNat X else C
def pO (n : Nat) (O : Nat → List Int) (T X : Int) : Nat → List Int := if inR n T X then pushO O T.toNat X else O
def pV (n B : Nat) (C : List Int) (O : Nat → List Int) (T X : Int) : List Int := if inR n T X then pushV B C O T.toNat X else []
def pE (n : Nat) (T X : Int) : Int := if inR n T X then 0 else 2
theorem pV_le {n B : Nat} {C : List Int} {O : Nat → List Int} (h : QOk n B C O) (T X : Int) : (pV n B C O T X).length ≤ 4 := by
  unfold pV
  by_cases hi : inR n T X
  · rw [if_pos hi]
    unfold pushV
    by_cases h3 : (O T.toNat).length < 3
    · rw [if_pos h3]; simp
    · rw [if_neg h3, List.length_drop, List.length_append]
      have := h.o T.toNat (by unfold inR at hi; omega)
      simp; omega
  · rw [if_neg hi]; simp
theorem QOk.p {n B : Nat} {C : List Int} {O : Nat → List Int} (h : QOk n B C O) (T X : Int) : QOk n B (pC n B C O T X) (pO n O T X) := by
  unfold pC pO
  by_cases hi : inR n T X
  · rw [if_pos hi, if_pos hi]
    exact h.push (by unfold inR at hi; omega) X
  · rw [if_neg hi, if_neg hi]; exact h
theorem qpush_any {w : World} {q : Nat} {F : List Nat} {n B : Nat} {C : List Int} {O : Nat → List Int} (h : Qq w q F n B C O) (hk : QOk n B C O) (T X : Int) :
    Calls Try.prog 14 #[.pointer (some ⟨q, 0, none⟩), .int .i64 T, .int .i64 X] w (QRes w F (fun w' F' => Qq w' q F' n B (pC n B C O T X) (pO n O T X)) (pV n B C O T X) (pE n T X)) := by
  unfold pC pO pV pE
  by_cases hi : inR n T X
  · rw [if_pos hi, if_pos hi, if_pos hi, if_pos hi]
    have h2 := hi
    unfold inR at h2
    obtain ⟨t, rfl⟩ := Int.eq_ofNat_of_zero_le h2.1
    exact qpush_in h hk t (by omega) X h2.2.2
  · rw [if_neg hi, if_neg hi, if_neg hi, if_neg hi]
    exact qpush_out h hk T X (by unfold inR at hi; exact hi)
theorem r10pop_any {w : World} {q : Nat} {F : List Nat} {n B : Nat} {C : List Int} {O : Nat → List Int} (h : Mq w q F n B C O) (hk : QOk n B C O) : Calls Try.prog 10 #[.pointer (some ⟨q, 0, none⟩)] w (QPop w F (fun w' F' => Mq w' q F' n B (popC C) O) (popX C) (popE C)) := by
  cases C with
  | nil => exact r10pop_none h
  | cons x l => exact r10pop_some h hk
theorem r10push_any {w : World} {q : Nat} {F : List Nat} {n B : Nat} {C : List Int} {O : Nat → List Int} (h : Mq w q F n B C O) (hk : QOk n B C O) (T X : Int) :
    Calls Try.prog 15 #[.pointer (some ⟨q, 0, none⟩), .int .i64 T, .int .i64 X] w (QRes w F (fun w' F' => Mq w' q F' n B (pC n B C O T X) (pO n O T X)) (pV n B C O T X) (pE n T X)) := by
  unfold pC pO pV pE
  by_cases hi : inR n T X
  · rw [if_pos hi, if_pos hi, if_pos hi, if_pos hi]
    have h2 := hi
    unfold inR at h2
    obtain ⟨t, rfl⟩ := Int.eq_ofNat_of_zero_le h2.1
    exact r10push_in h hk t (by omega) X h2.2.2
  · rw [if_neg hi, if_neg hi, if_neg hi, if_neg hi]
    exact r10push_out h hk T X (by unfold inR at hi; exact hi)
theorem act10_fields : ∃ fs : Array Field, Try.prog.underlying 32 = some (.struct fs) ∧ oneCellFields Try.prog fs = true ∧ Try.prog.cellsOf 32 = fs.size ∧ fs.size = 3 ∧ ∀ (j : Nat) f, fs[j]? = some f → Try.prog.underlying f.type = some (.int .i64) :=
  ⟨_, Try.underlying32, by kernel_rfl, by kernel_rfl, by kernel_rfl, by
    intro j f hf
    match j, hf with
    | 0, hf => simp at hf; subst hf; exact Try.underlying3
    | 1, hf => simp at hf; subst hf; exact Try.underlying3
    | 2, hf => simp at hf; subst hf; exact Try.underlying3
    | j + 3, hf => simp at hf⟩
theorem open_acts10 {H : Type} {enc : TypeId × Value → H} {W : World} {r : Reach} {b : Nat} {v : Value} {d : DataW H} {p : List MemPlace}
    (hv : Value.okWide Try.prog W r b 22 v) (h : DataW.Trod enc Try.prog W 0 (fun _ => true) true 22 v d p) :
    ∃ A n c f, v = .slice A n c ∧ n ≤ maxLen ∧ Recs W A n 3 (fun _ => .i64) f := by
  obtain ⟨fs, e1, e2, e3, e4, e5⟩ := act10_fields
  obtain ⟨A, n, c, f, h1, h2, h3, _⟩ := open_recs (ks := fun _ => .i64) Try.underlying22 e1 e2 e3 (by omega) e5 hv h
  rw [e4] at h3
  exact ⟨A, n, c, f, h1, h2, h3⟩
end Go.Proofs.Ytdiedfnlmkokhaa
