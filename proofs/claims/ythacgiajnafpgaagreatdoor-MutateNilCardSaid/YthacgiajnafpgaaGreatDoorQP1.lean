/- The package parse: bounds, inRow, At. -/
import Derived.Test.YthacgiajnafpgaaGreatDoorQA1
import Derived.Test.YthacgiajnafpgaaGreatDoorQH1
import Derived.Test.YthacgiajnafpgaaGreatDoorQHd
import Derived.Test.YthacgiajnafpgaaGreatDoorQNm
namespace Go.Proofs.YthacgiajnafpgaaGreatDoor
set_option linter.unusedVariables false
set_option maxRecDepth 100000
open Go.RowKit Go.Gl

def inRowB (k : Int) : Bool := decide (k = 1) || decide (k = 2)
end Go.Proofs.YthacgiajnafpgaaGreatDoor
/- The package parse: At. -/
namespace Go.Proofs.YthacgiajnafpgaaGreatDoor
set_option linter.unusedVariables false
set_option maxRecDepth 100000
open Go.RowKit Go.Gl

def AtPost (w : World) (ab aw n : Nat) (f : Nat → Nat) (i : Int) (e : Ending) (w' : World) : Prop :=
  ∃ c', e = .returned (.tuple #[(atH n f i).val, .int .i64 (atE n f i)]) ∧ Ar w' ab aw n f c' ∧ Fr [ab] w w'
end Go.Proofs.YthacgiajnafpgaaGreatDoor
/- The package parse: Make, Fill. -/
namespace Go.Proofs.YthacgiajnafpgaaGreatDoor
set_option linter.unusedVariables false
set_option maxRecDepth 100000
open Go.RowKit Go.Gl

/-- What a call that writes comes to. -/
def WritePost (w : World) (ab aw n : Nat) (er : Int) (f' : Nat → Nat) (e : Ending) (w' : World) : Prop :=
  ∃ c', e = .returned (.int .i64 er) ∧ Ar w' ab aw n f' c' ∧ Fr [ab, aw] w w'
theorem pack_right {h : Hd} (r : h.Right) (w : World) : Calls Tryz.prog 158 #[h.val] w fun e w' => e = .returned (.tuple #[.int .u64 h.word, .int .i64 0]) ∧ Fr [] w w' := by
  have := hpack_any h w
  unfold Hd.ans Hd.err at this
  rw [if_pos (Hd.rightB_iff.2 r), if_pos (Hd.rightB_iff.2 r)] at this
  exact this
theorem pack_wrong {h : Hd} (r : ¬ h.Right) (w : World) : Calls Tryz.prog 158 #[h.val] w fun e w' => e = .returned (.tuple #[.int .u64 0, .int .i64 3]) ∧ Fr [] w w' := by
  have := hpack_any h w
  unfold Hd.ans Hd.err at this
  rw [if_neg (fun x => r (Hd.rightB_iff.1 x)), if_neg (fun x => r (Hd.rightB_iff.1 x))] at this
  exact this
theorem pmake_any {w : World} {ab aw n : Nat} {f : Nat → Nat} {c : Int} (h : Ar w ab aw n f c) (i s p : Int) (hi : i ≤ 9223372036854775807) :
    Calls Tryz.prog 84 #[.pointer (some ⟨ab, 0, none⟩), .int .i64 i, .int .i64 s, .int .i64 p] w (WritePost w ab aw n (makeE n i s p) (makeF n f i s p)) := by
  have H := hide h
  have HI := hide hi
  have hw := make_ways n f i s p
  clear h
  unfold WritePost
  rcases hw with ⟨r, h1, h2⟩ | ⟨r, hr, h1, h2⟩ | ⟨I, S, P, rfl, rfl, rfl, hS, hP, hIS, r, hword, h1, h2⟩
  · rw [h1, h2]
    have HP := hide (pack_wrong r)
    unfold objH Hd.val at HP
    clear h1 h2 r hi
    go_enter Tryz.func84, Tryz.ntmps84
    go_wp2_with fail
    refine (HP.out _).mono ?_
    rintro e w1 ⟨rfl, hf1⟩
    have HF1 := hide hf1
    clear hf1
    go_wp2_with fail
    go_ret
    exact ⟨c, rfl, H.out.fr HF1.out (by simp) (by simp), HF1.out.mono (fun x hx => by cases hx)⟩
  · rw [h1, h2]
    have HP := hide (pack_right r)
    unfold objH Hd.val at HP
    generalize Hd.word _ = x at HP
    have HR : Hid (¬ HasRow n i s) := hr
    clear h1 h2 r hr hi
    go_enter Tryz.func84, Tryz.ntmps84
    go_wp2_with fail
    refine (HP.out _).mono ?_
    rintro e w1 ⟨rfl, hf1⟩
    have HF1 := hide hf1
    clear hf1
    go_wp2_with fail
    refine (zero_any (H.out.fr HF1.out (by simp) (by simp)) i s HI.out).mono ?_
    rintro e w2 ⟨er, f2, rfl, ha2, hf2, ht2⟩
    obtain ⟨rfl, rfl⟩ : er = 2 ∧ f2 = f := by
      rcases ht2 with ⟨a1, _⟩ | ⟨_, a2, a3⟩
      · exact absurd a1 HR.out
      · exact ⟨a2, a3⟩
    have HA2 := hide ha2
    have HF2 := hide hf2
    clear ha2 hf2 ht2
    go_wp2_with fail
    go_ret
    exact ⟨c, rfl, HA2.out, (HF1.out.mono (fun x hx => by cases hx)).trans HF2.out (fun x hx => by simp at hx; simp [hx])⟩
  · rw [h1, h2]
    have HP := hide (pack_right r)
    rw [hword] at HP
    unfold objH Hd.val at HP
    have HX : Hid (objW S P < 18446744073709551616) := objW_lt hS.2 hP
    generalize objW S P = x at *
    have HN : Hid (I + S ≤ n ∧ I < n) := ⟨hIS, by omega⟩
    clear h1 h2 r hword hi hS hP hIS
    go_enter Tryz.func84, Tryz.ntmps84
    go_wp2_with fail
    refine (HP.out _).mono ?_
    rintro e w1 ⟨rfl, hf1⟩
    have HF1 := hide hf1
    clear hf1
    go_wp2_with fail
    refine (zero_at (H.out.fr HF1.out (by simp) (by simp)) rfl rfl HN.out.1).mono ?_
    rintro e w2 ⟨rfl, ha2, hf2⟩
    have HA2 := hide ha2
    have HF2 := hide hf2
    clear ha2 hf2
    go_wp2_with fail
    refine (store_at HA2.out rfl HN.out.2 rfl HX.out).mono ?_
    rintro e w3 ⟨rfl, ha3, hf3⟩
    have HA3 := hide ha3
    have HF3 := hide hf3
    clear ha3 hf3
    go_wp2_with fail
    go_ret
    exact ⟨_, rfl, HA3.out, ((HF1.out.mono (G := [ab, aw]) (fun x hx => by cases hx)).trans HF2.out (fun x hx => by simp at hx; simp [hx])).trans_same HF3.out⟩

end Go.Proofs.YthacgiajnafpgaaGreatDoor
/- The package parse: Fields, Starts. -/
namespace Go.Proofs.YthacgiajnafpgaaGreatDoor
set_option linter.unusedVariables false
set_option maxRecDepth 100000
open Go.RowKit Go.Gl

/-- What a call that answers a list comes to. -/
def ListAns (w : World) (ab aw n : Nat) (f : Nat → Nat) (l : List Int) (er : Int) (e : Ending) (w' : World) : Prop :=
  ∃ (A : Option Addr) (cap : Nat) (c' : Int), e = .returned (.tuple #[.slice A l.length cap, .int .i64 er]) ∧ Own w.heap.size w' A l ∧ Ar w' ab aw n f c' ∧ Fr [ab] w w'
end Go.Proofs.YthacgiajnafpgaaGreatDoor
