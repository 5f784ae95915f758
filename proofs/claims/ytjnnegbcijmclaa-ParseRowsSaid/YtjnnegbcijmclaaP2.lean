/- The package parse: Make, Fill. -/
import Derived.Test.YtjnnegbcijmclaaP1b
namespace Go.Proofs.Ytjnnegbcijmclaa
set_option linter.unusedVariables false
open Go.RowKit Go.Gl

/-- What a call that writes comes to. -/
def WritePost (w : World) (ab aw n : Nat) (er : Int) (f' : Nat → Nat) (e : Ending) (w' : World) : Prop :=
  ∃ c', e = .returned (.int .i64 er) ∧ Ar w' ab aw n f' c' ∧ Fr [ab, aw] w w'
theorem pack_right {h : Hd} (r : h.Right) (w : World) : Calls Try.prog 20 #[h.val] w fun e w' => e = .returned (.tuple #[.int .u64 h.word, .int .i64 0]) ∧ Fr [] w w' := by
  have := hpack_any h w
  unfold Hd.ans Hd.err at this
  rw [if_pos (Hd.rightB_iff.2 r), if_pos (Hd.rightB_iff.2 r)] at this
  exact this
theorem pack_wrong {h : Hd} (r : ¬ h.Right) (w : World) : Calls Try.prog 20 #[h.val] w fun e w' => e = .returned (.tuple #[.int .u64 0, .int .i64 3]) ∧ Fr [] w w' := by
  have := hpack_any h w
  unfold Hd.ans Hd.err at this
  rw [if_neg (fun x => r (Hd.rightB_iff.1 x)), if_neg (fun x => r (Hd.rightB_iff.1 x))] at this
  exact this
theorem pmake_nil (i s p : Int) (w : World) : Calls Try.prog 9 #[.pointer none, .int .i64 i, .int .i64 s, .int .i64 p] w fun e w' => e = .returned (.int .i64 1) ∧ w = w' := by
  go_enter Try.func9, Try.ntmps9
  go_wp2
  go_ret
  exact ⟨rfl, rfl⟩
theorem pmake_any {w : World} {ab aw n : Nat} {f : Nat → Nat} {c : Int} (h : Ar w ab aw n f c) (i s p : Int) (hi : i ≤ 9223372036854775807) :
    Calls Try.prog 9 #[.pointer (some ⟨ab, 0, none⟩), .int .i64 i, .int .i64 s, .int .i64 p] w (WritePost w ab aw n (makeE n i s p) (makeF n f i s p)) := by
  have H := hide h
  have HI := hide hi
  have hw := make_ways n f i s p
  clear h
  unfold WritePost
  rcases hw with ⟨r, h1, h2⟩ | ⟨r, hr, h1, h2⟩ | ⟨I, S, P, rfl, rfl, rfl, hS, hP, hIS, r, hword, h1, h2⟩
  · rw [h1, h2]
    have HP := hide (pack_wrong r)
    unfold objH Hd.val at HP
    clear h1 h2 r hi
    go_enter Try.func9, Try.ntmps9
    go_wp2_with fail
    refine (HP.out _).mono ?_
    rintro e w1 ⟨rfl, hf1⟩
    have HF1 := hide hf1
    clear hf1
    go_wp2_with fail
    go_ret
    exact ⟨c, rfl, H.out.fr HF1.out (by simp) (by simp), HF1.out.mono (fun x hx => by cases hx)⟩
  · rw [h1, h2]
    have HP := hide (pack_right r)
    unfold objH Hd.val at HP
    generalize Hd.word _ = x at HP
    have HR : Hid (¬ HasRow n i s) := hr
    clear h1 h2 r hr hi
    go_enter Try.func9, Try.ntmps9
    go_wp2_with fail
    refine (HP.out _).mono ?_
    rintro e w1 ⟨rfl, hf1⟩
    have HF1 := hide hf1
    clear hf1
    go_wp2_with fail
    refine (zero_any (H.out.fr HF1.out (by simp) (by simp)) i s HI.out).mono ?_
    rintro e w2 ⟨er, f2, rfl, ha2, hf2, ht2⟩
    obtain ⟨rfl, rfl⟩ : er = 2 ∧ f2 = f := by
      rcases ht2 with ⟨a1, _⟩ | ⟨_, a2, a3⟩
      · exact absurd a1 HR.out
      · exact ⟨a2, a3⟩
    have HA2 := hide ha2
    have HF2 := hide hf2
    clear ha2 hf2 ht2
    go_wp2_with fail
    go_ret
    exact ⟨c, rfl, HA2.out, (HF1.out.mono (fun x hx => by cases hx)).trans HF2.out (fun x hx => by simp at hx; simp [hx])⟩
  · rw [h1, h2]
    have HP := hide (pack_right r)
    rw [hword] at HP
    unfold objH Hd.val at HP
    have HX : Hid (objW S P < 18446744073709551616) := objW_lt hS.2 hP
    generalize objW S P = x at *
    have HN : Hid (I + S ≤ n ∧ I < n) := ⟨hIS, by omega⟩
    clear h1 h2 r hword hi hS hP hIS
    go_enter Try.func9, Try.ntmps9
    go_wp2_with fail
    refine (HP.out _).mono ?_
    rintro e w1 ⟨rfl, hf1⟩
    have HF1 := hide hf1
    clear hf1
    go_wp2_with fail
    refine (zero_at (H.out.fr HF1.out (by simp) (by simp)) rfl rfl HN.out.1).mono ?_
    rintro e w2 ⟨rfl, ha2, hf2⟩
    have HA2 := hide ha2
    have HF2 := hide hf2
    clear ha2 hf2
    go_wp2_with fail
    refine (store_at HA2.out rfl HN.out.2 rfl HX.out).mono ?_
    rintro e w3 ⟨rfl, ha3, hf3⟩
    have HA3 := hide ha3
    have HF3 := hide hf3
    clear ha3 hf3
    go_wp2_with fail
    go_ret
    exact ⟨_, rfl, HA3.out, ((HF1.out.mono (G := [ab, aw]) (fun x hx => by cases hx)).trans HF2.out (fun x hx => by simp at hx; simp [hx])).trans_same HF3.out⟩

theorem pfillOne_at {w : World} {ab aw n : Nat} {f : Nat → Nat} {c : Int} (h : Ar w ab aw n f c) {I S : Nat} (hI : I < n) (hS : 1 ≤ S ∧ S ≤ 1048576) :
    Calls Try.prog 25 #[.pointer (some ⟨ab, 0, none⟩), .int .i64 (I : Int), .int .i64 (S : Int)] w (WritePost w ab aw n 0 (upd f I (fillW S))) := by
  have H := hide h
  have HP := hide (pack_right (fillH_right (size := (S : Int)) (by omega)))
  rw [fillH_word] at HP
  unfold fillH Hd.val at HP
  have HX : Hid (fillW S < 18446744073709551616) := fillW_lt hS.2
  generalize fillW S = x at *
  have HI := hide hI
  clear h hI hS
  unfold WritePost
  go_enter Try.func25, Try.ntmps25
  go_wp2_with fail
  refine (HP.out _).mono ?_
  rintro e w1 ⟨rfl, hf1⟩
  have HF1 := hide hf1
  clear hf1
  go_wp2_with fail
  refine (store_at (H.out.fr HF1.out (by simp) (by simp)) rfl HI.out rfl HX.out).mono ?_
  rintro e w3 ⟨rfl, ha3, hf3⟩
  have HA3 := hide ha3
  have HF3 := hide hf3
  clear ha3 hf3
  go_wp2_with fail
  go_ret
  exact ⟨_, rfl, HA3.out, (HF1.out.mono (G := [ab, aw]) (fun x hx => by cases hx)).trans_same HF3.out⟩
theorem pfill_nil (a b : Int) (w : World) : Calls Try.prog 11 #[.pointer none, .int .i64 a, .int .i64 b] w fun e w' => e = .returned (.int .i64 1) ∧ w = w' := by
  go_enter Try.func11, Try.ntmps11
  go_wp2_with (go_at_call 24; refine (pbounds_nil _ _ _).mono ?_; rintro e w' ⟨rfl, rfl⟩)
  go_ret
  exact ⟨rfl, rfl⟩
theorem pfill_any {w : World} {ab aw n : Nat} {f : Nat → Nat} {c : Int} (h : Ar w ab aw n f c) (a b : Int) :
    Calls Try.prog 11 #[.pointer (some ⟨ab, 0, none⟩), .int .i64 a, .int .i64 b] w (WritePost w ab aw n (bndE n a b) (fillN n f a b)) := by
  have H := hide h
  have HB := hide (pbounds_any h a b)
  have hmax := h.max
  have hw := bnd_ways n a b
  clear h
  unfold WritePost
  have hout : bndE n a b = 2 ∨ ∃ A B : Nat, a = (A : Int) ∧ b = (B : Int) ∧ A ≤ B ∧ B ≤ n ∧ bndE n a b = 0 := by
    rcases hw with h1 | h1 | h1 | h1
    · exact .inr h1
    · exact .inl h1.2
    · exact .inl h1.2.2
    · exact .inl h1.2.2.2
  clear hw
  rcases hout with he | ⟨A, B, rfl, rfl, hAB, hBn, he⟩
  · rw [he] at HB
    rw [fillN_out he, he]
    clear he
    go_enter Try.func11, Try.ntmps11
    go_wp2_with (go_at_call 24; refine HB.out.mono ?_; rintro e w' ⟨rfl, rfl⟩)
    go_ret
    exact ⟨c, rfl, H.out, Fr.refl _ _⟩
  · rw [he] at HB
    rw [fillN_in he, he]
    have HG := hide (Filling.start f hAB)
    generalize fillF (B - A) f A B = F at *
    clear he
    go_enter Try.func11, Try.ntmps11
    go_wp2_with (go_at_call 24; refine HB.out.mono ?_; rintro e w' ⟨rfl, rfl⟩)
    go_loopw [1] (fun i wr => ∃ (k : Nat) (f1 : Nat → Nat) (c1 : Int), i = .int .i64 k ∧ Filling F f1 B k ∧ Ar wr ab aw n f1 c1 ∧ Fr [ab, aw] w wr) (fun i _ => B - (intOf i).toNat)
    case atStart => exact ⟨A, f, c, rfl, HG.out, H.out, Fr.refl _ _⟩
    case round =>
      obtain ⟨k, f1, c1, rfl, hg, ha, hf⟩ := hrel
      have HG1 := hide hg
      have HA1 := hide ha
      have HF1 := hide hf
      clear hg ha hf
      have hkB := HG1.out.le
      by_cases hlt : k < B
      · have hlt' : (k : Int) < (B : Int) := by omega
        obtain ⟨S, hS⟩ : ∃ S : Nat, S = min (B - k) 1048576 := ⟨_, rfl⟩
        have HN := hide (HG1.out.next (s := S) hlt hS)
        have HO := hide (pfillOne_at HA1.out (I := k) (S := S) (by omega) (by omega))
        have hway : (B : Int) - (k : Int) = (S : Int) ∧ (S : Int) ≤ 1048576 ∨ 1048576 < (B : Int) - (k : Int) ∧ S = 1048576 := by omega
        have HS : Hid (1 ≤ S ∧ k + S ≤ B) := ⟨by omega, by omega⟩
        clear hS
        rcases hway with ⟨e1, e2⟩ | ⟨e1, rfl⟩
        all_goals
          go_wp2_with fail
          refine HO.out.mono ?_
          rintro e w2 ⟨c2, rfl, ha2, hf2⟩
          have HA2 := hide ha2
          have HF2 := hide hf2
          have HS1 := HS.out.2
          clear ha2 hf2
          go_wp2_with fail
          go_roundw
          case rel => exact ⟨k + _, _, c2, by go_num, HN.out, HA2.out, HF1.out.trans_same HF2.out⟩
          case measure => have := HS.out.1; simp [intOf]; omega
      · rw [← HG1.out.done hlt] at HA1
        go_wp2_with fail
        go_ret
        exact ⟨c1, rfl, HA1.out, HF1.out⟩
end Go.Proofs.Ytjnnegbcijmclaa
