/- Arenas: rows of words: Zero and Move. -/
import Derived.Test.YtjnnegbcijmclaaA1
namespace Go.Proofs.Ytjnnegbcijmclaa
set_option linter.unusedVariables false
open Go.RowKit Go.Gl

/-- Is there such a row? -/
def HasRow (n : Nat) (i m : Int) : Prop := 0 ≤ i ∧ 0 ≤ m ∧ i + m ≤ (n : Int)
theorem row_nil (i m : Int) (w : World) : Calls Try.prog 35 #[.pointer none, .int .i64 i, .int .i64 m] w fun e w' => e = .returned (.tuple #[.slice none 0 0, .int .i64 1]) ∧ w = w' := by
  go_enter Try.func35, Try.ntmps35
  go_wp2
  go_ret2
  exact ⟨rfl, rfl⟩
theorem row_out {w : World} {ab aw n : Nat} {f : Nat → Nat} {c : Int} (h : Ar w ab aw n f c) {i m : Int} (hi1 : i ≤ 9223372036854775807) (hi : ¬ HasRow n i m) :
    Calls Try.prog 35 #[.pointer (some ⟨ab, 0, none⟩), .int .i64 i, .int .i64 m] w fun e w' => e = .returned (.tuple #[.slice none 0 0, .int .i64 2]) ∧ w = w' := by
  have h0 := h.c0
  have hmax := h.max
  unfold HasRow at hi
  clear h
  by_cases c1 : i < 0
  · clear hi
    go_enter Try.func35, Try.ntmps35
    go_wp2
    go_ret2
    exact ⟨rfl, rfl⟩
  · by_cases c2 : m < 0
    · clear hi
      go_enter Try.func35, Try.ntmps35
      go_wp2
      go_ret2
      exact ⟨rfl, rfl⟩
    · have c3 : (n : Int) - i < m := by omega
      clear hi
      go_enter Try.func35, Try.ntmps35
      go_wp2
      go_ret2
      exact ⟨rfl, rfl⟩
theorem ret_slice2 {A : Option Addr} {c L m : Nat} {v : Value} (h : L = m) : Ending.returned (.tuple #[.slice A L c, v]) = .returned (.tuple #[.slice A m c, v]) := by rw [h]
def RowPost (w : World) (aw i m : Nat) (e : Ending) (w' : World) : Prop :=
  ∃ A c, e = .returned (.tuple #[.slice A m c, .int .i64 0]) ∧ (0 < m → A = some ⟨aw, i, none⟩) ∧ w = w'
theorem row_in {w : World} {ab aw n : Nat} {f : Nat → Nat} {c : Int} (h : Ar w ab aw n f c) {i m : Nat} (hi : i + m ≤ n) :
    Calls Try.prog 35 #[.pointer (some ⟨ab, 0, none⟩), .int .i64 (i : Int), .int .i64 (m : Int)] w (RowPost w aw i m) := by
  have h0 := h.c0
  have hmax := h.max
  clear h
  have c3 : (m : Int) ≤ (n : Int) - (i : Int) := by omega
  by_cases hc : n = i
  · have HC := hide hc
    have HM : Hid (m = 0) := by show m = 0; omega
    go_enter Try.func35, Try.ntmps35
    go_wp2
    go_ret2
    have := HM.out
    exact ⟨_, _, ret_slice2 (by omega), fun h => by omega, rfl⟩
  · go_enter Try.func35, Try.ntmps35
    go_wp2
    go_ret2
    exact ⟨_, _, ret_slice2 (by omega), fun _ => rfl, rfl⟩

theorem Try.zero_u64 (w : World) : (zeroValue 29).run Try.prog w = .ok (.int .u64 0) w := by kernel_rfl
theorem Try.size_u64 : (Try.prog.info? 29).map (·.size) = some 1 := by kernel_rfl

/-- What Zero of m words from i on comes to. -/
def Zeroed (n : Nat) (f : Nat → Nat) (i m : Int) (er : Int) (f' : Nat → Nat) : Prop :=
  (HasRow n i m ∧ er = 0 ∧ f' = updRow f i.toNat m.toNat (fun _ => 0)) ∨ (¬ HasRow n i m ∧ er = 2 ∧ f' = f)
def ZeroPost (w : World) (ab aw n : Nat) (f : Nat → Nat) (c i m : Int) (e : Ending) (w' : World) : Prop :=
  ∃ (er : Int) (f' : Nat → Nat), e = .returned (.int .i64 er) ∧ Ar w' ab aw n f' c ∧ Fr [aw] w w' ∧ Zeroed n f i m er f'
theorem zero_nil (i m : Int) (w : World) : Calls Try.prog 21 #[.pointer none, .int .i64 i, .int .i64 m] w fun e w' => e = .returned (.int .i64 1) ∧ w = w' := by
  go_enter Try.func21, Try.ntmps21
  go_wp2_with (go_at_call 35; refine (row_nil _ _ _).mono ?_; rintro e w' ⟨rfl, rfl⟩)
  go_ret
  exact ⟨rfl, rfl⟩
theorem zero_any {w : World} {ab aw n : Nat} {f : Nat → Nat} {c : Int} (h : Ar w ab aw n f c) (i m : Int) (hi1 : i ≤ 9223372036854775807) :
    Calls Try.prog 21 #[.pointer (some ⟨ab, 0, none⟩), .int .i64 i, .int .i64 m] w (ZeroPost w ab aw n f c i m) := by
  by_cases hr : HasRow n i m
  · obtain ⟨h1, h2, h3⟩ := hr
    obtain ⟨I, rfl⟩ := Int.eq_ofNat_of_zero_le h1
    obtain ⟨M, rfl⟩ := Int.eq_ofNat_of_zero_le h2
    have hfit : I + M ≤ n := by omega
    have HR := hide (row_in h hfit)
    have H := hide h
    have HE := hide (memV_splice (n := n) (f := f) (off := I) (m := M) (cs := List.replicate M (.int .u64 0)) (g := fun _ => 0) (by simp) hfit (fun j hj => by simp [hj]))
    have HS : Hid ((memV n f).size = n) := memV_size _ _
    clear h
    go_enter Try.func21, Try.ntmps21
    go_wp2_with fail
    refine HR.out.mono ?_
    rintro e w' ⟨A, cc, rfl, hA, rfl⟩
    have HA := hide hA
    clear hA
    go_wp2_with (with_reducible refine wpList_clear_blk rfl _ 28 rfl 29 Try.underlying28 Try.zero_u64 rfl rfl A M cc rfl aw I (memV n f) 29 H.out.row HA.out (by rw [HS.out]; exact hfit) ?_)
    intro w2 hb hf
    go_wp2
    go_ret
    refine ⟨0, _, rfl, ⟨H.out.set.fr hf.out (by simpa using H.out.ne), ?_, H.out.max, ?_⟩, hf.out, .inl ⟨⟨h1, h2, h3⟩, rfl, rfl⟩⟩
    · rw [Int.toNat_natCast, Int.toNat_natCast, ← HE.out]; exact hb.out
    · intro j
      unfold updRow
      split
      · show (0 : Nat) < 18446744073709551616
        decide
      · exact H.out.ok j
  · have HR := hide (row_out h hi1 hr)
    have HI := hide hr
    have H := hide h
    clear h hr
    go_enter Try.func21, Try.ntmps21
    go_wp2_with (go_at_call 35; refine HR.out.mono ?_; rintro e w' ⟨rfl, rfl⟩)
    go_ret
    exact ⟨2, f, rfl, H.out, Fr.refl _ _, .inr ⟨HI.out, rfl, rfl⟩⟩

/-- A word that is there. -/
theorem load_at {w : World} {ab aw n : Nat} {f : Nat → Nat} {c : Int} (h : Ar w ab aw n f c) {i : Int} {k v : Nat} (hi : i = (k : Int)) (hk : k < n) (hv : f k = v) :
    Calls Try.prog 15 #[.pointer (some ⟨ab, 0, none⟩), .int .i64 i] w fun e w' => e = .returned (.tuple #[.int .u64 (v : Int), .int .i64 0]) ∧ Ar w' ab aw n f (wrap64 (c + 1)) ∧ Fr [ab] w w' := by
  subst hi hv
  refine (load_any h (k : Int)).mono ?_
  rintro e w' ⟨v, er, c', rfl, ha, hf, ht⟩
  rcases ht with ⟨_, _, rfl, rfl, rfl⟩ | ⟨h1, _⟩
  · exact ⟨by rw [Int.toNat_natCast], ha, hf⟩
  · exact absurd ⟨by omega, by omega⟩ h1
theorem store_at {w : World} {ab aw n : Nat} {f : Nat → Nat} {c : Int} (h : Ar w ab aw n f c) {i y : Int} {k x : Nat} (hi : i = (k : Int)) (hk : k < n) (hy : y = (x : Int)) (hx : x < 18446744073709551616) :
    Calls Try.prog 13 #[.pointer (some ⟨ab, 0, none⟩), .int .i64 i, .int .u64 y] w fun e w' => e = .returned (.int .i64 0) ∧ Ar w' ab aw n (upd f k x) (wrap64 (c + 1)) ∧ Fr [ab, aw] w w' := by
  subst hi hy
  refine (store_any h (k : Int) x hx).mono ?_
  rintro e w' ⟨er, f', c', rfl, ha, hf, ht⟩
  rcases ht with ⟨_, _, rfl, rfl, rfl⟩ | ⟨h1, _⟩
  · exact ⟨rfl, by rw [Int.toNat_natCast] at ha; exact ha, hf⟩
  · exact absurd ⟨by omega, by omega⟩ h1
theorem zero_at {w : World} {ab aw n : Nat} {f : Nat → Nat} {c : Int} (h : Ar w ab aw n f c) {i m : Int} {I M : Nat} (hi : i = (I : Int)) (hm : m = (M : Int)) (h1 : I + M ≤ n) :
    Calls Try.prog 21 #[.pointer (some ⟨ab, 0, none⟩), .int .i64 i, .int .i64 m] w fun e w' => e = .returned (.int .i64 0) ∧ Ar w' ab aw n (updRow f I M (fun _ => 0)) c ∧ Fr [aw] w w' := by
  subst hi hm
  have hmax := h.max
  refine (zero_any h (I : Int) (M : Int) (by omega)).mono ?_
  rintro e w' ⟨er, f', rfl, ha, hf, ht⟩
  rcases ht with ⟨_, rfl, rfl⟩ | ⟨h2, _⟩
  · exact ⟨rfl, by simpa using ha, hf⟩
  · exact absurd ⟨by omega, by omega, by omega⟩ h2
end Go.Proofs.Ytjnnegbcijmclaa
