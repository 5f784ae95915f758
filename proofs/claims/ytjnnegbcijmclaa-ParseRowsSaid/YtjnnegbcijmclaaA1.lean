/- Arenas: what each call of the package arena answers of an arena that lies in memory, and what it leaves there. -/
import Derived.Test.YtjnnegbcijmclaaProg
import Derived.Test.YtjnnegbcijmclaaCp
import Derived.WalkKit
import Derived.BigQuiet
namespace Go.Proofs.Ytjnnegbcijmclaa
set_option linter.unusedVariables false
open Go.RowKit Go.Gl

/-- An arena lies at the block ab, its words at aw: n words f, and c accesses so far. -/
structure Ar (w : World) (ab aw n : Nat) (f : Nat → Nat) (c : Int) : Prop where
  set : Blk w ab 57 #[.slice (some ⟨aw, 0, none⟩) n n, .int .i64 c]
  row : Blk w aw 29 (memV n f)
  max : n ≤ 4194304
  ok : ∀ k, f k < 18446744073709551616

section
variable {w w' : World} {ab aw n : Nat} {f : Nat → Nat} {c : Int} {F : List Nat}
theorem Ar.fr (h : Ar w ab aw n f c) (hf : Fr F w w') (h1 : ab ∉ F) (h2 : aw ∉ F) : Ar w' ab aw n f c := ⟨h.set.fr hf h1, h.row.fr hf h2, h.max, h.ok⟩
theorem Ar.drewN (h : Ar w ab aw n f c) (k : Nat) : Ar (w.drewN k) ab aw n f c := ⟨h.set, h.row, h.max, h.ok⟩
theorem Ar.drew (h : Ar w ab aw n f c) : Ar w.drew ab aw n f c := ⟨h.set, h.row, h.max, h.ok⟩
theorem Ar.c0 (h : Ar w ab aw n f c) : w.cell? ⟨ab, 0, none⟩ = some (.slice (some ⟨aw, 0, none⟩) n n) := by rw [h.set.cell]; rfl
theorem Ar.c1 (h : Ar w ab aw n f c) : w.cell? ⟨ab, 1, none⟩ = some (.int .i64 c) := by rw [h.set.cell]; rfl
theorem Ar.cw (h : Ar w ab aw n f c) {k : Nat} (hk : k < n) : w.cell? ⟨aw, k, none⟩ = some (.int .u64 (f k : Int)) := by rw [h.row.cell, memV_at hk]
theorem Ar.ne (h : Ar w ab aw n f c) : ab ≠ aw := h.set.apart h.row (by decide)
theorem Ar.counted (h : Ar w ab aw n f c) (c' : Int) : Ar (w.setCell ⟨ab, 1, none⟩ (.int .i64 c')) ab aw n f c' :=
  ⟨h.set.put 1 (.int .i64 c'), h.row.far (p := ⟨ab, 1, none⟩) h.ne.symm _, h.max, h.ok⟩
theorem Ar.stored (h : Ar w ab aw n f c) (k : Nat) {x : Nat} (hx : x < 18446744073709551616) : Ar (w.setCell ⟨aw, k, none⟩ (.int .u64 (x : Int))) ab aw n (upd f k x) c := by
  refine ⟨h.set.far (p := ⟨aw, k, none⟩) h.ne _, ?_, h.max, fun j => ?_⟩
  · have := h.row.put k (.int .u64 (x : Int))
    rw [memV_set] at this
    exact this
  · unfold upd
    split
    · exact hx
    · exact h.ok j
end
theorem upd_ok {f : Nat → Nat} {k x : Nat} (h : ∀ j, f j < 18446744073709551616) (hx : x < 18446744073709551616) : ∀ j, upd f k x j < 18446744073709551616 := fun j => by
  unfold upd
  split
  · exact hx
  · exact h j

theorem Try.info_u64a : (Try.prog.info? 29).map (fun i => (i.zero, i.size, i.bytes)) = some (some (.int .u64 0), 1, 8) := by kernel_rfl
def ArenaPost (w : World) (n : Nat) (e : Ending) (w' : World) : Prop :=
  ∃ ab aw, e = .returned (.tuple #[.pointer (some ⟨ab, 0, none⟩), .int .i64 0]) ∧ Ar w' ab aw n (fun _ => 0) 0 ∧ Fr [] w w' ∧ w.heap.size ≤ ab ∧ w.heap.size ≤ aw
theorem anew_bad (n : Int) (h : n < 0 ∨ 4194304 < n) (w : World) : Calls Try.prog 8 #[.int .i64 n] w fun e w' => e = .returned (.tuple #[.pointer none, .int .i64 2]) ∧ w = w' := by
  rcases h with h | h
  all_goals
    go_enter Try.func8, Try.ntmps8
    go_wp2
    go_ret2
    exact ⟨rfl, rfl⟩
theorem anew_any (n : Nat) (h : n ≤ 4194304) (w : World) : Calls Try.prog 8 #[.int .i64 (n : Int)] w (ArenaPost w n) := by
  obtain ⟨i0, hi, hz0, hz1, hz2⟩ := info_parts Try.info_u64a
  go_enter Try.func8, Try.ntmps8
  go_wp2_with (at_make; refine wpList_make_full _ rfl _ _ 28 rfl w.heap.size 29 i0 (.int .u64 0) 1 Try.underlying28 hi hz0 hz1 _ _ _ _ n rfl rfl rfl rfl (by rw [hz2]; omega) (by unfold maxLen; omega) (Nat.le_refl _) ?_; intro w1 hown hgr; have HO := hide hown; have HG := hide hgr; clear hown hgr)
  go_ret2
  have hown := HO.out
  rw [Nat.mul_one, made_one _ rfl] at hown
  have hb := own_full hown
  refine ⟨w1.heap.size, w.heap.size, rfl, ⟨Blk.new _ _ _, ?_, h, fun _ => by decide⟩, ((Fr.refl _ _).grown HG.out (fun _ hk => by cases hk)).alloc _, HG.out.size, Nat.le_refl _⟩
  have : memV n (fun _ => 0) = (List.replicate n (Value.int .u64 0)).toArray := by
    unfold memV
    congr 1
    apply List.ext_getElem <;> simp
  rw [this]; exact hb.alloc _

theorem alen_nil (w : World) : Calls Try.prog 32 #[.pointer none] w fun e w' => e = .returned (.int .i64 0) ∧ w = w' := by
  go_enter Try.func32, Try.ntmps32
  go_wp2
  go_ret
  exact ⟨rfl, rfl⟩
theorem alen_any {w : World} {ab aw n : Nat} {f : Nat → Nat} {c : Int} (h : Ar w ab aw n f c) : Calls Try.prog 32 #[.pointer (some ⟨ab, 0, none⟩)] w fun e w' => e = .returned (.int .i64 (n : Int)) ∧ w = w' := by
  have h0 := h.c0
  clear h
  go_enter Try.func32, Try.ntmps32
  go_wp2
  go_ret
  exact ⟨rfl, rfl⟩
theorem access_nil (i : Int) (w : World) : Calls Try.prog 26 #[.pointer none, .int .i64 i] w fun e w' => e = .returned (.tuple #[.pointer none, .int .i64 1]) ∧ w = w' := by
  go_enter Try.func26, Try.ntmps26
  go_wp2
  go_ret2
  exact ⟨rfl, rfl⟩
theorem access_out {w : World} {ab aw n : Nat} {f : Nat → Nat} {c : Int} (h : Ar w ab aw n f c) {i : Int} (hi : ¬ (0 ≤ i ∧ i < (n : Int))) :
    Calls Try.prog 26 #[.pointer (some ⟨ab, 0, none⟩), .int .i64 i] w fun e w' => e = .returned (.tuple #[.pointer none, .int .i64 2]) ∧ w = w' := by
  have h0 := h.c0
  clear h
  by_cases c1 : i < 0
  · clear hi
    go_enter Try.func26, Try.ntmps26
    go_wp2
    go_ret2
    exact ⟨rfl, rfl⟩
  · have c2 : (n : Int) ≤ i := by omega
    clear hi
    go_enter Try.func26, Try.ntmps26
    go_wp2
    go_ret2
    exact ⟨rfl, rfl⟩
theorem access_in {w : World} {ab aw n : Nat} {f : Nat → Nat} {c : Int} (h : Ar w ab aw n f c) {k : Nat} (hk : k < n) :
    Calls Try.prog 26 #[.pointer (some ⟨ab, 0, none⟩), .int .i64 (k : Int)] w fun e w' =>
      e = .returned (.tuple #[.pointer (some ⟨aw, k, none⟩), .int .i64 0]) ∧ w' = w.setCell ⟨ab, 1, none⟩ (.int .i64 (wrap64 (c + 1))) := by
  have h0 := h.c0
  have h1 := h.c1
  have hz := h.set.frozen 1
  have h0' := (h.counted (wrap64 (c + 1))).c0
  have c1 : (k : Int) < (n : Int) := by omega
  clear h
  go_enter Try.func26, Try.ntmps26
  go_wp2
  go_ret2
  exact ⟨rfl, rfl⟩

/-- What a load of the word at i comes to. -/
def Loaded (n : Nat) (f : Nat → Nat) (c : Int) (i : Int) (v : Nat) (er c' : Int) : Prop :=
  (0 ≤ i ∧ i < (n : Int) ∧ v = f i.toNat ∧ er = 0 ∧ c' = wrap64 (c + 1)) ∨ (¬ (0 ≤ i ∧ i < (n : Int)) ∧ v = 0 ∧ er = 2 ∧ c' = c)
def LoadPost (w : World) (ab aw n : Nat) (f : Nat → Nat) (c i : Int) (e : Ending) (w' : World) : Prop :=
  ∃ (v : Nat) (er c' : Int), e = .returned (.tuple #[.int .u64 (v : Int), .int .i64 er]) ∧ Ar w' ab aw n f c' ∧ Fr [ab] w w' ∧ Loaded n f c i v er c'
theorem load_nil (i : Int) (w : World) : Calls Try.prog 15 #[.pointer none, .int .i64 i] w fun e w' => e = .returned (.tuple #[.int .u64 0, .int .i64 1]) ∧ w = w' := by
  go_enter Try.func15, Try.ntmps15
  go_wp2_with (go_at_call 26; refine (access_nil _ _).mono ?_; rintro e w' ⟨rfl, rfl⟩)
  go_ret2
  exact ⟨rfl, rfl⟩
theorem load_any {w : World} {ab aw n : Nat} {f : Nat → Nat} {c : Int} (h : Ar w ab aw n f c) (i : Int) :
    Calls Try.prog 15 #[.pointer (some ⟨ab, 0, none⟩), .int .i64 i] w (LoadPost w ab aw n f c i) := by
  by_cases hi : 0 ≤ i ∧ i < (n : Int)
  · obtain ⟨hi0, hi1⟩ := hi
    obtain ⟨k, rfl⟩ := Int.eq_ofNat_of_zero_le hi0
    have hk : k < n := by omega
    have HA := hide (access_in h hk)
    have HC := hide (h.counted (wrap64 (c + 1)))
    have hw := (h.counted (wrap64 (c + 1))).cw hk
    clear h
    go_enter Try.func15, Try.ntmps15
    go_wp2_with (go_at_call 26; refine HA.out.mono ?_; rintro e w' ⟨rfl, rfl⟩)
    go_ret2
    exact ⟨f k, 0, _, rfl, HC.out, (Fr.refl _ _).setCell (p := ⟨ab, 1, none⟩) (.inl (by simp)) _, .inl ⟨hi0, hi1, by rw [Int.toNat_natCast], rfl, rfl⟩⟩
  · have HA := hide (access_out h hi)
    have HI := hide hi
    have H := hide h
    clear h hi
    go_enter Try.func15, Try.ntmps15
    go_wp2_with (go_at_call 26; refine HA.out.mono ?_; rintro e w' ⟨rfl, rfl⟩)
    go_ret2
    exact ⟨0, 2, c, rfl, H.out, Fr.refl _ _, .inr ⟨HI.out, rfl, rfl, rfl⟩⟩

/-- What a store of x at i comes to. -/
def Stored (n : Nat) (f : Nat → Nat) (c : Int) (i : Int) (x : Nat) (er : Int) (f' : Nat → Nat) (c' : Int) : Prop :=
  (0 ≤ i ∧ i < (n : Int) ∧ er = 0 ∧ f' = upd f i.toNat x ∧ c' = wrap64 (c + 1)) ∨ (¬ (0 ≤ i ∧ i < (n : Int)) ∧ er = 2 ∧ f' = f ∧ c' = c)
def StorePost (w : World) (ab aw n : Nat) (f : Nat → Nat) (c i : Int) (x : Nat) (e : Ending) (w' : World) : Prop :=
  ∃ (er : Int) (f' : Nat → Nat) (c' : Int), e = .returned (.int .i64 er) ∧ Ar w' ab aw n f' c' ∧ Fr [ab, aw] w w' ∧ Stored n f c i x er f' c'
theorem store_nil (i x : Int) (w : World) : Calls Try.prog 13 #[.pointer none, .int .i64 i, .int .u64 x] w fun e w' => e = .returned (.int .i64 1) ∧ w = w' := by
  go_enter Try.func13, Try.ntmps13
  go_wp2_with (go_at_call 26; refine (access_nil _ _).mono ?_; rintro e w' ⟨rfl, rfl⟩)
  go_ret
  exact ⟨rfl, rfl⟩
theorem store_any {w : World} {ab aw n : Nat} {f : Nat → Nat} {c : Int} (h : Ar w ab aw n f c) (i : Int) (x : Nat) (hx : x < 18446744073709551616) :
    Calls Try.prog 13 #[.pointer (some ⟨ab, 0, none⟩), .int .i64 i, .int .u64 (x : Int)] w (StorePost w ab aw n f c i x) := by
  by_cases hi : 0 ≤ i ∧ i < (n : Int)
  · obtain ⟨hi0, hi1⟩ := hi
    obtain ⟨k, rfl⟩ := Int.eq_ofNat_of_zero_le hi0
    have hk : k < n := by omega
    have HA := hide (access_in h hk)
    have HC := hide ((h.counted (wrap64 (c + 1))).stored k hx)
    have hw := (h.counted (wrap64 (c + 1))).cw hk
    have hz := (h.counted (wrap64 (c + 1))).row.frozen k
    clear h
    go_enter Try.func13, Try.ntmps13
    go_wp2_with (go_at_call 26; refine HA.out.mono ?_; rintro e w' ⟨rfl, rfl⟩)
    go_ret
    exact ⟨0, _, _, rfl, HC.out, ((Fr.refl _ _).setCell (p := ⟨ab, 1, none⟩) (.inl (by simp)) _).setCell (p := ⟨aw, k, none⟩) (.inl (by simp)) _, .inl ⟨hi0, hi1, rfl, by rw [Int.toNat_natCast], rfl⟩⟩
  · have HA := hide (access_out h hi)
    have HI := hide hi
    have H := hide h
    clear h hi
    go_enter Try.func13, Try.ntmps13
    go_wp2_with (go_at_call 26; refine HA.out.mono ?_; rintro e w' ⟨rfl, rfl⟩)
    go_ret
    exact ⟨2, f, c, rfl, H.out, Fr.refl _ _, .inr ⟨HI.out, rfl, rfl, rfl⟩⟩

end Go.Proofs.Ytjnnegbcijmclaa
