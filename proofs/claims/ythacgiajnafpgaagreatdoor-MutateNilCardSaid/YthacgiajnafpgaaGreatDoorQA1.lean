/- Arenas: what each call of the package arena answers of an arena that lies in memory, and what it leaves there. -/
import Derived.Test.YthacgiajnafpgaaGreatDoorProg
import Derived.Test.YthacgiajnafpgaaGreatDoorQKit
import Derived.WalkKit
import Derived.BigQuiet
namespace Go.Proofs.YthacgiajnafpgaaGreatDoor
set_option linter.unusedVariables false
set_option maxRecDepth 100000
open Go.RowKit Go.Gl

/-- An arena lies at the block ab, its words at aw: n words f, and c accesses so far. -/
structure Ar (w : World) (ab aw n : Nat) (f : Nat → Nat) (c : Int) : Prop where
  set : Blk w ab 150 #[.slice (some ⟨aw, 0, none⟩) n n, .int .i64 c]
  row : Blk w aw 64 (memV n f)
  max : n ≤ 4194304
  ok : ∀ k, f k < 18446744073709551616

section
variable {w w' : World} {ab aw n : Nat} {f : Nat → Nat} {c : Int} {F : List Nat}
theorem Ar.fr (h : Ar w ab aw n f c) (hf : Fr F w w') (h1 : ab ∉ F) (h2 : aw ∉ F) : Ar w' ab aw n f c := ⟨h.set.fr hf h1, h.row.fr hf h2, h.max, h.ok⟩
theorem Ar.drewN (h : Ar w ab aw n f c) (k : Nat) : Ar (w.drewN k) ab aw n f c := ⟨h.set, h.row, h.max, h.ok⟩
theorem Ar.drew (h : Ar w ab aw n f c) : Ar w.drew ab aw n f c := ⟨h.set, h.row, h.max, h.ok⟩
theorem Ar.c0 (h : Ar w ab aw n f c) : w.cell? ⟨ab, 0, none⟩ = some (.slice (some ⟨aw, 0, none⟩) n n) := by rw [h.set.cell]; rfl
theorem Ar.c1 (h : Ar w ab aw n f c) : w.cell? ⟨ab, 1, none⟩ = some (.int .i64 c) := by rw [h.set.cell]; rfl
theorem Ar.cw (h : Ar w ab aw n f c) {k : Nat} (hk : k < n) : w.cell? ⟨aw, k, none⟩ = some (.int .u64 (f k : Int)) := by rw [h.row.cell, memV_at hk]
theorem Ar.ne (h : Ar w ab aw n f c) : ab ≠ aw := h.set.apart h.row (by decide)
theorem Ar.counted (h : Ar w ab aw n f c) (c' : Int) : Ar (w.setCell ⟨ab, 1, none⟩ (.int .i64 c')) ab aw n f c' :=
  ⟨h.set.put 1 (.int .i64 c'), h.row.far (p := ⟨ab, 1, none⟩) h.ne.symm _, h.max, h.ok⟩
theorem Ar.stored (h : Ar w ab aw n f c) (k : Nat) {x : Nat} (hx : x < 18446744073709551616) : Ar (w.setCell ⟨aw, k, none⟩ (.int .u64 (x : Int))) ab aw n (upd f k x) c := by
  refine ⟨h.set.far (p := ⟨aw, k, none⟩) h.ne _, ?_, h.max, fun j => ?_⟩
  · have := h.row.put k (.int .u64 (x : Int))
    rw [memV_set] at this
    exact this
  · unfold upd
    split
    · exact hx
    · exact h.ok j
end
theorem Tryz.info_u64a : (Tryz.prog.info? 64).map (fun i => (i.zero, i.size, i.bytes)) = some (some (.int .u64 0), 1, 8) := by kernel_rfl
def ArenaPost (w : World) (n : Nat) (e : Ending) (w' : World) : Prop :=
  ∃ ab aw, e = .returned (.tuple #[.pointer (some ⟨ab, 0, none⟩), .int .i64 0]) ∧ Ar w' ab aw n (fun _ => 0) 0 ∧ Fr [] w w' ∧ w.heap.size ≤ ab ∧ w.heap.size ≤ aw
theorem anew_any (n : Nat) (h : n ≤ 4194304) (w : World) : Calls Tryz.prog 103 #[.int .i64 (n : Int)] w (ArenaPost w n) := by
  obtain ⟨i0, hi, hz0, hz1, hz2⟩ := info_parts Tryz.info_u64a
  go_enter Tryz.func103, Tryz.ntmps103
  go_wp2_with (at_make; refine wpList_make_full _ rfl _ _ 100 rfl w.heap.size 64 i0 (.int .u64 0) 1 Tryz.underlying100 hi hz0 hz1 _ _ _ _ n rfl rfl rfl rfl (by rw [hz2]; omega) (by unfold maxLen; omega) (Nat.le_refl _) ?_; intro w1 hown hgr; have HO := hide hown; have HG := hide hgr; clear hown hgr)
  go_ret2
  have hown := HO.out
  rw [Nat.mul_one, made_one _ rfl] at hown
  have hb := own_full hown
  refine ⟨w1.heap.size, w.heap.size, rfl, ⟨Blk.new _ _ _, ?_, h, fun _ => by decide⟩, ((Fr.refl _ _).grown HG.out (fun _ hk => by cases hk)).alloc _, HG.out.size, Nat.le_refl _⟩
  have : memV n (fun _ => 0) = (List.replicate n (Value.int .u64 0)).toArray := by
    unfold memV
    congr 1
    apply List.ext_getElem <;> simp
  rw [this]; exact hb.alloc _

theorem access_out {w : World} {ab aw n : Nat} {f : Nat → Nat} {c : Int} (h : Ar w ab aw n f c) {i : Int} (hi : ¬ (0 ≤ i ∧ i < (n : Int))) :
    Calls Tryz.prog 139 #[.pointer (some ⟨ab, 0, none⟩), .int .i64 i] w fun e w' => e = .returned (.tuple #[.pointer none, .int .i64 2]) ∧ w = w' := by
  have h0 := h.c0
  clear h
  by_cases c1 : i < 0
  · clear hi
    go_enter Tryz.func139, Tryz.ntmps139
    go_wp2
    go_ret2
    exact ⟨rfl, rfl⟩
  · have c2 : (n : Int) ≤ i := by omega
    clear hi
    go_enter Tryz.func139, Tryz.ntmps139
    go_wp2
    go_ret2
    exact ⟨rfl, rfl⟩
theorem access_in {w : World} {ab aw n : Nat} {f : Nat → Nat} {c : Int} (h : Ar w ab aw n f c) {k : Nat} (hk : k < n) :
    Calls Tryz.prog 139 #[.pointer (some ⟨ab, 0, none⟩), .int .i64 (k : Int)] w fun e w' =>
      e = .returned (.tuple #[.pointer (some ⟨aw, k, none⟩), .int .i64 0]) ∧ w' = w.setCell ⟨ab, 1, none⟩ (.int .i64 (wrap64 (c + 1))) := by
  have h0 := h.c0
  have h1 := h.c1
  have hz := h.set.frozen 1
  have h0' := (h.counted (wrap64 (c + 1))).c0
  have c1 : (k : Int) < (n : Int) := by omega
  clear h
  go_enter Tryz.func139, Tryz.ntmps139
  go_wp2
  go_ret2
  exact ⟨rfl, rfl⟩

/-- What a load of the word at i comes to. -/
def Loaded (n : Nat) (f : Nat → Nat) (c : Int) (i : Int) (v : Nat) (er c' : Int) : Prop :=
  (0 ≤ i ∧ i < (n : Int) ∧ v = f i.toNat ∧ er = 0 ∧ c' = wrap64 (c + 1)) ∨ (¬ (0 ≤ i ∧ i < (n : Int)) ∧ v = 0 ∧ er = 2 ∧ c' = c)
def LoadPost (w : World) (ab aw n : Nat) (f : Nat → Nat) (c i : Int) (e : Ending) (w' : World) : Prop :=
  ∃ (v : Nat) (er c' : Int), e = .returned (.tuple #[.int .u64 (v : Int), .int .i64 er]) ∧ Ar w' ab aw n f c' ∧ Fr [ab] w w' ∧ Loaded n f c i v er c'
/-- What a store of x at i comes to. -/
def Stored (n : Nat) (f : Nat → Nat) (c : Int) (i : Int) (x : Nat) (er : Int) (f' : Nat → Nat) (c' : Int) : Prop :=
  (0 ≤ i ∧ i < (n : Int) ∧ er = 0 ∧ f' = upd f i.toNat x ∧ c' = wrap64 (c + 1)) ∨ (¬ (0 ≤ i ∧ i < (n : Int)) ∧ er = 2 ∧ f' = f ∧ c' = c)
def StorePost (w : World) (ab aw n : Nat) (f : Nat → Nat) (c i : Int) (x : Nat) (e : Ending) (w' : World) : Prop :=
  ∃ (er : Int) (f' : Nat → Nat) (c' : Int), e = .returned (.int .i64 er) ∧ Ar w' ab aw n f' c' ∧ Fr [ab, aw] w w' ∧ Stored n f c i x er f' c'
theorem store_any {w : World} {ab aw n : Nat} {f : Nat → Nat} {c : Int} (h : Ar w ab aw n f c) (i : Int) (x : Nat) (hx : x < 18446744073709551616) :
    Calls Tryz.prog 86 #[.pointer (some ⟨ab, 0, none⟩), .int .i64 i, .int .u64 (x : Int)] w (StorePost w ab aw n f c i x) := by
  by_cases hi : 0 ≤ i ∧ i < (n : Int)
  · obtain ⟨hi0, hi1⟩ := hi
    obtain ⟨k, rfl⟩ := Int.eq_ofNat_of_zero_le hi0
    have hk : k < n := by omega
    have HA := hide (access_in h hk)
    have HC := hide ((h.counted (wrap64 (c + 1))).stored k hx)
    have hw := (h.counted (wrap64 (c + 1))).cw hk
    have hz := (h.counted (wrap64 (c + 1))).row.frozen k
    clear h
    go_enter Tryz.func86, Tryz.ntmps86
    go_wp2_with (go_at_call 139; refine HA.out.mono ?_; rintro e w' ⟨rfl, rfl⟩)
    go_ret
    exact ⟨0, _, _, rfl, HC.out, ((Fr.refl _ _).setCell (p := ⟨ab, 1, none⟩) (.inl (by simp)) _).setCell (p := ⟨aw, k, none⟩) (.inl (by simp)) _, .inl ⟨hi0, hi1, rfl, by rw [Int.toNat_natCast], rfl⟩⟩
  · have HA := hide (access_out h hi)
    have HI := hide hi
    have H := hide h
    clear h hi
    go_enter Tryz.func86, Tryz.ntmps86
    go_wp2_with (go_at_call 139; refine HA.out.mono ?_; rintro e w' ⟨rfl, rfl⟩)
    go_ret
    exact ⟨2, f, c, rfl, H.out, Fr.refl _ _, .inr ⟨HI.out, rfl, rfl, rfl⟩⟩

end Go.Proofs.YthacgiajnafpgaaGreatDoor
/- Arenas: rows of words: Zero and Move. -/
namespace Go.Proofs.YthacgiajnafpgaaGreatDoor
set_option linter.unusedVariables false
set_option maxRecDepth 100000
open Go.RowKit Go.Gl

/-- Is there such a row? -/
def HasRow (n : Nat) (i m : Int) : Prop := 0 ≤ i ∧ 0 ≤ m ∧ i + m ≤ (n : Int)
theorem row_out {w : World} {ab aw n : Nat} {f : Nat → Nat} {c : Int} (h : Ar w ab aw n f c) {i m : Int} (hi1 : i ≤ 9223372036854775807) (hi : ¬ HasRow n i m) :
    Calls Tryz.prog 225 #[.pointer (some ⟨ab, 0, none⟩), .int .i64 i, .int .i64 m] w fun e w' => e = .returned (.tuple #[.slice none 0 0, .int .i64 2]) ∧ w = w' := by
  have h0 := h.c0
  have hmax := h.max
  unfold HasRow at hi
  clear h
  by_cases c1 : i < 0
  · clear hi
    go_enter Tryz.func225, Tryz.ntmps225
    go_wp2
    go_ret2
    exact ⟨rfl, rfl⟩
  · by_cases c2 : m < 0
    · clear hi
      go_enter Tryz.func225, Tryz.ntmps225
      go_wp2
      go_ret2
      exact ⟨rfl, rfl⟩
    · have c3 : (n : Int) - i < m := by omega
      clear hi
      go_enter Tryz.func225, Tryz.ntmps225
      go_wp2
      go_ret2
      exact ⟨rfl, rfl⟩
theorem ret_slice2 {A : Option Addr} {c L m : Nat} {v : Value} (h : L = m) : Ending.returned (.tuple #[.slice A L c, v]) = .returned (.tuple #[.slice A m c, v]) := by rw [h]
def RowPost (w : World) (aw i m : Nat) (e : Ending) (w' : World) : Prop :=
  ∃ A c, e = .returned (.tuple #[.slice A m c, .int .i64 0]) ∧ (0 < m → A = some ⟨aw, i, none⟩) ∧ w = w'
theorem row_in {w : World} {ab aw n : Nat} {f : Nat → Nat} {c : Int} (h : Ar w ab aw n f c) {i m : Nat} (hi : i + m ≤ n) :
    Calls Tryz.prog 225 #[.pointer (some ⟨ab, 0, none⟩), .int .i64 (i : Int), .int .i64 (m : Int)] w (RowPost w aw i m) := by
  have h0 := h.c0
  have hmax := h.max
  clear h
  have c3 : (m : Int) ≤ (n : Int) - (i : Int) := by omega
  by_cases hc : n = i
  · have HC := hide hc
    have HM : Hid (m = 0) := by show m = 0; omega
    go_enter Tryz.func225, Tryz.ntmps225
    go_wp2
    go_ret2
    have := HM.out
    exact ⟨_, _, ret_slice2 (by omega), fun h => by omega, rfl⟩
  · go_enter Tryz.func225, Tryz.ntmps225
    go_wp2
    go_ret2
    exact ⟨_, _, ret_slice2 (by omega), fun _ => rfl, rfl⟩

theorem Tryz.zero_u64 (w : World) : (zeroValue 64).run Tryz.prog w = .ok (.int .u64 0) w := by kernel_rfl
/-- What Zero of m words from i on comes to. -/
def Zeroed (n : Nat) (f : Nat → Nat) (i m : Int) (er : Int) (f' : Nat → Nat) : Prop :=
  (HasRow n i m ∧ er = 0 ∧ f' = updRow f i.toNat m.toNat (fun _ => 0)) ∨ (¬ HasRow n i m ∧ er = 2 ∧ f' = f)
def ZeroPost (w : World) (ab aw n : Nat) (f : Nat → Nat) (c i m : Int) (e : Ending) (w' : World) : Prop :=
  ∃ (er : Int) (f' : Nat → Nat), e = .returned (.int .i64 er) ∧ Ar w' ab aw n f' c ∧ Fr [aw] w w' ∧ Zeroed n f i m er f'
theorem zero_any {w : World} {ab aw n : Nat} {f : Nat → Nat} {c : Int} (h : Ar w ab aw n f c) (i m : Int) (hi1 : i ≤ 9223372036854775807) :
    Calls Tryz.prog 159 #[.pointer (some ⟨ab, 0, none⟩), .int .i64 i, .int .i64 m] w (ZeroPost w ab aw n f c i m) := by
  by_cases hr : HasRow n i m
  · obtain ⟨h1, h2, h3⟩ := hr
    obtain ⟨I, rfl⟩ := Int.eq_ofNat_of_zero_le h1
    obtain ⟨M, rfl⟩ := Int.eq_ofNat_of_zero_le h2
    have hfit : I + M ≤ n := by omega
    have HR := hide (row_in h hfit)
    have H := hide h
    have HE := hide (memV_splice (n := n) (f := f) (off := I) (m := M) (cs := List.replicate M (.int .u64 0)) (g := fun _ => 0) (by simp) hfit (fun j hj => by simp [hj]))
    have HS : Hid ((memV n f).size = n) := memV_size _ _
    clear h
    go_enter Tryz.func159, Tryz.ntmps159
    go_wp2_with fail
    refine HR.out.mono ?_
    rintro e w' ⟨A, cc, rfl, hA, rfl⟩
    have HA := hide hA
    clear hA
    go_wp2_with (with_reducible refine wpList_clear_blk rfl _ 100 rfl 64 Tryz.underlying100 Tryz.zero_u64 rfl rfl A M cc rfl aw I (memV n f) 64 H.out.row HA.out (by rw [HS.out]; exact hfit) ?_)
    intro w2 hb hf
    go_wp2
    go_ret
    refine ⟨0, _, rfl, ⟨H.out.set.fr hf.out (by simpa using H.out.ne), ?_, H.out.max, ?_⟩, hf.out, .inl ⟨⟨h1, h2, h3⟩, rfl, rfl⟩⟩
    · rw [Int.toNat_natCast, Int.toNat_natCast, ← HE.out]; exact hb.out
    · intro j
      unfold updRow
      split
      · show (0 : Nat) < 18446744073709551616
        decide
      · exact H.out.ok j
  · have HR := hide (row_out h hi1 hr)
    have HI := hide hr
    have H := hide h
    clear h hr
    go_enter Tryz.func159, Tryz.ntmps159
    go_wp2_with (go_at_call 225; refine HR.out.mono ?_; rintro e w' ⟨rfl, rfl⟩)
    go_ret
    exact ⟨2, f, rfl, H.out, Fr.refl _ _, .inr ⟨HI.out, rfl, rfl⟩⟩

theorem store_at {w : World} {ab aw n : Nat} {f : Nat → Nat} {c : Int} (h : Ar w ab aw n f c) {i y : Int} {k x : Nat} (hi : i = (k : Int)) (hk : k < n) (hy : y = (x : Int)) (hx : x < 18446744073709551616) :
    Calls Tryz.prog 86 #[.pointer (some ⟨ab, 0, none⟩), .int .i64 i, .int .u64 y] w fun e w' => e = .returned (.int .i64 0) ∧ Ar w' ab aw n (upd f k x) (wrap64 (c + 1)) ∧ Fr [ab, aw] w w' := by
  subst hi hy
  refine (store_any h (k : Int) x hx).mono ?_
  rintro e w' ⟨er, f', c', rfl, ha, hf, ht⟩
  rcases ht with ⟨_, _, rfl, rfl, rfl⟩ | ⟨h1, _⟩
  · exact ⟨rfl, by rw [Int.toNat_natCast] at ha; exact ha, hf⟩
  · exact absurd ⟨by omega, by omega⟩ h1
theorem zero_at {w : World} {ab aw n : Nat} {f : Nat → Nat} {c : Int} (h : Ar w ab aw n f c) {i m : Int} {I M : Nat} (hi : i = (I : Int)) (hm : m = (M : Int)) (h1 : I + M ≤ n) :
    Calls Tryz.prog 159 #[.pointer (some ⟨ab, 0, none⟩), .int .i64 i, .int .i64 m] w fun e w' => e = .returned (.int .i64 0) ∧ Ar w' ab aw n (updRow f I M (fun _ => 0)) c ∧ Fr [aw] w w' := by
  subst hi hm
  have hmax := h.max
  refine (zero_any h (I : Int) (M : Int) (by omega)).mono ?_
  rintro e w' ⟨er, f', rfl, ha, hf, ht⟩
  rcases ht with ⟨_, rfl, rfl⟩ | ⟨h2, _⟩
  · exact ⟨rfl, by simpa using ha, hf⟩
  · exact absurd ⟨by omega, by omega, by omega⟩ h2
end Go.Proofs.YthacgiajnafpgaaGreatDoor
