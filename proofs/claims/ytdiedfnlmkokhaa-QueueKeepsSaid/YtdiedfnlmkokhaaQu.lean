/- Package queue: New, Len, Waiting, Pop; what the lists' numbers are. -/
import Derived.Test.YtdiedfnlmkokhaaCat
namespace Go.Proofs.Ytdiedfnlmkokhaa
set_option linter.unusedVariables false
open Go.RowKit Go.Gl

theorem Try.info_ints : (Try.prog.info? 38).map (fun i => (i.zero, i.size, i.bytes)) = some (some (.slice none 0 0), 1, 24) := by kernel_rfl
def layQ (B : Nat) : Value → Value → Array Value := fun a b => #[a, .int .i64 (B : Int), b]
abbrev Qq (w : World) (q : Nat) (F : List Nat) (n B : Nat) (C : List Int) (O : Nat → List Int) : Prop := Qs 3 38 53 (layQ B) w q F n C O
abbrev Qk (w : World) (q tb n B : Nat) (A : Option Addr) (c : Nat) (C : List Int) (G0 : List Nat) (V : Nat → Value) (G : Nat → List Nat) (O : Nat → List Int) : Prop := Qc 3 38 53 (layQ B) w q tb n A c C G0 V G O
/-- What the lengths are. -/
structure QOk (n B : Nat) (C : List Int) (O : Nat → List Int) : Prop where
  n1 : 1 ≤ n
  n2 : n ≤ 64
  b : B ≤ 65536
  c : C.length ≤ B
  o : ∀ i, i < n → (O i).length ≤ 3
theorem QOk.cat {n B : Nat} {C : List Int} {O : Nat → List Int} (h : QOk n B C O) : (catL O n).length ≤ 192 := by
  have := catL_le h.o
  have := h.n2
  omega
section
variable {w : World} {q tb n B : Nat} {A : Option Addr} {c : Nat} {C : List Int} {G0 : List Nat} {V : Nat → Value} {G : Nat → List Nat} {O : Nat → List Int} {F : List Nat}
theorem Qk.c0 (h : Qk w q tb n B A c C G0 V G O) : w.cell? ⟨q, 0, none⟩ = some (.slice A C.length c) := by rw [h.st.cell]; rfl
theorem Qk.c1 (h : Qk w q tb n B A c C G0 V G O) : w.cell? ⟨q, 1, none⟩ = some (.int .i64 (B : Int)) := by rw [h.st.cell]; rfl
theorem Qk.c2 (h : Qk w q tb n B A c C G0 V G O) : w.cell? ⟨q, 2, none⟩ = some (.slice (some ⟨tb, 0, none⟩) n n) := by rw [h.st.cell]; rfl
theorem Qk.cw (h : Qk w q tb n B A c C G0 V G O) {k : Nat} (hk : k < n) : w.cell? ⟨tb, k, none⟩ = some (V k) := h.ls.cw hk
end

def QNew (n B : Nat) (w : World) (e : Ending) (w' : World) : Prop :=
  ∃ q F, e = .returned (.tuple #[.pointer (some ⟨q, 0, none⟩), .int .i64 0]) ∧ Qq w' q F n B [] (fun _ => []) ∧ Fr [] w w' ∧ ∀ x, x ∈ F → w.heap.size ≤ x
theorem qnew_bad (t b : Int) (h : t < 1 ∨ 64 < t ∨ b < 0 ∨ 65536 < b) (w : World) : Calls Try.prog 7 #[.int .i64 t, .int .i64 b] w fun e w' => e = .returned (.tuple #[.pointer none, .int .i64 2]) ∧ w' = w := by
  have h' : t < 1 ∨ (¬ t < 1 ∧ t > 64) ∨ (¬ t < 1 ∧ ¬ t > 64 ∧ b < 0) ∨ (¬ t < 1 ∧ ¬ t > 64 ∧ ¬ b < 0 ∧ b > 65536) := by omega
  rcases h' with h1 | ⟨h1, h2⟩ | ⟨h1, h2, h3⟩ | ⟨h1, h2, h3, h4⟩
  all_goals
    go_enter Try.func7, Try.ntmps7
    go_wp2
    go_ret2
    exact ⟨rfl, rfl⟩
theorem qnew_ok (n B : Nat) (h1 : 1 ≤ n) (h2 : n ≤ 64) (h3 : B ≤ 65536) (w : World) : Calls Try.prog 7 #[.int .i64 (n : Int), .int .i64 (B : Int)] w (QNew n B w) := by
  obtain ⟨i0, hi, hz0, hz1, hz2⟩ := info_parts Try.info_ints
  have g1 : ¬ ((n : Int) < 1) := by omega
  have g2 : ¬ ((n : Int) > 64) := by omega
  have g3 : ¬ ((B : Int) < 0) := by omega
  have g4 : ¬ ((B : Int) > 65536) := by omega
  go_enter Try.func7, Try.ntmps7
  go_wp2_with (first | (at_make; refine wpList_make_full _ rfl _ _ 45 rfl w.heap.size 38 i0 (.slice none 0 0) 1 Try.underlying45 hi hz0 hz1 _ _ _ _ n rfl rfl rfl rfl (by rw [hz2]; omega) (by unfold maxLen; omega) (Nat.le_refl _) ?_; intro w1 hown hgr; have HO := hide hown; have HG := hide hgr; clear hown hgr))
  go_ret2
  have hown := HO.out
  rw [Nat.mul_one, made_one _ rfl] at hown
  have hb := own_full hown
  have HF : Fr [] w w1 := (Fr.refl [] w).grown HG.out (fun _ hk => by cases hk)
  refine ⟨w1.heap.size, _, rfl, ⟨w.heap.size, none, 0, [], fun _ => .slice none 0 0, fun _ => [], ⟨Blk.new _ _ _, Lr.nil _ _, ⟨?_, fun i hi => ⟨none, 0, rfl, Lr.nil _ _⟩, fun i j _ _ _ g hg => by cases hg⟩, fun i hi g hg => by cases hg⟩, rfl⟩, HF.alloc _, fun x hx => ?_⟩
  · rw [rowF_const]; exact hb.alloc _
  · rcases mem_foot.1 hx with rfl | rfl | hx | ⟨i, _, hx⟩
    · exact HF.size
    · exact Nat.le_refl _
    · cases hx
    · cases hx

theorem qlen_nil (w : World) : Calls Try.prog 16 #[.pointer none] w fun e w' => e = .returned (.int .i64 0) ∧ w = w' := by
  go_enter Try.func16, Try.ntmps16
  go_wp2
  go_ret
  exact ⟨rfl, rfl⟩
theorem qlen_any {w : World} {q : Nat} {F : List Nat} {n B : Nat} {C : List Int} {O : Nat → List Int} (h : Qq w q F n B C O) : Calls Try.prog 16 #[.pointer (some ⟨q, 0, none⟩)] w fun e w' => e = .returned (.int .i64 (C.length : Int)) ∧ w = w' := by
  obtain ⟨tb, A, c, G0, V, G, h, rfl⟩ := h
  have c0 := Qk.c0 h
  clear h
  go_enter Try.func16, Try.ntmps16
  go_wp2
  go_ret
  exact ⟨rfl, rfl⟩
theorem qwaiting_nil (w : World) : Calls Try.prog 17 #[.pointer none] w fun e w' => e = .returned (.int .i64 0) ∧ w = w' := by
  go_enter Try.func17, Try.ntmps17
  go_wp2
  go_ret
  exact ⟨rfl, rfl⟩
theorem qwaiting_any {w : World} {q : Nat} {F : List Nat} {n B : Nat} {C : List Int} {O : Nat → List Int} (h : Qq w q F n B C O) (hk : QOk n B C O) : Calls Try.prog 17 #[.pointer (some ⟨q, 0, none⟩)] w fun e w' => e = .returned (.int .i64 ((C.length + (catL O n).length : Nat) : Int)) ∧ w = w' := by
  obtain ⟨tb, A, c, G0, V, G, h, rfl⟩ := h
  have c0 := Qk.c0 h
  have c2 := Qk.c2 h
  have H := hide h
  have HK := hide hk
  have hn := hk.n2
  clear h hk
  go_enter Try.func17, Try.ntmps17
  go_wp2
  go_loop [3, 18] (fun s i => ∃ j : Nat, i = .int .i64 j ∧ j ≤ n ∧ s = .int .i64 ((C.length + (catL O j).length : Nat) : Int)) (fun _ i => n - (intOf i).toNat)
  case atStart => exact ⟨0, rfl, Nat.zero_le _, rfl⟩
  case round =>
    obtain ⟨j, rfl, hj, rfl⟩ := hrel
    by_cases hlt : j < n
    · have hlt1 : (j : Int) < (n : Int) := by omega
      obtain ⟨Aj, cj, e1, e2⟩ := H.out.ls.own j hlt
      have hc := Qk.cw H.out hlt
      rw [e1] at hc
      have hm := catL_mono (L := O) (show j + 1 ≤ n from hlt)
      have hm2 := HK.out.cat
      have hm3 := HK.out.c
      have hm4 := HK.out.b
      have HE : Hid (C.length + (catL O (j + 1)).length = C.length + (catL O j).length + (O j).length) := by show _ = _; simp [catL]; omega
      have hs0 : C.length + (catL O j).length + (O j).length ≤ 66000 := by rw [← HE.out]; omega
      clear e1 e2
      generalize hS : C.length + (catL O (j + 1)).length = s1 at *
      generalize C.length + (catL O j).length = s0 at *
      generalize (O j).length = l0 at *
      clear hm hm2 hm3 hm4
      have ES := hide hS
      clear hS
      go_wp2
      go_round
      case rel => exact ⟨j + 1, by go_num, by omega, by rw [ES.out, HE.out]; go_num⟩
      case measure => simp [intOf]; omega
    · obtain rfl : n = j := by omega
      go_wp2
      go_ret
      exact ⟨rfl, rfl⟩

theorem qpop_nil (w : World) : Calls Try.prog 9 #[.pointer none] w fun e w' => e = .returned (.tuple #[.int .i64 0, .int .i64 1]) ∧ w' = w := by
  go_enter Try.func9, Try.ntmps9
  go_wp2
  go_ret2
  exact ⟨rfl, rfl⟩
def QPop (w : World) (F : List Nat) (Q : World → List Nat → Prop) (x er : Int) (e : Ending) (w' : World) : Prop :=
  ∃ F', e = .returned (.tuple #[.int .i64 x, .int .i64 er]) ∧ Q w' F' ∧ Fr F w w' ∧ ∀ x, x ∈ F' → x ∈ F ∨ w.heap.size ≤ x
theorem qpop_none {w : World} {q : Nat} {F : List Nat} {n B : Nat} {O : Nat → List Int} (h : Qq w q F n B [] O) : Calls Try.prog 9 #[.pointer (some ⟨q, 0, none⟩)] w (QPop w F (fun w' F' => Qq w' q F' n B [] O) 0 5) := by
  have H := hide h
  obtain ⟨tb, A, c, G0, V, G, h, rfl⟩ := h
  have c0 := Qk.c0 h
  clear h
  go_enter Try.func9, Try.ntmps9
  go_wp2
  go_ret2
  exact ⟨_, rfl, H.out, Fr.refl _ _, fun x hx => .inl hx⟩
theorem qpop_some {w : World} {q : Nat} {F : List Nat} {n B : Nat} {x : Int} {C : List Int} {O : Nat → List Int} (h : Qq w q F n B (x :: C) O) (hk : QOk n B (x :: C) O) : Calls Try.prog 9 #[.pointer (some ⟨q, 0, none⟩)] w (QPop w F (fun w' F' => Qq w' q F' n B C O) x 0) := by
  obtain ⟨tb, A, c, G0, V, G, h, rfl⟩ := h
  have c0 := Qk.c0 h
  have hfz := h.st.frozen 0
  obtain ⟨g, off, rfl, rfl, hg, hx, _, _⟩ := h.com.pos (by simp)
  have hx0 : w.cell? ⟨g, off, none⟩ = some (.int .i64 x) := by have := hx 0 (by simp); simpa [zv] using this
  have hm1 := h.com.le
  have hm2 := h.com.max
  unfold maxLen at hm2
  have HC := hide (h.com.cut 1 (by simp))
  have H := hide h
  have hlen := hk.c
  have hb := hk.b
  rw [List.length_cons] at c0 hm1 hlen
  have hne : ¬ ((C.length : Int) + 1 = 0) := by omega
  clear h hx hk
  by_cases hc : c = 1
  · subst hc
    obtain rfl : C = [] := List.eq_nil_of_length_eq_zero (by omega)
    rw [if_pos rfl, if_pos rfl] at HC
    have HQ : Hid (Qc 3 38 53 (layQ B) (w.setCell ⟨q, 0, none⟩ (.slice (some ⟨g, off, none⟩) 0 0)) q tb n (some ⟨g, off, none⟩) 0 [] [] V G O) :=
      H.out.com_put (by decide) (by decide) (by decide) (ci := 0) (l := []) (fun _ _ _ => rfl) (Fr.refl _ _) HC.out (fun _ h => by cases h)
    have HF := hide (H.out.com_fr (Fr.refl _ _) 0 (.slice (some ⟨g, off, none⟩) 0 0))
    go_enter Try.func9, Try.ntmps9
    go_wp2
    go_ret2
    exact ⟨_, rfl, ⟨_, _, _, _, _, _, HQ.out, rfl⟩, HF.out, Qc.com_foot (fun _ h => by cases h)⟩
  · rw [if_neg hc, if_neg hc] at HC
    have HC' : Lr w 3 (some ⟨g, off + 1, none⟩) C.length (c - 1) [g] (zv C) := by
      have := HC.out
      rw [show Option.map (fun x : Addr => x.add 1) (some ⟨g, off, none⟩) = some ⟨g, off + 1, none⟩ by simp [Go.WideShapes.add_plain]] at this
      simpa [zv] using this
    have HQ : Hid (Qc 3 38 53 (layQ B) (w.setCell ⟨q, 0, none⟩ (.slice (some ⟨g, off + 1, none⟩) C.length (c - 1))) q tb n (some ⟨g, off + 1, none⟩) (c - 1) C [g] V G O) :=
      H.out.com_put (by decide) (by decide) (by decide) (ci := 0) (l := C) (fun _ _ _ => rfl) (Fr.refl _ _) HC' (fun _ h => .inl h)
    have HF := hide (H.out.com_fr (Fr.refl _ _) 0 (.slice (some ⟨g, off + 1, none⟩) C.length (c - 1)))
    clear HC'
    go_enter Try.func9, Try.ntmps9
    go_wp2
    go_ret2
    exact ⟨_, rfl, ⟨_, _, _, _, _, _, HQ.out, rfl⟩, HF.out, Qc.com_foot (fun _ h => .inl h)⟩
end Go.Proofs.Ytdiedfnlmkokhaa
