/- gleanerref13.Same; two things side by side, each with its tags; the questions that layer 13's statements ask first. -/
import Derived.Test.YtmodjkglcgoohaaGdo
import Derived.Test.YtmodjkglcgoohaaGe
import Derived.Test.YtmodjkglcgoohaaGw
import Derived.WalkKit
import Derived.BigQuiet
namespace Go.Proofs.Ytmodjkglcgoohaa
set_option linter.unusedVariables false
set_option linter.unusedSimpArgs false
open Go.RowKit Go.Gl

theorem gsame_any {w : World} {A B : Option Addr} {ca cb : Nat} {xs ys : List Int} (hA : Sl w A xs.length (fun k => .int .u64 (xs.getD k 0))) (hB : Sl w B ys.length (fun k => .int .u64 (ys.getD k 0)))
    (hx : xs.length ≤ 9223372036854775807) (hy : ys.length ≤ 9223372036854775807) :
    Calls Try.prog 13 #[.slice A xs.length ca, .slice B ys.length cb] w fun e w' => e = .returned (.bool (decide (xs = ys))) ∧ ∃ k, w' = w.drewN k := by
  by_cases hl : xs.length = ys.length
  · have hl' : ((xs.length : Int) != (ys.length : Int)) = false := by rw [bne_eq_false_iff_eq]; omega
    have HA := hide hA
    have HB := hide hB
    have HL := hide hl
    clear hA hB hl
    go_enter Try.func13, Try.ntmps13
    go_wp2
    go_loopw [5] (fun i wr => ∃ k q : Nat, i = .int .i64 k ∧ k ≤ xs.length ∧ (∀ j, j < k → xs.getD j 0 = ys.getD j 0) ∧ wr = w.drewN q) (fun i _ => xs.length - (intOf i).toNat)
    case atStart => exact ⟨0, 0, rfl, Nat.zero_le _, fun j hj => absurd hj (by omega), rfl⟩
    case round =>
      obtain ⟨k, q, rfl, hk, hs, rfl⟩ := hrel
      have HS := hide hs
      clear hs
      by_cases hlt : k < xs.length
      · have hlt1 : (k : Int) < (xs.length : Int) := by omega
        have hlt2 : (k : Int) < (ys.length : Int) := by have := HL.out; omega
        have hlt3 : k < ys.length := by omega
        obtain ⟨b, off, rfl, _, ha⟩ := HA.out (by omega)
        obtain ⟨b', off', rfl, _, hb⟩ := HB.out (by omega)
        have hca : w.cell? ⟨b, off + k, none⟩ = some (.int .u64 (xs.getD k 0)) := ha k hlt
        have hcb : w.cell? ⟨b', off' + k, none⟩ = some (.int .u64 (ys.getD k 0)) := hb k hlt3
        have HX : Hid (xs ≠ ys ∨ xs.getD k 0 = ys.getD k 0) := by
          by_cases h : xs = ys
          · right; rw [h]
          · exact .inl h
        clear ha hb
        generalize hX : xs.getD k 0 = x at *
        generalize hY : ys.getD k 0 = y at *
        have EX := hide hX
        have EY := hide hY
        clear hX hY
        by_cases he : x = y
        · subst he
          go_wp2_with fail
          go_quiet (fail)
          go_wp2
          go_roundw
          case rel => exact ⟨k + 1, q + nq, by go_num, by omega, fun j hj => by
            rcases Nat.lt_or_ge j k with h | h
            · exact HS.out j h
            · obtain rfl : j = k := by omega
              rw [EX.out, EY.out], rfl⟩
          case measure => simp [intOf]; omega
        · have hne : (x == y) = false := by simpa using he
          have hne' : (x != y) = true := by simpa using he
          go_wp2_with fail
          go_quiet (fail)
          go_wp2
          go_ret
          refine ⟨ret_bool ?_, q + nq, by rw [World.drewN_drewN]⟩
          rcases HX.out with h | h
          · simp [h]
          · exact absurd h he
      · go_wp2_with fail
        go_ret
        refine ⟨ret_bool ?_, _, rfl⟩
        have : xs = ys := by
          apply List.ext_getElem HL.out
          intro i h1 h2
          have := HS.out i (by omega)
          simpa [h1, h2] using this
        simp [this]
  · have hl' : ((xs.length : Int) != (ys.length : Int)) = true := by rw [bne_iff_ne]; omega
    have HE : Hid ((false : Bool) = decide (xs = ys)) := by
      refine Eq.symm ?_
      rw [decide_eq_false_iff_not]
      rintro rfl
      exact hl rfl
    clear hA hB hl
    go_enter Try.func13, Try.ntmps13
    go_wp2
    go_ret
    exact ⟨ret_bool HE.out, 0, rfl⟩
/-- What holds on where nothing that is tagged turns. -/
def Stab (I : World → TG → Prop) : Prop := ∀ w w' tg F, I w tg → Fr F w w' → (∀ x, x ∈ F → (tg x).1 = 0) → I w' tg
theorem stabG (g : Nat) (S : Nat → Nat) (T B M : Nat) (σ : GS) : Stab (fun w tg => GAt w tg g S T B M σ) := fun _ _ _ _ h hf hF => h.fr hf hF
theorem stabT : Stab (fun _ _ => True) := fun _ _ _ _ _ _ _ => trivial
/-- Two things side by side, new since W. -/
structure Pr (I1 I2 : World → TG → Prop) (W w : World) (tg1 tg2 : TG) : Prop where
  fr : Fr [] W w
  one : I1 w tg1
  two : I2 w tg2
  ok1 : GTgOk w tg1
  ok2 : GTgOk w tg2
  apart : ∀ x, (tg1 x).1 = 0 ∨ (tg2 x).1 = 0
  new : ∀ x, (tg1 x).1 ≠ 0 ∨ (tg2 x).1 ≠ 0 → W.heap.size ≤ x
/-- Blocks that are neither's stay, and stay neither's. -/
def Kept (w : World) (tg1 tg2 : TG) (w' : World) (tg1' tg2' : TG) : Prop := ∀ b t cs, Blk w b t cs → (tg1 b).1 = 0 → (tg2 b).1 = 0 → Blk w' b t cs ∧ (tg1' b).1 = 0 ∧ (tg2' b).1 = 0
section
variable {I1 I2 J : World → TG → Prop} {W w w' : World} {tg1 tg2 : TG} {F : List Nat}
theorem Pr.fr0 (h : Pr I1 I2 W w tg1 tg2) (s1 : Stab I1) (s2 : Stab I2) (hf : Fr [] w w') : Pr I1 I2 W w' tg1 tg2 :=
  ⟨h.fr.trans_same hf, s1 _ _ _ _ h.one hf (by simp), s2 _ _ _ _ h.two hf (by simp), tok' h.ok1 hf, tok' h.ok2 hf, h.apart, h.new⟩
/-- Blocks that are new since W and neither's turn. -/
theorem Pr.poke (h : Pr I1 I2 W w tg1 tg2) (s1 : Stab I1) (s2 : Stab I2) (hf : Fr F w w') (hF : ∀ x, x ∈ F → W.heap.size ≤ x ∧ (tg1 x).1 = 0 ∧ (tg2 x).1 = 0) : Pr I1 I2 W w' tg1 tg2 :=
  ⟨h.fr.trans hf (fun x hx => .inr (hF x hx).1), s1 _ _ _ _ h.one hf (fun x hx => (hF x hx).2.1), s2 _ _ _ _ h.two hf (fun x hx => (hF x hx).2.2), tok' h.ok1 hf, tok' h.ok2 hf, h.apart, h.new⟩
theorem Pr.free (h : Pr I1 I2 W w tg1 tg2) {b : Nat} (hb : w.heap.size ≤ b) : (tg1 b).1 = 0 ∧ (tg2 b).1 = 0 := by
  refine ⟨?_, ?_⟩
  · rcases Nat.eq_zero_or_pos (tg1 b).1 with e | e
    · exact e
    · have := h.ok1 b (by omega); omega
  · rcases Nat.eq_zero_or_pos (tg2 b).1 with e | e
    · exact e
    · have := h.ok2 b (by omega); omega
theorem Pr.old (h : Pr I1 I2 W w tg1 tg2) {b : Nat} (hb : b < W.heap.size) : (tg1 b).1 = 0 ∧ (tg2 b).1 = 0 := by
  refine ⟨?_, ?_⟩
  · rcases Nat.eq_zero_or_pos (tg1 b).1 with e | e
    · exact e
    · have := h.new b (.inl (by omega)); omega
  · rcases Nat.eq_zero_or_pos (tg2 b).1 with e | e
    · exact e
    · have := h.new b (.inr (by omega)); omega
theorem Pr.step1 (h : Pr I1 I2 W w tg1 tg2) (s2 : Stab I2) {tg' : TG} (hJ : J w' tg') (hok : GTgOk w' tg') (hg : GFr w tg1 w' tg') : Pr J I2 W w' tg' tg2 ∧ Kept w tg1 tg2 w' tg' tg2 := by
  obtain ⟨F, f1, f2⟩ := hg.fr
  have hF2 : ∀ x, x ∈ F → (tg2 x).1 = 0 := fun x hx => (h.apart x).resolve_left (f2 x hx)
  refine ⟨⟨h.fr.trans f1 (fun x hx => .inr (h.new x (.inl (f2 x hx)))), hJ, s2 _ _ _ _ h.two f1 hF2, hok, tok' h.ok2 f1, fun x => ?_, fun x hx => ?_⟩, fun b t cs hb h1 h2 => ⟨hb.fr f1 (fun hx => f2 b hx h1), by rw [hg.up b hb.lt]; exact h1, h2⟩⟩
  · rcases Nat.lt_or_ge x w.heap.size with hx | hx
    · rw [hg.up x hx]; exact h.apart x
    · exact .inr (h.free hx).2
  · rcases hx with hx | hx
    · rcases Nat.lt_or_ge x w.heap.size with h3 | h3
      · rw [hg.up x h3] at hx; exact h.new x (.inl hx)
      · exact Nat.le_trans h.fr.size h3
    · exact h.new x (.inr hx)
theorem Pr.step2 (h : Pr I1 I2 W w tg1 tg2) (s1 : Stab I1) {tg' : TG} (hJ : J w' tg') (hok : GTgOk w' tg') (hg : GFr w tg2 w' tg') : Pr I1 J W w' tg1 tg' ∧ Kept w tg1 tg2 w' tg1 tg' := by
  obtain ⟨F, f1, f2⟩ := hg.fr
  have hF1 : ∀ x, x ∈ F → (tg1 x).1 = 0 := fun x hx => (h.apart x).resolve_right (f2 x hx)
  refine ⟨⟨h.fr.trans f1 (fun x hx => .inr (h.new x (.inr (f2 x hx)))), s1 _ _ _ _ h.one f1 hF1, hJ, tok' h.ok1 f1, hok, fun x => ?_, fun x hx => ?_⟩, fun b t cs hb h1 h2 => ⟨hb.fr f1 (fun hx => f2 b hx h2), h1, by rw [hg.up b hb.lt]; exact h2⟩⟩
  · rcases Nat.lt_or_ge x w.heap.size with hx | hx
    · rw [hg.up x hx]; exact h.apart x
    · exact .inl (h.free hx).1
  · rcases hx with hx | hx
    · exact h.new x (.inl hx)
    · rcases Nat.lt_or_ge x w.heap.size with h3 | h3
      · rw [hg.up x h3] at hx; exact h.new x (.inr hx)
      · exact Nat.le_trans h.fr.size h3
theorem Kept.fr0 (w : World) (tg1 tg2 : TG) {w' : World} (hf : Fr [] w w') : Kept w tg1 tg2 w' tg1 tg2 := fun b t cs hb h1 h2 => ⟨hb.fr hf (by simp), h1, h2⟩
end
/-- A graph's numbers, and how much it may do yet. -/
structure GGo (T B M k : Nat) (σ : GS) : Prop where
  ok : GOk T B σ
  dim : GDim T B M
  n : σ.N + k ≤ 4000
  done : ∀ t, σ.done t + k ≤ 4000
theorem GGo.do {T B M k : Nat} {σ : GS} (h : GGo T B M (k + 1) σ) (th : Int) (o : Po) : GGo T B M k (doS B M T σ th o) := by
  refine ⟨h.ok.do ⟨h.dim.m, by have := h.n; omega⟩ th o, h.dim, ?_, fun t => ?_⟩
  · have := do_N B M T σ th o
    have := h.n
    omega
  · have := do_done B M T σ th o (4000 - (k + 1)) (fun t => by have := h.done t; omega) t
    have := h.done 0
    omega
theorem GGo.zero {T B M k : Nat} (hd : GDim T B M) (hk : k ≤ 4000) : GGo T B M k G0 := ⟨GOk.zero _ _, hd, by simp [G0]; omega, fun t => by simp [G0]; omega⟩
section
variable {I1 I2 : World → TG → Prop} {W w : World} {tg1 tg2 : TG} {g : Nat} {S : Nat → Nat} {T B M k : Nat} {σ : GS}
/-- Do, of the first of two. -/
theorem Pr.do1 (h : Pr (fun w tg => GAt w tg g S T B M σ) I2 W w tg1 tg2) (s2 : Stab I2) (hg : GGo T B M (k + 1) σ) (th : Int) (o : Po) (ho : PoOk o) :
    Calls Try.prog 11 #[.pointer (some ⟨g, 0, none⟩), .int .i64 th, opV o] w fun e w' => e = .returned (doV B M T σ th o) ∧ ∃ tg1', Pr (fun w tg => GAt w tg g S T B M (doS B M T σ th o)) I2 W w' tg1' tg2 ∧ Kept w tg1 tg2 w' tg1' tg2 := by
  obtain ⟨Λ, h1, rfl, rfl⟩ := h.one
  refine (gdo_any h1 hg.ok hg.dim (by have := hg.n; omega) (fun t => by have := hg.done t; omega) th o ho).mono ?_
  rintro e w' ⟨rfl, tg', k1, k2⟩
  exact ⟨rfl, tg', h.step1 s2 k1 k1.tok k2⟩
theorem Pr.do2 (h : Pr I1 (fun w tg => GAt w tg g S T B M σ) W w tg1 tg2) (s1 : Stab I1) (hg : GGo T B M (k + 1) σ) (th : Int) (o : Po) (ho : PoOk o) :
    Calls Try.prog 11 #[.pointer (some ⟨g, 0, none⟩), .int .i64 th, opV o] w fun e w' => e = .returned (doV B M T σ th o) ∧ ∃ tg2', Pr I1 (fun w tg => GAt w tg g S T B M (doS B M T σ th o)) W w' tg1 tg2' ∧ Kept w tg1 tg2 w' tg1 tg2' := by
  obtain ⟨Λ, h1, rfl, rfl⟩ := h.two
  refine (gdo_any h1 hg.ok hg.dim (by have := hg.n; omega) (fun t => by have := hg.done t; omega) th o ho).mono ?_
  rintro e w' ⟨rfl, tg', k1, k2⟩
  exact ⟨rfl, tg', h.step2 s1 k1 k1.tok k2⟩
theorem Pr.shape1 (h : Pr (fun w tg => GAt w tg g S T B M σ) I2 W w tg1 tg2) (hg : GGo T B M k σ) : Calls Try.prog 14 #[.pointer (some ⟨g, 0, none⟩)] w (ShapePost w (shape σ T)) := by
  obtain ⟨Λ, h1, rfl, rfl⟩ := h.one
  exact gshape_any h1 hg.ok hg.dim (by have := hg.n; omega)
theorem Pr.words1 (h : Pr (fun w tg => GAt w tg g S T B M σ) I2 W w tg1 tg2) (hg : GGo T B M k σ) : Calls Try.prog 16 #[.pointer (some ⟨g, 0, none⟩)] w fun e w' => e = .returned (.int .i64 (words σ T : Int)) ∧ Fr [] w w' := by
  obtain ⟨Λ, h1, rfl, rfl⟩ := h.one
  exact gwords_any h1 hg.ok hg.dim (by have := hg.n; omega)
theorem Pr.new1 (hW : Fr [] W w) {tg : TG} (h : GAt w tg g S T B M σ) (hn : ∀ b, (tg b).1 ≠ 0 → W.heap.size ≤ b) : Pr (fun w tg => GAt w tg g S T B M σ) (fun _ _ => True) W w tg (fun _ => (0, 0)) :=
  ⟨hW, h, trivial, h.tok, fun b hb => absurd rfl hb, fun x => .inr rfl, fun x hx => hx.elim (hn x) (fun h => absurd rfl h)⟩
end
end Go.Proofs.Ytmodjkglcgoohaa
