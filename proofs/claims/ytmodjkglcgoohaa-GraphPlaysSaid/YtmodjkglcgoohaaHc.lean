/- gleanerref13: what an operation asks: the stack's calls, object, size, full. -/
import Derived.Test.YtmodjkglcgoohaaHb
import Derived.Test.YtmodjkglcgoohaaGdo
import Derived.WalkKit
import Derived.BigQuiet
namespace Go.Proofs.Ytmodjkglcgoohaa
set_option linter.unusedVariables false
set_option linter.unusedSimpArgs false
open Go.RowKit Go.Gl

/-- What step leaves, and answers. -/
def MActPost (w : World) (tg : TG) (m T B M : Nat) (σ : GS) (ab : Nat) (th dn : Int) (x : An) (e : Ending) (w' : World) : Prop :=
  e = .returned (.int .i64 x.code) ∧ ∃ tg', MAt w' tg' m T B M σ ∧ Blk w' ab 34 (ansC th dn ⟨0, x.word, x.bit⟩) ∧ (∃ F, Fr F w w' ∧ ∀ x, x ∈ F → x = ab ∨ (tg x).1 ≠ 0) ∧ GTgUp w tg tg'
section
variable {w w' : World} {tg tg' : TG} {F : List Nat} {Λ : ML} {K T B M : Nat} {σ : GS} {t : Nat}
theorem MAt.fr {m : Nat} (h : MAt w tg m T B M σ) (hf : Fr F w w') (hF : ∀ x, x ∈ F → (tg x).1 = 0) : MAt w' tg m T B M σ := by
  obtain ⟨Λ, h1, h2⟩ := h
  exact ⟨Λ, h1.fr hf hF, h2⟩
theorem MAt.fr0 {m : Nat} (h : MAt w tg m T B M σ) (hf : Fr [] w w') : MAt w' tg m T B M σ := h.fr hf (by simp)
theorem MAt.tok {m : Nat} (h : MAt w tg m T B M σ) : GTgOk w tg := by
  obtain ⟨Λ, h1, h2⟩ := h
  exact h1.tok
theorem MG.at (h : MG w tg Λ T T B M σ) : MAt w tg Λ.m T B M σ := ⟨Λ, h, rfl⟩
theorem MActPost.of {w1 w2 w3 : World} {tg2 : TG} {m ab : Nat} {th dn : Int} {x : An} {cs : Array Value} (hf : Fr [] w w1) (hg : GFr w1 tg w2 tg2) (hq : MAt w2 tg2 m T B M σ) (hb : Blk w ab 34 cs) (ha : (tg ab).1 = 0)
    (hf3 : Fr [ab] w2 w3) (hb3 : Blk w3 ab 34 (ansC th dn ⟨0, x.word, x.bit⟩)) : MActPost w tg m T B M σ ab th dn x (.returned (.int .i64 x.code)) w3 := by
  have h2 : (tg2 ab).1 = 0 := by rw [hg.up ab (Nat.lt_of_lt_of_le hb.lt hf.size)]; exact ha
  have hfg := (GFr.fr0 (tg := tg) hf).trans hg
  obtain ⟨F, h4, h5⟩ := hfg.fr
  refine ⟨rfl, tg2, hq.fr hf3 (fun z hz => by simp at hz; rw [hz]; exact h2), hb3, ⟨ab :: F, (h4.mono (fun z hz => .inl (by simp [hz]))).trans hf3 (fun z hz => .inl (by simp at hz; simp [hz])), fun z hz => ?_⟩, hfg.up⟩
  rcases List.mem_cons.1 hz with h6 | h6
  · exact .inl h6
  · exact .inr (h5 z h6)
/-- .. where nothing is put into the answer. -/
theorem MActPost.of0 {w1 w2 w3 : World} {tg2 : TG} {m ab : Nat} {th dn : Int} {c : Int} (hf : Fr [] w w1) (hg : GFr w1 tg w2 tg2) (hq : MAt w2 tg2 m T B M σ) (hb : Blk w ab 34 (ansC th dn ⟨0, 0, false⟩)) (ha : (tg ab).1 = 0) (hf3 : Fr [] w2 w3) :
    MActPost w tg m T B M σ ab th dn ⟨c, 0, false⟩ (.returned (.int .i64 c)) w3 :=
  MActPost.of hf hg hq hb ha (hf3.mono (fun x hx => by cases hx)) ((hg.blk (hb.fr hf (by simp)) ha).fr hf3 (by simp))
def MSt (w : World) (tg : TG) (Λ : ML) (K T B M : Nat) (σ : GS) (v : Value) (e : Ending) (w' : World) : Prop := e = .returned v ∧ ∃ tg', MG w' tg' Λ K T B M σ ∧ GFr w tg w' tg'
theorem mpush_any (h : MG w tg Λ K T B M σ) (ok : GOk T B σ) (hd : GDim T B M) (ht : t < K) (r : Int) :
    Calls Try.prog 42 #[.pointer (some ⟨Λ.S t, 0, none⟩), .int .u64 r] w (MSt w tg Λ K T B M (σ.push B t r) (.int .i64 (hkPushE B (σ.st t)))) := by
  obtain ⟨G, k1, k2⟩ := h.stk t ht
  refine (r12push_any k1 (ok.len t) hd.b r).mono ?_
  rintro e w' ⟨G', rfl, q1, q2, q3⟩
  obtain ⟨tg', r1, r2⟩ := h.stack ht k1 k2 q2 q1 q3
  exact ⟨rfl, tg', r1, r2⟩
theorem mpop_any (h : MG w tg Λ K T B M σ) (ok : GOk T B σ) (hd : GDim T B M) (ht : t < K) :
    Calls Try.prog 45 #[.pointer (some ⟨Λ.S t, 0, none⟩)] w (MSt w tg Λ K T B M (popS σ t) (.tuple #[.int .u64 (hkPopV (σ.st t)), .int .i64 (hkPopE (σ.st t))])) := by
  obtain ⟨G, k1, k2⟩ := h.stk t ht
  refine (r12pop_any k1 (ok.len t) hd.b).mono ?_
  rintro e w' ⟨G', rfl, q1, q2, q3⟩
  obtain ⟨tg', r1, r2⟩ := h.stack ht k1 k2 q2 q1 q3
  exact ⟨rfl, tg', r1, r2⟩
theorem mat_any (h : MG w tg Λ K T B M σ) (ht : t < K) (i : Int) :
    Calls Try.prog 44 #[.pointer (some ⟨Λ.S t, 0, none⟩), .int .i64 i] w fun e w' => e = .returned (.tuple #[.int .u64 (hkAt (σ.st t) i), .int .i64 (hkAtE (σ.st t) i)]) ∧ w = w' := by
  obtain ⟨G, k1, k2⟩ := h.stk t ht
  exact r12at_any k1 i
/-- An object's place. -/
def obP (Λ : ML) (r : Int) : Value := if r = 0 then .pointer none else match Λ.ov.ownBlock with
  | some b => .pointer (some ⟨b, (r - 1).toNat * 2, none⟩)
  | none => .pointer none
theorem obP_0 (Λ : ML) : obP Λ 0 = .pointer none := by simp [obP]
theorem MG.ob (h : MG w tg Λ K T B M σ) {r : Int} (h1 : 1 ≤ r) (h2 : r ≤ (σ.N : Int)) : ∃ (b c k : Nat), r = (k : Int) + 1 ∧ k < σ.N ∧ Λ.ov = .slice (some ⟨b, 0, none⟩) σ.N c ∧ obP Λ r = .pointer (some ⟨b, k * 2, none⟩) ∧ b < w.heap.size ∧
    w.cell? ⟨b, k * 2, none⟩ = some (Λ.rv r) ∧ w.cell? ⟨b, k * 2 + 1, none⟩ = some (Λ.dv r) := by
  obtain ⟨k, hk⟩ : ∃ k : Nat, r - 1 = (k : Int) := Int.eq_ofNat_of_zero_le (by omega)
  have hr : r = (k : Int) + 1 := by omega
  obtain ⟨b, c, e1, e2, _, e3⟩ := h.obj.pos (by omega)
  obtain ⟨e4, e5⟩ := e3 k (by omega)
  rw [← hr] at e4 e5
  refine ⟨b, c, k, hr, by omega, e1, ?_, e2, e4, e5⟩
  unfold obP
  rw [if_neg (by omega), e1]
  show Value.pointer (some ⟨b, (r - 1).toNat * 2, none⟩) = _
  rw [hk, Int.toNat_natCast]
theorem SlAt.sl {e : TypeId} {kd : Nat} {r : Int} {v : Value} {l : List Int} (h : SlAt w tg e kd r v l) : ∃ A c, v = .slice A l.length c ∧ Sl w A l.length (fun k => .int .u64 (l.getD k 0)) := by
  obtain ⟨A, c, G, h1, h2, h3⟩ := h
  exact ⟨A, c, h1, refSl h2⟩
set_option maxRecDepth 100000 in
theorem mobject_any (h : MG w tg Λ K T B M σ) (ok : GOk T B σ) (ht : t < K) (a : Int) :
    Calls Try.prog 43 #[.pointer (some ⟨Λ.m, 0, none⟩), .pointer (some ⟨Λ.S t, 0, none⟩), .int .i64 a] w fun e w' => e = .returned (.tuple #[obP Λ (hkAt (σ.st t) a), .int .i64 (objE σ t a)]) ∧ w = w' := by
  have HA := hide (mat_any h ht a)
  unfold objE
  by_cases hi : hkIn (σ.st t) a
  · have e2 : hkAtE (σ.st t) a = 0 := by unfold hkAtE; rw [if_pos hi]
    rw [if_pos hi]
    rw [e2] at HA
    by_cases e0 : hkAt (σ.st t) a = 0
    · rw [if_pos e0]
      rw [e0] at HA ⊢
      rw [obP_0]
      clear h hi e2 e0
      go_enter Try.func43, Try.ntmps43
      go_wp2_with fail
      refine HA.out.mono ?_
      rintro e w' ⟨rfl, rfl⟩
      go_wp2_with fail
      go_ret2
      exact ⟨rfl, rfl⟩
    · rw [if_neg e0]
      have hat := ok.at t a
      obtain ⟨b, c, k, q1, q2, q3, q4, q5, _, _⟩ := h.ob (r := hkAt (σ.st t) a) (by omega) hat.2
      have c1 := h.c1
      rw [q3] at c1
      rw [q4]
      have hc := ok.cap
      have hk1 : (k : Int) < (σ.N : Int) := by omega
      have hne : ((k : Int) + 1 == 0) = false := by simp; omega
      have hw1 : IntKind.u64.wrap ((k : Int) + 1 - 1) = (k : Int) := by
        rw [show (k : Int) + 1 - 1 = (k : Int) by omega]
        exact IntWalk.u64_in _ ⟨by omega, by omega⟩
      rw [q1] at HA
      clear h hi e2 e0 q1 q3 q4 ok hat
      generalize σ.N = n at *
      go_enter Try.func43, Try.ntmps43
      go_wp2_with fail
      refine HA.out.mono ?_
      rintro e w' ⟨rfl, rfl⟩
      go_wp2_with fail
      go_ret2
      exact ⟨rfl, rfl⟩
  · have e1 : hkAt (σ.st t) a = 0 := by unfold hkAt; rw [if_neg hi]
    have e2 : hkAtE (σ.st t) a = 10 := by unfold hkAtE; rw [if_neg hi]
    rw [if_neg hi]
    rw [e1, e2] at HA
    rw [e1, obP_0]
    clear h hi e1 e2
    go_enter Try.func43, Try.ntmps43
    go_wp2_with fail
    refine HA.out.mono ?_
    rintro e w' ⟨rfl, rfl⟩
    go_wp2_with fail
    go_ret2
    exact ⟨rfl, rfl⟩
set_option maxRecDepth 100000 in
theorem mfull_any (h : MG w tg Λ K T B M σ) (ok : GOk T B σ) (hd : GDim T B M) (ht : t < K) :
    Calls Try.prog 41 #[.pointer (some ⟨Λ.S t, 0, none⟩)] w fun e w' => e = .returned (.bool (decide (¬ (σ.st t).length < B))) ∧ ∃ k, w' = w.drewN k := by
  obtain ⟨G, k1, k2⟩ := h.stk t ht
  obtain ⟨A, c, c1, c0, _⟩ := k1.sl
  clear k1 k2 h
  generalize (σ.st t).length = n at *
  by_cases hn : n < B
  · have h1 : ¬ ((n : Int) ≥ (B : Int)) := by omega
    have h2 : ((n : Int) ≥ (B : Int)) ↔ False := by simpa using h1
    rw [show decide (¬ n < B) = false by simpa using hn]
    go_enter Try.func41, Try.ntmps41
    go_wp2_with fail
    go_quiet (fail)
    go_wp2_with fail
    go_ret
    exact ⟨ret_bool (by simp <;> omega), _, rfl⟩
  · have h1 : (n : Int) ≥ (B : Int) := by omega
    rw [show decide (¬ n < B) = true by simpa using hn]
    go_enter Try.func41, Try.ntmps41
    go_wp2_with fail
    go_quiet (fail)
    go_wp2_with fail
    go_ret
    exact ⟨ret_bool (by simp <;> omega), _, rfl⟩
set_option maxRecDepth 100000 in
theorem msize_any (h : MG w tg Λ K T B M σ) (hd : GDim T B M) (a b : Int) (ha : -9223372036854775808 ≤ a ∧ a ≤ 9223372036854775807) (hb : -9223372036854775808 ≤ b ∧ b ≤ 9223372036854775807) :
    Calls Try.prog 40 #[.pointer (some ⟨Λ.m, 0, none⟩), .int .i64 a, .int .i64 b] w fun e w' => e = .returned (.bool (decide (¬ sizeBad M a b))) ∧ w = w' := by
  have c0 := h.c0
  have hm := hd.m
  clear h
  rcases (show ¬ (a ≥ 0) ∨ (a ≥ 0 ∧ ¬ b ≥ 0) ∨ (a ≥ 0 ∧ b ≥ 0 ∧ ¬ a ≤ 1048576) ∨ (a ≥ 0 ∧ b ≥ 0 ∧ a ≤ 1048576 ∧ ¬ b ≤ 1048576) ∨ (a ≥ 0 ∧ b ≥ 0 ∧ a ≤ 1048576 ∧ b ≤ 1048576 ∧ ¬ (a + b > 0)) ∨ (a ≥ 0 ∧ b ≥ 0 ∧ a ≤ 1048576 ∧ b ≤ 1048576 ∧ a + b > 0) by omega) with h1 | ⟨h1, h2⟩ | ⟨h1, h2, h3⟩ | ⟨h1, h2, h3, h4⟩ | ⟨h1, h2, h3, h4, h5⟩ | ⟨h1, h2, h3, h4, h5⟩
  · rw [show decide (¬ sizeBad M a b) = false by unfold sizeBad; simp; omega]
    go_enter Try.func40, Try.ntmps40
    go_wp2
    go_ret
    exact ⟨rfl, rfl⟩
  · rw [show decide (¬ sizeBad M a b) = false by unfold sizeBad; simp; omega]
    go_enter Try.func40, Try.ntmps40
    go_wp2
    go_ret
    exact ⟨rfl, rfl⟩
  · rw [show decide (¬ sizeBad M a b) = false by unfold sizeBad; simp; omega]
    go_enter Try.func40, Try.ntmps40
    go_wp2
    go_ret
    exact ⟨rfl, rfl⟩
  · rw [show decide (¬ sizeBad M a b) = false by unfold sizeBad; simp; omega]
    go_enter Try.func40, Try.ntmps40
    go_wp2
    go_ret
    exact ⟨rfl, rfl⟩
  · rw [show decide (¬ sizeBad M a b) = false by unfold sizeBad; simp; omega]
    have hw : IntKind.i64.wrap (a + b) = a + b := IntWalk.i64_in _ ⟨by omega, by omega⟩
    go_enter Try.func40, Try.ntmps40
    go_wp2
    go_ret
    exact ⟨rfl, rfl⟩
  · have hw : IntKind.i64.wrap (a + b) = a + b := IntWalk.i64_in _ ⟨by omega, by omega⟩
    have hw1 : IntKind.i64.wrap (1 + a) = 1 + a := IntWalk.i64_in _ ⟨by omega, by omega⟩
    have hw2 : IntKind.i64.wrap (1 + a + b) = 1 + a + b := IntWalk.i64_in _ ⟨by omega, by omega⟩
    by_cases h6 : 1 + a + b ≤ (M : Int)
    · rw [show decide (¬ sizeBad M a b) = true by unfold sizeBad; simp; omega]
      go_enter Try.func40, Try.ntmps40
      go_wp2
      go_ret
      exact ⟨rfl, rfl⟩
    · rw [show decide (¬ sizeBad M a b) = false by unfold sizeBad; simp; omega]
      go_enter Try.func40, Try.ntmps40
      go_wp2
      go_ret
      exact ⟨rfl, rfl⟩
end
end Go.Proofs.Ytmodjkglcgoohaa
