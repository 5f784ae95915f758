/- Package graph: each operation by itself. -/
import Derived.Test.YtmodjkglcgoohaaGb
import Derived.WalkKit
import Derived.BigQuiet
namespace Go.Proofs.Ytmodjkglcgoohaa
set_option linter.unusedVariables false
set_option linter.unusedSimpArgs false
open Go.RowKit Go.Gl

/-- A graph at g, with its stacks at S, at rest. -/
def GAt (w : World) (tg : TG) (g : Nat) (S : Nat → Nat) (T B M : Nat) (σ : GS) : Prop := ∃ Λ, PGm w tg Λ T B M (σ.N : Int) σ ∧ Λ.g = g ∧ Λ.S = S
def GL.ins (Λ : GL) (r : Int) (o a b : Nat) : GL := { Λ with ob := setF Λ.ob r o, rb := setF Λ.rb r a, db := setF Λ.db r b }
section
variable {w w' : World} {tg tg' : TG} {F : List Nat} {Λ : GL} {T B M : Nat} {nn : Int} {σ : GS} {t : Nat}
theorem PGm.at (h : PGm w tg Λ T B M (σ.N : Int) σ) : GAt w tg Λ.g Λ.S T B M σ := ⟨Λ, h, rfl, rfl⟩
theorem PGm.le (ok : GOk T B σ) {r : Int} (hr : hdOf σ T r) : r ≤ (σ.N : Int) := by
  obtain ⟨t, _, hm⟩ := mem_cnt hr.2
  exact (ok.mem t r hm).2
def newW (w : World) (N : Int) (a b : Nat) : World :=
  ((w.alloc (.map #[] 0)).alloc (.map #[] 0)).alloc (.cells #[.int .u64 (N + 1), .int .i64 0, .int .i64 (a : Int), .int .i64 (b : Int), .map (some w.heap.size), .map (some (w.heap.size + 1))] 90)
theorem newW_fr (w : World) (N : Int) (a b : Nat) : Fr [] w (newW w N a b) := (((Fr.refl _ _).alloc _).alloc _).alloc _
theorem newW_size (w : World) (N : Int) (a b : Nat) : (newW w N a b).heap.size = w.heap.size + 3 := by unfold newW; simp
theorem PGm.new (h : PGm w tg Λ T B M nn σ) (ok : GOk T B σ) (a b : Nat) :
    ∃ tg1, PGm (newW w (σ.N : Int) a b) tg1 (Λ.ins ((σ.N : Int) + 1) (w.heap.size + 2) w.heap.size (w.heap.size + 1)) T B M nn (σ.new (a : Int) (b : Int)) ∧ GFr w tg (newW w (σ.N : Int) a b) tg1 := by
  have hf := newW_fr w (σ.N : Int) a b
  have hsz := newW_size w (σ.N : Int) a b
  obtain ⟨tg1, htg⟩ : ∃ tg1 : TG, tg1 = setF (setF (setF tg w.heap.size (5, (σ.N : Int) + 1)) (w.heap.size + 1) (6, (σ.N : Int) + 1)) (w.heap.size + 2) (4, (σ.N : Int) + 1) := ⟨_, rfl⟩
  have t5 : tg1 w.heap.size = (5, (σ.N : Int) + 1) := by rw [htg, setF_ne _ _ (by omega), setF_ne _ _ (by omega), setF_at]
  have t6 : tg1 (w.heap.size + 1) = (6, (σ.N : Int) + 1) := by rw [htg, setF_ne _ _ (by omega), setF_at]
  have t4 : tg1 (w.heap.size + 2) = (4, (σ.N : Int) + 1) := by rw [htg, setF_at]
  have tn : ∀ x, x ≠ w.heap.size → x ≠ w.heap.size + 1 → x ≠ w.heap.size + 2 → tg1 x = tg x := fun x h1 h2 h3 => by rw [htg, setF_ne _ _ h3, setF_ne _ _ h2, setF_ne _ _ h1]
  have hu : GTgUp w tg tg1 := fun x hx => tn x (by omega) (by omega) (by omega)
  have hok : GTgOk (newW w (σ.N : Int) a b) tg1 := fun x hx => by
    rw [hsz]
    by_cases e : x < w.heap.size + 3
    · exact e
    · rw [tn x (by omega) (by omega) (by omega)] at hx
      have := h.tok x hx
      omega
  have hno : ∀ k, ∀ x, x ∈ ([] : List Nat) → (tg x).1 ≠ k := fun k x hx => by cases hx
  have hpt : ∀ r, r ≤ (σ.N : Int) → ptrV (setF Λ.ob ((σ.N : Int) + 1) (w.heap.size + 2)) r = ptrV Λ.ob r := fun r hr => by
    unfold ptrV
    rw [setF_ne _ _ (by omega)]
  obtain ⟨a1, a2, a3⟩ := h.tags hu
  have hc0 : cnt σ.st T ((σ.N : Int) + 1) = 0 := by
    rcases Nat.eq_zero_or_pos (cnt σ.st T ((σ.N : Int) + 1)) with e | e
    · exact e
    · obtain ⟨t, _, hm⟩ := mem_cnt e
      have := ok.mem t _ hm
      omega
  refine ⟨tg1, ⟨h.st' hf (hno 1), a1, h.row' hf (hno 2), a2, ?_, a3, fun i hi => h.stk' hf hi (fun x hx => by cases hx) hu, fun r h1 h2 => ?_, hok⟩, ⟨⟨[], hf, fun x hx => by cases hx⟩, hu⟩⟩
  · obtain ⟨f, f1, f2, f3, f4⟩ := h.held' hf (hno 7)
    exact ⟨f, f1, fun r hr => (f2 r hr).trans (congrArg some (hpt r (PGm.le ok hr)).symm), f3, f4⟩
  · have h2 : r ≤ ((σ.N + 1 : Nat) : Int) := h2
    show ObAt _ tg1 (setF Λ.ob ((σ.N : Int) + 1) (w.heap.size + 2)) (setF Λ.rb ((σ.N : Int) + 1) w.heap.size) (setF Λ.db ((σ.N : Int) + 1) (w.heap.size + 1)) (cnt σ.st T r) (setF σ.np ((σ.N : Int) + 1) (a : Int).toNat r) (setF σ.nw ((σ.N : Int) + 1) (b : Int).toNat r) (setF σ.ref ((σ.N : Int) + 1) (fun _ => 0) r) (setF σ.dat ((σ.N : Int) + 1) (fun _ => 0) r) r
    by_cases e : r = (σ.N : Int) + 1
    · subst e
      rw [setF_at, setF_at, setF_at, setF_at, hc0]
      have m1 : Mp Try.prog 3 (newW w (σ.N : Int) a b) w.heap.size (fun _ => none) := ((Mp.made w).fr0 ((Fr.refl _ _).alloc _)).fr0 ((Fr.refl _ _).alloc _)
      have m2 : Mp Try.prog 3 (newW w (σ.N : Int) a b) (w.heap.size + 1) (fun _ => none) := by
        have m := Mp.made (P := Try.prog) (k := 3) (w.alloc (.map #[] 0))
        rw [show (w.alloc (.map #[] 0)).heap.size = w.heap.size + 1 by simp] at m
        exact m.fr0 ((Fr.refl _ _).alloc _)
      refine ⟨?_, by rw [setF_at]; exact t4, by rw [setF_at]; exact t5, by rw [setF_at]; exact t6, ⟨_, by rw [setF_at]; exact m1, fun j => rfl, fun x v hx => by cases hx⟩, ⟨_, by rw [setF_at]; exact m2, fun j => rfl⟩⟩
      rw [setF_at, setF_at, setF_at]
      exact Blk.new_at _ _ (by simp)
    · have hr : r ≤ (σ.N : Int) := by omega
      rw [setF_ne _ _ e, setF_ne _ _ e, setF_ne _ _ e, setF_ne _ _ e]
      have ho := (h.obs r h1 hr).fr hf (fun x hx => by cases hx) hu
      obtain ⟨f, f1, f2, f3⟩ := ho.refs
      obtain ⟨d, d1, d2⟩ := ho.data
      refine ⟨?_, by rw [setF_ne _ _ e]; exact ho.t1, by rw [setF_ne _ _ e]; exact ho.t2, by rw [setF_ne _ _ e]; exact ho.t3, ⟨f, by rw [setF_ne _ _ e]; exact f1, fun j => (f2 j).trans (hpt _ (ok.ref r j).2).symm, f3⟩, ⟨d, by rw [setF_ne _ _ e]; exact d1, d2⟩⟩
      rw [setF_ne _ _ e, setF_ne _ _ e, setF_ne _ _ e]
      exact ho.st
theorem PGm.drop {a b : Int} (h : PGm w tg Λ T B M nn (σ.new a b)) : PGm w tg Λ T B M nn σ := by
  refine ⟨h.st, h.t1, h.row, h.t2, h.held, h.t3, h.stk, fun r h1 h2 => ?_, h.tok⟩
  have ho := h.obs r h1 (show r ≤ ((σ.N + 1 : Nat) : Int) by omega)
  have hne : r ≠ (σ.N : Int) + 1 := by omega
  have ho : ObAt w tg Λ.ob Λ.rb Λ.db (cnt σ.st T r) (setF σ.np ((σ.N : Int) + 1) a.toNat r) (setF σ.nw ((σ.N : Int) + 1) b.toNat r) (setF σ.ref ((σ.N : Int) + 1) (fun _ => 0) r) (setF σ.dat ((σ.N : Int) + 1) (fun _ => 0) r) r := ho
  rw [setF_ne _ _ hne, setF_ne _ _ hne, setF_ne _ _ hne, setF_ne _ _ hne] at ho
  exact ho
theorem PGm.refLook (h : PGm w tg Λ T B M nn σ) {r : Int} (h1 : 1 ≤ r) (h2 : r ≤ (σ.N : Int)) {b : Int} (hb : 0 ≤ b ∧ b ≤ 1048576) : (Instr.lookup 87 (.map (some (Λ.rb r))) (.int .i64 b) false).run Try.prog w = .ok (ptrV Λ.ob (σ.ref r b)) w := by
  obtain ⟨f, f1, f2, _⟩ := (h.obs r h1 h2).refs
  rw [f1.look Try.intLaw Try.underlying87 (zeroPO w) (intKey b (wf_i64_of ⟨by omega, by omega⟩)), f2 b]
theorem PGm.datLook (h : PGm w tg Λ T B M nn σ) {r : Int} (h1 : 1 ≤ r) (h2 : r ≤ (σ.N : Int)) {b : Int} (hb : 0 ≤ b ∧ b ≤ 1048576) : (Instr.lookup 88 (.map (some (Λ.db r))) (.int .i64 b) false).run Try.prog w = .ok (.int .u64 (σ.dat r b)) w := by
  obtain ⟨f, f1, f2⟩ := (h.obs r h1 h2).data
  rw [f1.look Try.intLaw Try.underlying88 (zeroU w) (intKey b (wf_i64_of ⟨by omega, by omega⟩)), f2 b]
theorem objE_bad {σ : GS} {t : Nat} {a : Int} (h : objE σ t a ≠ 0) : hkAt (σ.st t) a = 0 := by
  by_cases hi : hkIn (σ.st t) a
  · by_cases e : hkAt (σ.st t) a = 0
    · exact e
    · exact absurd (objE_0.2 ⟨hi, e⟩) h
  · unfold hkAt; rw [if_neg hi]
theorem fieldIn_ways (n : Nat) (b : Int) : (b < 0 ∧ ¬ fieldIn n b) ∨ (0 ≤ b ∧ (n : Int) ≤ b ∧ ¬ fieldIn n b) ∨ (0 ≤ b ∧ b < (n : Int) ∧ fieldIn n b) := by unfold fieldIn; omega

set_option maxRecDepth 100000 in
set_option maxHeartbeats 1600000 in
theorem galloc_any (h : PGm w tg Λ T B M (σ.N : Int) σ) (ok : GOk T B σ) (hd : GDim T B M) (hN : σ.N + 1 ≤ 4096) (ht : t < T) (a b : Int) (ha : -9223372036854775808 ≤ a ∧ a ≤ 9223372036854775807) (hb : -9223372036854775808 ≤ b ∧ b ≤ 9223372036854775807) :
    Calls Try.prog 28 #[.pointer (some ⟨Λ.g, 0, none⟩), .pointer (some ⟨Λ.S t, 0, none⟩), .int .i64 a, .int .i64 b] w (GPost w tg (fun w' tg' => GAt w' tg' Λ.g Λ.S T B M (allocS B M σ t a b)) (.int .i64 (allocE B M σ t a b))) := by
  have c1 := h.c1
  have hM1 := hd.m1
  have hM2 := hd.m
  by_cases hs : sizeBad M a b
  · have e1 : allocE B M σ t a b = 13 := by unfold allocE; rw [if_pos hs]
    have e2 : allocS B M σ t a b = σ := by unfold allocS; rw [if_pos hs]
    rw [e1, e2]
    have HH := hide (GFr.refl w tg)
    have HQ := hide h.at
    unfold sizeBad at hs
    clear h e1 e2 ok hN ht hd
    rcases (show a < 0 ∨ (¬ a < 0 ∧ b < 0) ∨ (¬ a < 0 ∧ ¬ b < 0 ∧ b ≥ (M : Int) - a) ∨ (¬ a < 0 ∧ ¬ b < 0 ∧ ¬ b ≥ (M : Int) - a ∧ a + b = 0) by omega) with k1 | ⟨k1, k2⟩ | ⟨k1, k2, k3⟩ | ⟨k1, k2, k3, k4⟩
    · go_enter Try.func28, Try.ntmps28
      go_wp2
      go_ret
      exact ⟨rfl, tg, HQ.out, HH.out⟩
    · go_enter Try.func28, Try.ntmps28
      go_wp2
      go_ret
      exact ⟨rfl, tg, HQ.out, HH.out⟩
    · have hw : IntKind.i64.wrap ((M : Int) - a) = (M : Int) - a := IntWalk.i64_in _ ⟨by omega, by omega⟩
      go_enter Try.func28, Try.ntmps28
      go_wp2
      go_ret
      exact ⟨rfl, tg, HQ.out, HH.out⟩
    · have hw : IntKind.i64.wrap ((M : Int) - a) = (M : Int) - a := IntWalk.i64_in _ ⟨by omega, by omega⟩
      have hw2 : IntKind.i64.wrap (a + b) = 0 := by rw [k4]; rfl
      obtain rfl : a = 0 := by omega
      obtain rfl : b = 0 := by omega
      go_enter Try.func28, Try.ntmps28
      go_wp2
      go_ret
      exact ⟨rfl, tg, HQ.out, HH.out⟩
  · obtain ⟨k1, k2, k3, k4⟩ := sizeBad_not hs
    obtain ⟨x, rfl⟩ := Int.eq_ofNat_of_zero_le k1
    obtain ⟨y, rfl⟩ := Int.eq_ofNat_of_zero_le k2
    have g1 : ¬ ((x : Int) < 0) := by omega
    have g2 : ¬ ((y : Int) < 0) := by omega
    have g3 : ¬ ((y : Int) ≥ (M : Int) - (x : Int)) := by omega
    have g4 : ¬ ((x : Int) + (y : Int) = 0) := by omega
    have hw : IntKind.i64.wrap ((M : Int) - (x : Int)) = (M : Int) - (x : Int) := IntWalk.i64_in _ ⟨by omega, by omega⟩
    have hw2 : IntKind.i64.wrap ((x : Int) + (y : Int)) = (x : Int) + (y : Int) := IntWalk.i64_in _ ⟨by omega, by omega⟩
    have hcap := ok.cap
    have hw3 : IntKind.u64.wrap ((σ.N : Int) + 1) = (σ.N : Int) + 1 := IntWalk.u64_in _ ⟨by omega, by omega⟩
    have c3 := h.c3
    obtain ⟨tg1, hp1, hg1⟩ := h.new ok x y
    have ok1 : GOk T B (σ.new (x : Int) (y : Int)) := ok.new (by omega) (by omega) hN
    have HP := hide (gpush_any hp1 ok1 hd ht (r := (σ.N : Int) + 1) (by omega) (by show (σ.N : Int) + 1 ≤ ((σ.N + 1 : Nat) : Int); omega))
    have hmm := @run_makeMap Try.prog
    have e0 : (σ.N : Int) + 1 ≠ 0 := by omega
    rw [ptrV_pos _ e0] at HP
    rw [show (Λ.ins ((σ.N : Int) + 1) (w.heap.size + 2) w.heap.size (w.heap.size + 1)).ob ((σ.N : Int) + 1) = w.heap.size + 2 from setF_at _ _ _] at HP
    have HG1 := hide hg1
    by_cases hl : (σ.st t).length < B
    · have e1 : allocE B M σ t (x : Int) (y : Int) = 0 := by unfold allocE hkPushE; rw [if_neg hs, if_pos hl]
      have e2 : allocS B M σ t (x : Int) (y : Int) = (σ.new (x : Int) (y : Int)).push B t ((σ.N : Int) + 1) := by unfold allocS; rw [if_neg hs, if_pos hl]
      rw [e1, e2]
      have HP2 : Hid (Calls Try.prog 33 #[.pointer (some ⟨Λ.g, 0, none⟩), .pointer (some ⟨Λ.S t, 0, none⟩), .pointer (some ⟨w.heap.size + 2, 0, none⟩)] (newW w (σ.N : Int) x y) (GPost (newW w (σ.N : Int) x y) tg1 (fun w' tg' => PGm w' tg' (Λ.ins ((σ.N : Int) + 1) (w.heap.size + 2) w.heap.size (w.heap.size + 1)) T B M (σ.N : Int) ((σ.new (x : Int) (y : Int)).push B t ((σ.N : Int) + 1))) (.int .i64 0))) := by
        have := HP.out
        rwa [show hkPushE B ((σ.new (x : Int) (y : Int)).st t) = 0 from if_pos hl] at this
      have HX : Hid (∀ w2 tg2, PGm w2 tg2 (Λ.ins ((σ.N : Int) + 1) (w.heap.size + 2) w.heap.size (w.heap.size + 1)) T B M (σ.N : Int) ((σ.new (x : Int) (y : Int)).push B t ((σ.N : Int) + 1)) →
          w2.cell? ⟨w.heap.size + 2, 0, none⟩ = some (.int .u64 ((σ.N : Int) + 1)) ∧ w2.frozen? ⟨Λ.g, 3, none⟩ = false ∧ w2.cell? ⟨Λ.g, 3, none⟩ = some (.int .u64 (σ.N : Int)) ∧
          GAt (w2.setCell ⟨Λ.g, 3, none⟩ (.int .u64 ((σ.N : Int) + 1))) tg2 Λ.g Λ.S T B M ((σ.new (x : Int) (y : Int)).push B t ((σ.N : Int) + 1)) ∧ GFr w2 tg2 (w2.setCell ⟨Λ.g, 3, none⟩ (.int .u64 ((σ.N : Int) + 1))) tg2) := fun w2 tg2 hp => by
        have ho := hp.obs ((σ.N : Int) + 1) (by omega) (by show (σ.N : Int) + 1 ≤ ((σ.N + 1 : Nat) : Int); omega)
        have hob : (Λ.ins ((σ.N : Int) + 1) (w.heap.size + 2) w.heap.size (w.heap.size + 1)).ob ((σ.N : Int) + 1) = w.heap.size + 2 := setF_at _ _ _
        have hst := ho.st
        rw [hob] at hst
        refine ⟨by rw [hst.cell]; rfl, hp.st.frozen 3, hp.c3, ⟨Λ.ins ((σ.N : Int) + 1) (w.heap.size + 2) w.heap.size (w.heap.size + 1), ?_, rfl, rfl⟩, GFr.of (F := [Λ.g]) ((Fr.refl _ _).setCell (p := ⟨Λ.g, 3, none⟩) (.inl (by simp)) _) (fun z hz => by simp at hz; rw [hz, show tg2 Λ.g = (1, 0) from hp.t1]; simp)⟩
        exact hp.newest ((σ.N : Int) + 1)
      unfold newW at HP2 HG1
      clear h hp1 hg1 ok1 ok hN hs k1 k2 k3 k4 e1 e2 hcap HP e0 hl hM1 hM2 hd ht
      go_enter Try.func28, Try.ntmps28
      go_wp2_with fail
      refine HP2.out.mono ?_
      rintro e w2 ⟨rfl, tg2, hp, hg⟩
      obtain ⟨d0, dz, d3, hq, hg3⟩ := HX.out w2 tg2 hp
      have HQ := hide hq
      have HG := hide ((HG1.out.trans hg).trans hg3)
      clear hp hg hq hg3
      go_wp2_with fail
      go_ret
      exact ⟨rfl, tg2, HQ.out, HG.out⟩
    · have e1 : allocE B M σ t (x : Int) (y : Int) = 15 := by unfold allocE hkPushE; rw [if_neg hs, if_neg hl]
      have e2 : allocS B M σ t (x : Int) (y : Int) = σ := by unfold allocS; rw [if_neg hs, if_neg hl]
      rw [e1, e2]
      have hpf : (σ.new (x : Int) (y : Int)).push B t ((σ.N : Int) + 1) = σ.new (x : Int) (y : Int) := push_full (σ := σ.new (x : Int) (y : Int)) hl
      have HP2 : Hid (Calls Try.prog 33 #[.pointer (some ⟨Λ.g, 0, none⟩), .pointer (some ⟨Λ.S t, 0, none⟩), .pointer (some ⟨w.heap.size + 2, 0, none⟩)] (newW w (σ.N : Int) x y) (GPost (newW w (σ.N : Int) x y) tg1 (fun w' tg' => PGm w' tg' (Λ.ins ((σ.N : Int) + 1) (w.heap.size + 2) w.heap.size (w.heap.size + 1)) T B M (σ.N : Int) (σ.new (x : Int) (y : Int))) (.int .i64 15))) := by
        have := HP.out
        rwa [show hkPushE B ((σ.new (x : Int) (y : Int)).st t) = 15 from if_neg hl, hpf] at this
      unfold newW at HP2 HG1
      clear h hp1 hg1 ok1 ok hN hs k1 k2 k3 k4 e1 e2 hcap HP e0 hl hpf hM1 hM2 hd ht
      go_enter Try.func28, Try.ntmps28
      go_wp2_with fail
      refine HP2.out.mono ?_
      rintro e w2 ⟨rfl, tg2, hp, hg⟩
      have HQ : Hid (GAt w2 tg2 Λ.g Λ.S T B M σ) := ⟨_, PGm.drop hp, rfl, rfl⟩
      have HG := hide (HG1.out.trans hg)
      clear hp hg
      go_wp2_with fail
      go_ret
      exact ⟨rfl, tg2, HQ.out, HG.out⟩
set_option maxRecDepth 100000 in
theorem gload_any (h : PGm w tg Λ T B M (σ.N : Int) σ) (ok : GOk T B σ) (hd : GDim T B M) (ht : t < T) (a b : Int) :
    Calls Try.prog 29 #[.pointer (some ⟨Λ.g, 0, none⟩), .pointer (some ⟨Λ.S t, 0, none⟩), .int .i64 a, .int .i64 b] w (GPost w tg (fun w' tg' => GAt w' tg' Λ.g Λ.S T B M (loadS B σ t a b)) (.int .i64 (loadE B σ t a b))) := by
  have HA := hide (gobject_any h ok ht a)
  have HQ := hide h.at
  have HH := hide (GFr.refl w tg)
  unfold loadE loadS
  by_cases h0 : objE σ t a = 0
  · obtain ⟨h1, h2⟩ := h.ob_at ok h0
    have ho := h.obs _ h1 h2
    have e0 : hkAt (σ.st t) a ≠ 0 := by omega
    have hnp := ok.np (hkAt (σ.st t) a)
    rw [if_neg (show ¬ (objE σ t a ≠ 0) from fun hx => hx h0)]
    rw [ptrV_pos _ e0, h0] at HA
    have c2 : w.cell? ⟨Λ.ob (hkAt (σ.st t) a), 2, none⟩ = some (.int .i64 (σ.np (hkAt (σ.st t) a) : Int)) := by rw [ho.st.cell]; rfl
    rcases fieldIn_ways (σ.np (hkAt (σ.st t) a)) b with ⟨k1, k2⟩ | ⟨k1, k3, k2⟩ | ⟨k1, k3, k2⟩
    · rw [if_neg k2, if_neg (fun hx => k2 hx.2)]
      generalize σ.np (hkAt (σ.st t) a) = n at *
      generalize Λ.ob (hkAt (σ.st t) a) = o at *
      clear h ho k2 h0 h1 h2 e0
      go_enter Try.func29, Try.ntmps29
      go_wp2_with fail
      refine HA.out.mono ?_
      rintro e w' ⟨rfl, rfl⟩
      go_wp2_with fail
      go_ret
      exact ⟨rfl, tg, HQ.out, HH.out⟩
    · rw [if_neg k2, if_neg (fun hx => k2 hx.2)]
      generalize σ.np (hkAt (σ.st t) a) = n at *
      generalize Λ.ob (hkAt (σ.st t) a) = o at *
      clear h ho k2 h0 h1 h2 e0
      go_enter Try.func29, Try.ntmps29
      go_wp2_with fail
      refine HA.out.mono ?_
      rintro e w' ⟨rfl, rfl⟩
      go_wp2_with fail
      go_ret
      exact ⟨rfl, tg, HQ.out, HH.out⟩
    · rw [if_pos k2, if_pos ⟨h0, k2⟩]
      have c4 : w.cell? ⟨Λ.ob (hkAt (σ.st t) a), 4, none⟩ = some (.map (some (Λ.rb (hkAt (σ.st t) a)))) := by rw [ho.st.cell]; rfl
      have hlk := h.refLook h1 h2 (b := b) ⟨k1, by omega⟩
      have HP := hide (gpush_any h ok hd ht (ok.ref (hkAt (σ.st t) a) b).1 (ok.ref (hkAt (σ.st t) a) b).2)
      have HX : Hid (∀ w' tg', PGm w' tg' Λ T B M (σ.N : Int) (σ.push B t (σ.ref (hkAt (σ.st t) a) b)) → GAt w' tg' Λ.g Λ.S T B M (σ.push B t (σ.ref (hkAt (σ.st t) a) b))) := fun w' tg' hp => PGm.at hp
      generalize σ.ref (hkAt (σ.st t) a) b = y at *
      generalize σ.np (hkAt (σ.st t) a) = n at *
      generalize hkAt (σ.st t) a = r at *
      generalize hkPushE B (σ.st t) = E at *
      generalize Λ.ob r = o at *
      generalize ptrV Λ.ob y = v at *
      clear h ho k2 h0 h1 h2 e0 ok HH HQ
      go_enter Try.func29, Try.ntmps29
      go_wp2_with fail
      refine HA.out.mono ?_
      rintro e w' ⟨rfl, rfl⟩
      go_wp2_with fail
      refine HP.out.mono ?_
      rintro e w' ⟨rfl, tg', hp, hg⟩
      have HQ := hide (HX.out _ _ hp)
      have HG := hide hg
      clear hp hg
      go_wp2_with fail
      go_ret
      exact ⟨rfl, tg', HQ.out, HG.out⟩
  · have e0 := objE_bad h0
    rw [if_pos h0, if_neg (fun hx => h0 hx.1)]
    rw [e0, ptrV_0] at HA
    generalize objE σ t a = E at *
    clear h ok e0
    go_enter Try.func29, Try.ntmps29
    go_wp2_with fail
    refine HA.out.mono ?_
    rintro e w' ⟨rfl, rfl⟩
    go_wp2_with fail
    go_ret
    exact ⟨rfl, tg, HQ.out, HH.out⟩
set_option maxRecDepth 100000 in
theorem gstore_any (h : PGm w tg Λ T B M (σ.N : Int) σ) (ok : GOk T B σ) (hd : GDim T B M) (ht : t < T) (a b c : Int) :
    Calls Try.prog 30 #[.pointer (some ⟨Λ.g, 0, none⟩), .pointer (some ⟨Λ.S t, 0, none⟩), .int .i64 a, .int .i64 b, .int .i64 c] w (GPost w tg (fun w' tg' => GAt w' tg' Λ.g Λ.S T B M (storeS σ t a b c)) (.int .i64 (storeE σ t a b c))) := by
  have HC := hide (gat_any h ok ht c)
  have HA := hide (gobject_any h ok ht a)
  have HQ := hide h.at
  have HH := hide (GFr.refl w tg)
  unfold storeS
  by_cases hc : hkIn (σ.st t) c
  · have ec : hkAtE (σ.st t) c = 0 := by unfold hkAtE; rw [if_pos hc]
    rw [ec] at HC
    by_cases h0 : objE σ t a = 0
    · obtain ⟨h1, h2⟩ := h.ob_at ok h0
      have ho := h.obs _ h1 h2
      have e0 : hkAt (σ.st t) a ≠ 0 := by omega
      have hnp := ok.np (hkAt (σ.st t) a)
      rw [ptrV_pos _ e0, h0] at HA
      have c2 : w.cell? ⟨Λ.ob (hkAt (σ.st t) a), 2, none⟩ = some (.int .i64 (σ.np (hkAt (σ.st t) a) : Int)) := by rw [ho.st.cell]; rfl
      have hEv : storeE σ t a b c = if fieldIn (σ.np (hkAt (σ.st t) a)) b then 0 else 11 := by unfold storeE; rw [if_pos hc, if_neg (show ¬ (objE σ t a ≠ 0) from fun hx => hx h0)]
      rw [hEv]
      rcases fieldIn_ways (σ.np (hkAt (σ.st t) a)) b with ⟨k1, k2⟩ | ⟨k1, k3, k2⟩ | ⟨k1, k3, k2⟩
      · rw [if_neg k2, if_neg (by decide)]
        generalize σ.np (hkAt (σ.st t) a) = n at *
        generalize Λ.ob (hkAt (σ.st t) a) = o at *
        generalize ptrV Λ.ob (hkAt (σ.st t) c) = v at *
        clear h ho k2 h0 h1 h2 e0 ec hc hEv
        go_enter Try.func30, Try.ntmps30
        go_wp2_with fail
        refine HC.out.mono ?_
        rintro e w' ⟨rfl, rfl⟩
        go_wp2_with fail
        refine HA.out.mono ?_
        rintro e w' ⟨rfl, rfl⟩
        go_wp2_with fail
        go_ret
        exact ⟨rfl, tg, HQ.out, HH.out⟩
      · rw [if_neg k2, if_neg (by decide)]
        generalize σ.np (hkAt (σ.st t) a) = n at *
        generalize Λ.ob (hkAt (σ.st t) a) = o at *
        generalize ptrV Λ.ob (hkAt (σ.st t) c) = v at *
        clear h ho k2 h0 h1 h2 e0 ec hc hEv
        go_enter Try.func30, Try.ntmps30
        go_wp2_with fail
        refine HC.out.mono ?_
        rintro e w' ⟨rfl, rfl⟩
        go_wp2_with fail
        refine HA.out.mono ?_
        rintro e w' ⟨rfl, rfl⟩
        go_wp2_with fail
        go_ret
        exact ⟨rfl, tg, HQ.out, HH.out⟩
      · rw [if_pos k2, if_pos rfl]
        have c4 : w.cell? ⟨Λ.ob (hkAt (σ.st t) a), 4, none⟩ = some (.map (some (Λ.rb (hkAt (σ.st t) a)))) := by rw [ho.st.cell]; rfl
        obtain ⟨f, f1, f2, f3⟩ := ho.refs
        have HX : Hid (∀ w', Mp Try.prog 3 w' (Λ.rb (hkAt (σ.st t) a)) (upF f (.int .i64 b) (ptrV Λ.ob (hkAt (σ.st t) c))) → Fr [Λ.rb (hkAt (σ.st t) a)] w w' → GAt w' tg Λ.g Λ.S T B M (σ.setRef (hkAt (σ.st t) a) b (hkAt (σ.st t) c)) ∧ GFr w tg w' tg) := fun w' hm hf =>
          ⟨PGm.at (h.rput h1 h2 k2 f2 f3 hm hf), GFr.of hf (fun z hz => by simp at hz; rw [hz, ho.t2]; simp)⟩
        have HM := hide f1
        have HK := hide (intKey b (wf_i64_of ⟨by omega, by omega⟩))
        generalize σ.setRef (hkAt (σ.st t) a) b (hkAt (σ.st t) c) = σ' at *
        generalize σ.np (hkAt (σ.st t) a) = n at *
        generalize hkAt (σ.st t) a = r at *
        generalize Λ.ob r = o at *
        generalize ptrV Λ.ob (hkAt (σ.st t) c) = v at *
        clear h ho k2 h0 h1 h2 e0 ok HH HQ ec hc hEv f1 f2 f3
        go_enter Try.func30, Try.ntmps30
        go_wp2_with fail
        refine HC.out.mono ?_
        rintro e w' ⟨rfl, rfl⟩
        go_wp2_with fail
        refine HA.out.mono ?_
        rintro e w' ⟨rfl, rfl⟩
        go_wp2_with (at_mapUpdate; refine list_of rfl fun K hK => wp_update (key := .int .i64 b) (v := v) _ _ _ 87 rfl Try.intLaw Try.underlying87 HM.out (Fr.refl _ _) rfl rfl HK.out rfl ?_; intro w1 hM hF; refine hK _ _ ?_)
        go_ret
        obtain ⟨x1, x2⟩ := HX.out _ hM.out hF.out
        exact ⟨rfl, tg, x1, x2⟩
    · have e0 := objE_bad h0
      have hEv : storeE σ t a b c = objE σ t a := by unfold storeE; rw [if_pos hc, if_pos h0]
      rw [hEv, if_neg h0]
      rw [e0, ptrV_0] at HA
      generalize objE σ t a = E at *
      generalize ptrV Λ.ob (hkAt (σ.st t) c) = v at *
      clear h ok e0 ec hc hEv
      go_enter Try.func30, Try.ntmps30
      go_wp2_with fail
      refine HC.out.mono ?_
      rintro e w' ⟨rfl, rfl⟩
      go_wp2_with fail
      refine HA.out.mono ?_
      rintro e w' ⟨rfl, rfl⟩
      go_wp2_with fail
      go_ret
      exact ⟨rfl, tg, HQ.out, HH.out⟩
  · have hEv : storeE σ t a b c = 10 := by unfold storeE; rw [if_neg hc]
    have e1 : hkAt (σ.st t) c = 0 := by unfold hkAt; rw [if_neg hc]
    have e2 : hkAtE (σ.st t) c = 10 := by unfold hkAtE; rw [if_neg hc]
    rw [hEv, if_neg (by decide)]
    rw [e1, e2, ptrV_0] at HC
    clear h ok hc hEv e1 e2 HA
    go_enter Try.func30, Try.ntmps30
    go_wp2_with fail
    refine HC.out.mono ?_
    rintro e w' ⟨rfl, rfl⟩
    go_wp2_with fail
    go_ret
    exact ⟨rfl, tg, HQ.out, HH.out⟩
theorem wordE_0 {σ : GS} {a b : Int} (h : wordE σ t a b = 0) : objE σ t a = 0 ∧ fieldIn (σ.nw (hkAt (σ.st t) a)) b := by
  unfold wordE at h
  split at h
  · rename_i h1; exact absurd h h1
  · rename_i h1
    split at h
    · rename_i h2; exact ⟨by simpa using h1, h2⟩
    · exact absurd h (by decide)
set_option maxRecDepth 100000 in
theorem gread_any (h : PGm w tg Λ T B M (σ.N : Int) σ) (ok : GOk T B σ) (ht : t < T) (a b : Int) :
    Calls Try.prog 31 #[.pointer (some ⟨Λ.g, 0, none⟩), .pointer (some ⟨Λ.S t, 0, none⟩), .int .i64 a, .int .i64 b] w fun e w' => e = .returned (.tuple #[.int .u64 (readV σ t a b), .int .i64 (wordE σ t a b)]) ∧ w = w' := by
  have HA := hide (gword_any h ok ht a b)
  unfold readV
  by_cases h0 : wordE σ t a b = 0
  · obtain ⟨k1, k2⟩ := wordE_0 h0
    obtain ⟨h1, h2⟩ := h.ob_at ok k1
    have ho := h.obs _ h1 h2
    have e0 : hkAt (σ.st t) a ≠ 0 := by omega
    have hnw := ok.nw (hkAt (σ.st t) a)
    have k2' := k2
    unfold fieldIn at k2'
    rw [if_pos h0, ptrV_pos _ e0, h0] at HA
    rw [if_pos h0, h0]
    have c5 : w.cell? ⟨Λ.ob (hkAt (σ.st t) a), 5, none⟩ = some (.map (some (Λ.db (hkAt (σ.st t) a)))) := by rw [ho.st.cell]; rfl
    have hlk := h.datLook h1 h2 (b := b) ⟨k2'.1, by omega⟩
    generalize σ.dat (hkAt (σ.st t) a) b = y at *
    generalize hkAt (σ.st t) a = r at *
    generalize Λ.ob r = o at *
    clear h ho k1 k2 k2' h0 h1 h2 e0 ok
    go_enter Try.func31, Try.ntmps31
    go_wp2_with fail
    refine HA.out.mono ?_
    rintro e w' ⟨rfl, rfl⟩
    go_wp2_with fail
    go_ret2
    exact ⟨rfl, rfl⟩
  · rw [if_neg h0] at HA
    rw [if_neg h0]
    generalize wordE σ t a b = E at *
    clear h ok
    go_enter Try.func31, Try.ntmps31
    go_wp2_with fail
    refine HA.out.mono ?_
    rintro e w' ⟨rfl, rfl⟩
    go_wp2_with fail
    go_ret2
    exact ⟨rfl, rfl⟩
set_option maxRecDepth 100000 in
theorem gwrite_any (h : PGm w tg Λ T B M (σ.N : Int) σ) (ok : GOk T B σ) (ht : t < T) (a b v : Int) :
    Calls Try.prog 32 #[.pointer (some ⟨Λ.g, 0, none⟩), .pointer (some ⟨Λ.S t, 0, none⟩), .int .i64 a, .int .i64 b, .int .u64 v] w (GPost w tg (fun w' tg' => GAt w' tg' Λ.g Λ.S T B M (writeS σ t a b v)) (.int .i64 (wordE σ t a b))) := by
  have HA := hide (gword_any h ok ht a b)
  have HQ := hide h.at
  have HH := hide (GFr.refl w tg)
  unfold writeS
  by_cases h0 : wordE σ t a b = 0
  · obtain ⟨k1, k2⟩ := wordE_0 h0
    obtain ⟨h1, h2⟩ := h.ob_at ok k1
    have ho := h.obs _ h1 h2
    have e0 : hkAt (σ.st t) a ≠ 0 := by omega
    have hnw := ok.nw (hkAt (σ.st t) a)
    have k2' := k2
    unfold fieldIn at k2'
    rw [if_pos h0, ptrV_pos _ e0, h0] at HA
    rw [if_pos h0, h0]
    have c5 : w.cell? ⟨Λ.ob (hkAt (σ.st t) a), 5, none⟩ = some (.map (some (Λ.db (hkAt (σ.st t) a)))) := by rw [ho.st.cell]; rfl
    obtain ⟨f, f1, f2⟩ := ho.data
    have HX : Hid (∀ w', Mp Try.prog 3 w' (Λ.db (hkAt (σ.st t) a)) (upF f (.int .i64 b) (.int .u64 v)) → Fr [Λ.db (hkAt (σ.st t) a)] w w' → GAt w' tg Λ.g Λ.S T B M (σ.setDat (hkAt (σ.st t) a) b v) ∧ GFr w tg w' tg) := fun w' hm hf =>
      ⟨PGm.at (h.dput h1 h2 f2 hm hf), GFr.of hf (fun z hz => by simp at hz; rw [hz, ho.t3]; simp)⟩
    have HM := hide f1
    have HK := hide (intKey b (wf_i64_of ⟨by omega, by omega⟩))
    generalize σ.setDat (hkAt (σ.st t) a) b v = σ' at *
    generalize hkAt (σ.st t) a = r at *
    generalize Λ.ob r = o at *
    clear h ho k1 k2 k2' h0 h1 h2 e0 ok f1 f2
    go_enter Try.func32, Try.ntmps32
    go_wp2_with fail
    refine HA.out.mono ?_
    rintro e w' ⟨rfl, rfl⟩
    go_wp2_with (at_mapUpdate; refine list_of rfl fun K hK => wp_update (key := .int .i64 b) (v := .int .u64 v) _ _ _ 88 rfl Try.intLaw Try.underlying88 HM.out (Fr.refl _ _) rfl rfl HK.out rfl ?_; intro w1 hM hF; refine hK _ _ ?_)
    go_ret
    obtain ⟨x1, x2⟩ := HX.out _ hM.out hF.out
    exact ⟨rfl, tg, x1, x2⟩
  · rw [if_neg h0] at HA
    rw [if_neg h0]
    generalize wordE σ t a b = E at *
    clear h ok
    go_enter Try.func32, Try.ntmps32
    go_wp2_with fail
    refine HA.out.mono ?_
    rintro e w' ⟨rfl, rfl⟩
    go_wp2_with fail
    go_ret
    exact ⟨rfl, tg, HQ.out, HH.out⟩
set_option maxRecDepth 100000 in
theorem gdup_any (h : PGm w tg Λ T B M (σ.N : Int) σ) (ok : GOk T B σ) (hd : GDim T B M) (ht : t < T) (a : Int) :
    Calls Try.prog 35 #[.pointer (some ⟨Λ.g, 0, none⟩), .pointer (some ⟨Λ.S t, 0, none⟩), .int .i64 a] w (GPost w tg (fun w' tg' => GAt w' tg' Λ.g Λ.S T B M (dupS B σ t a)) (.int .i64 (dupE B σ t a))) := by
  have HA := hide (gat_any h ok ht a)
  have HQ := hide h.at
  have HH := hide (GFr.refl w tg)
  unfold dupS dupE
  by_cases hi : hkIn (σ.st t) a
  · have e2 : hkAtE (σ.st t) a = 0 := by unfold hkAtE; rw [if_pos hi]
    rw [e2] at HA
    rw [if_pos hi, if_pos hi]
    have HP := hide (gpush_any h ok hd ht (ok.at t a).1 (ok.at t a).2)
    have HX : Hid (∀ w' tg', PGm w' tg' Λ T B M (σ.N : Int) (σ.push B t (hkAt (σ.st t) a)) → GAt w' tg' Λ.g Λ.S T B M (σ.push B t (hkAt (σ.st t) a))) := fun w' tg' hp => PGm.at hp
    generalize hkAt (σ.st t) a = r at *
    generalize hkPushE B (σ.st t) = E at *
    generalize ptrV Λ.ob r = v at *
    clear h ok HH HQ e2 hi
    go_enter Try.func35, Try.ntmps35
    go_wp2_with fail
    refine HA.out.mono ?_
    rintro e w' ⟨rfl, rfl⟩
    go_wp2_with fail
    refine HP.out.mono ?_
    rintro e w' ⟨rfl, tg', hp, hg⟩
    have HQ := hide (HX.out _ _ hp)
    have HG := hide hg
    clear hp hg
    go_wp2_with fail
    go_ret
    exact ⟨rfl, tg', HQ.out, HG.out⟩
  · have e1 : hkAt (σ.st t) a = 0 := by unfold hkAt; rw [if_neg hi]
    have e2 : hkAtE (σ.st t) a = 10 := by unfold hkAtE; rw [if_neg hi]
    rw [if_neg hi, if_neg hi]
    rw [e1, e2, ptrV_0] at HA
    clear h ok hi e1 e2
    go_enter Try.func35, Try.ntmps35
    go_wp2_with fail
    refine HA.out.mono ?_
    rintro e w' ⟨rfl, rfl⟩
    go_wp2_with fail
    go_ret
    exact ⟨rfl, tg, HQ.out, HH.out⟩
set_option maxRecDepth 100000 in
theorem gsend_any (h : PGm w tg Λ T B M (σ.N : Int) σ) (ok : GOk T B σ) (hd : GDim T B M) (ht : t < T) (a b : Int) :
    Calls Try.prog 39 #[.pointer (some ⟨Λ.g, 0, none⟩), .pointer (some ⟨Λ.S t, 0, none⟩), .int .i64 a, .int .i64 b] w (GPost w tg (fun w' tg' => GAt w' tg' Λ.g Λ.S T B M (sendS B T σ t a b)) (.int .i64 (sendE B T σ t a b))) := by
  have HA := hide (gat_any h ok ht a)
  have HB := hide (ghas_any h hd.t b)
  have HQ := hide h.at
  have HH := hide (GFr.refl w tg)
  unfold sendS sendE
  by_cases hi : hkIn (σ.st t) a
  · have e2 : hkAtE (σ.st t) a = 0 := by unfold hkAtE; rw [if_pos hi]
    rw [e2] at HA
    rw [if_pos hi]
    by_cases hb : fieldIn T b
    · rw [if_pos hb, if_pos ⟨hi, hb⟩]
      rw [show decide (fieldIn T b) = true by simpa using hb] at HB
      have hb' := hb
      unfold fieldIn at hb'
      obtain ⟨k, rfl⟩ := Int.eq_ofNat_of_zero_le hb'.1
      have hk : k < T := by omega
      have hk' : (k : Int) < (T : Int) := by omega
      rw [Int.toNat_natCast]
      obtain ⟨p, cp, hv, hpl, hcl⟩ := h.row.pos (by omega)
      have c0 : w.cell? ⟨Λ.g, 0, none⟩ = some (.slice (some ⟨p, 0, none⟩) T cp) := by rw [h.st.cell, ← hv]; rfl
      have cs := (hcl.2 k hk).1
      have HP := hide (gpush_any h ok hd hk (ok.at t a).1 (ok.at t a).2)
      have HX : Hid (∀ w' tg', PGm w' tg' Λ T B M (σ.N : Int) (σ.push B k (hkAt (σ.st t) a)) → GAt w' tg' Λ.g Λ.S T B M (σ.push B k (hkAt (σ.st t) a))) := fun w' tg' hp => PGm.at hp
      have hT := hd.t
      generalize hkAt (σ.st t) a = r at *
      generalize hkPushE B (σ.st k) = E at *
      generalize ptrV Λ.ob r = v at *
      clear h ok HH HQ e2 hi hb hb' hcl hv
      go_enter Try.func39, Try.ntmps39
      go_wp2_with fail
      refine HA.out.mono ?_
      rintro e w' ⟨rfl, rfl⟩
      go_wp2_with fail
      refine HB.out.mono ?_
      rintro e w' ⟨rfl, rfl⟩
      go_wp2_with fail
      refine HP.out.mono ?_
      rintro e w' ⟨rfl, tg', hp, hg⟩
      have HQ := hide (HX.out _ _ hp)
      have HG := hide hg
      clear hp hg
      go_wp2_with fail
      go_ret
      exact ⟨rfl, tg', HQ.out, HG.out⟩
    · rw [if_neg hb, if_neg (fun hx => hb hx.2)]
      rw [show decide (fieldIn T b) = false by simpa using hb] at HB
      generalize ptrV Λ.ob (hkAt (σ.st t) a) = v at *
      clear h ok hi e2 hb
      go_enter Try.func39, Try.ntmps39
      go_wp2_with fail
      refine HA.out.mono ?_
      rintro e w' ⟨rfl, rfl⟩
      go_wp2_with fail
      refine HB.out.mono ?_
      rintro e w' ⟨rfl, rfl⟩
      go_wp2_with fail
      go_ret
      exact ⟨rfl, tg, HQ.out, HH.out⟩
  · have e1 : hkAt (σ.st t) a = 0 := by unfold hkAt; rw [if_neg hi]
    have e2 : hkAtE (σ.st t) a = 10 := by unfold hkAtE; rw [if_neg hi]
    rw [if_neg hi, if_neg (fun hx => hi hx.1)]
    rw [e1, e2, ptrV_0] at HA
    clear h ok hi e1 e2 HB
    go_enter Try.func39, Try.ntmps39
    go_wp2_with fail
    refine HA.out.mono ?_
    rintro e w' ⟨rfl, rfl⟩
    go_wp2_with fail
    go_ret
    exact ⟨rfl, tg, HQ.out, HH.out⟩
theorem gequal_any (h : PGm w tg Λ T B M nn σ) (ht : t < T) (a b : Int) :
    Calls Try.prog 36 #[.pointer (some ⟨Λ.S t, 0, none⟩), .int .i64 a, .int .i64 b] w fun e w' => e = .returned (.tuple #[.bool (equalV σ t a b), .int .i64 (equalE σ t a b)]) ∧ w = w' := by
  obtain ⟨G, k1, _⟩ := h.stk t ht
  have HA := hide (hat_any k1 a)
  have HB := hide (hat_any k1 b)
  unfold equalV equalE
  by_cases hi : hkIn (σ.st t) a
  · have e2 : hkAtE (σ.st t) a = 0 := by unfold hkAtE; rw [if_pos hi]
    rw [e2] at HA
    rw [if_pos hi]
    by_cases hj : hkIn (σ.st t) b
    · have e3 : hkAtE (σ.st t) b = 0 := by unfold hkAtE; rw [if_pos hj]
      rw [e3] at HB ⊢
      rw [show decide (hkIn (σ.st t) a ∧ hkIn (σ.st t) b ∧ hkAt (σ.st t) a = hkAt (σ.st t) b) = decide (hkAt (σ.st t) a = hkAt (σ.st t) b) by simp [hi, hj]]
      generalize hkAt (σ.st t) a = x at *
      generalize hkAt (σ.st t) b = y at *
      clear h k1 hi hj e2 e3
      by_cases he : x = y
      · subst he
        rw [show decide (x = x) = true by simp]
        have hx : (x == x) = true := by simp
        go_enter Try.func36, Try.ntmps36
        go_wp2_with fail
        refine HA.out.mono ?_
        rintro e w' ⟨rfl, rfl⟩
        go_wp2_with fail
        refine HB.out.mono ?_
        rintro e w' ⟨rfl, rfl⟩
        go_wp2_with fail
        go_ret2
        exact ⟨rfl, rfl⟩
      · rw [show decide (x = y) = false by simp [he]]
        have hx : (x == y) = false := by simpa using he
        go_enter Try.func36, Try.ntmps36
        go_wp2_with fail
        refine HA.out.mono ?_
        rintro e w' ⟨rfl, rfl⟩
        go_wp2_with fail
        refine HB.out.mono ?_
        rintro e w' ⟨rfl, rfl⟩
        go_wp2_with fail
        go_ret2
        exact ⟨rfl, rfl⟩
    · have e3 : hkAtE (σ.st t) b = 10 := by unfold hkAtE; rw [if_neg hj]
      rw [e3] at HB ⊢
      rw [show decide (hkIn (σ.st t) a ∧ hkIn (σ.st t) b ∧ hkAt (σ.st t) a = hkAt (σ.st t) b) = false by simp [hj]]
      generalize hkAt (σ.st t) a = x at *
      generalize hkAt (σ.st t) b = y at *
      clear h k1 hi hj e2 e3
      go_enter Try.func36, Try.ntmps36
      go_wp2_with fail
      refine HA.out.mono ?_
      rintro e w' ⟨rfl, rfl⟩
      go_wp2_with fail
      refine HB.out.mono ?_
      rintro e w' ⟨rfl, rfl⟩
      go_wp2_with fail
      go_ret2
      exact ⟨rfl, rfl⟩
  · have e2 : hkAtE (σ.st t) a = 10 := by unfold hkAtE; rw [if_neg hi]
    rw [e2] at HA
    rw [if_neg hi]
    rw [show decide (hkIn (σ.st t) a ∧ hkIn (σ.st t) b ∧ hkAt (σ.st t) a = hkAt (σ.st t) b) = false by simp [hi]]
    generalize hkAt (σ.st t) a = x at *
    clear h k1 hi e2 HB
    go_enter Try.func36, Try.ntmps36
    go_wp2_with fail
    refine HA.out.mono ?_
    rintro e w' ⟨rfl, rfl⟩
    go_wp2_with fail
    go_ret2
    exact ⟨rfl, rfl⟩
theorem gisnil_any (h : PGm w tg Λ T B M nn σ) (ht : t < T) (a : Int) :
    Calls Try.prog 37 #[.pointer (some ⟨Λ.S t, 0, none⟩), .int .i64 a] w fun e w' => e = .returned (.tuple #[.bool (isNilV σ t a), .int .i64 (hkAtE (σ.st t) a)]) ∧ w = w' := by
  obtain ⟨G, k1, _⟩ := h.stk t ht
  have HA := hide (hat_any k1 a)
  unfold isNilV
  by_cases hi : hkIn (σ.st t) a
  · have e2 : hkAtE (σ.st t) a = 0 := by unfold hkAtE; rw [if_pos hi]
    rw [e2] at HA ⊢
    rw [show decide (hkIn (σ.st t) a ∧ hkAt (σ.st t) a = 0) = decide (hkAt (σ.st t) a = 0) by simp [hi]]
    generalize hkAt (σ.st t) a = x at *
    clear h k1 hi e2
    by_cases he : x = 0
    · subst he
      go_enter Try.func37, Try.ntmps37
      go_wp2_with fail
      refine HA.out.mono ?_
      rintro e w' ⟨rfl, rfl⟩
      go_wp2_with fail
      go_ret2
      exact ⟨rfl, rfl⟩
    · rw [show decide (x = 0) = false by simp [he]]
      have hx : (x == 0) = false := by simpa using he
      go_enter Try.func37, Try.ntmps37
      go_wp2_with fail
      refine HA.out.mono ?_
      rintro e w' ⟨rfl, rfl⟩
      go_wp2_with fail
      go_ret2
      exact ⟨rfl, rfl⟩
  · have e2 : hkAtE (σ.st t) a = 10 := by unfold hkAtE; rw [if_neg hi]
    rw [e2] at HA ⊢
    rw [show decide (hkIn (σ.st t) a ∧ hkAt (σ.st t) a = 0) = false by simp [hi]]
    generalize hkAt (σ.st t) a = x at *
    clear h k1 hi e2
    go_enter Try.func37, Try.ntmps37
    go_wp2_with fail
    refine HA.out.mono ?_
    rintro e w' ⟨rfl, rfl⟩
    go_wp2_with fail
    go_ret2
    exact ⟨rfl, rfl⟩
theorem gcollect_any (a : Int) (w : World) : Calls Try.prog 38 #[.int .i64 a] w fun e w' => e = .returned (.int .i64 (collectE a)) ∧ w = w' := by
  unfold collectE
  rcases (show a < 0 ∨ (¬ a < 0 ∧ a > 3) ∨ (¬ a < 0 ∧ ¬ a > 3) by omega) with k1 | ⟨k1, k2⟩ | ⟨k1, k2⟩
  · rw [if_neg (by omega)]
    go_enter Try.func38, Try.ntmps38
    go_wp2
    go_ret
    exact ⟨rfl, rfl⟩
  · rw [if_neg (by omega)]
    go_enter Try.func38, Try.ntmps38
    go_wp2
    go_ret
    exact ⟨rfl, rfl⟩
  · rw [if_pos (by omega)]
    go_enter Try.func38, Try.ntmps38
    go_wp2
    go_ret
    exact ⟨rfl, rfl⟩
end
end Go.Proofs.Ytmodjkglcgoohaa
