/- Package graph: has, at, object, withWord, push, pop. -/
import Derived.Test.YtmodjkglcgoohaaGa
import Derived.WalkKit
import Derived.BigQuiet
namespace Go.Proofs.Ytmodjkglcgoohaa
set_option linter.unusedVariables false
set_option linter.unusedSimpArgs false
open Go.RowKit Go.Gl

def hdOf (σ : GS) (T : Nat) (r : Int) : Prop := 1 ≤ r ∧ 0 < cnt σ.st T r
/-- A graph at rest. -/
abbrev PGm (w : World) (tg : TG) (Λ : GL) (T B M : Nat) (nn : Int) (σ : GS) : Prop := PG w tg Λ T B M nn σ (cnt σ.st T) (hdOf σ T)
/-- What the bounds keep to. -/
structure GDim (T B M : Nat) : Prop where
  t : T ≤ 64
  b : B ≤ 64
  m1 : 1 ≤ M
  m : M ≤ 1048576
theorem cnt_le {st : Nat → List Int} {B : Nat} (h : ∀ t, (st t).length ≤ B) (r : Int) : ∀ T, cnt st T r ≤ T * B
  | 0 => Nat.zero_le _
  | T + 1 => by
    have h1 := cnt_le h r T
    have h2 : (st T).count r ≤ B := Nat.le_trans List.count_le_length (h T)
    simp only [cnt]
    rw [Nat.succ_mul]
    omega
theorem GOk.cnt_le {T B M : Nat} {σ : GS} (h : GOk T B σ) (hd : GDim T B M) (r : Int) : cnt σ.st T r ≤ 4096 :=
  Nat.le_trans (Go.Proofs.Ytmodjkglcgoohaa.cnt_le h.len r T) (Nat.mul_le_mul hd.t hd.b)
theorem zeroPO (w : World) : (zeroValue 79).run Try.prog w = .ok (.pointer none) w := by kernel_rfl
theorem zeroU (w : World) : (zeroValue 32).run Try.prog w = .ok (.int .u64 0) w := by kernel_rfl
def GPost (w : World) (tg : TG) (Q : World → TG → Prop) (v : Value) (e : Ending) (w' : World) : Prop := e = .returned v ∧ ∃ tg', Q w' tg' ∧ GFr w tg w' tg'
section
variable {w w' : World} {tg tg' : TG} {F : List Nat} {Λ : GL} {T B M : Nat} {nn : Int} {σ : GS} {c : Int → Nat} {hd : Int → Prop}
theorem PG.c0 (h : PG w tg Λ T B M nn σ c hd) : ∃ A cp, Λ.tv = .slice A T cp ∧ w.cell? ⟨Λ.g, 0, none⟩ = some (.slice A T cp) ∧ T ≤ maxLen := by
  obtain ⟨A, cp, hv, hm⟩ := h.row.form
  exact ⟨A, cp, hv, by rw [h.st.cell, ← hv]; rfl, hm⟩
theorem PG.c1 (h : PG w tg Λ T B M nn σ c hd) : w.cell? ⟨Λ.g, 1, none⟩ = some (.int .i64 (M : Int)) := by rw [h.st.cell]; rfl
theorem PG.c2 (h : PG w tg Λ T B M nn σ c hd) : w.cell? ⟨Λ.g, 2, none⟩ = some (.map (some Λ.hb)) := by rw [h.st.cell]; rfl
theorem PG.c3 (h : PG w tg Λ T B M nn σ c hd) : w.cell? ⟨Λ.g, 3, none⟩ = some (.int .u64 nn) := by rw [h.st.cell]; rfl
theorem PG.look (h : PG w tg Λ T B M nn σ c hd) {r : Int} (hr : (r = 0 ∧ ¬ hd 0) ∨ hd r) (hw : (Lit.int .u64 r).wf = true) : (Instr.lookup 49 (.map (some Λ.hb)) (.int .u64 r) false).run Try.prog w = .ok (ptrV Λ.ob r) w := by
  obtain ⟨f, f1, f2, f3, _⟩ := h.held
  rw [f1.look Try.refLaw Try.underlying49 (zeroPO w) (refKey r hw)]
  rcases hr with ⟨rfl, hr⟩ | hr
  · rw [f3 0 hr]; rfl
  · rw [f2 r hr]; rfl
theorem PGm.held_at (h : PGm w tg Λ T B M nn σ) (ok : GOk T B σ) {t : Nat} (ht : t < T) {a : Int} (ha : hkIn (σ.st t) a) : hkAt (σ.st t) a = 0 ∨ hdOf σ T (hkAt (σ.st t) a) := by
  have hb := ok.at t a
  by_cases e : hkAt (σ.st t) a = 0
  · exact .inl e
  · refine .inr ⟨by omega, cnt_mem ht ?_⟩
    unfold hkAt
    rw [if_pos ha]
    unfold hkIn at ha
    have : a.toNat < (σ.st t).length := by omega
    simp [this]
theorem ghas_any (h : PG w tg Λ T B M nn σ c hd) (hT : T ≤ 64) (i : Int) : Calls Try.prog 20 #[.pointer (some ⟨Λ.g, 0, none⟩), .int .i64 i] w fun e w' => e = .returned (.bool (decide (fieldIn T i))) ∧ w = w' := by
  obtain ⟨A, cp, _, c0, _⟩ := h.c0
  unfold fieldIn
  rcases (show i < 0 ∨ (0 ≤ i ∧ i < (T : Int)) ∨ (0 ≤ i ∧ (T : Int) ≤ i) by omega) with h1 | ⟨h1, h2⟩ | ⟨h1, h2⟩
  · rw [show decide (0 ≤ i ∧ i < (T : Int)) = false by simp; omega]
    clear h
    go_enter Try.func20, Try.ntmps20
    go_wp2
    go_ret
    exact ⟨rfl, rfl⟩
  · rw [show decide (0 ≤ i ∧ i < (T : Int)) = true by simp; omega]
    clear h
    go_enter Try.func20, Try.ntmps20
    go_wp2
    go_ret
    exact ⟨rfl, rfl⟩
  · rw [show decide (0 ≤ i ∧ i < (T : Int)) = false by simp; omega]
    clear h
    go_enter Try.func20, Try.ntmps20
    go_wp2
    go_ret
    exact ⟨ret_bool (by simp; omega), rfl⟩
theorem gat_any (h : PGm w tg Λ T B M nn σ) (ok : GOk T B σ) {t : Nat} (ht : t < T) (a : Int) :
    Calls Try.prog 50 #[.pointer (some ⟨Λ.g, 0, none⟩), .pointer (some ⟨Λ.S t, 0, none⟩), .int .i64 a] w fun e w' => e = .returned (.tuple #[ptrV Λ.ob (hkAt (σ.st t) a), .int .i64 (hkAtE (σ.st t) a)]) ∧ w = w' := by
  obtain ⟨G, k1, _⟩ := h.stk t ht
  have HA := hide (hat_any k1 a)
  have c2 := h.c2
  have hb := ok.at t a
  have hc := ok.cap
  by_cases hi : hkIn (σ.st t) a
  · have hl := h.look (r := hkAt (σ.st t) a) (by
      rcases h.held_at ok ht hi with e | e
      · exact .inl ⟨e, fun e' => by have := e'.1; omega⟩
      · exact .inr e) (wf_u64_of ⟨by omega, by omega⟩)
    have e2 : hkAtE (σ.st t) a = 0 := by unfold hkAtE; rw [if_pos hi]
    rw [e2] at HA ⊢
    generalize hkAt (σ.st t) a = r at *
    generalize ptrV Λ.ob r = v at *
    clear h k1 hb hc hi e2
    go_enter Try.func50, Try.ntmps50
    go_wp2_with fail
    refine HA.out.mono ?_
    rintro e w' ⟨rfl, rfl⟩
    go_wp2_with fail
    go_ret2
    exact ⟨rfl, rfl⟩
  · have e1 : hkAt (σ.st t) a = 0 := by unfold hkAt; rw [if_neg hi]
    have e2 : hkAtE (σ.st t) a = 10 := by unfold hkAtE; rw [if_neg hi]
    rw [e1, e2] at HA
    rw [e1, e2, ptrV_0]
    clear h k1 hb hc hi e1 e2
    go_enter Try.func50, Try.ntmps50
    go_wp2_with fail
    refine HA.out.mono ?_
    rintro e w' ⟨rfl, rfl⟩
    go_wp2_with fail
    go_ret2
    exact ⟨rfl, rfl⟩
theorem gobject_any (h : PGm w tg Λ T B M nn σ) (ok : GOk T B σ) {t : Nat} (ht : t < T) (a : Int) :
    Calls Try.prog 49 #[.pointer (some ⟨Λ.g, 0, none⟩), .pointer (some ⟨Λ.S t, 0, none⟩), .int .i64 a] w fun e w' => e = .returned (.tuple #[ptrV Λ.ob (hkAt (σ.st t) a), .int .i64 (objE σ t a)]) ∧ w = w' := by
  have HA := hide (gat_any h ok ht a)
  unfold objE
  by_cases hi : hkIn (σ.st t) a
  · have e2 : hkAtE (σ.st t) a = 0 := by unfold hkAtE; rw [if_pos hi]
    rw [if_pos hi]
    rw [e2] at HA
    by_cases e0 : hkAt (σ.st t) a = 0
    · rw [if_pos e0]
      rw [e0, ptrV_0] at HA ⊢
      clear h hi e2 e0
      go_enter Try.func49, Try.ntmps49
      go_wp2_with fail
      refine HA.out.mono ?_
      rintro e w' ⟨rfl, rfl⟩
      go_wp2_with fail
      go_ret2
      exact ⟨rfl, rfl⟩
    · rw [if_neg e0]
      rw [ptrV_pos _ e0] at HA ⊢
      generalize Λ.ob _ = o at *
      clear h hi e2 e0
      go_enter Try.func49, Try.ntmps49
      go_wp2_with fail
      refine HA.out.mono ?_
      rintro e w' ⟨rfl, rfl⟩
      go_wp2_with fail
      go_ret2
      exact ⟨rfl, rfl⟩
  · have e1 : hkAt (σ.st t) a = 0 := by unfold hkAt; rw [if_neg hi]
    have e2 : hkAtE (σ.st t) a = 10 := by unfold hkAtE; rw [if_neg hi]
    rw [if_neg hi]
    rw [e1, e2, ptrV_0] at HA
    rw [e1, ptrV_0]
    clear h hi e1 e2
    go_enter Try.func49, Try.ntmps49
    go_wp2_with fail
    refine HA.out.mono ?_
    rintro e w' ⟨rfl, rfl⟩
    go_wp2_with fail
    go_ret2
    exact ⟨rfl, rfl⟩
theorem objE_0 {σ : GS} {t : Nat} {a : Int} : objE σ t a = 0 ↔ hkIn (σ.st t) a ∧ hkAt (σ.st t) a ≠ 0 := by
  unfold objE
  repeat' split
  all_goals simp_all
theorem objE_ways (σ : GS) (t : Nat) (a : Int) : objE σ t a = 0 ∨ objE σ t a = 12 ∨ objE σ t a = 10 := by
  unfold objE
  repeat' split
  all_goals simp
theorem PGm.ob_at (h : PGm w tg Λ T B M nn σ) (ok : GOk T B σ) {t : Nat} {a : Int} (ha : objE σ t a = 0) : 1 ≤ hkAt (σ.st t) a ∧ hkAt (σ.st t) a ≤ (σ.N : Int) := by
  have := ok.at t a
  have := (objE_0.1 ha).2
  omega
theorem gword_any (h : PGm w tg Λ T B M nn σ) (ok : GOk T B σ) {t : Nat} (ht : t < T) (a b : Int) :
    Calls Try.prog 51 #[.pointer (some ⟨Λ.g, 0, none⟩), .pointer (some ⟨Λ.S t, 0, none⟩), .int .i64 a, .int .i64 b] w fun e w' => e = .returned (.tuple #[if wordE σ t a b = 0 then ptrV Λ.ob (hkAt (σ.st t) a) else .pointer none, .int .i64 (wordE σ t a b)]) ∧ w = w' := by
  have HA := hide (gobject_any h ok ht a)
  unfold wordE
  by_cases h0 : objE σ t a = 0
  · obtain ⟨h1, h2⟩ := h.ob_at ok h0
    have ho := h.obs _ h1 h2
    have e0 : hkAt (σ.st t) a ≠ 0 := by omega
    have c3 : w.cell? ⟨Λ.ob (hkAt (σ.st t) a), 3, none⟩ = some (.int .i64 (σ.nw (hkAt (σ.st t) a) : Int)) := by rw [ho.st.cell]; rfl
    rw [h0, ptrV_pos _ e0] at HA
    rw [h0, ptrV_pos _ e0]
    simp only [ne_eq, not_true_eq_false, if_false]
    generalize hkAt (σ.st t) a = r at *
    generalize σ.nw r = n at *
    clear h ho ok
    generalize Λ.ob r = o at *
    rcases (show b < 0 ∨ (0 ≤ b ∧ b < (n : Int)) ∨ (0 ≤ b ∧ (n : Int) ≤ b) by omega) with k1 | ⟨k1, k2⟩ | ⟨k1, k2⟩
    · rw [if_neg (show ¬ fieldIn n b by unfold fieldIn; omega)]
      simp only [show ((11 : Int) = 0) = False by simp, if_false]
      clear h0
      go_enter Try.func51, Try.ntmps51
      go_wp2_with fail
      refine HA.out.mono ?_
      rintro e w' ⟨rfl, rfl⟩
      go_wp2_with fail
      go_ret2
      exact ⟨rfl, rfl⟩
    · rw [if_pos (show fieldIn n b from ⟨k1, k2⟩)]
      simp only [if_true]
      clear h0
      go_enter Try.func51, Try.ntmps51
      go_wp2_with fail
      refine HA.out.mono ?_
      rintro e w' ⟨rfl, rfl⟩
      go_wp2_with fail
      go_ret2
      exact ⟨rfl, rfl⟩
    · rw [if_neg (show ¬ fieldIn n b by unfold fieldIn; omega)]
      simp only [show ((11 : Int) = 0) = False by simp, if_false]
      clear h0
      go_enter Try.func51, Try.ntmps51
      go_wp2_with fail
      refine HA.out.mono ?_
      rintro e w' ⟨rfl, rfl⟩
      go_wp2_with fail
      go_ret2
      exact ⟨rfl, rfl⟩
  · have e0 : hkAt (σ.st t) a = 0 := by
      by_cases hi : hkIn (σ.st t) a
      · by_cases e : hkAt (σ.st t) a = 0
        · exact e
        · exact absurd (objE_0.2 ⟨hi, e⟩) h0
      · unfold hkAt; rw [if_neg hi]
    have hne : (objE σ t a != 0) = true := by simpa using h0
    rw [e0, ptrV_0] at HA
    rw [e0, ptrV_0, if_pos h0, if_neg h0]
    generalize objE σ t a = E at *
    clear h e0 ok
    go_enter Try.func51, Try.ntmps51
    go_wp2_with fail
    refine HA.out.mono ?_
    rintro e w' ⟨rfl, rfl⟩
    go_wp2_with fail
    go_ret2
    exact ⟨rfl, rfl⟩
theorem push_full {σ : GS} {B t : Nat} {r : Int} (h : ¬ (σ.st t).length < B) : σ.push B t r = σ := by
  unfold GS.push GS.setSt hkPush
  rw [if_neg h, setF_same]
theorem push_cnt {σ : GS} {B t T : Nat} (ht : t < T) (h : (σ.st t).length < B) (r x : Int) : cnt (σ.push B t r).st T x = setF (cnt σ.st T) r (cnt σ.st T r + 1) x := by
  have h1 := (cnt_setF σ.st t (hkPush B (σ.st t) r) x T).1 ht
  have e : (hkPush B (σ.st t) r).count x = (σ.st t).count x + if x = r then 1 else 0 := by
    unfold hkPush
    rw [if_pos h, List.count_append]
    congr 1
    by_cases e : x = r
    · subst e; simp
    · rw [if_neg e]; simp [Ne.symm e]
  show cnt (setF σ.st t (hkPush B (σ.st t) r)) T x = _
  rw [e] at h1
  unfold setF at *
  split at h1
  · rename_i e; subst e; simp; omega
  · rename_i e; rw [if_neg e]; omega
theorem PG.push_end {t : Nat} {r : Int} (h : PG w tg Λ T B M nn (σ.push B t r) (setF (cnt σ.st T) r (cnt σ.st T r + 1)) (fun x => x = r ∨ hdOf σ T x)) (ht : t < T) (hl : (σ.st t).length < B) (h1 : 1 ≤ r) : PGm w tg Λ T B M nn (σ.push B t r) := by
  refine h.congr (fun x _ _ => (push_cnt ht hl r x).symm) fun x => ?_
  unfold hdOf
  rw [push_cnt ht hl r x]
  unfold setF
  by_cases e : x = r
  · subst e; simp [h1]
  · simp [e]
set_option maxRecDepth 100000 in
theorem gpush_any (h : PGm w tg Λ T B M nn σ) (ok : GOk T B σ) (hd : GDim T B M) {t : Nat} (ht : t < T) {r : Int} (h1 : 0 ≤ r) (h2 : r ≤ (σ.N : Int)) :
    Calls Try.prog 33 #[.pointer (some ⟨Λ.g, 0, none⟩), .pointer (some ⟨Λ.S t, 0, none⟩), ptrV Λ.ob r] w (GPost w tg (fun w' tg' => PGm w' tg' Λ T B M nn (σ.push B t r)) (.int .i64 (hkPushE B (σ.st t)))) := by
  obtain ⟨G, k1, k2⟩ := h.stk t ht
  have HP := hide (hpush_any k1 (ok.len t) hd.b r)
  have HS : Hid (∀ w1 F', HkP w1 (Λ.S t) F' B (hkPush B (σ.st t) r) → Fr G w w1 → (∀ x, x ∈ F' → x ∈ G ∨ w.heap.size ≤ x) → ∃ tg1, PG w1 tg1 Λ T B M nn (σ.push B t r) (cnt σ.st T) (hdOf σ T) ∧ GFr w tg w1 tg1) := fun w1 F' a b c => h.stack ht k1 k2 b a c
  by_cases e0 : r = 0
  · subst e0
    rw [ptrV_0]
    have HE : Hid (∀ w1 tg1, PG w1 tg1 Λ T B M nn (σ.push B t 0) (cnt σ.st T) (hdOf σ T) → PGm w1 tg1 Λ T B M nn (σ.push B t 0)) := fun w1 tg1 hp => by
      by_cases hl : (σ.st t).length < B
      · refine hp.congr (fun x hx _ => ?_) fun x => ?_
        · rw [push_cnt ht hl, setF_ne _ _ (by omega)]
        · unfold hdOf
          by_cases e : x = 0
          · subst e; simp
          · rw [push_cnt ht hl, setF_ne _ _ e]
      · rw [push_full hl] at hp ⊢
        exact hp
    clear h k1 k2 ok
    go_enter Try.func33, Try.ntmps33
    go_wp2_with fail
    refine HP.out.mono ?_
    rintro e w1 ⟨F', rfl, a, b, c⟩
    obtain ⟨tg1, hp, hg⟩ := HS.out w1 F' a b c
    have HPP := hide (HE.out _ _ hp)
    have HG := hide hg
    clear a b c hp hg
    go_wp2_with fail
    go_ret
    exact ⟨rfl, tg1, HPP.out, HG.out⟩
  · have h1' : 1 ≤ r := by omega
    have ho := h.obs r h1' h2
    have c0 : w.cell? ⟨Λ.ob r, 0, none⟩ = some (.int .u64 r) := by rw [ho.st.cell]; rfl
    rw [ptrV_pos _ e0]
    by_cases hl : (σ.st t).length < B
    · have e1 : hkPushE B (σ.st t) = 0 := by unfold hkPushE; rw [if_pos hl]
      have hcn := ok.cnt_le hd r
      have hcap := ok.cap
      have hkey := refKey r (wf_u64_of ⟨by omega, by omega⟩)
      have hw1 : IntKind.i64.wrap ((cnt σ.st T r : Int) + 1) = (cnt σ.st T r : Int) + 1 := IntWalk.i64_in _ ⟨by omega, by omega⟩
      rw [e1] at HP ⊢
      have HL := hide hl
      have HT := hide ht
      have HK := hide hkey
      have HR : Hid (1 ≤ r ∧ r ≤ (σ.N : Int)) := ⟨h1', h2⟩
      have HE0 := hide e0
      clear h k1 k2 ok ho hcn hcap hkey e1 hl ht
      go_enter Try.func33, Try.ntmps33
      go_wp2_with fail
      refine HP.out.mono ?_
      rintro e w1 ⟨F', rfl, a, b, c⟩
      obtain ⟨tg1, hp, hg⟩ := HS.out w1 F' a b c
      have d0 : w1.cell? ⟨Λ.ob r, 0, none⟩ = some (.int .u64 r) := by rw [(hp.obs r HR.out.1 HR.out.2).st.cell]; rfl
      have d1 : w1.cell? ⟨Λ.ob r, 1, none⟩ = some (.int .i64 (cnt σ.st T r : Int)) := by rw [(hp.obs r HR.out.1 HR.out.2).st.cell]; rfl
      have dz := (hp.obs r HR.out.1 HR.out.2).st.frozen 1
      have HG := hide hg
      have hp2 := hp.hand HR.out.1 HR.out.2 (cnt σ.st T r + 1)
      have HF2 : Hid (GFr w1 tg1 (w1.setCell ⟨Λ.ob r, 1, none⟩ (.int .i64 ((cnt σ.st T r : Int) + 1))) tg1) := GFr.of (F := [Λ.ob r]) ((Fr.refl _ _).setCell (p := ⟨Λ.ob r, 1, none⟩) (.inl (by simp)) _) (fun x hx => by simp at hx; rw [hx, (hp.obs r HR.out.1 HR.out.2).t1]; simp)
      rw [show ((cnt σ.st T r + 1 : Nat) : Int) = (cnt σ.st T r : Int) + 1 by omega] at hp2
      have HP2 := hide hp2
      clear a b c hg c0 hp hp2
      go_wp2_with fail
      generalize w1.setCell ⟨Λ.ob r, 1, none⟩ (.int .i64 ((cnt σ.st T r : Int) + 1)) = w2 at *
      clear d0 d1 dz hw1
      have x0 : w2.cell? ⟨Λ.ob r, 0, none⟩ = some (.int .u64 r) := by rw [(HP2.out.obs r HR.out.1 HR.out.2).st.cell]; rfl
      have x2 := HP2.out.c2
      obtain ⟨f, f1, f2⟩ := HP2.out.held
      have HM := hide f1
      have HF : Hid (HeldF Λ (hdOf σ T) f) := f2
      clear f1 f2
      refine region_tail 9 (by kernel_rfl) (by kernel_rfl) ?_
      simp only [List.take_succ_cons, List.take_zero, List.drop_succ_cons, List.drop_zero]
      repeat still_step
      refine wpStill_nil ?_
      go_wp2_with (at_mapUpdate; refine list_of rfl fun K hK => wp_update (key := .int .u64 r) (v := .pointer (some ⟨Λ.ob r, 0, none⟩)) _ _ _ 49 rfl Try.refLaw Try.underlying49 HM.out ((Fr.refl _ _).drew) rfl rfl HK.out rfl ?_; intro w3 hM hF; refine hK _ _ ?_)
      go_ret
      have hM3 : Mp Try.prog 51 w3 Λ.hb (upF f (.int .u64 r) (ptrV Λ.ob r)) := by rw [ptrV_pos _ HE0.out]; exact hM.out
      have hF3 : Fr [Λ.hb] w2 w3 := hF.out.from_drew
      exact ⟨rfl, tg1, (HP2.out.hput HF.out hM3 hF3).push_end HT.out HL.out HR.out.1, (HG.out.trans HF2.out).trans (GFr.of hF3 (fun x hx => by simp at hx; rw [hx, HP2.out.t3]; simp))⟩
    · have e1 : hkPushE B (σ.st t) = 15 := by unfold hkPushE; rw [if_neg hl]
      rw [push_full hl] at HS ⊢
      rw [e1] at HP ⊢
      clear h k1 k2 ok ho e1 hl
      go_enter Try.func33, Try.ntmps33
      go_wp2_with fail
      refine HP.out.mono ?_
      rintro e w1 ⟨F', rfl, a, b, c⟩
      obtain ⟨tg1, hp, hg⟩ := HS.out w1 F' a b c
      have HPP := hide hp
      have HG := hide hg
      clear a b c hp hg c0
      go_wp2_with fail
      go_ret
      exact ⟨rfl, tg1, HPP.out, HG.out⟩
theorem pop_cnt {σ : GS} {t T : Nat} (ht : t < T) (h : (σ.st t).length ≠ 0) (x : Int) : cnt (popS σ t).st T x + (if x = hkPopV (σ.st t) then 1 else 0) = cnt σ.st T x := by
  have h1 := (cnt_setF σ.st t (hkPop (σ.st t)) x T).1 ht
  have e : (σ.st t).count x = (hkPop (σ.st t)).count x + if x = hkPopV (σ.st t) then 1 else 0 := by
    have hs : σ.st t = hkPop (σ.st t) ++ [hkPopV (σ.st t)] := by
      unfold hkPop hkPopV
      apply List.ext_getElem
      · simp; omega
      · intro i h2 h3
        rcases Nat.lt_or_ge i ((σ.st t).length - 1) with h4 | h4
        · rw [List.getElem_append_left (by simp; omega)]; simp
        · have : i = (σ.st t).length - 1 := by omega
          subst this
          rw [List.getElem_append_right (by simp)]
          have : (σ.st t).length - 1 < (σ.st t).length := by omega
          simp [this]
    generalize hkPop (σ.st t) = l at *
    generalize hkPopV (σ.st t) = v at *
    rw [hs, List.count_append]
    congr 1
    by_cases e : x = v
    · subst e; simp
    · rw [if_neg e]; simp [Ne.symm e]
  show cnt (setF σ.st t (hkPop (σ.st t))) T x + _ = _
  omega
set_option maxRecDepth 100000 in
theorem gpop_any (h : PGm w tg Λ T B M nn σ) (ok : GOk T B σ) (hd : GDim T B M) {t : Nat} (ht : t < T) :
    Calls Try.prog 34 #[.pointer (some ⟨Λ.g, 0, none⟩), .pointer (some ⟨Λ.S t, 0, none⟩)] w (GPost w tg (fun w' tg' => PGm w' tg' Λ T B M nn (popS σ t)) (.int .i64 (hkPopE (σ.st t)))) := by
  obtain ⟨G, k1, k2⟩ := h.stk t ht
  have HP := hide (hpop_any k1 (ok.len t) hd.b)
  have HS : Hid (∀ w1 F', HkP w1 (Λ.S t) F' B (hkPop (σ.st t)) → Fr G w w1 → (∀ x, x ∈ F' → x ∈ G ∨ w.heap.size ≤ x) → ∃ tg1, PG w1 tg1 Λ T B M nn (popS σ t) (cnt σ.st T) (hdOf σ T) ∧ GFr w tg w1 tg1) := fun w1 F' a b c => h.stack ht k1 k2 b a c
  by_cases hl : (σ.st t).length = 0
  · have e1 : hkPopE (σ.st t) = 14 := by unfold hkPopE; rw [if_pos hl]
    have e2 : popS σ t = σ := by
      unfold popS GS.setSt
      have : hkPop (σ.st t) = σ.st t := by rw [List.eq_nil_of_length_eq_zero hl]; rfl
      rw [this, setF_same]
    rw [e1] at HP
    rw [e2] at HS
    rw [e1, e2]
    clear h k1 k2 ok e1 e2 hl
    go_enter Try.func34, Try.ntmps34
    go_wp2_with fail
    refine HP.out.mono ?_
    rintro e w1 ⟨F', rfl, a, b, c⟩
    obtain ⟨tg1, hp, hg⟩ := HS.out w1 F' a b c
    have HPP := hide hp
    have HG := hide hg
    clear a b c hp hg
    go_wp2_with fail
    go_ret
    exact ⟨rfl, tg1, HPP.out, HG.out⟩
  · have e1 : hkPopE (σ.st t) = 0 := by unfold hkPopE; rw [if_neg hl]
    have hmem : hkPopV (σ.st t) ∈ σ.st t := by
      unfold hkPopV
      have : (σ.st t).length - 1 < (σ.st t).length := by omega
      simp [this]
    have hbd := ok.mem t _ hmem
    have hcap := ok.cap
    have hpos := cnt_mem ht hmem
    have hcn := ok.cnt_le hd (hkPopV (σ.st t))
    have HC := hide (pop_cnt ht hl)
    rw [e1] at HP ⊢
    have hkey := refKey (hkPopV (σ.st t)) (wf_u64_of ⟨by omega, by omega⟩)
    have HK := hide hkey
    have HLK : Hid (∀ w1 tg1, PG w1 tg1 Λ T B M nn (popS σ t) (cnt σ.st T) (hdOf σ T) → (Instr.lookup 49 (.map (some Λ.hb)) (.int .u64 (hkPopV (σ.st t))) false).run Try.prog w1 = .ok (ptrV Λ.ob (hkPopV (σ.st t))) w1) := fun w1 tg1 hp => hp.look (by
      by_cases e : hkPopV (σ.st t) = 0
      · exact .inl ⟨e, fun e' => by have := e'.1; omega⟩
      · exact .inr ⟨by omega, hpos⟩) (wf_u64_of ⟨by omega, by omega⟩)
    by_cases e0 : hkPopV (σ.st t) = 0
    · have HE : Hid (∀ w1 tg1, PG w1 tg1 Λ T B M nn (popS σ t) (cnt σ.st T) (hdOf σ T) → PGm w1 tg1 Λ T B M nn (popS σ t)) := fun w1 tg1 hp => by
        refine hp.congr (fun x hx _ => ?_) fun x => ?_
        · have := HC.out x
          rw [if_neg (by omega)] at this
          omega
        · unfold hdOf
          by_cases e : x = 0
          · subst e; simp
          · have := HC.out x
            rw [if_neg (by omega)] at this
            rw [← this]; simp
      rw [e0] at HP HLK
      clear h k1 k2 ok e1 hl hmem hbd hcap hpos hcn hkey HK e0
      go_enter Try.func34, Try.ntmps34
      go_wp2_with fail
      refine HP.out.mono ?_
      rintro e w1 ⟨F', rfl, a, b, c⟩
      obtain ⟨tg1, hp, hg⟩ := HS.out w1 F' a b c
      have c2 := hp.c2
      have hlk := HLK.out _ _ hp
      rw [ptrV_0] at hlk
      have HPP := hide (HE.out _ _ hp)
      have HG := hide hg
      clear a b c hp hg
      go_wp2_with fail
      go_ret
      exact ⟨rfl, tg1, HPP.out, HG.out⟩
    · have HR : Hid (1 ≤ hkPopV (σ.st t) ∧ hkPopV (σ.st t) ≤ (σ.N : Int)) := ⟨by omega, by omega⟩
      obtain ⟨k, hk⟩ : ∃ k, cnt σ.st T (hkPopV (σ.st t)) = k + 1 := ⟨cnt σ.st T (hkPopV (σ.st t)) - 1, by omega⟩
      have hkb : k ≤ 4096 := by omega
      have HKK := hide hk
      have HE : Hid (∀ w1 tg1 (hd' : Int → Prop), PG w1 tg1 Λ T B M nn (popS σ t) (setF (cnt σ.st T) (hkPopV (σ.st t)) k) hd' → (∀ x, hd' x ↔ if x = hkPopV (σ.st t) then k ≠ 0 else hdOf σ T x) → PGm w1 tg1 Λ T B M nn (popS σ t)) := fun w1 tg1 hd' hp hh => by
        have key : ∀ x, cnt (popS σ t).st T x = setF (cnt σ.st T) (hkPopV (σ.st t)) k x := fun x => by
          have := HC.out x
          unfold setF
          by_cases e : x = hkPopV (σ.st t)
          · rw [if_pos e] at this ⊢
            rw [e] at this ⊢
            omega
          · rw [if_neg e] at this ⊢
            omega
        refine hp.congr (fun x _ _ => (key x).symm) fun x => ?_
        rw [hh x]
        unfold hdOf
        rw [key x]
        unfold setF
        by_cases e : x = hkPopV (σ.st t)
        · rw [if_pos e, if_pos e, e]
          have := HR.out.1
          omega
        · rw [if_neg e, if_neg e]
      rw [ptrV_pos _ e0] at HLK
      have HE0 := hide e0
      generalize hkPopV (σ.st t) = r at *
      have hkz : ((k : Int) = 0) ∨ ¬ ((k : Int) = 0) := Decidable.em _
      clear h k1 k2 ok e1 hl hmem hbd hcap hpos hcn hkey e0 hk
      go_enter Try.func34, Try.ntmps34
      go_wp2_with fail
      refine HP.out.mono ?_
      rintro e w1 ⟨F', rfl, a, b, c⟩
      obtain ⟨tg1, hp, hg⟩ := HS.out w1 F' a b c
      have c2 := hp.c2
      have hlk := HLK.out _ _ hp
      have HG := hide hg
      have d1 : w1.cell? ⟨Λ.ob r, 1, none⟩ = some (.int .i64 ((k : Int) + 1)) := by rw [(hp.obs r HR.out.1 HR.out.2).st.cell, HKK.out]; rfl
      have dz := (hp.obs r HR.out.1 HR.out.2).st.frozen 1
      have HP2 := hide (hp.hand HR.out.1 HR.out.2 k)
      have HF2 : Hid (GFr w1 tg1 (w1.setCell ⟨Λ.ob r, 1, none⟩ (.int .i64 (k : Int))) tg1) := GFr.of (F := [Λ.ob r]) ((Fr.refl _ _).setCell (p := ⟨Λ.ob r, 1, none⟩) (.inl (by simp)) _) (fun x hx => by simp at hx; rw [hx, (hp.obs r HR.out.1 HR.out.2).t1]; simp)
      have e1 : (w1.setCell ⟨Λ.ob r, 1, none⟩ (.int .i64 (k : Int))).cell? ⟨Λ.ob r, 1, none⟩ = some (.int .i64 (k : Int)) := by rw [(HP2.out.obs r HR.out.1 HR.out.2).st.cell, setF_at]; rfl
      have e2 := HP2.out.c2
      obtain ⟨f, f1, f2⟩ := HP2.out.held
      have HM := hide f1
      have HF : Hid (HeldF Λ (hdOf σ T) f) := f2
      clear a b c hp hg f1 f2
      rcases hkz with hz | hz
      · obtain rfl : k = 0 := by omega
        go_wp2_with (at_delete; refine list_of rfl fun K hK => wp_drop (key := .int .u64 r) _ _ 49 rfl Try.refLaw Try.underlying49 HM.out (Fr.refl _ _) rfl rfl HK.out ?_; intro w3 hM hF _; refine hK _ _ ?_)
        go_ret
        refine ⟨rfl, tg1, HE.out _ _ _ (HP2.out.hdrop HF.out hM.out hF.out) (fun x => ?_), (HG.out.trans HF2.out).trans (GFr.of hF.out (fun x hx => by simp at hx; rw [hx, HP2.out.t3]; simp))⟩
        by_cases e : x = r
        · simp [e]
        · simp [e]
      · go_wp2_with fail
        go_ret
        refine ⟨rfl, tg1, HE.out _ _ _ HP2.out (fun x => ?_), HG.out.trans HF2.out⟩
        by_cases e : x = r
        · subst e
          rw [if_pos rfl]
          have h3 : (k : Int) ≠ 0 := hz
          have := HKK.out
          have := HR.out.1
          constructor
          · intro _; omega
          · intro _; exact ⟨by omega, by omega⟩
        · rw [if_neg e]
end
end Go.Proofs.Ytmodjkglcgoohaa
