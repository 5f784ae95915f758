/- Package remset: the abstract addition; lists of fine sources. -/
import Derived.Test.YtkmnbaecohhcaaaDoorSs
import Derived.Deep.RegionHeld3
import Derived.Deep.CutRange
namespace Go.Proofs.YtkmnbaecohhcaaaDoor
set_option linter.unusedVariables false
set_option linter.unusedSimpArgs false
open Go.RowKit Go.Gl

theorem nodup_cnt (q : Nat → Bool) : ∀ (n : Nat) (l : List Nat), l.Nodup → (∀ s, s ∈ l ↔ s < n ∧ q s = true) → l.length = cnt q 0 n
  | 0, l, _, h => by
    cases l with
    | nil => rfl
    | cons a r => exact absurd ((h a).1 (by simp)).1 (by omega)
  | n + 1, l, hn, h => by
    have ih := nodup_cnt q n (l.filter fun x => !(x == n)) (hn.filter _) (fun s => by
      rw [List.mem_filter, h s]
      simp
      constructor
      · rintro ⟨⟨h1, h2⟩, h3⟩; exact ⟨by omega, h2⟩
      · rintro ⟨h1, h2⟩; exact ⟨⟨by omega, h2⟩, by omega⟩)
    have h1 := List.length_eq_countP_add_countP (fun x => x == n) (l := l)
    have h2 : l.countP (fun x => x == n) = if q n = true then 1 else 0 := by
      split
      · rename_i hq
        exact List.Nodup.count (hn) |>.trans (if_pos ((h n).2 ⟨by omega, hq⟩))
      · rename_i hq
        refine List.countP_eq_zero.2 fun x hx => ?_
        simp
        rintro rfl
        exact hq ((h x).1 hx).2
    rw [← List.countP_eq_length_filter] at ih
    simp only [cnt, Nat.zero_add]
    rw [h1, h2]
    have e : l.countP (fun x => decide ¬(x == n) = true) = l.countP (fun x => !(x == n)) := by congr 1; funext x; cases (x == n) <;> rfl
    rw [e, ih]
    omega
/-- How many sources of a home are fine. -/
def nFine (σ : RS) (n h : Nat) : Nat := cnt (fun s => σ.way h s == 2) 0 n
def BestOf (σ : RS) (per n h m : Nat) : Prop := m < n ∧ σ.way h m = 2 ∧ ∀ x, x < n → σ.way h x = 2 → Bet σ per h m x
theorem BestOf.uniq {σ : RS} {per n h m m' : Nat} (h1 : BestOf σ per n h m) (h2 : BestOf σ per n h m') : m = m' := (h1.2.2 _ h2.1 h2.2.1).antisymm (h2.2.2 _ h1.1 h1.2.1)
noncomputable def bestOf (σ : RS) (per n h : Nat) : Nat := Classical.epsilon fun m => BestOf σ per n h m
theorem bestOf_eq {σ : RS} {per n h m : Nat} (hb : BestOf σ per n h m) : bestOf σ per n h = m := (Classical.epsilon_spec (p := fun m => BestOf σ per n h m) ⟨m, hb⟩).uniq hb
/-- Too many fine ones: the best becomes coarse. -/
noncomputable def coarsen (σ : RS) (per n h : Nat) : RS := if 4 < nFine σ n h then σ.put per h (bestOf σ per n h) 3 (fun _ => false) else σ
/-- A card is added to those of its source. -/
def plus (σ : RS) (h c : Nat) : Nat → Bool := fun x => σ.has h x || decide (x = c)
/-- What Add leaves, if the set doesn't have the card. -/
noncomputable def addS (σ : RS) (per n h c : Nat) : RS :=
  if σ.way h (c / per) = 2 then σ.put per h (c / per) 2 (plus σ h c)
  else if cntS (σ.put per h (c / per) 1 (plus σ h c)) per h (c / per) ≤ 4 then σ.put per h (c / per) 1 (plus σ h c)
  else coarsen (σ.put per h (c / per) 2 (plus σ h c)) per n h
theorem Fi.upd {w w3 : World} {tg tg' : Tg} {fB n h : Nat} {p : Nat → Nat → Prop} {q : Nat → Prop} {V : Nat → Value} {F G : List Nat} {A : Option Addr} {c : Nat} {l : List Nat} (H : Fi w tg fB n p V) (hh : h < n) (hf : Fr F w w3) (hF : ∀ b, b ∈ F → tg b = (8, h, 0) ∨ ((tg b).1 ≠ 5 ∧ (tg b).1 ≠ 8))
    (hu : TgUp w tg tg') (hl : Lr w3 3 A l.length c G (zv (ints l))) (hG : ∀ g, g ∈ G → tg' g = (8, h, 0)) (hnd : l.Nodup) (hm : ∀ s, s ∈ l ↔ s < n ∧ q s) :
    Fi (w3.setCell ⟨fB, h, none⟩ (.slice A l.length c)) tg' fB n (fun a b => if a = h then q b else p a b) (putF V h (.slice A l.length c)) := by
  have hF5 : Fr [fB] w3 (w3.setCell ⟨fB, h, none⟩ (.slice A l.length c)) := (Fr.refl _ _).setCell (p := ⟨fB, h, none⟩) (.inl (by simp)) _
  have hb : fB ∉ F := fun hb => by rcases hF _ hb with e | e <;> rw [H.tag] at e <;> simp at e
  have htB : tg' fB = (5, 0, 0) := (hu _ H.row.lt).trans H.tag
  have hrow := (H.row.fr hf hb).put h (.slice A l.length c)
  rw [rowF_set] at hrow
  refine ⟨hrow, htB, fun r hr => ?_⟩
  by_cases e : r = h
  · subst e
    rw [putF_at]
    exact ⟨A, c, G, l, rfl, hl.fr hF5 (fun g hg hg2 => by simp at hg2; subst hg2; have := hG _ hg; rw [htB] at this; cases this), hG, hnd, fun s => by rw [hm s]; simp⟩
  · rw [putF_ne _ _ e]
    refine (((H.own r hr).fr hf (fun b hb hq => ?_) hu).fr hF5 (fun b hb hq => ?_) (TgUp.refl _ _)).congr fun x hx => by simp [e]
    · rcases hF b hb with e2 | e2
      · rw [e2] at hq; injection hq with _ h2; injection h2 with h2; exact e h2.symm
      · rw [hq] at e2; exact e2.2 rfl
    · simp at hb; subst hb; rw [htB] at hq; cases hq
theorem Fi.len {w : World} {tg : Tg} {fB n h : Nat} {σ : RS} {V : Nat → Value} (H : Fi w tg fB n (fun a b => σ.way a b = 2) V) (hh : h < n) : ∃ A c G, ∃ l : List Nat, V h = .slice A l.length c ∧ Lr w 3 A l.length c G (zv (ints l)) ∧ (∀ g, g ∈ G → tg g = (8, h, 0)) ∧ l.Nodup ∧ (∀ s, s ∈ l ↔ s < n ∧ σ.way h s = 2) ∧ l.length = nFine σ n h := by
  obtain ⟨A, c, G, l, e1, e2, e3, e4, e5⟩ := H.own h hh
  exact ⟨A, c, G, l, e1, e2, e3, e4, e5, nodup_cnt _ n l e4 fun s => by rw [e5 s]; simp⟩
end Go.Proofs.YtkmnbaecohhcaaaDoor
/- Package remset: makeFine. -/
namespace Go.Proofs.YtkmnbaecohhcaaaDoor
set_option linter.unusedVariables false
set_option linter.unusedSimpArgs false
open Go.RowKit Go.Gl

/-- 's.fine[p.home] = append(s.fine[p.home], p.source)' alone, as a cut's relation. -/
def SGrew (w : World) (fB h len : Nat) (l : List Nat) (s : Nat) (G : List Nat) (wc : World) : Prop :=
  ∃ A' c' G', ∃ w' : World, Lr w' 3 A' (len + 1) c' G' (zv (ints l) ++ [.int .i64 (s : Int)]) ∧ Fr G (w.alloc (.cells #[.int .i64 (s : Int)] 3)).drew w' ∧ (∀ g, g ∈ G' → g ∈ G ∨ (g = (w.alloc (.cells #[.int .i64 (s : Int)] 3)).drew.heap.size ∧ 0 < 1)) ∧ wc = w'.setCell ⟨fB, h, none⟩ (.slice A' (len + 1) c')
def MfPost (w : World) (tg : Tg) (kb fB per n : Nat) (σ' : RS) (e : Ending) (w' : World) : Prop :=
  ∃ tg' fk' V' F, e = .returned (.tuple #[]) ∧ Kn w' tg' kb per n σ' fk' ∧ Fi w' tg' fB n (fun a b => σ'.way a b = 2) V' ∧ Fr F w w' ∧ (∀ b, b ∈ F → (tg b).1 = 2 ∨ (tg b).1 = 5 ∨ (tg b).1 = 8) ∧ TgUp w tg tg' ∧ TgOk w' tg'
theorem wbit_rep (L i : Nat) : wbit (List.replicate L 0) i = false := wbit_zero L i
end Go.Proofs.YtkmnbaecohhcaaaDoor
/- Package remset: forget. -/
namespace Go.Proofs.YtkmnbaecohhcaaaDoor
set_option linter.unusedVariables false
set_option linter.unusedSimpArgs false
open Go.RowKit Go.Gl

theorem IxAt.shape {w : World} {tg : Tg} {kd n r : Nat} {p : Nat → Prop} {v : Value} (h : IxAt w tg kd n r p v) : ∃ mb, v = .map mb := by
  rcases h with ⟨e, _⟩ | ⟨b, f, e, _⟩
  · exact ⟨_, e⟩
  · exact ⟨_, e⟩
/-- One deletion from an index. -/
theorem Ix.drop {w w' : World} {tg : Tg} {kd rB n r x : Nat} {p : Nat → Nat → Prop} {V : Nat → Value} {b : Nat} (h : Ix w tg kd rB n p V) (hkd : 4 ≤ kd) (hr : r < n) (hv : V r = .map (some b)) {f : Value → Option Value}
    (hm : Mp Tryd.prog 3 w b f) (ht : tg b = (kd, r, 0)) (hfs : ∀ x v, f x = some v → ∃ s : Nat, s < n ∧ x = .int .i64 (s : Int)) (hfp : ∀ s : Nat, s < n → (f (.int .i64 (s : Int)) ≠ none ↔ p r s)) (hM : Mp Tryd.prog 3 w' b (offF f (.int .i64 (x : Int)))) (hF : Fr [b] w w') :
    Ix w' tg kd rB n (fun a c => p a c ∧ ¬ (a = r ∧ c = x)) V := by
  have hbB : b ≠ rB := hm.blk_ne h.row
  refine ⟨h.row.fr hF (by simpa using Ne.symm hbB), h.tag, fun r' hr' => ?_⟩
  by_cases e : r' = r
  · subst e
    rw [hv]
    refine .inr ⟨b, _, rfl, hM, ht, fun y v hy => ?_, fun s hs => ?_⟩
    · by_cases e2 : y = .int .i64 (x : Int)
      · subst e2; rw [offF_at] at hy; cases hy
      · rw [offF_ne _ e2] at hy; exact hfs y v hy
    · by_cases e2 : s = x
      · subst e2; rw [offF_at]; simp
      · rw [offF_ne _ (by simp; omega), hfp s hs]; simp [e2]
  · exact ((h.own r' hr').fr hF (fun y hy hq => by simp at hy; subst hy; rw [ht] at hq; injection hq with _ h2; injection h2 with h2; exact e h2.symm) (TgUp.refl _ _)).congr fun y hy => by simp [e]
theorem Ix.drop0 {w : World} {tg : Tg} {kd rB n r x : Nat} {p : Nat → Nat → Prop} {V : Nat → Value} (h : Ix w tg kd rB n p V) (hno : ∀ y, y < n → ¬ p r y) : Ix w tg kd rB n (fun a c => p a c ∧ ¬ (a = r ∧ c = x)) V :=
  h.congr fun a ha c hc => by
    by_cases e : a = r
    · subst e; simp [hno c hc]
    · simp [e]
/-- A deletion from an index, at the operation. -/
theorem wp_drop_ix {w w0 : World} {tg : Tg} {kd rB n r x : Nat} {p : Nat → Nat → Prop} {V : Nat → Value} {mb : Option Nat} {o : Oper} {a : Act} {K : Act → World → Prop} {Q : Exit → Act → World → Prop} (m xo : Operand)
    (hop : o.op = .call { callee := .builtin .delete, args := #[m, xo], argTypes := #[188, 3] }) (h : Ix w0 tg kd rB n p V) (hf : Fr [] w0 w) (hkd : 4 ≤ kd) (hr : r < n) (hv : V r = .map mb) (hm : a.eval m = .map mb) (hx : a.eval xo = .int .i64 (x : Int)) (hxn : x ≤ 65536)
    (hK : ∀ w' F, Hid (Ix w' tg kd rB n (fun a c => p a c ∧ ¬ (a = r ∧ c = x)) V) → Hid (Fr F w w') → Hid (∀ b, b ∈ F → tg b = (kd, r, 0)) → Hid (∀ b, V r = .map (some b) → Lost w w' b (.int .i64 (x : Int))) → K (a.put o.dst (.tuple #[])) w') : Oper.wp Tryd.prog o a w K Q := by
  have h' := h.fr hf (fun _ hb => by cases hb) (TgUp.refl _ _)
  have hkey := intKey (x : Int) (wf_nat (by omega))
  rcases h'.own r hr with ⟨e, hno⟩ | ⟨b, f, e, hM, ht, hfs, hfp⟩
  · rw [hv] at e
    cases e
    exact wp_drop_nil m xo _ hop Tryd.intLaw Tryd.underlying188 hm hx hkey (hK w [] (h'.drop0 hno) (Fr.refl _ _) (fun _ hb => by cases hb) (fun b hb => by rw [hv] at hb; cases hb))
  · have e0 := e
    rw [hv] at e
    cases e
    refine wp_drop m xo _ hop Tryd.intLaw Tryd.underlying188 hM (Fr.refl _ _) hm hx hkey fun w' hM' hF hL => hK w' [b] (h'.drop hkd hr e0 hM ht hfs hfp hM'.out hF.out) hF (fun y hy => by simp at hy; subst hy; exact ht) (fun y hy => by rw [e0] at hy; cases hy; exact hL.out)
/-- What forget leaves. -/
def ForPost (w : World) (tg : Tg) (sb kb sB hB fB per n h s : Nat) (σ : RS) (Vs Vh : Nat → Value) (e : Ending) (w' : World) : Prop :=
  ∃ fk' Vf' F, e = .returned (.tuple #[]) ∧ Rs w' tg sb kb sB hB fB per n (σ.put per h s 0 (fun _ => false)) fk' Vs Vh Vf' ∧ Fr F w w' ∧ (∀ b, b ∈ F → (tg b).1 ≠ 0) ∧
    (∀ b, Vs h = .map (some b) → Lost w w' b (.int .i64 (s : Int))) ∧ ∀ b, Vh s = .map (some b) → Lost w w' b (.int .i64 (h : Int))
end Go.Proofs.YtkmnbaecohhcaaaDoor
/- Package remset: Clear. -/
namespace Go.Proofs.YtkmnbaecohhcaaaDoor
set_option linter.unusedVariables false
set_option linter.unusedSimpArgs false
open Go.RowKit Go.Gl

theorem mp_unique {P : Program} {k : TypeId} {w : World} {b : Nat} {f g : Value → Option Value} (h : Mp P k w b f) (h' : Mp P k w b g) : f = g := by
  obtain ⟨es, c, hb, E⟩ := h
  obtain ⟨es', c', hb', E'⟩ := h'
  rw [hb] at hb'
  cases hb'
  funext x
  cases hf : f x with
  | some v =>
    obtain ⟨e, he, rfl, rfl⟩ := E.ofF x v hf
    exact (E'.val e he).symm
  | none =>
    cases hg : g x with
    | none => rfl
    | some v =>
      obtain ⟨e, he, rfl, rfl⟩ := E'.ofF x v hg
      rw [E.val e he] at hf; cases hf
theorem wp_nextI {P : Program} {k : TypeId} {w : World} {b r cnt n : Nat} {f : Value → Option Value} {left : Value → Prop} {o : Oper} {a : Act} {K : Act → World → Prop} {Q : Exit → Act → World → Prop} (it : Operand) (hop : o.op = Op.next it false) (hit : a.eval it = .pointer (some ⟨r, 0, none⟩)) (h : Rng P k w b r f left cnt)
    (hks : ∀ x v, f x = some v → ∃ s : Nat, s < n ∧ x = .int .i64 (s : Int)) (hDone : Hid (∀ x v, f x = some v → ¬ left x) → K (a.put o.dst (.tuple #[.bool false])) w)
    (hMore : ∀ (s : Nat) v w' cnt', Hid (s < n) → Hid (f (.int .i64 (s : Int)) = some v) → Hid (left (.int .i64 (s : Int))) → Hid (Rng P k w' b r f (fun x => left x ∧ x ≠ .int .i64 (s : Int)) cnt') → Hid (cnt' < cnt) → Hid (Fr [r] w w') → (Instr.entry (.pointer (some ⟨r, 0, none⟩))).run P w' = .ok (.tuple #[.int .i64 (s : Int), v]) w' → K (a.put o.dst (.tuple #[.bool true, .int .i64 (s : Int), v])) w') : Oper.wp P o a w K Q :=
  wp_next it hop hit h (fun _ hd => hDone hd) fun key v w' cnt' hf hl hg hlt hF hen => by
    obtain ⟨s, hs, rfl⟩ := hks key v hf
    exact hMore s v w' cnt' hs hf hl hg hlt hF hen
def RS.clear (σ : RS) (h : Nat) : RS := ⟨fun a b => if a = h then 0 else σ.way a b, fun a c => if a = h then false else σ.has a c⟩
theorem RS.ext {σ τ : RS} (h1 : ∀ a b, σ.way a b = τ.way a b) (h2 : ∀ a c, σ.has a c = τ.has a c) : σ = τ := by
  cases σ; cases τ
  simp only [RS.mk.injEq]
  exact ⟨funext fun a => funext fun b => h1 a b, funext fun a => funext fun c => h2 a c⟩
def ClrPost (w : World) (tg : Tg) (sb kb sB hB fB per n : Nat) (σ σ' : RS) (Vs Vh : Nat → Value) (er : Int) (e : Ending) (w' : World) : Prop :=
  ∃ fk' Vf' F, e = .returned (.int .i64 er) ∧ Rs w' tg sb kb sB hB fB per n σ' fk' Vs Vh Vf' ∧ Fr F w w' ∧ ∀ b, b ∈ F → (tg b).1 ≠ 0
section
variable {w : World} {tg : Tg} {sb kb sB hB fB per n : Nat} {σ : RS} {fk : Value → Option Value} {Vs Vh Vf : Nat → Value}
/-- The state of the loop: what has been forgotten. -/
structure Half (per h : Nat) (σ τ : RS) : Prop where
  way : ∀ a b, a ≠ h → τ.way a b = σ.way a b
  has : ∀ a c, a ≠ h → τ.has a c = σ.has a c
end
end Go.Proofs.YtkmnbaecohhcaaaDoor
/- Package remset: Scrub. -/
namespace Go.Proofs.YtkmnbaecohhcaaaDoor
set_option linter.unusedVariables false
set_option linter.unusedSimpArgs false
open Go.RowKit Go.Gl

def RS.scrub (σ : RS) (per s : Nat) : RS := ⟨fun a b => if b = s then 0 else σ.way a b, fun a c => if c / per = s then false else σ.has a c⟩
section
variable {w : World} {tg : Tg} {sb kb sB hB fB per n : Nat} {σ : RS} {fk : Value → Option Value} {Vs Vh Vf : Nat → Value}
/-- The state of the loop: what has been forgotten. -/
structure Half2 (per h : Nat) (σ τ : RS) : Prop where
  way : ∀ a b, b ≠ h → τ.way a b = σ.way a b
  has : ∀ a c, c / per ≠ h → τ.has a c = σ.has a c
end
end Go.Proofs.YtkmnbaecohhcaaaDoor
/- Package remset: helpers for remember. -/
namespace Go.Proofs.YtkmnbaecohhcaaaDoor
set_option linter.unusedVariables false
set_option linter.unusedSimpArgs false
open Go.RowKit Go.Gl

theorem Fr_old {F : List Nat} {w w' : World} (h : Fr F w w') : Fr (F.filter (· < w.heap.size)) w w' := h.mono fun x hx => by
  by_cases e : x < w.heap.size
  · exact .inl (List.mem_filter.2 ⟨hx, by simpa using e⟩)
  · exact .inr (by omega)
theorem RS.put_congr {σ : RS} {per h s k : Nat} {g g' : Nat → Bool} (e : ∀ x, x / per = s → g x = g' x) : σ.put per h s k g = σ.put per h s k g' :=
  RS.ext (fun a b => rfl) fun a c => by
    simp only [RS.put]
    split
    · rename_i h1; exact e c h1.2
    · rfl
theorem Kn.keep {w w' : World} {tg tg' : Tg} {F : List Nat} {per n h s kb k : Nat} {g : Nat → Bool} {σ : RS} {fk : Value → Option Value} {v : Value} (hK : Kn w tg kb per n σ fk) (hk : k ≠ 0) (hw : σ.way h s ≠ 0) (hv : fk (pairV h s) = some v) (hf : Fr F w w') (hF : ∀ b, b ∈ F → (tg b).1 ≠ 2 ∧ ((tg b).1 = 9 ∨ (tg b).1 = 10 → (tg b).2 = (h, s))) (hu : TgUp w tg tg')
    (hm : MemIs w' tg' per g k h s v) : Kn w' tg' kb per n (σ.put per h s k g) fk := by
  refine ⟨hK.mp.fr hf (fun hb => (hF _ hb).1 (by rw [hK.tag])), (hu _ hK.mp.lt).trans hK.tag, fun x v' hx => ?_, fun a b ha hb hwab => ?_⟩
  · obtain ⟨a, b, h1, h2, h3, h4⟩ := hK.key _ _ hx
    refine ⟨a, b, h1, h2, h3, ?_⟩
    by_cases e : a = h ∧ b = s
    · obtain ⟨rfl, rfl⟩ := e; rw [RS.way_at]; exact hk
    · rw [RS.way_ne _ _ _ _ e]; exact h4
  · by_cases e : a = h ∧ b = s
    · obtain ⟨rfl, rfl⟩ := e
      refine ⟨v, hv, ?_⟩
      rw [RS.way_at]
      exact hm.congr fun c hc => (RS.has_at _ _ _ _ _ _ hc).symm
    · rw [RS.way_ne _ _ _ _ e] at hwab ⊢
      obtain ⟨v', e1, e2⟩ := hK.mem a b ha hb hwab
      refine ⟨v', e1, ((e2.fr hf (fun y hy => ?_) hu)).congr fun c hc => (RS.has_ne _ _ _ _ (fun e4 => e ⟨e4.1, hc.symm.trans e4.2⟩)).symm⟩
      have h1 := (hF y hy).2
      constructor
      · intro e5; rw [e5] at h1; have := h1 (.inl rfl); injection this with h6 h7; exact e ⟨h6, h7⟩
      · intro e5; rw [e5] at h1; have := h1 (.inr rfl); injection this with h6 h7; exact e ⟨h6, h7⟩
/-- Put into its place among the smaller and the greater ones. -/
def insAt (l : List Int) (x : Int) : List Int := l.take (l.countP (· < x)) ++ x :: l.drop (l.countP (· < x))
theorem insAt_mem {l : List Int} {x y : Int} : y ∈ insAt l x ↔ y = x ∨ y ∈ l := by
  unfold insAt
  rw [List.mem_append, List.mem_cons]
  conv => rhs; rw [← List.take_append_drop (l.countP (· < x)) l, List.mem_append]
  constructor
  · rintro (h | h | h)
    · exact .inr (.inl h)
    · exact .inl h
    · exact .inr (.inr h)
  · rintro (h | h | h)
    · exact .inr (.inl h)
    · exact .inl h
    · exact .inr (.inr h)
theorem insAt_len (l : List Int) (x : Int) : (insAt l x).length = l.length + 1 := by
  have : l.countP (· < x) ≤ l.length := List.countP_le_length
  simp [insAt]; omega
theorem sorted_cut {x : Int} : ∀ {l : List Int}, l.Pairwise (· < ·) → x ∉ l → (∀ y, y ∈ l.take (l.countP (· < x)) → y < x) ∧ ∀ y, y ∈ l.drop (l.countP (· < x)) → x < y
  | [], _, _ => by simp
  | a :: r, hp, hx => by
    obtain ⟨h1, h2⟩ := List.pairwise_cons.1 hp
    have hxa : x ≠ a := fun e => hx (by simp [e])
    have hxr : x ∉ r := fun e => hx (by simp [e])
    by_cases ha : a < x
    · have ih := sorted_cut h2 hxr
      rw [List.countP_cons_of_pos (by simpa using ha)]
      simp only [List.take_succ_cons, List.drop_succ_cons, List.mem_cons]
      exact ⟨fun y hy => by rcases hy with rfl | hy; exact ha; exact ih.1 y hy, ih.2⟩
    · have h0 : (a :: r).countP (· < x) = 0 := List.countP_eq_zero.2 fun y hy => by
        simp
        rcases List.mem_cons.1 hy with rfl | hy
        · omega
        · have := h1 y hy; omega
      rw [h0]
      simp only [List.take_zero, List.drop_zero]
      refine ⟨by simp, fun y hy => ?_⟩
      rcases List.mem_cons.1 hy with rfl | hy
      · omega
      · have := h1 y hy; omega
theorem insAt_up {l : List Int} {x : Int} (hp : l.Pairwise (· < ·)) (hx : x ∉ l) : (insAt l x).Pairwise (· < ·) := by
  obtain ⟨h1, h2⟩ := sorted_cut hp hx
  unfold insAt
  refine List.pairwise_append.2 ⟨hp.sublist (List.take_sublist _ _), List.pairwise_cons.2 ⟨fun y hy => h2 y hy, hp.sublist (List.drop_sublist _ _)⟩, fun a ha b hb => ?_⟩
  rcases List.mem_cons.1 hb with rfl | hb
  · exact h1 a ha
  · have := h1 a ha; have := h2 b hb; omega
/-- How long the list of a source's cards is. -/
theorem few_cnt {per s : Nat} {g : Nat → Bool} {σ : RS} {h k : Nat} (hp : 1 ≤ per) {l : List Int} (hup : l.Pairwise (· < ·)) (hm : ∀ x, x ∈ l ↔ ∃ c : Nat, x = (c : Int) ∧ c / per = s ∧ g c = true) : l.length = cntS (σ.put per h s k g) per h s := by
  unfold cntS
  have key : ∀ c : Nat, c / per = s → s * per ≤ c ∧ c - s * per < per ∧ s * per + (c - s * per) = c := fun c hc => by
    have h1 : c / per * per + c % per = c := by rw [Nat.mul_comm]; exact Nat.div_add_mod c per
    have h2 : c % per < per := Nat.mod_lt _ hp
    rw [hc] at h1
    omega
  have : (l.map fun x => x.toNat - s * per).length = cnt (fun i => (σ.put per h s k g).has h (s * per + i)) 0 per := by
    refine nodup_cnt _ per _ (List.pairwise_map.2 (hup.imp_of_mem fun {a b} ha hb hab => ?_)) fun i => ?_
    · obtain ⟨c, rfl, hc, _⟩ := (hm a).1 ha
      obtain ⟨d, rfl, hd, _⟩ := (hm b).1 hb
      have h1 := key c hc
      have h2 := key d hd
      simp only [Int.toNat_natCast, ne_eq]
      omega
    · rw [List.mem_map]
      constructor
      · rintro ⟨x, hx, rfl⟩
        obtain ⟨c, rfl, hc, hg⟩ := (hm x).1 hx
        have h1 := key c hc
        simp only [Int.toNat_natCast]
        refine ⟨h1.2.1, ?_⟩
        rw [h1.2.2, RS.has_at _ _ _ _ _ _ hc]
        exact hg
      · rintro ⟨hi, hg⟩
        have hc : (s * per + i) / per = s := by rw [Nat.mul_comm, Nat.mul_add_div (by omega), Nat.div_eq_of_lt hi, Nat.add_zero]
        rw [RS.has_at _ _ _ _ _ _ hc] at hg
        exact ⟨((s * per + i : Nat) : Int), (hm _).2 ⟨_, rfl, hc, hg⟩, by simp only [Int.toNat_natCast]; omega⟩
  rw [← this, List.length_map]
end Go.Proofs.YtkmnbaecohhcaaaDoor
