/- Package remset: helpers for remember. -/
import Derived.Test.YtkbffmmomoeaiaaDoorSn
import Derived.Test.YtkbffmmomoeaiaaDoorSq
namespace Go.Proofs.YtkbffmmomoeaiaaDoor
set_option linter.unusedVariables false
set_option linter.unusedSimpArgs false
open Go.RowKit Go.Gl

theorem Fr_old {F : List Nat} {w w' : World} (h : Fr F w w') : Fr (F.filter (· < w.heap.size)) w w' := h.mono fun x hx => by
  by_cases e : x < w.heap.size
  · exact .inl (List.mem_filter.2 ⟨hx, by simpa using e⟩)
  · exact .inr (by omega)
theorem RS.put_congr {σ : RS} {per h s k : Nat} {g g' : Nat → Bool} (e : ∀ x, x / per = s → g x = g' x) : σ.put per h s k g = σ.put per h s k g' :=
  RS.ext (fun a b => rfl) fun a c => by
    simp only [RS.put]
    split
    · rename_i h1; exact e c h1.2
    · rfl
theorem Kn.keep {w w' : World} {tg tg' : Tg} {F : List Nat} {per n h s kb k : Nat} {g : Nat → Bool} {σ : RS} {fk : Value → Option Value} {v : Value} (hK : Kn w tg kb per n σ fk) (hk : k ≠ 0) (hw : σ.way h s ≠ 0) (hv : fk (pairV h s) = some v) (hf : Fr F w w') (hF : ∀ b, b ∈ F → (tg b).1 ≠ 2 ∧ ((tg b).1 = 9 ∨ (tg b).1 = 10 → (tg b).2 = (h, s))) (hu : TgUp w tg tg')
    (hm : MemIs w' tg' per g k h s v) : Kn w' tg' kb per n (σ.put per h s k g) fk := by
  refine ⟨hK.mp.fr hf (fun hb => (hF _ hb).1 (by rw [hK.tag])), (hu _ hK.mp.lt).trans hK.tag, fun x v' hx => ?_, fun a b ha hb hwab => ?_⟩
  · obtain ⟨a, b, h1, h2, h3, h4⟩ := hK.key _ _ hx
    refine ⟨a, b, h1, h2, h3, ?_⟩
    by_cases e : a = h ∧ b = s
    · obtain ⟨rfl, rfl⟩ := e; rw [RS.way_at]; exact hk
    · rw [RS.way_ne _ _ _ _ e]; exact h4
  · by_cases e : a = h ∧ b = s
    · obtain ⟨rfl, rfl⟩ := e
      refine ⟨v, hv, ?_⟩
      rw [RS.way_at]
      exact hm.congr fun c hc => (RS.has_at _ _ _ _ _ _ hc).symm
    · rw [RS.way_ne _ _ _ _ e] at hwab ⊢
      obtain ⟨v', e1, e2⟩ := hK.mem a b ha hb hwab
      refine ⟨v', e1, ((e2.fr hf (fun y hy => ?_) hu)).congr fun c hc => (RS.has_ne _ _ _ _ (fun e4 => e ⟨e4.1, hc.symm.trans e4.2⟩)).symm⟩
      have h1 := (hF y hy).2
      constructor
      · intro e5; rw [e5] at h1; have := h1 (.inl rfl); injection this with h6 h7; exact e ⟨h6, h7⟩
      · intro e5; rw [e5] at h1; have := h1 (.inr rfl); injection this with h6 h7; exact e ⟨h6, h7⟩
/-- Put into its place among the smaller and the greater ones. -/
def insAt (l : List Int) (x : Int) : List Int := l.take (l.countP (· < x)) ++ x :: l.drop (l.countP (· < x))
theorem insAt_mem {l : List Int} {x y : Int} : y ∈ insAt l x ↔ y = x ∨ y ∈ l := by
  unfold insAt
  rw [List.mem_append, List.mem_cons]
  conv => rhs; rw [← List.take_append_drop (l.countP (· < x)) l, List.mem_append]
  constructor
  · rintro (h | h | h)
    · exact .inr (.inl h)
    · exact .inl h
    · exact .inr (.inr h)
  · rintro (h | h | h)
    · exact .inr (.inl h)
    · exact .inl h
    · exact .inr (.inr h)
theorem insAt_len (l : List Int) (x : Int) : (insAt l x).length = l.length + 1 := by
  have : l.countP (· < x) ≤ l.length := List.countP_le_length
  simp [insAt]; omega
theorem sorted_cut {x : Int} : ∀ {l : List Int}, l.Pairwise (· < ·) → x ∉ l → (∀ y, y ∈ l.take (l.countP (· < x)) → y < x) ∧ ∀ y, y ∈ l.drop (l.countP (· < x)) → x < y
  | [], _, _ => by simp
  | a :: r, hp, hx => by
    obtain ⟨h1, h2⟩ := List.pairwise_cons.1 hp
    have hxa : x ≠ a := fun e => hx (by simp [e])
    have hxr : x ∉ r := fun e => hx (by simp [e])
    by_cases ha : a < x
    · have ih := sorted_cut h2 hxr
      rw [List.countP_cons_of_pos (by simpa using ha)]
      simp only [List.take_succ_cons, List.drop_succ_cons, List.mem_cons]
      exact ⟨fun y hy => by rcases hy with rfl | hy; exact ha; exact ih.1 y hy, ih.2⟩
    · have h0 : (a :: r).countP (· < x) = 0 := List.countP_eq_zero.2 fun y hy => by
        simp
        rcases List.mem_cons.1 hy with rfl | hy
        · omega
        · have := h1 y hy; omega
      rw [h0]
      simp only [List.take_zero, List.drop_zero]
      refine ⟨by simp, fun y hy => ?_⟩
      rcases List.mem_cons.1 hy with rfl | hy
      · omega
      · have := h1 y hy; omega
theorem insAt_up {l : List Int} {x : Int} (hp : l.Pairwise (· < ·)) (hx : x ∉ l) : (insAt l x).Pairwise (· < ·) := by
  obtain ⟨h1, h2⟩ := sorted_cut hp hx
  unfold insAt
  refine List.pairwise_append.2 ⟨hp.sublist (List.take_sublist _ _), List.pairwise_cons.2 ⟨fun y hy => h2 y hy, hp.sublist (List.drop_sublist _ _)⟩, fun a ha b hb => ?_⟩
  rcases List.mem_cons.1 hb with rfl | hb
  · exact h1 a ha
  · have := h1 a ha; have := h2 b hb; omega
/-- How long the list of a source's cards is. -/
theorem few_cnt {per s : Nat} {g : Nat → Bool} {σ : RS} {h k : Nat} (hp : 1 ≤ per) {l : List Int} (hup : l.Pairwise (· < ·)) (hm : ∀ x, x ∈ l ↔ ∃ c : Nat, x = (c : Int) ∧ c / per = s ∧ g c = true) : l.length = cntS (σ.put per h s k g) per h s := by
  unfold cntS
  have key : ∀ c : Nat, c / per = s → s * per ≤ c ∧ c - s * per < per ∧ s * per + (c - s * per) = c := fun c hc => by
    have h1 : c / per * per + c % per = c := by rw [Nat.mul_comm]; exact Nat.div_add_mod c per
    have h2 : c % per < per := Nat.mod_lt _ hp
    rw [hc] at h1
    omega
  have : (l.map fun x => x.toNat - s * per).length = cnt (fun i => (σ.put per h s k g).has h (s * per + i)) 0 per := by
    refine nodup_cnt _ per _ (List.pairwise_map.2 (hup.imp_of_mem fun {a b} ha hb hab => ?_)) fun i => ?_
    · obtain ⟨c, rfl, hc, _⟩ := (hm a).1 ha
      obtain ⟨d, rfl, hd, _⟩ := (hm b).1 hb
      have h1 := key c hc
      have h2 := key d hd
      simp only [Int.toNat_natCast, ne_eq]
      omega
    · rw [List.mem_map]
      constructor
      · rintro ⟨x, hx, rfl⟩
        obtain ⟨c, rfl, hc, hg⟩ := (hm x).1 hx
        have h1 := key c hc
        simp only [Int.toNat_natCast]
        refine ⟨h1.2.1, ?_⟩
        rw [h1.2.2, RS.has_at _ _ _ _ _ _ hc]
        exact hg
      · rintro ⟨hi, hg⟩
        have hc : (s * per + i) / per = s := by rw [Nat.mul_comm, Nat.mul_add_div (by omega), Nat.div_eq_of_lt hi, Nat.add_zero]
        rw [RS.has_at _ _ _ _ _ _ hc] at hg
        exact ⟨((s * per + i : Nat) : Int), (hm _).2 ⟨_, rfl, hc, hg⟩, by simp only [Int.toNat_natCast]; omega⟩
  rw [← this, List.length_map]
end Go.Proofs.YtkbffmmomoeaiaaDoor
