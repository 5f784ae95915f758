/- The sorted keys of a map keyed by int, by the library's contracts. -/
import Derived.Test.YtkbffmmomoeaiaaDoorSh
import Derived.Test.YtkbffmmomoeaiaaDoorS0
namespace Go.Proofs.YtkbffmmomoeaiaaDoor
set_option linter.unusedVariables false
open Go.RowKit Go.Gl Go.Shelf Go.Maps Go.Sort
open Go.WideElems (Fit rd rg rd_key rg_of rd_mk)

theorem nodup_below : ∀ (n : Nat) (l : List Nat), l.Nodup → (∀ x ∈ l, x < n) → l.length ≤ n
  | 0, l, _, h => by
    cases l with
    | nil => simp
    | cons a r => exact absurd (h a (by simp)) (by omega)
  | n + 1, l, hn, h => by
    have h1 := List.length_eq_countP_add_countP (fun x => x == n) (l := l)
    have h2 : l.countP (fun x => x == n) ≤ 1 := List.nodup_iff_count.1 hn n
    have h3 := nodup_below n (l.filter fun x => !(x == n)) (hn.filter _) (fun x hx => by
      obtain ⟨a, b⟩ := List.mem_filter.1 hx
      have := h x a
      simp at b
      omega)
    rw [← List.countP_eq_length_filter] at h3
    simp only [decide_not, Bool.decide_eq_true] at h1 h3
    have e : l.countP (fun x => !(x == n)) = l.countP (fun x => decide ¬(x == n) = true) := by congr 1; funext x; cases (x == n) <;> rfl
    simp only [decide_not, Bool.decide_eq_true] at e
    omega
def unitR : Value → Option (DataW Unit × List MemPlace) := fun _ => some (.nil, [])
theorem ents_keys {es : Array MapEntry} {clock : Nat} {f : Value → Option Value} (E : Ents Tryd.prog 3 es clock f) {n : Nat} (hn : n ≤ 1048576) (hk : ∀ x v, f x = some v → ∃ s : Nat, s < n ∧ x = .int .i64 (s : Int)) :
    es.size ≤ n ∧ Fit Tryd.prog 3 unitR es clock ∧ ∀ x ∈ es.toList, ∃ s : Nat, s < n ∧ x.key = .int .i64 (s : Int) ∧ (rg Tryd.prog 3 unitR x).1 = .int .i64 (s : Int) := by
  have h1 : ∀ x ∈ es.toList, ∃ s : Nat, s < n ∧ x.key = .int .i64 (s : Int) ∧ rd Tryd.prog 3 unitR x = some (.int .i64 (s : Int), .nil) := fun x hx => by
    obtain ⟨s, h2, h3⟩ := hk _ _ (E.val x hx)
    have h4 := intKey (s : Int) (wf_nat (by omega))
    rw [← h3] at h4
    exact ⟨s, h2, h3, by unfold WideElems.rd; rw [h4]; rfl⟩
  have hsz : es.size ≤ n := by
    have := nodup_below n (es.toList.map fun x => (match x.key with | .int _ a => a.toNat | _ => 0)) (by
      refine List.pairwise_map.2 (((MapKept.stamped_iff es clock).1 E.st).2.2.imp_of_mem fun {p q} hp hq hne e => hne ?_)
      obtain ⟨a, _, ha, _⟩ := h1 p hp
      obtain ⟨b, _, hb, _⟩ := h1 q hq
      rw [ha, hb] at e ⊢
      simp at e
      rw [e]) (fun y hy => by
      obtain ⟨x, hx, rfl⟩ := List.mem_map.1 hy
      obtain ⟨a, h2, ha, _⟩ := h1 x hx
      rw [ha]; simpa using h2)
    simpa using this
  refine ⟨hsz, ⟨by unfold maxLen; omega, E.st, fun x hx => ?_⟩, fun x hx => ?_⟩
  · obtain ⟨s, _, _, h⟩ := h1 x hx
    exact ⟨_, h⟩
  · obtain ⟨s, h2, h3, h⟩ := h1 x hx
    exact ⟨s, h2, h3, by rw [rg_of h]⟩
theorem keysI_any (mb : Option Nat) (W : World) : Calls Tryd.prog 28 #[.map mb] W fun e w' => e = .returned (.func (.func 43) #[] #[.pointer (some ⟨W.heap.size, 0, none⟩)]) ∧ w' = W.alloc (.cells #[.map mb] 72) :=
  (callsIn_wide (n := 6)).1 (AnyZI.keys_in Tryd.shKeys Fence.wide 6 trivial rfl mb W)
theorem sortsI (m : Nat) : AnyZI.SortsIn Tryd.prog Tryd.shSorted_ren Fence.wide m :=
  ⟨fun blk off cap ss W hH hblk hsz => callsIn_wide.2 (AnyM.slices_Sort_int Tryd.shSort blk off cap ss W hH hblk hsz),
   fun p cap W => callsIn_wide.2 (AnyM.slices_Sort_int_none Tryd.shSort p cap W)⟩
def KeysPost (w : World) (p : Int → Prop) (e : Ending) (w' : World) : Prop := ∃ (A : Option Addr) (c : Nat) (G : List Nat) (ks : List Int), e = .returned (.slice A ks.length c) ∧ Lr w' 3 A ks.length c G (zv ks) ∧ ks.Pairwise (· < ·) ∧ (∀ x, x ∈ ks ↔ p x) ∧ Fr [] w w' ∧ ∀ g, g ∈ G → w.heap.size ≤ g
set_option maxHeartbeats 1000000 in
theorem sortedI_any {w : World} {b : Nat} {f : Value → Option Value} (h : Mp Tryd.prog 3 w b f) {n : Nat} (hn : n ≤ 1048576) (hk : ∀ x v, f x = some v → ∃ s : Nat, s < n ∧ x = .int .i64 (s : Int)) {kb : Nat} (hkb : w.heap.size = kb) {w1 : World} (hw1 : w1 = w.alloc (.cells #[.map (some b)] 72)) :
    Calls Tryd.prog 27 #[.func (.func 43) #[] #[.pointer (some ⟨kb, 0, none⟩)]] w1 (KeysPost w1 fun x => f (.int .i64 x) ≠ none) := by
  subst hkb hw1
  obtain ⟨es, clock, hb, E⟩ := h
  obtain ⟨hsz, F, hkk⟩ := ents_keys E hn hk
  have hbl : b < w.heap.size := (Array.getElem?_eq_some_iff.1 hb).1
  obtain ⟨D0, hD⟩ : ∃ D0 : DataW Unit, D0 = .map ((es.toList.map (rg Tryd.prog 3 unitR)).foldr DataW.insert []) := ⟨_, rfl⟩
  have hown : w.ownsMap Tryd.prog 3 unitR b n D0 := ⟨es, clock, hb, F, hsz, hD⟩
  have hsize : Maps.size D0 ≤ n := by rw [hD]; simp [Maps.size, length_sorted]; exact hsz
  have hmem : ∀ x : Int, x ∈ intKeys D0 ↔ f (.int .i64 x) ≠ none := fun x => by
    rw [hD]
    show x ∈ List.map _ _ ↔ _
    rw [List.mem_map]
    constructor
    · rintro ⟨p, hp, rfl⟩
      obtain ⟨y, hy, rfl⟩ := List.mem_map.1 (mem_sorted.1 hp)
      obtain ⟨s, _, h3, h4⟩ := hkk y hy
      rw [h4]
      have := E.val y hy
      rw [h3] at this
      show f (.int .i64 (s : Int)) ≠ none
      rw [this]; simp
    · intro hx
      obtain ⟨v, hv⟩ := Option.ne_none_iff_exists'.1 hx
      obtain ⟨y, hy, h5, _⟩ := E.ofF _ _ hv
      obtain ⟨s, _, h3, h4⟩ := hkk y hy
      refine ⟨_, mem_sorted.2 (List.mem_map.2 ⟨y, hy, rfl⟩), ?_⟩
      rw [h4]
      rw [h5] at h3
      cases h3
      rfl
  have hnd : (intKeys D0).Nodup := by
    rw [hD]
    show (List.map _ _).Nodup
    have hp := ((Go.WideShapes.sorted_perm (es.toList.map (rg Tryd.prog 3 unitR))).pairwise_iff (fun {_ _} hne => Ne.symm hne)).2 (Maps.fit_apart Tryd.intLaw F)
    refine List.pairwise_map.2 (hp.imp_of_mem fun {p q} hp' hq' hne e => hne ?_)
    obtain ⟨y, hy, rfl⟩ := List.mem_map.1 (mem_sorted.1 hp')
    obtain ⟨z, hz, rfl⟩ := List.mem_map.1 (mem_sorted.1 hq')
    obtain ⟨s, _, _, h4⟩ := hkk y hy
    obtain ⟨s', _, _, h4'⟩ := hkk z hz
    rw [h4, h4'] at e ⊢
    exact congrArg _ e
  refine (callsIn_wide (n := 6)).1 ?_
  have hseq : SeqGives Fence.wide 3 Tryd.prog 43 #[.pointer (some ⟨w.heap.size, 0, none⟩)] encZ (fun ss => ss.Perm (intKeys D0)) (Maps.size D0) (w.alloc (.cells #[.map (some b)] 72)) :=
    AnyZI.keys_gives (ρ := Tryd.shKeys_ren) { Tryd.shKeys with } Fence.wide _ trivial rfl (by omega) w.heap.size b n D0 _ (by simp) (by simp) (by
      obtain ⟨es, clock, hb, Ft, hs, hD⟩ := hown
      exact ⟨es, clock, (Below.heap_alloc _ _ b hbl).trans hb, Ft, hs, hD⟩)
  have cS := AnyZI.sorted_in Tryd.shSorted Fence.wide 6 trivial trivial trivial trivial rfl (by omega) (sortsI _) (enters_of Tryd.func42 (by kernel_rfl) rfl) 43 #[.pointer (some ⟨w.heap.size, 0, none⟩)] trivial (enters_of Tryd.func43 (by kernel_rfl) rfl) _ _ (by unfold maxLen; omega) (by omega) _ hseq
  refine cS.mono ?_
  rintro e w' ⟨v, ss, rfl, hS, hrow, hnil, hbel⟩
  have hlen : (ss.mergeSort fun x y => decide (x ≤ y)).length = ss.length := List.length_mergeSort ss
  have hperm := List.mergeSort_perm ss (fun x y => decide (x ≤ y))
  obtain ⟨A, c, G, rfl, hl, hg⟩ := Lr.of_own hrow
  refine ⟨A, c, G, ss.mergeSort fun x y => decide (x ≤ y), by rw [hlen], by rw [hlen]; exact hl, ?_, fun x => ?_, Fr.of_below hbel, hg⟩
  · have hle := List.pairwise_mergeSort (le := fun x y : Int => decide (x ≤ y)) (fun a b c h1 h2 => by simp at *; omega) (fun a b => by simp; omega) ss
    have hnd' : (ss.mergeSort fun x y => decide (x ≤ y)).Nodup := (hperm.trans hS).nodup_iff.2 hnd
    refine (hle.and hnd').imp fun {a b} h => ?_
    obtain ⟨h1, h2⟩ := h
    simp at h1
    omega
  · rw [(hperm.trans hS).mem_iff]
    exact hmem x
set_option maxHeartbeats 1000000 in
theorem sortedI_nil {w : World} {kb : Nat} (hkb : w.heap.size = kb) {w1 : World} (hw1 : w1 = w.alloc (.cells #[.map none] 72)) :
    Calls Tryd.prog 27 #[.func (.func 43) #[] #[.pointer (some ⟨kb, 0, none⟩)]] w1 (KeysPost w1 fun _ => False) := by
  subst hkb hw1
  refine (callsIn_wide (n := 6)).1 ?_
  have hseq : SeqGives Fence.wide 3 Tryd.prog 43 #[.pointer (some ⟨w.heap.size, 0, none⟩)] encZ (fun ss : List Int => ss = []) 0 (w.alloc (.cells #[.map none] 72)) :=
    AnyZI.keys_gives_nil (ρ := Tryd.shKeys_ren) { Tryd.shKeys with } Fence.wide _ trivial rfl w.heap.size _ (by simp) (by simp)
  have cS := AnyZI.sorted_in Tryd.shSorted Fence.wide 6 trivial trivial trivial trivial rfl (by omega) (sortsI _) (enters_of Tryd.func42 (by kernel_rfl) rfl) 43 #[.pointer (some ⟨w.heap.size, 0, none⟩)] trivial (enters_of Tryd.func43 (by kernel_rfl) rfl) _ 0 (Nat.zero_le _) (by omega) _ hseq
  refine cS.mono ?_
  rintro e w' ⟨v, ss, rfl, rfl, hrow, hnil, hbel⟩
  obtain ⟨A, c, G, rfl, hl, hg⟩ := Lr.of_own hrow
  exact ⟨A, c, G, [], rfl, by have h2 := hl; simp only [List.mergeSort_nil, List.map_nil, show Tryd.shSorted_ren.t 26 = 3 from rfl] at h2; exact h2, .nil, by simp, Fr.of_below hbel, hg⟩
end Go.Proofs.YtkbffmmomoeaiaaDoor
