/- Package heap: the map of what is known; has, references. -/
import Derived.Test.YthacgiajnafpgaaGreatDoorQVd
import Derived.Test.YthacgiajnafpgaaGreatDoorQRo
namespace Go.Gl
set_option linter.unusedVariables false
open Go.RowKit Go.ChangeMaps Go.MapKept
open Go.Maps (Keyed)
theorem Mp.look2 {P : Program} {k : TypeId} {w : World} {b : Nat} {f : Value → Option Value} {t e : TypeId} {z key : Value} {kl : Lit} (h : Mp P k w b f) (K : Keyed P k) (ht : P.underlying t = some (.map k e)) (hz : (zeroValue e).run P w = .ok z w) (hkey : keyOf P k key = some kl) :
    (Instr.lookup t (.map (some b)) key true).run P w = .ok (.tuple #[(f key).getD z, .bool (f key).isSome]) w := by
  obtain ⟨es, clock, hb, E⟩ := h
  rcases K.find w hkey es.toList E.key with ⟨h1, h2⟩ | ⟨j, e0, h1, h2, h3⟩
  · have : f key = none := by
      cases hf : f key with
      | none => rfl
      | some v => obtain ⟨x, hx, h5, _⟩ := E.ofF key v hf; exact absurd h5 (h2 x hx)
    simp [Instr.lookup, run_underlying ht, MapKept.run_getObj_map hb, K.check w _ hkey, h1, hz, Result.andThen, this]
  · have : f key = some e0.val := h3 ▸ E.val e0 (List.mem_of_getElem? h2)
    simp [Instr.lookup, run_underlying ht, MapKept.run_getObj_map hb, K.check w _ hkey, h1, Result.andThen, this]
end Go.Gl
namespace Go.Proofs.YthacgiajnafpgaaGreatDoor
set_option linter.unusedVariables false
set_option linter.unusedSimpArgs false
set_option maxRecDepth 100000
open Go.RowKit Go.Gl

theorem zeroUnit (w : World) : (zeroValue 134).run Tryz.prog w = .ok (.agg #[]) w := by kernel_rfl
/-- The map at mb has just the references to the headers o. -/
def KnownAt (w : World) (mb : Nat) (o : List Int) : Prop :=
  ∃ f, Mp Tryz.prog 67 w mb f ∧ (∀ x v, f x = some v → v = .agg #[]) ∧ ∀ r : Int, 0 ≤ r → r < 18446744073709551616 → (f (.int .u64 r)).isSome = decide (r - 1 ∈ o)
theorem KnownAt.fr {w w' : World} {mb : Nat} {o : List Int} {F : List Nat} (h : KnownAt w mb o) (hf : Fr F w w') (hb : mb ∉ F) : KnownAt w' mb o := by
  obtain ⟨f, h1, h2⟩ := h
  exact ⟨f, h1.fr hf hb, h2⟩
theorem KnownAt.lt {w : World} {mb : Nat} {o : List Int} (h : KnownAt w mb o) : mb < w.heap.size := by
  obtain ⟨f, h1, h2⟩ := h
  exact h1.lt
theorem KnownAt.look {w : World} {mb : Nat} {o : List Int} (h : KnownAt w mb o) {r : Int} (h0 : 0 ≤ r) (h1 : r < 18446744073709551616) :
    (Instr.lookup 225 (.map (some mb)) (.int .u64 r) true).run Tryz.prog w = .ok (.tuple #[.agg #[], .bool (decide (r - 1 ∈ o))]) w := by
  obtain ⟨f, k1, k2, k3⟩ := h
  rw [k1.look2 Tryz.refLaw Tryz.underlying225 (zeroUnit w) (refKey r (wf_u64_of ⟨h0, h1⟩)), k3 r h0 h1]
  have : (f (.int .u64 r)).getD (.agg #[]) = .agg #[] := by
    cases hf : f (.int .u64 r) with
    | none => rfl
    | some v => exact k2 _ _ hf
  rw [this]
def knownB (l o : List Int) : Bool := l.all fun r => decide (r = 0 ∨ r - 1 ∈ o)
/-- What a call that looks and answers references answers. -/
def HrR (w : World) (L : HL) (h : HS) (s k : Nat) (l : List Int) (e : Ending) (w' : World) : Prop :=
  ∃ A cap G, e = .returned (.slice A l.length cap) ∧ Lr w' 67 A l.length cap G (refV l) ∧ (∀ g, g ∈ G → w.heap.size ≤ g) ∧ Hr w' L h s k ∧ Fr [L.ab] w w'
section
variable {w : World} {L : HL} {h : HS} {s k : Nat}
end
end Go.Proofs.YthacgiajnafpgaaGreatDoor
/- Package heap: objects. -/
namespace Go.Proofs.YthacgiajnafpgaaGreatDoor
set_option linter.unusedVariables false
set_option linter.unusedSimpArgs false
set_option maxRecDepth 100000
open Go.RowKit Go.Gl

theorem Fr_union {F G : List Nat} {a b c : World} (h : Fr F a b) (k : Fr G b c) : Fr (F ++ G) a c :=
  (h.mono (G := F ++ G) (fun x hx => .inl (by simp [hx]))).trans k (fun x hx => .inl (by simp [hx]))
/-- From a to b only blocks below B, and such as are new since a, have turned. -/
def Keep (B : Nat) (a b : World) : Prop := ∃ F, Fr F a b ∧ ∀ x, x ∈ F → x < B ∨ a.heap.size ≤ x
theorem Keep.refl (B : Nat) (a : World) : Keep B a a := ⟨[], Fr.refl _ _, fun x hx => by cases hx⟩
theorem Keep.step {B : Nat} {a b c : World} {G : List Nat} (h : Keep B a b) (hf : Fr G b c) (hG : ∀ x, x ∈ G → x < B ∨ a.heap.size ≤ x) : Keep B a c := by
  obtain ⟨F, h1, h2⟩ := h
  exact ⟨F ++ G, Fr_union h1 hf, fun x hx => (List.mem_append.1 hx).elim (h2 x) (hG x)⟩
theorem Keep.own {B : Nat} {a b : World} {A : Option Addr} {l : List Int} (h : Keep B a b) (ho : Own B a A l) : Own B b A l := by
  obtain ⟨F, h1, h2⟩ := h
  exact ho.fr h1 h2
section
variable {h : HS} {s k : Nat}
end
theorem KnownAt.new (w : World) {b : Nat} (hb : w.heap.size = b) : KnownAt (w.alloc (.map #[] 0)) b [] := by
  subst hb
  exact ⟨fun _ => none, Mp.made w, (fun x v h => by cases h), (fun r _ _ => by simp)⟩
theorem KnownAt.add {w' : World} {mb : Nat} {o : List Int} {f : Value → Option Value} (h2 : ∀ x v, f x = some v → v = .agg #[]) (h3 : ∀ r : Int, 0 ≤ r → r < 18446744073709551616 → (f (.int .u64 r)).isSome = decide (r - 1 ∈ o)) {a : Int}
    (hm : Mp Tryz.prog 67 w' mb (upF f (.int .u64 (a + 1)) (.agg #[]))) : KnownAt w' mb (o ++ [a]) := by
  refine ⟨_, hm, fun x v hx => ?_, fun r h0 h1 => ?_⟩
  · by_cases e : x = .int .u64 (a + 1)
    · subst e
      rw [upF_at] at hx
      exact (Option.some.inj hx).symm
    · rw [upF_ne _ _ e] at hx
      exact h2 x v hx
  · by_cases e : r = a + 1
    · subst e
      rw [upF_at]
      simp
    · rw [upF_ne _ _ (fun e1 => e (by injection e1)), h3 r h0 h1]
      have : r - 1 ≠ a := by omega
      simp [this]
/-- The objects so far: at q the list and the map of what is known; t: where the answer will lie. -/
structure OAt (W w : World) (L : HL) (h : HS) (s k : Nat) (t q mb : Nat) (Pg : Nat → Prop) (acc : List Int) : Prop where
  hr : Hr w L h s k
  fr : Fr [L.ab] W w
  res : Blk w t 227 #[.slice none 0 0, .map none]
  own : ∃ A c G, Blk w q 227 #[.slice A acc.length c, .map (some mb)] ∧ Lr w 3 A acc.length c G (zv acc) ∧ ∀ g, g ∈ G → W.heap.size ≤ g ∧ Pg g
  kn : KnownAt w mb acc
theorem OAt.look {W w w' : World} {L : HL} {h : HS} {s k : Nat} {t q mb : Nat} {Pg : Nat → Prop} {acc : List Int} (a1 : OAt W w L h s k t q mb Pg acc) (hH : Hr w' L h s k) (hf : Fr [L.ab] w w') : OAt W w' L h s k t q mb Pg acc := by
  obtain ⟨A, c, G, b1, b2, b3⟩ := a1.own
  obtain ⟨c9, h9⟩ := a1.hr.ar
  have hab : ∀ {b : Nat} {t : TypeId} {cs : Array Value}, Blk w b t cs → t ≠ 150 → b ∉ [L.ab] := fun hb ht hx => by
    simp only [List.mem_singleton] at hx
    exact hb.apart h9.set ht hx
  refine ⟨hH, a1.fr.trans_same hf, a1.res.fr hf (hab a1.res (by decide)), ⟨A, c, G, b1.fr hf (hab b1 (by decide)), b2.fr hf (fun g hg hx => ?_), b3⟩, a1.kn.fr hf (fun hx => ?_)⟩
  · simp only [List.mem_singleton] at hx
    subst hx
    exact b2.apart h9.set (by decide) hg
  · simp only [List.mem_singleton] at hx
    obtain ⟨f, k1, _⟩ := a1.kn
    exact k1.blk_ne h9.set hx
theorem kn_far {w : World} {mb : Nat} {o : List Int} {e : TypeId} {A : Option Addr} {n c : Nat} {G : List Nat} {xs : List Value} (h : KnownAt w mb o) (hl : Lr w e A n c G xs) : mb ∉ G := fun hg => by
  obtain ⟨f, k, _⟩ := h
  rcases Nat.eq_zero_or_pos c with hc | hc
  · rw [hl.zero hc] at hg; cases hg
  · obtain ⟨g, off, cur, _, q2, q3, _⟩ := hl.blk hc
    rw [q2] at hg
    simp at hg
    exact k.blk_ne q3 hg
/-- One more object. -/
theorem OAt.put {W w wa w3 w5 : World} {L : HL} {h : HS} {s k : Nat} {t q mb : Nat} {Pg : Nat → Prop} {ac ac' : List Int} (H0 : Hr W L h s k) (a1 : OAt W w L h s k t q mb Pg ac) {A A' : Option Addr} {c c' n n' : Nat} {G G' : List Nat}
    (b1 : Blk w q 227 #[.slice A n c, .map (some mb)]) (b2 : Lr w 3 A n c G (zv ac)) (b3 : ∀ g, g ∈ G → W.heap.size ≤ g ∧ Pg g) (htq : t ≠ q) (hWq : W.heap.size ≤ q) (hWm : W.heap.size ≤ mb) (hPg : ∀ g, w.heap.size ≤ g → Pg g)
    (h0 : Fr [] w wa) (hF : Fr G wa w3) (hl : Lr w3 3 A' n' c' G' (zv ac')) (hn : n' = ac'.length) (hg : ∀ g, g ∈ G' → g ∈ G ∨ wa.heap.size ≤ g) (hf5 : Fr [mb] (w3.setCell ⟨q, 0, none⟩ (.slice A' n' c')) w5) (hkn : KnownAt w5 mb ac') : OAt W w5 L h s k t q mb Pg ac' := by
  obtain ⟨c9, h9⟩ := a1.hr.ar
  obtain ⟨f, kf, _⟩ := a1.kn
  have hmG : mb ∉ G := kn_far a1.kn b2
  have hqm : mb ≠ q := kf.blk_ne b1
  have htm : mb ≠ t := kf.blk_ne a1.res
  have hqG : q ∉ G := b2.apart b1 (by decide)
  have hb3 := (b1.fr h0 (by simp)).fr hF hqG
  have hk3 := (a1.kn.fr h0 (by simp)).fr hF hmG
  have hmG' : mb ∉ G' := kn_far hk3 hl
  have hqG' : q ∉ G' := hl.apart hb3 (by decide)
  have hfs : Fr [q] w3 (w3.setCell ⟨q, 0, none⟩ (.slice A' n' c')) := (Fr.refl _ _).setCell (p := ⟨q, 0, none⟩) (.inl (by simp)) _
  have hfr : Fr [L.ab] W w5 := (((a1.fr.trans_nil h0).trans hF (fun g hg => .inr (b3 g hg).1)).trans hfs (fun x hx => .inr (by simp at hx; rw [hx]; exact hWq))).trans hf5 (fun x hx => .inr (by simp at hx; rw [hx]; exact hWm))
  have ha : Ar w5 L.ab L.aw h.n h.f c9 := by
    have e1 := (h9.fr h0 (by simp) (by simp)).fr hF (b2.apart h9.set (by decide)) (b2.apart h9.row (by decide))
    have n1 : q ≠ L.ab := b1.apart h9.set (by decide)
    have n2 : q ≠ L.aw := b1.apart h9.row (by decide)
    have n3 : mb ≠ L.ab := kf.blk_ne h9.set
    have n4 : mb ≠ L.aw := kf.blk_ne h9.row
    exact (e1.fr hfs (by simp; exact n1.symm) (by simp; exact n2.symm)).fr hf5 (by simp; exact n3.symm) (by simp; exact n4.symm)
  refine ⟨H0.fr1 hfr ⟨c9, ha⟩, hfr, (((a1.res.fr h0 (by simp)).fr hF (b2.apart a1.res (by decide))).fr hfs (by simpa using htq)).fr hf5 (by simpa using htm.symm), ⟨A', c', G', ?_, ?_, fun g hg' => ?_⟩, hkn⟩
  · have := (hb3.put 0 (.slice A' n' c')).fr hf5 (by simpa using hqm.symm)
    rw [← hn]
    simpa using this
  · rw [← hn]
    exact (hl.fr hfs (fun g hg' hx => hqG' (by simp at hx; rw [← hx]; exact hg'))).fr hf5 (fun g hg' hx => hmG' (by simp at hx; rw [← hx]; exact hg'))
  · rcases hg g hg' with h1 | h1
    · exact b3 g h1
    · have h2 := h0.size
      exact ⟨by have := a1.fr.size; omega, hPg g (by omega)⟩
/-- What objects answers. -/
def ObjsP (w : World) (L : HL) (h : HS) (s k : Nat) (e : Ending) (w' : World) : Prop :=
  Hr w' L h s k ∧ Fr [L.ab] w w' ∧
  ((∃ A c G mb, e = .returned (.tuple #[.agg #[.slice A h.objL.length c, .map (some mb)], .int .i64 0]) ∧ (∀ r, r < h.R → h.rowE (r : Int) = 0) ∧ Lr w' 3 A h.objL.length c G (zv h.objL) ∧ KnownAt w' mb h.objL ∧ (∀ g, g ∈ G → w.heap.size ≤ g) ∧ w.heap.size ≤ mb) ∨
   (∃ r, r < h.R ∧ h.rowE (r : Int) ≠ 0 ∧ e = .returned (.tuple #[.agg #[.slice none 0 0, .map none], .int .i64 (h.rowE (r : Int))])))
theorem Blk.two {w : World} {g : Nat} {t : TypeId} {a b : Value} (h : Blk w g t #[a, b]) (u0 u1 : Value) : Blk ((w.setCell ⟨g, 0, none⟩ u0).setCell ⟨g, 1, none⟩ u1) g t #[u0, u1] := by
  have := (h.put 0 u0).put 1 u1
  simpa using this
section
variable {w : World} {L : HL} {h : HS} {s k : Nat}
end
end Go.Proofs.YthacgiajnafpgaaGreatDoor
