/- Package heap: Check. -/
import Derived.Test.YthacgiajnafpgaaGreatDoorQVe
import Derived.Deep.AppendLies
namespace Go.Proofs.YthacgiajnafpgaaGreatDoor
set_option linter.unusedVariables false
set_option linter.unusedSimpArgs false
set_option maxRecDepth 100000
open Go.RowKit Go.Gl

section
variable {h : HS} {s k : Nat}
end
section
variable {w : World} {L : HL} {h : HS} {s k : Nat}
end
end Go.Proofs.YthacgiajnafpgaaGreatDoor
/- Package heap: the numbers that objects get as they are come to. -/
namespace Go.Proofs.YthacgiajnafpgaaGreatDoor
set_option linter.unusedVariables false
set_option linter.unusedSimpArgs false
set_option maxRecDepth 100000
open Go.RowKit Go.Gl

/-- A tour at tp with the list L, its map at mb, its list's block in G. -/
def TourH (w : World) (tp mb : Nat) (G : List Nat) (L : List Int) : Prop :=
  ∃ A c, Blk w tp 221 #[.slice A L.length c, .map (some mb)] ∧ Lr w 67 A L.length c G (refV L) ∧
    ∃ f, Mp Tryz.prog 67 w mb f ∧ ∀ r, (f (.int .u64 r)).getD (.int .u64 0) = .int .u64 (num L r)
section
variable {w w' : World} {tp mb : Nat} {F G : List Nat} {L : List Int}
theorem TourH.fr (h : TourH w tp mb G L) (hf : Fr F w w') (h1 : tp ∉ F) (h2 : mb ∉ F) (h3 : ∀ g, g ∈ G → g ∉ F) : TourH w' tp mb G L := by
  obtain ⟨A, c, k1, k2, f, k3, k4⟩ := h
  exact ⟨A, c, k1.fr hf h1, k2.fr hf h3, f, k3.fr hf h2, k4⟩
theorem TourH.fr0 (h : TourH w tp mb G L) (hf : Fr [] w w') : TourH w' tp mb G L := h.fr hf (by simp) (by simp) (fun _ _ => by simp)
theorem TourH.lt (h : TourH w tp mb G L) : ∀ x, x ∈ tp :: mb :: G → x < w.heap.size := by
  obtain ⟨A, c, k1, k2, f, k3, k4⟩ := h
  intro x hx
  simp only [List.mem_cons] at hx
  rcases hx with rfl | rfl | hx
  · exact k1.lt
  · exact k3.lt
  · exact k2.lt x hx
theorem TourH.ab (h : TourH w tp mb G L) {b : Nat} {cs : Array Value} (hb : Blk w b 150 cs) : b ∉ tp :: mb :: G := by
  obtain ⟨A, c, k1, k2, f, k3, k4⟩ := h
  intro hx
  simp only [List.mem_cons] at hx
  rcases hx with rfl | rfl | hx
  · exact k1.apart hb (by decide) rfl
  · exact k3.blk_ne hb rfl
  · exact k2.apart hb (by decide) hx
def NumH (w : World) (tp mb : Nat) (G : List Nat) (L : List Int) (v : Value) (e : Ending) (w' : World) : Prop :=
  e = .returned v ∧ ∃ G', TourH w' tp mb G' L ∧ Fr (tp :: mb :: G) w w' ∧ ∀ g, g ∈ G' → g ∈ G ∨ w.heap.size ≤ g
end
end Go.Proofs.YthacgiajnafpgaaGreatDoor
/- Package heap: tell, describe. -/
namespace Go.Proofs.YthacgiajnafpgaaGreatDoor
set_option linter.unusedVariables false
set_option linter.unusedSimpArgs false
set_option maxRecDepth 100000
open Go.RowKit Go.Gl

/-- A shape under way since W: the tour at tp, mb with the list L, the numbers out told so far; no block of P is its own. -/
structure ShH (W w : World) (Λ : HL) (h : HS) (s k : Nat) (P : Nat → Prop) (tp mb : Nat) (L : List Int) (A : Option Addr) (n c : Nat) (out : List Int) : Prop where
  base : Hr W Λ h s k
  hr : Hr w Λ h s k
  fr : Fr [Λ.ab] W w
  own : ∃ G Go, TourH w tp mb G L ∧ Lr w 64 A n c Go (refV out) ∧ (∀ x, x ∈ tp :: mb :: G → W.heap.size ≤ x ∧ ¬ P x) ∧ ∀ x, x ∈ Go → W.heap.size ≤ x ∧ ¬ P x ∧ x ∉ tp :: mb :: G
section
variable {W w w1 w' : World} {Λ : HL} {h : HS} {s k : Nat} {P P' : Nat → Prop} {tp mb : Nat} {L : List Int} {A : Option Addr} {n c : Nat} {out : List Int}
theorem ShH.look (a : ShH W w Λ h s k P tp mb L A n c out) (hH : Hr w' Λ h s k) (hf : Fr [Λ.ab] w w') : ShH W w' Λ h s k P tp mb L A n c out := by
  obtain ⟨G, Go, h1, h2, h3, h4⟩ := a.own
  obtain ⟨c9, h9⟩ := a.hr.ar
  have hab := h1.ab h9.set
  exact ⟨a.base, hH, a.fr.trans_same hf, G, Go, h1.fr hf (fun hx => hab (by simp at hx; simp [hx])) (fun hx => hab (by simp at hx; simp [hx])) (fun g hg hx => hab (by simp at hx; rw [← hx]; simp [hg])),
    h2.fr hf (fun g hg hx => h2.apart h9.set (by decide) (by simp at hx; rw [← hx]; exact hg)), h3, h4⟩
def TellH (W : World) (Λ : HL) (h : HS) (s k : Nat) (P : Nat → Prop) (tp mb : Nat) (L : List Int) (n : Nat) (out : List Int) (e : Ending) (w' : World) : Prop :=
  ∃ A c, e = .returned (.slice A n c) ∧ ShH W w' Λ h s k P tp mb L A n c out
end
end Go.Proofs.YthacgiajnafpgaaGreatDoor
/- Package heap: describe. -/
namespace Go.Proofs.YthacgiajnafpgaaGreatDoor
set_option linter.unusedVariables false
set_option linter.unusedSimpArgs false
set_option maxRecDepth 100000
open Go.RowKit Go.Gl

/-- What an object's words are behind its references. -/
def dataAt (h : HS) (i S P : Nat) : List Int := (List.range (S - 1 - P)).map fun (j : Nat) => (h.f (i + 1 + P + j) : Int)
section
variable {W w : World} {Λ : HL} {h : HS} {s k : Nat} {tp mb : Nat} {L : List Int} {A : Option Addr} {n c : Nat} {out : List Int}
end
end Go.Proofs.YthacgiajnafpgaaGreatDoor
/- Package heap: Shape. -/
namespace Go.Proofs.YthacgiajnafpgaaGreatDoor
set_option linter.unusedVariables false
set_option linter.unusedSimpArgs false
set_option maxRecDepth 100000
open Go.RowKit Go.Gl

/-- What Shape answers. -/
def ShpP (w : World) (L : HL) (h : HS) (s k : Nat) (l : List Int) (er : Int) (e : Ending) (w' : World) : Prop :=
  ∃ A c G, e = .returned (.tuple #[.slice A l.length c, .int .i64 er]) ∧ Lr w' 64 A l.length c G (refV l) ∧ (∀ g, g ∈ G → w.heap.size ≤ g) ∧ Hr w' L h s k ∧ Fr [L.ab] w w'
section
variable {w : World} {L : HL} {h : HS} {s k : Nat}
end
end Go.Proofs.YthacgiajnafpgaaGreatDoor
