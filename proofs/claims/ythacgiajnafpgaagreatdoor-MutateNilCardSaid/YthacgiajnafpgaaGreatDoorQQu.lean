/- A struct that holds one list of whole numbers, and a row of such lists: what is turned, and what stays. -/
import Derived.Test.YthacgiajnafpgaaGreatDoorQLr
import Derived.Test.YthacgiajnafpgaaGreatDoorQNm
import Derived.WalkKit
import Derived.BigQuiet
import Derived.Lib.AppendZerosOnto
namespace Go.Gl
set_option linter.unusedVariables false
open Go.RowKit

/-- The lists 0 to n - 1, one behind the other. -/
def catL (L : Nat → List Int) : Nat → List Int
  | 0 => []
  | n + 1 => catL L n ++ L n
/-- What lies behind a slice, as the source of an append. -/
theorem Sl.src {w : World} {A : Option Addr} {l : List Int} (h : Sl w A l.length (fun k => .int .i64 (l.getD k 0))) : 0 < l.length → ∃ ad, A = some ad ∧ ∀ j u, (zv l)[j]? = some u → w.cell? (ad.add j) = some u := fun hn => by
  obtain ⟨b, off, rfl, _, hc⟩ := h hn
  refine ⟨_, rfl, fun j u hu => ?_⟩
  have hj : j < l.length := by have := (List.getElem?_eq_some_iff.1 hu).1; rwa [zv_len] at this
  rw [show (⟨b, off, none⟩ : Addr).add j = ⟨b, off + j, none⟩ from Go.WideShapes.add_plain _ _ _, hc j hj, ← zv_get l hj, hu]

/-- The struct at q, its list and its row of lists. -/
structure Qc (ti ts tq : TypeId) (lay : Value → Value → Array Value) (w : World) (q tb n : Nat) (A : Option Addr) (c : Nat) (C : List Int) (G0 : List Nat) (V : Nat → Value) (G : Nat → List Nat) (O : Nat → List Int) : Prop where
  st : Blk w q tq (lay (.slice A C.length c) (.slice (some ⟨tb, 0, none⟩) n n))
  com : Lr w ti A C.length c G0 (zv C)
  ls : Ls ti ts w tb n V G O
  d0 : ∀ i, i < n → ∀ g, g ∈ G i → g ∉ G0
/-- All its blocks. -/
def foot (q tb n : Nat) (G0 : List Nat) (G : Nat → List Nat) : List Nat := q :: tb :: (G0 ++ (List.range n).flatMap G)
theorem mem_foot {q tb n : Nat} {G0 : List Nat} {G : Nat → List Nat} {x : Nat} : x ∈ foot q tb n G0 G ↔ x = q ∨ x = tb ∨ x ∈ G0 ∨ ∃ i, i < n ∧ x ∈ G i := by
  simp [foot, List.mem_flatMap]
section
variable {ti ts tq : TypeId} {lay : Value → Value → Array Value} {w w' : World} {q tb n : Nat} {A : Option Addr} {c : Nat} {C : List Int} {G0 : List Nat} {V : Nat → Value} {G : Nat → List Nat} {O : Nat → List Int} {F : List Nat}
theorem Qc.fr (h : Qc ti ts tq lay w q tb n A c C G0 V G O) (hf : Fr F w w') (hd : ∀ x, x ∈ foot q tb n G0 G → x ∉ F) : Qc ti ts tq lay w' q tb n A c C G0 V G O :=
  ⟨h.st.fr hf (hd q (mem_foot.2 (.inl rfl))), h.com.fr hf (fun g hg => hd g (mem_foot.2 (.inr (.inr (.inl hg))))), h.ls.fr hf (hd tb (mem_foot.2 (.inr (.inl rfl)))) (fun i hi g hg => hd g (mem_foot.2 (.inr (.inr (.inr ⟨i, hi, hg⟩))))), h.d0⟩
theorem Qc.fr0 (h : Qc ti ts tq lay w q tb n A c C G0 V G O) (hf : Fr [] w w') : Qc ti ts tq lay w' q tb n A c C G0 V G O := h.fr hf (fun _ _ => by simp)
theorem Qc.lt (h : Qc ti ts tq lay w q tb n A c C G0 V G O) : ∀ x, x ∈ foot q tb n G0 G → x < w.heap.size := by
  intro x hx
  rcases mem_foot.1 hx with rfl | rfl | hx | ⟨i, hi, hx⟩
  · exact h.st.lt
  · exact h.ls.tab.lt
  · exact h.com.lt x hx
  · exact h.ls.lt hi x hx
theorem Qc.congr {O' : Nat → List Int} (h : Qc ti ts tq lay w q tb n A c C G0 V G O) (ho : ∀ i, i < n → O i = O' i) : Qc ti ts tq lay w q tb n A c C G0 V G O' :=
  ⟨h.st, h.com, ⟨h.ls.tab, fun i hi => by rw [← ho i hi]; exact h.ls.own i hi, h.ls.apart⟩, h.d0⟩
theorem Qc.own_fr (h : Qc ti ts tq lay w q tb n A c C G0 V G O) {k : Nat} (hk : k < n) (hf : Fr (G k) w w') (v : Value) : Fr (foot q tb n G0 G) w (w'.setCell ⟨tb, k, none⟩ v) :=
  (hf.mono (fun x hx => .inl (mem_foot.2 (.inr (.inr (.inr ⟨k, hk, hx⟩)))))).setCell (p := ⟨tb, k, none⟩) (.inl (mem_foot.2 (.inr (.inl rfl)))) v
/-- All lists of the row made empty at once. -/
theorem Qc.clear (h : Qc ti ts tq lay w q tb n A c C G0 V G O) (h1 : ti ≠ ts) (h3 : ts ≠ tq) (hb : Blk w' tb ts (rowF n fun _ => .slice none 0 0)) (hf : Fr [tb] w w') :
    Qc ti ts tq lay w' q tb n A c C G0 (fun _ => .slice none 0 0) (fun _ => []) (fun _ => []) :=
  ⟨h.st.fr hf (by simpa using (h.ls.tab.apart h.st h3).symm), h.com.fr hf (fun g hg h0 => by
    simp at h0
    subst h0
    exact h.com.apart h.ls.tab h1 hg), ⟨hb, fun i hi => ⟨none, 0, rfl, Lr.nil _ _⟩, fun i j _ _ _ g hg => by cases hg⟩, fun i hi g hg => by cases hg⟩

/-- The struct at q, its blocks F. -/
def Qs (ti ts tq : TypeId) (lay : Value → Value → Array Value) (w : World) (q : Nat) (F : List Nat) (n : Nat) (C : List Int) (O : Nat → List Int) : Prop :=
  ∃ tb A c G0 V G, Qc ti ts tq lay w q tb n A c C G0 V G O ∧ F = foot q tb n G0 G
theorem Qs.fr {F' : List Nat} (h : Qs ti ts tq lay w q F n C O) (hf : Fr F' w w') (hd : ∀ x, x ∈ F → x ∉ F') : Qs ti ts tq lay w' q F n C O := by
  obtain ⟨tb, A, c, G0, V, G, h, rfl⟩ := h
  exact ⟨tb, A, c, G0, V, G, h.fr hf hd, rfl⟩
theorem Qs.fr0 (h : Qs ti ts tq lay w q F n C O) (hf : Fr [] w w') : Qs ti ts tq lay w' q F n C O := h.fr hf (fun _ _ => by simp)
theorem Qs.lt (h : Qs ti ts tq lay w q F n C O) : ∀ x, x ∈ F → x < w.heap.size := by
  obtain ⟨tb, A, c, G0, V, G, h, rfl⟩ := h
  exact h.lt
theorem Qs.drewN (h : Qs ti ts tq lay w q F n C O) (k : Nat) : Qs ti ts tq lay (w.drewN k) q F n C O := h.fr0 ((Fr.refl _ _).drewN k)
end
end Go.Gl
/- slices.Grow of no slice, slices.Concat of lists of whole numbers. -/
namespace Go.Proofs.YthacgiajnafpgaaGreatDoor
set_option linter.unusedVariables false
open Go.RowKit Go.Gl

def GrowPost (w : World) (e : Ending) (w' : World) : Prop := ∃ A c G, e = .returned (.slice A 0 c) ∧ Lr w' 3 A 0 c G [] ∧ Fr [] w w' ∧ ∀ g, g ∈ G → w.heap.size ≤ g
def CatPost (w : World) (l : List Int) (e : Ending) (w' : World) : Prop := ∃ A c G, e = .returned (.slice A l.length c) ∧ Lr w' 3 A l.length c G (zv l) ∧ Fr [] w w' ∧ ∀ g, g ∈ G → w.heap.size ≤ g
end Go.Proofs.YthacgiajnafpgaaGreatDoor
/- Package queue: New, Len, Waiting, Pop; what the lists' numbers are. -/
namespace Go.Proofs.YthacgiajnafpgaaGreatDoor
set_option linter.unusedVariables false
open Go.RowKit Go.Gl

theorem Tryz.info_ints : (Tryz.prog.info? 25).map (fun i => (i.zero, i.size, i.bytes)) = some (some (.slice none 0 0), 1, 24) := by kernel_rfl
def layQ (B : Nat) : Value → Value → Array Value := fun a b => #[a, .int .i64 (B : Int), b]
abbrev Qq (w : World) (q : Nat) (F : List Nat) (n B : Nat) (C : List Int) (O : Nat → List Int) : Prop := Qs 3 25 143 (layQ B) w q F n C O
abbrev Qk (w : World) (q tb n B : Nat) (A : Option Addr) (c : Nat) (C : List Int) (G0 : List Nat) (V : Nat → Value) (G : Nat → List Nat) (O : Nat → List Int) : Prop := Qc 3 25 143 (layQ B) w q tb n A c C G0 V G O
/-- What the lengths are. -/
structure QOk (n B : Nat) (C : List Int) (O : Nat → List Int) : Prop where
  n1 : 1 ≤ n
  n2 : n ≤ 64
  b : B ≤ 65536
  c : C.length ≤ B
  o : ∀ i, i < n → (O i).length ≤ 3
section
variable {w : World} {q tb n B : Nat} {A : Option Addr} {c : Nat} {C : List Int} {G0 : List Nat} {V : Nat → Value} {G : Nat → List Nat} {O : Nat → List Int} {F : List Nat}
theorem Qk.c0 (h : Qk w q tb n B A c C G0 V G O) : w.cell? ⟨q, 0, none⟩ = some (.slice A C.length c) := by rw [h.st.cell]; rfl
theorem Qk.c1 (h : Qk w q tb n B A c C G0 V G O) : w.cell? ⟨q, 1, none⟩ = some (.int .i64 (B : Int)) := by rw [h.st.cell]; rfl
theorem Qk.c2 (h : Qk w q tb n B A c C G0 V G O) : w.cell? ⟨q, 2, none⟩ = some (.slice (some ⟨tb, 0, none⟩) n n) := by rw [h.st.cell]; rfl
theorem Qk.cw (h : Qk w q tb n B A c C G0 V G O) {k : Nat} (hk : k < n) : w.cell? ⟨tb, k, none⟩ = some (V k) := h.ls.cw hk
end

def QNew (n B : Nat) (w : World) (e : Ending) (w' : World) : Prop :=
  ∃ q F, e = .returned (.tuple #[.pointer (some ⟨q, 0, none⟩), .int .i64 0]) ∧ Qq w' q F n B [] (fun _ => []) ∧ Fr [] w w' ∧ ∀ x, x ∈ F → w.heap.size ≤ x
theorem qnew_ok (n B : Nat) (h1 : 1 ≤ n) (h2 : n ≤ 64) (h3 : B ≤ 65536) (w : World) : Calls Tryz.prog 107 #[.int .i64 (n : Int), .int .i64 (B : Int)] w (QNew n B w) := by
  obtain ⟨i0, hi, hz0, hz1, hz2⟩ := info_parts Tryz.info_ints
  have g1 : ¬ ((n : Int) < 1) := by omega
  have g2 : ¬ ((n : Int) > 64) := by omega
  have g3 : ¬ ((B : Int) < 0) := by omega
  have g4 : ¬ ((B : Int) > 65536) := by omega
  go_enter Tryz.func107, Tryz.ntmps107
  go_wp2_with (first | (at_make; refine wpList_make_full _ rfl _ _ 84 rfl w.heap.size 25 i0 (.slice none 0 0) 1 Tryz.underlying84 hi hz0 hz1 _ _ _ _ n rfl rfl rfl rfl (by rw [hz2]; omega) (by unfold maxLen; omega) (Nat.le_refl _) ?_; intro w1 hown hgr; have HO := hide hown; have HG := hide hgr; clear hown hgr))
  go_ret2
  have hown := HO.out
  rw [Nat.mul_one, made_one _ rfl] at hown
  have hb := own_full hown
  have HF : Fr [] w w1 := (Fr.refl [] w).grown HG.out (fun _ hk => by cases hk)
  refine ⟨w1.heap.size, _, rfl, ⟨w.heap.size, none, 0, [], fun _ => .slice none 0 0, fun _ => [], ⟨Blk.new _ _ _, Lr.nil _ _, ⟨?_, fun i hi => ⟨none, 0, rfl, Lr.nil _ _⟩, fun i j _ _ _ g hg => by cases hg⟩, fun i hi g hg => by cases hg⟩, rfl⟩, HF.alloc _, fun x hx => ?_⟩
  · rw [rowF_const]; exact hb.alloc _
  · rcases mem_foot.1 hx with rfl | rfl | hx | ⟨i, _, hx⟩
    · exact HF.size
    · exact Nat.le_refl _
    · cases hx
    · cases hx

def QPop (w : World) (F : List Nat) (Q : World → List Nat → Prop) (x er : Int) (e : Ending) (w' : World) : Prop :=
  ∃ F', e = .returned (.tuple #[.int .i64 x, .int .i64 er]) ∧ Q w' F' ∧ Fr F w w' ∧ ∀ x, x ∈ F' → x ∈ F ∨ w.heap.size ≤ x
end Go.Proofs.YthacgiajnafpgaaGreatDoor
