/- Package roots and the document's stacks: what each call answers of a stack that lies in memory, and what it leaves there. -/
import Derived.Test.YthacgiajnafpgaaGreatDoorProg
import Derived.Test.YthacgiajnafpgaaGreatDoorQLr
import Derived.WalkKit
import Derived.BigQuiet
namespace Go.Proofs.YthacgiajnafpgaaGreatDoor
set_option linter.unusedVariables false
open Go.RowKit Go.Gl

theorem Tryz.info_ref : (Tryz.prog.info? 67).map (fun i => (i.zero, i.size, i.bytes)) = some (some (.int .u64 0), 1, 8) := by kernel_rfl
/-- A list of references, as values. -/
def refV (l : List Int) : List Value := l.map (Value.int .u64)
theorem refV_app (a b : List Int) : refV (a ++ b) = refV a ++ refV b := by simp [refV]
theorem refV_set (l : List Int) (k : Nat) (r : Int) : refV (l.set k r) = (refV l).set k (.int .u64 r) := by simp [refV, List.map_set]
/-- At s of the type t lies a stack with the list l, whose slice is at A; 'lay' says where its field lies. -/
structure Hk (lay : Value → Array Value) (t : TypeId) (w : World) (s : Nat) (A : Option Addr) (c : Nat) (G : List Nat) (l : List Int) : Prop where
  st : Blk w s t (lay (.slice A l.length c))
  row : Lr w 67 A l.length c G (refV l)
def layH (B : Nat) (v : Value) : Array Value := #[v, .int .i64 (B : Int)]
def layR12 (B : Nat) (v : Value) : Array Value := #[.int .i64 (B : Int), v]
section
variable {lay : Value → Array Value} {t : TypeId} {w w' : World} {s c B : Nat} {A : Option Addr} {F G : List Nat} {l : List Int}
theorem Hk.fr (h : Hk lay t w s A c G l) (hf : Fr F w w') (h1 : s ∉ F) (h2 : ∀ g, g ∈ G → g ∉ F) : Hk lay t w' s A c G l := ⟨h.st.fr hf h1, h.row.fr hf h2⟩
theorem Hk.far (h : Hk lay t w s A c G l) (ht : 67 ≠ t) : s ∉ G := h.row.apart h.st ht
/-- Another list's slice stored. -/
theorem Hk.put (h : Hk lay t w s A c G l) (ht : 67 ≠ t) {ci : Nat} (hl : ∀ a b, (lay a).setIfInBounds ci b = lay b) {l' : List Int} {A' : Option Addr} {c' : Nat} {G' : List Nat} (hf : Fr G w w') (hr : Lr w' 67 A' l'.length c' G' (refV l')) :
    Hk lay t (w'.setCell ⟨s, ci, none⟩ (.slice A' l'.length c')) s A' c' G' l' := by
  have h1 := h.st.fr hf (h.far ht)
  refine ⟨by have := h1.put ci (.slice A' l'.length c'); rwa [hl] at this, hr.fr (F := [s]) ((Fr.refl _ _).setCell (p := ⟨s, ci, none⟩) (.inl (by simp)) _) fun g hg h0 => ?_⟩
  simp at h0
  subst h0
  exact hr.apart h1 ht hg
theorem Hk.put_fr (hf : Fr G w w') (ci : Nat) (v : Value) : Fr (s :: G) w (w'.setCell ⟨s, ci, none⟩ v) :=
  (hf.mono (G := s :: G) (fun x hx => .inl (by simp [hx]))).setCell (p := ⟨s, ci, none⟩) (.inl (by simp)) v
end
abbrev HkP (w : World) (s : Nat) (F : List Nat) (B : Nat) (l : List Int) : Prop := ∃ A c G, Hk (layH B) 211 w s A c G l ∧ F = s :: G
section
variable {w w' : World} {s c B : Nat} {A : Option Addr} {F F' G : List Nat} {l : List Int}
theorem HkP.fr (h : HkP w s F B l) (hf : Fr F' w w') (hd : ∀ g, g ∈ F → g ∉ F') : HkP w' s F B l := by
  obtain ⟨A, c, G, h, rfl⟩ := h
  exact ⟨A, c, G, h.fr hf (hd s (by simp)) (fun g hg => hd g (by simp [hg])), rfl⟩
theorem HkP.fr0 (h : HkP w s F B l) (hf : Fr [] w w') : HkP w' s F B l := h.fr hf (fun _ _ => by simp)
theorem HkP.drewN (h : HkP w s F B l) (k : Nat) : HkP (w.drewN k) s F B l := h.fr0 ((Fr.refl _ _).drewN k)
theorem HkP.lt (h : HkP w s F B l) : ∀ g, g ∈ F → g < w.heap.size := by
  obtain ⟨A, c, G, h, rfl⟩ := h
  intro g hg
  rcases List.mem_cons.1 hg with rfl | hg
  · exact h.st.lt
  · exact h.row.lt g hg
theorem HkP.at_ (h : HkP w s F B l) : ∃ A c, w.cell? ⟨s, 0, none⟩ = some (.slice A l.length c) ∧ w.cell? ⟨s, 1, none⟩ = some (.int .i64 (B : Int)) ∧ (∀ k, w.frozen? ⟨s, k, none⟩ = false) ∧ l.length ≤ maxLen := by
  obtain ⟨A, c, G, h, rfl⟩ := h
  exact ⟨A, c, by rw [h.st.cell]; rfl, by rw [h.st.cell]; rfl, fun k => h.st.frozen k, Nat.le_trans h.row.le h.row.max⟩
end

/-- What the calls come to. -/
def hkIn (l : List Int) (i : Int) : Prop := 0 ≤ i ∧ i < (l.length : Int)
instance (l : List Int) (i : Int) : Decidable (hkIn l i) := by unfold hkIn; infer_instance
def hkAt (l : List Int) (i : Int) : Int := if hkIn l i then l.getD i.toNat 0 else 0
def hkAtE (l : List Int) (i : Int) : Int := if hkIn l i then 0 else 10
def hkSet (l : List Int) (i r : Int) : List Int := if hkIn l i then l.set i.toNat r else l
def hkPush (B : Nat) (l : List Int) (r : Int) : List Int := if l.length < B then l ++ [r] else l
def hkPushE (B : Nat) (l : List Int) : Int := if l.length < B then 0 else 15
def hkPop (l : List Int) : List Int := l.take (l.length - 1)
def hkPopV (l : List Int) : Int := l.getD (l.length - 1) 0
def hkPopE (l : List Int) : Int := if l.length = 0 then 14 else 0
theorem hkPush_len {B : Nat} {l : List Int} (h : l.length ≤ B) (r : Int) : (hkPush B l r).length ≤ B := by
  unfold hkPush
  split
  · simp; omega
  · exact h
/-! New. -/
def HkNew (Q : World → Nat → List Nat → Prop) (w : World) (e : Ending) (w' : World) : Prop := ∃ s F, e = .returned (.tuple #[.pointer (some ⟨s, 0, none⟩), .int .i64 0]) ∧ Q w' s F ∧ Fr [] w w' ∧ ∀ x, x ∈ F → w.heap.size ≤ x
theorem hnew_ok (B : Nat) (h1 : 1 ≤ B) (h2 : B ≤ 64) (w : World) : Calls Tryz.prog 110 #[.int .i64 (B : Int)] w (HkNew (fun w' s F => HkP w' s F B []) w) := by
  have g1 : ¬ ((B : Int) < 1) := by omega
  have g2 : ¬ ((B : Int) > 64) := by omega
  go_enter Tryz.func110, Tryz.ntmps110
  go_wp2
  go_ret2
  exact ⟨_, _, rfl, ⟨none, 0, [], ⟨Blk.new _ _ _, Lr.nil _ _⟩, rfl⟩, (Fr.refl _ _).alloc _, fun x hx => by simp at hx; omega⟩

/-! A stack that isn't there. -/
/-! A stack that lies in memory. -/
section
variable {w : World} {s B : Nat} {F : List Nat} {l : List Int}
theorem hlen_any (h : HkP w s F B l) : Calls Tryz.prog 49 #[.pointer (some ⟨s, 0, none⟩)] w fun e w' => e = .returned (.int .i64 (l.length : Int)) ∧ w = w' := by
  obtain ⟨A, c, c0, _, _, _⟩ := h.at_
  clear h
  go_enter Tryz.func49, Tryz.ntmps49
  go_wp2
  go_ret
  exact ⟨rfl, rfl⟩
theorem hroom_any (h : HkP w s F B l) (hl : l.length ≤ B) (hB : B ≤ 64) : Calls Tryz.prog 162 #[.pointer (some ⟨s, 0, none⟩)] w fun e w' => e = .returned (.int .i64 ((B : Int) - (l.length : Int))) ∧ ∃ k, w' = w.drewN k := by
  obtain ⟨A, c, c0, c1, _, _⟩ := h.at_
  have e1 : IntKind.i64.wrap ((B : Int) - (l.length : Int)) = (B : Int) - (l.length : Int) := IntWalk.i64_in _ ⟨by omega, by omega⟩
  clear h
  go_enter Tryz.func162, Tryz.ntmps162
  go_wp2_with fail
  go_quiet (fail)
  go_wp2
  go_ret
  exact ⟨rfl, _, rfl⟩
end
/-- What a call answers, and what it leaves. -/
def HkPost (w : World) (F : List Nat) (Q : World → List Nat → Prop) (v : Value) (e : Ending) (w' : World) : Prop :=
  ∃ F', e = .returned v ∧ Q w' F' ∧ Fr F w w' ∧ ∀ x, x ∈ F' → x ∈ F ∨ w.heap.size ≤ x
section
variable {w : World} {s B : Nat} {F : List Nat} {l : List Int}
theorem hpush_any (h : HkP w s F B l) (hl : l.length ≤ B) (hB : B ≤ 64) (r : Int) : Calls Tryz.prog 88 #[.pointer (some ⟨s, 0, none⟩), .int .u64 r] w (HkPost w F (fun w' F' => HkP w' s F' B (hkPush B l r)) (.int .i64 (hkPushE B l))) := by
  obtain ⟨i0, hi, hz0, hz1, hz2⟩ := info_parts Tryz.info_ref
  have HR := hide (hroom_any h hl hB)
  have HH := hide h
  by_cases hlt : l.length < B
  · have e1 : hkPush B l r = l ++ [r] := by unfold hkPush; rw [if_pos hlt]
    have e2 : hkPushE B l = 0 := by unfold hkPushE; rw [if_pos hlt]
    obtain ⟨D, hD, hD0⟩ : ∃ D : Nat, (B : Int) - (l.length : Int) = (D : Int) ∧ D ≠ 0 := ⟨B - l.length, by omega, by omega⟩
    have hn : ((D : Int) == 0) = false := by simpa using hD0
    rw [hD] at HR
    rw [e1, e2]
    clear e1 e2 hD hD0
    obtain ⟨A, c, G, h, rfl⟩ := h
    have HL := hide h
    have HN : Hid (([Value.int .u64 r]).length = 1 ∧ (∀ u ∈ [Value.int .u64 r], u.oneCell' = true) ∧ l.length + 1 ≤ maxLen ∧ (l.length + 1) * 8 ≤ 140737488355328) := ⟨rfl, by simp [Value.oneCell'], by unfold maxLen; omega, by omega⟩
    clear h hl hB hlt
    go_enter Tryz.func88, Tryz.ntmps88
    go_wp2_with fail
    refine HR.out.mono ?_
    rintro e w1 ⟨rfl, q, hq⟩
    have HL1 : Hid (Hk (layH B) 211 w1 s A c G l) := hq ▸ HL.out.fr ((Fr.refl [] w).drewN q) (by simp) (fun _ _ => by simp)
    have HF1 : Hid (Fr [] w w1) := hq ▸ (Fr.refl [] w).drewN q
    clear hq HR
    have c0 : w1.cell? ⟨s, 0, none⟩ = some (.slice A l.length c) := by rw [HL1.out.st.cell]; rfl
    have N0 : s < w1.heap.size := HL1.out.st.lt
    have HFZ : Hid (∀ w2 w', Fr [] w1 w2 → Fr G w2 w' → w'.cell? ⟨s, 0, none⟩ = some (.slice A l.length c) ∧ w'.frozen? ⟨s, 0, none⟩ = false) := fun w2 w' hf0 hf => by
      have hb := (HL1.out.st.fr hf0 (by simp)).fr hf (HL1.out.far (by decide))
      exact ⟨by rw [hb.cell]; rfl, hb.frozen 0⟩
    have HL2 : Hid (Hk (layH B) 211 (w1.alloc (.cells #[.int .u64 r] 67)) s A c G l) := HL1.out.fr ((Fr.refl [] w1).alloc _) (by simp) (fun _ _ => by simp)
    obtain ⟨n, hn0⟩ : ∃ n, n = l.length := ⟨_, rfl⟩
    have hlen : (l ++ [r]).length = n + 1 := by simp [hn0]
    rw [← hn0] at c0 HN HFZ
    have HLR : Hid (Lr (w1.alloc (.cells #[.int .u64 r] 67)) 67 A n c G (refV l)) := by rw [hn0]; exact HL2.out.row
    have HLN := hide hlen
    clear hn0 hlen
    go_wp2_with (first | (at_builtin; refine wpList_append_lr rfl _ _ 62 rfl 67 i0 (.int .u64 0) 8 Tryz.underlying62 hi hz0 hz1 hz2 rfl rfl HLR.out rfl HN.out.1 (fun _ => one_of w1 _ 67 rfl _ (Fr.refl _ _)) HN.out.2.1 HN.out.2.2.1 HN.out.2.2.2 ?_; intro A' c' G' w' HLn HFn HGn; have d0 := (HFZ.out _ _ ((Fr.refl _ _).alloc _) HFn.out).1; have dz := (HFZ.out _ _ ((Fr.refl _ _).alloc _) HFn.out).2))
    have HQ : Hid (HkP (w'.setCell ⟨s, 0, none⟩ (.slice A' (n + 1) c')) s (s :: G') B (l ++ [r])) := by
      have h2 := HL2.out.put (by decide) (ci := 0) (fun _ _ => rfl) (l' := l ++ [r]) (A' := A') (c' := c') (G' := G') HFn.out (by rw [HLN.out, refV_app]; exact HLn.out)
      rw [HLN.out] at h2
      exact ⟨_, c', G', h2, rfl⟩
    have HF2 : Hid (Fr (s :: G) w (w'.setCell ⟨s, 0, none⟩ (.slice A' (n + 1) c'))) := ((HF1.out.alloc (.cells #[.int .u64 r] 67)).mono (G := s :: G) (fun _ h => by cases h)).trans_same (Hk.put_fr HFn.out 0 _)
    go_ret
    refine ⟨_, rfl, HQ.out, HF2.out, fun x hx => ?_⟩
    rcases List.mem_cons.1 hx with rfl | hx
    · exact .inl (by simp)
    · rcases HGn.out x hx with h1 | ⟨h1, _⟩
      · exact .inl (by simp [h1])
      · have := HF1.out.size
        right
        rw [h1]
        simp
        omega
  · have e1 : hkPush B l r = l := by unfold hkPush; rw [if_neg hlt]
    have e2 : hkPushE B l = 15 := by unfold hkPushE; rw [if_neg hlt]
    have hn : (B : Int) - (l.length : Int) = 0 := by omega
    rw [e1, e2]
    rw [hn] at HR
    clear e1 e2 h hn
    go_enter Tryz.func88, Tryz.ntmps88
    go_wp2_with fail
    refine HR.out.mono ?_
    rintro e w1 ⟨rfl, q, rfl⟩
    go_wp2_with fail
    go_ret
    exact ⟨F, rfl, HH.out.drewN q, (Fr.refl _ _).drewN q, fun x hx => .inl hx⟩
end
end Go.Proofs.YthacgiajnafpgaaGreatDoor
/- The document's stack of handles, the comparison of two lists of references, and a list that is handed out. -/
namespace Go.Proofs.YthacgiajnafpgaaGreatDoor
set_option linter.unusedVariables false
open Go.RowKit Go.Gl

def ClonePost (w : World) (l : List Int) (e : Ending) (w' : World) : Prop := ∃ A c G, e = .returned (.slice A l.length c) ∧ Lr w' 67 A l.length c G (refV l) ∧ Fr [] w w' ∧ ∀ g, g ∈ G → w.heap.size ≤ g
/-! The document's stack. -/
abbrev HkR (w : World) (s : Nat) (F : List Nat) (B : Nat) (l : List Int) : Prop := ∃ A c G, Hk (layR12 B) 235 w s A c G l ∧ F = s :: G
section
variable {w w' : World} {s c B : Nat} {A : Option Addr} {F F' G : List Nat} {l : List Int}
theorem HkR.fr (h : HkR w s F B l) (hf : Fr F' w w') (hd : ∀ g, g ∈ F → g ∉ F') : HkR w' s F B l := by
  obtain ⟨A, c, G, h, rfl⟩ := h
  exact ⟨A, c, G, h.fr hf (hd s (by simp)) (fun g hg => hd g (by simp [hg])), rfl⟩
theorem HkR.fr0 (h : HkR w s F B l) (hf : Fr [] w w') : HkR w' s F B l := h.fr hf (fun _ _ => by simp)
theorem HkR.drewN (h : HkR w s F B l) (k : Nat) : HkR (w.drewN k) s F B l := h.fr0 ((Fr.refl _ _).drewN k)
theorem HkR.lt (h : HkR w s F B l) : ∀ g, g ∈ F → g < w.heap.size := by
  obtain ⟨A, c, G, h, rfl⟩ := h
  intro g hg
  rcases List.mem_cons.1 hg with rfl | hg
  · exact h.st.lt
  · exact h.row.lt g hg
end
theorem r12new_ok (B : Nat) (h1 : 1 ≤ B) (h2 : B ≤ 64) (w : World) : Calls Tryz.prog 112 #[.int .i64 (B : Int)] w (HkNew (fun w' s F => HkR w' s F B []) w) := by
  have g1 : ¬ ((B : Int) < 1) := by omega
  have g2 : ¬ ((B : Int) > 64) := by omega
  go_enter Tryz.func112, Tryz.ntmps112
  go_wp2
  go_ret2
  exact ⟨_, _, rfl, ⟨none, 0, [], ⟨Blk.new _ _ _, Lr.nil _ _⟩, rfl⟩, (Fr.refl _ _).alloc _, fun x hx => by simp at hx; omega⟩
section
variable {w : World} {s B : Nat} {F : List Nat} {l : List Int}
end
end Go.Proofs.YthacgiajnafpgaaGreatDoor
