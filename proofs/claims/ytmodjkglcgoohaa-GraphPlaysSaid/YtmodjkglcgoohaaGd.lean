/- Package graph: act and Do; a graph that isn't there. -/
import Derived.Test.YtmodjkglcgoohaaGc
import Derived.WalkKit
import Derived.BigQuiet
namespace Go.Proofs.Ytmodjkglcgoohaa
set_option linter.unusedVariables false
set_option linter.unusedSimpArgs false
open Go.RowKit Go.Gl

def opV (o : Po) : Value := .agg #[.int .i64 o.k, .int .i64 o.a, .int .i64 o.b, .int .i64 o.c, .int .u64 o.v]
/-- An operation's numbers are such as a word holds. -/
structure PoOk (o : Po) : Prop where
  a : -9223372036854775808 ≤ o.a ∧ o.a ≤ 9223372036854775807
  b : -9223372036854775808 ≤ o.b ∧ o.b ≤ 9223372036854775807
def ansC (th dn : Int) (x : An) : Array Value := #[.int .i64 th, .int .i64 dn, .int .i64 x.code, .int .u64 x.word, .bool x.bit]
def ActPost (w : World) (tg : TG) (g : Nat) (S : Nat → Nat) (T B M : Nat) (σ : GS) (ab : Nat) (th dn : Int) (x : An) (e : Ending) (w' : World) : Prop :=
  e = .returned (.tuple #[]) ∧ ∃ tg', GAt w' tg' g S T B M σ ∧ Blk w' ab 34 (ansC th dn x) ∧ (∃ F, Fr F w w' ∧ ∀ x, x ∈ F → x = ab ∨ (tg x).1 ≠ 0) ∧ GTgUp w tg tg'
section
variable {w w' : World} {tg tg' : TG} {F : List Nat} {Λ : GL} {T B M : Nat} {nn : Int} {σ : GS} {t : Nat}
theorem GAt.fr {g : Nat} {S : Nat → Nat} (h : GAt w tg g S T B M σ) (hf : Fr F w w') (hF : ∀ x, x ∈ F → (tg x).1 = 0) : GAt w' tg g S T B M σ := by
  obtain ⟨Λ, h1, h2, h3⟩ := h
  exact ⟨Λ, h1.fr hf hF, h2, h3⟩
theorem GAt.fr0 {g : Nat} {S : Nat → Nat} (h : GAt w tg g S T B M σ) (hf : Fr [] w w') : GAt w' tg g S T B M σ := h.fr hf (by simp)
theorem GAt.tok {g : Nat} {S : Nat → Nat} (h : GAt w tg g S T B M σ) : GTgOk w tg := by
  obtain ⟨Λ, h1, h2, h3⟩ := h
  exact h1.tok
theorem ActPost.of {w1 w2 w3 : World} {tg2 : TG} {g ab : Nat} {S : Nat → Nat} {th dn : Int} {x : An} {cs : Array Value} (hf : Fr [] w w1) (hg : GFr w1 tg w2 tg2) (hq : GAt w2 tg2 g S T B M σ) (hb : Blk w ab 34 cs) (ha : (tg ab).1 = 0)
    (hf3 : Fr [ab] w2 w3) (hb3 : Blk w3 ab 34 (ansC th dn x)) : ActPost w tg g S T B M σ ab th dn x (.returned (.tuple #[])) w3 := by
  have h2 : (tg2 ab).1 = 0 := by rw [hg.up ab (Nat.lt_of_lt_of_le hb.lt hf.size)]; exact ha
  have hfg := (GFr.fr0 (tg := tg) hf).trans hg
  obtain ⟨F, h4, h5⟩ := hfg.fr
  refine ⟨rfl, tg2, hq.fr hf3 (fun z hz => by simp at hz; rw [hz]; exact h2), hb3, ⟨ab :: F, (h4.mono (fun z hz => .inl (by simp [hz]))).trans hf3 (fun z hz => .inl (by simp at hz; simp [hz])), fun z hz => ?_⟩, hfg.up⟩
  rcases List.mem_cons.1 hz with h6 | h6
  · exact .inl h6
  · exact .inr (h5 z h6)

theorem gnull_any (h : PGm w tg Λ T B M (σ.N : Int) σ) (ok : GOk T B σ) (hd : GDim T B M) (ht : t < T) :
    Calls Try.prog 33 #[.pointer (some ⟨Λ.g, 0, none⟩), .pointer (some ⟨Λ.S t, 0, none⟩), .pointer none] w (GPost w tg (fun w' tg' => GAt w' tg' Λ.g Λ.S T B M (σ.push B t 0)) (.int .i64 (hkPushE B (σ.st t)))) :=
  (gpush_any h ok hd ht (r := 0) (Int.le_refl _) (by omega)).mono fun e w' ⟨h1, tg', h2, h3⟩ => ⟨h1, tg', PGm.at h2, h3⟩
theorem gpop_at (h : PGm w tg Λ T B M (σ.N : Int) σ) (ok : GOk T B σ) (hd : GDim T B M) (ht : t < T) :
    Calls Try.prog 34 #[.pointer (some ⟨Λ.g, 0, none⟩), .pointer (some ⟨Λ.S t, 0, none⟩)] w (GPost w tg (fun w' tg' => GAt w' tg' Λ.g Λ.S T B M (popS σ t)) (.int .i64 (hkPopE (σ.st t)))) :=
  (gpop_any h ok hd ht).mono fun e w' ⟨h1, tg', h2, h3⟩ => ⟨h1, tg', PGm.at h2, h3⟩
set_option maxRecDepth 100000 in
set_option maxHeartbeats 1600000 in
theorem gact_1 (h : PGm w tg Λ T B M (σ.N : Int) σ) (ok : GOk T B σ) (hd : GDim T B M) (hN : σ.N + 1 ≤ 4096) (ht : t < T) (a b c v : Int) (ha : -9223372036854775808 ≤ a ∧ a ≤ 9223372036854775807) (hb : -9223372036854775808 ≤ b ∧ b ≤ 9223372036854775807) {ab : Nat} {th dn : Int} (hab : Blk w ab 34 (ansC th dn ⟨0, 0, false⟩)) (htg : (tg ab).1 = 0) :
    Calls Try.prog 21 #[.pointer (some ⟨Λ.g, 0, none⟩), .pointer (some ⟨Λ.S t, 0, none⟩), opV ⟨1, a, b, c, v⟩, .pointer (some ⟨ab, 0, none⟩)] w (ActPost w tg Λ.g Λ.S T B M (allocS B M σ t a b) ab th dn ⟨allocE B M σ t a b, 0, false⟩) := by
  have hf1 : Fr [] w (w.alloc (.cells #[.int .i64 1, .int .i64 a, .int .i64 b, .int .i64 c, .int .u64 v] 38)) := (Fr.refl _ _).alloc _
  have hp1 := h.fr0 hf1
  have HC := hide (galloc_any hp1 ok hd hN ht a b ha hb)
  have HF1 := hide hf1
  have HAB := hide hab
  have HTG := hide htg
  have HP1 := hide (PGm.at hp1)
  have HB1 := hide (hab.fr hf1 (by simp))
  unfold opV
  clear h hp1 hf1 hab htg ok hd hN ht ha hb
  generalize allocE B M σ t a b = E at *
  generalize (allocS B M σ t a b) = σ' at *
  go_enter Try.func21, Try.ntmps21
  go_wp2_with fail
  refine HC.out.mono ?_
  rintro e w2 ⟨rfl, tg2, hq, hg⟩
  have hb2 := hg.blk HB1.out HTG.out
  have d2 : w2.cell? ⟨ab, 2, none⟩ = some (.int .i64 0) := by rw [hb2.cell]; rfl
  have dz := hb2.frozen 2
  have HQ := hide hq
  have HG := hide hg
  have HB2 := hide hb2
  clear hq hg hb2
  go_wp2_with fail
  go_end0
  exact ActPost.of HF1.out HG.out HQ.out HAB.out HTG.out ((Fr.refl _ _).setCell (p := ⟨ab, 2, none⟩) (.inl (by simp)) _) (by have := HB2.out.put 2 (.int .i64 E); simpa [ansC] using this)
set_option maxRecDepth 100000 in
set_option maxHeartbeats 1600000 in
theorem gact_2 (h : PGm w tg Λ T B M (σ.N : Int) σ) (ok : GOk T B σ) (hd : GDim T B M) (hN : σ.N + 1 ≤ 4096) (ht : t < T) (a b c v : Int) (ha : -9223372036854775808 ≤ a ∧ a ≤ 9223372036854775807) (hb : -9223372036854775808 ≤ b ∧ b ≤ 9223372036854775807) {ab : Nat} {th dn : Int} (hab : Blk w ab 34 (ansC th dn ⟨0, 0, false⟩)) (htg : (tg ab).1 = 0) :
    Calls Try.prog 21 #[.pointer (some ⟨Λ.g, 0, none⟩), .pointer (some ⟨Λ.S t, 0, none⟩), opV ⟨2, a, b, c, v⟩, .pointer (some ⟨ab, 0, none⟩)] w (ActPost w tg Λ.g Λ.S T B M (loadS B σ t a b) ab th dn ⟨loadE B σ t a b, 0, false⟩) := by
  have hf1 : Fr [] w (w.alloc (.cells #[.int .i64 2, .int .i64 a, .int .i64 b, .int .i64 c, .int .u64 v] 38)) := (Fr.refl _ _).alloc _
  have hp1 := h.fr0 hf1
  have HC := hide (gload_any hp1 ok hd ht a b)
  have HF1 := hide hf1
  have HAB := hide hab
  have HTG := hide htg
  have HP1 := hide (PGm.at hp1)
  have HB1 := hide (hab.fr hf1 (by simp))
  unfold opV
  clear h hp1 hf1 hab htg ok hd hN ht ha hb
  generalize loadE B σ t a b = E at *
  generalize (loadS B σ t a b) = σ' at *
  go_enter Try.func21, Try.ntmps21
  go_wp2_with fail
  refine HC.out.mono ?_
  rintro e w2 ⟨rfl, tg2, hq, hg⟩
  have hb2 := hg.blk HB1.out HTG.out
  have d2 : w2.cell? ⟨ab, 2, none⟩ = some (.int .i64 0) := by rw [hb2.cell]; rfl
  have dz := hb2.frozen 2
  have HQ := hide hq
  have HG := hide hg
  have HB2 := hide hb2
  clear hq hg hb2
  go_wp2_with fail
  go_end0
  exact ActPost.of HF1.out HG.out HQ.out HAB.out HTG.out ((Fr.refl _ _).setCell (p := ⟨ab, 2, none⟩) (.inl (by simp)) _) (by have := HB2.out.put 2 (.int .i64 E); simpa [ansC] using this)
set_option maxRecDepth 100000 in
set_option maxHeartbeats 1600000 in
theorem gact_3 (h : PGm w tg Λ T B M (σ.N : Int) σ) (ok : GOk T B σ) (hd : GDim T B M) (hN : σ.N + 1 ≤ 4096) (ht : t < T) (a b c v : Int) (ha : -9223372036854775808 ≤ a ∧ a ≤ 9223372036854775807) (hb : -9223372036854775808 ≤ b ∧ b ≤ 9223372036854775807) {ab : Nat} {th dn : Int} (hab : Blk w ab 34 (ansC th dn ⟨0, 0, false⟩)) (htg : (tg ab).1 = 0) :
    Calls Try.prog 21 #[.pointer (some ⟨Λ.g, 0, none⟩), .pointer (some ⟨Λ.S t, 0, none⟩), opV ⟨3, a, b, c, v⟩, .pointer (some ⟨ab, 0, none⟩)] w (ActPost w tg Λ.g Λ.S T B M (storeS σ t a b c) ab th dn ⟨storeE σ t a b c, 0, false⟩) := by
  have hf1 : Fr [] w (w.alloc (.cells #[.int .i64 3, .int .i64 a, .int .i64 b, .int .i64 c, .int .u64 v] 38)) := (Fr.refl _ _).alloc _
  have hp1 := h.fr0 hf1
  have HC := hide (gstore_any hp1 ok hd ht a b c)
  have HF1 := hide hf1
  have HAB := hide hab
  have HTG := hide htg
  have HP1 := hide (PGm.at hp1)
  have HB1 := hide (hab.fr hf1 (by simp))
  unfold opV
  clear h hp1 hf1 hab htg ok hd hN ht ha hb
  generalize storeE σ t a b c = E at *
  generalize (storeS σ t a b c) = σ' at *
  go_enter Try.func21, Try.ntmps21
  go_wp2_with fail
  refine HC.out.mono ?_
  rintro e w2 ⟨rfl, tg2, hq, hg⟩
  have hb2 := hg.blk HB1.out HTG.out
  have d2 : w2.cell? ⟨ab, 2, none⟩ = some (.int .i64 0) := by rw [hb2.cell]; rfl
  have dz := hb2.frozen 2
  have HQ := hide hq
  have HG := hide hg
  have HB2 := hide hb2
  clear hq hg hb2
  go_wp2_with fail
  go_end0
  exact ActPost.of HF1.out HG.out HQ.out HAB.out HTG.out ((Fr.refl _ _).setCell (p := ⟨ab, 2, none⟩) (.inl (by simp)) _) (by have := HB2.out.put 2 (.int .i64 E); simpa [ansC] using this)
set_option maxRecDepth 100000 in
set_option maxHeartbeats 1600000 in
theorem gact_4 (h : PGm w tg Λ T B M (σ.N : Int) σ) (ok : GOk T B σ) (hd : GDim T B M) (hN : σ.N + 1 ≤ 4096) (ht : t < T) (a b c v : Int) (ha : -9223372036854775808 ≤ a ∧ a ≤ 9223372036854775807) (hb : -9223372036854775808 ≤ b ∧ b ≤ 9223372036854775807) {ab : Nat} {th dn : Int} (hab : Blk w ab 34 (ansC th dn ⟨0, 0, false⟩)) (htg : (tg ab).1 = 0) :
    Calls Try.prog 21 #[.pointer (some ⟨Λ.g, 0, none⟩), .pointer (some ⟨Λ.S t, 0, none⟩), opV ⟨4, a, b, c, v⟩, .pointer (some ⟨ab, 0, none⟩)] w (ActPost w tg Λ.g Λ.S T B M σ ab th dn ⟨wordE σ t a b, readV σ t a b, false⟩) := by
  have hf1 : Fr [] w (w.alloc (.cells #[.int .i64 4, .int .i64 a, .int .i64 b, .int .i64 c, .int .u64 v] 38)) := (Fr.refl _ _).alloc _
  have hp1 := h.fr0 hf1
  have HC := hide (gread_any hp1 ok ht a b)
  have HF1 := hide hf1
  have HAB := hide hab
  have HTG := hide htg
  have HP1 := hide (PGm.at hp1)
  have HB1 := hide (hab.fr hf1 (by simp))
  unfold opV
  clear h hp1 hf1 hab htg ok hd hN ht ha hb
  generalize wordE σ t a b = E at *
  generalize readV σ t a b = W at *
  go_enter Try.func21, Try.ntmps21
  go_wp2_with fail
  refine HC.out.mono ?_
  rintro e w2 ⟨rfl, hw2⟩
  have HB2 : Hid (Blk w2 ab 34 (ansC th dn ⟨0, 0, false⟩)) := hw2 ▸ HB1.out
  have HG : Hid (GFr (w.alloc (.cells #[.int .i64 4, .int .i64 a, .int .i64 b, .int .i64 c, .int .u64 v] 38)) tg w2 tg) := hw2 ▸ GFr.refl _ _
  have HQ : Hid (GAt w2 tg Λ.g Λ.S T B M σ) := hw2 ▸ HP1.out
  have d2 : w2.cell? ⟨ab, 2, none⟩ = some (.int .i64 0) := by rw [HB2.out.cell]; rfl
  have dz := HB2.out.frozen 2
  have d3 : w2.cell? ⟨ab, 3, none⟩ = some (.int .u64 0) := by rw [HB2.out.cell]; rfl
  have dz3 := HB2.out.frozen 3
  clear hw2 HB1 HP1 HC
  go_wp2_with fail
  go_end0
  exact ActPost.of HF1.out HG.out HQ.out HAB.out HTG.out (((Fr.refl _ _).setCell (p := ⟨ab, 3, none⟩) (.inl (by simp)) _).setCell (p := ⟨ab, 2, none⟩) (.inl (by simp)) _) (by have := (HB2.out.put 3 (.int .u64 W)).put 2 (.int .i64 E); simpa [ansC] using this)
set_option maxRecDepth 100000 in
set_option maxHeartbeats 1600000 in
theorem gact_5 (h : PGm w tg Λ T B M (σ.N : Int) σ) (ok : GOk T B σ) (hd : GDim T B M) (hN : σ.N + 1 ≤ 4096) (ht : t < T) (a b c v : Int) (ha : -9223372036854775808 ≤ a ∧ a ≤ 9223372036854775807) (hb : -9223372036854775808 ≤ b ∧ b ≤ 9223372036854775807) {ab : Nat} {th dn : Int} (hab : Blk w ab 34 (ansC th dn ⟨0, 0, false⟩)) (htg : (tg ab).1 = 0) :
    Calls Try.prog 21 #[.pointer (some ⟨Λ.g, 0, none⟩), .pointer (some ⟨Λ.S t, 0, none⟩), opV ⟨5, a, b, c, v⟩, .pointer (some ⟨ab, 0, none⟩)] w (ActPost w tg Λ.g Λ.S T B M (writeS σ t a b v) ab th dn ⟨wordE σ t a b, 0, false⟩) := by
  have hf1 : Fr [] w (w.alloc (.cells #[.int .i64 5, .int .i64 a, .int .i64 b, .int .i64 c, .int .u64 v] 38)) := (Fr.refl _ _).alloc _
  have hp1 := h.fr0 hf1
  have HC := hide (gwrite_any hp1 ok ht a b v)
  have HF1 := hide hf1
  have HAB := hide hab
  have HTG := hide htg
  have HP1 := hide (PGm.at hp1)
  have HB1 := hide (hab.fr hf1 (by simp))
  unfold opV
  clear h hp1 hf1 hab htg ok hd hN ht ha hb
  generalize wordE σ t a b = E at *
  generalize (writeS σ t a b v) = σ' at *
  go_enter Try.func21, Try.ntmps21
  go_wp2_with fail
  refine HC.out.mono ?_
  rintro e w2 ⟨rfl, tg2, hq, hg⟩
  have hb2 := hg.blk HB1.out HTG.out
  have d2 : w2.cell? ⟨ab, 2, none⟩ = some (.int .i64 0) := by rw [hb2.cell]; rfl
  have dz := hb2.frozen 2
  have HQ := hide hq
  have HG := hide hg
  have HB2 := hide hb2
  clear hq hg hb2
  go_wp2_with fail
  go_end0
  exact ActPost.of HF1.out HG.out HQ.out HAB.out HTG.out ((Fr.refl _ _).setCell (p := ⟨ab, 2, none⟩) (.inl (by simp)) _) (by have := HB2.out.put 2 (.int .i64 E); simpa [ansC] using this)
set_option maxRecDepth 100000 in
set_option maxHeartbeats 1600000 in
theorem gact_6 (h : PGm w tg Λ T B M (σ.N : Int) σ) (ok : GOk T B σ) (hd : GDim T B M) (hN : σ.N + 1 ≤ 4096) (ht : t < T) (a b c v : Int) (ha : -9223372036854775808 ≤ a ∧ a ≤ 9223372036854775807) (hb : -9223372036854775808 ≤ b ∧ b ≤ 9223372036854775807) {ab : Nat} {th dn : Int} (hab : Blk w ab 34 (ansC th dn ⟨0, 0, false⟩)) (htg : (tg ab).1 = 0) :
    Calls Try.prog 21 #[.pointer (some ⟨Λ.g, 0, none⟩), .pointer (some ⟨Λ.S t, 0, none⟩), opV ⟨6, a, b, c, v⟩, .pointer (some ⟨ab, 0, none⟩)] w (ActPost w tg Λ.g Λ.S T B M (σ.push B t 0) ab th dn ⟨hkPushE B (σ.st t), 0, false⟩) := by
  have hf1 : Fr [] w (w.alloc (.cells #[.int .i64 6, .int .i64 a, .int .i64 b, .int .i64 c, .int .u64 v] 38)) := (Fr.refl _ _).alloc _
  have hp1 := h.fr0 hf1
  have HC := hide (gnull_any hp1 ok hd ht)
  have HF1 := hide hf1
  have HAB := hide hab
  have HTG := hide htg
  have HP1 := hide (PGm.at hp1)
  have HB1 := hide (hab.fr hf1 (by simp))
  unfold opV
  clear h hp1 hf1 hab htg ok hd hN ht ha hb
  generalize hkPushE B (σ.st t) = E at *
  generalize (σ.push B t 0) = σ' at *
  go_enter Try.func21, Try.ntmps21
  go_wp2_with fail
  refine HC.out.mono ?_
  rintro e w2 ⟨rfl, tg2, hq, hg⟩
  have hb2 := hg.blk HB1.out HTG.out
  have d2 : w2.cell? ⟨ab, 2, none⟩ = some (.int .i64 0) := by rw [hb2.cell]; rfl
  have dz := hb2.frozen 2
  have HQ := hide hq
  have HG := hide hg
  have HB2 := hide hb2
  clear hq hg hb2
  go_wp2_with fail
  go_end0
  exact ActPost.of HF1.out HG.out HQ.out HAB.out HTG.out ((Fr.refl _ _).setCell (p := ⟨ab, 2, none⟩) (.inl (by simp)) _) (by have := HB2.out.put 2 (.int .i64 E); simpa [ansC] using this)
set_option maxRecDepth 100000 in
set_option maxHeartbeats 1600000 in
theorem gact_7 (h : PGm w tg Λ T B M (σ.N : Int) σ) (ok : GOk T B σ) (hd : GDim T B M) (hN : σ.N + 1 ≤ 4096) (ht : t < T) (a b c v : Int) (ha : -9223372036854775808 ≤ a ∧ a ≤ 9223372036854775807) (hb : -9223372036854775808 ≤ b ∧ b ≤ 9223372036854775807) {ab : Nat} {th dn : Int} (hab : Blk w ab 34 (ansC th dn ⟨0, 0, false⟩)) (htg : (tg ab).1 = 0) :
    Calls Try.prog 21 #[.pointer (some ⟨Λ.g, 0, none⟩), .pointer (some ⟨Λ.S t, 0, none⟩), opV ⟨7, a, b, c, v⟩, .pointer (some ⟨ab, 0, none⟩)] w (ActPost w tg Λ.g Λ.S T B M (popS σ t) ab th dn ⟨hkPopE (σ.st t), 0, false⟩) := by
  have hf1 : Fr [] w (w.alloc (.cells #[.int .i64 7, .int .i64 a, .int .i64 b, .int .i64 c, .int .u64 v] 38)) := (Fr.refl _ _).alloc _
  have hp1 := h.fr0 hf1
  have HC := hide (gpop_at hp1 ok hd ht)
  have HF1 := hide hf1
  have HAB := hide hab
  have HTG := hide htg
  have HP1 := hide (PGm.at hp1)
  have HB1 := hide (hab.fr hf1 (by simp))
  unfold opV
  clear h hp1 hf1 hab htg ok hd hN ht ha hb
  generalize hkPopE (σ.st t) = E at *
  generalize (popS σ t) = σ' at *
  go_enter Try.func21, Try.ntmps21
  go_wp2_with fail
  refine HC.out.mono ?_
  rintro e w2 ⟨rfl, tg2, hq, hg⟩
  have hb2 := hg.blk HB1.out HTG.out
  have d2 : w2.cell? ⟨ab, 2, none⟩ = some (.int .i64 0) := by rw [hb2.cell]; rfl
  have dz := hb2.frozen 2
  have HQ := hide hq
  have HG := hide hg
  have HB2 := hide hb2
  clear hq hg hb2
  go_wp2_with fail
  go_end0
  exact ActPost.of HF1.out HG.out HQ.out HAB.out HTG.out ((Fr.refl _ _).setCell (p := ⟨ab, 2, none⟩) (.inl (by simp)) _) (by have := HB2.out.put 2 (.int .i64 E); simpa [ansC] using this)
set_option maxRecDepth 100000 in
set_option maxHeartbeats 1600000 in
theorem gact_8 (h : PGm w tg Λ T B M (σ.N : Int) σ) (ok : GOk T B σ) (hd : GDim T B M) (hN : σ.N + 1 ≤ 4096) (ht : t < T) (a b c v : Int) (ha : -9223372036854775808 ≤ a ∧ a ≤ 9223372036854775807) (hb : -9223372036854775808 ≤ b ∧ b ≤ 9223372036854775807) {ab : Nat} {th dn : Int} (hab : Blk w ab 34 (ansC th dn ⟨0, 0, false⟩)) (htg : (tg ab).1 = 0) :
    Calls Try.prog 21 #[.pointer (some ⟨Λ.g, 0, none⟩), .pointer (some ⟨Λ.S t, 0, none⟩), opV ⟨8, a, b, c, v⟩, .pointer (some ⟨ab, 0, none⟩)] w (ActPost w tg Λ.g Λ.S T B M (dupS B σ t a) ab th dn ⟨dupE B σ t a, 0, false⟩) := by
  have hf1 : Fr [] w (w.alloc (.cells #[.int .i64 8, .int .i64 a, .int .i64 b, .int .i64 c, .int .u64 v] 38)) := (Fr.refl _ _).alloc _
  have hp1 := h.fr0 hf1
  have HC := hide (gdup_any hp1 ok hd ht a)
  have HF1 := hide hf1
  have HAB := hide hab
  have HTG := hide htg
  have HP1 := hide (PGm.at hp1)
  have HB1 := hide (hab.fr hf1 (by simp))
  unfold opV
  clear h hp1 hf1 hab htg ok hd hN ht ha hb
  generalize dupE B σ t a = E at *
  generalize (dupS B σ t a) = σ' at *
  go_enter Try.func21, Try.ntmps21
  go_wp2_with fail
  refine HC.out.mono ?_
  rintro e w2 ⟨rfl, tg2, hq, hg⟩
  have hb2 := hg.blk HB1.out HTG.out
  have d2 : w2.cell? ⟨ab, 2, none⟩ = some (.int .i64 0) := by rw [hb2.cell]; rfl
  have dz := hb2.frozen 2
  have HQ := hide hq
  have HG := hide hg
  have HB2 := hide hb2
  clear hq hg hb2
  go_wp2_with fail
  go_end0
  exact ActPost.of HF1.out HG.out HQ.out HAB.out HTG.out ((Fr.refl _ _).setCell (p := ⟨ab, 2, none⟩) (.inl (by simp)) _) (by have := HB2.out.put 2 (.int .i64 E); simpa [ansC] using this)
set_option maxRecDepth 100000 in
set_option maxHeartbeats 1600000 in
theorem gact_9 (h : PGm w tg Λ T B M (σ.N : Int) σ) (ok : GOk T B σ) (hd : GDim T B M) (hN : σ.N + 1 ≤ 4096) (ht : t < T) (a b c v : Int) (ha : -9223372036854775808 ≤ a ∧ a ≤ 9223372036854775807) (hb : -9223372036854775808 ≤ b ∧ b ≤ 9223372036854775807) {ab : Nat} {th dn : Int} (hab : Blk w ab 34 (ansC th dn ⟨0, 0, false⟩)) (htg : (tg ab).1 = 0) :
    Calls Try.prog 21 #[.pointer (some ⟨Λ.g, 0, none⟩), .pointer (some ⟨Λ.S t, 0, none⟩), opV ⟨9, a, b, c, v⟩, .pointer (some ⟨ab, 0, none⟩)] w (ActPost w tg Λ.g Λ.S T B M σ ab th dn ⟨equalE σ t a b, 0, equalV σ t a b⟩) := by
  have hf1 : Fr [] w (w.alloc (.cells #[.int .i64 9, .int .i64 a, .int .i64 b, .int .i64 c, .int .u64 v] 38)) := (Fr.refl _ _).alloc _
  have hp1 := h.fr0 hf1
  have HC := hide (gequal_any hp1 ht a b)
  have HF1 := hide hf1
  have HAB := hide hab
  have HTG := hide htg
  have HP1 := hide (PGm.at hp1)
  have HB1 := hide (hab.fr hf1 (by simp))
  unfold opV
  clear h hp1 hf1 hab htg ok hd hN ht ha hb
  generalize equalE σ t a b = E at *
  generalize equalV σ t a b = W at *
  go_enter Try.func21, Try.ntmps21
  go_wp2_with fail
  refine HC.out.mono ?_
  rintro e w2 ⟨rfl, hw2⟩
  have HB2 : Hid (Blk w2 ab 34 (ansC th dn ⟨0, 0, false⟩)) := hw2 ▸ HB1.out
  have HG : Hid (GFr (w.alloc (.cells #[.int .i64 9, .int .i64 a, .int .i64 b, .int .i64 c, .int .u64 v] 38)) tg w2 tg) := hw2 ▸ GFr.refl _ _
  have HQ : Hid (GAt w2 tg Λ.g Λ.S T B M σ) := hw2 ▸ HP1.out
  have d2 : w2.cell? ⟨ab, 2, none⟩ = some (.int .i64 0) := by rw [HB2.out.cell]; rfl
  have dz := HB2.out.frozen 2
  have d3 : w2.cell? ⟨ab, 4, none⟩ = some (.bool false) := by rw [HB2.out.cell]; rfl
  have dz3 := HB2.out.frozen 4
  clear hw2 HB1 HP1 HC
  go_wp2_with fail
  go_end0
  exact ActPost.of HF1.out HG.out HQ.out HAB.out HTG.out (((Fr.refl _ _).setCell (p := ⟨ab, 4, none⟩) (.inl (by simp)) _).setCell (p := ⟨ab, 2, none⟩) (.inl (by simp)) _) (by have := (HB2.out.put 4 (.bool W)).put 2 (.int .i64 E); simpa [ansC] using this)
set_option maxRecDepth 100000 in
set_option maxHeartbeats 1600000 in
theorem gact_10 (h : PGm w tg Λ T B M (σ.N : Int) σ) (ok : GOk T B σ) (hd : GDim T B M) (hN : σ.N + 1 ≤ 4096) (ht : t < T) (a b c v : Int) (ha : -9223372036854775808 ≤ a ∧ a ≤ 9223372036854775807) (hb : -9223372036854775808 ≤ b ∧ b ≤ 9223372036854775807) {ab : Nat} {th dn : Int} (hab : Blk w ab 34 (ansC th dn ⟨0, 0, false⟩)) (htg : (tg ab).1 = 0) :
    Calls Try.prog 21 #[.pointer (some ⟨Λ.g, 0, none⟩), .pointer (some ⟨Λ.S t, 0, none⟩), opV ⟨10, a, b, c, v⟩, .pointer (some ⟨ab, 0, none⟩)] w (ActPost w tg Λ.g Λ.S T B M σ ab th dn ⟨hkAtE (σ.st t) a, 0, isNilV σ t a⟩) := by
  have hf1 : Fr [] w (w.alloc (.cells #[.int .i64 10, .int .i64 a, .int .i64 b, .int .i64 c, .int .u64 v] 38)) := (Fr.refl _ _).alloc _
  have hp1 := h.fr0 hf1
  have HC := hide (gisnil_any hp1 ht a)
  have HF1 := hide hf1
  have HAB := hide hab
  have HTG := hide htg
  have HP1 := hide (PGm.at hp1)
  have HB1 := hide (hab.fr hf1 (by simp))
  unfold opV
  clear h hp1 hf1 hab htg ok hd hN ht ha hb
  generalize hkAtE (σ.st t) a = E at *
  generalize isNilV σ t a = W at *
  go_enter Try.func21, Try.ntmps21
  go_wp2_with fail
  refine HC.out.mono ?_
  rintro e w2 ⟨rfl, hw2⟩
  have HB2 : Hid (Blk w2 ab 34 (ansC th dn ⟨0, 0, false⟩)) := hw2 ▸ HB1.out
  have HG : Hid (GFr (w.alloc (.cells #[.int .i64 10, .int .i64 a, .int .i64 b, .int .i64 c, .int .u64 v] 38)) tg w2 tg) := hw2 ▸ GFr.refl _ _
  have HQ : Hid (GAt w2 tg Λ.g Λ.S T B M σ) := hw2 ▸ HP1.out
  have d2 : w2.cell? ⟨ab, 2, none⟩ = some (.int .i64 0) := by rw [HB2.out.cell]; rfl
  have dz := HB2.out.frozen 2
  have d3 : w2.cell? ⟨ab, 4, none⟩ = some (.bool false) := by rw [HB2.out.cell]; rfl
  have dz3 := HB2.out.frozen 4
  clear hw2 HB1 HP1 HC
  go_wp2_with fail
  go_end0
  exact ActPost.of HF1.out HG.out HQ.out HAB.out HTG.out (((Fr.refl _ _).setCell (p := ⟨ab, 4, none⟩) (.inl (by simp)) _).setCell (p := ⟨ab, 2, none⟩) (.inl (by simp)) _) (by have := (HB2.out.put 4 (.bool W)).put 2 (.int .i64 E); simpa [ansC] using this)
set_option maxRecDepth 100000 in
set_option maxHeartbeats 1600000 in
theorem gact_11 (h : PGm w tg Λ T B M (σ.N : Int) σ) (ok : GOk T B σ) (hd : GDim T B M) (hN : σ.N + 1 ≤ 4096) (ht : t < T) (a b c v : Int) (ha : -9223372036854775808 ≤ a ∧ a ≤ 9223372036854775807) (hb : -9223372036854775808 ≤ b ∧ b ≤ 9223372036854775807) {ab : Nat} {th dn : Int} (hab : Blk w ab 34 (ansC th dn ⟨0, 0, false⟩)) (htg : (tg ab).1 = 0) :
    Calls Try.prog 21 #[.pointer (some ⟨Λ.g, 0, none⟩), .pointer (some ⟨Λ.S t, 0, none⟩), opV ⟨11, a, b, c, v⟩, .pointer (some ⟨ab, 0, none⟩)] w (ActPost w tg Λ.g Λ.S T B M σ ab th dn ⟨0, 0, false⟩) := by
  have hf1 : Fr [] w (w.alloc (.cells #[.int .i64 11, .int .i64 a, .int .i64 b, .int .i64 c, .int .u64 v] 38)) := (Fr.refl _ _).alloc _
  have hp1 := h.fr0 hf1
  have HF1 := hide hf1
  have HAB := hide hab
  have HTG := hide htg
  have HP1 := hide (PGm.at hp1)
  have HB1 := hide (hab.fr hf1 (by simp))
  unfold opV
  clear h hp1 hf1 hab htg ok hd hN ht ha hb
  go_enter Try.func21, Try.ntmps21
  go_wp2_with fail
  go_end0
  exact ActPost.of HF1.out (GFr.refl _ _) HP1.out HAB.out HTG.out (Fr.refl _ _) HB1.out
set_option maxRecDepth 100000 in
set_option maxHeartbeats 1600000 in
theorem gact_12 (h : PGm w tg Λ T B M (σ.N : Int) σ) (ok : GOk T B σ) (hd : GDim T B M) (hN : σ.N + 1 ≤ 4096) (ht : t < T) (a b c v : Int) (ha : -9223372036854775808 ≤ a ∧ a ≤ 9223372036854775807) (hb : -9223372036854775808 ≤ b ∧ b ≤ 9223372036854775807) {ab : Nat} {th dn : Int} (hab : Blk w ab 34 (ansC th dn ⟨0, 0, false⟩)) (htg : (tg ab).1 = 0) :
    Calls Try.prog 21 #[.pointer (some ⟨Λ.g, 0, none⟩), .pointer (some ⟨Λ.S t, 0, none⟩), opV ⟨12, a, b, c, v⟩, .pointer (some ⟨ab, 0, none⟩)] w (ActPost w tg Λ.g Λ.S T B M σ ab th dn ⟨collectE a, 0, false⟩) := by
  have hf1 : Fr [] w (w.alloc (.cells #[.int .i64 12, .int .i64 a, .int .i64 b, .int .i64 c, .int .u64 v] 38)) := (Fr.refl _ _).alloc _
  have hp1 := h.fr0 hf1
  have HC := hide (gcollect_any a (w.alloc (.cells #[.int .i64 12, .int .i64 a, .int .i64 b, .int .i64 c, .int .u64 v] 38)))
  have HF1 := hide hf1
  have HAB := hide hab
  have HTG := hide htg
  have HP1 := hide (PGm.at hp1)
  have HB1 := hide (hab.fr hf1 (by simp))
  unfold opV
  clear h hp1 hf1 hab htg ok hd hN ht ha hb
  generalize collectE a = E at *
  go_enter Try.func21, Try.ntmps21
  go_wp2_with fail
  refine HC.out.mono ?_
  rintro e w2 ⟨rfl, hw2⟩
  have HB2 : Hid (Blk w2 ab 34 (ansC th dn ⟨0, 0, false⟩)) := hw2 ▸ HB1.out
  have HG : Hid (GFr (w.alloc (.cells #[.int .i64 12, .int .i64 a, .int .i64 b, .int .i64 c, .int .u64 v] 38)) tg w2 tg) := hw2 ▸ GFr.refl _ _
  have HQ : Hid (GAt w2 tg Λ.g Λ.S T B M σ) := hw2 ▸ HP1.out
  have d2 : w2.cell? ⟨ab, 2, none⟩ = some (.int .i64 0) := by rw [HB2.out.cell]; rfl
  have dz := HB2.out.frozen 2
  clear hw2 HB1 HP1 HC
  go_wp2_with fail
  go_end0
  exact ActPost.of HF1.out HG.out HQ.out HAB.out HTG.out ((Fr.refl _ _).setCell (p := ⟨ab, 2, none⟩) (.inl (by simp)) _) (by have := HB2.out.put 2 (.int .i64 E); simpa [ansC] using this)
set_option maxRecDepth 100000 in
set_option maxHeartbeats 1600000 in
theorem gact_13 (h : PGm w tg Λ T B M (σ.N : Int) σ) (ok : GOk T B σ) (hd : GDim T B M) (hN : σ.N + 1 ≤ 4096) (ht : t < T) (a b c v : Int) (ha : -9223372036854775808 ≤ a ∧ a ≤ 9223372036854775807) (hb : -9223372036854775808 ≤ b ∧ b ≤ 9223372036854775807) {ab : Nat} {th dn : Int} (hab : Blk w ab 34 (ansC th dn ⟨0, 0, false⟩)) (htg : (tg ab).1 = 0) :
    Calls Try.prog 21 #[.pointer (some ⟨Λ.g, 0, none⟩), .pointer (some ⟨Λ.S t, 0, none⟩), opV ⟨13, a, b, c, v⟩, .pointer (some ⟨ab, 0, none⟩)] w (ActPost w tg Λ.g Λ.S T B M (sendS B T σ t a b) ab th dn ⟨sendE B T σ t a b, 0, false⟩) := by
  have hf1 : Fr [] w (w.alloc (.cells #[.int .i64 13, .int .i64 a, .int .i64 b, .int .i64 c, .int .u64 v] 38)) := (Fr.refl _ _).alloc _
  have hp1 := h.fr0 hf1
  have HC := hide (gsend_any hp1 ok hd ht a b)
  have HF1 := hide hf1
  have HAB := hide hab
  have HTG := hide htg
  have HP1 := hide (PGm.at hp1)
  have HB1 := hide (hab.fr hf1 (by simp))
  unfold opV
  clear h hp1 hf1 hab htg ok hd hN ht ha hb
  generalize sendE B T σ t a b = E at *
  generalize (sendS B T σ t a b) = σ' at *
  go_enter Try.func21, Try.ntmps21
  go_wp2_with fail
  refine HC.out.mono ?_
  rintro e w2 ⟨rfl, tg2, hq, hg⟩
  have hb2 := hg.blk HB1.out HTG.out
  have d2 : w2.cell? ⟨ab, 2, none⟩ = some (.int .i64 0) := by rw [hb2.cell]; rfl
  have dz := hb2.frozen 2
  have HQ := hide hq
  have HG := hide hg
  have HB2 := hide hb2
  clear hq hg hb2
  go_wp2_with fail
  go_end0
  exact ActPost.of HF1.out HG.out HQ.out HAB.out HTG.out ((Fr.refl _ _).setCell (p := ⟨ab, 2, none⟩) (.inl (by simp)) _) (by have := HB2.out.put 2 (.int .i64 E); simpa [ansC] using this)
set_option maxRecDepth 100000 in
set_option maxHeartbeats 1600000 in
theorem gact_else (h : PGm w tg Λ T B M (σ.N : Int) σ) (k a b c v : Int) (hk : k < 1 ∨ 13 < k) {ab : Nat} {th dn : Int} (hab : Blk w ab 34 (ansC th dn ⟨0, 0, false⟩)) (htg : (tg ab).1 = 0) :
    Calls Try.prog 21 #[.pointer (some ⟨Λ.g, 0, none⟩), .pointer (some ⟨Λ.S t, 0, none⟩), opV ⟨k, a, b, c, v⟩, .pointer (some ⟨ab, 0, none⟩)] w (ActPost w tg Λ.g Λ.S T B M σ ab th dn ⟨17, 0, false⟩) := by
  have hf1 : Fr [] w (w.alloc (.cells #[.int .i64 k, .int .i64 a, .int .i64 b, .int .i64 c, .int .u64 v] 38)) := (Fr.refl _ _).alloc _
  have hp1 := h.fr0 hf1
  have HF1 := hide hf1
  have HAB := hide hab
  have HTG := hide htg
  have HP0 := hide h.at
  have HP1 := hide (PGm.at hp1)
  have HB1 := hide (hab.fr hf1 (by simp))
  unfold opV
  clear h hp1 hf1 hab htg
  have z1 : (k == 1) = false := by simp; omega
  have z2 : (k == 2) = false := by simp; omega
  have z3 : (k == 3) = false := by simp; omega
  have z4 : (k == 4) = false := by simp; omega
  have z5 : (k == 5) = false := by simp; omega
  have z6 : (k == 6) = false := by simp; omega
  have z7 : (k == 7) = false := by simp; omega
  have z8 : (k == 8) = false := by simp; omega
  have z9 : (k == 9) = false := by simp; omega
  have z10 : (k == 10) = false := by simp; omega
  have z11 : (k == 11) = false := by simp; omega
  have z12 : (k == 12) = false := by simp; omega
  have z13 : (k == 13) = false := by simp; omega
  have NAB : ab < w.heap.size := HAB.out.lt
  have za : w.frozen? ⟨ab, 2, none⟩ = false := HAB.out.frozen 2
  have ca : w.cell? ⟨ab, 2, none⟩ = some (.int .i64 0) := by rw [HAB.out.cell]; rfl
  clear hk
  go_enter Try.func21, Try.ntmps21
  go_wp2_with fail
  go_end0
  exact ActPost.of (Fr.refl _ _) (GFr.refl _ _) HP0.out HAB.out HTG.out (((Fr.refl _ _).setCell (p := ⟨ab, 2, none⟩) (.inl (by simp)) _).alloc _) (by have := (HAB.out.put 2 (.int .i64 17)).alloc (.cells #[.int .i64 k, .int .i64 a, .int .i64 b, .int .i64 c, .int .u64 v] 38); simpa [ansC] using this)

theorem gact_any (h : PGm w tg Λ T B M (σ.N : Int) σ) (ok : GOk T B σ) (hd : GDim T B M) (hN : σ.N + 1 ≤ 4096) (ht : t < T) (o : Po) (ho : PoOk o) {ab : Nat} {th dn : Int} (hab : Blk w ab 34 (ansC th dn ⟨0, 0, false⟩)) (htg : (tg ab).1 = 0) :
    Calls Try.prog 21 #[.pointer (some ⟨Λ.g, 0, none⟩), .pointer (some ⟨Λ.S t, 0, none⟩), opV o, .pointer (some ⟨ab, 0, none⟩)] w (ActPost w tg Λ.g Λ.S T B M (actS B M T σ t o) ab th dn (actA B M T σ t o)) := by
  obtain ⟨k, a, b, c, v⟩ := o
  obtain ⟨ha, hb⟩ := ho
  have ha : -9223372036854775808 ≤ a ∧ a ≤ 9223372036854775807 := ha
  have hb : -9223372036854775808 ≤ b ∧ b ≤ 9223372036854775807 := hb
  rcases (show (k < 1 ∨ 13 < k) ∨ k = 1 ∨ k = 2 ∨ k = 3 ∨ k = 4 ∨ k = 5 ∨ k = 6 ∨ k = 7 ∨ k = 8 ∨ k = 9 ∨ k = 10 ∨ k = 11 ∨ k = 12 ∨ k = 13 by omega) with hk | rfl | rfl | rfl | rfl | rfl | rfl | rfl | rfl | rfl | rfl | rfl | rfl | rfl
  · have e1 : actA B M T σ t ⟨k, a, b, c, v⟩ = ⟨17, 0, false⟩ := by
      unfold actA
      dsimp only
      iterate 13 rw [if_neg (by omega)]
    have e2 : actS B M T σ t ⟨k, a, b, c, v⟩ = σ := by
      unfold actS
      dsimp only
      iterate 8 rw [if_neg (by omega)]
    rw [e1, e2]
    exact gact_else h k a b c v hk hab htg
  · exact gact_1 h ok hd hN ht a b c v ha hb hab htg
  · exact gact_2 h ok hd hN ht a b c v ha hb hab htg
  · exact gact_3 h ok hd hN ht a b c v ha hb hab htg
  · exact gact_4 h ok hd hN ht a b c v ha hb hab htg
  · exact gact_5 h ok hd hN ht a b c v ha hb hab htg
  · exact gact_6 h ok hd hN ht a b c v ha hb hab htg
  · exact gact_7 h ok hd hN ht a b c v ha hb hab htg
  · exact gact_8 h ok hd hN ht a b c v ha hb hab htg
  · exact gact_9 h ok hd hN ht a b c v ha hb hab htg
  · exact gact_10 h ok hd hN ht a b c v ha hb hab htg
  · exact gact_11 h ok hd hN ht a b c v ha hb hab htg
  · exact gact_12 h ok hd hN ht a b c v ha hb hab htg
  · exact gact_13 h ok hd hN ht a b c v ha hb hab htg
end
end Go.Proofs.Ytmodjkglcgoohaa
