/- The block-offset table: its numbers, and what each call of the package offs answers of a table that lies in memory, and what it leaves there. -/
import Derived.Test.YthacgiajnafpgaaGreatDoorProg
import Derived.Test.YthacgiajnafpgaaGreatDoorQTz
import Derived.Test.YthacgiajnafpgaaGreatDoorQRn
import Derived.Test.YthacgiajnafpgaaGreatDoorQGeo
import Derived.WalkKit
import Derived.BigQuiet
import Derived.Deep.RegionHeld3
namespace Go.Proofs.YthacgiajnafpgaaGreatDoor
set_option linter.unusedVariables false
open Go.RowKit Go.Gl

/-- A card's words: the shift, and what is odd of them. -/
def oS (cw : Nat) : Nat := Lib.ctz 64 cw
def oD (cw : Nat) : Nat := cw / 2 ^ oS cw
theorem oS_lt {cw : Nat} (h : 1 ≤ cw) (hm : cw < 9223372036854775808) : oS cw < 63 := by
  obtain ⟨h1, h2, _⟩ := ctz_low cw h (by omega)
  have := Nat.ge_two_pow_of_testBit h2
  rcases Nat.lt_or_ge (oS cw) 63 with hl | hl
  · exact hl
  · have h3 : 2 ^ 63 ≤ 2 ^ oS cw := Nat.pow_le_pow_right (by decide) hl
    unfold oS at h3
    omega
/-- How many cards have their first word below an address. -/
def cb (cw a : Nat) : Nat := if a = 0 then 0 else (a - 1) / cw + 1
/-- A table lies at the block tb, its row at rb: n cards of cw words; of each card one more than the object's address, or 0. -/
structure Of (w : World) (tb rb cw n : Nat) (f : Nat → Int) : Prop where
  set : Blk w tb 267 #[.int .i64 ((cw * n : Nat) : Int), .int .u64 ((oS cw : Nat) : Int), .int .i64 ((oD cw : Nat) : Int), .slice (some ⟨rb, 0, none⟩) n n]
  row : Blk w rb 268 (rowV .u32 n f)
  pos : 1 ≤ cw
  cwm : cw < 9223372036854775808
  max : cw * n ≤ 4194304
  ok : ∀ k, 0 ≤ f k ∧ f k ≤ 4194304

section
variable {w w' : World} {tb rb cw n : Nat} {f : Nat → Int} {F : List Nat}
theorem Of.fr (h : Of w tb rb cw n f) (hf : Fr F w w') (h1 : tb ∉ F) (h2 : rb ∉ F) : Of w' tb rb cw n f := ⟨h.set.fr hf h1, h.row.fr hf h2, h.pos, h.cwm, h.max, h.ok⟩
theorem Of.drewN (h : Of w tb rb cw n f) (k : Nat) : Of (w.drewN k) tb rb cw n f := ⟨h.set, h.row, h.pos, h.cwm, h.max, h.ok⟩
theorem Of.drew (h : Of w tb rb cw n f) : Of w.drew tb rb cw n f := ⟨h.set, h.row, h.pos, h.cwm, h.max, h.ok⟩
theorem Of.c0 (h : Of w tb rb cw n f) : w.cell? ⟨tb, 0, none⟩ = some (.int .i64 ((cw * n : Nat) : Int)) := by rw [h.set.cell]; rfl
theorem Of.c1 (h : Of w tb rb cw n f) : w.cell? ⟨tb, 1, none⟩ = some (.int .u64 ((oS cw : Nat) : Int)) := by rw [h.set.cell]; rfl
theorem Of.c2 (h : Of w tb rb cw n f) : w.cell? ⟨tb, 2, none⟩ = some (.int .i64 ((oD cw : Nat) : Int)) := by rw [h.set.cell]; rfl
theorem Of.c3 (h : Of w tb rb cw n f) : w.cell? ⟨tb, 3, none⟩ = some (.slice (some ⟨rb, 0, none⟩) n n) := by rw [h.set.cell]; rfl
theorem Of.cr (h : Of w tb rb cw n f) {k : Nat} (hk : k < n) : w.cell? ⟨rb, k, none⟩ = some (.int .u32 (f k)) := by rw [h.row.cell, rowV_at hk]
theorem Of.ne (h : Of w tb rb cw n f) : tb ≠ rb := h.set.apart h.row (by decide)
theorem Of.nmax (h : Of w tb rb cw n f) : n ≤ 4194304 := Nat.le_trans (Nat.le_mul_of_pos_left n h.pos) h.max
end

/-- The slice of the cards whose first words are from a on and below b. -/
def BegPost (w : World) (rb i m : Nat) (e : Ending) (w' : World) : Prop :=
  ∃ A c, e = .returned (.slice A m c) ∧ (0 < m → A = some ⟨rb, i, none⟩) ∧ ∃ k, w' = w.drewN k
end Go.Proofs.YthacgiajnafpgaaGreatDoor
/- The package offs: New, Put, First, Drop. -/
namespace Go.Proofs.YthacgiajnafpgaaGreatDoor
set_option linter.unusedVariables false
open Go.RowKit Go.Gl

/-- An object of so many words at an address: which cards are told. -/
def obj (cw : Nat) (f : Nat → Int) (a s : Nat) : Nat → Int := put2 f (cb cw a) (cb cw (a + s)) fun _ => (a : Int) + 1
def OPut (w : World) (tb rb cw n : Nat) (f' : Nat → Int) (e : Ending) (w' : World) : Prop :=
  e = .returned (.int .i64 0) ∧ Of w' tb rb cw n f' ∧ Fr [rb] w w'
theorem Of.turned {w w' : World} {tb rb cw n : Nat} {f f' : Nat → Int} (h : Of w tb rb cw n f) (hf : Fr [rb] w w') (hb : Blk w' rb 268 (rowV .u32 n f')) (hok : ∀ k, 0 ≤ f' k ∧ f' k ≤ 4194304) : Of w' tb rb cw n f' :=
  ⟨h.set.fr hf (by simpa using h.ne), hb, h.pos, h.cwm, h.max, hok⟩
/-- A geometry that a table may be made of. -/
structure OkGeo (g : Geo) (cw n : Nat) : Prop where
  pos : 1 ≤ cw
  cwm : cw < 9223372036854775808
  max : cw * n ≤ 4194304
  words : g.words = ((cw * n : Nat) : Int)
  cw : g.cw = (cw : Int)
  cards : g.cards = (n : Int)
theorem OkGeo.rem {cw n : Nat} (h : 1 ≤ cw) : ((cw * n : Nat) : Int) % (cw : Int) = 0 ∧ (n : Int) = ((cw * n : Nat) : Int) / (cw : Int) := by
  constructor
  · rw [← Int.natCast_emod, Nat.mul_mod_right]; rfl
  · rw [← Int.natCast_ediv, Nat.mul_div_cancel_left _ (by omega)]
theorem omay_ok (g : Geo) {cw n : Nat} (ok : OkGeo g cw n) (w : World) : Calls Tryz.prog 179 #[g.val] w fun e w' => e = .returned (.bool true) ∧ Fr [] w w' := by
  obtain ⟨W, rw', C, R, N, M⟩ := g
  obtain ⟨h1, h2, h3, h4, h5, h6⟩ := ok
  simp only at h4 h5 h6
  obtain ⟨h7, h8⟩ := OkGeo.rem (n := n) h1
  rw [← h4, ← h5] at h7 h8
  rw [← h6] at h8
  have hW : 0 ≤ W ∧ W ≤ 4194304 := by omega
  obtain ⟨hW1, hW2⟩ := hW
  have hC : 1 ≤ C ∧ C ≤ 9223372036854775807 := by omega
  obtain ⟨hC1, hC2⟩ := hC
  clear h1 h2 h3 h4 h5 h6
  unfold Geo.val
  go_enter Tryz.func179, Tryz.ntmps179
  go_wp2_with fail
  go_quiet (fail)
  go_wp2
  go_ret
  exact ⟨rfl, ((Fr.refl _ _).alloc _).drewN _⟩
theorem Tryz.info_u32o : (Tryz.prog.info? 268).map (fun i => (i.zero, i.size, i.bytes)) = some (some (.int .u32 0), 1, 4) := by kernel_rfl
def ONew (w : World) (cw n : Nat) (e : Ending) (w' : World) : Prop :=
  ∃ tb rb, e = .returned (.tuple #[.pointer (some ⟨tb, 0, none⟩), .int .i64 0]) ∧ Of w' tb rb cw n (fun _ => 0) ∧ Fr [] w w' ∧ w.heap.size ≤ tb ∧ w.heap.size ≤ rb
theorem onew_ok (g : Geo) {cw n : Nat} (ok : OkGeo g cw n) (w : World) (hT : Tab w) : Calls Tryz.prog 105 #[g.val] w (ONew w cw n) := by
  have hm := omay_ok g ok
  obtain ⟨i0, hi, hz0, hz1, hz2⟩ := info_parts Tryz.info_u32o
  have HOk := hide ok
  have HT := hide hT
  have hs := oS_lt ok.pos ok.cwm
  have hc1 := ok.pos
  have hc2 := ok.cwm
  have hn : n ≤ 4194304 := Nat.le_trans (Nat.le_mul_of_pos_left n ok.pos) ok.max
  have HD : Hid ((cw : Int) / 2 ^ oS cw = ((oD cw : Nat) : Int)) := by
    show _ = _
    unfold oD
    rw [show (2 : Int) ^ oS cw = ((2 ^ oS cw : Nat) : Int) from (Int.natCast_pow 2 _).symm, ← Int.natCast_ediv]
  have HZ : Hid (∀ w', Tab w' → Calls Tryz.prog 134 #[.int .u64 (cw : Int)] w' fun e w'' => e = .returned (.int .i64 ((oS cw : Nat) : Int)) ∧ w' = w'') := fun w' hT' => tz_any cw (by omega) (by omega) w' hT'
  obtain ⟨W, rw', C, R, N, M⟩ := g
  have h4 : W = ((cw * n : Nat) : Int) := ok.words
  obtain rfl : C = (cw : Int) := ok.cw
  obtain rfl : N = (n : Int) := ok.cards
  have HW := hide h4
  have HM := hide hm
  unfold Geo.val
  have HS : Hid (oS cw = oS cw) := rfl
  generalize hsd : oS cw = s at *
  have HSD := hide hsd
  clear hT ok hm h4 HS hsd
  go_enter Tryz.func105, Tryz.ntmps105
  go_wp2_with fail
  refine (HM.out _).mono ?_
  rintro e w1 ⟨rfl, hf⟩
  have hg := GeoAt.of ((Blk.new w 40 (Geo.cells ⟨W, rw', (cw : Int), R, (n : Int), M⟩)).fr hf (by simp))
  have HT1 := hide ((HT.out.alloc _).fr hf (by simp))
  have g0 := hg.c0
  have g2 := hg.c2
  have g4 := hg.c4
  have HF : Hid (Fr [] w w1) := ((Fr.refl _ _).alloc _).trans_same hf
  clear hf hg
  go_wp2_with fail
  refine (HZ.out _ HT1.out).mono ?_
  rintro e w' ⟨rfl, rfl⟩
  go_wp2_with fail
  obtain ⟨w2, hrun, r1, r2⟩ := run_make_full (P := Tryz.prog) w1.drew w1.heap.size 265 268 i0 (.int .u32 0) 1 Tryz.underlying265 hi hz0 hz1 .i64 .i64 n (by rw [hz2]; omega) (by unfold maxLen; omega) (Nat.le_refl _)
  have HO := hide r1
  have HG := hide r2
  have k0 : w2.cell? ⟨w.heap.size, 0, none⟩ = some (.int .i64 W) := (((Fr.refl [] w1).drew.grown r2 (fun _ hk => by cases hk)).cell (lt_of_cell g0) (by simp)).trans g0
  have k2 : w2.cell? ⟨w.heap.size, 2, none⟩ = some (.int .i64 (cw : Int)) := (((Fr.refl [] w1).drew.grown r2 (fun _ hk => by cases hk)).cell (lt_of_cell g2) (by simp)).trans g2
  have k4 : w2.cell? ⟨w.heap.size, 4, none⟩ = some (.int .i64 (n : Int)) := (((Fr.refl [] w1).drew.grown r2 (fun _ hk => by cases hk)).cell (lt_of_cell g4) (by simp)).trans g4
  have N0 := World.new_ne w2 _ k0
  clear r1 r2
  go_region_held3 (fun w' => w'.cell? ⟨w.heap.size, 0, none⟩ = some (.int .i64 W) ∧ w'.cell? ⟨w.heap.size, 2, none⟩ = some (.int .i64 (cw : Int)) ∧ w'.cell? ⟨w.heap.size, 4, none⟩ = some (.int .i64 (n : Int)))
    (first | exact ⟨g0, g2, g4⟩ | exact ⟨k0, k2, k4⟩ | go_keep)
    (first | fail)
  go_wp2
  go_ret2
  have hown := HO.out
  rw [Nat.mul_one, made_one _ rfl] at hown
  have hb := own_full hown
  have HG2 : Fr [] w1 w2 := ((Fr.refl _ w1).drew).grown HG.out (fun _ hk => by cases hk)
  refine ⟨w2.heap.size, w1.heap.size, rfl, ⟨?_, ?_, HOk.out.pos, HOk.out.cwm, HOk.out.max, fun _ => by decide⟩, HF.out.trans_same (HG2.alloc _), Nat.le_trans HF.out.size HG2.size, HF.out.size⟩
  · rw [← HW.out, HSD.out, ← HD.out]
    exact Blk.new _ _ _
  · rw [rowV_const]; exact hb.alloc _
end Go.Proofs.YthacgiajnafpgaaGreatDoor
