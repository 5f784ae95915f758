/- The block-offset table: its numbers, and what each call of the package offs answers of a table that lies in memory, and what it leaves there. -/
import Derived.Test.YtjjedmjcnppdkaaDoorProg
import Derived.Test.YtjjedmjcnppdkaaDoorTz
import Derived.Test.YtjjedmjcnppdkaaDoorRn
import Derived.Test.YtjjedmjcnppdkaaDoorGeo
import Derived.WalkKit
import Derived.BigQuiet
namespace Go.Proofs.YtjjedmjcnppdkaaDoor
set_option linter.unusedVariables false
open Go.RowKit Go.Gl

/-- A card's words: the shift, and what is odd of them. -/
def oS (cw : Nat) : Nat := Lib.ctz 64 cw
def oD (cw : Nat) : Nat := cw / 2 ^ oS cw
theorem oS_lt {cw : Nat} (h : 1 ≤ cw) (hm : cw < 9223372036854775808) : oS cw < 63 := by
  obtain ⟨h1, h2, _⟩ := ctz_low cw h (by omega)
  have := Nat.ge_two_pow_of_testBit h2
  rcases Nat.lt_or_ge (oS cw) 63 with hl | hl
  · exact hl
  · have h3 : 2 ^ 63 ≤ 2 ^ oS cw := Nat.pow_le_pow_right (by decide) hl
    unfold oS at h3
    omega
theorem oD_mul {cw : Nat} (h : 1 ≤ cw) (hm : cw < 9223372036854775808) : 2 ^ oS cw * oD cw = cw ∧ 1 ≤ oD cw := by
  obtain ⟨m, hm', hk⟩ := Lib.ctzFrom_spec 64 cw h (by omega)
  have hc : oS cw = Lib.ctzFrom 64 cw := by unfold oS Lib.ctz; rw [if_neg (by omega)]
  unfold oD
  rw [hc]
  generalize Lib.ctzFrom 64 cw = k at *
  have hp : 0 < 2 ^ k := Nat.two_pow_pos k
  have e : cw / 2 ^ k = 2 * m + 1 := by rw [hm', Nat.mul_comm, Nat.mul_div_cancel _ hp] 
  rw [e]
  exact ⟨hm'.symm, by omega⟩
/-- How many cards have their first word below an address. -/
def cb (cw a : Nat) : Nat := if a = 0 then 0 else (a - 1) / cw + 1
theorem cb_lt {cw a k : Nat} (h : 1 ≤ cw) : k < cb cw a ↔ k * cw < a := by
  unfold cb
  split
  · omega
  · rw [Nat.lt_succ_iff, Nat.le_div_iff_mul_le (by omega)]; omega
theorem cb_le {cw a n : Nat} (h : 1 ≤ cw) (ha : a ≤ cw * n) : cb cw a ≤ n := by
  rcases Nat.lt_or_ge n (cb cw a) with hl | hl
  · rw [cb_lt h, Nat.mul_comm] at hl; omega
  · exact hl
theorem cb_mono {cw a b : Nat} (h : 1 ≤ cw) (hab : a ≤ b) : cb cw a ≤ cb cw b := by
  rcases Nat.lt_or_ge (cb cw b) (cb cw a) with hl | hl
  · rw [cb_lt h] at hl
    have := (not_congr (cb_lt (k := cb cw b) (a := b) h)).1 (by omega)
    omega
  · exact hl

/-- A table lies at the block tb, its row at rb: n cards of cw words; of each card one more than the object's address, or 0. -/
structure Of (w : World) (tb rb cw n : Nat) (f : Nat → Int) : Prop where
  set : Blk w tb 45 #[.int .i64 ((cw * n : Nat) : Int), .int .u64 ((oS cw : Nat) : Int), .int .i64 ((oD cw : Nat) : Int), .slice (some ⟨rb, 0, none⟩) n n]
  row : Blk w rb 46 (rowV .u32 n f)
  pos : 1 ≤ cw
  cwm : cw < 9223372036854775808
  max : cw * n ≤ 4194304
  ok : ∀ k, 0 ≤ f k ∧ f k ≤ 4194304

section
variable {w w' : World} {tb rb cw n : Nat} {f : Nat → Int} {F : List Nat}
theorem Of.fr (h : Of w tb rb cw n f) (hf : Fr F w w') (h1 : tb ∉ F) (h2 : rb ∉ F) : Of w' tb rb cw n f := ⟨h.set.fr hf h1, h.row.fr hf h2, h.pos, h.cwm, h.max, h.ok⟩
theorem Of.drewN (h : Of w tb rb cw n f) (k : Nat) : Of (w.drewN k) tb rb cw n f := ⟨h.set, h.row, h.pos, h.cwm, h.max, h.ok⟩
theorem Of.drew (h : Of w tb rb cw n f) : Of w.drew tb rb cw n f := ⟨h.set, h.row, h.pos, h.cwm, h.max, h.ok⟩
theorem Of.c0 (h : Of w tb rb cw n f) : w.cell? ⟨tb, 0, none⟩ = some (.int .i64 ((cw * n : Nat) : Int)) := by rw [h.set.cell]; rfl
theorem Of.c1 (h : Of w tb rb cw n f) : w.cell? ⟨tb, 1, none⟩ = some (.int .u64 ((oS cw : Nat) : Int)) := by rw [h.set.cell]; rfl
theorem Of.c2 (h : Of w tb rb cw n f) : w.cell? ⟨tb, 2, none⟩ = some (.int .i64 ((oD cw : Nat) : Int)) := by rw [h.set.cell]; rfl
theorem Of.c3 (h : Of w tb rb cw n f) : w.cell? ⟨tb, 3, none⟩ = some (.slice (some ⟨rb, 0, none⟩) n n) := by rw [h.set.cell]; rfl
theorem Of.cr (h : Of w tb rb cw n f) {k : Nat} (hk : k < n) : w.cell? ⟨rb, k, none⟩ = some (.int .u32 (f k)) := by rw [h.row.cell, rowV_at hk]
theorem Of.ne (h : Of w tb rb cw n f) : tb ≠ rb := h.set.apart h.row (by decide)
theorem Of.nmax (h : Of w tb rb cw n f) : n ≤ 4194304 := Nat.le_trans (Nat.le_mul_of_pos_left n h.pos) h.max
end

theorem below_any {w : World} {tb rb cw n : Nat} {f : Nat → Int} (h : Of w tb rb cw n f) (a : Nat) (ha : a ≤ cw * n) :
    Calls Tryd.prog 14 #[.pointer (some ⟨tb, 0, none⟩), .int .i64 (a : Int)] w fun e w' => e = .returned (.int .i64 ((cb cw a : Nat) : Int)) ∧ ∃ k, w' = w.drewN k := by
  have c1 := h.c1
  have c2 := h.c2
  have hs := oS_lt h.pos h.cwm
  obtain ⟨hd, hd1⟩ := oD_mul h.pos h.cwm
  have hmax := h.max
  have ha' : a ≤ 4194304 := by omega
  by_cases h0 : a = 0
  · subst h0
    clear h hd hs hd1 c1 c2 ha hmax
    go_enter Tryd.func14, Tryd.ntmps14
    go_wp2
    go_ret
    exact ⟨rfl, 0, rfl⟩
  · obtain ⟨b, rfl⟩ : ∃ b, a = b + 1 := ⟨a - 1, by omega⟩
    have HV : Hid ((b : Int) / 2 ^ oS cw / (oD cw : Int) = ((b / cw : Nat) : Int)) := by
      show _ = _
      rw [show (2 : Int) ^ oS cw = ((2 ^ oS cw : Nat) : Int) from (Int.natCast_pow 2 _).symm, ← Int.natCast_ediv, ← Int.natCast_ediv, Nat.div_div_eq_div_mul, hd]
    have HB : Hid (cb cw (b + 1) = b / cw + 1) := by unfold cb; rfl
    have HL : Hid (b / cw ≤ 4194304) := Nat.le_trans (Nat.div_le_self _ _) (by omega)
    generalize oS cw = s at *
    generalize oD cw = d at *
    clear h hd ha hmax
    go_enter Tryd.func14, Tryd.ntmps14
    go_wp2_with fail
    go_quiet (fail)
    go_wp2
    go_ret
    refine ⟨ret_int ?_, _, rfl⟩
    have h1 := HL.out
    rw [HB.out, Int.tdiv_eq_ediv_of_nonneg (Int.ediv_nonneg (Int.natCast_nonneg _) (Int.le_of_lt (Int.pow_pos (by decide)))), HV.out]
    generalize b / cw = q at *
    rw [IntWalk.wrap64_in (q : Int) ⟨by omega, by omega⟩, IntWalk.wrap64_in _ ⟨by omega, by omega⟩]
    rfl
/-- The slice of the cards whose first words are from a on and below b. -/
def BegPost (w : World) (rb i m : Nat) (e : Ending) (w' : World) : Prop :=
  ∃ A c, e = .returned (.slice A m c) ∧ (0 < m → A = some ⟨rb, i, none⟩) ∧ ∃ k, w' = w.drewN k
theorem ret_slice {A : Option Addr} {c L m : Nat} (h : L = m) : Ending.returned (.slice A L c) = .returned (.slice A m c) := by rw [h]
theorem beginning_any {w : World} {tb rb cw n : Nat} {f : Nat → Int} (h : Of w tb rb cw n f) (a b : Nat) (hab : a ≤ b) (hb : b ≤ cw * n) :
    Calls Tryd.prog 13 #[.pointer (some ⟨tb, 0, none⟩), .int .i64 (a : Int), .int .i64 (b : Int)] w (BegPost w rb (cb cw a) (cb cw b - cb cw a)) := by
  have c3 := h.c3
  have hx := cb_mono h.pos hab
  have hy := cb_le h.pos hb
  have hn := h.nmax
  have HA : Hid (∀ k, Calls Tryd.prog 14 #[.pointer (some ⟨tb, 0, none⟩), .int .i64 (a : Int)] (w.drewN k) fun e w' => e = .returned (.int .i64 ((cb cw a : Nat) : Int)) ∧ ∃ m, w' = (w.drewN k).drewN m) :=
    fun k => below_any (h.drewN k) a (Nat.le_trans hab hb)
  have HB : Hid (∀ k, Calls Tryd.prog 14 #[.pointer (some ⟨tb, 0, none⟩), .int .i64 (b : Int)] (w.drewN k) fun e w' => e = .returned (.int .i64 ((cb cw b : Nat) : Int)) ∧ ∃ m, w' = (w.drewN k).drewN m) :=
    fun k => below_any (h.drewN k) b hb
  generalize cb cw a = x at *
  generalize cb cw b = y at *
  clear h hb hab
  by_cases hc : n = x
  · have HC := hide hc
    have HM : Hid (y - x = 0) := by show y - x = 0; omega
    go_enter Tryd.func13, Tryd.ntmps13
    go_wp2_with fail
    go_quiet ((go_at_call 14; first | (with_reducible exact Calls.quiet_of (HA.out _)) | (with_reducible exact Calls.quiet_of (HB.out _))))
    go_wp2
    go_ret
    exact ⟨_, _, ret_slice rfl, fun h => absurd HM.out (by omega), nq, rfl⟩
  · go_enter Tryd.func13, Tryd.ntmps13
    go_wp2_with fail
    go_quiet ((go_at_call 14; first | (with_reducible exact Calls.quiet_of (HA.out _)) | (with_reducible exact Calls.quiet_of (HB.out _))))
    go_wp2
    go_ret
    exact ⟨_, _, ret_slice rfl, fun _ => rfl, nq, rfl⟩
end Go.Proofs.YtjjedmjcnppdkaaDoor
