/- Lists of whole numbers, and the document's comparison of two. -/
import Derived.Test.YteggdpcfeljphaaProg
import Derived.Test.YteggdpcfeljphaaKit
import Derived.WalkKit
import Derived.BigQuiet
namespace Go.Proofs.Yteggdpcfeljphaa
set_option linter.unusedVariables false
open Go.RowKit Go.Gl

theorem Try.info_int : (Try.prog.info? 3).map (fun i => (i.zero, i.size, i.bytes)) = some (some (.int .i64 0), 1, 8) := by kernel_rfl
def nums (l : List Nat) : List Value := l.map fun (x : Nat) => .int .i64 (x : Int)
theorem nums_len (l : List Nat) : (nums l).length = l.length := by simp [nums]
theorem nums_app (a b : List Nat) : nums (a ++ b) = nums a ++ nums b := by simp [nums]
theorem one_at (w : World) (v : Value) (t : TypeId) : ∀ (j : Nat) u, [v][j]? = some u → (w.alloc (.cells #[v] t)).cell? (Addr.add ⟨w.heap.size, 0, none⟩ j) = some u := by
  intro j u hj
  match j, hj with
  | 0, hj =>
    simp only [List.getElem?_cons_zero, Option.some.injEq] at hj
    subst hj
    have := (Blk.new w t #[v]).cell 0
    exact this

def ints (l : List Nat) : List Int := l.map fun (x : Nat) => (x : Int)
theorem ints_len (l : List Nat) : (ints l).length = l.length := by simp [ints]
theorem sl_nums {w : World} {base : Nat} {e : TypeId} {v : Value} {l : List Nat} (h : w.ownsRow base e 1 v l.length (nums l)) : ∃ A c, v = .slice A (ints l).length c ∧ Sl w A (ints l).length (fun k => .int .i64 ((ints l).getD k 0)) := by
  obtain ⟨A, c, rfl, hs⟩ := Sl.own h
  refine ⟨A, c, by rw [ints_len], fun hn => ?_⟩
  rw [ints_len] at hn ⊢
  obtain ⟨b, off, h1, h2, h3⟩ := hs hn
  refine ⟨b, off, h1, h2, fun k hk => (h3 k hk).trans ?_⟩
  simp [nums, ints, hk]
theorem one_at' (w : World) (v : Value) (t : TypeId) {s : Nat} (hs : w.heap.size = s) : ∀ (j : Nat) u, [v][j]? = some u → (w.alloc (.cells #[v] t)).cell? (Addr.add ⟨s, 0, none⟩ j) = some u := by
  subst hs
  exact one_at w v t
theorem same_any {w : World} {A B : Option Addr} {ca cb : Nat} {xs ys : List Int} (hA : Sl w A xs.length (fun k => .int .i64 (xs.getD k 0))) (hB : Sl w B ys.length (fun k => .int .i64 (ys.getD k 0)))
    (hx : xs.length ≤ 4611686018427387904) (hy : ys.length ≤ 4611686018427387904) :
    Calls Try.prog 11 #[.slice A xs.length ca, .slice B ys.length cb] w fun e w' => e = .returned (.bool (decide (xs = ys))) ∧ ∃ k, w' = w.drewN k := by
  by_cases hl : xs.length = ys.length
  · have hl' : ((xs.length : Int) != (ys.length : Int)) = false := by rw [bne_eq_false_iff_eq]; omega
    have HA := hide hA
    have HB := hide hB
    have HL := hide hl
    clear hA hB hl
    go_enter Try.func11, Try.ntmps11
    go_wp2
    go_loopw [5] (fun i wr => ∃ k q : Nat, i = .int .i64 k ∧ k ≤ xs.length ∧ (∀ j, j < k → xs.getD j 0 = ys.getD j 0) ∧ wr = w.drewN q) (fun i _ => xs.length - (intOf i).toNat)
    case atStart => exact ⟨0, 0, rfl, Nat.zero_le _, fun j hj => absurd hj (by omega), rfl⟩
    case round =>
      obtain ⟨k, q, rfl, hk, hs, rfl⟩ := hrel
      have HS := hide hs
      clear hs
      by_cases hlt : k < xs.length
      · have hlt1 : (k : Int) < (xs.length : Int) := by omega
        have hlt2 : (k : Int) < (ys.length : Int) := by have := HL.out; omega
        have hlt3 : k < ys.length := by omega
        obtain ⟨b, off, rfl, _, ha⟩ := HA.out (by omega)
        obtain ⟨b', off', rfl, _, hb⟩ := HB.out (by omega)
        have hca : w.cell? ⟨b, off + k, none⟩ = some (.int .i64 (xs.getD k 0)) := ha k hlt
        have hcb : w.cell? ⟨b', off' + k, none⟩ = some (.int .i64 (ys.getD k 0)) := hb k hlt3
        have HX : Hid (xs ≠ ys ∨ xs.getD k 0 = ys.getD k 0) := by
          by_cases h : xs = ys
          · right; rw [h]
          · exact .inl h
        clear ha hb
        generalize hX : xs.getD k 0 = x at *
        generalize hY : ys.getD k 0 = y at *
        have EX := hide hX
        have EY := hide hY
        clear hX hY
        by_cases he : x = y
        · subst he
          go_wp2_with fail
          go_quiet (fail)
          go_wp2
          go_roundw
          case rel => exact ⟨k + 1, q + nq, by go_num, by omega, fun j hj => by
            rcases Nat.lt_or_ge j k with h | h
            · exact HS.out j h
            · obtain rfl : j = k := by omega
              rw [EX.out, EY.out], rfl⟩
          case measure => simp [intOf]; omega
        · have hne : (x == y) = false := by simpa using he
          have hne' : (x != y) = true := by simpa using he
          go_wp2_with fail
          go_quiet (fail)
          go_wp2
          go_ret
          refine ⟨ret_bool ?_, q + nq, by rw [World.drewN_drewN]⟩
          rcases HX.out with h | h
          · simp [h]
          · exact absurd h he
      · go_wp2_with fail
        go_ret
        refine ⟨ret_bool ?_, _, rfl⟩
        have : xs = ys := by
          apply List.ext_getElem HL.out
          intro i h1 h2
          have := HS.out i (by omega)
          simpa [h1, h2] using this
        simp [this]
  · have hl' : ((xs.length : Int) != (ys.length : Int)) = true := by rw [bne_iff_ne]; omega
    have HE : Hid ((false : Bool) = decide (xs = ys)) := by
      refine Eq.symm ?_
      rw [decide_eq_false_iff_not]
      rintro rfl
      exact hl rfl
    clear hA hB hl
    go_enter Try.func11, Try.ntmps11
    go_wp2
    go_ret
    exact ⟨ret_bool HE.out, 0, rfl⟩
end Go.Proofs.Yteggdpcfeljphaa
