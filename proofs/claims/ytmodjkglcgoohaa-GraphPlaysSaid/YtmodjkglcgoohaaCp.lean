/- The builtins copy and clear over a row that is known whole, and a row of whole numbers given by a function. -/
import Derived.Test.YtmodjkglcgoohaaKit
import Derived.Laws.CopyOwn
import Derived.Lib.SliceRun
namespace Go.Gl
set_option linter.unusedVariables false
open Go.RowKit

theorem Fr.setRow {F : List Nat} {w : World} {g : Nat} (hg : g ∈ F) (cs : Array Value) : Fr F w (w.setRow g cs) :=
  ⟨rfl, rfl, rfl, by simp [World.setRow], fun k _ hk => setRow_other w g k cs (fun e => hk (e ▸ hg))⟩
theorem Blk.setRow {w : World} {g : Nat} {t : TypeId} {cs : Array Value} (h : Blk w g t cs) (cs' : Array Value) : Blk (w.setRow g cs') g t cs' := setRow_heap w g cs cs' t _ h

/-- copy(dst, src): dst in a row that is known whole. -/
theorem wpList_copy_blk {P : Program} {w : World} {ops : Array Oper} {rest : List Oper} {o : Oper} {a : Act} {Q : Exit → Act → World → Prop} (hgd : o.guard = none) (d s : Operand) (dT sT : TypeId)
    (ho : o.op = .call { callee := .builtin .copy, args := #[d, s], argTypes := #[dT, sT] }) (elem : TypeId) (hu : P.underlying dT = some (.slice elem)) (hsz : (P.info? elem).map (·.size) = some 1)
    (dp sp : Option Addr) (n dCap sCap : Nat) (hd : a.eval d = .slice dp n dCap) (hs : a.eval s = .slice sp n sCap)
    (g off : Nat) (cur : Array Value) (t : TypeId) (hg : Blk w g t cur) (cs : List Value) (hn : cs.length = n)
    (hpos : 0 < n → dp = some ⟨g, off, none⟩ ∧ ∃ ad, sp = some ad ∧ ∀ j v, cs[j]? = some v → w.cell? (ad.add j) = some v)
    (hfit : off + n ≤ cur.size) (h1 : ∀ v ∈ cs, v.oneCell' = true)
    (h : ∀ w', Hid (Blk w' g t (splice cur.toList off cs).toArray) → Hid (Fr [g] w w') → wpList P ops Q rest (a.put o.dst (goInt n)) w') :
    wpList P ops Q (o :: rest) a w := by
  by_cases h0 : n = 0
  · subst h0
    obtain rfl : cs = [] := List.eq_nil_of_length_eq_zero hn
    refine wpList_copy_nothing hgd d s dT sT ho elem hu hsz dp sp 0 dCap 0 sCap hd hs rfl ?_
    exact h w (show Blk _ _ _ _ by simpa [splice] using hg) (Fr.refl _ _)
  · obtain ⟨rfl, ad, rfl, hsrc⟩ := hpos (by omega)
    refine wpList_copy_own hgd d s dT sT ho elem hu hsz g off n dCap ad n sCap hd hs cur t hg cs (by simp [hn]) hsrc (by omega) h1 ?_
    rw [hn]
    have h2 := h (w.setRow g (splice cur.toList off cs).toArray) (hg.setRow _) (Fr.setRow (by simp) _)
    unfold splice at h2
    rw [hn] at h2
    exact h2

theorem run_clear_blk {P : Program} {w : World} {t e ty : TypeId} {z : Value} (ht : P.underlying t = some (.slice e)) (hv : ∀ w, (zeroValue e).run P w = .ok z w) (hz : z.cells = #[z]) (h1 : z.oneCell' = true)
    (dp : Option Addr) (n c g off : Nat) (cur : Array Value) (tt : TypeId) (hg : Blk w g tt cur) (hpos : 0 < n → dp = some ⟨g, off, none⟩) (hfit : off + n ≤ cur.size) :
    ∃ w', (Builtin.clear_ #[t] ty #[.slice dp n c]).run P w = .ok (.tuple #[]) w' ∧ Blk w' g tt (splice cur.toList off (List.replicate n z)).toArray ∧ Fr [g] w w' := by
  by_cases h0 : n = 0
  · subst h0
    refine ⟨w, ?_, by simpa [splice] using hg, Fr.refl _ _⟩
    cases dp <;> simp [Builtin.clear_, run_underlying ht]
  · obtain rfl := hpos (by omega)
    have hzc : (Builtin.zeroCells z.cells n).toList = List.replicate n z := by
      rw [hz]
      simp [Builtin.zeroCells]
      apply List.ext_getElem
      · simp
      · intro i h1 h2
        simp [Nat.mod_one]
    have hst := run_storeCells_at P g off tt (List.replicate n z) 0 cur w hg (by simp; omega) (by intro v hv'; rw [List.eq_of_mem_replicate hv']; exact h1)
    simp only [Nat.add_zero] at hst
    obtain ⟨m, rfl⟩ : ∃ m, n = m + 1 := ⟨n - 1, by omega⟩
    refine ⟨w.setRow g (splice cur.toList off (List.replicate (m + 1) z)).toArray, ?_, hg.setRow _, Fr.setRow (by simp) _⟩
    simp [Builtin.clear_, run_underlying ht, hv, hzc, hst, splice]
/-- clear(s): s in a row that is known whole. -/
theorem wpList_clear_blk {P : Program} {w : World} {ops : Array Oper} {rest : List Oper} {o : Oper} {a : Act} {Q : Exit → Act → World → Prop} (hgd : o.guard = none) (d : Operand) (dT : TypeId)
    (ho : o.op = .call { callee := .builtin .clear, args := #[d], argTypes := #[dT] }) (e : TypeId) {z : Value} (ht : P.underlying dT = some (.slice e)) (hv : ∀ w, (zeroValue e).run P w = .ok z w) (hz : z.cells = #[z]) (h1 : z.oneCell' = true)
    (dp : Option Addr) (n c : Nat) (hd : a.eval d = .slice dp n c) (g off : Nat) (cur : Array Value) (tt : TypeId) (hg : Blk w g tt cur) (hpos : 0 < n → dp = some ⟨g, off, none⟩) (hfit : off + n ≤ cur.size)
    (h : ∀ w', Hid (Blk w' g tt (splice cur.toList off (List.replicate n z)).toArray) → Hid (Fr [g] w w') → wpList P ops Q rest (a.put o.dst (.tuple #[])) w') :
    wpList P ops Q (o :: rest) a w := by
  refine wpList_plain hgd fun K hK => ?_
  obtain ⟨w', hrun, hb, hf⟩ := run_clear_blk (ty := o.type) ht hv hz h1 dp n c g off cur tt hg hpos hfit
  unfold Oper.wp
  simp [execOp, ho, resolve, invoke, builtin, hd, hrun, Result.andThen]
  exact hK _ _ (h w' hb hf)

/-- A row of words, given by a function. -/
def memV (n : Nat) (f : Nat → Nat) : Array Value := ((List.range n).map fun k => Value.int .u64 (f k : Int)).toArray
/-- One word turned. -/
def upd (f : Nat → Nat) (k x : Nat) : Nat → Nat := fun j => if j = k then x else f j
/-- The words from off on, m of them, turned into what g says. -/
def updRow (f : Nat → Nat) (off m : Nat) (g : Nat → Nat) : Nat → Nat := fun j => if off ≤ j ∧ j < off + m then g (j - off) else f j
theorem memV_size (n : Nat) (f : Nat → Nat) : (memV n f).size = n := by simp [memV]
theorem memV_get (n : Nat) (f : Nat → Nat) (k : Nat) : (memV n f)[k]? = if k < n then some (.int .u64 (f k : Int)) else none := by
  unfold memV
  by_cases h : k < n
  · simp [h]
  · simp [h]
theorem memV_at {n : Nat} {f : Nat → Nat} {k : Nat} (h : k < n) : (memV n f)[k]? = some (.int .u64 (f k : Int)) := by rw [memV_get, if_pos h]
theorem memV_ext {n : Nat} {f : Nat → Nat} {cs : Array Value} (hs : cs.size = n) (h : ∀ k, k < n → cs[k]? = some (.int .u64 (f k : Int))) : cs = memV n f := by
  apply Array.ext
  · rw [hs, memV_size]
  · intro i h1 h2
    have a1 := h i (by omega)
    have a2 := memV_at (f := f) (show i < n by omega)
    rw [Array.getElem?_eq_getElem h1] at a1
    rw [Array.getElem?_eq_getElem h2] at a2
    exact Option.some.inj (a1.trans a2.symm)
theorem memV_congr {n : Nat} {f g : Nat → Nat} (h : ∀ k, k < n → f k = g k) : memV n f = memV n g :=
  memV_ext (memV_size _ _) fun k hk => by rw [memV_at hk, h k hk]
theorem memV_set (n : Nat) (f : Nat → Nat) (k x : Nat) : (memV n f).setIfInBounds k (.int .u64 (x : Int)) = memV n (upd f k x) := by
  refine memV_ext (by simp [memV_size]) fun j hj => ?_
  rw [Array.getElem?_setIfInBounds]
  unfold upd
  by_cases h : k = j
  · subst h
    rw [if_pos rfl, if_pos (by rw [memV_size]; exact hj), if_pos rfl]
  · rw [if_neg h, if_neg (Ne.symm h), memV_at hj]
theorem memV_splice {n : Nat} {f : Nat → Nat} {off m : Nat} {cs : List Value} {g : Nat → Nat} (hl : cs.length = m) (hm : off + m ≤ n) (hc : ∀ j, j < m → cs[j]? = some (.int .u64 (g j : Int))) :
    (splice (memV n f).toList off cs).toArray = memV n (updRow f off m g) := by
  have hs : (memV n f).toList.length = n := by simp [memV_size]
  refine memV_ext (by simp [length_splice _ _ _ (show off + cs.length ≤ (memV n f).toList.length by omega), memV_size]) fun j hj => ?_
  rw [List.getElem?_toArray]
  unfold splice updRow
  by_cases h1 : j < off
  · rw [if_neg (by omega), List.getElem?_append_left (by rw [List.length_take]; omega), List.getElem?_take_of_lt h1, Array.getElem?_toList, memV_at hj]
  · have e1 : ((memV n f).toList.take off).length = off := by rw [List.length_take]; omega
    rw [List.getElem?_append_right (by omega), e1]
    by_cases h2 : j < off + m
    · rw [if_pos (by omega), List.getElem?_append_left (by omega), hc _ (by omega)]
    · rw [if_neg (by omega), List.getElem?_append_right (by omega), List.getElem?_drop, Array.getElem?_toList, show off + cs.length + (j - off - cs.length) = j by omega, memV_at hj]
end Go.Gl
