/- BitsPlays: a set holds and tells just the numbers that were put into it, call by call, whatever script comes in. Conditions: none but the row's own (the library's table lies as its text lays it). -/
import Derived.Test.YtbgemiapnnncaaaDoorL1Pl
namespace Go.Proofs.YtbgemiapnnncaaaDoor.BitsPlays
set_option linter.unusedVariables false
open Go.RowKit Go.Gl Go.ChangeShapes Go.WideShapes Go.ChangeAt

theorem open_acts {H : Type} {enc : TypeId × Value → H} {W : World} {r : Reach} {b : Nat} {v : Value} {d : DataW H} {p : List MemPlace}
    (hv : Value.okWide Tryd.prog W r b 22 v) (h : DataW.Trod enc Tryd.prog W 0 (fun _ => true) true 22 v d p) :
    ∃ A n c f, v = .slice A n c ∧ n ≤ maxLen ∧ Acts W A n f ∧ ∀ k, i64 (f k).1 ∧ i64 (f k).2.1 ∧ i64 (f k).2.2.1 := by
  obtain ⟨a0, len, cap, rfl⟩ := okWide_slice Tryd.underlying22 hv
  obtain ⟨fuel, hf⟩ := h
  rcases open_slice_fields Tryd.underlying22 Tryd.underlying32 (by kernel_rfl) (by kernel_rfl) hf with ⟨hcs, hx⟩ | ⟨a, len', cap', m, D, Pl, hcs, _, hl, hm, hmm, hx, hi⟩
  · simp only [Value.cells] at hcs
    injection hcs with h1 _
    injection h1 with h1 h2 h3
    subst h1 h2 h3
    have z : i64 0 := ⟨by decide, by decide⟩
    exact ⟨none, 0, 0, fun _ => (0, 0, 0, false), rfl, Nat.zero_le _, fun h => absurd h (by decide), fun k => ⟨z, z, z⟩⟩
  · simp only [Value.cells] at hcs
    injection hcs with h1 _
    injection h1 with h1 h2 h3
    subst h1 h2 h3
    simp only [if_true] at hmm
    subst hmm
    have each : ∀ k, ∃ x : Int × Int × Int × Bool, (i64 x.1 ∧ i64 x.2.1 ∧ i64 x.2.2.1) ∧ (k < m → W.cell? (a.add (k * 4)) = some (.int .i64 x.1) ∧ W.cell? (a.add (k * 4 + 1)) = some (.int .i64 x.2.1) ∧ W.cell? (a.add (k * 4 + 2)) = some (.int .i64 x.2.2.1) ∧ W.cell? (a.add (k * 4 + 3)) = some (.bool x.2.2.2)) := by
      intro k
      by_cases hk : k < m
      · obtain ⟨ys, n, _, _, _, hf⟩ := hi k hk
        obtain ⟨v0, y0, k0, _, t0⟩ := hf 0 _ rfl
        obtain ⟨v1, y1, k1, _, t1⟩ := hf 1 _ rfl
        obtain ⟨v2, y2, k2, _, t2⟩ := hf 2 _ rfl
        obtain ⟨v3, y3, k3, _, t3⟩ := hf 3 _ rfl
        obtain ⟨z0, e0, _, w0⟩ := DataW.trod_int Tryd.underlying3 t0
        obtain ⟨z1, e1, _, w1⟩ := DataW.trod_int Tryd.underlying3 t1
        obtain ⟨z2, e2, _, w2⟩ := DataW.trod_int Tryd.underlying3 t2
        obtain ⟨z3, e3, _⟩ := DataW.trod_bool Tryd.underlying4 t3
        simp only [List.cons.injEq, and_true] at e0 e1 e2 e3
        subst e0 e1 e2 e3
        exact ⟨(z0, z1, z2, z3), ⟨int_bounds w0, int_bounds w1, int_bounds w2⟩, fun _ => ⟨k0, k1, k2, k3⟩⟩
      · exact ⟨(0, 0, 0, false), ⟨⟨by decide, by decide⟩, ⟨by decide, by decide⟩, ⟨by decide, by decide⟩⟩, fun h => absurd h hk⟩
    obtain ⟨g, hfun⟩ : ∃ g : Nat → Int × Int × Int × Bool, ∀ k, (i64 (g k).1 ∧ i64 (g k).2.1 ∧ i64 (g k).2.2.1) ∧ (k < m → W.cell? (a.add (k * 4)) = some (.int .i64 (g k).1) ∧ W.cell? (a.add (k * 4 + 1)) = some (.int .i64 (g k).2.1) ∧ W.cell? (a.add (k * 4 + 2)) = some (.int .i64 (g k).2.2.1) ∧ W.cell? (a.add (k * 4 + 3)) = some (.bool (g k).2.2.2)) :=
      ⟨fun k => Classical.choose (each k), fun k => Classical.choose_spec (each k)⟩
    clear each
    refine ⟨some a, len, m, g, rfl, by omega, fun hn => ?_, fun k => (hfun k).1⟩
    have h0 := ((hfun 0).2 (by omega)).1
    obtain ⟨b0, off, spot⟩ := a
    have hspot : spot = none := by
      have := World.cell?_spot h0
      simpa [Addr.add] using this
    subst hspot
    refine ⟨b0, off, rfl, ?_, fun k hk => ?_⟩
    · have := lt_of_cell h0
      simpa [Addr.add] using this
    · obtain ⟨q0, q1, q2, q3⟩ := (hfun k).2 (by omega)
      have ea : ∀ j : Nat, Addr.add ⟨b0, off, none⟩ j = ⟨b0, off + j, none⟩ := fun j => Go.WideShapes.add_plain b0 off j
      rw [ea] at q0 q1 q2 q3
      exact ⟨q0, by rw [Nat.add_assoc]; exact q1, by rw [Nat.add_assoc]; exact q2, by rw [Nat.add_assoc]; exact q3⟩
theorem holds {H : Type} {enc : TypeId × Value → H} {W : World} {base : Nat} {args : Array Value} {ds : List (DataW H)} {p : List MemPlace}
    (hval : ∀ (j : Nat) t v, Tryd.f3.params[j]? = some t → args[j]? = some v → Value.okWide Tryd.prog W .any base t v)
    (hA : DataW.TrodAll enc Tryd.prog W 0 (fun _ => true) true Tryd.f3.params.toList args.toList ds p) (hT : Tab W) : Holds Tryd.prog 3 args W := by
  rw [Tryd.params3] at hA hval
  obtain ⟨v0, vs0, d0, ds0, p0, q0, hargs, rfl, rfl, h0, r0⟩ := trodAll_cons hA
  obtain ⟨v1, vs1, d1, ds1, p1, q1, rfl, rfl, rfl, h1, r1⟩ := trodAll_cons r0
  obtain ⟨rfl, rfl, rfl⟩ := trodAll_nil r1
  obtain rfl : args = #[v0, v1] := by cases args; simp_all
  obtain ⟨n, rfl, rfl, rfl, w0⟩ := open_int Tryd.underlying3 (hval 0 3 v0 rfl rfl) h0
  obtain ⟨A, na, ca, f, rfl, hna, hA1, hf1⟩ := open_acts (hval 1 22 v1 rfl rfl) h1
  rcases (show n < 0 ∨ (0 ≤ n ∧ n ≤ 5000) ∨ 5000 < n by omega) with hn | hn | hn
  · exact walk_neg W hT n hn _
  · obtain ⟨m, rfl⟩ := Int.eq_ofNat_of_zero_le hn.1
    exact walk W hT m (by omega) A na ca f hA1 hf1 (by unfold maxLen at hna; omega)
  · exact walk_big W hT n hn _
theorem readable : ∀ t, t ∈ Tryd.f3.params.toList → Tryd.prog.readableRec t = true ∧ t < Tryd.prog.types.size := by
  intro t ht
  rw [Tryd.params3] at ht
  have hm : t = 3 ∨ t = 22 := by simp at ht; omega
  rcases hm with rfl | rfl
  all_goals exact ⟨by kernel_rfl, of_decide_eq_true (by kernel_rfl)⟩
theorem laid_met (os : Os) : laidMet Tryd.prog Rows.bitsPlaysRow.laid ((laidWorld os).forCall (fun _ _ => 0) ⟨#[], #[.int .i64 0, .slice none 0 0], []⟩).memory :=
  laidMet_of_run' 8 (by kernel_rfl) (by kernel_rfl)
theorem reads (os : Os) {H : Type} (enc : TypeId × Value → H) : ∃ places, DataW.whole enc Tryd.prog ((laidWorld os).forCall (fun _ _ => 0) ⟨#[], #[.int .i64 0, .slice none 0 0], []⟩).memory Tryd.f3.params.toList Rows.bitsPlaysSpec.vars false (#[.int .i64 0, .slice none 0 0] : Array Value).toList 8 = some ([.lit (.int .i64 0), .nil], [], places) :=
  ⟨[], by kernel_rfl⟩
theorem spec {H : Type} : ∀ ds : List (DataW H), ds.length = Tryd.f3.params.toList.length → Rows.bitsPlaysSpec.fn H (ds ++ []) = { results := [.lit (.bool true)], args := ds, vars := [] } := by
  intro ds h
  rw [Tryd.params3] at h
  simp only [List.append_nil]
  match ds, h with
  | [_, _], _ => rfl

set_option maxRecDepth 100000 in
theorem lifted (os : Os) (started : os.Started) (H : Type) (enc : TypeId × Value → H) (F : Stop.Interp) :
    ReturnsInHanded {} Tryd.checked os 3 .any ((OpenSpec.ofChange Rows.bitsPlaysSpec).preRow enc Tryd.prog Tryd.f3 Rows.bitsPlaysRow.domain false Rows.bitsPlaysRow.laid) (((OpenSpec.ofChange Rows.bitsPlaysSpec).at F).post enc Tryd.prog Tryd.f3 false true false false) := by
  obtain ⟨places, hx⟩ := reads os enc
  refine returnsInHanded_of_row (C := Tryd.checked) (s := OpenSpec.ofChange Rows.bitsPlaysSpec) own started (by kernel_rfl) Tryd.func3
    (witness_row_at (enc := enc) (C := Tryd.checked) false (laidWorld os) #[.int .i64 0, .slice none 0 0] rfl (by kernel_rfl) (by kernel_rfl) (by kernel_rfl)
      (OpenSpec.preRow_of_cond 8 hx (by kernel_rfl) (fun k hk => by cases hk) (by kernel_rfl) (laid_met os))) ?_
  intro W base args ds gs before hval hW _ _ _ hL _ _
  have hW' : DataW.Whole enc Tryd.prog Tryd.f3.params.toList Rows.bitsPlaysSpec.vars false W args.toList ds gs before := hW
  exact law_close (s := Rows.bitsPlaysSpec) rfl rfl Tryd.underlying4 spec laidOut readable hW' (by
    obtain ⟨p, q, hA, _⟩ := hW'
    exact holds hval hA (table hL))

theorem said : Rows.BitsPlaysSaid :=
  OpenClaim.holds_of_cond 3 Tryd.f3 rfl rfl rfl rfl rfl rfl rfl ⟨rfl, rfl, rfl, rfl, rfl⟩ rfl rfl rfl rfl rfl (by kernel_rfl) Tryd.func3 (by kernel_rfl)
    (of_decide_eq_true (by kernel_rfl)) (by unfold Func.isWrapper; first | (rw [if_pos (by decide +kernel)]; kernel_rfl) | (rw [if_neg (by decide +kernel)]; exact ⟨rfl, rfl⟩))
    (fun os started H enc _ F => by rw [OpenClaim.pre_eq_preRow]; exact lifted os started H enc F)

/-- No parameter wants a stand-in; the program's own looks are off. -/
theorem plain (f : FuncId) (fn : Func) (hf : Tryd.pinned.checked.prog.funcNamed "gleaner/gleanerlaw01.BitsPlays" = some f) (hfn : Tryd.pinned.checked.prog.funcs[f]? = some fn) :
    false = Tryd.pinned.checked.prog.looks [] ∧ ∀ (j : Nat) t, fn.params[j]? = some t → Tryd.pinned.checked.prog.wantsStandIn t = false := by
  obtain rfl : f = 3 := Option.some.inj ((show Tryd.prog.funcNamed "gleaner/gleanerlaw01.BitsPlays" = some 3 by kernel_rfl).symm.trans hf) |>.symm
  obtain rfl : fn = Tryd.f3 := (Option.some.inj (Tryd.func3.symm.trans hfn)).symm
  refine ⟨by kernel_rfl, fun j t ht => ?_⟩
  rw [Tryd.params3] at ht
  have hm : t = 3 ∨ t = 22 := by have := Array.mem_of_getElem? ht; simp at this; omega
  rcases hm with rfl | rfl
  · exact (show Tryd.prog.wantsStandIn 3 = false by kernel_rfl)
  · exact (show Tryd.prog.wantsStandIn 22 = false by kernel_rfl)

/-- The card. -/
theorem card : Rows.BitsPlaysCardSaid :=
  Claim7.holds_tied_plain_at .later [] _ _ _ _ said (fun _ h => by cases h) (by kernel_rfl) (fun _ h => by cases h) bitsPlays_row_tie rfl ⟨rfl, rfl⟩ (by kernel_rfl) rfl plain (by kernel_rfl)
end Go.Proofs.YtbgemiapnnncaaaDoor.BitsPlays
