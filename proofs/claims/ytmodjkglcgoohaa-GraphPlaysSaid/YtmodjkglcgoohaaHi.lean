/- gleanerref13: order. -/
import Derived.Test.YtmodjkglcgoohaaHh
import Derived.WalkKit
import Derived.BigQuiet
namespace Go.Proofs.Ytmodjkglcgoohaa
set_option linter.unusedVariables false
set_option linter.unusedSimpArgs false
open Go.RowKit Go.Gl

def OrdPost (W : World) (N : Nat) (O : List Int) (e : Ending) (w' : World) : Prop :=
  ∃ A n c nb, e = .returned (.tuple #[.slice A n c, .slice (some ⟨nb, 0, none⟩) (N + 1) (N + 1)]) ∧ n = O.length ∧ TrAt W w' N nb A n c O
section
variable {W : World} {tg : TG} {Λ : ML} {T B M : Nat} {σ : GS}
theorem TrAt.new (W : World) (N : Nat) : TrAt W (W.alloc (.cells (rowF (N + 1) fun _ => .int .u64 0) 32)) N W.heap.size none 0 0 [] :=
  ⟨(Fr.refl _ _).alloc _, [], Lr.nil _ _, Blk.new _ _ _, fun g hg => (by cases hg), Nat.le_refl _⟩
theorem MG.stAt (h : MG W tg Λ T T B M σ) {t : Nat} (ht : t < T) : ∃ g off A c, Λ.sA = some ⟨g, off, none⟩ ∧ g < W.heap.size ∧ W.cell? ⟨g, off + t, none⟩ = some (.pointer (some ⟨Λ.S t, 0, none⟩)) ∧ W.cell? ⟨Λ.S t, 1, none⟩ = some (.slice A (σ.st t).length c) ∧ Sl W A (σ.st t).length (fun k => .int .u64 ((σ.st t).getD k 0)) := by
  obtain ⟨g, off, e1, _, e2, e3, _, _⟩ := h.row.pos (by omega)
  obtain ⟨G, k1, _⟩ := h.stk t ht
  obtain ⟨A, c, c1, _, hs⟩ := k1.sl
  exact ⟨g, off, A, c, e1, e2, by rw [e3 t ht]; exact ptrs_at _ ht, c1, hs⟩
set_option maxRecDepth 100000 in
set_option maxHeartbeats 1600000 in
theorem morder_any (h : MG W tg Λ T T B M σ) (ok : GOk T B σ) (hd : GDim T B M) (hN : σ.N < 4096) : Calls Try.prog 26 #[.pointer (some ⟨Λ.m, 0, none⟩)] W (OrdPost W σ.N (order σ T)) := by
  obtain ⟨O, hO⟩ : ∃ O, O = order σ T := ⟨_, rfl⟩
  have hOl : O.length ≤ 4096 := by rw [hO]; have := order_len (T := T) ok; omega
  have HPR : Hid (∀ t, t < T → visits (visits [] (rootsOf σ t)) (σ.st t) <+: O) := fun t ht => by
    rw [hO, ← visits_app, ← rootsOf_succ]
    have e : ∀ n, t + 1 ≤ n → visits [] (rootsOf σ (t + 1)) <+: visits [] (rootsOf σ n) := fun n hn => by
      induction n with
      | zero => omega
      | succ n ih =>
        rcases Nat.eq_or_lt_of_le hn with e | e
        · rw [e]; exact List.prefix_refl _
        · rw [rootsOf_succ σ n, visits_app]
          exact (ih (by omega)).trans (visits_pre _ _)
    exact (e T (by omega)).trans (bfs_order ok 0)
  have HMEET : Hid (∀ w' nb A n c L la l lc, TrAt W w' σ.N nb A n c L → n = L.length → Sl W la l.length (fun k => .int .u64 (l.getD k 0)) → (∀ r, r ∈ l → 0 ≤ r ∧ r ≤ (σ.N : Int)) → l.length ≤ 1048576 → (0 : Int) ∉ L → visits L l <+: O →
      Calls Try.prog 48 #[.slice A n c, .slice (some ⟨nb, 0, none⟩) (σ.N + 1) (σ.N + 1), .slice la l.length lc] w' fun e w'' => ∃ A' n' c', e = .returned (.slice A' n' c') ∧ n' = (visits L l).length ∧ TrAt W w'' σ.N nb A' n' c' (visits L l)) :=
    fun w' nb A n c L la l lc a1 a2 a3 a4 a5 a6 a7 => mmeet_any a1 a2 a3 a4 (by omega) a5 a6 a7 hOl
  have HST : Hid (∀ t, t < T → ∃ g off A c, Λ.sA = some ⟨g, off, none⟩ ∧ g < W.heap.size ∧ W.cell? ⟨g, off + t, none⟩ = some (.pointer (some ⟨Λ.S t, 0, none⟩)) ∧ W.cell? ⟨Λ.S t, 1, none⟩ = some (.slice A (σ.st t).length c) ∧ Sl W A (σ.st t).length (fun k => .int .u64 ((σ.st t).getD k 0)) ∧ (∀ r, r ∈ σ.st t → 0 ≤ r ∧ r ≤ (σ.N : Int)) ∧ (σ.st t).length ≤ 1048576) := fun t ht => by
    obtain ⟨g, off, A, c, e1, e2, e3, e4, e5⟩ := h.stAt ht
    exact ⟨g, off, A, c, e1, e2, e3, e4, e5, ok.mem t, by have := ok.len t; have := hd.b; omega⟩
  have HRZ : Hid (∀ t, (0 : Int) ∉ visits [] (rootsOf σ t)) := fun t hm => by
    rw [visits_mem] at hm
    rcases hm with hm | ⟨_, hm⟩
    · cases hm
    · exact hm rfl
  have HBZ : Hid (∀ k, (0 : Int) ∉ bfs σ T k) := fun k hm => by have := bfs_in ok k 0 hm; omega
  have HBP : Hid (∀ k, bfs σ T k <+: O) := fun k => hO ▸ bfs_order ok k
  have HBE : Hid (∀ k, (bfs σ T k).length ≤ k → O = bfs σ T k) := fun k hk => hO ▸ bfs_end ok hk
  have HOB : Hid (∀ k r, (bfs σ T k)[k]? = some r → ∃ (b cc q : Nat) (A : Option Addr) (c : Nat), r = (q : Int) + 1 ∧ q < σ.N ∧ Λ.ov = .slice (some ⟨b, 0, none⟩) σ.N cc ∧ b < W.heap.size ∧ W.cell? ⟨b, q * 2, none⟩ = some (.slice A (kids σ r).length c) ∧ Sl W A (kids σ r).length (fun k => .int .u64 ((kids σ r).getD k 0)) ∧ (∀ x, x ∈ kids σ r → 0 ≤ x ∧ x ≤ (σ.N : Int)) ∧ (kids σ r).length ≤ 1048576) := fun k r hr => by
    obtain ⟨h1, h2⟩ := bfs_in ok k r (List.mem_of_getElem? hr)
    obtain ⟨b, cc, q, q1, q2, q3, q4, q5, q6, q7⟩ := h.ob h1 h2
    obtain ⟨A, c, e1, e2⟩ := (h.refs r h1 h2).sl
    refine ⟨b, cc, q, A, c, q1, q2, q3, q5, by rw [q6, e1], e2, fun x hx => ?_, by rw [kids_len]; exact ok.np r⟩
    obtain ⟨j, _, rfl⟩ := kids_mem.1 hx
    exact ok.ref r j
  obtain ⟨oA, oc, hov, _⟩ := h.obj.form
  have c1 := h.c1
  have c2 := h.c2
  rw [hov] at c1
  have HC1 := hide c1
  have HC2 := hide c2
  have hT := hd.t
  have NM : Λ.m < W.heap.size := h.st.lt
  have HOV := hide hov
  have HO := hide hO
  have hw0 : IntKind.i64.wrap ((σ.N : Int) + 1) = (σ.N : Int) + 1 := IntWalk.i64_in _ ⟨by omega, by omega⟩
  have hmk : ∀ w', (Instr.makeSlice 42 (.int .i64 ((σ.N : Int) + 1)) (.int .i64 ((σ.N : Int) + 1))).run Try.prog w' = .ok (.slice (some ⟨w'.heap.size, 0, none⟩) (σ.N + 1) (σ.N + 1)) (w'.alloc (.cells (rowF (σ.N + 1) fun _ => .int .u64 0) 32)) := fun w' => by
    have := make_rowH (P := Try.prog) (t := 42) (e := 32) (z := .int .u64 0) Try.underlying42 Try.info_u64 rfl (n := σ.N + 1) (by omega) w'
    rwa [show ((σ.N + 1 : Nat) : Int) = (σ.N : Int) + 1 by omega] at this
  have HOL := hide hOl
  have HT0 := hide (TrAt.new W σ.N)
  have hbfs0 : Hid (bfs σ T 0 = visits [] (rootsOf σ T)) := rfl
  clear h ok hd hO hOl hov
  rw [← HO.out]
  go_enter Try.func26, Try.ntmps26
  go_wp2_with fail
  clear hmk hw0
  generalize W.alloc (.cells (rowF (σ.N + 1) fun _ => .int .u64 0) 32) = w0 at *
  obtain ⟨nb, hnb⟩ : ∃ nb, nb = W.heap.size := ⟨_, rfl⟩
  rw [← hnb] at HT0 ⊢
  have HNB := hide hnb
  clear hnb c1 c2
  go_loopw [4, 6] (fun s i wr => ∃ (t : Nat) (A' : Option Addr) (n' c' : Nat), i = .int .i64 t ∧ s = .slice A' n' c' ∧ n' = (visits [] (rootsOf σ t)).length ∧ t ≤ T ∧ TrAt W wr σ.N nb A' n' c' (visits [] (rootsOf σ t))) (fun _ i _ => T - (intOf i).toNat)
  case atStart => exact ⟨0, none, 0, 0, rfl, rfl, rfl, Nat.zero_le _, HT0.out⟩
  case round =>
    obtain ⟨t, A1, n1, c1', rfl, rfl, hn1, htT, ht1⟩ := hrel
    have x2 : wr.cell? ⟨Λ.m, 2, none⟩ = some (.slice Λ.sA T Λ.sc) := by rw [ht1.1.cell (p := ⟨Λ.m, 2, none⟩) NM (by simp)]; exact HC2.out
    by_cases hlt : t < T
    · have hlt1 : (t : Int) < (T : Int) := by omega
      obtain ⟨g, off, A2, c2, s1, s2, s3, s4, s5, s6, s7⟩ := HST.out t hlt
      rw [s1] at x2
      have y1 : wr.cell? ⟨g, off + t, none⟩ = some (.pointer (some ⟨Λ.S t, 0, none⟩)) := by rw [ht1.1.cell (p := ⟨g, off + t, none⟩) s2 (by simp)]; exact s3
      have y2 : wr.cell? ⟨Λ.S t, 1, none⟩ = some (.slice A2 (σ.st t).length c2) := by rw [ht1.1.cell (p := ⟨Λ.S t, 1, none⟩) (lt_of_cell s4) (by simp)]; exact s4
      have HM := hide (HMEET.out wr nb A1 n1 c1' _ A2 (σ.st t) c2 ht1 hn1 s5 s6 s7 (HRZ.out t) (HPR.out t hlt))
      rw [← visits_app, ← rootsOf_succ] at HM
      have HLT := hide hlt
      clear ht1 hn1 s1 s2 s3 s4 s5 s6 s7 HT0
      generalize (σ.st t).length = ll at *
      go_wp2_with fail
      refine HM.out.mono ?_
      rintro e w3 ⟨A3, n3, c3, rfl, hn3, ht3⟩
      have HR : Hid (n3 = (visits [] (rootsOf σ (t + 1))).length ∧ TrAt W w3 σ.N nb A3 n3 c3 (visits [] (rootsOf σ (t + 1)))) := ⟨hn3, ht3⟩
      clear hn3 ht3 HM x2 y1 y2
      go_wp2_with fail
      go_roundw
      case rel => exact ⟨t + 1, A3, n3, c3, by go_num, rfl, HR.out.1, by have := HLT.out; omega, HR.out.2⟩
      case measure => simp [intOf]; have := HLT.out; omega
    · obtain rfl : t = T := by omega
      have HR : Hid (n1 = (bfs σ t 0).length ∧ TrAt W wr σ.N nb A1 n1 c1' (bfs σ t 0)) := ⟨hn1, ht1⟩
      clear ht1 hn1 HT0
      go_wp2_with fail
      go_loopw [4, 7] (fun s i wr => ∃ (k : Nat) (A' : Option Addr) (n' c' : Nat), i = .int .i64 k ∧ s = .slice A' n' c' ∧ n' = (bfs σ t k).length ∧ k ≤ 4096 ∧ TrAt W wr σ.N nb A' n' c' (bfs σ t k)) (fun _ i _ => 4096 - (intOf i).toNat)
      case atStart => exact ⟨0, A1, n1, c1', rfl, rfl, HR.out.1, by omega, HR.out.2⟩
      case round =>
        obtain ⟨k, A2, n2, c2, rfl, rfl, hn2, hk, ht2⟩ := hrel
        by_cases hlt2 : k < n2
        · have hlt3 : (k : Int) < (n2 : Int) := by omega
          obtain ⟨r, hr⟩ : ∃ r, (bfs σ t k)[k]? = some r := ⟨_, List.getElem?_eq_getElem (by omega)⟩
          obtain ⟨b, cc, q, A4, c4, s1, s2, s3, s4, s5, s6, s7, s8⟩ := HOB.out k r hr
          have hst := bfs_step σ t hr
          have HM := hide (HMEET.out wr.drew nb A2 n2 c2 _ A4 (kids σ r) c4 (ht2.fr0 ((Fr.refl _ _).drew)) hn2 s6 s7 s8 (HBZ.out k) (by rw [← hst]; exact HBP.out (k + 1)))
          rw [← hst] at HM
          have hk5 : k < 4096 := by
            have := (HBP.out k).length_le
            have := HOL.out
            omega
          have z1 : wr.cell? ⟨Λ.m, 1, none⟩ = some (.slice (some ⟨b, 0, none⟩) σ.N cc) := by rw [ht2.1.cell (p := ⟨Λ.m, 1, none⟩) NM (by simp), HC1.out, ← HOV.out, s3]
          have z2 : wr.cell? ⟨b, q * 2, none⟩ = some (.slice A4 (kids σ r).length c4) := by rw [ht2.1.cell (p := ⟨b, q * 2, none⟩) s4 (by simp)]; exact s5
          obtain ⟨hf, G, k1, k2, k3, k4⟩ := ht2
          obtain ⟨gl, ol, rfl, _, _, hcell, _, _⟩ := k1.pos (by omega)
          have z3 : wr.cell? ⟨gl, ol + k, none⟩ = some (.int .i64 ((q : Int) + 1)) := by
            rw [hcell k hlt2, zv_get _ (by omega), ← s1]
            simp [hr]
          have hw1 : IntKind.i64.wrap ((q : Int) + 1 - 1) = (q : Int) := by
            rw [show (q : Int) + 1 - 1 = (q : Int) by omega]
            exact IntWalk.i64_in _ ⟨by omega, by omega⟩
          have hq1 : (q : Int) < (σ.N : Int) := by omega
          have hqb : q < 4096 := by omega
          have hw2 : IntKind.i64.wrap (q : Int) = (q : Int) := IntWalk.i64_in _ ⟨by omega, by omega⟩
          have HK5 := hide hk5
          clear hf k1 k2 k3 k4 hn2 hcell s1 s2 s3 s4 s5 s6 s7 s8 hst hr HR x2
          generalize (kids σ r).length = ll at *
          go_wp2_with fail
          refine region_tail 14 (by kernel_rfl) (by kernel_rfl) ?_
          simp only [List.take_succ_cons, List.take_zero, List.drop_succ_cons, List.drop_zero]
          repeat still_step
          refine wpStill_nil ?_
          go_wp2_with fail
          refine HM.out.mono ?_
          rintro e w3 ⟨A3, n3, c3, rfl, hn3, ht3⟩
          have HR : Hid (n3 = (bfs σ t (k + 1)).length ∧ TrAt W w3 σ.N nb A3 n3 c3 (bfs σ t (k + 1))) := ⟨hn3, ht3⟩
          clear hn3 ht3 HM z1 z2 z3
          go_wp2_with fail
          go_roundw
          case rel => exact ⟨k + 1, A3, n3, c3, by go_num, rfl, HR.out.1, by have := HK5.out; omega, HR.out.2⟩
          case measure => simp [intOf]; have := HK5.out; omega
        · have hOe := HBE.out k (by omega)
          have HE : Hid (n2 = O.length ∧ TrAt W wr σ.N nb A2 n2 c2 O) := by rw [hOe]; exact ⟨hn2, ht2⟩
          clear ht2 hn2 hOe HR x2
          have hlt3 : ¬ (k : Int) < (n2 : Int) := by omega
          go_wp2_with fail
          go_ret2
          exact ⟨A2, n2, c2, nb, rfl, HE.out.1, HE.out.2⟩
end
end Go.Proofs.Ytmodjkglcgoohaa
