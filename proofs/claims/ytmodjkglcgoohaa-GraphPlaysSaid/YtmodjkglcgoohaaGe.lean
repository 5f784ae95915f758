/- Package graph: New. -/
import Derived.Test.YtmodjkglcgoohaaGc
import Derived.Deep.AppendLies
import Derived.WalkKit
import Derived.BigQuiet
namespace Go.Proofs.Ytmodjkglcgoohaa
set_option linter.unusedVariables false
set_option linter.unusedSimpArgs false
open Go.RowKit Go.Gl

theorem Try.info_thread : (Try.prog.info? 67).map (fun i => (i.zero, i.size, i.bytes)) = some (some (.agg #[.pointer none, .int .i64 0]), 2, 16) := by kernel_rfl
theorem cnt_G0 (T : Nat) (r : Int) : cnt G0.st T r = 0 := by
  induction T with
  | zero => rfl
  | succ T ih =>
    simp only [cnt, ih]
    simp [G0]
theorem hdOf_G0 (T : Nat) (r : Int) : ¬ hdOf G0 T r := fun h => by
  have := h.2
  rw [cnt_G0] at this
  omega
section
variable {w w' : World} {tg : TG} {Λ : GL} {k B M : Nat}
theorem PGm.addThread (h : PGm w tg Λ k B M 0 G0) {w1 : World} {s : Nat} {F : List Nat} (hf1 : Fr [] w w1) (hs : HkP w1 s F B []) (hn : ∀ x, x ∈ F → w.heap.size ≤ x) {nv : Array Value} {t0 : TypeId} {g cap : Nat}
    (hown : w'.ownsRow 0 67 2 (.slice (some ⟨g, 0, none⟩) (k + 1) cap) (k + 1) (rows2 (fun i => .pointer (some ⟨Λ.S i, 0, none⟩)) (fun i => .int .i64 (G0.done i : Int)) k ++ [.pointer (some ⟨s, 0, none⟩), .int .i64 0]))
    (hgr : (w1.alloc (.cells nv t0)).grownBy w' Λ.tv.ownBlock) (hat : Λ.tv.ownBlock = some g ∨ g = w1.heap.size + 1) (hgl : g < w'.heap.size) :
    ∃ tg', PGm (w'.setCell ⟨Λ.g, 0, none⟩ (.slice (some ⟨g, 0, none⟩) (k + 1) cap)) tg' { Λ with tv := .slice (some ⟨g, 0, none⟩) (k + 1) cap, S := setF Λ.S k s } (k + 1) B M 0 G0 ∧ GFr w tg (w'.setCell ⟨Λ.g, 0, none⟩ (.slice (some ⟨g, 0, none⟩) (k + 1) cap)) tg' := by
  have hfa : Fr [] w (w1.alloc (.cells nv t0)) := hf1.alloc _
  have hf2 : Fr Λ.tv.ownBlock.toList w w' := (hfa.mono (fun x hx => by cases hx)).trans (grown_fr hgr) (fun x hx => .inl hx)
  have hf3 : Fr [Λ.g] w' (w'.setCell ⟨Λ.g, 0, none⟩ (.slice (some ⟨g, 0, none⟩) (k + 1) cap)) := (Fr.refl _ _).setCell (p := ⟨Λ.g, 0, none⟩) (.inl (by simp)) _
  obtain ⟨w3, hw3⟩ : ∃ w3, w3 = w'.setCell ⟨Λ.g, 0, none⟩ (.slice (some ⟨g, 0, none⟩) (k + 1) cap) := ⟨_, rfl⟩
  rw [← hw3] at hf3 ⊢
  have h2 : ∀ x, x ∈ Λ.tv.ownBlock.toList → tg x = (2, 0) := fun x hx => h.t2 x (by simpa using hx)
  have hf : Fr (Λ.g :: Λ.tv.ownBlock.toList) w w3 := (hf2.mono (fun x hx => .inl (by simp [hx]))).trans hf3 (fun x hx => .inl (by simp at hx; simp [hx]))
  have hT : ∀ x, x ∈ Λ.g :: Λ.tv.ownBlock.toList → tg x = (1, 0) ∨ tg x = (2, 0) := fun x hx => by
    rcases List.mem_cons.1 hx with rfl | hx
    · exact .inl h.t1
    · exact .inr (h2 x hx)
  have hk : ∀ n, n ≠ 1 → n ≠ 2 → ∀ x, x ∈ Λ.g :: Λ.tv.ownBlock.toList → (tg x).1 ≠ n := fun n h1 h2 x hx e => by
    rcases hT x hx with e1 | e1
    · rw [e1] at e; exact h1 e.symm
    · rw [e1] at e; exact h2 e.symm
  have hs1 := hf1.size
  have hs2 : w1.heap.size < w'.heap.size := by
    have := hgr.size
    simp at this
    omega
  have hs3 : w'.heap.size = w3.heap.size := by rw [hw3]; simp
  obtain ⟨tg', htg⟩ : ∃ tg' : TG, tg' = fun x => if x = g then (2, 0) else if w.heap.size ≤ x ∧ x < w3.heap.size then (3, (k : Int)) else tg x := ⟨_, rfl⟩
  have tgg : tg' g = (2, 0) := by rw [htg]; exact if_pos rfl
  have hu : GTgUp w tg tg' := fun x hx => by
    rw [htg]
    dsimp only
    by_cases e : x = g
    · rw [if_pos e]
      rcases hat with e1 | e1
      · rw [e, h.t2 g e1]
      · omega
    · rw [if_neg e, if_neg (by omega)]
  have hok : GTgOk w3 tg' := fun x hx => by
    by_cases e : x = g
    · rw [e, ← hs3]; exact hgl
    · by_cases e2 : w.heap.size ≤ x ∧ x < w3.heap.size
      · exact e2.2
      · rw [htg] at hx
        dsimp only at hx
        rw [if_neg e, if_neg e2] at hx
        have := h.tok x hx
        omega
  have hgF : g ∉ F := fun hx => by
    have := hs.lt g hx
    have h4 := hn g hx
    rcases hat with e1 | e1
    · have := h.row.lt e1
      omega
    · omega
  obtain ⟨a1, a2, a3⟩ := h.tags hu
  have hb2 := h.st.fr hf2 (fun hx => by have := h2 _ hx; rw [h.t1] at this; cases this)
  have hown' : w'.ownsRow 0 67 2 (.slice (some ⟨g, 0, none⟩) (k + 1) cap) (k + 1) (rows2 (fun i => .pointer (some ⟨setF Λ.S k s i, 0, none⟩)) (fun i => .int .i64 (G0.done i : Int)) (k + 1)) := by
    rw [rows2_succ, setF_at]
    rw [rows2_congr (f' := fun i => .pointer (some ⟨Λ.S i, 0, none⟩)) (g' := fun i => .int .i64 (G0.done i : Int)) (fun i hi => ⟨by rw [setF_ne _ _ (by omega)], rfl⟩)]
    exact hown
  have hgne : g ≠ Λ.g := fun e => by rw [e] at tgg; rw [a1] at tgg; cases tgg
  refine ⟨tg', ⟨?_, a1, ?_, fun b hb => ?_, ?_, a3, fun i hi => ?_, fun r h1 h2 => ?_, hok⟩, ⟨⟨_, hf, hk 0 (by decide) (by decide)⟩, hu⟩⟩
  · have := hb2.put 0 (.slice (some ⟨g, 0, none⟩) (k + 1) cap)
    rw [hw3]
    simpa using this
  · exact own_fr hown' hf3 (fun x hx => by
      have hx' : some g = some x := hx
      injection hx' with hx'
      subst hx'
      simpa using hgne)
  · have hb' : some g = some b := hb
    injection hb' with hb'
    rw [← hb']
    exact tgg
  · obtain ⟨f, f1, f2, f3, f4⟩ := h.held' hf (hk 7 (by decide) (by decide))
    exact ⟨f, f1, fun r hr => absurd hr (hdOf_G0 _ _), fun r _ => f3 r (hdOf_G0 _ _), f4⟩
  · by_cases e : i = k
    · subst e
      refine ⟨F, ?_, fun x hx => ?_⟩
      · show HkP w3 (setF Λ.S i s i) F B []
        rw [setF_at]
        have hsx : HkP w' s F B [] := (hs.fr0 ((Fr.refl _ _).alloc (.cells nv t0))).fr (grown_fr hgr) (fun x hx hx' => by
          have := hn x hx
          have h5 : Λ.tv.ownBlock = some x := by simpa using hx'
          have := h.row.lt h5
          omega)
        exact hsx.fr hf3 (fun x hx hx' => by simp at hx'; have := hn x hx; have := h.st.lt; omega)
      · have h3 := hn x hx
        have h4 := hs.lt x hx
        rw [htg]
        dsimp only
        rw [if_neg (show ¬ x = g from fun e => hgF (by rw [← e]; exact hx)), if_pos ⟨h3, by omega⟩]
    · obtain ⟨H, h3, h4⟩ := h.stk' hf (i := i) (by omega) (tagNe (hk 3 (by decide) (by decide))) hu
      refine ⟨H, ?_, h4⟩
      show HkP w3 (setF Λ.S k s i) H B (G0.st i)
      rw [setF_ne _ _ e]
      exact h3
  · exact absurd h2 (by show ¬ r ≤ 0; omega)
end
set_option maxRecDepth 100000 in
theorem gadd_ok {w : World} {tg : TG} {Λ : GL} {k B M : Nat} (h : PGm w tg Λ k B M 0 G0) (hk : k < 64) (h1 : 1 ≤ B) (h2 : B ≤ 64) :
    Calls Try.prog 18 #[.pointer (some ⟨Λ.g, 0, none⟩), .int .i64 (B : Int)] w fun e w' => e = .returned (.int .i64 0) ∧ ∃ tg' Λ', PGm w' tg' Λ' (k + 1) B M 0 G0 ∧ Λ'.g = Λ.g ∧ GFr w tg w' tg' := by
  obtain ⟨i0, hi, hz0, hz1, hz2⟩ := info_parts Try.info_thread
  have HN := hide (hnew_ok B h1 h2 w)
  have H := hide h
  have HK : Hid (k + 1 ≤ maxLen ∧ (k + 1) * 16 ≤ 140737488355328) := ⟨by unfold maxLen; omega, by omega⟩
  clear h hk h1 h2
  go_enter Try.func18, Try.ntmps18
  go_wp2_with fail
  refine HN.out.mono ?_
  rintro e w1 ⟨s, F, rfl, hq, hf, hn⟩
  have hp1 := H.out.fr0 hf
  have c0 : w1.cell? ⟨Λ.g, 0, none⟩ = some Λ.tv := by rw [hp1.st.cell]; rfl
  have NG : Λ.g < w1.heap.size := hp1.st.lt
  have HQ := hide hq
  have HF := hide hf
  have HNN := hide hn
  have HP1 := hide hp1
  have hne : Λ.tv.ownBlock ≠ some Λ.g := fun h5 => by
    have h6 := hp1.t2 _ h5
    rw [hp1.t1] at h6
    cases h6
  have HFZ : Hid (∀ w', (w1.alloc (.cells #[.pointer (some ⟨s, 0, none⟩), .int .i64 0] 67)).grownBy w' Λ.tv.ownBlock → w'.cell? ⟨Λ.g, 0, none⟩ = some Λ.tv ∧ w'.frozen? ⟨Λ.g, 0, none⟩ = false) := fun w' hg => by
    have hb := ((hp1.st.fr ((Fr.refl [] w1).alloc (.cells #[.pointer (some ⟨s, 0, none⟩), .int .i64 0] 67)) (by simp)).fr (grown_fr hg) (fun hx => hne (by simpa using hx)))
    exact ⟨by rw [hb.cell]; rfl, hb.frozen 0⟩
  have HNW : Hid (∀ j u, [Value.pointer (some ⟨s, 0, none⟩), .int .i64 0][j]? = some u → (w1.alloc (.cells #[.pointer (some ⟨s, 0, none⟩), .int .i64 0] 67)).cell? ((⟨w1.heap.size, 0, none⟩ : Addr).add j) = some u) := World.news_of_block (cs := #[.pointer (some ⟨s, 0, none⟩), .int .i64 0]) (Blk.new w1 _ _)
  have HRO : Hid ((w1.alloc (.cells #[.pointer (some ⟨s, 0, none⟩), .int .i64 0] 67)).ownsRow 0 67 2 Λ.tv k (rows2 (fun i => .pointer (some ⟨Λ.S i, 0, none⟩)) (fun i => .int .i64 (G0.done i : Int)) k)) := hp1.row.fr ((Fr.refl [] w1).alloc _) (fun _ _ => by simp)
  clear hq hf hn hp1 hne
  go_wp2_with (first | (at_builtin; refine wpList_append_lies _ rfl _ _ 50 rfl 0 67 i0 (.agg #[.pointer none, .int .i64 0]) 2 16 Try.underlying50 hi hz0 hz1 hz2 rfl (by decide) Λ.tv k _ rfl HRO.out ⟨w1.heap.size, 0, none⟩ 1 1 [.pointer (some ⟨s, 0, none⟩), .int .i64 0] rfl rfl HNW.out (by intro u hu; simp at hu; rcases hu with rfl | rfl <;> rfl) (by decide) HK.out.1 HK.out.2 (Nat.zero_le _) (w1.heap.size + 1) (by simp) ?_; intro g cap w2 hown hgr hat hlt; have d0 := (HFZ.out w2 hgr).1; have dz := (HFZ.out w2 hgr).2; have HO := hide hown; have HGR := hide hgr; have HAT := hide hat; have HLT := hide hlt; clear hown hgr hat hlt))
  go_ret
  obtain ⟨tg', k1, k2⟩ := H.out.addThread HF.out HQ.out HNN.out HO.out HGR.out HAT.out HLT.out
  exact ⟨rfl, tg', _, k1, rfl, k2⟩
theorem gadd_bad {w : World} {g : Nat} (b : Int) (h : b < 1 ∨ 64 < b) : Calls Try.prog 18 #[.pointer (some ⟨g, 0, none⟩), .int .i64 b] w fun e w' => e = .returned (.int .i64 2) ∧ w = w' := by
  have HN := hide (hnew_bad b h w)
  clear h
  go_enter Try.func18, Try.ntmps18
  go_wp2_with fail
  refine HN.out.mono ?_
  rintro e w1 ⟨rfl, rfl⟩
  go_wp2_with fail
  go_ret
  exact ⟨rfl, rfl⟩
theorem PGm.zero (w : World) (B M : Nat) : PGm ((w.alloc (.map #[] 0)).alloc (.cells #[.slice none 0 0, .int .i64 (M : Int), .map (some w.heap.size), .int .u64 0] 53)) (fun x => if x = w.heap.size then (7, 0) else if x = w.heap.size + 1 then (1, 0) else (0, 0)) ⟨w.heap.size + 1, .slice none 0 0, w.heap.size, fun _ => 0, fun _ => 0, fun _ => 0, fun _ => 0⟩ 0 B M 0 G0 := by
  refine ⟨Blk.new_at _ _ (by simp), by simp, R2.nil _ _ _ _, fun b hb => (by cases hb), ⟨fun _ => none, (Mp.made w).fr0 ((Fr.refl _ _).alloc _), fun r hr => absurd hr (hdOf_G0 _ _), fun r _ => rfl, fun x v hx => by cases hx⟩, by simp, fun i hi => absurd hi (by omega), fun r h1 h2 => absurd h2 (by show ¬ r ≤ 0; omega), fun b hb => ?_⟩
  by_cases e : b = w.heap.size
  · simp; omega
  · by_cases e2 : b = w.heap.size + 1
    · simp; omega
    · simp [e, e2] at hb
def GNew (w : World) (T B M : Nat) (e : Ending) (w' : World) : Prop :=
  ∃ g S tg, e = .returned (.tuple #[.pointer (some ⟨g, 0, none⟩), .int .i64 0]) ∧ GAt w' tg g S T B M G0 ∧ Fr [] w w' ∧ ∀ b, (tg b).1 ≠ 0 → w.heap.size ≤ b
set_option maxRecDepth 100000 in
set_option maxHeartbeats 1600000 in
theorem gnew_ok (T B M : Nat) (hT : 1 ≤ T) (h1 : 1 ≤ B) (hd : GDim T B M) (w : World) : Calls Try.prog 9 #[.int .i64 (T : Int), .int .i64 (B : Int), .int .i64 (M : Int)] w (GNew w T B M) := by
  have g1 : ¬ ((T : Int) < 1) := by omega
  have g2 : ¬ ((T : Int) > 64) := by have := hd.t; omega
  have g3 : ¬ ((M : Int) < 1) := by have := hd.m1; omega
  have g4 : ¬ ((M : Int) > 1048576) := by have := hd.m; omega
  have hmm := @run_makeMap Try.prog
  have HD := hide hd
  have HB1 := hide h1
  have HT0 := hide hT
  clear hd hT h1
  go_enter Try.func9, Try.ntmps9
  go_wp2_with fail
  have HZ := hide (PGm.zero w B M)
  have HF : Hid (Fr [] w ((w.alloc (.map #[] 0)).alloc (.cells #[.slice none 0 0, .int .i64 (M : Int), .map (some w.heap.size), .int .u64 0] 53))) := ((Fr.refl _ _).alloc _).alloc _
  have HTG : Hid (∀ b : Nat, ((fun x => if x = w.heap.size then (7, 0) else if x = w.heap.size + 1 then (1, 0) else (0, 0) : TG) b).1 ≠ 0 → w.heap.size ≤ b) := fun b hb => by
    by_cases e : b = w.heap.size
    · omega
    · by_cases e2 : b = w.heap.size + 1
      · omega
      · simp [e, e2] at hb
  go_loopw [29] (fun i wr => ∃ (k : Nat) (tg : TG) (Λ : GL), i = .int .i64 k ∧ k ≤ T ∧ PGm wr tg Λ k B M 0 G0 ∧ Λ.g = w.heap.size + 1 ∧ Fr [] w wr ∧ ∀ b, (tg b).1 ≠ 0 → w.heap.size ≤ b) (fun i _ => T - (intOf i).toNat)
  case atStart => exact ⟨0, _, _, rfl, Nat.zero_le _, HZ.out, rfl, HF.out, HTG.out⟩
  case round =>
    obtain ⟨k, tg, Λ, rfl, hk, hp, hg, hf, ht⟩ := hrel
    by_cases hlt : k < T
    · have hlt1 : (k : Int) < (T : Int) := by omega
      have HA := hide (gadd_ok hp (by have := HD.out.t; omega) HB1.out HD.out.b)
      rw [hg] at HA
      have HFr := hide hf
      have HTr := hide ht
      have HL := hide hlt
      clear hp hg hf ht HZ HF HTG
      go_wp2_with fail
      refine HA.out.mono ?_
      rintro e w1 ⟨rfl, tg1, Λ1, hp1, hg1, hfr1⟩
      have HR : Hid (PGm w1 tg1 Λ1 (k + 1) B M 0 G0 ∧ Λ1.g = w.heap.size + 1 ∧ Fr [] w w1 ∧ ∀ b, (tg1 b).1 ≠ 0 → w.heap.size ≤ b) := ⟨hp1, hg1, GFr.inside HFr.out HTr.out hfr1, GFr.new HFr.out HTr.out hfr1⟩
      clear hp1 hg1 hfr1 HA HFr HTr
      go_wp2_with fail
      go_roundw
      case rel => exact ⟨k + 1, tg1, Λ1, by go_num, by have := HL.out; omega, HR.out⟩
      case measure => simp [intOf]; have := HL.out; omega
    · obtain rfl : k = T := by omega
      have HR : Hid (∃ tg, GAt wr tg (w.heap.size + 1) Λ.S k B M G0 ∧ Fr [] w wr ∧ ∀ b, (tg b).1 ≠ 0 → w.heap.size ≤ b) := ⟨tg, ⟨Λ, hp, hg, rfl⟩, hf, ht⟩
      clear hp hg hf ht HZ HF HTG
      go_wp2_with fail
      go_ret2
      obtain ⟨tg', r1, r2, r3⟩ := HR.out
      exact ⟨w.heap.size + 1, Λ.S, tg', rfl, r1, r2, r3⟩
theorem gnew_badT (t b m : Int) (h : t < 1 ∨ 64 < t ∨ m < 1 ∨ 1048576 < m) (w : World) : Calls Try.prog 9 #[.int .i64 t, .int .i64 b, .int .i64 m] w fun e w' => e = .returned (.tuple #[.pointer none, .int .i64 2]) ∧ Fr [] w w' := by
  rcases (show t < 1 ∨ (¬ t < 1 ∧ t > 64) ∨ (¬ t < 1 ∧ ¬ t > 64 ∧ m < 1) ∨ (¬ t < 1 ∧ ¬ t > 64 ∧ ¬ m < 1 ∧ m > 1048576) by omega) with h1 | ⟨h1, h2⟩ | ⟨h1, h2, h3⟩ | ⟨h1, h2, h3, h4⟩
  all_goals
    clear h
    go_enter Try.func9, Try.ntmps9
    go_wp2
    go_ret2
    exact ⟨rfl, Fr.refl _ _⟩
set_option maxRecDepth 100000 in
theorem gnew_badB (t b m : Int) (h1 : ¬ t < 1) (h2 : ¬ t > 64) (h3 : ¬ m < 1) (h4 : ¬ m > 1048576) (hb : b < 1 ∨ 64 < b) (w : World) : Calls Try.prog 9 #[.int .i64 t, .int .i64 b, .int .i64 m] w fun e w' => e = .returned (.tuple #[.pointer none, .int .i64 2]) ∧ Fr [] w w' := by
  have HA : Hid (∀ w g, Calls Try.prog 18 #[.pointer (some ⟨g, 0, none⟩), .int .i64 b] w fun e w' => e = .returned (.int .i64 2) ∧ w = w') := fun w g => gadd_bad b hb
  have hmm := @run_makeMap Try.prog
  have h0 : (0 : Int) < t := by omega
  clear hb
  go_enter Try.func9, Try.ntmps9
  go_wp2_with fail
  have HF : Hid (Fr [] w ((w.alloc (.map #[] 0)).alloc (.cells #[.slice none 0 0, .int .i64 m, .map (some w.heap.size), .int .u64 0] 53))) := ((Fr.refl _ _).alloc _).alloc _
  go_loopw [29] (fun i wr => i = .int .i64 0 ∧ Fr [] w wr) (fun i _ => 0)
  case atStart => exact ⟨rfl, HF.out⟩
  case round =>
    obtain ⟨rfl, hf⟩ := hrel
    have HFr := hide hf
    clear hf HF
    go_wp2_with fail
    refine (HA.out _ _).mono ?_
    rintro e w1 ⟨rfl, rfl⟩
    go_wp2_with fail
    go_ret2
    exact ⟨rfl, HFr.out⟩
/-- New, of whatever. -/
theorem gnew_bad (t b m : Int) (h : ¬ (1 ≤ t ∧ t ≤ 64 ∧ 1 ≤ b ∧ b ≤ 64 ∧ 1 ≤ m ∧ m ≤ 1048576)) (w : World) : Calls Try.prog 9 #[.int .i64 t, .int .i64 b, .int .i64 m] w fun e w' => e = .returned (.tuple #[.pointer none, .int .i64 2]) ∧ Fr [] w w' := by
  by_cases h1 : t < 1 ∨ 64 < t ∨ m < 1 ∨ 1048576 < m
  · exact gnew_badT t b m h1 w
  · exact gnew_badB t b m (by omega) (by omega) (by omega) (by omega) (by omega) w
end Go.Proofs.Ytmodjkglcgoohaa
