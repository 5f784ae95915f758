/- Package remset: forget. -/
import Derived.Test.YtkbffmmomoeaiaaDoorSe
namespace Go.Proofs.YtkbffmmomoeaiaaDoor
set_option linter.unusedVariables false
set_option linter.unusedSimpArgs false
open Go.RowKit Go.Gl

theorem IxAt.shape {w : World} {tg : Tg} {kd n r : Nat} {p : Nat → Prop} {v : Value} (h : IxAt w tg kd n r p v) : ∃ mb, v = .map mb := by
  rcases h with ⟨e, _⟩ | ⟨b, f, e, _⟩
  · exact ⟨_, e⟩
  · exact ⟨_, e⟩
/-- One deletion from an index. -/
theorem Ix.drop {w w' : World} {tg : Tg} {kd rB n r x : Nat} {p : Nat → Nat → Prop} {V : Nat → Value} {b : Nat} (h : Ix w tg kd rB n p V) (hkd : 4 ≤ kd) (hr : r < n) (hv : V r = .map (some b)) {f : Value → Option Value}
    (hm : Mp Tryd.prog 3 w b f) (ht : tg b = (kd, r, 0)) (hfs : ∀ x v, f x = some v → ∃ s : Nat, s < n ∧ x = .int .i64 (s : Int)) (hfp : ∀ s : Nat, s < n → (f (.int .i64 (s : Int)) ≠ none ↔ p r s)) (hM : Mp Tryd.prog 3 w' b (offF f (.int .i64 (x : Int)))) (hF : Fr [b] w w') :
    Ix w' tg kd rB n (fun a c => p a c ∧ ¬ (a = r ∧ c = x)) V := by
  have hbB : b ≠ rB := hm.blk_ne h.row
  refine ⟨h.row.fr hF (by simpa using Ne.symm hbB), h.tag, fun r' hr' => ?_⟩
  by_cases e : r' = r
  · subst e
    rw [hv]
    refine .inr ⟨b, _, rfl, hM, ht, fun y v hy => ?_, fun s hs => ?_⟩
    · by_cases e2 : y = .int .i64 (x : Int)
      · subst e2; rw [offF_at] at hy; cases hy
      · rw [offF_ne _ e2] at hy; exact hfs y v hy
    · by_cases e2 : s = x
      · subst e2; rw [offF_at]; simp
      · rw [offF_ne _ (by simp; omega), hfp s hs]; simp [e2]
  · exact ((h.own r' hr').fr hF (fun y hy hq => by simp at hy; subst hy; rw [ht] at hq; injection hq with _ h2; injection h2 with h2; exact e h2.symm) (TgUp.refl _ _)).congr fun y hy => by simp [e]
theorem Ix.drop0 {w : World} {tg : Tg} {kd rB n r x : Nat} {p : Nat → Nat → Prop} {V : Nat → Value} (h : Ix w tg kd rB n p V) (hno : ∀ y, y < n → ¬ p r y) : Ix w tg kd rB n (fun a c => p a c ∧ ¬ (a = r ∧ c = x)) V :=
  h.congr fun a ha c hc => by
    by_cases e : a = r
    · subst e; simp [hno c hc]
    · simp [e]
/-- A deletion from an index, at the operation. -/
theorem wp_drop_ix {w w0 : World} {tg : Tg} {kd rB n r x : Nat} {p : Nat → Nat → Prop} {V : Nat → Value} {mb : Option Nat} {o : Oper} {a : Act} {K : Act → World → Prop} {Q : Exit → Act → World → Prop} (m xo : Operand)
    (hop : o.op = .call { callee := .builtin .delete, args := #[m, xo], argTypes := #[72, 3] }) (h : Ix w0 tg kd rB n p V) (hf : Fr [] w0 w) (hkd : 4 ≤ kd) (hr : r < n) (hv : V r = .map mb) (hm : a.eval m = .map mb) (hx : a.eval xo = .int .i64 (x : Int)) (hxn : x ≤ 65536)
    (hK : ∀ w' F, Hid (Ix w' tg kd rB n (fun a c => p a c ∧ ¬ (a = r ∧ c = x)) V) → Hid (Fr F w w') → Hid (∀ b, b ∈ F → tg b = (kd, r, 0)) → Hid (∀ b, V r = .map (some b) → Lost w w' b (.int .i64 (x : Int))) → K (a.put o.dst (.tuple #[])) w') : Oper.wp Tryd.prog o a w K Q := by
  have h' := h.fr hf (fun _ hb => by cases hb) (TgUp.refl _ _)
  have hkey := intKey (x : Int) (wf_nat (by omega))
  rcases h'.own r hr with ⟨e, hno⟩ | ⟨b, f, e, hM, ht, hfs, hfp⟩
  · rw [hv] at e
    cases e
    exact wp_drop_nil m xo _ hop Tryd.intLaw Tryd.underlying72 hm hx hkey (hK w [] (h'.drop0 hno) (Fr.refl _ _) (fun _ hb => by cases hb) (fun b hb => by rw [hv] at hb; cases hb))
  · have e0 := e
    rw [hv] at e
    cases e
    refine wp_drop m xo _ hop Tryd.intLaw Tryd.underlying72 hM (Fr.refl _ _) hm hx hkey fun w' hM' hF hL => hK w' [b] (h'.drop hkd hr e0 hM ht hfs hfp hM'.out hF.out) hF (fun y hy => by simp at hy; subst hy; exact ht) (fun y hy => by rw [e0] at hy; cases hy; exact hL.out)
/-- What forget leaves. -/
def ForPost (w : World) (tg : Tg) (sb kb sB hB fB per n h s : Nat) (σ : RS) (Vs Vh : Nat → Value) (e : Ending) (w' : World) : Prop :=
  ∃ fk' Vf' F, e = .returned (.tuple #[]) ∧ Rs w' tg sb kb sB hB fB per n (σ.put per h s 0 (fun _ => false)) fk' Vs Vh Vf' ∧ Fr F w w' ∧ (∀ b, b ∈ F → (tg b).1 ≠ 0) ∧
    (∀ b, Vs h = .map (some b) → Lost w w' b (.int .i64 (s : Int))) ∧ ∀ b, Vh s = .map (some b) → Lost w w' b (.int .i64 (h : Int))
set_option maxRecDepth 100000 in
set_option maxHeartbeats 1600000 in
theorem forget_any {w : World} {tg : Tg} {sb kb sB hB fB per n h s : Nat} {σ : RS} {fk : Value → Option Value} {Vs Vh Vf : Nat → Value} (H : Rs w tg sb kb sB hB fB per n σ fk Vs Vh Vf) (hh : h < n) (hs : s < n) :
    Calls Tryd.prog 32 #[.pointer (some ⟨sb, 0, none⟩), .agg #[.int .i64 (h : Int), .int .i64 (s : Int)]] w (ForPost w tg sb kb sB hB fB per n h s σ Vs Vh) := by
  have hn := H.ok.dim.n2
  obtain ⟨lt, hlt⟩ := pairKey (h : Int) (s : Int) (wf_nat (by omega)) (wf_nat (by omega))
  have hh1 : (h : Int) < (n : Int) := by omega
  have hs1 : (s : Int) < (n : Int) := by omega
  obtain ⟨ms, hms⟩ := (H.src.own h hh).shape
  obtain ⟨mh, hmh⟩ := (H.hom.own s hs).shape
  have c2 := H.st.c2
  have N0 : sb < w.heap.size := Blk.lt H.st
  obtain ⟨w2, hw2⟩ : ∃ w2, w2 = (w.alloc (.cells #[.int .i64 (h : Int), .int .i64 (s : Int)] 76)).drew := ⟨_, rfl⟩
  have hF2 : Fr [] w w2 := hw2 ▸ ((Fr.refl _ _).alloc _).drew
  have htp : tg w.heap.size = tg w.heap.size ∧ (tg w.heap.size).1 = 0 := ⟨rfl, by
    rcases Nat.eq_zero_or_pos (tg w.heap.size).1 with h0 | h0
    · exact h0
    · exact absurd (H.tok _ (by omega)) (Nat.lt_irrefl _)⟩
  have HC : Hid (∀ w3 F, Fr F w2 w3 → (∀ b, b ∈ F → (tg b).1 = 2 ∨ (tg b).1 = 6 ∨ (tg b).1 = 7) → (w3.cell? ⟨sb, 3, none⟩ = some (.slice (some ⟨sB, 0, none⟩) n n) ∧ w3.cell? ⟨sb, 4, none⟩ = some (.slice (some ⟨hB, 0, none⟩) n n)) ∧ (w3.cell? ⟨w.heap.size, 0, none⟩ = some (.int .i64 (h : Int)) ∧ w3.cell? ⟨w.heap.size, 1, none⟩ = some (.int .i64 (s : Int))) ∧ w3.cell? ⟨sB, h, none⟩ = some (.map ms) ∧ w3.cell? ⟨hB, s, none⟩ = some (.map mh)) := fun w3 F hf3 hF => by
    have hpb : Blk w2 w.heap.size 76 #[.int .i64 (h : Int), .int .i64 (s : Int)] := by rw [hw2]; exact (Blk.new w _ _).drew
    have hp := hpb.fr hf3 (fun hb => by have := hF _ hb; rw [htp.2] at this; omega)
    have hst := St.fr (H.st.fr hF2 (by simp)) hf3 (fun hb => by have := hF _ hb; rw [H.tst] at this; omega)
    have hsr := (H.src.row.fr hF2 (by simp)).fr hf3 (fun hb => by have := hF _ hb; rw [H.src.tag] at this; omega)
    have hhr := (H.hom.row.fr hF2 (by simp)).fr hf3 (fun hb => by have := hF _ hb; rw [H.hom.tag] at this; omega)
    exact ⟨⟨hst.c3, hst.c4⟩, ⟨by rw [hp.cell]; rfl, by rw [hp.cell]; rfl⟩, by rw [hsr.cell, rowF_at hh, hms], by rw [hhr.cell, rowF_at hs, hmh]⟩
  have HK := hide hlt
  have HM := hide H.kn.mp
  have HF2 := hide hF2
  have HR := hide H
  have HMs := hide hms
  have HMh := hide hmh
  have HN := hide hn
  clear H hlt hF2 hms hmh htp hn
  subst hw2
  go_enter Tryd.func32, Tryd.ntmps32
  go_wp2_with fail
  refine region_tail 5 (by kernel_rfl) (by kernel_rfl) ?_
  simp only [List.take_succ_cons, List.take_zero, List.drop_succ_cons, List.drop_zero]
  repeat still_step
  refine wpStill_nil ?_
  go_wp2_with (at_delete; refine list_of rfl fun K hK => wp_drop (key := pairV h s) _ _ 55 rfl Tryd.pairLaw Tryd.underlying55 HM.out (((Fr.refl _ _).alloc _).drew) rfl rfl HK.out ?_; intro w3 hM hF3 hL; refine hK _ _ ?_)
  have hC3 := HC.out w3 _ hF3.out (fun b hb => by simp at hb; subst hb; left; rw [HR.out.kn.tag])
  obtain ⟨⟨e3, e4⟩, ⟨e0, e1⟩, es, eh⟩ := hC3
  have hX3 : Ix w3 tg 6 sB n (fun h s => σ.way h s ≠ 0) Vs := (HR.out.src.fr HF2.out (fun _ hb => by cases hb) (TgUp.refl _ _)).fr hF3.out (fun b hb => by simp at hb; subst hb; rw [HR.out.kn.tag]; decide) (TgUp.refl _ _)
  have hY3 : Ix w3 tg 7 hB n (fun s h => σ.way h s ≠ 0) Vh := (HR.out.hom.fr HF2.out (fun _ hb => by cases hb) (TgUp.refl _ _)).fr hF3.out (fun b hb => by simp at hb; subst hb; rw [HR.out.kn.tag]; decide) (TgUp.refl _ _)
  have HX3 := hide hX3
  have HY3 := hide hY3
  clear hX3 hY3 c2
  refine region_tail 10 (by kernel_rfl) (by kernel_rfl) ?_
  simp only [List.take_succ_cons, List.take_zero, List.drop_succ_cons, List.drop_zero]
  repeat still_step
  refine wpStill_nil ?_
  go_wp2_with (at_delete; refine list_of rfl fun K hK => wp_drop_ix _ _ rfl HX3.out ((Fr.refl _ _).drew) (by decide) hh HMs.out rfl rfl (by have := HN.out; omega) ?_; intro w4 F4 hX4 hF4 hT4 hL4; refine hK _ _ ?_)
  have hF24 : Fr (kb :: F4) (w.alloc (.cells #[.int .i64 (h : Int), .int .i64 (s : Int)] 76)).drew w4 := ((hF3.out.drew).mono (G := kb :: F4) (fun x hx => .inl (by simp at hx; simp [hx]))).trans hF4.out (fun x hx => .inl (List.mem_cons_of_mem _ hx))
  have hK4 : ∀ b, b ∈ kb :: F4 → (tg b).1 = 2 ∨ (tg b).1 = 6 ∨ (tg b).1 = 7 := fun b hb => by
    rcases List.mem_cons.1 hb with rfl | hb
    · left; rw [HR.out.kn.tag]
    · right; left; rw [hT4.out b hb]
  have hC4 := HC.out w4 _ hF24 hK4
  have HF24 := hide hF24
  have HK4 := hide hK4
  clear e3 e4 e0 e1 es eh hF24 hK4
  obtain ⟨⟨e3, e4⟩, ⟨e0, e1⟩, es, eh⟩ := hC4
  have HY4 := hide ((HY3.out.fr ((Fr.refl [] w3).drew) (fun _ hb => by cases hb) (TgUp.refl _ _)).fr hF4.out (fun b hb => by rw [hT4.out b hb]; simp) (TgUp.refl _ _))
  have hF25 : Hid (∀ w5 F5, Fr F5 w4.drew w5 → (∀ b, b ∈ F5 → tg b = (7, s, 0)) → Fr (kb :: (F4 ++ F5)) (w.alloc (.cells #[.int .i64 (h : Int), .int .i64 (s : Int)] 76)).drew w5 ∧ ∀ b, b ∈ kb :: (F4 ++ F5) → (tg b).1 = 2 ∨ (tg b).1 = 6 ∨ (tg b).1 = 7) := fun w5 F5 hF5 hT5 => by
    refine ⟨((HF24.out.drew).mono (G := kb :: (F4 ++ F5)) (fun x hx => .inl ?_)).trans hF5 (fun x hx => .inl (by simp [hx])), fun b hb => ?_⟩
    · rcases List.mem_cons.1 hx with rfl | hx
      · exact List.mem_cons_self ..
      · exact List.mem_cons_of_mem _ (List.mem_append_left _ hx)
    · rcases List.mem_cons.1 hb with rfl | hb
      · left; rw [HR.out.kn.tag]
      · rcases List.mem_append.1 hb with hb | hb
        · right; left; rw [hT4.out b hb]
        · right; right; rw [hT5 b hb]
  have HLv : Hid (∀ w5 F5, Fr F5 w4.drew w5 → (∀ b, b ∈ F5 → tg b = (7, s, 0)) → Calls Tryd.prog 45 #[.pointer (some ⟨sb, 0, none⟩), .agg #[.int .i64 (h : Int), .int .i64 (s : Int)]] w5 (FinPost w5 tg fB n (fun a b => σ.way a b = 2 ∧ ¬ (a = h ∧ b = s)))) := fun w5 F5 hF5 hT5 =>
    leaveFine_any (St.fr (HR.out.st.fr HF2.out (by simp)) (hF25.out w5 F5 hF5 hT5).1 (fun hb => by have := (hF25.out w5 F5 hF5 hT5).2 _ hb; rw [HR.out.tst] at this; omega)) HR.out.tst ((HR.out.fin.fr HF2.out (fun _ hb => by cases hb) (TgUp.refl _ _)).fr (hF25.out w5 F5 hF5 hT5).1 (fun b hb => by have := (hF25.out w5 F5 hF5 hT5).2 _ hb; omega) (TgUp.refl _ _)) HN.out hh
  refine region_tail 10 (by kernel_rfl) (by kernel_rfl) ?_
  simp only [List.take_succ_cons, List.take_zero, List.drop_succ_cons, List.drop_zero]
  repeat still_step
  refine wpStill_nil ?_
  go_wp2_with (first | (at_delete; refine list_of rfl fun K hK => wp_drop_ix _ _ rfl HY4.out ((Fr.refl _ _).drew) (by decide) hs HMh.out rfl rfl (by have := HN.out; omega) ?_; intro w5 F5 hY5 hF5 hT5 hL5; have g0 := (HC.out w5 _ (hF25.out w5 F5 hF5.out hT5.out).1 (hF25.out w5 F5 hF5.out hT5.out).2).2.1.1; have g1 := (HC.out w5 _ (hF25.out w5 F5 hF5.out hT5.out).1 (hF25.out w5 F5 hF5.out hT5.out).2).2.1.2; have HLw := hide (HLv.out w5 F5 hF5.out hT5.out); refine hK _ _ ?_) | (go_at_call 45; refine HLw.out.mono ?_; rintro e w6 ⟨Vf', F6, rfl, hfi, hf6, hF6⟩))
  have HF25 := hide (hF25.out w5 F5 hF5.out hT5.out).1
  have HK5 := hide (hF25.out w5 F5 hF5.out hT5.out).2
  go_end0
  have hF06 : Fr ((kb :: (F4 ++ F5)) ++ F6) w w6 := (((HF2.out.mono (G := (kb :: (F4 ++ F5)) ++ F6) (fun _ hx => by cases hx)).trans HF25.out (fun x hx => .inl (List.mem_append_left _ hx)))).trans hf6 (fun x hx => .inl (List.mem_append_right _ hx))
  have hK6 : ∀ b, b ∈ (kb :: (F4 ++ F5)) ++ F6 → (tg b).1 = 2 ∨ (tg b).1 = 6 ∨ (tg b).1 = 7 ∨ (tg b).1 = 5 ∨ (tg b).1 = 8 := fun b hb => by
    rcases List.mem_append.1 hb with hb | hb
    · have := HK5.out b hb; omega
    · have := hF6 b hb; omega
  have hkn3 := (HR.out.kn.fr HF2.out (fun _ hb => by cases hb) (TgUp.refl _ _)).off hM.out hF3.out
  have hkn6 := (((hkn3.fr ((Fr.refl [] w3).drew) (fun _ hb => by cases hb) (TgUp.refl _ _)).fr hF4.out (fun b hb => by rw [hT4.out b hb]; simp) (TgUp.refl _ _)).fr (w' := w5) (F := F5) (((Fr.refl F5 w4).drew).trans_same hF5.out) (fun b hb => by rw [hT5.out b hb]; simp) (TgUp.refl _ _)).fr hf6 (fun b hb => by have := hF6 b hb; omega) (TgUp.refl _ _)
  have hX6 := (hX4.out.fr (w' := w5) (F := F5) (((Fr.refl F5 w4).drew).trans_same hF5.out) (fun b hb => by rw [hT5.out b hb]; simp) (TgUp.refl _ _)).fr hf6 (fun b hb => by have := hF6 b hb; omega) (TgUp.refl _ _)
  have hY6 := hY5.out.fr hf6 (fun b hb => by have := hF6 b hb; omega) (TgUp.refl _ _)
  refine ⟨_, Vf', _, rfl, ⟨HR.out.ok.put (fun h => absurd rfl h) (fun c _ h => by cases h), HR.out.st.fr hF06 (fun hb => by have := hK6 _ hb; rw [HR.out.tst] at this; omega), HR.out.tst, fun b hb => Nat.lt_of_lt_of_le (HR.out.tok b hb) hF06.size, hkn6,
    hX6.congr fun a _ c _ => ?_, hY6.congr fun a _ c _ => ?_, hfi.congr fun a _ c _ => ?_⟩, hF06, fun b hb => by have := hK6 b hb; omega, fun b hb => ?_, fun b hb => ?_⟩
  · by_cases e : a = h ∧ c = s
    · obtain ⟨rfl, rfl⟩ := e; simp [RS.way_at]
    · rw [RS.way_ne _ _ _ _ e]; simp [e]
  · by_cases e : c = h ∧ a = s
    · obtain ⟨rfl, rfl⟩ := e; simp [RS.way_at]
    · rw [RS.way_ne _ _ _ _ e]; simp [fun h1 h2 => e ⟨h2, h1⟩]; intro _ h1 h2; exact e ⟨h2, h1⟩
  · by_cases e : a = h ∧ c = s
    · obtain ⟨rfl, rfl⟩ := e; simp [RS.way_at]
    · rw [RS.way_ne _ _ _ _ e]; simp [e]
  · have hbt : ∃ f, Mp Tryd.prog 3 w b f ∧ tg b = (6, h, 0) := by
      rcases HR.out.src.own h hh with ⟨e, _⟩ | ⟨b', f, e, hm, ht, _⟩
      · rw [hb] at e; cases e
      · rw [hb] at e; cases e; exact ⟨f, hm, ht⟩
    obtain ⟨f, hm, ht⟩ := hbt
    have hm3 := (hm.fr0 HF2.out).fr hF3.out (fun h0 => by simp at h0; subst h0; rw [HR.out.kn.tag] at ht; cases ht)
    have l4 : Lost w3 w4 b (.int .i64 (s : Int)) := hL4.out b hb
    have l0 : Lost w w4 b (.int .i64 (s : Int)) := l4.before hm.lt (F := [kb]) ((HF2.out.mono (fun _ hx => by cases hx)).trans_same hF3.out) (fun h0 => by simp at h0; subst h0; rw [HR.out.kn.tag] at ht; cases ht)
    have s4 : b < w4.heap.size := Nat.lt_of_lt_of_le hm3.lt hF4.out.size
    have l5 := l0.fr s4 (w' := w5) (F := F5) (((Fr.refl F5 w4).drew).trans_same hF5.out) (fun h0 => by rw [hT5.out b h0] at ht; cases ht)
    exact l5.fr (Nat.lt_of_lt_of_le s4 (((Fr.refl F5 w4).drew).trans_same hF5.out).size) hf6 (fun h0 => by have := hF6 b h0; rw [ht] at this; omega)
  · have hbt : ∃ f, Mp Tryd.prog 3 w b f ∧ tg b = (7, s, 0) := by
      rcases HR.out.hom.own s hs with ⟨e, _⟩ | ⟨b', f, e, hm, ht, _⟩
      · rw [hb] at e; cases e
      · rw [hb] at e; cases e; exact ⟨f, hm, ht⟩
    obtain ⟨f, hm, ht⟩ := hbt
    have hF02 : Fr (kb :: F4) w w4 := (HF2.out.mono (fun _ hx => by cases hx)).trans_same HF24.out
    have l4 : Lost w4 w5 b (.int .i64 (h : Int)) := hL5.out b hb
    have l0 : Lost w w5 b (.int .i64 (h : Int)) := l4.before hm.lt hF02 (fun h0 => by
      rcases List.mem_cons.1 h0 with rfl | h0
      · rw [HR.out.kn.tag] at ht; cases ht
      · rw [hT4.out b h0] at ht; cases ht)
    exact l0.fr (Nat.lt_of_lt_of_le hm.lt (Nat.le_trans hF02.size (((Fr.refl F5 w4).drew).trans_same hF5.out).size)) hf6 (fun h0 => by have := hF6 b h0; rw [ht] at this; omega)
end Go.Proofs.YtkbffmmomoeaiaaDoor
