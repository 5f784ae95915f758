/- Package remset: Clear. -/
import Derived.Test.YtkbffmmomoeaiaaDoorSf
namespace Go.Proofs.YtkbffmmomoeaiaaDoor
set_option linter.unusedVariables false
set_option linter.unusedSimpArgs false
open Go.RowKit Go.Gl

theorem mp_unique {P : Program} {k : TypeId} {w : World} {b : Nat} {f g : Value → Option Value} (h : Mp P k w b f) (h' : Mp P k w b g) : f = g := by
  obtain ⟨es, c, hb, E⟩ := h
  obtain ⟨es', c', hb', E'⟩ := h'
  rw [hb] at hb'
  cases hb'
  funext x
  cases hf : f x with
  | some v =>
    obtain ⟨e, he, rfl, rfl⟩ := E.ofF x v hf
    exact (E'.val e he).symm
  | none =>
    cases hg : g x with
    | none => rfl
    | some v =>
      obtain ⟨e, he, rfl, rfl⟩ := E'.ofF x v hg
      rw [E.val e he] at hf; cases hf
theorem wp_nextI {P : Program} {k : TypeId} {w : World} {b r cnt n : Nat} {f : Value → Option Value} {left : Value → Prop} {o : Oper} {a : Act} {K : Act → World → Prop} {Q : Exit → Act → World → Prop} (it : Operand) (hop : o.op = Op.next it false) (hit : a.eval it = .pointer (some ⟨r, 0, none⟩)) (h : Rng P k w b r f left cnt)
    (hks : ∀ x v, f x = some v → ∃ s : Nat, s < n ∧ x = .int .i64 (s : Int)) (hDone : Hid (∀ x v, f x = some v → ¬ left x) → K (a.put o.dst (.tuple #[.bool false])) w)
    (hMore : ∀ (s : Nat) v w' cnt', Hid (s < n) → Hid (f (.int .i64 (s : Int)) = some v) → Hid (left (.int .i64 (s : Int))) → Hid (Rng P k w' b r f (fun x => left x ∧ x ≠ .int .i64 (s : Int)) cnt') → Hid (cnt' < cnt) → Hid (Fr [r] w w') → (Instr.entry (.pointer (some ⟨r, 0, none⟩))).run P w' = .ok (.tuple #[.int .i64 (s : Int), v]) w' → K (a.put o.dst (.tuple #[.bool true, .int .i64 (s : Int), v])) w') : Oper.wp P o a w K Q :=
  wp_next it hop hit h (fun _ hd => hDone hd) fun key v w' cnt' hf hl hg hlt hF hen => by
    obtain ⟨s, hs, rfl⟩ := hks key v hf
    exact hMore s v w' cnt' hs hf hl hg hlt hF hen
def RS.clear (σ : RS) (h : Nat) : RS := ⟨fun a b => if a = h then 0 else σ.way a b, fun a c => if a = h then false else σ.has a c⟩
theorem RS.ext {σ τ : RS} (h1 : ∀ a b, σ.way a b = τ.way a b) (h2 : ∀ a c, σ.has a c = τ.has a c) : σ = τ := by
  cases σ; cases τ
  simp only [RS.mk.injEq]
  exact ⟨funext fun a => funext fun b => h1 a b, funext fun a => funext fun c => h2 a c⟩
theorem clear_nil (a : Int) (w : World) : Calls Tryd.prog 17 #[.pointer none, .int .i64 a] w fun e w' => e = .returned (.int .i64 1) ∧ w = w' := by
  go_enter Tryd.func17, Tryd.ntmps17
  go_wp2
  go_ret
  exact ⟨rfl, rfl⟩
def ClrPost (w : World) (tg : Tg) (sb kb sB hB fB per n : Nat) (σ σ' : RS) (Vs Vh : Nat → Value) (er : Int) (e : Ending) (w' : World) : Prop :=
  ∃ fk' Vf' F, e = .returned (.int .i64 er) ∧ Rs w' tg sb kb sB hB fB per n σ' fk' Vs Vh Vf' ∧ Fr F w w' ∧ ∀ b, b ∈ F → (tg b).1 ≠ 0
section
variable {w : World} {tg : Tg} {sb kb sB hB fB per n : Nat} {σ : RS} {fk : Value → Option Value} {Vs Vh Vf : Nat → Value}
theorem clear_bad (H : Rs w tg sb kb sB hB fB per n σ fk Vs Vh Vf) {a : Int} (ha : ¬ (0 ≤ a ∧ a < (n : Int))) : Calls Tryd.prog 17 #[.pointer (some ⟨sb, 0, none⟩), .int .i64 a] w (ClrPost w tg sb kb sB hB fB per n σ σ Vs Vh 2) := by
  have HR := hide (isRegion_any H.st H.ok.dim a)
  have hd : decide (0 ≤ a ∧ a < (n : Int)) = false := decide_eq_false ha
  rw [hd] at HR
  have H1 := hide H
  clear H ha hd
  go_enter Tryd.func17, Tryd.ntmps17
  go_wp2_with (go_at_call 26; refine HR.out.mono ?_; rintro e w' ⟨rfl, rfl⟩)
  go_ret
  exact ⟨_, _, [], rfl, H1.out, Fr.refl _ _, fun _ hb => by cases hb⟩
/-- The state of the loop: what has been forgotten. -/
structure Half (per h : Nat) (σ τ : RS) : Prop where
  way : ∀ a b, a ≠ h → τ.way a b = σ.way a b
  has : ∀ a c, a ≠ h → τ.has a c = σ.has a c
set_option maxRecDepth 100000 in
set_option maxHeartbeats 1600000 in
theorem clear_any (H : Rs w tg sb kb sB hB fB per n σ fk Vs Vh Vf) {h : Nat} (hh : h < n) : Calls Tryd.prog 17 #[.pointer (some ⟨sb, 0, none⟩), .int .i64 (h : Int)] w (ClrPost w tg sb kb sB hB fB per n σ (σ.clear h) Vs Vh 0) := by
  have hn := H.ok.dim.n2
  have HR := hide (isRegion_any H.st H.ok.dim (h : Int))
  have hd : decide ((0 : Int) ≤ (h : Int) ∧ (h : Int) < (n : Int)) = true := decide_eq_true (by omega)
  rw [hd] at HR
  have hh1 : (h : Int) < (n : Int) := by omega
  have c3 := H.st.c3
  have N0 : sb < w.heap.size := Blk.lt H.st
  have cr : w.cell? ⟨sB, h, none⟩ = some (Vs h) := by rw [H.src.row.cell, rowF_at hh]
  have hsh := H.src.own h hh
  have hend : ∀ τ : RS, Half per h σ τ → SOk per n τ → (∀ b, b < n → τ.way h b = 0) → τ = σ.clear h := fun τ hτ ok hz => RS.ext (fun a b => by
      by_cases e : a = h
      · subst e
        have : τ.way a b = 0 := by
          rcases Nat.eq_zero_or_pos (τ.way a b) with h0 | h0
          · exact h0
          · exact hz b (ok.rng a b (by omega)).2.1
        rw [this]; simp [RS.clear]
      · rw [hτ.way a b e]; simp [RS.clear, e]) (fun a c => by
      by_cases e : a = h
      · subst e
        have : τ.has a c = false := by
          cases hc : τ.has a c with
          | false => rfl
          | true =>
            have := ok.can a c hc
            have h2 := hz _ (ok.dim.div this.1)
            omega
        rw [this]; simp [RS.clear]
      · rw [hτ.has a c e]; simp [RS.clear, e])
  have HE := hide hend
  clear hd hend
  rcases hsh with ⟨hv, hno⟩ | ⟨b, f, hv, hm, ht, hfs, hfp⟩
  · rw [hv] at cr
    have HNo := hide hno
    have H1 := hide H
    have hrn := run_range_nilMap (P := Tryd.prog) w 72 3 73 Tryd.underlying72
    have hnx := fun ty => run_next_nilMap (P := Tryd.prog) w ty 0 0 #[]
    clear H hv hno
    go_enter Tryd.func17, Tryd.ntmps17
    go_wp2_with (go_at_call 26; refine HR.out.mono ?_; rintro e w' ⟨rfl, rfl⟩)
    go_loopw [5] (fun _ wr => wr = w.alloc (.mapIter none 0 #[] 0)) (fun _ _ => 0)
    case atStart => rfl
    case round =>
      subst hrel
      go_wp2
      go_ret
      have hF : Fr [] w (w.alloc (.mapIter none 0 #[] 0)) := (Fr.refl _ _).alloc _
      have e := HE.out σ ⟨fun _ _ _ => rfl, fun _ _ _ => rfl⟩ H1.out.ok (fun b hb => by have := HNo.out b hb; omega)
      exact ⟨_, _, [], rfl, e ▸ H1.out.fr0 hF, hF, fun _ hb => by cases hb⟩
  · rw [hv] at cr
    have H1 := hide H
    have HV := hide hv
    have HM := hide hm
    have HT := hide ht
    have HFs := hide hfs
    have HFp := hide hfp
    have hr0 : (tg w.heap.size).1 = 0 := by
      rcases Nat.eq_zero_or_pos (tg w.heap.size).1 with h0 | h0
      · exact h0
      · exact absurd (H.tok _ (by omega)) (Nat.lt_irrefl _)
    have HR0 := hide hr0
    clear H hv hm ht hfs hfp hr0
    go_enter Tryd.func17, Tryd.ntmps17
    go_wp2_with (first | (go_at_call 26; refine HR.out.mono ?_; rintro e w' ⟨rfl, rfl⟩) | (at_range; refine list_of rfl fun K hK => wp_range _ 72 rfl Tryd.underlying72 rfl HM.out ?_; intro w1 cnt hg hF; refine hK _ _ ?_))
    go_frame
    go_loopw [5] (fun _ wr => ∃ τ fk' Vf' F f' left cnt, Rs wr tg sb kb sB hB fB per n τ fk' Vs Vh Vf' ∧ Half per h σ τ ∧ Rng Tryd.prog 3 wr b w.heap.size f' left cnt ∧ (∀ x v, f' x = some v → left x) ∧ Fr F w wr ∧ ∀ y, y ∈ F → (tg y).1 ≠ 0) (fun _ wr => rngLeft wr b w.heap.size)
    case atStart => exact ⟨σ, fk, Vf, [], f, _, cnt, H1.out.fr0 hF.out, ⟨fun _ _ _ => rfl, fun _ _ _ => rfl⟩, hg.out, fun _ _ _ => trivial, hF.out, fun _ hb => by cases hb⟩
    case round =>
      obtain ⟨τ, fk', Vf', F, f', left, cnt, hr, hτ, hg, hl, hF, hFt⟩ := hrel
      have hsh : (∀ x v, f' x = some v → ∃ s : Nat, s < n ∧ x = .int .i64 (s : Int)) ∧ ∀ s : Nat, s < n → (f' (.int .i64 (s : Int)) ≠ none ↔ τ.way h s ≠ 0) := by
        rcases hr.src.own h hh with ⟨e, _⟩ | ⟨b', f2, e, hm2, _, h3, h4⟩
        · rw [HV.out] at e; cases e
        · rw [HV.out] at e
          cases e
          obtain rfl := mp_unique hm2 hg.mp
          exact ⟨h3, h4⟩
      have HG := hide hg
      have HRs := hide hr
      have Hτ := hide hτ
      have HL := hide hl
      have HF := hide hF
      have HFt := hide hFt
      have HK := hide hsh.1
      have HKw := hide hsh.2
      have HC : Hid (∀ (s : Nat) w2, s < n → Fr [w.heap.size] wr w2 → Calls Tryd.prog 32 #[.pointer (some ⟨sb, 0, none⟩), .agg #[.int .i64 (h : Int), .int .i64 (s : Int)]] w2 (ForPost w2 tg sb kb sB hB fB per n h s τ Vs Vh)) := fun s w2 hs hf2 => forget_any (hr.fr hf2 (fun y hy => by simp at hy; subst hy; exact HR0.out)) hh hs
      clear hr hτ hg hl hF hFt hsh
      go_wp2_with (first | (at_next; refine list_of rfl fun K hK => wp_nextI _ rfl rfl HG.out HK.out (fun hd => hK _ _ ?_) (fun s v w2 cnt2 hs hf hlk hg2 hlt hF2 hen => hK _ _ ?_)) | (go_at_call 32; refine (HC.out s w2 hs.out hF2.out).mono ?_; rintro e w3 ⟨fk2, Vf2, F2, rfl, hr3, hF3, hF3t, hL1, hL2⟩; have HRs3 := hide hr3; have HF3 := hide hF3; have HF3t := hide hF3t; have HL1 := hide hL1; clear hr3 hF3 hF3t hL1 hL2))
      · go_ret
        have hz : ∀ x, x < n → τ.way h x = 0 := fun x hx => by
          rcases Nat.eq_zero_or_pos (τ.way h x) with h0 | h0
          · exact h0
          · obtain ⟨v, hv⟩ := Option.ne_none_iff_exists'.1 ((HKw.out x hx).2 (by omega))
            exact absurd (HL.out _ _ hv) (hd.out _ _ hv)
        exact ⟨fk', Vf', F, rfl, HE.out τ Hτ.out HRs.out.ok hz ▸ HRs.out, HF.out, HFt.out⟩
      · have hsh3 : ∃ f3, Mp Tryd.prog 3 w3 b f3 ∧ (∀ x v, f3 x = some v → ∃ s : Nat, s < n ∧ x = .int .i64 (s : Int)) ∧ ∀ y : Nat, y < n → (f3 (.int .i64 (y : Int)) ≠ none ↔ (τ.put per h s 0 (fun _ => false)).way h y ≠ 0) := by
          rcases HRs3.out.src.own h hh with ⟨e, _⟩ | ⟨b', f2, e, hm2, _, h3, h4⟩
          · rw [HV.out] at e; cases e
          · rw [HV.out] at e
            cases e
            exact ⟨f2, hm2, h3, h4⟩
        obtain ⟨f3, hm3, hk3, hw3⟩ := hsh3
        have hrt : w.heap.size ∉ F2 := fun h0 => HF3t.out _ h0 HR0.out
        obtain ⟨cnt3, hg3, hle⟩ := hg2.out.lost (HL1.out b HV.out) hm3 HF3.out hrt
        have hmeas : rngLeft w3 b w.heap.size < rngLeft wr b w.heap.size := by
          rw [hg3.left_eq, HG.out.left_eq]
          have := hlt.out
          omega
        refine ⟨⟨_, _, _, F ++ F2, f3, _, cnt3, HRs3.out, ⟨fun a c e => ?_, fun a c e => ?_⟩, hg3, fun x v hx => ?_, ?_, fun y hy => ?_⟩, hmeas⟩
        · rw [RS.way_ne _ _ _ _ (fun e2 => e e2.1)]; exact Hτ.out.way a c e
        · rw [RS.has_ne _ _ _ _ (fun e2 => e e2.1)]; exact Hτ.out.has a c e
        · obtain ⟨y, hy, rfl⟩ := hk3 x v hx
          have h5 := (hw3 y hy).1 (by rw [hx]; simp)
          have hys : y ≠ s := fun e => by subst e; exact h5 (RS.way_at ..)
          rw [RS.way_ne _ _ _ _ (fun e2 => hys e2.2)] at h5
          obtain ⟨v', hv'⟩ := Option.ne_none_iff_exists'.1 ((HKw.out y hy).2 h5)
          exact ⟨HL.out _ _ hv', by simp; omega⟩
        · exact ((HF.out.mono (G := F ++ F2) (fun x hx => .inl (List.mem_append_left _ hx))).trans hF2.out (fun x hx => .inr (by simp at hx; omega))).trans HF3.out (fun x hx => .inl (List.mem_append_right _ hx))
        · rcases List.mem_append.1 hy with hy | hy
          · exact HFt.out y hy
          · exact HF3t.out y hy
end
end Go.Proofs.YtkbffmmomoeaiaaDoor
