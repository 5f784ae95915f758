/- Package remset: leaveFine, makeCoarse. -/
import Derived.Test.YtkbffmmomoeaiaaDoorSx
import Derived.Test.YtkbffmmomoeaiaaDoorSd
import Derived.Test.YtkbffmmomoeaiaaDoorSk
namespace Go.Proofs.YtkbffmmomoeaiaaDoor
set_option linter.unusedVariables false
set_option linter.unusedSimpArgs false
open Go.RowKit Go.Gl

theorem nodup_ints {l : List Nat} {s : Nat} : (ints l).filter (fun x => !decide (x = (s : Int))) = ints (l.filter fun x => !decide (x = s)) := by
  unfold ints
  rw [List.filter_map]
  congr 1
  apply List.filter_congr
  intro x _
  have : ((x : Int) = (s : Int)) ↔ x = s := by omega
  simp [this]
def FinPost (w : World) (tg : Tg) (fB n : Nat) (p : Nat → Nat → Prop) (e : Ending) (w' : World) : Prop :=
  ∃ V' F, e = .returned (.tuple #[]) ∧ Fi w' tg fB n p V' ∧ Fr F w w' ∧ ∀ b, b ∈ F → (tg b).1 = 5 ∨ (tg b).1 = 8
set_option maxRecDepth 100000 in
set_option maxHeartbeats 1000000 in
theorem leaveFine_any {w : World} {tg : Tg} {sb kb sB hB fB per n h s : Nat} {p : Nat → Nat → Prop} {V : Nat → Value} (hst : St w sb kb sB hB fB per n) (hsb : tg sb = (1, 0, 0)) (hf : Fi w tg fB n p V) (hn : n ≤ 65536) (hh : h < n) :
    Calls Tryd.prog 45 #[.pointer (some ⟨sb, 0, none⟩), .agg #[.int .i64 (h : Int), .int .i64 (s : Int)]] w (FinPost w tg fB n (fun a b => p a b ∧ ¬ (a = h ∧ b = s))) := by
  obtain ⟨A, c, G, l, hv, hl, hG, hnd, hmem⟩ := hf.own h hh
  have hll : l.length ≤ 65536 := Nat.le_trans (nodup_below n l hnd (fun x hx => ((hmem x).1 hx).1)) hn
  have hh1 : (h : Int) < (n : Int) := by omega
  have hFB : fB ∉ G := fun hg => by have := hG _ hg; rw [hf.tag] at this; cases this
  have hSB : sb ∉ G := fun hg => by have := hG _ hg; rw [hsb] at this; cases this
  have N0 : sb < w.heap.size := Blk.lt hst
  have N1 : fB < w.heap.size := hf.row.lt
  have hPG : w.heap.size ∉ G := fun hg => by have := hl.lt _ hg; omega
  obtain ⟨w2, hw2⟩ : ∃ w2, w2 = (w.alloc (.cells #[.int .i64 (h : Int), .int .i64 (s : Int)] 76)).drew := ⟨_, rfl⟩
  have hF2 : Fr [] w w2 := hw2 ▸ ((Fr.refl _ _).alloc _).drew
  have hpb : Blk w2 w.heap.size 76 #[.int .i64 (h : Int), .int .i64 (s : Int)] := by rw [hw2]; exact (Blk.new w _ _).drew
  have hl2 := hl.fr0 hF2
  have hli : (ints l).length = l.length := ints_len l
  have HD1 : Hid (Calls Tryd.prog 58 #[.slice A l.length c, .func (.func 59) #[] #[.pointer (some ⟨w.heap.size, 0, none⟩)]] w2 fun e w' => ∃ k, k = ((ints l).filter fun x => !decide (x = (s : Int))).length ∧ e = .returned (.slice A k c) ∧ Lr w' 3 A k c G (zv ((ints l).filter fun x => !decide (x = (s : Int)))) ∧ Fr G w2 w') := by
    have := delete_lr (s := (s : Int)) (by rw [hli]; exact hl2) (by rw [hpb.cell]; rfl) hPG (by rw [hli]; omega)
    rw [hli] at this; exact this
  have HC : Hid (∀ w', Fr G w2 w' → (w'.cell? ⟨sb, 5, none⟩ = some (.slice (some ⟨fB, 0, none⟩) n n) ∧ w'.cell? ⟨w.heap.size, 0, none⟩ = some (.int .i64 (h : Int)) ∧ w'.cell? ⟨w.heap.size, 1, none⟩ = some (.int .i64 (s : Int))) ∧
      (∀ v, (w'.setCell ⟨fB, h, none⟩ v).cell? ⟨sb, 5, none⟩ = some (.slice (some ⟨fB, 0, none⟩) n n) ∧ (w'.setCell ⟨fB, h, none⟩ v).cell? ⟨w.heap.size, 0, none⟩ = some (.int .i64 (h : Int)) ∧ (w'.setCell ⟨fB, h, none⟩ v).cell? ⟨w.heap.size, 1, none⟩ = some (.int .i64 (s : Int))) ∧
      w'.cell? ⟨fB, h, none⟩ = some (V h) ∧ w'.frozen? ⟨fB, h, none⟩ = false ∧ Blk w' fB 37 (rowF n V)) := fun w' hfr => by
    have hp' := hpb.fr hfr hPG
    have hs' := St.fr (hst.fr hF2 (by simp)) hfr hSB
    have hb' := (hf.row.fr hF2 (by simp)).fr hfr hFB
    have hsf : sb ≠ fB := fun e => by rw [e, hf.tag] at hsb; cases hsb
    refine ⟨⟨hs'.c5, by rw [hp'.cell]; rfl, by rw [hp'.cell]; rfl⟩, fun v => ⟨St.c5 (Blk.far hs' (p := ⟨fB, h, none⟩) hsf v), ?_, ?_⟩, by rw [hb'.cell, rowF_at hh], hb'.frozen h, hb'⟩
    · rw [(hp'.far (p := ⟨fB, h, none⟩) (by show w.heap.size ≠ fB; omega) v).cell]; rfl
    · rw [(hp'.far (p := ⟨fB, h, none⟩) (by show w.heap.size ≠ fB; omega) v).cell]; rfl
  have K0 := hide (HC.out w2 (Fr.refl _ _)).1
  have c5 := hst.c5
  have cf : w.cell? ⟨fB, h, none⟩ = some (V h) := by rw [hf.row.cell, rowF_at hh]
  have ff := hf.row.frozen h
  rw [hv] at cf
  have H := hide hf
  have HV := hide hv
  have HG := hide hG
  have HMem := hide hmem
  have HND := hide hnd
  have HF2 := hide hF2
  clear hst hf hv hl hl2 hG hmem hnd hF2 hpb hli
  subst hw2
  go_enter Tryd.func45, Tryd.ntmps45
  go_wp2_with fail
  refine wp_region_held_drew (S := fun w' => w'.cell? ⟨sb, 5, none⟩ = some (.slice (some ⟨fB, 0, none⟩) n n) ∧ w'.cell? ⟨w.heap.size, 0, none⟩ = some (.int .i64 (h : Int)) ∧ w'.cell? ⟨w.heap.size, 1, none⟩ = some (.int .i64 (s : Int))) (by kernel_rfl) (K0.out) (fun hHeld => ?_)
  refine wpAnyH_take (i := 0) (v := ?v0) rfl (by kernel_rfl) (by kernel_rfl) (by kernel_rfl) (fun _ _ _ h => h) (Or.inl ⟨by rfl, ?hy0⟩) (by assumption) ?rest0
  case hy0 => (intro w' hSw; (try dsimp only at hSw); (try simp only [List.getElem_toArray, List.getElem_cons_succ, List.getElem_cons_zero]); (first | (go_simp; done) | (go_simp; with_reducible rfl)))
  (try simp only [Act.put, List.getElem_toArray, List.getElem_cons_succ, List.getElem_cons_zero, List.setIfInBounds_toArray, List.set_cons_zero, List.set_cons_succ])
  refine wpAnyH_take (i := 1) (v := ?v1) rfl (by kernel_rfl) (by kernel_rfl) (by kernel_rfl) (fun _ _ _ h => h) (Or.inl ⟨by rfl, ?hy1⟩) (by assumption) ?rest1
  case hy1 => (intro w' hSw; (try dsimp only at hSw); (try simp only [List.getElem_toArray, List.getElem_cons_succ, List.getElem_cons_zero]); (first | (go_simp; done) | (go_simp; with_reducible rfl)))
  (try simp only [Act.put, List.getElem_toArray, List.getElem_cons_succ, List.getElem_cons_zero, List.setIfInBounds_toArray, List.set_cons_zero, List.set_cons_succ])
  refine wpAnyH_take (i := 2) (v := ?v2) rfl (by kernel_rfl) (by kernel_rfl) (by kernel_rfl) (fun _ _ _ h => h) (Or.inl ⟨by rfl, ?hy2⟩) (by assumption) ?rest2
  case hy2 => (intro w' hSw; (try dsimp only at hSw); (try simp only [List.getElem_toArray, List.getElem_cons_succ, List.getElem_cons_zero]); (first | (go_simp; done) | (go_simp; with_reducible rfl)))
  (try simp only [Act.put, List.getElem_toArray, List.getElem_cons_succ, List.getElem_cons_zero, List.setIfInBounds_toArray, List.set_cons_zero, List.set_cons_succ])
  refine wpAnyH_take (i := 3) (v := ?v3) rfl (by kernel_rfl) (by kernel_rfl) (by kernel_rfl) (fun _ _ _ h => h) (Or.inl ⟨by rfl, ?hy3⟩) (by assumption) ?rest3
  case hy3 => (intro w' hSw; (try dsimp only at hSw); (try simp only [List.getElem_toArray, List.getElem_cons_succ, List.getElem_cons_zero]); (first | (go_simp; done) | (go_simp; with_reducible rfl)))
  (try simp only [Act.put, List.getElem_toArray, List.getElem_cons_succ, List.getElem_cons_zero, List.setIfInBounds_toArray, List.set_cons_zero, List.set_cons_succ])
  refine wpAnyH_take (i := 4) (v := ?v4) rfl (by kernel_rfl) (by kernel_rfl) (by kernel_rfl) (fun _ _ _ h => h) (Or.inl ⟨by rfl, ?hy4⟩) (by assumption) ?rest4
  case hy4 => (intro w' hSw; (try dsimp only at hSw); (try simp only [List.getElem_toArray, List.getElem_cons_succ, List.getElem_cons_zero]); (first | (go_simp; done) | (go_simp; with_reducible rfl)))
  (try simp only [Act.put, List.getElem_toArray, List.getElem_cons_succ, List.getElem_cons_zero, List.setIfInBounds_toArray, List.set_cons_zero, List.set_cons_succ])
  refine wpAnyH_take (i := 5) (v := ?v5) rfl (by kernel_rfl) (by kernel_rfl) (by kernel_rfl) (fun _ _ _ h => h) (Or.inl ⟨by rfl, ?hy5⟩) (by assumption) ?rest5
  case hy5 => (intro w' hSw; (try dsimp only at hSw); (try simp only [List.getElem_toArray, List.getElem_cons_succ, List.getElem_cons_zero]); (first | (go_simp; done) | (go_simp; with_reducible rfl)))
  (try simp only [Act.put, List.getElem_toArray, List.getElem_cons_succ, List.getElem_cons_zero, List.setIfInBounds_toArray, List.set_cons_zero, List.set_cons_succ])
  refine wpAnyH_take (i := 6) (v := ?v6) rfl (by kernel_rfl) (by kernel_rfl) (by kernel_rfl) (fun _ _ _ h => h) (Or.inl ⟨by rfl, ?hy6⟩) (by assumption) ?rest6
  case hy6 => (intro w' hSw; (try dsimp only at hSw); (try simp only [List.getElem_toArray, List.getElem_cons_succ, List.getElem_cons_zero]); (first | (go_simp; done) | (go_simp; with_reducible rfl)))
  (try simp only [Act.put, List.getElem_toArray, List.getElem_cons_succ, List.getElem_cons_zero, List.setIfInBounds_toArray, List.set_cons_zero, List.set_cons_succ])
  refine wpAnyH_take (i := 7) (v := ?v7) rfl (by kernel_rfl) (by kernel_rfl) (by kernel_rfl) (fun _ _ _ h => h) (Or.inl ⟨by rfl, ?hy7⟩) (by assumption) ?rest7
  case hy7 => (intro w' hSw; (try dsimp only at hSw); (try simp only [List.getElem_toArray, List.getElem_cons_succ, List.getElem_cons_zero]); (first | (go_simp; done) | (go_simp; with_reducible rfl)))
  (try simp only [Act.put, List.getElem_toArray, List.getElem_cons_succ, List.getElem_cons_zero, List.setIfInBounds_toArray, List.set_cons_zero, List.set_cons_succ])
  refine wpAnyH_take (i := 8) (v := ?v8) rfl (by kernel_rfl) (by kernel_rfl) (by kernel_rfl) (fun _ _ _ h => h) (Or.inl ⟨by rfl, ?hy8⟩) (by assumption) ?rest8
  case hy8 => (intro w' hSw; (try dsimp only at hSw); (try simp only [List.getElem_toArray, List.getElem_cons_succ, List.getElem_cons_zero]); (first | (go_simp; done) | (go_simp; with_reducible rfl)))
  (try simp only [Act.put, List.getElem_toArray, List.getElem_cons_succ, List.getElem_cons_zero, List.setIfInBounds_toArray, List.set_cons_zero, List.set_cons_succ])
  refine wpAnyH_take (i := 9) (v := ?v9) rfl (by kernel_rfl) (by kernel_rfl) (by kernel_rfl) (fun _ _ _ h => h) (Or.inl ⟨by rfl, ?hy9⟩) (by assumption) ?rest9
  case hy9 => (intro w' hSw; (try dsimp only at hSw); (try simp only [List.getElem_toArray, List.getElem_cons_succ, List.getElem_cons_zero]); (first | (go_simp; done) | (go_simp; with_reducible rfl)))
  (try simp only [Act.put, List.getElem_toArray, List.getElem_cons_succ, List.getElem_cons_zero, List.setIfInBounds_toArray, List.set_cons_zero, List.set_cons_succ])
  refine wpAnyH_take (i := 10) (v := ?v10) rfl (by kernel_rfl) (by kernel_rfl) (by kernel_rfl) (fun _ _ _ h => h) (Or.inl ⟨by rfl, ?hy10⟩) (by assumption) ?rest10
  case hy10 => (intro w' hSw; (try dsimp only at hSw); (try simp only [List.getElem_toArray, List.getElem_cons_succ, List.getElem_cons_zero]); (first | (go_simp; done) | (go_simp; with_reducible rfl)))
  (try simp only [Act.put, List.getElem_toArray, List.getElem_cons_succ, List.getElem_cons_zero, List.setIfInBounds_toArray, List.set_cons_zero, List.set_cons_succ])
  refine wpAnyH_take (i := 11) (v := ?v11) rfl (by kernel_rfl) (by kernel_rfl) (by kernel_rfl) (fun _ _ _ h => h) (Or.inl ⟨by rfl, ?hy11⟩) (by assumption) ?rest11
  case hy11 => (intro w' hSw; (try dsimp only at hSw); (try simp only [List.getElem_toArray, List.getElem_cons_succ, List.getElem_cons_zero]); (first | (go_simp; done) | (go_simp; with_reducible rfl)))
  (try simp only [Act.put, List.getElem_toArray, List.getElem_cons_succ, List.getElem_cons_zero, List.setIfInBounds_toArray, List.set_cons_zero, List.set_cons_succ])
  refine wpAnyH_take (i := 12) (v := ?v12) rfl (by kernel_rfl) (by kernel_rfl) (by kernel_rfl) (fun _ _ _ h => h) (Or.inl ⟨by rfl, ?hy12⟩) (by assumption) ?rest12
  case hy12 => (intro w' hSw; (try dsimp only at hSw); (try simp only [List.getElem_toArray, List.getElem_cons_succ, List.getElem_cons_zero]); (first | (go_simp; done) | (go_simp; with_reducible rfl)))
  (try simp only [Act.put, List.getElem_toArray, List.getElem_cons_succ, List.getElem_cons_zero, List.setIfInBounds_toArray, List.set_cons_zero, List.set_cons_succ])
  refine wpAnyH_take (i := 14) (v := ?v14) rfl (by kernel_rfl) (by kernel_rfl) (by kernel_rfl) (fun _ _ _ h => h) (Or.inl ⟨by rfl, ?hy14⟩) (by assumption) ?rest14
  case hy14 => (intro w' hSw; (try dsimp only at hSw); (try simp only [List.getElem_toArray, List.getElem_cons_succ, List.getElem_cons_zero]); (first | (go_simp; done) | (go_simp; with_reducible rfl)))
  (try simp only [Act.put, List.getElem_toArray, List.getElem_cons_succ, List.getElem_cons_zero, List.setIfInBounds_toArray, List.set_cons_zero, List.set_cons_succ])
  refine wpAnyH_ready (rs := [13]) (by kernel_rfl) (by simp) ?_
  refine AllReadyH.cons rfl (fun K hK => ?_) AllReadyH.nil
  (try simp only [List.getElem_toArray, List.getElem_cons_succ, List.getElem_cons_zero])
  go_simp
  refine hK.out _ _ (K0.out) (fun hHeld => ?_)
  clear hK K
  (try simp only [Act.put, List.setIfInBounds_toArray, List.set_cons_zero, List.set_cons_succ])
  refine wpAnyH_ready (rs := [15]) (by kernel_rfl) (by simp) ?_
  refine AllReadyH.cons rfl (fun K hK => ?_) AllReadyH.nil
  (try simp only [List.getElem_toArray, List.getElem_cons_succ, List.getElem_cons_zero])
  go_simp
  (go_at_call 58; (with_reducible refine Calls.mono HD1.out ?_); rintro e w3 ⟨k, hk, rfl, hl3, hF3⟩; have HK := hide hk; have HL3 := hide hl3; have HF3 := hide hF3; have d3 := (HC.out w3 hF3).2.2.1; have d4 := (HC.out w3 hF3).2.2.2.1; have D5 := hide (HC.out w3 hF3).2.2.2.2; clear hk hl3 hF3)
  (try go_wp2_with fail)
  refine hK.out _ _ ((HC.out w3 HF3.out).1) (fun hHeld => ?_)
  clear hK K
  (try simp only [Act.put, List.setIfInBounds_toArray, List.set_cons_zero, List.set_cons_succ])
  refine wpAnyH_take (i := 16) (v := ?v16) rfl (by kernel_rfl) (by kernel_rfl) (by kernel_rfl) (fun _ _ _ h => h) (Or.inl ⟨by rfl, ?hy16⟩) (by assumption) ?rest16
  case hy16 => (intro w' hSw; (try dsimp only at hSw); (try simp only [List.getElem_toArray, List.getElem_cons_succ, List.getElem_cons_zero]); (first | (go_simp; done) | (go_simp; with_reducible rfl)))
  (try simp only [Act.put, List.getElem_toArray, List.getElem_cons_succ, List.getElem_cons_zero, List.setIfInBounds_toArray, List.set_cons_zero, List.set_cons_succ])
  refine wpAnyH_ready (rs := [17]) (by kernel_rfl) (by simp) ?_
  refine AllReadyH.cons rfl (fun K hK => ?_) AllReadyH.nil
  (try simp only [List.getElem_toArray, List.getElem_cons_succ, List.getElem_cons_zero])
  go_simp
  refine hK.out _ _ ((HC.out w3 HF3.out).2.1 _) (fun hHeld => ?_)
  clear hK K
  (try simp only [Act.put, List.setIfInBounds_toArray, List.set_cons_zero, List.set_cons_succ])
  refine wpAnyH_done (by kernel_rfl) ?_ _
  go_wp2_with fail
  go_end0
  have hFG : Fr (fB :: G) w w3 := (HF2.out.mono (fun _ hx => by cases hx)).trans HF3.out (fun x hx => .inl (List.mem_cons_of_mem _ hx))
  have hF4 : Fr (fB :: G) w (w3.setCell ⟨fB, h, none⟩ (.slice A k c)) := hFG.setCell (p := ⟨fB, h, none⟩) (.inl (by simp)) _
  have hF5 : Fr [fB] w3 (w3.setCell ⟨fB, h, none⟩ (.slice A k c)) := (Fr.refl _ _).setCell (p := ⟨fB, h, none⟩) (.inl (by simp)) _
  have hrow := D5.out.put h (.slice A k c)
  rw [rowF_set] at hrow
  have hlen : k = (l.filter fun x => !decide (x = s)).length := by rw [HK.out, nodup_ints, ints_len]
  have hFK : ∀ b, b ∈ fB :: G → (tg b).1 = 5 ∨ (tg b).1 = 8 := fun b hb => by
    rcases List.mem_cons.1 hb with rfl | hb
    · left; rw [H.out.tag]
    · right; rw [HG.out b hb]
  refine ⟨putF V h (.slice A k c), fB :: G, rfl, ⟨hrow, H.out.tag, fun r hr => ?_⟩, hF4, hFK⟩
  by_cases e : r = h
  · subst e
    rw [putF_at]
    have hl3 : Lr w3 3 A (l.filter fun x => !decide (x = s)).length c G (zv (ints (l.filter fun x => !decide (x = s)))) := by rw [← hlen, ← nodup_ints]; exact HL3.out
    refine ⟨A, c, G, _, by rw [hlen], hl3.fr hF5 (fun g hg hg2 => hFB (by simp at hg2; exact hg2 ▸ hg)), HG.out, HND.out.filter _, fun x => ?_⟩
    rw [List.mem_filter, HMem.out x]
    simp [and_assoc]
  · rw [putF_ne _ _ e]
    refine ((H.out.own r hr).fr hF4 (fun b hb hq => ?_) (TgUp.refl _ _)).congr fun x hx => by simp [e]
    rcases List.mem_cons.1 hb with rfl | hb
    · rw [H.out.tag] at hq; cases hq
    · rw [HG.out b hb] at hq; injection hq with _ h2; injection h2 with h2; exact e h2.symm
/-- .. for a source known as coarse. -/
def CoarsePost (w : World) (tg : Tg) (kb fB per n h s : Nat) (σ : RS) (p : Nat → Nat → Prop) (e : Ending) (w' : World) : Prop :=
  ∃ V' F fk', e = .returned (.tuple #[]) ∧ Kn w' tg kb per n (σ.put per h s 3 (fun _ => false)) fk' ∧ Fi w' tg fB n (fun a b => p a b ∧ ¬ (a = h ∧ b = s)) V' ∧ Fr F w w' ∧ ∀ b, b ∈ F → (tg b).1 = 2 ∨ (tg b).1 = 5 ∨ (tg b).1 = 8
set_option maxRecDepth 100000 in
theorem makeCoarse_any {w : World} {tg : Tg} {sb kb sB hB fB per n h s : Nat} {σ : RS} {fk : Value → Option Value} {p : Nat → Nat → Prop} {V : Nat → Value} (hst : St w sb kb sB hB fB per n) (hsb : tg sb = (1, 0, 0)) (hk : Kn w tg kb per n σ fk) (hf : Fi w tg fB n p V) (hn : n ≤ 65536) (hh : h < n) (hs : s < n) :
    Calls Tryd.prog 66 #[.pointer (some ⟨sb, 0, none⟩), .agg #[.int .i64 (h : Int), .int .i64 (s : Int)]] w (CoarsePost w tg kb fB per n h s σ p) := by
  obtain ⟨lt, hlt⟩ := pairKey (h : Int) (s : Int) (wf_nat (by omega)) (wf_nat (by omega))
  have c2 := hst.c2
  have N0 : sb < w.heap.size := Blk.lt hst
  have HK := hide hlt
  have HM := hide hk.mp
  obtain ⟨w2, hw2⟩ : ∃ w2, w2 = (w.alloc (.cells #[.int .i64 (h : Int), .int .i64 (s : Int)] 76)).drew := ⟨_, rfl⟩
  have hF2 : Fr [] w w2 := hw2 ▸ ((Fr.refl _ _).alloc _).drew
  have HL : Hid (∀ w3, Mp Tryd.prog 76 w3 kb (upF fk (pairV h s) (memOf 3 (.slice none 0 0) (.pointer none))) → Fr [kb] w2 w3 → Calls Tryd.prog 45 #[.pointer (some ⟨sb, 0, none⟩), .agg #[.int .i64 (h : Int), .int .i64 (s : Int)]] w3 (FinPost w3 tg fB n (fun a b => p a b ∧ ¬ (a = h ∧ b = s)))) := fun w3 hm hf3 => by
    have hsk : sb ∉ [kb] := by intro e; simp at e; rw [e, hk.tag] at hsb; cases hsb
    exact leaveFine_any (St.fr (hst.fr hF2 (by simp)) hf3 hsk) hsb ((hf.fr hF2 (by simp) (TgUp.refl _ _)).fr hf3 (fun b hb => by simp at hb; subst hb; rw [hk.tag]; simp) (TgUp.refl _ _)) hn hh
  have HC : Hid (∀ w3, Fr [kb] w2 w3 → w3.cell? ⟨w.heap.size, 0, none⟩ = some (.int .i64 (h : Int)) ∧ w3.cell? ⟨w.heap.size, 1, none⟩ = some (.int .i64 (s : Int))) := fun w3 hf3 => by
    have hpb : Blk w2 w.heap.size 76 #[.int .i64 (h : Int), .int .i64 (s : Int)] := by rw [hw2]; exact (Blk.new w _ _).drew
    have := hpb.fr hf3 (by have := hk.mp.lt; simp; omega)
    exact ⟨by rw [this.cell]; rfl, by rw [this.cell]; rfl⟩
  have H2 := hide hk
  have HF2 := hide hF2
  clear hst hf hk hF2 hlt
  subst hw2
  go_enter Tryd.func66, Tryd.ntmps66
  go_wp2_with fail
  refine region_tail 6 (by kernel_rfl) (by kernel_rfl) ?_
  simp only [List.take_succ_cons, List.take_zero, List.drop_succ_cons, List.drop_zero]
  repeat still_step
  refine wpStill_nil ?_
  go_wp2_with (first | (at_mapUpdate; refine list_of rfl fun K hK => wp_update (key := pairV h s) (v := memOf 3 (.slice none 0 0) (.pointer none)) _ _ _ 55 rfl Tryd.pairLaw Tryd.underlying55 HM.out (((Fr.refl _ _).alloc _).drew) rfl rfl HK.out rfl ?_; intro w1 hM hF; have d0 := (HC.out w1 hF.out).1; have d1 := (HC.out w1 hF.out).2; have HL1 := hide (HL.out w1 hM.out hF.out); refine hK _ _ ?_) | (go_at_call 45; refine HL1.out.mono ?_; rintro e w4 ⟨V', F, rfl, hfi, hf4, hF4⟩))
  go_end0
  have hkn := H2.out.up (k := 3) (g := fun _ => false) (tg' := tg) hh hs (by decide) HF2.out (fun _ hb => by cases hb) (TgUp.refl _ _) hM.out hF.out (.inr (.inr ⟨rfl, rfl⟩))
  have hF : Fr (kb :: F) w w4 := (((HF2.out.mono (F := []) (G := [kb]) (fun _ hx => by cases hx)).trans_same hF.out).mono (G := kb :: F) (fun x hx => .inl (by simp at hx; simp [hx]))).trans hf4 (fun x hx => .inl (List.mem_cons_of_mem _ hx))
  refine ⟨V', kb :: F, _, rfl, hkn.fr hf4 (fun b hb => ?_) (TgUp.refl _ _), hfi, hF, fun b hb => ?_⟩
  · rcases hF4 b hb with e | e <;> rw [e] <;> decide
  · rcases List.mem_cons.1 hb with rfl | hb
    · left; rw [H2.out.tag]
    · exact .inr (hF4 b hb)
end Go.Proofs.YtkbffmmomoeaiaaDoor
