/- Package queue: Drain. -/
import Derived.Test.YtdiedfnlmkokhaaQv
import Derived.Deep.RegionWith
namespace Go.Proofs.Ytdiedfnlmkokhaa
set_option linter.unusedVariables false
open Go.RowKit Go.Gl

theorem Try.zero_ints : ∀ w, (zeroValue 38).run Try.prog w = .ok (.slice none 0 0) w := fun w => by
  obtain ⟨i0, hi, hz0, _, _⟩ := info_parts Try.info_ints
  simp [zeroValue, typeInfo, hi, hz0]
theorem splice_whole {l r : List Value} (h : r.length = l.length) : splice l 0 r = r := by
  unfold splice
  rw [List.take_zero, Nat.zero_add, h, List.drop_length]
  simp
/-- Two lists, one behind the other. -/
theorem concat_two {w : World} {ab n c n1 c1 : Nat} {A A1 : Option Addr} {l l1 : List Int} (h0 : w.cell? ⟨ab, 0, none⟩ = some (.slice A l.length c)) (h1 : w.cell? ⟨ab, 1, none⟩ = some (.slice A1 l1.length c1))
    (s0 : Sl w A l.length (fun i => .int .i64 (l.getD i 0))) (s1 : Sl w A1 l1.length (fun i => .int .i64 (l1.getD i 0))) (hb : (l ++ l1).length ≤ 17592186044416) :
    Calls Try.prog 19 #[.slice (some ⟨ab, 0, none⟩) 2 2] w (CatPost w (l ++ l1)) := by
  have := concat_any (w := w) (ab := ab) (k := 2) (kc := 2) (A := fun j => if j = 0 then A else A1) (c := fun j => if j = 0 then c else c1) (L := fun j => if j = 0 then l else l1) (by decide)
    (fun j hj => by
      obtain rfl | rfl : j = 0 ∨ j = 1 := by omega
      · exact h0
      · exact h1)
    (fun j hj => by
      obtain rfl | rfl : j = 0 ∨ j = 1 := by omega
      · exact s0
      · exact s1) (by simpa [catL] using hb)
  simpa [catL] using this
set_option maxHeartbeats 3200000 in
theorem qdrain_any {w : World} {q : Nat} {F : List Nat} {n B : Nat} {C : List Int} {O : Nat → List Int} (h : Qq w q F n B C O) (hk : QOk n B C O) :
    Calls Try.prog 12 #[.pointer (some ⟨q, 0, none⟩)] w (QLst w F (fun w' F' => Qq w' q F' n B [] (fun _ => [])) (C ++ catL O n)) := by
  obtain ⟨tb, A, c, G0, V, G, h, rfl⟩ := h
  have c0 := Qk.c0 h
  have c2 := Qk.c2 h
  have H := hide h
  have HK := hide hk
  have N1 : q < w.heap.size := h.st.lt
  obtain ⟨A', hA'⟩ : ∃ A' : Nat → Option Addr, ∀ i, A' i = (match V i with | .slice a _ _ => a | _ => none) := ⟨_, fun _ => rfl⟩
  obtain ⟨c', hc'⟩ : ∃ c' : Nat → Nat, ∀ i, c' i = (match V i with | .slice _ _ k => k | _ => 0) := ⟨_, fun _ => rfl⟩
  have HI : Hid (∀ w', Fr [] w w' → Calls Try.prog 19 #[.slice (some ⟨tb, 0, none⟩) n n] w' (CatPost w' (catL O n))) := fun w' hf => by
    have h' := H.out.fr0 hf
    refine concat_any (A := A') (c := c') (by have := HK.out.n2; omega) (fun j hj => ?_) (fun j hj => ?_) (by have := HK.out.cat; omega)
    · obtain ⟨A1, c1, e1, _⟩ := h'.ls.own j hj
      rw [Qk.cw h' hj, hA', hc', e1]
    · obtain ⟨A1, c1, e1, e2⟩ := h'.ls.own j hj
      rw [hA', e1]
      exact e2.slz
  have HJ : Hid (∀ w1 A1 c1 G1, Fr [] w w1 → Lr w1 3 A1 (catL O n).length c1 G1 (zv (catL O n)) → Calls Try.prog 19 #[.slice (some ⟨w1.heap.size, 0, none⟩) 2 2] (w1.alloc (.cells #[.slice A C.length c, .slice A1 (catL O n).length c1] 38)) (CatPost (w1.alloc (.cells #[.slice A C.length c, .slice A1 (catL O n).length c1] 38)) (C ++ catL O n))) := fun w1 A1 c1 G1 hf hl => by
    have hb := Blk.new w1 38 #[.slice A C.length c, .slice A1 (catL O n).length c1]
    refine concat_two (n := 0) (n1 := 0) (c := c) (c1 := c1) (by rw [hb.cell]; rfl) (by rw [hb.cell]; rfl) ((H.out.com.fr0 hf).alloc _).slz (hl.alloc _).slz ?_
    have := HK.out.cat
    have := HK.out.c
    have := HK.out.b
    rw [List.length_append]; omega
  have HZ : Hid (∀ w', Fr [] w w' → w'.cell? ⟨q, 0, none⟩ = some (.slice A C.length c)) := fun w' hf => Qk.c0 (H.out.fr0 hf)
  have HI0 := hide (HI.out w.drew (Fr.refl _ _).drew)
  clear h hk hA' hc' HI
  go_enter Try.func12, Try.ntmps12
  go_wp2_with fail
  go_region_with (go_at_call 19; first | ((with_reducible refine Calls.mono HI0.out ?_); rintro e w1 ⟨A1, c1, G1, rfl, hl, hf, hg⟩; have HL1 := hide hl; have HF1 := hide ((Fr.refl [] w).drew.trans_same hf); have HG1 := hide hg; have d0 := HZ.out _ HF1.out; have HJ1 := hide (HJ.out _ _ _ _ HF1.out HL1.out); clear hl hf hg) | ((with_reducible refine Calls.mono HJ1.out ?_); rintro e w2 ⟨A2, c2', G2, rfl, hl2, hf2, hg2⟩) | fail)
  all_goals
    have HF2 : Hid (Fr [] w w2) := (HF1.out.alloc _).trans_same hf2
    have HL2 := hide hl2
    have HG2 : Hid (∀ g, g ∈ G2 → w.heap.size ≤ g) := fun g hg => Nat.le_trans (HF1.out.alloc _).size (hg2 g hg)
    have HLN : Hid ((C ++ catL O n).length = C.length + (catL O n).length) := List.length_append
    clear hl2 hf2 hg2 d0 HJ1
    have HQ := hide (H.out.fr0 HF2.out)
    have e0 := Qk.c0 HQ.out
    have z0 := HQ.out.st.frozen 0
    have HQ1 : Hid (Qk (w2.setCell ⟨q, 0, none⟩ (.slice none 0 0)) q tb n B none 0 [] [] V G O) := HQ.out.com_put (by decide) (by decide) (by decide) (ci := 0) (l := []) (fun _ _ _ => rfl) (Fr.refl _ _) (Lr.nil _ _) (fun _ h => by cases h)
    have HF3 : Hid (Fr (foot q tb n G0 G) w (w2.setCell ⟨q, 0, none⟩ (.slice none 0 0))) := (HF2.out.mono (fun x hx => by cases hx)).setCell (p := ⟨q, 0, none⟩) (.inl (mem_foot.2 (.inl rfl))) _
    have HL3 : Hid (Lr (w2.setCell ⟨q, 0, none⟩ (.slice none 0 0)) 3 A2 (C ++ catL O n).length c2' G2 (zv (C ++ catL O n))) := HL2.out.fr (F := [q]) ((Fr.refl _ _).setCell (p := ⟨q, 0, none⟩) (.inl (by simp)) _) (fun g hg => by have := HG2.out g hg; simp; omega)
    have f2 := Qk.c2 HQ1.out
    have HSZ : Hid ((rowF n V).size = n) := rowF_size _ _
    go_wp2_with (with_reducible refine wpList_clear_blk rfl _ 45 rfl 38 Try.underlying45 Try.zero_ints rfl rfl (some ⟨tb, 0, none⟩) n n rfl tb 0 (rowF n V) 38 HQ1.out.ls.tab (fun _ => rfl) (by rw [HSZ.out]; omega) ?_)
    intro w4 HB4 HF4
    have HB5 : Blk w4 tb 38 (rowF n fun _ => .slice none 0 0) := by
      have := HB4.out
      rw [splice_whole (by simp [rowF_size]), ← rowF_const] at this
      exact this
    have HQ4 : Hid (Qk w4 q tb n B none 0 [] [] (fun _ => .slice none 0 0) (fun _ => []) (fun _ => [])) := HQ1.out.clear (by decide) (by decide) HB5 HF4.out
    have HL4 : Hid (Lr w4 3 A2 (C ++ catL O n).length c2' G2 (zv (C ++ catL O n))) := HL3.out.fr HF4.out (fun g hg => by have := HG2.out g hg; have := H.out.ls.tab.lt; simp; omega)
    have HF5 : Hid (Fr (foot q tb n G0 G) w w4) := HF3.out.trans HF4.out (fun x hx => .inl (by simp at hx; exact mem_foot.2 (.inr (.inl hx))))
    clear HB5
    go_wp2_with fail
    go_ret
    refine ⟨_, A2, c2', G2, by rw [HLN.out]; rfl, ⟨_, _, _, _, _, _, HQ4.out, rfl⟩, HL4.out, HF5.out, fun x hx => ?_, fun g hg => ⟨fun hx => ?_, .inr (HG2.out g hg)⟩⟩
    · rcases mem_foot.1 hx with rfl | rfl | hx | ⟨i, _, hx⟩
      · exact .inl (mem_foot.2 (.inl rfl))
      · exact .inl (mem_foot.2 (.inr (.inl rfl)))
      · cases hx
      · cases hx
    · have h1 := HG2.out g hg
      rcases mem_foot.1 hx with rfl | rfl | hx | ⟨i, _, hx⟩
      · have := H.out.st.lt; omega
      · have := H.out.ls.tab.lt; omega
      · cases hx
      · cases hx
theorem qdrain_nil (w : World) : Calls Try.prog 12 #[.pointer none] w fun e w' => e = .returned (.slice none 0 0) ∧ w' = w := by
  go_enter Try.func12, Try.ntmps12
  go_wp2
  go_ret
  exact ⟨rfl, rfl⟩
end Go.Proofs.Ytdiedfnlmkokhaa
