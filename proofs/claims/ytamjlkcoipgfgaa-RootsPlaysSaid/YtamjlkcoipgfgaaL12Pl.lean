/- RootsPlays: handles are pushed, read, set and popped just as the document says, call by call, whatever bound and whatever script come in. Conditions: none but the row's own. -/
import Derived.Test.YtamjlkcoipgfgaaL12
import Derived.Test.YtamjlkcoipgfgaaRc
import Derived.Test.YtamjlkcoipgfgaaCard0
import Derived.Deep.RegionHeld3
namespace Go.Proofs.Ytamjlkcoipgfgaa.RootsPlays
set_option linter.unusedVariables false
set_option linter.unusedSimpArgs false
open Go.RowKit Go.Gl Go.ChangeShapes Go.WideShapes Go.ChangeAt Go.Deep

/-- The program's stack has the list l, the document's l'; they lie apart from one another, from what was there, and from the blocks P. -/
def Bh (P : List Nat) (W w : World) (s m B : Nat) (l l' : List Int) : Prop :=
  Fr [] W w ∧ ∃ FS FM, HkP w s FS B l ∧ HkR w m FM B l' ∧ (∀ x, x ∈ FS → W.heap.size ≤ x ∧ x ∉ FM ∧ x ∉ P) ∧ (∀ x, x ∈ FM → W.heap.size ≤ x ∧ x ∉ P) ∧ ∀ x, x ∈ P → x < w.heap.size
section
variable {P : List Nat} {W w w' : World} {s m B : Nat} {l l' : List Int}
theorem Bh.fr0 (h : Bh P W w s m B l l') (hf : Fr [] w w') : Bh P W w' s m B l l' := by
  obtain ⟨h0, FS, FM, h1, h2, h3, h4, h5⟩ := h
  exact ⟨h0.trans_same hf, FS, FM, h1.fr0 hf, h2.fr0 hf, h3, h4, fun x hx => Nat.lt_of_lt_of_le (h5 x hx) hf.size⟩
/-- Behind new memory, other blocks named. -/
theorem Bh.out {G : List Nat} (h : Bh P W w s m B l l') (hf : Fr [] w w') (hG : ∀ g, g ∈ G → w.heap.size ≤ g ∧ g < w'.heap.size) : Bh G W w' s m B l l' := by
  obtain ⟨h0, FS, FM, h1, h2, h3, h4, h5⟩ := h
  exact ⟨h0.trans_same hf, FS, FM, h1.fr0 hf, h2.fr0 hf, fun x hx => ⟨(h3 x hx).1, (h3 x hx).2.1, fun hg => by have := h1.lt x hx; have := (hG x hg).1; omega⟩, fun x hx => ⟨(h4 x hx).1, fun hg => by have := h2.lt x hx; have := (hG x hg).1; omega⟩, fun x hx => (hG x hx).2⟩
theorem Bh.poke {F : List Nat} (h : Bh P W w s m B l l') (hf : Fr F w w') (hF : ∀ g, g ∈ F → g ∈ P ∧ W.heap.size ≤ g) : Bh P W w' s m B l l' := by
  obtain ⟨h0, FS, FM, h1, h2, h3, h4, h5⟩ := h
  exact ⟨h0.trans hf (fun x hx => .inr (hF x hx).2), FS, FM, h1.fr hf (fun x hx hg => (h3 x hx).2.2 (hF x hg).1), h2.fr hf (fun x hx hg => (h4 x hx).2 (hF x hg).1), h3, h4, fun x hx => Nat.lt_of_lt_of_le (h5 x hx) hf.size⟩
/-- What a call on one of the two leaves. -/
def CallH (P : List Nat) (W : World) (s m B : Nat) (v : Value) (l l' : List Int) (w : World) (e : Ending) (w' : World) : Prop := e = .returned v ∧ Bh P W w' s m B l l' ∧ ∃ F, Fr F w w' ∧ ∀ g, g ∈ P → g ∉ F
theorem Bh.runS {f : FuncId} {args : Array Value} {v : Value} {l2 : List Int} (h : Bh P W w s m B l l') (hc : ∀ F, HkP w s F B l → Calls Try.prog f args w (HkPost w F (fun w' F' => HkP w' s F' B l2) v)) : Calls Try.prog f args w (CallH P W s m B v l2 l' w) := by
  obtain ⟨h0, FS, FM, h1, h2, h3, h4, h5⟩ := h
  refine (hc FS h1).mono ?_
  rintro e w' ⟨F', rfl, k1, k2, k3⟩
  refine ⟨rfl, ⟨Fr.inside h0 k2 (fun x hx => (h3 x hx).1), F', FM, k1, h2.fr k2 (fun x hx hg => (h3 x hg).2.1 hx), fun x hx => ?_, h4, fun x hx => Nat.lt_of_lt_of_le (h5 x hx) k2.size⟩, FS, k2, fun g hg hF => (h3 g hF).2.2 hg⟩
  rcases k3 x hx with h6 | h6
  · exact h3 x h6
  · exact ⟨Nat.le_trans h0.size h6, fun hg => by have := h2.lt x hg; omega, fun hg => by have := h5 x hg; omega⟩
theorem Bh.runM {f : FuncId} {args : Array Value} {v : Value} {l2 : List Int} (h : Bh P W w s m B l l') (hc : ∀ F, HkR w m F B l' → Calls Try.prog f args w (HkPost w F (fun w' F' => HkR w' m F' B l2) v)) : Calls Try.prog f args w (CallH P W s m B v l l2 w) := by
  obtain ⟨h0, FS, FM, h1, h2, h3, h4, h5⟩ := h
  refine (hc FM h2).mono ?_
  rintro e w' ⟨F', rfl, k1, k2, k3⟩
  refine ⟨rfl, ⟨Fr.inside h0 k2 (fun x hx => (h4 x hx).1), FS, F', h1.fr k2 (fun x hx hg => (h3 x hx).2.1 hg), k1, fun x hx => ⟨(h3 x hx).1, fun hg => ?_, (h3 x hx).2.2⟩, fun x hx => ?_, fun x hx => Nat.lt_of_lt_of_le (h5 x hx) k2.size⟩, FM, k2, fun g hg hF => (h4 g hF).2 hg⟩
  · rcases k3 x hg with h6 | h6
    · exact (h3 x hx).2.1 h6
    · have := h1.lt x hx; omega
  · rcases k3 x hx with h6 | h6
    · exact h4 x h6
    · exact ⟨Nat.le_trans h0.size h6, fun hg => by have := h5 x hg; omega⟩
theorem Bh.p (h : Bh P W w s m B l l') : ∃ F, HkP w s F B l := by
  obtain ⟨h0, FS, FM, h1, _⟩ := h
  exact ⟨FS, h1⟩
theorem Bh.r (h : Bh P W w s m B l l') : ∃ F, HkR w m F B l' := by
  obtain ⟨h0, FS, FM, _, h1, _⟩ := h
  exact ⟨FM, h1⟩
end

set_option maxRecDepth 100000 in
theorem walk_bad (W : World) (b : Int) (h : b < 1 ∨ 64 < b) (v : Value) : Holds Try.prog 3 #[.int .i64 b, v] W := by
  have HN := hide (hnew_bad b h)
  have HR := hide (r12new_bad b h)
  clear h
  unfold Holds
  go_enter Try.func3, Try.ntmps3
  go_wp2_with fail
  refine (awake12_any W).mono ?_
  rintro e w0 ⟨rfl, hf0⟩
  have HF := hide hf0
  clear hf0
  go_wp2_with fail
  refine (HN.out _).mono ?_
  rintro e w1 ⟨rfl, rfl⟩
  go_wp2_with fail
  refine (HR.out _).mono ?_
  rintro e w2 ⟨rfl, rfl⟩
  go_wp2_with fail
  go_ret
  exact ⟨rfl, HF.out.below_nil⟩

def kinds : Nat → IntKind := fun j => if j = 2 then .u64 else .i64
set_option maxRecDepth 100000 in
set_option maxHeartbeats 3200000 in
theorem walk (W : World) (B : Nat) (h1 : 1 ≤ B) (h2 : B ≤ 64) (A : Option Addr) (na ca : Nat) (f : Nat → Nat → Int) (hA : Recs W A na 3 kinds f) (hna : na ≤ 9223372036854775807) : Holds Try.prog 3 #[.int .i64 (B : Int), .slice A na ca] W := by
  have HA := hide hA
  have HN := hide (hnew_ok B h1 h2)
  have HR := hide (r12new_ok B h1 h2)
  have HB := hide h2
  clear hA h1 h2
  unfold Holds
  go_enter Try.func3, Try.ntmps3
  go_wp2_with fail
  refine (awake12_any W).mono ?_
  rintro e w0 ⟨rfl, hf0⟩
  have HF := hide hf0
  clear hf0
  go_wp2_with fail
  refine (HN.out _).mono ?_
  rintro e w1 ⟨s, FS, rfl, hq, hf1, hn1⟩
  have HF1 : Hid (Fr [] W w1) := HF.out.trans_same hf1
  have HQ1 := hide hq
  have HP1 : Hid (∀ x, x ∈ FS → W.heap.size ≤ x) := fun x hx => Nat.le_trans HF.out.size (hn1 x hx)
  clear hq hf1 hn1
  go_wp2_with fail
  refine (HR.out _).mono ?_
  rintro e w2 ⟨m, FM, rfl, hm, hf2, hn2⟩
  have HT2 : Hid (Bh [] W w2 s m B [] []) := ⟨HF1.out.trans_same hf2, FS, FM, HQ1.out.fr0 hf2, hm, fun x hx => ⟨HP1.out x hx, fun hx2 => by have h3 := HQ1.out.lt x hx; have h4 := hn2 x hx2; omega, by simp⟩, fun x hx => ⟨Nat.le_trans HF1.out.size (hn2 x hx), by simp⟩, fun x hx => by cases hx⟩
  clear hm hf2 hn2
  go_wp2_with fail
  clear HQ1 HP1 HF1 HN HR HF
  go_loopw [9] (fun i wr => ∃ (k : Nat) (l : List Int), i = .int .i64 k ∧ k ≤ na ∧ k ≤ 300 ∧ l.length ≤ B ∧ Bh [] W wr s m B l l) (fun i _ => na - (intOf i).toNat)
  case atStart => exact ⟨0, [], rfl, Nat.zero_le _, by omega, Nat.zero_le _, HT2.out⟩
  case round =>
    obtain ⟨k, l, rfl, hk, hk2, hl, ht⟩ := hrel
    have HT := hide ht
    have HL := hide hl
    clear ht HT2 hl
    by_cases hlt : k < na ∧ k < 300
    · obtain ⟨hlt1, hlt2⟩ := hlt
      have hlt3 : (k : Int) < (na : Int) := by omega
      have hlt4 : (k : Int) < 300 := by omega
      obtain ⟨b0, off, rfl, hb0, hcl⟩ := HA.out (by omega)
      have tr : ∀ j, wr.cell? ⟨b0, j, none⟩ = W.cell? ⟨b0, j, none⟩ := fun j => HT.out.1.cell (p := ⟨b0, j, none⟩) hb0 (by simp)
      have c0 : W.cell? ⟨b0, off + (k * 3 + 0), none⟩ = some (.int .i64 (f k 0)) := hcl k hlt1 0 (by decide)
      have c1 : W.cell? ⟨b0, off + (k * 3 + 1), none⟩ = some (.int .i64 (f k 1)) := hcl k hlt1 1 (by decide)
      have c2 : W.cell? ⟨b0, off + (k * 3 + 2), none⟩ = some (.int .u64 (f k 2)) := hcl k hlt1 2 (by decide)
      rw [← tr] at c0 c1 c2
      rw [Nat.add_zero] at c0
      rw [← Nat.add_assoc] at c1 c2
      generalize f k 0 = K at *
      generalize f k 1 = I at *
      generalize f k 2 = R at *
      clear tr hcl
      have HXB : Hid (Blk (wr.alloc (.cells #[.int .i64 K, .int .i64 I, .int .u64 R] 34)) wr.heap.size 34 #[.int .i64 K, .int .i64 I, .int .u64 R]) := Blk.new _ _ _
      have HX : Hid (Bh [wr.heap.size] W (wr.alloc (.cells #[.int .i64 K, .int .i64 I, .int .u64 R] 34)) s m B l l) := HT.out.out ((Fr.refl _ _).alloc _) (fun g hg => by simp at hg; subst hg; simp)
      clear HT
      have kt1 : -4 ≤ K.tmod 5 := by have := Int.lt_tmod_of_pos K (show (0 : Int) < 5 by decide); omega
      have kt2 : K.tmod 5 ≤ 4 := by have := Int.tmod_lt_of_pos K (show (0 : Int) < 5 by decide); omega
      rcases (show K.tmod 5 % 5 = 2 ∨ K.tmod 5 % 5 = 3 ∨ K.tmod 5 % 5 = 4 ∨ (¬ K.tmod 5 % 5 = 2 ∧ ¬ K.tmod 5 % 5 = 3 ∧ ¬ K.tmod 5 % 5 = 4) by omega) with hk0 | hk0 | hk0 | ⟨hk3, hk4, hk5⟩
      focus
        have HS : Hid (∀ w', Bh [wr.heap.size] W w' s m B l l → Calls Try.prog 9 #[.pointer (some ⟨s, 0, none⟩)] w' (CallH [wr.heap.size] W s m B (.tuple #[.int .u64 (hkPopV l), .int .i64 (hkPopE l)]) (hkPop l) l w')) := fun w' h => h.runS fun F hF => hpop_any hF HL.out HB.out
        have HM : Hid (∀ w', Bh [wr.heap.size] W w' s m B (hkPop l) l → Calls Try.prog 10 #[.pointer (some ⟨m, 0, none⟩)] w' (CallH [wr.heap.size] W s m B (.tuple #[.int .u64 (hkPopV l), .int .i64 (hkPopE l)]) (hkPop l) (hkPop l) w')) := fun w' h => h.runM fun F hF => r12pop_any hF HL.out HB.out
        have HL2 : Hid ((hkPop l).length ≤ B) := hkPop_len HL.out
        generalize hkPop l = l2 at *
        generalize hkPopV l = V at *
        generalize hkPopE l = E at *
        go_wp2_with fail
        refine (HS.out _ HX.out).mono ?_
        rintro e w4 ⟨rfl, hb, _⟩
        have HX4 := hide hb
        clear hb
        go_wp2_with fail
        refine (HM.out _ HX4.out).mono ?_
        rintro e w5 ⟨rfl, hb, _⟩
        have HX5 := hide hb
        clear hb HX4 HS HM
        have e1 : (V != V) = false := by simp
        have e2 : (E != E) = false := by simp
        go_wp2_with fail
        clear e1 e2
        obtain ⟨wz, hwz⟩ : ∃ wz, wz = w5 := ⟨_, rfl⟩
        subst hwz
        have HZ : Hid (∃ lz : List Int, lz.length ≤ B ∧ Bh [] W wz s m B lz lz) := ⟨_, HL2.out, HX5.out.out (Fr.refl _ _) (fun g hg => by cases hg)⟩
        clear HX5 HL2 HX HXB
      rotate_left
      focus
        have HS : Hid (∀ w', Bh [wr.heap.size] W w' s m B l l → Calls Try.prog 11 #[.pointer (some ⟨s, 0, none⟩), .int .i64 I] w' fun e w'' => e = .returned (.tuple #[.int .u64 (hkAt l I), .int .i64 (hkAtE l I)]) ∧ w' = w'') := fun w' h => by
          obtain ⟨F, hF⟩ := h.p
          exact hat_any hF I
        have HM : Hid (∀ w', Bh [wr.heap.size] W w' s m B l l → Calls Try.prog 12 #[.pointer (some ⟨m, 0, none⟩), .int .i64 I] w' fun e w'' => e = .returned (.tuple #[.int .u64 (hkAt l I), .int .i64 (hkAtE l I)]) ∧ w' = w'') := fun w' h => by
          obtain ⟨F, hF⟩ := h.r
          exact r12at_any hF I
        have HL2 : Hid (l.length ≤ B) := HL.out
        generalize hkAt l I = V at *
        generalize hkAtE l I = E at *
        go_wp2_with fail
        refine (HS.out _ HX.out).mono ?_
        rintro e w4 ⟨rfl, rfl⟩
        go_wp2_with fail
        refine (HM.out _ HX.out).mono ?_
        rintro e w5 ⟨rfl, rfl⟩
        have e1 : (V != V) = false := by simp
        have e2 : (E != E) = false := by simp
        go_wp2_with fail
        clear e1 e2 HS HM
        have HX5 := hide HX.out
        clear HX HXB
        obtain ⟨wz, hwz⟩ : ∃ wz, wz = wr.alloc (.cells #[.int .i64 K, .int .i64 I, .int .u64 R] 34) := ⟨_, rfl⟩
        rw [← hwz] at HX5 ⊢
        clear hwz
        have HZ : Hid (∃ lz : List Int, lz.length ≤ B ∧ Bh [] W wz s m B lz lz) := ⟨_, HL2.out, HX5.out.out (Fr.refl _ _) (fun g hg => by cases hg)⟩
        clear HX5 HL2
      rotate_left
      focus
        have HS : Hid (∀ w', Bh [wr.heap.size] W w' s m B l l → Calls Try.prog 13 #[.pointer (some ⟨s, 0, none⟩), .int .i64 I, .int .u64 R] w' (CallH [wr.heap.size] W s m B (.int .i64 (hkAtE l I)) (hkSet l I R) l w')) := fun w' h => h.runS fun F hF => hset_any hF I R
        have HM : Hid (∀ w', Bh [wr.heap.size] W w' s m B (hkSet l I R) l → Calls Try.prog 14 #[.pointer (some ⟨m, 0, none⟩), .int .i64 I, .int .u64 R] w' (CallH [wr.heap.size] W s m B (.int .i64 (hkAtE l I)) (hkSet l I R) (hkSet l I R) w')) := fun w' h => h.runM fun F hF => r12set_any hF I R
        have HL2 : Hid ((hkSet l I R).length ≤ B) := by have := HL.out; show _ ≤ _; rw [hkSet_len]; exact this
        generalize hkSet l I R = l2 at *
        generalize hkAtE l I = E at *
        go_wp2_with fail
        generalize wr.alloc (.cells #[.int .i64 K, .int .i64 I, .int .u64 R] 34) = wx at *
        obtain ⟨xb, hxb⟩ : ∃ xb, wr.heap.size = xb := ⟨_, rfl⟩
        rw [hxb] at HX HXB HS HM ⊢
        clear hxb
        have X1 : wx.cell? ⟨xb, 1, none⟩ = some (.int .i64 I) := by rw [HXB.out.cell]; rfl
        have X2 : wx.cell? ⟨xb, 2, none⟩ = some (.int .u64 R) := by rw [HXB.out.cell]; rfl
        have XL : xb < wx.heap.size := HXB.out.lt
        go_wp2_with fail
        go_region_held3 (fun w' => w'.cell? ⟨xb, 1, none⟩ = some (.int .i64 I) ∧ w'.cell? ⟨xb, 2, none⟩ = some (.int .u64 R))
          (first | exact ⟨X1, X2⟩ | exact X3.out | exact X4.out | go_keep)
          (first | (go_at_call 13; refine (HS.out _ (HX.out.fr0 ((Fr.refl _ _).drew))).mono ?_; rintro e w3 ⟨rfl, hb3, F3, hf3, hg3⟩; have HB3 := hide hb3; have X3 : Hid (w3.cell? ⟨xb, 1, none⟩ = some (.int .i64 I) ∧ w3.cell? ⟨xb, 2, none⟩ = some (.int .u64 R)) := ⟨(hf3.from_drew.cell (p := ⟨xb, 1, none⟩) XL (hg3 xb (by simp))).trans X1, (hf3.from_drew.cell (p := ⟨xb, 2, none⟩) XL (hg3 xb (by simp))).trans X2⟩; clear hb3 hf3 hg3) | (go_at_call 14; refine (HM.out _ HB3.out).mono ?_; rintro e w4 ⟨rfl, hb4, F4, hf4, hg4⟩; have HB4 := hide hb4; have X4 : Hid (w4.cell? ⟨xb, 1, none⟩ = some (.int .i64 I) ∧ w4.cell? ⟨xb, 2, none⟩ = some (.int .u64 R)) := ⟨(hf4.cell (p := ⟨xb, 1, none⟩) (lt_of_cell X3.out.1) (hg4 xb (by simp))).trans X3.out.1, (hf4.cell (p := ⟨xb, 2, none⟩) (lt_of_cell X3.out.2) (hg4 xb (by simp))).trans X3.out.2⟩; clear hb4 hf4 hg4))
        have e2 : (E != E) = false := by simp
        go_wp2_with fail
        clear e2 HS HM X1 X2 X3 X4 HB3
        have HX5 := hide HB4.out
        clear HX HXB HB4
        obtain ⟨wz, hwz⟩ : ∃ wz, wz = w4 := ⟨_, rfl⟩
        subst hwz
        have HZ : Hid (∃ lz : List Int, lz.length ≤ B ∧ Bh [] W wz s m B lz lz) := ⟨_, HL2.out, HX5.out.out (Fr.refl _ _) (fun g hg => by cases hg)⟩
        clear HX5 HL2
      rotate_left
      focus
        have hk3' : (K.tmod 5 % 5 == 2) = false := by simpa using hk3
        have hk4' : (K.tmod 5 % 5 == 3) = false := by simpa using hk4
        have hk5' : (K.tmod 5 % 5 == 4) = false := by simpa using hk5
        have HS : Hid (∀ w', Bh [wr.heap.size] W w' s m B l l → Calls Try.prog 15 #[.pointer (some ⟨s, 0, none⟩), .int .u64 R] w' (CallH [wr.heap.size] W s m B (.int .i64 (hkPushE B l)) (hkPush B l R) l w')) := fun w' h => h.runS fun F hF => hpush_any hF HL.out HB.out R
        have HM : Hid (∀ w', Bh [wr.heap.size] W w' s m B (hkPush B l R) l → Calls Try.prog 16 #[.pointer (some ⟨m, 0, none⟩), .int .u64 R] w' (CallH [wr.heap.size] W s m B (.int .i64 (hkPushE B l)) (hkPush B l R) (hkPush B l R) w')) := fun w' h => h.runM fun F hF => r12push_any hF HL.out HB.out R
        have HL2 : Hid ((hkPush B l R).length ≤ B) := hkPush_len HL.out R
        generalize hkPush B l R = l2 at *
        generalize hkPushE B l = E at *
        go_wp2_with fail
        generalize wr.alloc (.cells #[.int .i64 K, .int .i64 I, .int .u64 R] 34) = wx at *
        obtain ⟨xb, hxb⟩ : ∃ xb, wr.heap.size = xb := ⟨_, rfl⟩
        rw [hxb] at HX HXB HS HM ⊢
        clear hxb
        have X2 : wx.cell? ⟨xb, 2, none⟩ = some (.int .u64 R) := by rw [HXB.out.cell]; rfl
        have XL : xb < wx.heap.size := HXB.out.lt
        go_wp2_with fail
        go_region_held3 (fun w' => w'.cell? ⟨xb, 2, none⟩ = some (.int .u64 R))
          (first | exact X2 | exact X3.out | exact X4.out | go_keep)
          (first | (go_at_call 15; refine (HS.out _ (HX.out.fr0 ((Fr.refl _ _).drew))).mono ?_; rintro e w3 ⟨rfl, hb3, F3, hf3, hg3⟩; have HB3 := hide hb3; have X3 : Hid (w3.cell? ⟨xb, 2, none⟩ = some (.int .u64 R)) := (hf3.from_drew.cell (p := ⟨xb, 2, none⟩) XL (hg3 xb (by simp))).trans X2; clear hb3 hf3 hg3) | (go_at_call 16; refine (HM.out _ HB3.out).mono ?_; rintro e w4 ⟨rfl, hb4, F4, hf4, hg4⟩; have HB4 := hide hb4; have X4 : Hid (w4.cell? ⟨xb, 2, none⟩ = some (.int .u64 R)) := (hf4.cell (p := ⟨xb, 2, none⟩) (lt_of_cell X3.out) (hg4 xb (by simp))).trans X3.out; clear hb4 hf4 hg4))
        have e2 : (E != E) = false := by simp
        go_wp2_with fail
        clear e2 HS HM X2 X3 X4 HB3
        have HX5 := hide HB4.out
        clear HX HXB HB4
        obtain ⟨wz, hwz⟩ : ∃ wz, wz = w4 := ⟨_, rfl⟩
        subst hwz
        have HZ : Hid (∃ lz : List Int, lz.length ≤ B ∧ Bh [] W wz s m B lz lz) := ⟨_, HL2.out, HX5.out.out (Fr.refl _ _) (fun g hg => by cases hg)⟩
        clear HX5 HL2
      rotate_left
      all_goals
        obtain ⟨lz, hlz, hz⟩ := HZ.out
        have HZB := hide hz
        have HLZ := hide hlz
        clear hz hlz HZ HL c0 c1 c2
        obtain ⟨FZ, hF⟩ := HZB.out.p
        have TL := hide (hlist_any hF (by have := HLZ.out; have := HB.out; omega))
        clear hF
        go_wp2_with fail
        refine TL.out.mono ?_
        rintro e w6 ⟨A6, c6, G6, rfl, hl6, hf6, hg6⟩
        have HZ6 : Hid (Bh G6 W w6 s m B lz lz) := HZB.out.out hf6 (fun g hg => ⟨hg6 g hg, hl6.lt g hg⟩)
        have HG6 : Hid (∀ g, g ∈ G6 → W.heap.size ≤ g) := fun g hg => Nat.le_trans HZB.out.1.size (hg6 g hg)
        have HL6 := hide hl6
        clear hl6 hf6 hg6 TL HZB
        obtain ⟨FM6, hM⟩ := HZ6.out.r
        obtain ⟨AM, cM, mc1, mc0, hsl⟩ := hM.sl
        obtain ⟨FS6, hS⟩ := HZ6.out.p
        have hb1 := HLZ.out
        have hb2 := HB.out
        have D1 : Hid (∀ i, Calls Try.prog 18 #[.slice A6 lz.length c6, .slice AM lz.length cM] (w6.drewN i) fun e w' => e = .returned (.bool true) ∧ ∃ k, w' = (w6.drewN i).drewN k) := fun i => by
          have h := rsame_any (ca := c6) (cb := cM) (refSl (HL6.out.drewN i)) (hsl.fr ((Fr.refl [] _).drewN i) (fun x hx => by cases hx)) (by omega) (by omega)
          rw [show decide (lz = lz) = true by simp] at h
          exact h
        have D2 : Hid (∀ i, Calls Try.prog 19 #[.pointer (some ⟨s, 0, none⟩)] (w6.drewN i) fun e w' => e = .returned (.int .i64 (lz.length : Int)) ∧ ∃ k, w' = (w6.drewN i).drewN k) := fun i => (hlen_any (hS.drewN i)).mono fun _ _ ⟨he, hm⟩ => ⟨he, 0, hm.symm⟩
        have D3 : Hid (∀ i, Calls Try.prog 20 #[.pointer (some ⟨s, 0, none⟩)] (w6.drewN i) fun e w' => e = .returned (.int .i64 ((B : Int) - (lz.length : Int))) ∧ ∃ k, w' = (w6.drewN i).drewN k) := fun i => hroom_any (hS.drewN i) hb1 hb2
        have e1 : IntKind.i64.wrap ((B : Int) - (lz.length : Int)) = (B : Int) - (lz.length : Int) := IntWalk.i64_in _ ⟨by omega, by omega⟩
        obtain ⟨ys, hys⟩ : ∃ ys, ys = refV lz := ⟨_, rfl⟩
        rw [← hys] at HL6
        clear hM hS hsl hys
        obtain ⟨n, hn⟩ : ∃ n, n = lz.length := ⟨_, rfl⟩
        rw [← hn] at HL6 HLZ hb1 D1 D2 D3 e1 mc1
        have HNL : Hid (lz.length ≤ B) := by show _ ≤ _; rw [← hn]; exact hb1
        rw [← hn]
        clear hn
        have hn64 : n ≤ 64 := by omega
        have e2 : ((n : Int) != (n : Int)) = false := by simp
        obtain ⟨D, hD⟩ : ∃ D : Int, D = (B : Int) - (n : Int) := ⟨_, rfl⟩
        have e3 : (D != D) = false := by simp
        rw [← hD] at e1 D3
        go_wp2_with fail
        go_quiet (first | (go_at_call 18; exact Calls.quiet_of (D1.out _)) | (go_at_call 19; exact Calls.quiet_of (D2.out _)) | (go_at_call 20; exact Calls.quiet_of (D3.out _)))
        go_wp2_with fail
        have HB7 := hide (HZ6.out.fr0 ((Fr.refl [] w6).drewN nq))
        have HL7 := hide (HL6.out.drewN nq)
        clear D1 D2 D3 e1 e2 e3 hD mc0 mc1 HZ6 HL6
        go_loopw [20] (fun i wr => ∃ (j : Nat) (ys : List Value), i = .int .i64 j ∧ j ≤ n ∧ Lr wr 32 A6 n c6 G6 ys ∧ Bh G6 W wr s m B lz lz) (fun i _ => n - (intOf i).toNat)
        case atStart => exact ⟨0, ys, rfl, Nat.zero_le _, HL7.out, HB7.out⟩
        clear HL7 HB7
        obtain ⟨j, ys, rfl, hj, hl, hb⟩ := hrel
        by_cases hlt5 : j < n
        · have hlt6 : (j : Int) < (n : Int) := by omega
          obtain ⟨g, off5, rfl, rfl, hgl, hcell, hfz, _⟩ := hl.pos (by omega)
          have jc : wr.cell? ⟨g, off5 + j, none⟩ = some (ys.getD j undef) := by
            rw [hcell j hlt5]
            have : j < ys.length := by rw [hl.len]; exact hlt5
            simp [this]
          have jz := hfz (off5 + j)
          have HF7 : Hid (Fr [g] wr (wr.setCell ⟨g, off5 + j, none⟩ (.int .u64 99))) := (Fr.refl _ _).setCell (p := ⟨g, off5 + j, none⟩) (.inl (by simp)) _
          have HL7 := hide (hl.put hlt5 (.int .u64 99))
          have HB7 := hide (hb.poke HF7.out (fun x hx => by simp at hx; subst hx; exact ⟨by simp, HG6.out x (by simp)⟩))
          clear hl hb hcell hfz
          go_wp2_with fail
          go_roundw
          case rel => exact ⟨j + 1, _, by go_num, by omega, HL7.out, HB7.out⟩
          case measure => simp [intOf]; omega
        · have HB8 : Hid (Bh [] W wr s m B lz lz) := hb.out (Fr.refl _ _) (fun g hg => by cases hg)
          obtain rfl : n = j := by omega
          clear hl hb
          go_wp2_with fail
          go_roundw
          case rel => exact ⟨k + 1, lz, by go_num, by omega, by omega, HNL.out, HB8.out⟩
          case measure => simp [intOf]; omega
    · have hway : ¬ (k : Int) < (na : Int) ∨ ((k : Int) < (na : Int) ∧ ¬ (k : Int) < 300) := by omega
      have hb1 := HL.out
      have hb2 := HB.out
      obtain ⟨FM6, hM⟩ := HT.out.r
      obtain ⟨FS6, hS⟩ := HT.out.p
      have HS := hide hS
      have HM := hide hM
      obtain ⟨AM, cM, mc1, mc0, hsl⟩ := hM.sl
      have HSL := hide hsl
      have TL : Hid (∀ w', Fr [] wr w' → Calls Try.prog 17 #[.pointer (some ⟨s, 0, none⟩)] w' (ClonePost w' l)) := fun w' hf => hlist_any (HS.out.fr0 hf) (by omega)
      have TS : Hid (∀ w' A6 c6, Fr [] wr w' → Sl w' A6 l.length (fun k => .int .u64 (l.getD k 0)) → Calls Try.prog 18 #[.slice A6 l.length c6, .slice AM l.length cM] w' fun e w'' => e = .returned (.bool true) ∧ ∃ k, w'' = w'.drewN k) := fun w' A6 c6 hf hx => by
        have h := rsame_any (ca := c6) (cb := cM) hx (HSL.out.fr hf (fun x hx => by cases hx)) (by omega) (by omega)
        rw [show decide (l = l) = true by simp] at h
        exact h
      obtain ⟨ln, hln⟩ : ∃ ln, ln = l.length := ⟨_, rfl⟩
      have HLN := hide hln
      rw [← hln] at mc1 TS
      have HW := hide HT.out.1
      have XL := lt_of_cell mc1
      clear hlt hln hM hS hsl hb1 mc0
      rcases hway with w1 | ⟨w1, w2⟩
      all_goals
        go_wp2_with fail
        go_region_held3 (fun w' => w'.cell? ⟨m, 1, none⟩ = some (.slice AM ln cM))
          (first | exact mc1 | exact X3.out | exact X4.out | go_keep)
          (first | (go_at_call 17; refine (TL.out _ ((Fr.refl [] _).drew)).mono ?_; rintro e w3 ⟨A3, c3, G3, rfl, hl3, hf3, _⟩; have HF3 : Hid (Fr [] wr w3) := hf3.from_drew; have HL3 := hide (refSl hl3); rw [← HLN.out] at HL3 ⊢; have X3 : Hid (w3.cell? ⟨m, 1, none⟩ = some (.slice AM ln cM)) := (HF3.out.cell (p := ⟨m, 1, none⟩) XL (by simp)).trans mc1; clear hl3 hf3) | (go_at_call 18; refine (TS.out _ _ _ HF3.out HL3.out).mono ?_; rintro e w5 ⟨rfl, k5, rfl⟩; have X4 : Hid ((w3.drewN k5).cell? ⟨m, 1, none⟩ = some (.slice AM ln cM)) := X3.out))
        go_wp2_with fail
        go_ret
        exact ⟨rfl, ((HW.out.trans_same HF3.out).drewN k5).below_nil⟩

theorem act_fields : ∃ fs : Array Field, Try.prog.underlying 34 = some (.struct fs) ∧ oneCellFields Try.prog fs = true ∧ Try.prog.cellsOf 34 = fs.size ∧ fs.size = 3 ∧ ∀ (j : Nat) f, fs[j]? = some f → Try.prog.underlying f.type = some (.int (kinds j)) :=
  ⟨_, Try.underlying34, by kernel_rfl, by kernel_rfl, by kernel_rfl, by
    intro j f hf
    match j, hf with
    | 0, hf => simp at hf; subst hf; exact Try.underlying3
    | 1, hf => simp at hf; subst hf; exact Try.underlying3
    | 2, hf => simp at hf; subst hf; exact Try.underlying32
    | j + 3, hf => simp at hf⟩
theorem holds {H : Type} {enc : TypeId × Value → H} {W : World} {base : Nat} {args : Array Value} {ds : List (DataW H)} {p : List MemPlace}
    (hval : ∀ (j : Nat) t v, Try.f3.params[j]? = some t → args[j]? = some v → Value.okWide Try.prog W .any base t v)
    (hA : DataW.TrodAll enc Try.prog W 0 (fun _ => true) true Try.f3.params.toList args.toList ds p) : Holds Try.prog 3 args W := by
  rw [Try.params3] at hA hval
  obtain ⟨v0, vs0, d0, ds0, p0, q0, hargs, rfl, rfl, h0, r0⟩ := trodAll_cons hA
  obtain ⟨v1, vs1, d1, ds1, p1, q1, rfl, rfl, rfl, h1, r1⟩ := trodAll_cons r0
  obtain ⟨rfl, rfl, rfl⟩ := trodAll_nil r1
  obtain rfl : args = #[v0, v1] := by cases args; simp_all
  obtain ⟨x0, rfl, rfl, rfl, _⟩ := open_int Try.underlying3 (hval 0 3 v0 rfl rfl) h0
  obtain ⟨fs, e1, e2, e3, e4, e5⟩ := act_fields
  obtain ⟨A, na, ca, f, rfl, hna, hA2, _⟩ := open_recs (ks := kinds) Try.underlying22 e1 e2 e3 (by omega) e5 (hval 1 22 v1 rfl rfl) h1
  rw [e4] at hA2
  by_cases hb : x0 < 1 ∨ 64 < x0
  · exact walk_bad W x0 hb _
  · obtain ⟨B, rfl⟩ := Int.eq_ofNat_of_zero_le (show 0 ≤ x0 by omega)
    exact walk W B (by omega) (by omega) A na ca f hA2 (by unfold maxLen at hna; omega)
theorem readable : ∀ t, t ∈ Try.f3.params.toList → Try.prog.readableRec t = true ∧ t < Try.prog.types.size := by
  intro t ht
  rw [Try.params3] at ht
  have hm : t = 3 ∨ t = 22 := by simp at ht; omega
  rcases hm with rfl | rfl
  all_goals exact ⟨by kernel_rfl, of_decide_eq_true (by kernel_rfl)⟩
theorem laid_met (os : Os) : laidMet Try.prog Rows.rootsPlaysRow.laid ((laidWorld os).forCall (fun _ _ => 0) ⟨#[], #[.int .i64 0, .slice none 0 0], []⟩).memory :=
  ⟨[], rfl, List.nodup_nil, fun _ _ h => by cases h⟩
theorem reads (os : Os) {H : Type} (enc : TypeId × Value → H) : ∃ places, DataW.whole enc Try.prog ((laidWorld os).forCall (fun _ _ => 0) ⟨#[], #[.int .i64 0, .slice none 0 0], []⟩).memory Try.f3.params.toList Rows.rootsPlaysSpec.vars false (#[.int .i64 0, .slice none 0 0] : Array Value).toList 8 = some ([.lit (.int .i64 0), .nil], [], places) :=
  ⟨[], by kernel_rfl⟩
theorem spec {H : Type} : ∀ ds : List (DataW H), ds.length = Try.f3.params.toList.length → Rows.rootsPlaysSpec.fn H (ds ++ []) = { results := [.lit (.bool true)], args := ds, vars := [] } := by
  intro ds h
  rw [Try.params3] at h
  simp only [List.append_nil]
  match ds, h with
  | [_, _], _ => rfl

set_option maxRecDepth 100000 in
theorem lifted (os : Os) (started : os.Started) (H : Type) (enc : TypeId × Value → H) (F : Stop.Interp) :
    ReturnsInHanded {} Try.checked os 3 .any ((OpenSpec.ofChange Rows.rootsPlaysSpec).preRow enc Try.prog Try.f3 Rows.rootsPlaysRow.domain false Rows.rootsPlaysRow.laid) (((OpenSpec.ofChange Rows.rootsPlaysSpec).at F).post enc Try.prog Try.f3 false true false false) := by
  obtain ⟨places, hx⟩ := reads os enc
  refine returnsInHanded_of_row (C := Try.checked) (s := OpenSpec.ofChange Rows.rootsPlaysSpec) own started (by kernel_rfl) Try.func3
    (witness_row_at (enc := enc) (C := Try.checked) false (laidWorld os) #[.int .i64 0, .slice none 0 0] rfl (by kernel_rfl) (by kernel_rfl) (by kernel_rfl)
      (OpenSpec.preRow_of_cond 8 hx (by kernel_rfl) (fun k hk => by cases hk) (by kernel_rfl) (laid_met os))) ?_
  intro W base args ds gs before hval hW _ _ _ hL _ _
  have hW' : DataW.Whole enc Try.prog Try.f3.params.toList Rows.rootsPlaysSpec.vars false W args.toList ds gs before := hW
  exact law_close (s := Rows.rootsPlaysSpec) rfl rfl Try.underlying4 spec laidOut readable hW' (by
    obtain ⟨p, q, hA, _⟩ := hW'
    exact holds hval hA)

theorem said : Rows.RootsPlaysSaid :=
  OpenClaim.holds_of_cond 3 Try.f3 rfl rfl rfl rfl rfl rfl rfl ⟨rfl, rfl, rfl, rfl, rfl⟩ rfl rfl rfl rfl rfl (by kernel_rfl) Try.func3 (by kernel_rfl)
    (of_decide_eq_true (by kernel_rfl)) (by unfold Func.isWrapper; first | (rw [if_pos (by decide +kernel)]; kernel_rfl) | (rw [if_neg (by decide +kernel)]; exact ⟨rfl, rfl⟩))
    (fun os started H enc _ F => by rw [OpenClaim.pre_eq_preRow]; exact lifted os started H enc F)
end Go.Proofs.Ytamjlkcoipgfgaa.RootsPlays
