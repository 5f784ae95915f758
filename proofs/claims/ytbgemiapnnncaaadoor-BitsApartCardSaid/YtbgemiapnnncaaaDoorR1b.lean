/- The document's sets, a bool a number, the rest: Next, Count, Fill, List. -/
import Derived.Test.YtbgemiapnnncaaaDoorR1
namespace Go.Proofs.YtbgemiapnnncaaaDoor
set_option linter.unusedVariables false
open Go.RowKit Go.Gl

def NextS (S : Nat → Bool) (i r : Int) : Prop :=
  (r = -1 ∧ ∀ j : Nat, i ≤ j → S j = false) ∨ ∃ R : Nat, r = (R : Int) ∧ i ≤ R ∧ S R = true ∧ ∀ j : Nat, i ≤ j → j < R → S j = false
theorem nextS_one {S : Nat → Bool} {i r r' : Int} (h : NextS S i r) (h' : NextS S i r') : r = r' := by
  rcases h with ⟨rfl, h⟩ | ⟨R, rfl, h1, h2, h3⟩ <;> rcases h' with ⟨rfl, h'⟩ | ⟨R', rfl, h1', h2', h3'⟩
  · rfl
  · rw [h R' h1'] at h2'; cases h2'
  · rw [h' R h1] at h2; cases h2
  · rcases Nat.lt_trichotomy R R' with h | h | h
    · rw [h3' R h1 h] at h2; cases h2
    · rw [h]
    · rw [h3 R' h1' h] at h2'; cases h2'
def RNextPost (L : List Bool) (i : Int) (w : World) (e : Ending) (w' : World) : Prop := ∃ r : Int, e = .returned (.int .i64 r) ∧ w = w' ∧ NextS (rS L) i r
theorem r1next_pos {w : World} {rs rb : Nat} {L : List Bool} (h : RSet w rs rb L) (i : Int) (hi : 0 ≤ i) :
    Calls Tryd.prog 19 #[.pointer (some ⟨rs, 0, none⟩), .int .i64 i] w (RNextPost L i w) := by
  have h0 := h.c0
  have hmax := h.max
  have H := hide h
  clear h
  go_enter Tryd.func19, Tryd.ntmps19
  go_wp2
  go_loop [5] (fun a => ∃ A : Int, a = .int .i64 A ∧ 0 ≤ A ∧ i ≤ A ∧ ∀ j : Nat, i ≤ j → (j : Int) < A → rS L j = false) (fun a => (L.length - intOf a).toNat)
  case atStart => exact ⟨i, rfl, by omega, by omega, fun j hj hlt => by omega⟩
  case round =>
    obtain ⟨A, rfl, hA, hiA, hs⟩ := hrel
    obtain ⟨K, rfl⟩ := Int.eq_ofNat_of_zero_le hA
    have HS := hide hs
    clear hs
    by_cases hlt : K < L.length
    · have hlt1 : (K : Int) < (L.length : Int) := by omega
      have hc := H.out.cw hlt
      have HX : Hid (rS L K = rS L K) := rfl
      generalize hX : rS L K = x at hc
      have EX := hide hX
      clear hX
      cases x
      · go_wp2
        go_round
        case rel => exact ⟨K + 1, rfl, by omega, by omega, fun j hj hl => by
          rcases Nat.lt_or_ge j K with h | h
          · exact HS.out j hj (by omega)
          · obtain rfl : j = K := by omega
            exact EX.out⟩
        case measure => simp [intOf]; omega
      · go_wp2
        go_ret
        exact ⟨K, rfl, rfl, .inr ⟨K, rfl, hiA, EX.out, fun j a b => HS.out j a (by omega)⟩⟩
    · have hlt1 : ¬ (K : Int) < (L.length : Int) := by omega
      go_wp2
      go_ret
      refine ⟨-1, rfl, rfl, .inl ⟨rfl, fun j hj => ?_⟩⟩
      rcases Nat.lt_or_ge j K with h | h
      · exact HS.out j hj (by omega)
      · exact rS_far (by omega)
theorem r1next_neg {w : World} {rs rb : Nat} {L : List Bool} (h : RSet w rs rb L) (i : Int) (hi : i < 0) :
    Calls Tryd.prog 19 #[.pointer (some ⟨rs, 0, none⟩), .int .i64 i] w (RNextPost L i w) := by
  have h0 := h.c0
  have hmax := h.max
  have H := hide h
  clear h
  go_enter Tryd.func19, Tryd.ntmps19
  go_wp2
  go_loop [5] (fun a => ∃ A : Int, a = .int .i64 A ∧ 0 ≤ A ∧ i ≤ A ∧ ∀ j : Nat, i ≤ j → (j : Int) < A → rS L j = false) (fun a => (L.length - intOf a).toNat)
  case atStart => exact ⟨0, rfl, by omega, by omega, fun j hj hlt => by omega⟩
  case round =>
    obtain ⟨A, rfl, hA, hiA, hs⟩ := hrel
    obtain ⟨K, rfl⟩ := Int.eq_ofNat_of_zero_le hA
    have HS := hide hs
    clear hs
    by_cases hlt : K < L.length
    · have hlt1 : (K : Int) < (L.length : Int) := by omega
      have hc := H.out.cw hlt
      have HX : Hid (rS L K = rS L K) := rfl
      generalize hX : rS L K = x at hc
      have EX := hide hX
      clear hX
      cases x
      · go_wp2
        go_round
        case rel => exact ⟨K + 1, rfl, by omega, by omega, fun j hj hl => by
          rcases Nat.lt_or_ge j K with h | h
          · exact HS.out j hj (by omega)
          · obtain rfl : j = K := by omega
            exact EX.out⟩
        case measure => simp [intOf]; omega
      · go_wp2
        go_ret
        exact ⟨K, rfl, rfl, .inr ⟨K, rfl, hiA, EX.out, fun j a b => HS.out j a (by omega)⟩⟩
    · have hlt1 : ¬ (K : Int) < (L.length : Int) := by omega
      go_wp2
      go_ret
      refine ⟨-1, rfl, rfl, .inl ⟨rfl, fun j hj => ?_⟩⟩
      rcases Nat.lt_or_ge j K with h | h
      · exact HS.out j hj (by omega)
      · exact rS_far (by omega)
theorem r1next_any {w : World} {rs rb : Nat} {L : List Bool} (h : RSet w rs rb L) (i : Int) :
    Calls Tryd.prog 19 #[.pointer (some ⟨rs, 0, none⟩), .int .i64 i] w (RNextPost L i w) := by
  rcases (show 0 ≤ i ∨ i < 0 by omega) with hi | hi
  · exact r1next_pos h i hi
  · exact r1next_neg h i hi

/-- How many numbers below n are from f on and below t. -/
def cntS (S : Nat → Bool) (f t : Int) (n : Nat) : Nat := cnt (fun j => S j && decide (f ≤ (j : Int) ∧ (j : Int) < t)) 0 n
theorem cntS_succ (S : Nat → Bool) (f t : Int) (n : Nat) : cntS S f t (n + 1) = cntS S f t n + (if S n && decide (f ≤ (n : Int) ∧ (n : Int) < t) then 1 else 0) := by
  unfold cntS
  simp only [cnt, Nat.zero_add]
theorem cntS_none {S : Nat → Bool} {f t : Int} {n : Nat} (h : (n : Int) ≤ f) : cntS S f t n = 0 := by
  refine cnt_none fun j hj => ?_
  rw [Bool.and_eq_false_iff]
  right
  rw [decide_eq_false_iff_not]
  omega
theorem cntS_far {S : Nat → Bool} {f t : Int} {n m : Nat} (h : ∀ j : Nat, n ≤ j → j < m → S j = false ∨ t ≤ j) (hn : n ≤ m) : cntS S f t m = cntS S f t n := by
  obtain ⟨d, rfl⟩ : ∃ d, m = n + d := ⟨m - n, by omega⟩
  unfold cntS
  rw [cnt_add, cnt_none (a := 0 + n) (n := d)]
  · rfl
  · intro j hj
    rcases h (0 + n + j) (by omega) (by omega) with h | h
    · rw [h]; rfl
    · rw [Bool.and_eq_false_iff]
      right
      rw [decide_eq_false_iff_not]
      omega
theorem cntS_le (S : Nat → Bool) (f t : Int) (n : Nat) : cntS S f t n ≤ n := cnt_le _ _ _
def RCountPost (L : List Bool) (f t : Int) (w : World) (e : Ending) (w' : World) : Prop := e = .returned (.int .i64 ((cntS (rS L) f t L.length : Nat) : Int)) ∧ w = w'
theorem r1count_ft {w : World} {rs rb : Nat} {L : List Bool} (h : RSet w rs rb L) (f t : Int) (hf1 : f ≤ 9223372036854775807) (hf : 0 ≤ f) (ht : t ≤ (L.length : Int)) :
    Calls Tryd.prog 21 #[.pointer (some ⟨rs, 0, none⟩), .int .i64 f, .int .i64 t] w (RCountPost L f t w) := by
  have h0 := h.c0
  have hmax := h.max
  have H := hide h
  clear h
  go_enter Tryd.func21, Tryd.ntmps21
  go_wp2
  go_loop [7, 8] (fun c a => ∃ A : Nat, a = .int .i64 A ∧ c = .int .i64 ((cntS (rS L) f t A : Nat) : Int) ∧ (f : Int) ≤ A ∧ ((f : Int) = A ∨ A ≤ L.length)) (fun _ a => (t - intOf a).toNat)
  case atStart => exact ⟨(f : Int).toNat, by go_num, by rw [cntS_none (by omega)]; rfl, by omega, by omega⟩
  case round =>
    obtain ⟨A, rfl, rfl, hA, hA2⟩ := hrel
    by_cases hlt : (A : Int) < t
    · have hl2 : A < L.length := by omega
      have hl3 : (A : Int) < (L.length : Int) := by omega
      have hc := H.out.cw hl2
      have HS := hide (cntS_succ (rS L) f t A)
      have hle := cntS_le (rS L) f t A
      have hd : Hid (decide (f ≤ (A : Int) ∧ (A : Int) < t) = true) := by
        show _ = true
        rw [decide_eq_true_eq]; omega
      generalize rS L A = x at *
      generalize cntS (rS L) f t A = c at *
      cases x
      · go_wp2
        go_round
        case rel => exact ⟨A + 1, by go_num, by rw [HS.out]; simp, by omega, by omega⟩
        case measure => simp [intOf]; omega
      · go_wp2
        go_round
        case rel => exact ⟨A + 1, by go_num, by rw [HS.out, hd.out]; simp, by omega, by omega⟩
        case measure => simp [intOf]; omega
    · have HE : Hid (cntS (rS L) f t A = cntS (rS L) f t L.length) := by
        show _ = _
        rcases Nat.le_total A L.length with h | h
        · exact (cntS_far (fun j a b => .inr (by omega)) h).symm
        · exact cntS_far (fun j a b => .inl (rS_far a)) h
      generalize cntS (rS L) f t A = c at *
      go_wp2
      go_ret
      exact ⟨ret_int (by rw [HE.out]), rfl⟩
theorem r1count_fn {w : World} {rs rb : Nat} {L : List Bool} (h : RSet w rs rb L) (f t : Int) (hf1 : f ≤ 9223372036854775807) (hf : 0 ≤ f) (ht : (L.length : Int) < t) :
    Calls Tryd.prog 21 #[.pointer (some ⟨rs, 0, none⟩), .int .i64 f, .int .i64 t] w (RCountPost L f t w) := by
  have h0 := h.c0
  have hmax := h.max
  have H := hide h
  clear h
  go_enter Tryd.func21, Tryd.ntmps21
  go_wp2
  go_loop [7, 8] (fun c a => ∃ A : Nat, a = .int .i64 A ∧ c = .int .i64 ((cntS (rS L) f t A : Nat) : Int) ∧ (f : Int) ≤ A ∧ ((f : Int) = A ∨ A ≤ L.length)) (fun _ a => ((L.length : Int) - intOf a).toNat)
  case atStart => exact ⟨(f : Int).toNat, by go_num, by rw [cntS_none (by omega)]; rfl, by omega, by omega⟩
  case round =>
    obtain ⟨A, rfl, rfl, hA, hA2⟩ := hrel
    by_cases hlt : (A : Int) < (L.length : Int)
    · have hl2 : A < L.length := by omega
      have hl3 : (A : Int) < (L.length : Int) := by omega
      have hc := H.out.cw hl2
      have HS := hide (cntS_succ (rS L) f t A)
      have hle := cntS_le (rS L) f t A
      have hd : Hid (decide (f ≤ (A : Int) ∧ (A : Int) < t) = true) := by
        show _ = true
        rw [decide_eq_true_eq]; omega
      generalize rS L A = x at *
      generalize cntS (rS L) f t A = c at *
      cases x
      · go_wp2
        go_round
        case rel => exact ⟨A + 1, by go_num, by rw [HS.out]; simp, by omega, by omega⟩
        case measure => simp [intOf]; omega
      · go_wp2
        go_round
        case rel => exact ⟨A + 1, by go_num, by rw [HS.out, hd.out]; simp, by omega, by omega⟩
        case measure => simp [intOf]; omega
    · have HE : Hid (cntS (rS L) f t A = cntS (rS L) f t L.length) := by
        show _ = _
        rcases Nat.le_total A L.length with h | h
        · exact (cntS_far (fun j a b => .inr (by omega)) h).symm
        · exact cntS_far (fun j a b => .inl (rS_far a)) h
      generalize cntS (rS L) f t A = c at *
      go_wp2
      go_ret
      exact ⟨ret_int (by rw [HE.out]), rfl⟩
theorem r1count_zt {w : World} {rs rb : Nat} {L : List Bool} (h : RSet w rs rb L) (f t : Int) (hf1 : f ≤ 9223372036854775807) (hf : f < 0) (ht : t ≤ (L.length : Int)) :
    Calls Tryd.prog 21 #[.pointer (some ⟨rs, 0, none⟩), .int .i64 f, .int .i64 t] w (RCountPost L f t w) := by
  have h0 := h.c0
  have hmax := h.max
  have H := hide h
  clear h
  go_enter Tryd.func21, Tryd.ntmps21
  go_wp2
  go_loop [7, 8] (fun c a => ∃ A : Nat, a = .int .i64 A ∧ c = .int .i64 ((cntS (rS L) f t A : Nat) : Int) ∧ (0 : Int) ≤ A ∧ ((0 : Int) = A ∨ A ≤ L.length)) (fun _ a => (t - intOf a).toNat)
  case atStart => exact ⟨0, rfl, rfl, by omega, by omega⟩
  case round =>
    obtain ⟨A, rfl, rfl, hA, hA2⟩ := hrel
    by_cases hlt : (A : Int) < t
    · have hl2 : A < L.length := by omega
      have hl3 : (A : Int) < (L.length : Int) := by omega
      have hc := H.out.cw hl2
      have HS := hide (cntS_succ (rS L) f t A)
      have hle := cntS_le (rS L) f t A
      have hd : Hid (decide (f ≤ (A : Int) ∧ (A : Int) < t) = true) := by
        show _ = true
        rw [decide_eq_true_eq]; omega
      generalize rS L A = x at *
      generalize cntS (rS L) f t A = c at *
      cases x
      · go_wp2
        go_round
        case rel => exact ⟨A + 1, by go_num, by rw [HS.out]; simp, by omega, by omega⟩
        case measure => simp [intOf]; omega
      · go_wp2
        go_round
        case rel => exact ⟨A + 1, by go_num, by rw [HS.out, hd.out]; simp, by omega, by omega⟩
        case measure => simp [intOf]; omega
    · have HE : Hid (cntS (rS L) f t A = cntS (rS L) f t L.length) := by
        show _ = _
        rcases Nat.le_total A L.length with h | h
        · exact (cntS_far (fun j a b => .inr (by omega)) h).symm
        · exact cntS_far (fun j a b => .inl (rS_far a)) h
      generalize cntS (rS L) f t A = c at *
      go_wp2
      go_ret
      exact ⟨ret_int (by rw [HE.out]), rfl⟩
theorem r1count_zn {w : World} {rs rb : Nat} {L : List Bool} (h : RSet w rs rb L) (f t : Int) (hf1 : f ≤ 9223372036854775807) (hf : f < 0) (ht : (L.length : Int) < t) :
    Calls Tryd.prog 21 #[.pointer (some ⟨rs, 0, none⟩), .int .i64 f, .int .i64 t] w (RCountPost L f t w) := by
  have h0 := h.c0
  have hmax := h.max
  have H := hide h
  clear h
  go_enter Tryd.func21, Tryd.ntmps21
  go_wp2
  go_loop [7, 8] (fun c a => ∃ A : Nat, a = .int .i64 A ∧ c = .int .i64 ((cntS (rS L) f t A : Nat) : Int) ∧ (0 : Int) ≤ A ∧ ((0 : Int) = A ∨ A ≤ L.length)) (fun _ a => ((L.length : Int) - intOf a).toNat)
  case atStart => exact ⟨0, rfl, rfl, by omega, by omega⟩
  case round =>
    obtain ⟨A, rfl, rfl, hA, hA2⟩ := hrel
    by_cases hlt : (A : Int) < (L.length : Int)
    · have hl2 : A < L.length := by omega
      have hl3 : (A : Int) < (L.length : Int) := by omega
      have hc := H.out.cw hl2
      have HS := hide (cntS_succ (rS L) f t A)
      have hle := cntS_le (rS L) f t A
      have hd : Hid (decide (f ≤ (A : Int) ∧ (A : Int) < t) = true) := by
        show _ = true
        rw [decide_eq_true_eq]; omega
      generalize rS L A = x at *
      generalize cntS (rS L) f t A = c at *
      cases x
      · go_wp2
        go_round
        case rel => exact ⟨A + 1, by go_num, by rw [HS.out]; simp, by omega, by omega⟩
        case measure => simp [intOf]; omega
      · go_wp2
        go_round
        case rel => exact ⟨A + 1, by go_num, by rw [HS.out, hd.out]; simp, by omega, by omega⟩
        case measure => simp [intOf]; omega
    · have HE : Hid (cntS (rS L) f t A = cntS (rS L) f t L.length) := by
        show _ = _
        rcases Nat.le_total A L.length with h | h
        · exact (cntS_far (fun j a b => .inr (by omega)) h).symm
        · exact cntS_far (fun j a b => .inl (rS_far a)) h
      generalize cntS (rS L) f t A = c at *
      go_wp2
      go_ret
      exact ⟨ret_int (by rw [HE.out]), rfl⟩
theorem r1count_any {w : World} {rs rb : Nat} {L : List Bool} (h : RSet w rs rb L) (f t : Int) (hf1 : f ≤ 9223372036854775807) :
    Calls Tryd.prog 21 #[.pointer (some ⟨rs, 0, none⟩), .int .i64 f, .int .i64 t] w (RCountPost L f t w) := by
  rcases (show 0 ≤ f ∨ f < 0 by omega) with hf | hf <;> rcases (show t ≤ (L.length : Int) ∨ (L.length : Int) < t by omega) with ht | ht
  · exact r1count_ft h f t hf1 hf ht
  · exact r1count_fn h f t hf1 hf ht
  · exact r1count_zt h f t hf1 hf ht
  · exact r1count_zn h f t hf1 hf ht
end Go.Proofs.YtbgemiapnnncaaaDoor
