/- gleanerref13: what Shape and Words read. -/
import Derived.Test.YtmodjkglcgoohaaHi
import Derived.WalkKit
import Derived.BigQuiet
import Derived.Deep.CutRange
import Derived.Deep.RegionHeld3
namespace Go.Proofs.Ytmodjkglcgoohaa
set_option linter.unusedVariables false
set_option linter.unusedSimpArgs false
open Go.RowKit Go.Gl
def ReadAt (w1 : World) (Λ : ML) (σ : GS) (A : Option Addr) (k : Nat) (r : Int) : Prop :=
    ∃ (b cc q gl ol : Nat) (rA : Option Addr) (rc : Nat) (dA : Option Addr) (dc : Nat) (dG : List Nat), A = some ⟨gl, ol, none⟩ ∧ r = (q : Int) + 1 ∧ q < σ.N ∧ (∀ w, Fr [] w1 w →
      w.cell? ⟨Λ.m, 1, none⟩ = some (.slice (some ⟨b, 0, none⟩) σ.N cc) ∧ w.cell? ⟨gl, ol + k, none⟩ = some (.int .i64 ((q : Int) + 1)) ∧ w.cell? ⟨b, q * 2, none⟩ = some (.slice rA (σ.np r) rc) ∧ w.cell? ⟨b, q * 2 + 1, none⟩ = some (.slice dA (σ.nw r) dc) ∧
      Sl w rA (σ.np r) (fun j => .int .u64 ((kids σ r).getD j 0)) ∧ Lr w 32 dA (σ.nw r) dc dG (refV (datas σ r)))
section
variable {W w1 : World} {tg : TG} {Λ : ML} {T B M : Nat} {σ : GS} {nb n c : Nat} {A : Option Addr} {O : List Int}
/-- An object of the order: what is read of it wherever nothing old has turned. -/
theorem MG.read (h : MG W tg Λ T T B M σ) (ok : GOk T B σ) (ht : TrAt W w1 σ.N nb A n c (order σ T)) (hn : n = (order σ T).length) {k : Nat} {r : Int} (hr : (order σ T)[k]? = some r) : ReadAt w1 Λ σ A k r := by
  obtain ⟨h1, h2⟩ := order_in ok (List.mem_of_getElem? hr)
  obtain ⟨b, cc, q, q1, q2, q3, q4, q5, q6, q7⟩ := h.ob h1 h2
  obtain ⟨rA, rc, e1, e2⟩ := (h.refs r h1 h2).sl
  obtain ⟨dA, dc, dG, e3, e4, _⟩ := h.data r h1 h2
  have hdl : (datas σ r).length = σ.nw r := by simp [datas]
  rw [kids_len] at e1 e2
  rw [hdl] at e3 e4
  obtain ⟨hf, G, k1, k2, k3, k4⟩ := ht
  obtain ⟨hk, _⟩ := List.getElem?_eq_some_iff.1 hr
  obtain ⟨gl, ol, rfl, _, hgl, hcell, _, _⟩ := k1.pos (by omega)
  refine ⟨b, cc, q, gl, ol, rA, rc, dA, dc, dG, rfl, q1, q2, fun w hw => ?_⟩
  have hfw := hf.trans_same hw
  have c1 := h.c1
  refine ⟨?_, ?_, ?_, ?_, e2.fr hfw (by simp), e4.fr0 hfw⟩
  · rw [hfw.cell (p := ⟨Λ.m, 1, none⟩) h.st.lt (by simp), c1, q3]
  · rw [hw.cell (p := ⟨gl, ol + k, none⟩) hgl (by simp), hcell k (by omega), zv_get _ hk, ← q1]
    simp [hr]
  · rw [hfw.cell (p := ⟨b, q * 2, none⟩) q5 (by simp), q6, e1]
  · rw [hfw.cell (p := ⟨b, q * 2 + 1, none⟩) q5 (by simp), q7, e3]
theorem TrAt.num (ht : TrAt W w1 σ.N nb A n c O) {q : Nat} (hq : q ≤ σ.N) {w : World} (hw : Fr [] w1 w) : w.cell? ⟨nb, q, none⟩ = some (.int .u64 (num O (q : Int))) := by
  obtain ⟨hf, G, k1, k2, k3, k4⟩ := ht
  rw [(k2.fr hw (by simp)).cell]
  exact rowF_at (by omega)
theorem sum_le (σ : GS) {B T : Nat} (ok : GOk T B σ) : ∀ L : List Int, (L.map (sizeOb σ)).sum ≤ L.length * 2097153
  | [] => by simp
  | r :: L => by
    have h := sum_le σ ok L
    have h1 := ok.np r
    have h2 := ok.nw r
    simp only [List.map_cons, List.sum_cons, List.length_cons, sizeOb]
    omega
end
end Go.Proofs.Ytmodjkglcgoohaa
