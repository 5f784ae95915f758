/- Several texts joined (pack.py): Hl Zw. -/
import Derived.Test.YtfcjdinlcehpmaaGreatDoorPW43
import Derived.Test.YtfcjdinlcehpmaaGreatDoorPW16
import Derived.WalkKit
import Derived.BigQuiet
import Derived.Deep.CutRange
import Derived.Deep.RegionHeld3
import Derived.Test.YtfcjdinlcehpmaaGreatDoorPW41
namespace Go.Proofs.YtfcjdinlcehpmaaGreatDoor
set_option maxRecDepth 100000
set_option linter.unusedVariables false
set_option linter.unusedSimpArgs false
open Go.RowKit Go.Gl
def OutAt(w1 w:World)(A:Option Addr)(n c:Nat)(out:List Int):Prop:=Fr [] w1 w∧∃G,Lr w 42 A n c G (refV out)∧∀g,g∈G→w1.heap.size≤g
section
variable {W w1:World}{tg:TG}{Λ:ML}{T B M:Nat}{σ:GS}
end
open Go.RowKit Go.Gl HS
def At15(W w:World)(L:HL)(s k:Nat)(Λ:WL)(g M T:Nat)(Ops:Nat→Nat→Po)(On:Nat→Nat)(V:WS)(h:HS)(x:HT)(σ:GS)(A:Nat→Nat)(Γ:WG):Prop:=
 Γ.g=g∧∃(X:HX) (rv:Nat→Option (Nat×Nat)),HM W w L X h x s k (wE Λ L.hb Γ.g T V++[]) (gD (fun _=>False) Λ Γ (·<T)) (gQ (fun _=>True) Λ Γ (·<T) T L.B M σ)∧WP W L.B h x (fun _=>False) Λ Γ M T V σ A rv Ops On True
def In15(W w:World)(L:HL)(s k:Nat)(Λ:WL)(g M T:Nat)(Ops:Nat→Nat→Po)(On:Nat→Nat)(P:WS→HS→HT→GS→(Nat→Nat)→WG→Prop):Prop:=
 ∃V h x σ A Γ,At15 W w L s k Λ g M T Ops On V h x σ A Γ∧P V h x σ A Γ
section
variable {W w w':World}{L:HL}{s k:Nat}{Λ:WL}{g M T:Nat}{Ops:Nat→Nat→Po}{On:Nat→Nat}{V V':WS}{h h':HS}{x:HT}{σ σ':GS}{A A':Nat→Nat}{Γ Γ':WG}{t:Nat}{P:WS→HS→HT→GS→(Nat→Nat)→WG→Prop}
theorem rkM_2{s:Int}(h0:s≠0)(h6:s≠6):2≤rkM s:=by unfold rkM;rw [if_neg h0,if_neg h6];split <;> (try split) <;> omega
def leftW(On:Nat→Nat)(V:WS)(t:Nat):Nat:=if (V.mu t).st=0 then 6*(On t-V.nx t) else if (V.mu t).st=6 then 6*(On t-V.nx t)+1 else 6*(On t-V.nx t-1)+rkM (V.mu t).st
theorem WR.left(r:WR t On Ops h h' Γ Γ' V V' σ σ' A A')(hs:V.sy=false)(hc:(V.mu t).st≠0→(V.mu t).st≠6→V.nx t<On t)(hg:(V.mu t).st≠0∨V.nx t<On t):leftW On V' t<leftW On V t:=by
 obtain⟨-,-,-,-,-,-,-,r⟩:=r
 have r0:rkM 0=0:=by decide
 have r6:rkM 6=1:=by decide
 unfold leftW
 rcases r with r | ⟨r1,r2,r3,r4,r5,-⟩ | ⟨-,r1,r2,r3,-,r4,-⟩ | ⟨r1,r2,r3,-⟩ | ⟨r1,r2,r3,r4,-⟩ | ⟨-,r1,r2,r3,r4,-⟩ | r
 ·rcases hg with e | e
  ·exact absurd r.1 e
  ·omega
 ·have h0:(V'.mu t).st≠0:=by rcases r4 with e | e | ⟨e,-⟩ <;> (rw [e];decide)
  have h6:(V'.mu t).st≠6:=by rcases r4 with e | e | ⟨e,-⟩ <;> (rw [e];decide)
  rw [if_neg h0,if_neg h6,r1]
  by_cases e0:(V.mu t).st=0
  ·rw [if_pos e0]at r5 ⊢
   have:rkM 1=4:=by decide
   omega
  ·rw [if_neg e0]at r5
   rw [if_neg e0,if_neg r3]
   omega
 ·rw [r4,r3,r1]
  have a:rkM 4=2:=by decide
  have b:rkM 3=3:=by decide
  simp
  omega
 ·rw [r1,r2,r3]
  simp
 ·have hl:∀n,6*(On t-(V.nx t+1))+1<6*(On t-V.nx t-1)+2+n:=fun n=>by omega
  have key:6*(On t-(V.nx t+1))+1<(if (V.mu t).st=0 then 6*(On t-V.nx t) else if (V.mu t).st=6 then 6*(On t-V.nx t)+1 else 6*(On t-V.nx t-1)+rkM (V.mu t).st):=by
   by_cases e0:(V.mu t).st=0
   ·rw [if_pos e0];omega
   ·rw [if_neg e0,if_neg r1]
    have:=rkM_2 e0 r1
    omega
  refine Nat.lt_of_le_of_lt ?_ key
  rw [r3]
  rcases r4 with r4 | r4 <;> (rw [r4];simp)
 ·rw [r4,r3]
  simp
  by_cases e0:(V.mu t).st=0
  ·rw [if_pos e0];omega
  ·rw [if_neg e0,if_neg r1]
   have:=rkM_2 e0 r1
   omega
 ·rw [hs]at r;cases r.1
end
end Go.Proofs.YtfcjdinlcehpmaaGreatDoor
