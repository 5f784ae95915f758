/- Several texts joined (pack.py): Zc. -/
import Derived.Test.YtfcjdinlcehpmaaGreatDoorPW18
namespace Go.Proofs.YtfcjdinlcehpmaaGreatDoor
set_option linter.unusedVariables false
set_option linter.unusedSimpArgs false
set_option maxRecDepth 100000
open Go.RowKit Go.Gl HS
section
variable {h:HS}{σ:GS}{A:Nat→Nat}{rv:Nat→Option (Nat×Nat)}{s k:Nat}{B M T t:Nat}
theorem Sim.hst(m:Sim h σ A rv){i:Nat}(hi:i<h.T):h.hG.st i=(σ.st i).map (refO A):=m.st i hi
theorem hkPushE_map(A:Nat→Nat)(B:Nat)(l:List Int):hkPushE B (l.map (refO A))=hkPushE B l:=by
 unfold hkPushE
 simp
theorem hkPopE_map(A:Nat→Nat)(l:List Int):hkPopE (l.map (refO A))=hkPopE l:=by
 unfold hkPopE
 simp
theorem setN_setF(f:Nat→List Int)(i:Nat)(l:List Int):setF f i l=setN f i l:=by
 funext j
 unfold setF setN
 rfl
theorem Sim.whole(m:Sim h σ A rv)(gk:GOk T B σ)(hT:h.T=T)(ht:t<T)(o:Po)(hk:¬ (1≤o.k∧o.k≤5)) :
  actA B M T h.hG t o=actA B M T σ t o∧Sim { h with st:=(actS B M T h.hG t o).st } (actS B M T σ t o) A rv:=by
 have ht':t<h.T:=by omega
 have e0:=m.hst ht'
 have ne:∀j:Int,1≤j→j≤5→o.k≠j:=fun j h1 h2 e=>hk (by omega)
 have n1:=ne 1 (by decide) (by decide)
 have n2:=ne 2 (by decide) (by decide)
 have n3:=ne 3 (by decide) (by decide)
 have n4:=ne 4 (by decide) (by decide)
 have n5:=ne 5 (by decide) (by decide)
 have q:∀j:Int,(o.k=j)→(∀i:Int,i≠j→o.k≠i):=fun j e i hij e2=>hij (by omega)
 unfold actA actS
 simp only [if_neg n1,if_neg n2,if_neg n3,if_neg n4,if_neg n5]
 by_cases k6:o.k=6
 ·simp only [if_pos k6]
  refine⟨by rw [e0,hkPushE_map],?_⟩
  show Sim { h with st:=setF h.st t (hkPush B (h.st t) 0) } _ A rv
  rw [setN_setF]
  have:=m.push (B:=B) ht' 0
  rw [refO_zero]at this
  exact this
 simp only [if_neg k6]
 by_cases k7:o.k=7
 ·simp only [if_pos k7]
  refine⟨by rw [e0,hkPopE_map],?_⟩
  show Sim { h with st:=setF h.st t (hkPop (h.st t)) } _ A rv
  rw [setN_setF]
  exact m.pop ht'
 simp only [if_neg k7]
 by_cases k8:o.k=8
 ·simp only [if_pos k8]
  unfold dupE dupS
  rw [e0,hkPushE_map]
  by_cases hi:hkIn (σ.st t) o.a
  ·have hi':=(hkIn_map A (σ.st t) o.a).2 hi
   rw [if_pos hi,if_pos hi',if_pos hi,if_pos hi']
   refine⟨rfl,?_⟩
   show Sim { h with st:=setF h.st t (hkPush B (h.st t) (hkAt ((σ.st t).map (refO A)) o.a)) } _ A rv
   rw [setN_setF,hkAt_map]
   exact m.push ht' _
  ·have hi':=fun e=>hi ((hkIn_map A (σ.st t) o.a).1 e)
   rw [if_neg hi,if_neg hi',if_neg hi,if_neg hi']
   exact⟨rfl,m⟩
 simp only [if_neg k8]
 by_cases k13:o.k=13
 ·have k9:=q 13 k13 9 (by decide)
  have k10:=q 13 k13 10 (by decide)
  have k11:=q 13 k13 11 (by decide)
  have k12:=q 13 k13 12 (by decide)
  simp only [if_neg k9,if_neg k10,if_neg k11,if_neg k12,if_pos k13]
  unfold sendE sendS
  rw [e0]
  by_cases hi:hkIn (σ.st t) o.a
  ·have hi':=(hkIn_map A (σ.st t) o.a).2 hi
   by_cases hb:fieldIn T o.b
   ·have hb':=hb
    unfold fieldIn at hb'
    have hbT:o.b.toNat<h.T:=by omega
    have hib:=And.intro hi hb
    have hib':=And.intro hi' hb
    simp only [if_pos hi,if_pos hi',if_pos hb,if_pos hib,if_pos hib',m.hst hbT,hkPushE_map]
    refine⟨trivial,?_⟩
    show Sim { h with st:=setF h.st o.b.toNat (hkPush B (h.st o.b.toNat) (hkAt ((σ.st t).map (refO A)) o.a)) } _ A rv
    rw [setN_setF,hkAt_map]
    exact m.push hbT _
   ·have hib:¬ (hkIn (σ.st t) o.a∧fieldIn T o.b):=fun e=>hb e.2
    have hib':¬ (hkIn ((σ.st t).map (refO A)) o.a∧fieldIn T o.b):=fun e=>hb e.2
    simp only [if_pos hi,if_pos hi',if_neg hb,if_neg hib,if_neg hib']
    exact⟨trivial,m⟩
  ·have hi':=fun e=>hi ((hkIn_map A (σ.st t) o.a).1 e)
   have hib:¬ (hkIn (σ.st t) o.a∧fieldIn T o.b):=fun e=>hi e.1
   have hib':¬ (hkIn ((σ.st t).map (refO A)) o.a∧fieldIn T o.b):=fun e=>hi' e.1
   simp only [if_neg hi,if_neg hi',if_neg hib,if_neg hib']
   exact⟨trivial,m⟩
 simp only [if_neg k13]
 refine⟨?_,m⟩
 by_cases k9:o.k=9
 ·simp only [if_pos k9]
  have eE:equalE h.hG t o.a o.b=equalE σ t o.a o.b:=by
   unfold equalE
   rw [e0,hkAtE_map]
   by_cases hi:hkIn (σ.st t) o.a
   ·rw [if_pos hi,if_pos ((hkIn_map A _ _).2 hi)]
   ·rw [if_neg hi,if_neg (fun e=>hi ((hkIn_map A _ _).1 e))]
  have eV:equalV h.hG t o.a o.b=equalV σ t o.a o.b:=by
   unfold equalV
   rw [e0]
   rw [decide_eq_decide,hkIn_map,hkIn_map,hkAt_map,hkAt_map]
   constructor
   ·rintro⟨h1,h2,h3⟩
    exact⟨h1,h2,m.inj (gk.at t o.a) (gk.at t o.b) h3⟩
   ·rintro⟨h1,h2,h3⟩
    exact⟨h1,h2,by rw [h3]⟩
  rw [eE,eV]
 simp only [if_neg k9]
 by_cases k10:o.k=10
 ·simp only [if_pos k10]
  have eV:isNilV h.hG t o.a=isNilV σ t o.a:=by
   unfold isNilV
   rw [e0]
   rw [decide_eq_decide,hkIn_map,hkAt_map]
   constructor
   ·rintro⟨h1,h2⟩
    exact⟨h1,Classical.byContradiction fun e=>refO_nz A e h2⟩
   ·rintro⟨h1,h2⟩
    exact⟨h1,by rw [h2,refO_zero]⟩
  rw [eV,e0,hkAtE_map]
 simp only [if_neg k10]
end
end Go.Proofs.YtfcjdinlcehpmaaGreatDoor
