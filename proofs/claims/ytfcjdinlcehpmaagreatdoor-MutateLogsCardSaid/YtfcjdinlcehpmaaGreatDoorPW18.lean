/- Several texts joined (pack.py): Zb Uf Ug Uh Uq. -/
import Derived.Test.YtfcjdinlcehpmaaGreatDoorPW17
import Derived.WalkKit
import Derived.BigQuiet
import Derived.Deep.CutRange
import Derived.Deep.RegionHeld3
import Derived.Test.YtfcjdinlcehpmaaGreatDoorPW14
import Derived.Test.YtfcjdinlcehpmaaGreatDoorPW16
namespace Go.Proofs.YtfcjdinlcehpmaaGreatDoor
set_option linter.unusedVariables false
set_option linter.unusedSimpArgs false
set_option maxRecDepth 100000
open Go.RowKit Go.Gl HS
section
variable {h:HS}{σ:GS}{A:Nat→Nat}{rv:Nat→Option (Nat×Nat)}{s k:Nat}
theorem in_div{W u r:Nat}(hW:1≤W)(h1:r*W≤u)(h2:u<r*W+W):u / W=r:=by
 rw [Nat.div_eq_iff (by omega)]
 constructor
 ·exact h1
 ·have:r*W+W-1+1=r*W+W:=by omega
  omega
theorem div_in'{W u:Nat}(hW:1≤W):u / W*W≤u∧u<u / W*W+W:=by
 have h1:=Nat.div_add_mod u W
 have h2:=Nat.mod_lt u (show 0<W by omega)
 have h3:W*(u / W)=u / W*W:=Nat.mul_comm _ _
 omega
theorem reg_lt{R W r:Nat}(hr:r<R):r*W+W≤R*W:=by
 have:=Nat.mul_le_mul_right W (show r+1≤R by omega)
 rw [Nat.add_mul,Nat.one_mul]at this
 exact this
theorem reg_same{W r q:Nat}(hW:1≤W)(e:r*W+W=q*W+W):r=q:=by
 have:r*W=q*W:=by omega
 exact Nat.eq_of_mul_eq_mul_right (by omega) this
theorem Sim.own(m:Sim h σ A rv)(hnn:h.n=h.R*h.W)(hW:1≤h.W){t:Nat}(ht:t<h.T){n a:Nat}(hn:1≤n∧n≤1048576)(ha:h.bx t=(a:Int))(hn2:h.bx t+(n:Int)≤h.be t)(hr:rv t=none) :
  Sim { h with bx:=put1 h.bx t (h.bx t+(n:Int)) } σ A (setF rv t (some (a,n))):=by
 obtain⟨r,r1,r2,r3,r4,r5⟩:=m.buf.reg t ht (by omega)
 have hrl:=reg_lt (W:=h.W) r1
 have eb:∀i,i≠t→put1 h.bx t (h.bx t+(n:Int)) i=h.bx i:=fun i e=>by unfold put1;rw [if_neg e]
 have et:put1 h.bx t (h.bx t+(n:Int)) t=h.bx t+(n:Int):=by unfold put1;rw [if_pos rfl]
 have bx1:∀i,h.bx i≤put1 h.bx t (h.bx t+(n:Int)) i:=fun i=>by
  by_cases e:i=t
  ·subst e;rw [et];omega
  ·rw [eb i e];omega
 refine m.take (h':={ h with bx:=put1 h.bx t (h.bx t+(n:Int)) }) ⟨fun i hi hb=>?_,fun i j hi hj hne h1 h2=>?_⟩ rfl rfl rfl (fun u hu=>⟨hu.1,hu.2.1,hu.2.2.1,fun i hi hx=>hu.2.2.2 i hi ⟨Int.le_trans (bx1 i) hx.1,hx.2⟩⟩) hr hn (fun u h1 h2=>⟨fun hu=>hu.2.2.2 t ht ⟨by omega,by omega⟩,?_⟩) ht rfl rfl (fun u hu=>?_) (fun _ _=>rfl) (fun r hr h4=>?_) ?_
 ·have hb:put1 h.bx t (h.bx t+(n:Int)) i<h.be i:=hb
  have:=bx1 i
  obtain⟨q,q1,q2,q3,q4,q5⟩:=m.buf.reg i hi (by omega)
  exact⟨q,q1,q2,Int.le_trans q3 this,q4,q5⟩
 ·have h1:put1 h.bx t (h.bx t+(n:Int)) i<h.be i:=h1
  have h2:put1 h.bx t (h.bx t+(n:Int)) j<h.be j:=h2
  have:=bx1 i
  have:=bx1 j
  exact m.buf.one i j hi hj hne (by omega) (by omega)
 ·have er:u / h.W=r:=in_div hW (by omega) (by omega)
  refine⟨by show u<h.n;omega,by show h.s (u / h.W)≠0;rw [er,r2];decide,by show(u:Int)<h.t (u / h.W);rw [er,r5];omega,fun i hi hx=>?_⟩
  have hx:put1 h.bx t (h.bx t+(n:Int)) i≤(u:Int)∧(u:Int)<h.be i:=hx
  by_cases e:i=t
  ·subst e;rw [et]at hx;omega
  ·rw [eb i e]at hx
   obtain⟨q,q1,q2,q3,q4,q5⟩:=m.buf.reg i hi (by omega)
   have e2:u / h.W=q:=in_div hW (by omega) (by omega)
   have:h.be i=h.be t:=by rw [q4,r4,← e2,er]
   exact m.buf.one i t hi ht e (by omega) (by omega) this
 ·by_cases e:a≤u∧u<a+n
  ·exact .inr e
  ·refine .inl ⟨hu.1,hu.2.1,hu.2.2.1,fun i hi hx=>hu.2.2.2 i hi ?_⟩
   show put1 h.bx t (h.bx t+(n:Int)) i≤(u:Int)∧(u:Int)<h.be i
   by_cases e2:i=t
   ·subst e2;rw [et];omega
   ·rw [eb i e2];exact hx
 ·obtain⟨Zs,mz⟩:=m.rest
  exact mz.hum r hr h4
 ·have er:a / h.W=r:=in_div hW (by omega) (by omega)
  refine .inl ⟨.inl ?_,?_⟩
  ·show h.s (a / h.W)=1
   rw [er,r2]
  ·show a+n≤a / h.W*h.W+h.W
   rw [er]
   omega
theorem Sim.drop(m:Sim h σ A rv)(hW:1≤h.W){t:Nat}(ht:t<h.T)(hreg:∀r,r<h.R→((r*h.W:Nat):Int)≤h.bx t→h.bx t<((r*h.W+h.W:Nat):Int)→(h.g.regionOf (h.bx t)).toNat=r):Sim (dropH h t) σ A rv:=by
 have ebx:∀i,i≠t→put1 h.bx t 0 i=h.bx i:=fun i e=>by unfold put1;rw [if_neg e]
 have ebe:∀i,i≠t→put1 h.be t 0 i=h.be i:=fun i e=>by unfold put1;rw [if_neg e]
 have etx:put1 h.bx t 0 t=0:=by unfold put1;rw [if_pos rfl]
 have ete:put1 h.be t 0 t=0:=by unfold put1;rw [if_pos rfl]
 by_cases hb:h.bx t<h.be t
 ·obtain⟨r,r1,r2,r3,r4,r5⟩:=m.buf.reg t ht hb
  have er:=hreg r r1 r3 (by omega)
  have eT:(dropH h t).t=put1 h.t r (h.bx t):=by unfold dropH dropT;rw [if_pos hb,er]
  have eTr:∀q,q≠r→(dropH h t).t q=h.t q:=fun q e=>by rw [eT];unfold put1;rw [if_neg e]
  have eTt:(dropH h t).t r=h.bx t:=by rw [eT];unfold put1;rw [if_pos rfl]
  refine m.move ⟨fun i hi hx=>?_,fun i j hi hj hne h1 h2=>?_⟩ rfl rfl rfl (fun u hu=>⟨hu.1,hu.2.1,?_,fun i hi hx=>?_⟩) rfl rfl (fun u hu=>?_) (fun _ _=>rfl) (fun q hq h4=>?_)
  ·have hx:put1 h.bx t 0 i<put1 h.be t 0 i:=hx
   by_cases e:i=t
   ·subst e;rw [etx,ete]at hx;omega
   ·rw [ebx i e,ebe i e]at hx
    obtain⟨q,q1,q2,q3,q4,q5⟩:=m.buf.reg i hi hx
    have hne:q≠r:=fun e2=>m.buf.one i t hi ht e hx hb (by rw [q4,r4,e2])
    refine⟨q,q1,q2,by show _≤put1 h.bx t 0 i;rw [ebx i e];exact q3,by show put1 h.be t 0 i=_;rw [ebe i e];exact q4,(eTr q hne).trans q5⟩
  ·have h1:put1 h.bx t 0 i<put1 h.be t 0 i:=h1
   have h2:put1 h.bx t 0 j<put1 h.be t 0 j:=h2
   show put1 h.be t 0 i≠put1 h.be t 0 j
   by_cases e:i=t
   ·subst e;rw [etx,ete]at h1;omega
   ·by_cases e':j=t
    ·subst e';rw [etx,ete]at h2;omega
    ·rw [ebx i e,ebe i e]at h1
     rw [ebx j e',ebe j e']at h2
     rw [ebe i e,ebe j e']
     exact m.buf.one i j hi hj hne h1 h2
  ·show(u:Int)<(dropH h t).t (u / h.W)
   by_cases e:u / h.W=r
   ·rw [e,eTt]
    have h3:=hu.2.2.1
    rw [e,r5]at h3
    have:=hu.2.2.2 t ht
    rw [r4]at this
    omega
   ·rw [eTr _ e];exact hu.2.2.1
  ·have hx:put1 h.bx t 0 i≤(u:Int)∧(u:Int)<put1 h.be t 0 i:=hx
   by_cases e:i=t
   ·subst e;rw [ete]at hx;omega
   ·rw [ebx i e,ebe i e]at hx
    exact hu.2.2.2 i hi hx
  ·obtain⟨u1,u2,u3,u4⟩:=hu
   have u3:(u:Int)<(dropH h t).t (u / h.W):=u3
   refine⟨u1,u2,?_,fun i hi hx=>?_⟩
   ·by_cases e:u / h.W=r
    ·rw [e,r5]
     rw [e,eTt]at u3
     omega
    ·rw [eTr _ e]at u3;exact u3
   ·by_cases e:i=t
    ·subst e
     have e2:u / h.W=r:=in_div hW (by omega) (by omega)
     rw [e2,eTt]at u3
     omega
    ·refine u4 i hi ?_
     show put1 h.bx t 0 i≤(u:Int)∧(u:Int)<put1 h.be t 0 i
     rw [ebx i e,ebe i e]
     exact hx
  ·have h4:h.s q=4:=h4
   obtain⟨Zs,mz⟩:=m.rest
   rw [eTr q (fun e=>by rw [e,r2]at h4;exact absurd h4 (by decide))]
   exact mz.hum q hq h4
 ·have eT:(dropH h t).t=h.t:=by unfold dropH dropT;rw [if_neg hb]
  refine m.move ⟨fun i hi hx=>?_,fun i j hi hj hne h1 h2=>?_⟩ rfl rfl rfl (fun u hu=>⟨hu.1,hu.2.1,by show(u:Int)<(dropH h t).t (u / h.W);rw [eT];exact hu.2.2.1,fun i hi hx=>?_⟩) rfl rfl (fun u hu=>?_) (fun _ _=>rfl) (fun q hq h4=>?_)
  ·have hx:put1 h.bx t 0 i<put1 h.be t 0 i:=hx
   by_cases e:i=t
   ·subst e;rw [etx,ete]at hx;omega
   ·rw [ebx i e,ebe i e]at hx
    obtain⟨q,q1,q2,q3,q4,q5⟩:=m.buf.reg i hi hx
    exact⟨q,q1,q2,by show _≤put1 h.bx t 0 i;rw [ebx i e];exact q3,by show put1 h.be t 0 i=_;rw [ebe i e];exact q4,by rw [eT];exact q5⟩
  ·have h1:put1 h.bx t 0 i<put1 h.be t 0 i:=h1
   have h2:put1 h.bx t 0 j<put1 h.be t 0 j:=h2
   show put1 h.be t 0 i≠put1 h.be t 0 j
   by_cases e:i=t
   ·subst e;rw [etx,ete]at h1;omega
   ·by_cases e':j=t
    ·subst e';rw [etx,ete]at h2;omega
    ·rw [ebx i e,ebe i e]at h1
     rw [ebx j e',ebe j e']at h2
     rw [ebe i e,ebe j e']
     exact m.buf.one i j hi hj hne h1 h2
  ·have hx:put1 h.bx t 0 i≤(u:Int)∧(u:Int)<put1 h.be t 0 i:=hx
   by_cases e:i=t
   ·subst e;rw [ete]at hx;omega
   ·rw [ebx i e,ebe i e]at hx
    exact hu.2.2.2 i hi hx
  ·obtain⟨u1,u2,u3,u4⟩:=hu
   have u3:(u:Int)<(dropH h t).t (u / h.W):=u3
   rw [eT]at u3
   refine⟨u1,u2,u3,fun i hi hx=>?_⟩
   by_cases e:i=t
   ·subst e;omega
   ·refine u4 i hi ?_
    show put1 h.bx t 0 i≤(u:Int)∧(u:Int)<put1 h.be t 0 i
    rw [ebx i e,ebe i e]
    exact hx
  ·obtain⟨Zs,mz⟩:=m.rest
   rw [eT]
   exact mz.hum q hq h4
theorem Sim.fill(m:Sim h σ A rv)(hW:1≤h.W){t j:Nat}(ht:t<h.T)(hl:LowFree h.s h.R j)(h0:¬ h.bx t<h.be t):Sim (fillH h t j) σ A rv:=by
 obtain⟨l1,l2,-⟩:=hl
 have ebx:∀i,i≠t→put1 h.bx t ((j*h.W:Nat):Int) i=h.bx i:=fun i e=>by unfold put1;rw [if_neg e]
 have ebe:∀i,i≠t→put1 h.be t ((j*h.W+h.W:Nat):Int) i=h.be i:=fun i e=>by unfold put1;rw [if_neg e]
 have etx:put1 h.bx t ((j*h.W:Nat):Int) t=((j*h.W:Nat):Int):=by unfold put1;rw [if_pos rfl]
 have ete:put1 h.be t ((j*h.W+h.W:Nat):Int) t=((j*h.W+h.W:Nat):Int):=by unfold put1;rw [if_pos rfl]
 have es:∀q,q≠j→put1 h.s j 1 q=h.s q:=fun q e=>by unfold put1;rw [if_neg e]
 have eT:∀q,q≠j→put1 h.t j ((j*h.W+h.W:Nat):Int) q=h.t q:=fun q e=>by unfold put1;rw [if_neg e]
 have old:∀i,i<h.T→i≠t→h.bx i<h.be i→∃r,r<h.R∧r≠j∧h.s r=1∧((r*h.W:Nat):Int)≤h.bx i∧h.be i=((r*h.W+h.W:Nat):Int)∧h.t r=((r*h.W+h.W:Nat):Int):=fun i hi e hx=>by
  obtain⟨q,q1,q2,q3,q4,q5⟩:=m.buf.reg i hi hx
  exact⟨q,q1,fun e2=>by rw [e2,l2]at q2;omega,q2,q3,q4,q5⟩
 refine m.move ⟨fun i hi hx=>?_,fun i i' hi hi' hne h1 h2=>?_⟩ rfl rfl rfl (fun u hu=>?_) rfl rfl (fun u hu=>?_) (fun q hq=>es q (fun e=>hq (by rw [e];exact l2))) (fun q hq h4=>?_)
 ·have hx:put1 h.bx t ((j*h.W:Nat):Int) i<put1 h.be t ((j*h.W+h.W:Nat):Int) i:=hx
  by_cases e:i=t
  ·subst e
   exact⟨j,l1,by show put1 h.s j 1 j=1;unfold put1;rw [if_pos rfl],by show _≤put1 h.bx i _ i;rw [etx];exact Int.le_refl _,by show put1 h.be i _ i=_;rw [ete];rfl,by show put1 h.t j _ j=_;unfold put1;rw [if_pos rfl];rfl⟩
  ·rw [ebx i e,ebe i e]at hx
   obtain⟨q,q1,q0,q2,q3,q4,q5⟩:=old i hi e hx
   exact⟨q,q1,(es q q0).trans q2,by show _≤put1 h.bx t _ i;rw [ebx i e];exact q3,by show put1 h.be t _ i=_;rw [ebe i e];exact q4,(eT q q0).trans q5⟩
 ·have h1:put1 h.bx t ((j*h.W:Nat):Int) i<put1 h.be t ((j*h.W+h.W:Nat):Int) i:=h1
  have h2:put1 h.bx t ((j*h.W:Nat):Int) i'<put1 h.be t ((j*h.W+h.W:Nat):Int) i':=h2
  show put1 h.be t ((j*h.W+h.W:Nat):Int) i≠put1 h.be t ((j*h.W+h.W:Nat):Int) i'
  by_cases e:i=t
  ·subst e
   rw [ebx i' (by omega),ebe i' (by omega)]at h2
   rw [ete,ebe i' (by omega)]
   obtain⟨q,q1,q0,q2,q3,q4,q5⟩:=old i' hi' (by omega) h2
   rw [q4]
   exact fun e2=>q0 (reg_same hW (by omega)).symm
  ·rw [ebx i e,ebe i e]at h1
   obtain⟨q,q1,q0,q2,q3,q4,q5⟩:=old i hi e h1
   by_cases e':i'=t
   ·subst e'
    rw [ete,ebe i e,q4]
    exact fun e2=>q0 (reg_same hW (by omega))
   ·rw [ebx i' e',ebe i' e']at h2
    rw [ebe i e,ebe i' e']
    exact m.buf.one i i' hi hi' hne h1 h2
 ·have hne:u / h.W≠j:=fun e=>by have:=hu.2.1;rw [e]at this;exact this l2
  refine⟨hu.1,by show put1 h.s j 1 (u / h.W)≠0;rw [es _ hne];exact hu.2.1,by show(u:Int)<put1 h.t j _ (u / h.W);rw [eT _ hne];exact hu.2.2.1,fun i hi hx=>?_⟩
  have hx:put1 h.bx t ((j*h.W:Nat):Int) i≤(u:Int)∧(u:Int)<put1 h.be t ((j*h.W+h.W:Nat):Int) i:=hx
  by_cases e:i=t
  ·subst e
   rw [etx,ete]at hx
   exact hne (in_div hW (by omega) (by omega))
  ·rw [ebx i e,ebe i e]at hx
   exact hu.2.2.2 i hi hx
 ·obtain⟨u1,u2,u3,u4⟩:=hu
  have hne:u / h.W≠j:=fun e=>by
   obtain⟨d1,d2⟩:=div_in' (u:=u) hW
   rw [e]at d1 d2
   refine u4 t ht ?_
   show put1 h.bx t ((j*h.W:Nat):Int) t≤(u:Int)∧(u:Int)<put1 h.be t ((j*h.W+h.W:Nat):Int) t
   rw [etx,ete]
   omega
  have u2:put1 h.s j 1 (u / h.W)≠0:=u2
  have u3:(u:Int)<put1 h.t j ((j*h.W+h.W:Nat):Int) (u / h.W):=u3
  rw [es _ hne]at u2
  rw [eT _ hne]at u3
  refine⟨u1,u2,u3,fun i hi hx=>?_⟩
  by_cases e:i=t
  ·subst e;omega
  ·refine u4 i hi ?_
   show put1 h.bx t ((j*h.W:Nat):Int) i≤(u:Int)∧(u:Int)<put1 h.be t ((j*h.W+h.W:Nat):Int) i
   rw [ebx i e,ebe i e]
   exact hx
 ·have h4:put1 h.s j 1 q=4:=h4
  have hne:q≠j:=fun e=>by subst e;unfold put1 at h4;rw [if_pos rfl]at h4;exact absurd h4 (by decide)
  rw [es q hne]at h4
  obtain⟨Zs,mz⟩:=m.rest
  show _<put1 h.t j _ q
  rw [eT q hne]
  exact mz.hum q hq h4
theorem Sim.run(m:Sim h σ A rv)(hnn:h.n=h.R*h.W)(hW:1≤h.W){t c f z:Nat}(ht:t<h.T)(hc:1≤c)(hz:1≤z∧z≤1048576)(hz1:(c-1)*h.W<z)(hz2:z≤c*h.W)(hl:LowRun h.s h.R c f)(hr:rv t=none) :
  Sim { h with s:=put1 (put2 h.s f (f+c) fun _=>5) f 4,t:=put2 h.t f (f+c) (runTop h.W f z) } σ A (setF rv t (some (f*h.W,z))):=by
 obtain⟨l1,l2,-⟩:=hl
 have fr:∀q,f≤q→q<f+c→h.s q=0:=fun q q1 q2=>l2 q q1 q2
 have es:∀q,h.s q≠0→put1 (put2 h.s f (f+c) fun _=>5) f 4 q=h.s q∧put2 h.t f (f+c) (runTop h.W f z) q=h.t q:=fun q hq=>by
  have:¬ (f≤q∧q<f+c):=fun e=>hq (fr q e.1 e.2)
  unfold put1 put2
  rw [if_neg (by omega),if_neg this,if_neg this]
  exact⟨rfl,rfl⟩
 have hfc:f*h.W+z≤(f+c)*h.W:=by rw [Nat.add_mul];omega
 have hRn:(f+c)*h.W≤h.R*h.W:=Nat.mul_le_mul_right _ l1
 refine m.take (h':={ h with s:=put1 (put2 h.s f (f+c) fun _=>5) f 4,t:=put2 h.t f (f+c) (runTop h.W f z) }) ⟨fun i hi hx=>?_,m.buf.one⟩ rfl rfl rfl (fun u hu=>⟨hu.1,by show put1 _ f 4 (u / h.W)≠0;rw [(es _ hu.2.1).1];exact hu.2.1,by show(u:Int)<put2 h.t f (f+c) _ (u / h.W);rw [(es _ hu.2.1).2];exact hu.2.2.1,hu.2.2.2⟩) hr hz (fun u h1 h2=>?_) ht rfl rfl (fun u hu=>?_) (fun q hq=>(es q hq).1) (fun q hq h4=>?_) ?_
 ·obtain⟨q,q1,q2,q3,q4,q5⟩:=m.buf.reg i hi hx
  have hq0:h.s q≠0:=by rw [q2];decide
  exact⟨q,q1,(es q hq0).1.trans q2,q3,q4,(es q hq0).2.trans q5⟩
 ·obtain⟨d1,d2⟩:=div_in' (u:=u) hW
  have hq1:f≤u / h.W:=by rw [Nat.le_div_iff_mul_le (by omega)];exact h1
  have hq2:u / h.W<f+c:=by rw [Nat.div_lt_iff_lt_mul (by omega)];omega
  have hs0:=fr _ hq1 hq2
  refine⟨fun hu=>hu.2.1 hs0,by show u<h.n;omega,?_,?_,fun i hi hx=>?_⟩
  ·show put1 (put2 h.s f (f+c) fun _=>5) f 4 (u / h.W)≠0
   unfold put1 put2
   split
   ·decide
   ·rw [if_pos ⟨hq1,hq2⟩]
    show(5:Int)≠0
    decide
  ·show(u:Int)<put2 h.t f (f+c) (runTop h.W f z) (u / h.W)
   unfold put2 runTop
   rw [if_pos ⟨hq1,hq2⟩]
   split <;> omega
  ·have hx:h.bx i≤(u:Int)∧(u:Int)<h.be i:=hx
   obtain⟨q,q1,q2,q3,q4,q5⟩:=m.buf.reg i hi (by omega)
   have e2:u / h.W=q:=in_div hW (by omega) (by omega)
   rw [e2,q2]at hs0
   omega
 ·obtain⟨u1,u2,u3,u4⟩:=hu
  have u2:put1 (put2 h.s f (f+c) fun _=>5) f 4 (u / h.W)≠0:=u2
  have u3:(u:Int)<put2 h.t f (f+c) (runTop h.W f z) (u / h.W):=u3
  by_cases e:f≤u / h.W∧u / h.W<f+c
  ·obtain⟨d1,d2⟩:=div_in' (u:=u) hW
   have:=Nat.mul_le_mul_right h.W e.1
   unfold put2 runTop at u3
   rw [if_pos e]at u3
   refine .inr ⟨by omega,?_⟩
   split at u3 <;> omega
  ·refine .inl ⟨u1,?_,?_,u4⟩
   ·unfold put1 put2 at u2
    rw [if_neg (by omega),if_neg e]at u2
    exact u2
   ·unfold put2 at u3
    rw [if_neg e]at u3
    exact u3
 ·have h4:put1 (put2 h.s f (f+c) fun _=>5) f 4 q=4:=h4
  show _<put2 h.t f (f+c) (runTop h.W f z) q
  by_cases e:q=f
  ·subst e
   unfold put2 runTop
   rw [if_pos (by omega)]
   split <;> omega
  ·by_cases e2:f≤q∧q<f+c
   ·unfold put1 put2 at h4
    rw [if_neg e,if_pos e2]at h4
    have h4:(5:Int)=4:=h4
    exact absurd h4 (by decide)
   ·unfold put1 put2 at h4
    rw [if_neg e,if_neg e2]at h4
    unfold put2
    rw [if_neg e2]
    obtain⟨Zs,mz⟩:=m.rest
    exact mz.hum q hq h4
 ·have ef:f*h.W / h.W=f:=Nat.mul_div_cancel _ (by omega)
  refine .inr ⟨?_,?_,fun i k1 k2=>?_⟩
  ·show put1 _ f 4 (f*h.W / h.W)=4
   rw [ef]
   unfold put1
   rw [if_pos rfl]
  ·show f*h.W=f*h.W / h.W*h.W
   rw [ef]
  ·show f*h.W / h.W+i<h.R∧put1 (put2 h.s f (f+c) fun _=>5) f 4 (f*h.W / h.W+i)=5
   rw [ef]
   have hic:i<c:=by
    have k2:i*h.W<z:=k2
    have:i*h.W<c*h.W:=by omega
    exact Nat.lt_of_mul_lt_mul_right this
   refine⟨by omega,?_⟩
   unfold put1 put2
   rw [if_neg (by omega),if_pos (by omega)]
end
section
variable {W w w':World}{L:HL}{X:HX}{h:HS}{x:HT}{s k:Nat}{E:Blks}{D:Nat→Prop}{Q:World→Prop}{mb t sb:Nat}{m:MU}
theorem HM.bbne(H:HM W w L X h x s k E D Q){b:Nat}{ty:TypeId}{cs:Array Value}(hb:(b,ty,cs)∈E):b≠L.bb:=by
 obtain⟨own,⟨tg,FS,H,h1,h2⟩,hE,hD,hQ⟩:=H
 intro e
 have:=(hE _ hb).2.1
 have h3:=H.o1.2.1
 simp only at this
 rw [e,h3]at this
 cases this
theorem HM.bset(hS:Lives D Q)(H:HM W w L X h x s k E D Q){i:Nat}(hi:i<h.T){a b:Nat}(ha:a≤b)(hb:b≤4194304) :
  HM W ((w.setCell ⟨L.bb,i*2,none⟩ (.int .i64 (a:Int))).setCell ⟨L.bb,i*2+1,none⟩ (.int .i64 (b:Int))) L X { h with bx:=put1 h.bx i (a:Int),be:=put1 h.be i (b:Int) } x s k E D Q:=by
 have hbb:=(H.hr.buf.put (i*2) (.int .i64 (a:Int))).put (i*2+1) (.int .i64 (b:Int))
 have e0:=bufV_set0 h.T h.bx h.be (i:=i) (a:Int) hi
 have e1:=bufV_set1 h.T (put1 h.bx i (a:Int)) h.be (i:=i) (b:Int) hi
 rw [e0,e1]at hbb
 refine H.buffer hS (fr_sets (fr_sets (Fr.refl _ _) (by simp) _ _) (by simp) _ _) hbb (fun j hj=>?_)
 have:=H.ok.bok j hj
 unfold put1
 split <;> omega
set_option maxHeartbeats 3200000 in
theorem mtrefill_free(hS:Lives D Q)(H:HM W w L X h x s k E D Q)(hm:(mb,96,muV L.hb t sb m)∈E)(ht:t<h.T)(hy:((those h.s 1 h.R).length:Int)<L.cfg.young){j:Nat}(hl:LowFree h.s h.R j) :
  Calls Tryz.prog 106 #[.pointer (some ⟨mb,0,none⟩)] w fun e w'=>e=.returned (.tuple #[])∧HM W w' L X (fillH h t j) x s k E D Q:=by
 have HAd:=hide (H.fr0 hS (Fr.refl _ _).drew)
 have HL:=hide (fun w' (q:HM W w' L X h x s k E D Q)=>q.rlist hS 1)
 have HN:=hide (fun w' (q:HM W w' L X h x s k E D Q)=>q.take hS (y:=1) (.inl rfl) hl)
 have HK:Hid (∀w',HM W w' L X h x s k E D Q→w'.cell? ⟨L.hb,21,none⟩=some (.pointer (some ⟨L.tb,0,none⟩))∧w'.cell? ⟨L.hb,7,none⟩=some (.int .i64 L.cfg.young)):=fun w' q=>⟨q.hc.c21,q.young⟩
 have HMu:Hid (∀w' h' x',HM W w' L X h' x' s k E D Q→w'.cell? ⟨mb,0,none⟩=some (.pointer (some ⟨L.hb,0,none⟩))∧w'.cell? ⟨mb,1,none⟩=some (.int .i64 (t:Int))):=fun w' h' x' q=>by
  have hb:=q.blk hm
  exact⟨hb.cell 0,hb.cell 1⟩
 have k0:w.cell? ⟨mb,0,none⟩=some (.pointer (some ⟨L.hb,0,none⟩)):=(H.blk hm).cell 0
 have K0:=HK.out _ HAd.out
 have NH:=lt_of_cell K0.1
 have hyB:decide (((those h.s 1 h.R).length:Int)≥L.cfg.young)=false:=by simpa using hy
 have hyC:decide (L.cfg.young≤((those h.s 1 h.R).length:Int))=false:=by simpa using hy
 have hj:j<h.R:=hl.1
 have hDm:=H.dim
 have hmul:j*h.W+h.W≤h.R*h.W:=mul_add_le hj
 have hww:=hDm.wd
 have hNm:=H.ok.nmax
 have HCe:Hid (∀w' a b,HM W w' L X { h with s:=a,t:=b } x s k E D Q→Hcells w' L X h.g h.T):=fun w' a b q=>q.hc
 have HBs:Hid (∀w' a,HM W w' L X { h with s:=a } x s k E D Q→Calls Tryz.prog 117 #[.agg #[.int .i64 h.g.words,.int .i64 h.g.rw,.int .i64 h.g.cw,.int .i64 h.g.regions,.int .i64 h.g.cards,.int .i64 h.g.max],.int .i64 (j:Int)] w' fun e w''=>e=.returned (.tuple #[.int .i64 ((j*h.W:Nat):Int),.int .i64 0])∧HM W w'' L X { h with s:=a } x s k E D Q):=fun w' a q=>q.base_at hS (r:=j) hj
 have HTp:Hid (∀w',HM W w' L X { h with s:=put1 h.s j 1 } x s k E D Q→Calls Tryz.prog 119 #[.pointer (some ⟨L.tb,0,none⟩),.int .i64 (j:Int),.int .i64 ((j*h.W+h.W:Nat):Int)] w' fun e w''=>e=.returned (.int .i64 0)∧HM W w'' L X { h with s:=put1 h.s j 1,t:=put1 h.t j ((j*h.W+h.W:Nat):Int) } x s k E D Q):=fun w' q=>q.setTop hS (r:=j) hj (by show Filled (put1 h.s j 1 j);unfold put1;rw [if_pos rfl];exact .inl rfl) (by show((j*h.W:Nat):Int)≤((j*h.W+h.W:Nat):Int);omega) (by show((j*h.W+h.W:Nat):Int)≤((j*h.W+h.W:Nat):Int);omega)
 have hwp:=H.ok.wpos
 have hrw:=hDm.rw
 have hmx:=hDm.mx
 have hlim:j*h.W+h.W≤4194304:=by omega
 have hsum:IntKind.i64.wrap (((j*h.W:Nat):Int)+h.g.rw)=((j*h.W+h.W:Nat):Int):=by rw [hrw,IntWalk.i64_in _ ⟨by omega,by omega⟩];omega
 have HBn:Hid (∀w',Calls Tryz.prog 122 #[.int .i64 ((j*h.W:Nat):Int),.int .i64 ((j*h.W+h.W:Nat):Int)] w' fun e w''=>e=.returned (.tuple #[.agg #[.int .i64 ((j*h.W:Nat):Int),.int .i64 ((j*h.W+h.W:Nat):Int)],.int .i64 0])∧Fr [] w' w''):=fun w'=>by
  have:=bnew_any ((j*h.W:Nat):Int) ((j*h.W+h.W:Nat):Int) w'
  unfold nuV nuX nuY nuE at this
  rw [if_pos (by omega),if_pos (by omega),if_pos (by omega)]at this
  exact this
 have HSt:Hid (∀w',HM W w' L X { h with s:=put1 h.s j 1,t:=put1 h.t j ((j*h.W+h.W:Nat):Int) } x s k E D Q→HM W ((w'.setCell ⟨L.bb,t*2,none⟩ (.int .i64 ((j*h.W:Nat):Int))).setCell ⟨L.bb,t*2+1,none⟩ (.int .i64 ((j*h.W+h.W:Nat):Int))) L X (fillH h t j) x s k E D Q):=fun w' q=>q.bset hS (i:=t) ht (by omega) hlim
 have HBf:Hid (∀w' a b,HM W w' L X { h with s:=a,t:=b } x s k E D Q→w'.cell? ⟨L.bb,t*2,none⟩=some (.int .i64 (h.bx t))∧w'.cell? ⟨L.bb,t*2+1,none⟩=some (.int .i64 (h.be t))∧w'.frozen? ⟨L.bb,t*2,none⟩=false∧w'.frozen? ⟨L.bb,t*2+1,none⟩=false∧L.bb<w'.heap.size):=fun w' a b q=>by
  obtain⟨b0,b1⟩:=q.bufs (i:=t) ht
  exact⟨b0,b1,q.hr.buf.frozen _,q.hr.buf.frozen _,q.hr.buf.lt⟩
 have HKf:Hid (∀w',HM W w' L X (fillH h t j) x s k E D Q→w'.cell? ⟨mb,1,none⟩=some (.int .i64 (t:Int))∧w'.cell? ⟨L.hb,28,none⟩=some (.slice (some ⟨L.bb,0,none⟩) h.T h.T)):=fun w' q=>⟨(HMu.out _ _ _ q).2,q.hc.c28⟩
 have NE1:mb≠L.bb:=H.bbne hm
 have NE2:L.hb≠L.bb:=H.hr.st.apart H.hr.buf (by decide)
 have ht1:(t:Int)<(h.T:Int):=by omega
 clear H hm hl hDm hmul hww hNm hwp hrw hmx
 generalize hab:((j*h.W:Nat):Int)=a9 at *
 generalize hae:((j*h.W+h.W:Nat):Int)=b9 at *
 generalize (those h.s 1 h.R).length=n9 at *
 generalize L.cfg.young=y9 at *
 go_enter Tryz.func106,Tryz.ntmps106
 go_wp2_with fail
 go_cut [23] from 12 to 23 (fun v wc=>v=.bool false∧∃w1,w1=wc∧HM W w1 L X h x s k E D Q)
 case first=>
  go_region_held3 (fun w'=>w'.cell? ⟨L.hb,21,none⟩=some (.pointer (some ⟨L.tb,0,none⟩))∧w'.cell? ⟨L.hb,7,none⟩=some (.int .i64 y9))
   (first | with_reducible exact K0 | go_keep)
   (first | (go_at_call 120;refine(HL.out _ HAd.out).mono ?_;rintro e w1 ⟨⟨A1,c1,rfl⟩,hA⟩;have HA1:=hide hA;have K0:=HK.out _ hA;clear hA))
  all_goals
   go_wp2_with fail
   go_meet
   case rel=>exact⟨rfl,_,rfl,HA1.out⟩
 case rest=>
  obtain⟨rfl,w1,rfl,hA1⟩:=hcut
  have k21:=(HK.out _ hA1).1
  have NH1:=lt_of_cell k21
  have HN1:=hide (HN.out _ hA1)
  clear k0 hA1 K0 NH
  go_wp2_with fail
  refine HN1.out.mono ?_
  rintro e w2 ⟨rfl,hA⟩
  have HA2:=hide hA
  obtain⟨c14,c15,c16,c17,c18,c19,-,-,-,-,-,-,-,-,-,NH⟩:=HCe.out w2 (put1 h.s j 1) h.t hA
  clear hA k21 NH1 HN1
  go_wp2_with fail
  refine(HBs.out w2 (put1 h.s j 1) HA2.out).mono ?_
  rintro e w3 ⟨rfl,hA⟩
  have HA3:=hide hA
  clear c14 c15 c16 c17 c18 c19 NH
  have c15:=(HCe.out w3 (put1 h.s j 1) h.t hA).c15
  have c21:=(HCe.out w3 (put1 h.s j 1) h.t hA).c21
  have NH:=lt_of_cell c21
  clear hA
  go_wp2_with fail
  refine(HTp.out _ HA3.out).mono ?_
  rintro e w4 ⟨rfl,hA⟩
  have HA4:=hide hA
  have HA4d:=hide (hA.fr0 hS (Fr.refl _ _).drew)
  have HK9:Hid (∀w',HM W w' L X { h with s:=put1 h.s j 1,t:=put1 h.t j b9 } x s k E D Q→w'.cell? ⟨mb,1,none⟩=some (.int .i64 (t:Int))∧w'.cell? ⟨L.hb,28,none⟩=some (.slice (some ⟨L.bb,0,none⟩) h.T h.T)):=fun w' q=>⟨(HMu.out _ _ _ q).2,(HCe.out _ _ _ q).c28⟩
  have K0:=HK9.out _ HA4d.out
  clear c15 c21 NH hA
  go_wp2_with fail
  go_region_held3 (fun w'=>w'.cell? ⟨mb,1,none⟩=some (.int .i64 (t:Int))∧w'.cell? ⟨L.hb,28,none⟩=some (.slice (some ⟨L.bb,0,none⟩) h.T h.T))
   (first | with_reducible exact K0 | exact HKf.out _ (HSt.out _ HA5.out) | go_keep)
   (first | (go_at_call 122;refine(HBn.out _).mono ?_;rintro e w5 ⟨rfl,hf⟩;have HA5:=hide (HA4d.out.fr0 hS hf);have K0:=HK9.out _ HA5.out;obtain⟨y0,y1,z0,z1,NB⟩:=HBf.out _ _ _ HA5.out;clear hf))
  all_goals
   go_wp2_with fail
   go_end0
   exact⟨rfl,HSt.out _ HA5.out⟩
end
section
variable {W w w':World}{L:HL}{X:HX}{h:HS}{x:HT}{s k:Nat}{E:Blks}{D:Nat→Prop}{Q:World→Prop}{mb t sb:Nat}{m:MU}
set_option maxHeartbeats 1600000 in
theorem mtwords_own(hS:Lives D Q)(H:HM W w L X h x s k E D Q)(hm:(mb,96,muV L.hb t sb m)∈E)(ht:t<h.T){n:Int}(hbg:h.g.bigB n=false)(hn:1≤n)(hn2:n≤h.be t-h.bx t) :
  Calls Tryz.prog 81 #[.pointer (some ⟨mb,0,none⟩),.int .i64 n] w fun e w'=>e=.returned (.tuple #[.int .i64 (h.bx t),.int .i64 0])∧HM W w' L X { h with bx:=put1 h.bx t (h.bx t+n) } x s k E D Q:=by
 have HBg:Hid (∀w',HM W w' L X h x s k E D Q→Calls Tryz.prog 61 #[.agg #[.int .i64 h.g.words,.int .i64 h.g.rw,.int .i64 h.g.cw,.int .i64 h.g.regions,.int .i64 h.g.cards,.int .i64 h.g.max],.int .i64 n] w' fun e w''=>e=.returned (.bool false)∧HM W w'' L X h x s k E D Q):=fun w' q=>by
  refine(big_any h.g n w' (by rw [q.dim.rw];omega)).mono ?_
  rintro e w'' ⟨rfl,hf⟩
  rw [hbg]
  exact⟨rfl,q.fr0 hS hf⟩
 have HLf:Hid (∀w',HM W w' L X h x s k E D Q→Calls Tryz.prog 104 #[.pointer (some ⟨L.bb,t*2,none⟩)] w' fun e w''=>e=.returned (.int .i64 (h.be t-h.bx t))∧HM W w'' L X h x s k E D Q):=fun w' q=>q.bleft hS ht
 have HMu:Hid (∀w' h' x',HM W w' L X h' x' s k E D Q→w'.cell? ⟨mb,0,none⟩=some (.pointer (some ⟨L.hb,0,none⟩))∧w'.cell? ⟨mb,1,none⟩=some (.int .i64 (t:Int))):=fun w' h' x' q=>by
  have hb:=q.blk hm
  exact⟨hb.cell 0,hb.cell 1⟩
 have HCe:Hid (∀w',HM W w' L X h x s k E D Q→Hcells w' L X h.g h.T):=fun w' q=>q.hc
 have HF0:Hid (∀w' i,HM W w' L X h x s k E D Q→HM W (w'.drewN i) L X h x s k E D Q):=fun w' i q=>q.fr0 hS ((Fr.refl _ _).drewN _)
 have ht1:(t:Int)<(h.T:Int):=by omega
 have HA0:=hide H
 obtain⟨c14,c15,c16,c17,c18,c19,-,-,-,-,-,-,-,-,-,NH⟩:=H.hc
 have k0:=(HMu.out _ _ _ H).1
 have HTk:Hid (∀w',HM W w' L X h x s k E D Q→Calls Tryz.prog 107 #[.pointer (some ⟨L.bb,t*2,none⟩),.int .i64 n] w' fun e w''=>e=.returned (.tuple #[.int .i64 (h.bx t),.int .i64 0])∧HM W w'' L X { h with bx:=put1 h.bx t (h.bx t+n) } x s k E D Q):=fun w' q=>q.btake hS ht hn hn2
 have hge:decide (h.be t-h.bx t<n)=false:=by simp;omega
 clear H hm hbg ht hn hn2
 go_enter Tryz.func81,Tryz.ntmps81
 go_wp2_with fail
 refine(HBg.out _ HA0.out).mono ?_
 rintro e w1 ⟨rfl,hA⟩
 have HA1:=hide hA
 obtain⟨k0',k1⟩:=HMu.out _ _ _ hA
 have c28:=(HCe.out _ hA).c28
 have NH1:=(HCe.out _ hA).lt
 clear c14 c15 c16 c17 c18 c19 NH k0 hA
 go_wp2_with fail
 go_quiet (fail)
 have HA2:=hide (HF0.out _ nq HA1.out)
 have HL2:=hide (HLf.out _ HA2.out)
 clear k0' k1 c28 NH1
 go_wp2_with fail
 refine HL2.out.mono ?_
 rintro e w2 ⟨rfl,hA⟩
 have HA3:=hide hA
 clear hA
 have HT3:=hide (HTk.out _ HA3.out)
 go_wp2_with fail
 refine HT3.out.mono ?_
 rintro e w3 ⟨rfl,hA⟩
 have HA4:=hide hA
 clear hA
 go_wp2_with fail
 go_ret2
 exact⟨rfl,HA4.out⟩
set_option maxHeartbeats 1600000 in
theorem mtwords_new(hS:Lives D Q)(H:HM W w L X h x s k E D Q)(hm:(mb,96,muV L.hb t sb m)∈E)(ht:t<h.T)(hB:h.BufIn){n:Int}(hbg:h.g.bigB n=false)(hn:1≤n)(hnW:n≤(h.W:Int))(hn2:h.be t-h.bx t<n)(hy:((those h.s 1 h.R).length:Int)<L.cfg.young){j:Nat}(hl:LowFree h.s h.R j) :
  Calls Tryz.prog 81 #[.pointer (some ⟨mb,0,none⟩),.int .i64 n] w fun e w'=>e=.returned (.tuple #[.int .i64 ((j*h.W:Nat):Int),.int .i64 0])∧HM W w' L X { fillH (dropH h t) t j with bx:=put1 (fillH (dropH h t) t j).bx t (((j*h.W:Nat):Int)+n) } x s k E D Q:=by
 have HBg:Hid (∀w',HM W w' L X h x s k E D Q→Calls Tryz.prog 61 #[.agg #[.int .i64 h.g.words,.int .i64 h.g.rw,.int .i64 h.g.cw,.int .i64 h.g.regions,.int .i64 h.g.cards,.int .i64 h.g.max],.int .i64 n] w' fun e w''=>e=.returned (.bool false)∧HM W w'' L X h x s k E D Q):=fun w' q=>by
  refine(big_any h.g n w' (by rw [q.dim.rw];omega)).mono ?_
  rintro e w'' ⟨rfl,hf⟩
  rw [hbg]
  exact⟨rfl,q.fr0 hS hf⟩
 have HLf:Hid (∀w',HM W w' L X h x s k E D Q→Calls Tryz.prog 104 #[.pointer (some ⟨L.bb,t*2,none⟩)] w' fun e w''=>e=.returned (.int .i64 (h.be t-h.bx t))∧HM W w'' L X h x s k E D Q):=fun w' q=>q.bleft hS ht
 have HMu:Hid (∀w' h' x',HM W w' L X h' x' s k E D Q→w'.cell? ⟨mb,0,none⟩=some (.pointer (some ⟨L.hb,0,none⟩))∧w'.cell? ⟨mb,1,none⟩=some (.int .i64 (t:Int))):=fun w' h' x' q=>by
  have hb:=q.blk hm
  exact⟨hb.cell 0,hb.cell 1⟩
 have HCe:Hid (∀w',HM W w' L X h x s k E D Q→Hcells w' L X h.g h.T):=fun w' q=>q.hc
 have HF0:Hid (∀w' i,HM W w' L X h x s k E D Q→HM W (w'.drewN i) L X h x s k E D Q):=fun w' i q=>q.fr0 hS ((Fr.refl _ _).drewN _)
 have ht1:(t:Int)<(h.T:Int):=by omega
 have HA0:=hide H
 obtain⟨c14,c15,c16,c17,c18,c19,-,-,-,-,-,-,-,-,-,NH⟩:=H.hc
 have k0:=(HMu.out _ _ _ H).1
 have HRt:Hid (∀w',HM W w' L X h x s k E D Q→Calls Tryz.prog 105 #[.pointer (some ⟨mb,0,none⟩)] w' fun e w''=>e=.returned (.tuple #[])∧HM W w'' L X (dropH h t) x s k E D Q):=fun w' q=>mtretire_any hS q hm ht hB
 have HRf:Hid (∀w',HM W w' L X (dropH h t) x s k E D Q→Calls Tryz.prog 106 #[.pointer (some ⟨mb,0,none⟩)] w' fun e w''=>e=.returned (.tuple #[])∧HM W w'' L X (fillH (dropH h t) t j) x s k E D Q):=fun w' q=>mtrefill_free hS q hm ht hy hl
 have HTk:Hid (∀w',HM W w' L X (fillH (dropH h t) t j) x s k E D Q→Calls Tryz.prog 107 #[.pointer (some ⟨L.bb,t*2,none⟩),.int .i64 n] w' fun e w''=>e=.returned (.tuple #[.int .i64 ((j*h.W:Nat):Int),.int .i64 0])∧HM W w'' L X { fillH (dropH h t) t j with bx:=put1 (fillH (dropH h t) t j).bx t (((j*h.W:Nat):Int)+n) } x s k E D Q):=fun w' q=>by
  have ex:(fillH (dropH h t) t j).bx t=((j*h.W:Nat):Int):=by show put1 _ t _ t=_;unfold put1;rw [if_pos rfl];rfl
  have ee:(fillH (dropH h t) t j).be t=((j*h.W+h.W:Nat):Int):=by show put1 _ t _ t=_;unfold put1;rw [if_pos rfl];rfl
  have:=q.btake hS (i:=t) ht hn (by rw [ex,ee];omega)
  rwa [ex]at this
 have hge:decide (h.be t-h.bx t<n)=true:=by simp;omega
 clear H hm hbg ht hn hnW hn2 hB hy hl
 go_enter Tryz.func81,Tryz.ntmps81
 go_wp2_with fail
 refine(HBg.out _ HA0.out).mono ?_
 rintro e w1 ⟨rfl,hA⟩
 have HA1:=hide hA
 obtain⟨k0',k1⟩:=HMu.out _ _ _ hA
 have c28:=(HCe.out _ hA).c28
 have NH1:=(HCe.out _ hA).lt
 clear c14 c15 c16 c17 c18 c19 NH k0 hA
 go_wp2_with fail
 go_quiet (fail)
 have HA2:=hide (HF0.out _ nq HA1.out)
 have HL2:=hide (HLf.out _ HA2.out)
 clear k0' k1 c28 NH1
 go_wp2_with fail
 refine HL2.out.mono ?_
 rintro e w2 ⟨rfl,hA⟩
 have HA3:=hide hA
 clear hA
 have HR3:=hide (HRt.out _ HA3.out)
 go_wp2_with fail
 refine HR3.out.mono ?_
 rintro e w3 ⟨rfl,hA⟩
 have HR4:=hide (HRf.out _ hA)
 clear hA
 go_wp2_with fail
 refine HR4.out.mono ?_
 rintro e w4 ⟨rfl,hA⟩
 have HT3:=hide (HTk.out _ hA)
 clear hA
 go_wp2_with fail
 refine HT3.out.mono ?_
 rintro e w5 ⟨rfl,hA⟩
 have HA4:=hide hA
 clear hA
 go_wp2_with fail
 go_ret2
 exact⟨rfl,HA4.out⟩
end
section
variable {W w w':World}{L:HL}{X:HX}{h:HS}{x:HT}{s k:Nat}{E:Blks}{D:Nat→Prop}{Q:World→Prop}{mb t sb:Nat}{m:MU}
theorem HM.make(hS:Lives D Q)(H:HM W w L X h x s k E D Q){I S P:Nat}(hz:1≤S∧S≤1048576)(hP:P<S)(hn:I+S≤h.n) :
  Calls Tryz.prog 60 #[.pointer (some ⟨L.ab,0,none⟩),.int .i64 (I:Int),.int .i64 (S:Int),.int .i64 (P:Int)] w fun e w'=>e=.returned (.int .i64 0)∧HM W w' L X { h with f:=upd (updRow h.f I S (fun _=>0)) I (objW S P) } x s k E D Q:=
 H.post hS fun own q=>q.make hz hP hn
theorem HM.push(hS:Lives D Q)(H:HM W w L X h x s k E D Q){i:Nat}(hi:i<h.T)(hB:L.B≤64)(hl:(h.st i).length<L.B){r:Int}(hr:0≤r∧r<18446744073709551616) :
  Calls Tryz.prog 63 #[.pointer (some ⟨L.S i,0,none⟩),.int .u64 r] w fun e w'=>e=.returned (.int .i64 0)∧HM W w' L X { h with st:=setN h.st i (h.st i++[r]) } x s k E D Q:=
 H.post hS fun own q=>q.push hi hB hl hr
theorem HM.offsPut(hS:Lives D Q)(H:HM W w L X h x s k E D Q){a z:Nat}(hz:1≤z)(hm:a+z≤h.n) :
  Calls Tryz.prog 62 #[.pointer (some ⟨X.ob,0,none⟩),.int .i64 (a:Int),.int .i64 (z:Int)] w fun e w'=>e=.returned (.int .i64 0)∧HM W w' L X h { x with O:=obj x.cw x.O a z } s k E D Q:=
 H.post hS fun own q=>q.offsPut hz hm
theorem HM.run(hS:Lives D Q)(H:HM W w L X h x s k E D Q){c f z:Nat}(hc:1≤c)(hz1:(c-1)*h.W<z)(hz2:z≤c*h.W)(hl:LowRun h.s h.R c f) :
  Calls Tryz.prog 115 #[.pointer (some ⟨L.tb,0,none⟩),.int .i64 (c:Int),.int .i64 (z:Int)] w fun e w'=>e=.returned (.tuple #[.int .i64 (f:Int),.int .i64 0])∧HM W w' L X { h with s:=put1 (put2 h.s f (f+c) fun _=>5) f 4,t:=put2 h.t f (f+c) (runTop h.W f z) } x s k E D Q:=
 H.post hS fun own q=>q.run hc hz1 hz2 hl
theorem HM.run_no(hS:Lives D Q)(H:HM W w L X h x s k E D Q){c:Nat}{z:Int}(hc:1≤c)(hcm:c≤9223372036854775807)(hzm:z≤9223372036854775807)(hz:((c:Int)-1)*(h.W:Int)<z∧z≤(c:Int)*(h.W:Int))(hl:NoRun h.s h.R c) :
  Calls Tryz.prog 115 #[.pointer (some ⟨L.tb,0,none⟩),.int .i64 (c:Int),.int .i64 z] w fun e w'=>e=.returned (.tuple #[.int .i64 0,.int .i64 6])∧HM W w' L X h x s k E D Q:=by
 have H0:=H
 obtain⟨own,q,_⟩:=H
 refine(q.run_no hc hcm hzm hz hl).mono ?_
 rintro e w' ⟨rfl,rfl⟩
 exact⟨rfl,H0⟩
theorem HM.mut(hS:Lives D Q)(hT:Tab W){f:FuncId}{args:Array Value}{P:Ending→Prop}{m':MU}(H:HM W w L X h x s k ((mb,96,muV L.hb t sb m)::E) D Q)(hne:∀q,q∈E→q.1≠mb)
  (hc:Blk w mb 96 (muV L.hb t sb m)→Calls Tryz.prog f args w fun e w'=>P e∧Blk w' mb 96 (muV L.hb t sb m')∧Fr [mb] w w') :
  Calls Tryz.prog f args w fun e w'=>P e∧HM W w' L X h x s k ((mb,96,muV L.hb t sb m')::E) D Q:=
 (hc (H.blk (List.mem_cons_self ..))).mono (by
  rintro e w' ⟨hp,hb,hf⟩
  exact⟨hp,H.turn hS hT hf hb hne⟩)
end
def HS.hG(h:HS):GS:={ G0 with st:=h.st }
section
variable {W w w':World}{L:HL}{X:HX}{own:Nat→Nat}{h:HS}{x:HT}{s k:Nat}{E:Blks}{D:Nat→Prop}{Q:World→Prop}{mb t sb:Nat}{m:MU}
theorem HM.sat(hS:Lives D Q)(H:HM W w L X h x s k E D Q){i:Nat}(hi:i<h.T)(a:Int) :
  Calls Tryz.prog 18 #[.pointer (some ⟨L.S i,0,none⟩),.int .i64 a] w fun e w'=>e=.returned (.tuple #[.int .u64 (hkAt (h.st i) a),.int .i64 (hkAtE (h.st i) a)])∧HM W w' L X h x s k E D Q:=
 H.see hS fun own ⟨tg,FS,H⟩=>(hat_any (H.stk i hi) a).mono (by rintro e w' ⟨rfl,rfl⟩;exact⟨rfl,Fr.refl _ _⟩)
theorem HM.slen(hS:Lives D Q)(H:HM W w L X h x s k E D Q){i:Nat}(hi:i<h.T) :
  Calls Tryz.prog 14 #[.pointer (some ⟨L.S i,0,none⟩)] w fun e w'=>e=.returned (.int .i64 ((h.st i).length:Int))∧HM W w' L X h x s k E D Q:=
 H.see hS fun own ⟨tg,FS,H⟩=>(hlen_any (H.stk i hi)).mono (by rintro e w' ⟨rfl,rfl⟩;exact⟨rfl,Fr.refl _ _⟩)
theorem HpAt.stackPost(H:HpAt W w L X own h x s k){i:Nat}(hi:i<h.T){l:List Int}{f:FuncId}{args:Array Value}{v:Value}(hl:l.length≤64)(hr:∀r,r∈l→0≤r∧r<18446744073709551616)
  (hc:∀F,HkP w (L.S i) F L.B (h.st i)→Calls Tryz.prog f args w (HkPost w F (fun w' F'=>HkP w' (L.S i) F' L.B l) v)) :
  Calls Tryz.prog f args w (HpPost W w L X own { h with st:=setN h.st i l } x s k v):=by
 obtain⟨tg,FS,H,h1,h2⟩:=H
 refine(hc _ (H.stk i hi)).mono ?_
 rintro e w' ⟨F',rfl,hq,hf,hn⟩
 obtain⟨own',k1,k2,k3⟩:=H.stack hi hf hq hn hl hr
 have hF:∀b,b∈FS i→own b≠0:=fun b hb=>by rw [H.o100 i hi b hb];omega
 have hsz:=h1.size
 refine⟨own',rfl,⟨tg,_,k1,h1.trans hf (fun b hb=>.inr (h2 b (hF b hb))),fun b hb=>?_⟩,⟨_,hf,hF⟩,k3⟩
 ·rcases k2 b hb with h3 | h3
  ·exact h2 b h3
  ·omega
theorem HM.spush(hS:Lives D Q)(H:HM W w L X h x s k E D Q){i:Nat}(hi:i<h.T)(hB:L.B≤64)(hl:(h.st i).length≤L.B){r:Int}(hr:0≤r∧r<18446744073709551616) :
  Calls Tryz.prog 63 #[.pointer (some ⟨L.S i,0,none⟩),.int .u64 r] w fun e w'=>e=.returned (.int .i64 (hkPushE L.B (h.st i)))∧HM W w' L X { h with st:=setN h.st i (hkPush L.B (h.st i) r) } x s k E D Q:=
 H.post hS fun own q=>q.stackPost hi (by have:=hkPush_len hl r;omega) (fun y hy=>by
  unfold hkPush at hy
  split at hy
  ·rcases List.mem_append.1 hy with h3 | h3
   ·exact H.ok.rok i hi y h3
   ·simp at h3;subst h3;exact hr
  ·exact H.ok.rok i hi y hy) (fun F hk=>hpush_any hk hl hB r)
theorem HM.spop(hS:Lives D Q)(H:HM W w L X h x s k E D Q){i:Nat}(hi:i<h.T)(hB:L.B≤64)(hl:(h.st i).length≤L.B) :
  Calls Tryz.prog 84 #[.pointer (some ⟨L.S i,0,none⟩)] w fun e w'=>e=.returned (.tuple #[.int .u64 (hkPopV (h.st i)),.int .i64 (hkPopE (h.st i))])∧HM W w' L X { h with st:=setN h.st i (hkPop (h.st i)) } x s k E D Q:=
 H.post hS fun own q=>q.stackPost hi (by have:=hkPop_len hl;omega) (fun y hy=>H.ok.rok i hi y (by unfold hkPop at hy;exact List.mem_of_mem_take hy)) (fun F hk=>hpop_any hk hl hB)
theorem HM.rA(H:HM W w L X h x s k E D Q)(hT:0<h.T):∃gb go,L.rA=some ⟨gb,go,none⟩:=by
 obtain⟨gb,go,hA,_⟩:=H.hr.row.pos (by omega)
 exact⟨gb,go,hA⟩
theorem HM.rowc(H:HM W w L X h x s k E D Q){gb go:Nat}(hA:L.rA=some ⟨gb,go,none⟩){i:Nat}(hi:i<h.T):w.cell? ⟨gb,go+i,none⟩=some (.pointer (some ⟨L.S i,0,none⟩)):=by
 obtain⟨gb',go',hA',hG,NG,hcell,hfz,_⟩:=H.hr.row.pos (by omega)
 rw [hA]at hA'
 injection hA' with hA'
 injection hA' with e1 e2
 subst e1 e2
 rw [hcell i hi]
 unfold stkV
 simp [hi]
theorem mtcollect_any(a:Int)(w:World):Calls Tryz.prog 88 #[.int .i64 a] w fun e w'=>e=.returned (.int .i64 (collectE a))∧w=w':=by
 unfold collectE
 by_cases h1:a<0
 ·rw [if_neg (by omega)]
  go_enter Tryz.func88,Tryz.ntmps88
  go_wp2
  go_ret
  exact⟨rfl,rfl⟩
 ·by_cases h2:a>3
  ·rw [if_neg (by omega)]
   go_enter Tryz.func88,Tryz.ntmps88
   go_wp2
   go_ret
   exact⟨rfl,rfl⟩
  ·rw [if_pos (by omega)]
   go_enter Tryz.func88,Tryz.ntmps88
   go_wp2
   go_ret
   exact⟨rfl,rfl⟩
theorem mtisnil_any(hS:Lives D Q)(H:HM W w L X h x s k E D Q){i:Nat}(hi:i<h.T)(a:Int) :
  Calls Tryz.prog 87 #[.pointer (some ⟨L.S i,0,none⟩),.int .i64 a] w fun e w'=>e=.returned (.tuple #[.bool (isNilV h.hG i a),.int .i64 (hkAtE (h.st i) a)])∧HM W w' L X h x s k E D Q:=by
 have HA:=hide (H.sat hS hi a)
 have ev:isNilV h.hG i a=(decide (hkAtE (h.st i) a=0)&&(hkAt (h.st i) a==0)):=by
  unfold isNilV hkAtE
  show decide (hkIn (h.st i) a∧hkAt (h.st i) a=0)=_
  by_cases e:hkIn (h.st i) a
  ·rw [Bool.eq_iff_iff];simp [e]
  ·simp [e]
 rw [ev]
 generalize hkAt (h.st i) a=r at *
 have hz:hkAtE (h.st i) a=0∨hkAtE (h.st i) a=10:=by unfold hkAtE;split <;> simp
 generalize hkAtE (h.st i) a=z at *
 clear H hi ev
 rcases hz with rfl | rfl
 ·go_enter Tryz.func87,Tryz.ntmps87
  go_wp2_with fail
  refine HA.out.mono ?_
  rintro e w1 ⟨rfl,hA⟩
  have HA1:=hide hA
  clear hA HA
  go_wp2_with fail
  go_ret2
  exact⟨by simp,HA1.out⟩
 ·go_enter Tryz.func87,Tryz.ntmps87
  go_wp2_with fail
  refine HA.out.mono ?_
  rintro e w1 ⟨rfl,hA⟩
  have HA1:=hide hA
  clear hA HA
  go_wp2_with fail
  go_ret2
  exact⟨by simp,HA1.out⟩
theorem mtequal_any(hS:Lives D Q)(H:HM W w L X h x s k E D Q){i:Nat}(hi:i<h.T)(a b:Int) :
  Calls Tryz.prog 86 #[.pointer (some ⟨L.S i,0,none⟩),.int .i64 a,.int .i64 b] w fun e w'=>e=.returned (.tuple #[.bool (equalV h.hG i a b),.int .i64 (equalE h.hG i a b)])∧HM W w' L X h x s k E D Q:=by
 have HA:=hide (H.sat hS hi a)
 have HB:Hid (∀w',HM W w' L X h x s k E D Q→Calls Tryz.prog 18 #[.pointer (some ⟨L.S i,0,none⟩),.int .i64 b] w' fun e w''=>e=.returned (.tuple #[.int .u64 (hkAt (h.st i) b),.int .i64 (hkAtE (h.st i) b)])∧HM W w'' L X h x s k E D Q):=fun w' q=>q.sat hS hi b
 have ev:equalV h.hG i a b=(decide (hkAtE (h.st i) a=0)&&(decide (hkAtE (h.st i) b=0)&&(hkAt (h.st i) a==hkAt (h.st i) b))):=by
  unfold equalV hkAtE
  show decide (hkIn (h.st i) a∧hkIn (h.st i) b∧hkAt (h.st i) a=hkAt (h.st i) b)=_
  by_cases e:hkIn (h.st i) a
  ·by_cases e':hkIn (h.st i) b
   ·rw [Bool.eq_iff_iff];simp [e,e']
   ·simp [e,e']
  ·simp [e]
 have ee:equalE h.hG i a b=if hkAtE (h.st i) a=0 then hkAtE (h.st i) b else 10:=by
  unfold equalE
  show(if hkIn (h.st i) a then hkAtE (h.st i) b else 10)=_
  by_cases e:hkIn (h.st i) a
  ·rw [if_pos e,if_pos (by unfold hkAtE;rw [if_pos e])]
  ·rw [if_neg e,if_neg (by unfold hkAtE;rw [if_neg e];decide)]
 rw [ev,ee]
 have hz:hkAtE (h.st i) a=0∨hkAtE (h.st i) a=10:=by unfold hkAtE;split <;> simp
 have hy:hkAtE (h.st i) b=0∨hkAtE (h.st i) b=10:=by unfold hkAtE;split <;> simp
 generalize hkAt (h.st i) a=r at *
 generalize hkAt (h.st i) b=q at *
 generalize hkAtE (h.st i) a=z at *
 generalize hkAtE (h.st i) b=y at *
 clear H hi ev ee
 rcases hz with rfl | rfl
 ·rcases hy with rfl | rfl
  ·go_enter Tryz.func86,Tryz.ntmps86
   go_wp2_with fail
   refine HA.out.mono ?_
   rintro e w1 ⟨rfl,hA⟩
   have HA1:=hide (HB.out _ hA)
   clear hA HA HB
   go_wp2_with fail
   refine HA1.out.mono ?_
   rintro e w2 ⟨rfl,hA⟩
   have HA2:=hide hA
   clear hA HA1
   go_wp2_with fail
   go_ret2
   exact⟨by simp,HA2.out⟩
  ·go_enter Tryz.func86,Tryz.ntmps86
   go_wp2_with fail
   refine HA.out.mono ?_
   rintro e w1 ⟨rfl,hA⟩
   have HA1:=hide (HB.out _ hA)
   clear hA HA HB
   go_wp2_with fail
   refine HA1.out.mono ?_
   rintro e w2 ⟨rfl,hA⟩
   have HA2:=hide hA
   clear hA HA1
   go_wp2_with fail
   go_ret2
   exact⟨by simp,HA2.out⟩
 ·clear HB hy
  go_enter Tryz.func86,Tryz.ntmps86
  go_wp2_with fail
  refine HA.out.mono ?_
  rintro e w1 ⟨rfl,hA⟩
  have HA1:=hide hA
  clear hA HA
  go_wp2_with fail
  go_ret2
  exact⟨by simp,HA1.out⟩
set_option maxHeartbeats 1600000 in
theorem mtsend_any(hS:Lives D Q)(H:HM W w L X h x s k E D Q)(hm:(mb,96,muV L.hb t sb m)∈E)(ht:t<h.T)(hB:L.B≤64)(hl:∀i,i<h.T→(h.st i).length≤L.B)(a b:Int) :
  Calls Tryz.prog 85 #[.pointer (some ⟨mb,0,none⟩),.int .i64 a,.int .i64 b] w fun e w'=>e=.returned (.int .i64 (sendE L.B h.T h.hG t a b))∧HM W w' L X { h with st:=(sendS L.B h.T h.hG t a b).st } x s k E D Q:=by
 have HK:Hid (Calls Tryz.prog 56 #[.pointer (some ⟨mb,0,none⟩)] w fun e w''=>e=.returned (.pointer (some ⟨L.S t,0,none⟩))∧HM W w'' L X h x s k E D Q):=(mtstack_any (H.blk hm) H.hr ht).mono (by rintro e w'' ⟨rfl,hf⟩;exact⟨rfl,H.fr0 hS hf⟩)
 have HA:Hid (∀w',HM W w' L X h x s k E D Q→Calls Tryz.prog 18 #[.pointer (some ⟨L.S t,0,none⟩),.int .i64 a] w' fun e w''=>e=.returned (.tuple #[.int .u64 (hkAt (h.st t) a),.int .i64 (hkAtE (h.st t) a)])∧HM W w'' L X h x s k E D Q):=fun w' q=>q.sat hS ht a
 obtain⟨gb,go,hrA⟩:=H.rA (by omega)
 have HCe:Hid (∀w',HM W w' L X h x s k E D Q→w'.cell? ⟨mb,0,none⟩=some (.pointer (some ⟨L.hb,0,none⟩))∧w'.cell? ⟨L.hb,27,none⟩=some (.slice (some ⟨gb,go,none⟩) h.T L.rc)):=fun w' q=>⟨(q.blk hm).cell 0,by rw [← hrA];exact q.hr.cR⟩
 have hTm:=H.ok.tm
 have hsame:∀i,setN h.st i (h.st i)=h.st:=fun i=>by funext j;unfold setN;split <;> simp_all
 have es:sendE L.B h.T h.hG t a b=if hkIn (h.st t) a then (if fieldIn h.T b then hkPushE L.B (h.st b.toNat) else 2) else 10:=rfl
 have eS:(sendS L.B h.T h.hG t a b).st=if hkIn (h.st t) a∧fieldIn h.T b then setN h.st b.toNat (hkPush L.B (h.st b.toNat) (hkAt (h.st t) a)) else h.st:=by
  unfold sendS
  show(if hkIn (h.st t) a∧fieldIn h.T b then h.hG.push L.B b.toNat (hkAt (h.st t) a) else h.hG).st=_
  split <;> rfl
 rw [es,eS]
 by_cases hi:hkIn (h.st t) a
 ·have e2:hkAtE (h.st t) a=0:=by unfold hkAtE;rw [if_pos hi]
  have hrk:0≤hkAt (h.st t) a∧hkAt (h.st t) a<18446744073709551616:=by
   unfold hkAt
   rw [if_pos hi]
   unfold hkIn at hi
   have hk:a.toNat<(h.st t).length:=by omega
   exact H.ok.rok t ht _ (by simp [hk])
  rw [e2]at HA
  rw [if_pos hi]
  by_cases hb:fieldIn h.T b
  ·rw [if_pos hb,if_pos ⟨hi,hb⟩]
   unfold fieldIn at hb
   obtain⟨q,rfl⟩:=Int.eq_ofNat_of_zero_le hb.1
   have hq:q<h.T:=by omega
   have hq':(q:Int)<(h.T:Int):=by omega
   rw [Int.toNat_natCast]
   have g1:decide ((q:Int)<0)=false:=by simp
   have g2:decide ((q:Int)≥(h.T:Int))=false:=by simp;omega
   have HRc:Hid (∀w',HM W w' L X h x s k E D Q→w'.cell? ⟨gb,go+q,none⟩=some (.pointer (some ⟨L.S q,0,none⟩))):=fun w' y=>y.rowc hrA hq
   have HP:Hid (∀w',HM W w' L X h x s k E D Q→Calls Tryz.prog 63 #[.pointer (some ⟨L.S q,0,none⟩),.int .u64 (hkAt (h.st t) a)] w' fun e w''=>e=.returned (.int .i64 (hkPushE L.B (h.st q)))∧HM W w'' L X { h with st:=setN h.st q (hkPush L.B (h.st q) (hkAt (h.st t) a)) } x s k E D Q):=fun w' y=>y.spush hS hq hB (hl q hq) hrk
   have HF0:Hid (∀w' i,HM W w' L X h x s k E D Q→HM W (w'.drewN i) L X h x s k E D Q):=fun w' i q=>q.fr0 hS ((Fr.refl _ _).drewN _)
   clear H hm hb hi e2 es eS hl hB hsame hrk hrA
   generalize hkAt (h.st t) a=r at *
   generalize hkPushE L.B (h.st q)=er at *
   go_enter Tryz.func85,Tryz.ntmps85
   go_wp2_with fail
   refine HK.out.mono ?_
   rintro e w1 ⟨rfl,hA⟩
   have HA1:=hide (HA.out _ hA)
   clear hA HK
   go_wp2_with fail
   refine HA1.out.mono ?_
   rintro e w2 ⟨rfl,hA⟩
   have HA2:=hide hA
   obtain⟨k0,k27⟩:=HCe.out _ hA
   have kr:=HRc.out _ hA
   have N1:=lt_of_cell k0
   have N2:=lt_of_cell k27
   have N3:=lt_of_cell kr
   clear hA HA1
   go_wp2_with fail
   refine(HP.out _ HA2.out).mono ?_
   rintro e w3 ⟨rfl,hA⟩
   have HA3:=hide hA
   clear hA k0 k27 kr
   go_wp2_with fail
   go_ret
   exact⟨rfl,HA3.out⟩
  ·rw [if_neg hb,if_neg (fun e=>hb e.2)]
   have hb2:b<0∨(¬ b<0∧(h.T:Int)≤b):=by unfold fieldIn at hb;omega
   have HSm:Hid (∀w',HM W w' L X h x s k E D Q→HM W w' L X { h with st:=h.st } x s k E D Q):=fun w' q=>q
   clear H hm hb hi e2 es eS hl hB hsame hrk hrA
   generalize hkAt (h.st t) a=r at *
   rcases hb2 with hb | ⟨hb,hb3⟩
   ·have g1:decide (b<0)=true:=by simpa using hb
    go_enter Tryz.func85,Tryz.ntmps85
    go_wp2_with fail
    refine HK.out.mono ?_
    rintro e w1 ⟨rfl,hA⟩
    have HA1:=hide (HA.out _ hA)
    clear hA HK
    go_wp2_with fail
    refine HA1.out.mono ?_
    rintro e w2 ⟨rfl,hA⟩
    have HA2:=hide hA
    clear hA HA1
    go_wp2_with fail
    go_ret
    exact⟨rfl,HSm.out _ HA2.out⟩
   ·have g1:decide (b<0)=false:=by simpa using hb
    have g2:decide (b≥(h.T:Int))=true:=by simpa using hb3
    have g3:decide ((h.T:Int)≤b)=true:=by simpa using hb3
    go_enter Tryz.func85,Tryz.ntmps85
    go_wp2_with fail
    refine HK.out.mono ?_
    rintro e w1 ⟨rfl,hA⟩
    have HA1:=hide (HA.out _ hA)
    clear hA HK
    go_wp2_with fail
    refine HA1.out.mono ?_
    rintro e w2 ⟨rfl,hA⟩
    have HA2:=hide hA
    obtain⟨k0,k27⟩:=HCe.out _ hA
    have N1:=lt_of_cell k0
    have N2:=lt_of_cell k27
    clear hA HA1
    go_wp2_with fail
    go_ret
    exact⟨rfl,HSm.out _ HA2.out⟩
 ·have e2:hkAtE (h.st t) a=10:=by unfold hkAtE;rw [if_neg hi]
  rw [e2]at HA
  rw [if_neg hi,if_neg (fun e=>hi e.1)]
  have HSm:Hid (∀w',HM W w' L X h x s k E D Q→HM W w' L X { h with st:=h.st } x s k E D Q):=fun w' q=>q
  clear H hm hi e2 es eS hl hB hsame hrA
  generalize hkAt (h.st t) a=r at *
  go_enter Tryz.func85,Tryz.ntmps85
  go_wp2_with fail
  refine HK.out.mono ?_
  rintro e w1 ⟨rfl,hA⟩
  have HA1:=hide (HA.out _ hA)
  clear hA HK
  go_wp2_with fail
  refine HA1.out.mono ?_
  rintro e w2 ⟨rfl,hA⟩
  have HA2:=hide hA
  clear hA HA1
  go_wp2_with fail
  go_ret
  exact⟨rfl,HSm.out _ HA2.out⟩
end
end Go.Proofs.YtfcjdinlcehpmaaGreatDoor
