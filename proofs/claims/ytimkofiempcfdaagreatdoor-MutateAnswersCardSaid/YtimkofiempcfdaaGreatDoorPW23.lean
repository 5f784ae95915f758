/- Several texts joined (pack.py): Zd Ui Uj Uk Uv Xb. -/
import Derived.Test.YtimkofiempcfdaaGreatDoorPW21
import Derived.Test.YtimkofiempcfdaaGreatDoorPW22
import Derived.WalkKit
import Derived.BigQuiet
import Derived.Deep.CutRange
import Derived.Deep.RegionHeld3
set_option linter.unusedVariables false
set_option linter.unusedSimpArgs false
set_option maxHeartbeats 3200000
set_option maxRecDepth 100000
open List renaming mem_cons_of_mem->D3,mem_cons_self->D4,mem_cons->D5
open Int renaming eq_ofNat_of_zero_le->Ed
namespace Go.Proofs.YtimkofiempcfdaaGreatDoor
open Go.RowKit Go.Gl HS
structure cy(σ:GS)(A:Nat->Nat)(t:Nat)(o:Po)(q I:Nat):Prop where
 q1:1<=q
 q2:q<=σ.N
 a:aH (σ.st t) o.a
 r:aj (σ.st t) o.a=(q:Int)
 c:o.k=3->aH (σ.st t) o.c
 f:((o.k=2\/o.k=3)/\∃j:Nat,o.b=(j:Int)/\j<σ.np (q:Int)/\I=A q+1+j)\/((o.k=4\/o.k=5)/\∃j:Nat,o.b=(j:Int)/\j<σ.nw (q:Int)/\I=A q+1+σ.np (q:Int)+j)
section
variable {W w w':World}{L:HL}{X:HX}{h:HS}{x:HT}{s k:Nat}{E:aK}{D:Nat->Prop}{Q:World->Prop}{mb t sb:Nat}{m:MU}{σ:GS}{A:Nat->Nat}{rv:Nat->Option (Nat×Nat)}{B M T:Nat}
theorem Sim.iB(S:Sim h σ A rv){o:Nat}(h1:1<=o)(h2:o<=σ.N):dN h (A o) (osz σ o) (σ.np (o:Int)):=by
 have hz:=hU σ o;have hl:=(S.use o h1 h2 (A o) (Nat.le_refl _) (by omega)).1;have hzm:=S.zm o h1 h2;have hp:σ.np (o:Int)<osz σ o:=by unfold osz;omega
 have of:=oe (s:=osz σ o) (p:=σ.np (o:Int)) ⟨hz,hzm⟩ hp;have hat:=pT (n:=h.n) (f:=h.f) (k:=A o) hl;rw[S.hdr o h1 h2,of]at hat;have hin:=(S.use o h1 h2 (A o+osz σ o-1) (by omega) (by omega)).1;exact⟨hl,by rw[S.hdr o h1 h2,of];exact hat.1.symm,hat.2.trans rfl,by rw[hat.1];rfl,by rw[hat.1];rfl,by rw[hat.1];rfl,hz,hzm,hp,by omega⟩
def jb(W:World)(L:HL)(X:HX)(h:HS)(x:HT)(s k:Nat)(D:Nat->Prop)(Q:World->Prop)(mb t sb:Nat)(m:MU)(o:Po)(fV fE:Int):Prop:=
 ∀w' E',(mb,122,muV L.hb t sb m)∈E'->HM W w' L X h x s k E' D Q->Calls Tryz.prog 146 #[.pointer (some ⟨mb,0,none⟩),opV o] w' λe w''=>e=.returned (.tuple #[.int .i64 fV,.int .i64 fE])/\HM W w'' L X h x s k E' D Q
theorem vx(hS:ah D Q)(S:Sim h σ A rv)(gk:GOk T B σ)(hT:h.T=T)(ht:t<T)(hn:h.n<=4194304)(a b c v:Int)(ho:dB ⟨2,a,b,c,v⟩) :
  (∃code:Int,code≠0/\bm B M T σ t ⟨2,a,b,c,v⟩=⟨code,0,false⟩/\aN B M T σ t ⟨2,a,b,c,v⟩=σ/\jb W L X h x s k D Q mb t sb m ⟨2,a,b,c,v⟩ 0 code) \/
  ∃q I:Nat,cy σ A t ⟨2,a,b,c,v⟩ q I/\I<h.n/\jb W L X h x s k D Q mb t sb m ⟨2,a,b,c,v⟩ (I:Int) 0:=by
 have ht':t<h.T:=by omega
 have e0:=S.st t ht';have eA:bm B M T σ t ⟨2,a,b,c,v⟩=⟨fK B σ t a b,0,false⟩:=rfl;have eS:aN B M T σ t ⟨2,a,b,c,v⟩=dK B σ t a b:=rfl;rw[eA,eS];by_cases ha:aH (σ.st t) a;case neg=>
  have ha':¬ aH (h.st t) a:=λe=>ha ((bd A _ _).1 (by rw[<- e0];exact e));have HO:aD σ t a=10:=by unfold aD;rw[if_neg ha]
  have HNO:¬ (aD σ t a=0/\aA (σ.np (aj (σ.st t) a)) b):=λe=>by rw[HO]at e;exact absurd e.1 (by decide)
  have HE:fK B σ t a b=10:=by
   unfold fK;rw[HO];rw[if_pos (by decide)]
  exact .inl ⟨10,by decide,by rw[HE],by unfold dK;rw[if_neg HNO],λw' E' hm q=>sM hS q hm ht' a b c v ha'⟩
 have ha':aH (h.st t) a:=by rw[e0];exact(bd A _ _).2 ha
 have er:aj (h.st t) a=bo A (aj (σ.st t) a):=by rw[e0,cM]
 by_cases hr:aj (σ.st t) a=0
 ·have hr':aj (h.st t) a=0:=by rw[er,hr,bT]
  have HO:aD σ t a=12:=by unfold aD;rw[if_pos ha,if_pos hr]
  have HNO:¬ (aD σ t a=0/\aA (σ.np (aj (σ.st t) a)) b):=λe=>by rw[HO]at e;exact absurd e.1 (by decide)
  have HE:fK B σ t a b=12:=by
   unfold fK;rw[HO];rw[if_pos (by decide)]
  exact .inl ⟨12,by decide,by rw[HE],by unfold dK;rw[if_neg HNO],λw' E' hm q=>oN hS q hm ht' a b c v ha' hr'⟩
 have HO:aD σ t a=0:=by unfold aD;rw[if_pos ha,if_neg hr]
 obtain⟨g0,g1⟩:=gk.at t a;obtain⟨q0,hq⟩:=Ed g0;have hq1:1<=q0:=by omega
 have hq2:q0<=σ.N:=by omega
 have ob:=S.iB hq1 hq2;have hr':aj (h.st t) a=((A q0:Nat):Int)+1:=by rw[er,hq,dC A hq1]
 have hz:σ.np (q0:Int)<osz σ q0/\osz σ q0<=1048576/\A q0<=4194304:=⟨ob.ps,ob.max,by have:=ob.lt;omega⟩;have hfit:=ob.fit;have hosz:osz σ q0=1+σ.np (q0:Int)+σ.nw (q0:Int):=rfl;by_cases hb:b<0
 ·have hfi:¬ aA (σ.np (q0:Int)) b:=by unfold aA;omega
  have HNO:¬ (aD σ t a=0/\aA (σ.np (aj (σ.st t) a)) b):=λe=>by have:=e.2;rw[hq]at this;exact hfi this
  have HE:fK B σ t a b=11:=by
   unfold fK;rw[HO];rw[if_neg (by decide),hq,if_neg hfi]
  exact .inl ⟨11,by decide,by rw[HE],by unfold dK;rw[if_neg HNO],λw' E' hm q=>oO hS q hm ht' a b c v ha' hr' ob.aD ob.bA hz hb⟩
 by_cases hb2:b<((σ.np (q0:Int):Nat):Int);case neg=>
  have hfi:¬ aA (σ.np (q0:Int)) b:=by unfold aA;omega
  have HNO:¬ (aD σ t a=0/\aA (σ.np (aj (σ.st t) a)) b):=λe=>by have:=e.2;rw[hq]at this;exact hfi this
  have HE:fK B σ t a b=11:=by
   unfold fK;rw[HO];rw[if_neg (by decide),hq,if_neg hfi]
  exact .inl ⟨11,by decide,by rw[HE],by unfold dK;rw[if_neg HNO],λw' E' hm q=>oP hS q hm ht' a b c v ha' hr' ob.aD ob.bA hz hb (by omega) ho.b.2⟩
 obtain⟨j,rfl⟩:=Ed (show 0<=b by omega);refine .inr ⟨q0,A q0+1+j,⟨hq1,hq2,ha,hq,λe=>absurd e (by show ¬ (2:Int)=3;decide),.inl ⟨.inl rfl,j,rfl,by omega,rfl⟩⟩,by omega,λw' E' hm q=>?_⟩;have:=qO hS q hm ht' a (j:Int) c v ha' hr' ob.aD ob.bA hz hb (by omega);rw[show((A q0+1+j:Nat):Int)=((A q0:Nat):Int)+1+(j:Int)by omega];exact this
theorem vy(hS:ah D Q)(S:Sim h σ A rv)(gk:GOk T B σ)(hT:h.T=T)(ht:t<T)(hn:h.n<=4194304)(a b c v:Int)(ho:dB ⟨3,a,b,c,v⟩) :
  (∃code:Int,code≠0/\bm B M T σ t ⟨3,a,b,c,v⟩=⟨code,0,false⟩/\aN B M T σ t ⟨3,a,b,c,v⟩=σ/\jb W L X h x s k D Q mb t sb m ⟨3,a,b,c,v⟩ 0 code) \/
  ∃q I:Nat,cy σ A t ⟨3,a,b,c,v⟩ q I/\I<h.n/\jb W L X h x s k D Q mb t sb m ⟨3,a,b,c,v⟩ (I:Int) 0:=by
 have ht':t<h.T:=by omega
 have e0:=S.st t ht';have eA:bm B M T σ t ⟨3,a,b,c,v⟩=⟨bg σ t a b c,0,false⟩:=rfl;have eS:aN B M T σ t ⟨3,a,b,c,v⟩=bR σ t a b c:=rfl;rw[eA,eS];by_cases hc:aH (σ.st t) c;case neg=>
  have hc':¬ aH (h.st t) c:=λe=>hc ((bd A _ _).1 (by rw[<- e0];exact e));have HE:bg σ t a b c=10:=by
   unfold bg;rw[if_neg hc]
  exact .inl ⟨10,by decide,by rw[HE],by unfold bR;rw[if_neg (by rw[HE];decide)],λw' E' hm q=>sO hS q hm ht' a b c v hc'⟩
 have hc':aH (h.st t) c:=by rw[e0];exact(bd A _ _).2 hc
 by_cases ha:aH (σ.st t) a;case neg=>
  have ha':¬ aH (h.st t) a:=λe=>ha ((bd A _ _).1 (by rw[<- e0];exact e));have HO:aD σ t a=10:=by unfold aD;rw[if_neg ha]
  have HE:bg σ t a b c=10:=by
   unfold bg;rw[if_pos hc];rw[HO];rw[if_pos (by decide)]
  exact .inl ⟨10,by decide,by rw[HE],by unfold bR;rw[if_neg (by rw[HE];decide)],λw' E' hm q=>sP hS q hm ht' a b c v hc' ha'⟩
 have ha':aH (h.st t) a:=by rw[e0];exact(bd A _ _).2 ha
 have er:aj (h.st t) a=bo A (aj (σ.st t) a):=by rw[e0,cM]
 by_cases hr:aj (σ.st t) a=0
 ·have hr':aj (h.st t) a=0:=by rw[er,hr,bT]
  have HO:aD σ t a=12:=by unfold aD;rw[if_pos ha,if_pos hr]
  have HE:bg σ t a b c=12:=by
   unfold bg;rw[if_pos hc];rw[HO];rw[if_pos (by decide)]
  exact .inl ⟨12,by decide,by rw[HE],by unfold bR;rw[if_neg (by rw[HE];decide)],λw' E' hm q=>oQ hS q hm ht' a b c v hc' ha' hr'⟩
 have HO:aD σ t a=0:=by unfold aD;rw[if_pos ha,if_neg hr]
 obtain⟨g0,g1⟩:=gk.at t a;obtain⟨q0,hq⟩:=Ed g0;have hq1:1<=q0:=by omega
 have hq2:q0<=σ.N:=by omega
 have ob:=S.iB hq1 hq2;have hr':aj (h.st t) a=((A q0:Nat):Int)+1:=by rw[er,hq,dC A hq1]
 have hz:σ.np (q0:Int)<osz σ q0/\osz σ q0<=1048576/\A q0<=4194304:=⟨ob.ps,ob.max,by have:=ob.lt;omega⟩;have hfit:=ob.fit;have hosz:osz σ q0=1+σ.np (q0:Int)+σ.nw (q0:Int):=rfl;by_cases hb:b<0
 ·have hfi:¬ aA (σ.np (q0:Int)) b:=by unfold aA;omega
  have HE:bg σ t a b c=11:=by
   unfold bg;rw[if_pos hc];rw[HO];rw[if_neg (by decide),hq,if_neg hfi]
  exact .inl ⟨11,by decide,by rw[HE],by unfold bR;rw[if_neg (by rw[HE];decide)],λw' E' hm q=>oR hS q hm ht' a b c v hc' ha' hr' ob.aD ob.bA hz hb⟩
 by_cases hb2:b<((σ.np (q0:Int):Nat):Int);case neg=>
  have hfi:¬ aA (σ.np (q0:Int)) b:=by unfold aA;omega
  have HE:bg σ t a b c=11:=by
   unfold bg;rw[if_pos hc];rw[HO];rw[if_neg (by decide),hq,if_neg hfi]
  exact .inl ⟨11,by decide,by rw[HE],by unfold bR;rw[if_neg (by rw[HE];decide)],λw' E' hm q=>oT hS q hm ht' a b c v hc' ha' hr' ob.aD ob.bA hz hb (by omega) ho.b.2⟩
 obtain⟨j,rfl⟩:=Ed (show 0<=b by omega);refine .inr ⟨q0,A q0+1+j,⟨hq1,hq2,ha,hq,λ_=>hc,.inl ⟨.inr rfl,j,rfl,by omega,rfl⟩⟩,by omega,λw' E' hm q=>?_⟩;have:=qP hS q hm ht' a (j:Int) c v hc' ha' hr' ob.aD ob.bA hz hb (by omega);rw[show((A q0+1+j:Nat):Int)=((A q0:Nat):Int)+1+(j:Int)by omega];exact this
theorem vz(hS:ah D Q)(S:Sim h σ A rv)(gk:GOk T B σ)(hT:h.T=T)(ht:t<T)(hn:h.n<=4194304)(a b c v:Int)(ho:dB ⟨4,a,b,c,v⟩) :
  (∃code:Int,code≠0/\bm B M T σ t ⟨4,a,b,c,v⟩=⟨code,0,false⟩/\aN B M T σ t ⟨4,a,b,c,v⟩=σ/\jb W L X h x s k D Q mb t sb m ⟨4,a,b,c,v⟩ 0 code) \/
  ∃q I:Nat,cy σ A t ⟨4,a,b,c,v⟩ q I/\I<h.n/\jb W L X h x s k D Q mb t sb m ⟨4,a,b,c,v⟩ (I:Int) 0:=by
 have ht':t<h.T:=by omega
 have e0:=S.st t ht';have eA:bm B M T σ t ⟨4,a,b,c,v⟩=⟨bE σ t a b,iy σ t a b,false⟩:=rfl;have eS:aN B M T σ t ⟨4,a,b,c,v⟩=σ:=rfl;rw[eA,eS];by_cases ha:aH (σ.st t) a;case neg=>
  have ha':¬ aH (h.st t) a:=λe=>ha ((bd A _ _).1 (by rw[<- e0];exact e));have HO:aD σ t a=10:=by unfold aD;rw[if_neg ha]
  have HE:bE σ t a b=10:=by
   unfold bE;rw[HO];rw[if_pos (by decide)]
  exact .inl ⟨10,by decide,by rw[HE];unfold iy;rw[if_neg (by rw[HE];decide)],by rfl,λw' E' hm q=>sQ hS q hm ht' a b c v ha'⟩
 have ha':aH (h.st t) a:=by rw[e0];exact(bd A _ _).2 ha
 have er:aj (h.st t) a=bo A (aj (σ.st t) a):=by rw[e0,cM]
 by_cases hr:aj (σ.st t) a=0
 ·have hr':aj (h.st t) a=0:=by rw[er,hr,bT]
  have HO:aD σ t a=12:=by unfold aD;rw[if_pos ha,if_pos hr]
  have HE:bE σ t a b=12:=by
   unfold bE;rw[HO];rw[if_pos (by decide)]
  exact .inl ⟨12,by decide,by rw[HE];unfold iy;rw[if_neg (by rw[HE];decide)],by rfl,λw' E' hm q=>oU hS q hm ht' a b c v ha' hr'⟩
 have HO:aD σ t a=0:=by unfold aD;rw[if_pos ha,if_neg hr]
 obtain⟨g0,g1⟩:=gk.at t a;obtain⟨q0,hq⟩:=Ed g0;have hq1:1<=q0:=by omega
 have hq2:q0<=σ.N:=by omega
 have ob:=S.iB hq1 hq2;have hr':aj (h.st t) a=((A q0:Nat):Int)+1:=by rw[er,hq,dC A hq1]
 have hz:σ.np (q0:Int)<osz σ q0/\osz σ q0<=1048576/\A q0<=4194304:=⟨ob.ps,ob.max,by have:=ob.lt;omega⟩;have hfit:=ob.fit;have hosz:osz σ q0=1+σ.np (q0:Int)+σ.nw (q0:Int):=rfl;by_cases hb:b<0
 ·have hfi:¬ aA (σ.nw (q0:Int)) b:=by unfold aA;omega
  have HE:bE σ t a b=11:=by
   unfold bE;rw[HO];rw[if_neg (by decide),hq,if_neg hfi]
  exact .inl ⟨11,by decide,by rw[HE];unfold iy;rw[if_neg (by rw[HE];decide)],by rfl,λw' E' hm q=>oV hS q hm ht' a b c v ha' hr' ob.aD ob.bA hz hb⟩
 by_cases hb2:b<((σ.nw (q0:Int):Nat):Int);case neg=>
  have hfi:¬ aA (σ.nw (q0:Int)) b:=by unfold aA;omega
  have HE:bE σ t a b=11:=by
   unfold bE;rw[HO];rw[if_neg (by decide),hq,if_neg hfi]
  exact .inl ⟨11,by decide,by rw[HE];unfold iy;rw[if_neg (by rw[HE];decide)],by rfl,λw' E' hm q=>oW hS q hm ht' a b c v ha' hr' ob.aD ob.bA hz hb (by omega) ho.b.2⟩
 obtain⟨j,rfl⟩:=Ed (show 0<=b by omega);refine .inr ⟨q0,A q0+1+σ.np (q0:Int)+j,⟨hq1,hq2,ha,hq,λe=>absurd e (by show ¬ (4:Int)=3;decide),.inr ⟨.inl rfl,j,rfl,by omega,rfl⟩⟩,by omega,λw' E' hm q=>?_⟩;have:=qQ hS q hm ht' a (j:Int) c v ha' hr' ob.aD ob.bA hz hb (by omega);rw[show((A q0+1+σ.np (q0:Int)+j:Nat):Int)=((A q0:Nat):Int)+1+((σ.np (q0:Int):Nat):Int)+(j:Int)by omega];exact this
theorem vA(hS:ah D Q)(S:Sim h σ A rv)(gk:GOk T B σ)(hT:h.T=T)(ht:t<T)(hn:h.n<=4194304)(a b c v:Int)(ho:dB ⟨5,a,b,c,v⟩) :
  (∃code:Int,code≠0/\bm B M T σ t ⟨5,a,b,c,v⟩=⟨code,0,false⟩/\aN B M T σ t ⟨5,a,b,c,v⟩=σ/\jb W L X h x s k D Q mb t sb m ⟨5,a,b,c,v⟩ 0 code) \/
  ∃q I:Nat,cy σ A t ⟨5,a,b,c,v⟩ q I/\I<h.n/\jb W L X h x s k D Q mb t sb m ⟨5,a,b,c,v⟩ (I:Int) 0:=by
 have ht':t<h.T:=by omega
 have e0:=S.st t ht';have eA:bm B M T σ t ⟨5,a,b,c,v⟩=⟨bE σ t a b,0,false⟩:=rfl;have eS:aN B M T σ t ⟨5,a,b,c,v⟩=ch σ t a b v:=rfl;rw[eA,eS];by_cases ha:aH (σ.st t) a;case neg=>
  have ha':¬ aH (h.st t) a:=λe=>ha ((bd A _ _).1 (by rw[<- e0];exact e));have HO:aD σ t a=10:=by unfold aD;rw[if_neg ha]
  have HE:bE σ t a b=10:=by
   unfold bE;rw[HO];rw[if_pos (by decide)]
  exact .inl ⟨10,by decide,by rw[HE],by unfold ch;rw[if_neg (by rw[HE];decide)],λw' E' hm q=>sR hS q hm ht' a b c v ha'⟩
 have ha':aH (h.st t) a:=by rw[e0];exact(bd A _ _).2 ha
 have er:aj (h.st t) a=bo A (aj (σ.st t) a):=by rw[e0,cM]
 by_cases hr:aj (σ.st t) a=0
 ·have hr':aj (h.st t) a=0:=by rw[er,hr,bT]
  have HO:aD σ t a=12:=by unfold aD;rw[if_pos ha,if_pos hr]
  have HE:bE σ t a b=12:=by
   unfold bE;rw[HO];rw[if_pos (by decide)]
  exact .inl ⟨12,by decide,by rw[HE],by unfold ch;rw[if_neg (by rw[HE];decide)],λw' E' hm q=>oX hS q hm ht' a b c v ha' hr'⟩
 have HO:aD σ t a=0:=by unfold aD;rw[if_pos ha,if_neg hr]
 obtain⟨g0,g1⟩:=gk.at t a;obtain⟨q0,hq⟩:=Ed g0;have hq1:1<=q0:=by omega
 have hq2:q0<=σ.N:=by omega
 have ob:=S.iB hq1 hq2;have hr':aj (h.st t) a=((A q0:Nat):Int)+1:=by rw[er,hq,dC A hq1]
 have hz:σ.np (q0:Int)<osz σ q0/\osz σ q0<=1048576/\A q0<=4194304:=⟨ob.ps,ob.max,by have:=ob.lt;omega⟩;have hfit:=ob.fit;have hosz:osz σ q0=1+σ.np (q0:Int)+σ.nw (q0:Int):=rfl;by_cases hb:b<0
 ·have hfi:¬ aA (σ.nw (q0:Int)) b:=by unfold aA;omega
  have HE:bE σ t a b=11:=by
   unfold bE;rw[HO];rw[if_neg (by decide),hq,if_neg hfi]
  exact .inl ⟨11,by decide,by rw[HE],by unfold ch;rw[if_neg (by rw[HE];decide)],λw' E' hm q=>oY hS q hm ht' a b c v ha' hr' ob.aD ob.bA hz hb⟩
 by_cases hb2:b<((σ.nw (q0:Int):Nat):Int);case neg=>
  have hfi:¬ aA (σ.nw (q0:Int)) b:=by unfold aA;omega
  have HE:bE σ t a b=11:=by
   unfold bE;rw[HO];rw[if_neg (by decide),hq,if_neg hfi]
  exact .inl ⟨11,by decide,by rw[HE],by unfold ch;rw[if_neg (by rw[HE];decide)],λw' E' hm q=>oZ hS q hm ht' a b c v ha' hr' ob.aD ob.bA hz hb (by omega) ho.b.2⟩
 obtain⟨j,rfl⟩:=Ed (show 0<=b by omega);refine .inr ⟨q0,A q0+1+σ.np (q0:Int)+j,⟨hq1,hq2,ha,hq,λe=>absurd e (by show ¬ (5:Int)=3;decide),.inr ⟨.inr rfl,j,rfl,by omega,rfl⟩⟩,by omega,λw' E' hm q=>?_⟩;have:=qR hS q hm ht' a (j:Int) c v ha' hr' ob.aD ob.bA hz hb (by omega);rw[show((A q0+1+σ.np (q0:Int)+j:Nat):Int)=((A q0:Nat):Int)+1+((σ.np (q0:Int):Nat):Int)+(j:Int)by omega];exact this
end
section
variable {W w w':World}{L:HL}{X:HX}{h:HS}{x:HT}{s k:Nat}{E:aK}{D:Nat->Prop}{Q:World->Prop}{mb t sb:Nat}{m:MU}
theorem lS(hS:ah D Q)(H:HM W w L X h x s k E D Q)(hm:(mb,122,muV L.hb t sb m)∈E)(ht:t<h.T)(hB:h.ui){n:Int}(hbg:h.g.jx n=false)(hn:1<=n)(hn2:h.be t-h.bx t<n)(hno:((bN h.s 1 h.R).length:Int)>=L.cfg.bH\/(((bN h.s 1 h.R).length:Int)<L.cfg.bH/\gF h.s h.R)) :
  Calls Tryz.prog 144 #[.pointer (some ⟨mb,0,none⟩),.int .i64 n] w λe w'=>e=.returned (.tuple #[.int .i64 0,.int .i64 6])/\HM W w' L X (bB h t) x s k E D Q:=by
 have HBg:Hid (∀w',HM W w' L X h x s k E D Q->Calls Tryz.prog 109 #[.agg #[.int .i64 h.g.words,.int .i64 h.g.rw,.int .i64 h.g.cw,.int .i64 h.g.regions,.int .i64 h.g.aG,.int .i64 h.g.max],.int .i64 n] w' λe w''=>e=.returned (.bool false)/\HM W w'' L X h x s k E D Q):=λw' q=>by
  refine(gU h.g n w' (by rw[q.dim.rw];omega)).mono ?_;rintro e w'' ⟨rfl,hf⟩;rw[hbg];exact⟨rfl,q.fr0 hS hf⟩
 have HLf:Hid (∀w',HM W w' L X h x s k E D Q->Calls Tryz.prog 164 #[.pointer (some ⟨L.bb,t*2,none⟩)] w' λe w''=>e=.returned (.int .i64 (h.be t-h.bx t))/\HM W w'' L X h x s k E D Q):=λw' q=>q.x7 hS ht;have HMu:Hid (∀w' h' x',HM W w' L X h' x' s k E D Q->w'.cell? ⟨mb,0,none⟩=some (.pointer (some ⟨L.hb,0,none⟩))/\w'.cell? ⟨mb,1,none⟩=some (.int .i64 (t:Int))):=λw' h' x' q=>by
  have hb:=q.blk hm;exact⟨hb.cell 0,hb.cell 1⟩
 have HCe:Hid (∀w',HM W w' L X h x s k E D Q->fx w' L X h.g h.T):=λw' q=>q.hc;have HF0:Hid (∀w' i,HM W w' L X h x s k E D Q->HM W (w'.drewN i) L X h x s k E D Q):=λw' i q=>q.fr0 hS ((Fr.refl _ _).drewN _);have ht1:(t:Int)<(h.T:Int):=by omega
 have HA0:=aa H;obtain⟨c14,c15,c16,c17,c18,c19,-,-,-,-,-,-,-,-,-,NH⟩:=H.hc;have k0:=(HMu.out _ _ _ H).1;have HRt:Hid (∀w',HM W w' L X h x s k E D Q->Calls Tryz.prog 165 #[.pointer (some ⟨mb,0,none⟩)] w' λe w''=>e=.returned (.tuple #[])/\HM W w'' L X (bB h t) x s k E D Q):=λw' q=>jK hS q hm ht hB;have HRf:Hid (∀w',HM W w' L X (bB h t) x s k E D Q->Calls Tryz.prog 166 #[.pointer (some ⟨mb,0,none⟩)] w' λe w''=>e=.returned (.tuple #[])/\HM W w'' L X (bB h t) x s k E D Q):=λw' q=>by
  rcases hno with hy|⟨hy,hl⟩
  ·exact mi hS q hm hy
  ·exact mj hS q hm hy hl
 have HTk:Hid (∀w',HM W w' L X (bB h t) x s k E D Q->Calls Tryz.prog 167 #[.pointer (some ⟨L.bb,t*2,none⟩),.int .i64 n] w' λe w''=>e=.returned (.tuple #[.int .i64 0,.int .i64 6])/\HM W w'' L X (bB h t) x s k E D Q):=λw' q=>by
  have ex:(bB h t).bx t=0:=by show ak _ t _ t=_;unfold ak;rw[if_pos rfl]
  have ee:(bB h t).be t=0:=by show ak _ t _ t=_;unfold ak;rw[if_pos rfl]
  exact q.lM hS (i:=t) ht hn (by rw[ex,ee];omega)
 have hge:decide (h.be t-h.bx t<n)=true:=by simp;omega
 clear H hm hbg ht hn hn2 hB hno;go_enter Tryz.func144,Tryz.ntmps144
 go_wp2_with fail
 refine(HBg.out _ HA0.out).mono ?_;rintro e w1 ⟨rfl,hA⟩;have HA1:=aa hA;obtain⟨k0',k1⟩:=HMu.out _ _ _ hA;have c28:=(HCe.out _ hA).c28;have NH1:=(HCe.out _ hA).lt;clear c14 c15 c16 c17 c18 c19 NH k0 hA;go_wp2_with fail
 go_quiet (fail)
 have HA2:=aa (HF0.out _ nq HA1.out);have HL2:=aa (HLf.out _ HA2.out);clear k0' k1 c28 NH1;go_wp2_with fail
 refine HL2.out.mono ?_;rintro e w2 ⟨rfl,hA⟩;have HA3:=aa hA;clear hA;have HR3:=aa (HRt.out _ HA3.out);go_wp2_with fail
 refine HR3.out.mono ?_;rintro e w3 ⟨rfl,hA⟩;have HR4:=aa (HRf.out _ hA);clear hA;go_wp2_with fail
 refine HR4.out.mono ?_;rintro e w4 ⟨rfl,hA⟩;have HT3:=aa (HTk.out _ hA);clear hA;go_wp2_with fail
 refine HT3.out.mono ?_;rintro e w5 ⟨rfl,hA⟩;have HA4:=aa hA;clear hA;go_wp2_with fail
 go_ret2
 exact⟨rfl,HA4.out⟩
end
section
variable {W w w':World}{L:HL}{X:HX}{h h2:HS}{x x2:HT}{s k:Nat}{E:aK}{D:Nat->Prop}{Q:World->Prop}{mb t sb:Nat}{m:MU}
def DY:Array Value:=#[.int .i64 0,.int .i64 0,.int .i64 0,.int .u64 0,.bool false,.bool false,.bool false,.bool false,.slice none 0 0]
abbrev cD(w:World)(b:Nat)(v0 v1 v2 v3 v4 v5 v6 v7 v8:Value):World:=
 ((((((((w.setCell ⟨b,0,none⟩ v0).setCell ⟨b,1,none⟩ v1).setCell ⟨b,2,none⟩ v2).setCell ⟨b,3,none⟩ v3).setCell ⟨b,4,none⟩ v4).setCell ⟨b,5,none⟩ v5).setCell ⟨b,6,none⟩ v6).setCell ⟨b,7,none⟩ v7).setCell ⟨b,8,none⟩ v8
theorem o9(w:World)(b:Nat)(v0 v1 v2 v3 v4 v5 v6 v7 v8:Value):Fr [b] w (cD w b v0 v1 v2 v3 v4 v5 v6 v7 v8):=
 aR (aR (aR (aR (aR (aR (aR (aR (aR (Fr.refl [b] w) (by simp) 0 _) (by simp) 1 _) (by simp) 2 _) (by simp) 3 _) (by simp) 4 _) (by simp) 5 _) (by simp) 6 _) (by simp) 7 _) (by simp) 8 _
theorem ya{b:Nat}{ty:TypeId}{a0 a1 a2 a3 a4 a5 a6 a7 a8:Value}(h:Blk w b ty #[a0,a1,a2,a3,a4,a5,a6,a7,a8])(v0 v1 v2 v3 v4 v5 v6 v7 v8:Value):Blk (cD w b v0 v1 v2 v3 v4 v5 v6 v7 v8) b ty #[v0,v1,v2,v3,v4,v5,v6,v7,v8]:=by
 have:=((((((((h.put 0 v0).put 1 v1).put 2 v2).put 3 v3).put 4 v4).put 5 v5).put 6 v6).put 7 v7).put 8 v8;simpa using this
theorem HM.cX(hS:ah D Q)(hT:Tab W){rb:Nat}{a0 a1 a2 a3 a4 a5 a6 a7 a8:Value}(H:HM W w L X h x s k ((rb,81,#[a0,a1,a2,a3,a4,a5,a6,a7,a8])::E) D Q)(hne:∀q,q∈E->q.1≠rb)(v0 v1 v2 v3 v4 v5 v6 v7 v8:Value) :
  HM W (cD w rb v0 v1 v2 v3 v4 v5 v6 v7 v8) L X h x s k E D Q:=
 (H.mh hS hT (o9 w rb v0 v1 v2 v3 v4 v5 v6 v7 v8) (ya (H.blk (D4 ..)) v0 v1 v2 v3 v4 v5 v6 v7 v8) hne).sub (λq hq=>D3 _ hq)
end
section
variable {W w w':World}{L:HL}{X:HX}{h h2:HS}{x x2:HT}{s k:Nat}{E:aK}{D:Nat->Prop}{Q:World->Prop}{mb t sb:Nat}{m:MU}
def MU.op(m:MU):Po:=⟨m.k,m.a,m.b,m.c,m.v⟩
theorem lT(hS:ah D Q)(hT:Tab W)(H:HM W w L X h x s k ((mb,122,muV L.hb t sb m)::E) D Q)(hne:∀q,q∈E->q.1≠mb)(ht:t<h.T)(hB:L.B<=64)(hl:(h.st t).length<L.B)
  {M:Nat} (hM:h.g.max=(M:Int)) (hM2:M<=1048576) (hsz:¬ aE M m.a m.b) (ho:dB m.op) {ad:Int}
  (hw:∀w' E',(mb,122,muV L.hb t sb m)∈E'->HM W w' L X h x s k E' D Q->Calls Tryz.prog 144 #[.pointer (some ⟨mb,0,none⟩),.int .i64 (1+m.a+m.b)] w' λe w''=>e=.returned (.tuple #[.int .i64 ad,.int .i64 0])/\HM W w'' L X h2 x2 s k E' D Q) :
  Calls Tryz.prog 100 #[.pointer (some ⟨mb,0,none⟩)] w λe w'=>e=.returned (bk 0 0 An.zero false true false (.slice none 0 0))/\HM W w' L X h2 x2 s k ((mb,122,muV L.hb t sb { m with st:=5,ad:=ad })::E) D Q:=by
 have hmb:=H.blk (D4 ..);have hlt:=hmb.lt;have hltE:∀q,q∈E->q.1<w.heap.size:=λq hq=>(H.blk (b:=q.1) (t:=q.2.1) (cs:=q.2.2) (D3 _ hq)).lt;have HX:=aa (H.alloc hS 81 #[.int .i64 0,.int .i64 0,.int .i64 0,.int .u64 0,.bool false,.bool false,.bool false,.bool false,.slice none 0 0]);have HSz:Hid (Calls Tryz.prog 142 #[.pointer (some ⟨mb,0,none⟩),opV m.op] (w.alloc (.cells #[.int .i64 0,.int .i64 0,.int .i64 0,.int .u64 0,.bool false,.bool false,.bool false,.bool false,.slice none 0 0] 81)) λe w'=>e=.returned (.tuple #[.int .i64 (1+m.a+m.b),.int .i64 0])/\HM W w' L X h x s k ((w.heap.size,81,#[.int .i64 0,.int .i64 0,.int .i64 0,.int .u64 0,.bool false,.bool false,.bool false,.bool false,.slice none 0 0])::(mb,122,muV L.hb t sb m)::E) D Q):=by
  have:=hJ (HX.out.blk (D3 _ (D4 ..))) HX.out.hc hM hM2 m.op ho;unfold szN szE at this;rw[if_neg (show ¬ aE M m.op.a m.op.b from hsz),if_neg (show ¬ aE M m.op.a m.op.b from hsz)]at this;exact this.mono (by rintro e w' ⟨rfl,hf⟩;exact⟨rfl,HX.out.fr0 hS hf⟩)
 have HSk:Hid (∀w' E',(mb,122,muV L.hb t sb m)∈E'->HM W w' L X h x s k E' D Q->Calls Tryz.prog 106 #[.pointer (some ⟨mb,0,none⟩)] w' λe w''=>e=.returned (.pointer (some ⟨L.S t,0,none⟩))/\HM W w'' L X h x s k E' D Q):=λw' E' hm q=>(bX (q.blk hm) q.hr ht).mono (by rintro e w'' ⟨rfl,hf⟩;exact⟨rfl,q.fr0 hS hf⟩);have HRm:Hid (∀w' E',HM W w' L X h x s k E' D Q->Calls Tryz.prog 143 #[.pointer (some ⟨L.S t,0,none⟩)] w' λe w''=>e=.returned (.int .i64 ((L.B:Int)-((h.st t).length:Int)))/\HM W w'' L X h x s k E' D Q):=λw' E' q=>by
  obtain⟨F,hk⟩:=q.hr.stk t ht;refine(iI hk (by omega) hB).mono ?_;rintro e w'' ⟨rfl,n,rfl⟩;exact⟨rfl,q.fr0 hS ((Fr.refl _ _).drewN _)⟩
 have hroom:((L.B:Int)-((h.st t).length:Int)==0)=false:=by simp;omega
 have HW:=aa hw;have HGo:Hid (∀w' rb c,rb≠mb->HM W w' L X h2 x2 s k ((rb,81,c)::(mb,122,muV L.hb t sb m)::E) D Q->Calls Tryz.prog 145 #[.pointer (some ⟨mb,0,none⟩),.int .i64 5,.int .i64 ad] w' λe w''=>e=.returned (bk 0 0 An.zero false true false (.slice none 0 0))/\HM W w'' L X h2 x2 s k ((rb,81,c)::(mb,122,muV L.hb t sb { m with st:=5,ad:=ad })::E) D Q):=λw' rb c hr q=>by
  have q2:HM W w' L X h2 x2 s k ((mb,122,muV L.hb t sb m)::(rb,81,c)::E) D Q:=q.sub (λy hy=>by
   rcases D5.1 hy with rfl|hy
   ·exact D3 _ (D4 ..)
   ·rcases D5.1 hy with rfl|hy
    ·exact D4 ..
    ·exact D3 _ (D3 _ hy))
  refine(q2.mut (P:=λe=>e=.returned (bk 0 0 An.zero false true false (.slice none 0 0))) hS hT (m':={ m with st:=5,ad:=ad }) (λy hy=>?_) (λhb=>nQ hb 5 ad)).mono ?_
  ·rcases D5.1 hy with rfl|hy
   ·exact hr
   ·exact hne y hy
  ·rintro e w'' ⟨he,q3⟩;refine⟨he,q3.sub (λy hy=>?_)⟩;rcases D5.1 hy with rfl|hy
   ·exact D3 _ (D4 ..)
   ·rcases D5.1 hy with rfl|hy
    ·exact D4 ..
    ·exact D3 _ (D3 _ hy)
 have HEnd:Hid (∀w' rb a0 a1 a2 a3 a4 a5 a6 a7 a8 v0 v1 v2 v3 v4 v5 v6 v7 v8,rb≠mb->(∀q,q∈E->q.1≠rb)->HM W w' L X h2 x2 s k ((rb,81,#[a0,a1,a2,a3,a4,a5,a6,a7,a8])::(mb,122,muV L.hb t sb { m with st:=5,ad:=ad })::E) D Q->HM W (cD w' rb v0 v1 v2 v3 v4 v5 v6 v7 v8) L X h2 x2 s k ((mb,122,muV L.hb t sb { m with st:=5,ad:=ad })::E) D Q):=λw' rb a0 a1 a2 a3 a4 a5 a6 a7 a8 v0 v1 v2 v3 v4 v5 v6 v7 v8 hr hq q=>
  q.cX hS hT (λy hy=>by
   rcases D5.1 hy with rfl|hy
   ·exact λe=>hr e.symm
   ·exact hq y hy) v0 v1 v2 v3 v4 v5 v6 v7 v8
 obtain⟨c0,c1,c2,c3,c4,c5,c6,c7,c8,c9,c10⟩:=aL hmb;have HRB:Hid (w.heap.size≠mb/\∀q,q∈E->q.1≠w.heap.size):=⟨by omega,λq hq=>by have:=hltE q hq;omega⟩;unfold opV at HSz;unfold MU.op at HSz;simp only at HSz;unfold bk at HGo ⊢;unfold An.zero at HGo ⊢;clear H hmb hltE HX hw hB hl hM hM2 hsz ho hne;generalize (L.B:Int)-((h.st t).length:Int)=rm at *;go_enter Tryz.func100,Tryz.ntmps100
 go_wp2_with fail
 refine HSz.out.mono ?_;rintro e w1 ⟨rfl,hA⟩;have HA1:=aa hA;have HK1:=aa (HSk.out _ _ (D3 _ (D4 ..)) hA);clear hA c0 c1 c2 c3 c4 c5 c6 c7 c8 c9 c10 HSz;go_wp2_with fail
 refine HK1.out.mono ?_;rintro e w2 ⟨rfl,hA⟩;have HK2:=aa (HRm.out _ _ hA);clear hA HK1;go_wp2_with fail
 refine HK2.out.mono ?_;rintro e w3 ⟨rfl,hA⟩;have HK3:=aa (HW.out _ _ (D3 _ (D4 ..)) hA);clear hA HK2;go_wp2_with fail
 refine HK3.out.mono ?_;rintro e w4 ⟨rfl,hA⟩;have HK4:=aa (HGo.out _ _ _ HRB.out.1 hA);clear hA HK3;go_wp2_with fail
 refine HK4.out.mono ?_;rintro e w5 ⟨rfl,hA⟩;have HA5:=aa hA;have hrb:=hA.blk (D4 ..);have y0:=hrb.cell 0;have y1:=hrb.cell 1;have y2:=hrb.cell 2;have y3:=hrb.cell 3;have y4:=hrb.cell 4;have y5:=hrb.cell 5;have y6:=hrb.cell 6;have y7:=hrb.cell 7;have y8:=hrb.cell 8;have z0:=hrb.frozen 0;have z1:=hrb.frozen 1;have z2:=hrb.frozen 2;have z3:=hrb.frozen 3;have z4:=hrb.frozen 4;have z5:=hrb.frozen 5;have z6:=hrb.frozen 6;have z7:=hrb.frozen 7;have z8:=hrb.frozen 8;have NR:=hrb.lt;clear hA hrb HK4;go_wp2_with fail
 refine bodyPost_ret (v:=.agg #[.int .i64 0,.int .i64 0,.int .i64 0,.int .u64 0,.bool false,.bool false,.bool true,.bool false,.slice none 0 0]) (by simp[results,Tryz.results100,go_sem, *]) rfl ⟨rfl,?_⟩;exact HEnd.out _ _ _ _ _ _ _ _ _ _ _ _ _ _ _ _ _ _ _ _ HRB.out.1 HRB.out.2 HA5.out
end
section
variable {W w w':World}{L:HL}{X:HX}{h h2:HS}{x x2:HT}{s k:Nat}{E:aK}{D:Nat->Prop}{Q:World->Prop}{mb t sb:Nat}{m:MU}
theorem HM.uj(hS:ah D Q)(H:HM W w L X h x s k E D Q){I:Nat}(hI:I<h.n) :
  Calls Tryz.prog 49 #[.pointer (some ⟨L.ab,0,none⟩),.int .i64 (I:Int)] w λe w'=>e=.returned (.tuple #[.int .u64 (h.f I:Int),.int .i64 0])/\HM W w' L X h x s k E D Q:=by
 obtain⟨c,hc⟩:=H.hr.ar;refine(kI hc rfl hI rfl).mono ?_;rintro e w' ⟨rfl,ha,hf⟩;exact⟨rfl,H.looked hS (H.hr.fr1 hf ⟨_,ha⟩) hf⟩
theorem HM.sS(hS:ah D Q)(H:HM W w L X h x s k E D Q){I v:Nat}{y:Int}(hI:I<h.n)(hy:y=(v:Int))(hv:v<18446744073709551616) :
  Calls Tryz.prog 105 #[.pointer (some ⟨L.ab,0,none⟩),.int .i64 (I:Int),.int .u64 y] w λe w'=>e=.returned (.int .i64 0)/\HM W w' L X { h with f:=upd h.f I v } x s k E D Q:=
 H.post hS λown q=>q.store rfl hI hy hv
theorem HM.answer(hS:ah D Q)(hT:Tab W)(H:HM W w L X h x s k ((mb,122,muV L.hb t sb m)::E) D Q)(hne:∀q,q∈E->q.1≠mb)(hd:(m.dn:Int)+1<=9223372036854775807)(a0 a1:Int)(y:An) :
  Calls Tryz.prog 65 #[.pointer (some ⟨mb,0,none⟩),fG a0 a1 y] w λe w'=>e=.returned (bk (t:Int) (m.dn:Int) y true false false (.slice none 0 0))/\HM W w' L X h x s k ((mb,122,muV L.hb t sb (MU.zero (m.dn+1)))::E) D Q:=
 H.mut (P:=λe=>e=.returned (bk (t:Int) (m.dn:Int) y true false false (.slice none 0 0))) hS hT (m':=MU.zero (m.dn+1)) hne (λhb=>eB hb hd a0 a1 y)
theorem HM.BB(hS:ah D Q)(hT:Tab W)(H:HM W w L X h x s k ((mb,122,muV L.hb t sb m)::E) D Q)(hne:∀q,q∈E->q.1≠mb)(s0 a0:Int) :
  Calls Tryz.prog 145 #[.pointer (some ⟨mb,0,none⟩),.int .i64 s0,.int .i64 a0] w λe w'=>e=.returned (bk 0 0 An.zero false true false (.slice none 0 0))/\HM W w' L X h x s k ((mb,122,muV L.hb t sb { m with st:=s0,ad:=a0 })::E) D Q:=
 H.mut (P:=λe=>e=.returned (bk 0 0 An.zero false true false (.slice none 0 0))) hS hT (m':={ m with st:=s0,ad:=a0 }) hne (λhb=>nQ hb s0 a0)
theorem HM.swap{p q:Nat×TypeId×Array Value}(H:HM W w L X h x s k (p::q::E) D Q):HM W w L X h x s k (q::p::E) D Q:=
 H.sub (λy hy=>by simp only[D5]at hy ⊢;rcases hy with e|e|e <;> simp[e])
theorem sT(hS:ah D Q)(H:HM W w L X h x s k E D Q)(hm:(mb,122,muV L.hb t sb m)∈E)(ht:t<h.T)(hB:L.B<=64)(hl:(h.st t).length<=L.B){I:Nat}(hI:I<h.n) :
  Calls Tryz.prog 104 #[.pointer (some ⟨mb,0,none⟩),.int .i64 (I:Int)] w λe w'=>e=.returned (.int .i64 (ax L.B (h.st t)))/\HM W w' L X { h with st:=bj h.st t (aI L.B (h.st t) (h.f I:Int)) } x s k E D Q:=by
 have HL:=aa (H.uj hS hI);have hfk:=H.ok.fok I;have HK:Hid (∀w',HM W w' L X h x s k E D Q->Calls Tryz.prog 106 #[.pointer (some ⟨mb,0,none⟩)] w' λe w''=>e=.returned (.pointer (some ⟨L.S t,0,none⟩))/\HM W w'' L X h x s k E D Q):=λw' q=>(bX (q.blk hm) q.hr ht).mono (by rintro e w'' ⟨rfl,hf⟩;exact⟨rfl,q.fr0 hS hf⟩);have HP:Hid (∀w',HM W w' L X h x s k E D Q->Calls Tryz.prog 111 #[.pointer (some ⟨L.S t,0,none⟩),.int .u64 (h.f I:Int)] w' λe w''=>e=.returned (.int .i64 (ax L.B (h.st t)))/\HM W w'' L X { h with st:=bj h.st t (aI L.B (h.st t) (h.f I:Int)) } x s k E D Q):=λw' y=>y.qL hS ht hB hl ⟨by omega,by omega⟩;have c0:w.cell? ⟨mb,0,none⟩=some (.pointer (some ⟨L.hb,0,none⟩)):=(H.blk hm).cell 0;have c20:=H.hc.c20;have N0:=ae c0;have N1:=ae c20;clear H hm hB hl hI hfk;generalize (h.f I:Int)=fv at *;generalize ax L.B (h.st t)=er at *;go_enter Tryz.func104,Tryz.ntmps104
 go_wp2_with fail
 refine HL.out.mono ?_;rintro e w1 ⟨rfl,hA⟩;have HA1:=aa (HK.out _ hA);clear hA c0 c20 HL N0 N1;go_wp2_with fail
 refine HA1.out.mono ?_;rintro e w2 ⟨rfl,hA⟩;have HA2:=aa (HP.out _ hA);clear hA HA1;go_wp2_with fail
 refine HA2.out.mono ?_;rintro e w3 ⟨rfl,hA⟩;have HA3:=aa hA;clear hA HA2;go_wp2_with fail
 go_ret
 exact⟨rfl,HA3.out⟩
theorem sU(hS:ah D Q)(hT:Tab W)(H:HM W w L X h x s k ((mb,122,muV L.hb t sb m)::E) D Q)(hne:∀q,q∈E->q.1≠mb)(hd:(m.dn:Int)+1<=9223372036854775807){fV fE:Int}(he:fE≠0)
  (hf:∀w' E',(mb,122,muV L.hb t sb m)∈E'->HM W w' L X h x s k E' D Q->Calls Tryz.prog 146 #[.pointer (some ⟨mb,0,none⟩),opV m.op] w' λe w''=>e=.returned (.tuple #[.int .i64 fV,.int .i64 fE])/\HM W w'' L X h x s k E' D Q) :
  Calls Tryz.prog 101 #[.pointer (some ⟨mb,0,none⟩)] w λe w'=>e=.returned (bk (t:Int) (m.dn:Int) ⟨fE,0,false⟩ true false false (.slice none 0 0))/\HM W w' L X h x s k ((mb,122,muV L.hb t sb (MU.zero (m.dn+1)))::E) D Q:=by
 have hmb:=H.blk (D4 ..);have hlt:=hmb.lt;have hltE:∀q,q∈E->q.1<w.heap.size:=λq hq=>(H.blk (b:=q.1) (t:=q.2.1) (cs:=q.2.2) (D3 _ hq)).lt;have hrm:w.heap.size≠mb:=by omega
 have hrE:∀q,q∈E->q.1≠w.heap.size:=λq hq=>by have:=hltE q hq;omega
 have hneR:∀cs:Array Value,∀q,q∈((w.heap.size,81,cs)::E:aK)->q.1≠mb:=λcs q hq=>by
  rcases D5.1 hq with rfl|hq
  ·exact hrm
  ·exact hne q hq
 have HX:Hid (HM W (w.alloc (.cells #[.int .i64 0,.int .i64 0,.int .i64 0,.int .u64 0,.bool false,.bool false,.bool false,.bool false,.slice none 0 0] 81)) L X h x s k ((w.heap.size,81,#[.int .i64 0,.int .i64 0,.int .i64 0,.int .u64 0,.bool false,.bool false,.bool false,.bool false,.slice none 0 0])::(mb,122,muV L.hb t sb m)::E) D Q):=H.alloc hS 81 #[.int .i64 0,.int .i64 0,.int .i64 0,.int .u64 0,.bool false,.bool false,.bool false,.bool false,.slice none 0 0];have HEnd:Hid (∀w' a0 a1 a2 a3 a4 a5 a6 a7 a8 v0 v1 v2 v3 v4 v5 v6 v7 v8,HM W w' L X h x s k ((mb,122,muV L.hb t sb (MU.zero (m.dn+1)))::(w.heap.size,81,#[a0,a1,a2,a3,a4,a5,a6,a7,a8])::E) D Q->HM W (cD w' w.heap.size v0 v1 v2 v3 v4 v5 v6 v7 v8) L X h x s k ((mb,122,muV L.hb t sb (MU.zero (m.dn+1)))::E) D Q):=λw' a0 a1 a2 a3 a4 a5 a6 a7 a8 v0 v1 v2 v3 v4 v5 v6 v7 v8 q=>
  q.swap.cX hS hT (λy hy=>by
   rcases D5.1 hy with rfl|hy
   ·exact λe=>hrm e.symm
   ·exact hrE y hy) v0 v1 v2 v3 v4 v5 v6 v7 v8
 have HF:=aa (hf _ _ (D3 _ (D4 ..)) HX.out);have HGo:Hid (∀w',HM W w' L X h x s k ((w.heap.size,81,#[.int .i64 0,.int .i64 0,.int .i64 0,.int .u64 0,.bool false,.bool false,.bool false,.bool false,.slice none 0 0])::(mb,122,muV L.hb t sb m)::E) D Q->Calls Tryz.prog 65 #[.pointer (some ⟨mb,0,none⟩),.agg #[.int .i64 0,.int .i64 0,.int .i64 fE,.int .u64 0,.bool false]] w' λe w''=>e=.returned (.agg #[.int .i64 (t:Int),.int .i64 (m.dn:Int),.int .i64 fE,.int .u64 0,.bool false,.bool true,.bool false,.bool false,.slice none 0 0])/\HM W w'' L X h x s k ((mb,122,muV L.hb t sb (MU.zero (m.dn+1)))::(w.heap.size,81,#[.int .i64 0,.int .i64 0,.int .i64 0,.int .u64 0,.bool false,.bool false,.bool false,.bool false,.slice none 0 0])::E) D Q):=λw' q=>HM.answer hS hT q.swap (hneR _) hd 0 0 ⟨fE,0,false⟩;obtain⟨c0,c1,c2,c3,c4,c5,c6,c7,c8,c9,c10⟩:=aL hmb;unfold opV MU.op at HF;simp only at HF;unfold bk;clear H hmb hltE HX hf hne hneR hrm hrE hd;go_enter Tryz.func101,Tryz.ntmps101
 go_wp2_with fail
 refine HF.out.mono ?_;rintro e w1 ⟨rfl,hA⟩;have HA1:=aa (HGo.out _ hA);clear hA c0 c1 c2 c3 c4 c5 c6 c7 c8 c9 c10 HF HGo;go_wp2_with fail
 refine HA1.out.mono ?_;rintro e w5 ⟨rfl,hA⟩;clear HA1;have HA5:=aa hA;have hrb:=hA.blk (D3 _ (D4 ..));have y0:=hrb.cell 0;have y1:=hrb.cell 1;have y2:=hrb.cell 2;have y3:=hrb.cell 3;have y4:=hrb.cell 4;have y5:=hrb.cell 5;have y6:=hrb.cell 6;have y7:=hrb.cell 7;have y8:=hrb.cell 8;have z0:=hrb.frozen 0;have z1:=hrb.frozen 1;have z2:=hrb.frozen 2;have z3:=hrb.frozen 3;have z4:=hrb.frozen 4;have z5:=hrb.frozen 5;have z6:=hrb.frozen 6;have z7:=hrb.frozen 7;have z8:=hrb.frozen 8;have NR:=hrb.lt;clear hA hrb;go_wp2_with fail
 refine bodyPost_ret (v:=.agg #[.int .i64 (t:Int),.int .i64 (m.dn:Int),.int .i64 fE,.int .u64 0,.bool false,.bool true,.bool false,.bool false,.slice none 0 0]) (by simp[results,Tryz.results101,go_sem, *]) rfl ⟨rfl,?_⟩;exact HEnd.out _ _ _ _ _ _ _ _ _ _ _ _ _ _ _ _ _ _ _ HA5.out
theorem vB(hS:ah D Q)(hT:Tab W)(H:HM W w L X h x s k ((mb,122,muV L.hb t sb m)::E) D Q)(hne:∀q,q∈E->q.1≠mb){fV:Int}
  (hf:∀w' E',(mb,122,muV L.hb t sb m)∈E'->HM W w' L X h x s k E' D Q->Calls Tryz.prog 146 #[.pointer (some ⟨mb,0,none⟩),opV m.op] w' λe w''=>e=.returned (.tuple #[.int .i64 fV,.int .i64 0])/\HM W w'' L X h x s k E' D Q) :
  Calls Tryz.prog 101 #[.pointer (some ⟨mb,0,none⟩)] w λe w'=>e=.returned (bk 0 0 An.zero false true false (.slice none 0 0))/\HM W w' L X h x s k ((mb,122,muV L.hb t sb { m with st:=3,ad:=fV })::E) D Q:=by
 have hmb:=H.blk (D4 ..);have hlt:=hmb.lt;have hltE:∀q,q∈E->q.1<w.heap.size:=λq hq=>(H.blk (b:=q.1) (t:=q.2.1) (cs:=q.2.2) (D3 _ hq)).lt;have hrm:w.heap.size≠mb:=by omega
 have hrE:∀q,q∈E->q.1≠w.heap.size:=λq hq=>by have:=hltE q hq;omega
 have hneR:∀cs:Array Value,∀q,q∈((w.heap.size,81,cs)::E:aK)->q.1≠mb:=λcs q hq=>by
  rcases D5.1 hq with rfl|hq
  ·exact hrm
  ·exact hne q hq
 have HX:Hid (HM W (w.alloc (.cells #[.int .i64 0,.int .i64 0,.int .i64 0,.int .u64 0,.bool false,.bool false,.bool false,.bool false,.slice none 0 0] 81)) L X h x s k ((w.heap.size,81,#[.int .i64 0,.int .i64 0,.int .i64 0,.int .u64 0,.bool false,.bool false,.bool false,.bool false,.slice none 0 0])::(mb,122,muV L.hb t sb m)::E) D Q):=H.alloc hS 81 #[.int .i64 0,.int .i64 0,.int .i64 0,.int .u64 0,.bool false,.bool false,.bool false,.bool false,.slice none 0 0];have HEnd:Hid (∀w' a0 a1 a2 a3 a4 a5 a6 a7 a8 v0 v1 v2 v3 v4 v5 v6 v7 v8,HM W w' L X h x s k ((mb,122,muV L.hb t sb { m with st:=3,ad:=fV })::(w.heap.size,81,#[a0,a1,a2,a3,a4,a5,a6,a7,a8])::E) D Q->HM W (cD w' w.heap.size v0 v1 v2 v3 v4 v5 v6 v7 v8) L X h x s k ((mb,122,muV L.hb t sb { m with st:=3,ad:=fV })::E) D Q):=λw' a0 a1 a2 a3 a4 a5 a6 a7 a8 v0 v1 v2 v3 v4 v5 v6 v7 v8 q=>
  q.swap.cX hS hT (λy hy=>by
   rcases D5.1 hy with rfl|hy
   ·exact λe=>hrm e.symm
   ·exact hrE y hy) v0 v1 v2 v3 v4 v5 v6 v7 v8
 have HF:=aa (hf _ _ (D3 _ (D4 ..)) HX.out);have HGo:Hid (∀w',HM W w' L X h x s k ((w.heap.size,81,#[.int .i64 0,.int .i64 0,.int .i64 0,.int .u64 0,.bool false,.bool false,.bool false,.bool false,.slice none 0 0])::(mb,122,muV L.hb t sb m)::E) D Q->Calls Tryz.prog 145 #[.pointer (some ⟨mb,0,none⟩),.int .i64 3,.int .i64 fV] w' λe w''=>e=.returned (.agg #[.int .i64 0,.int .i64 0,.int .i64 0,.int .u64 0,.bool false,.bool false,.bool true,.bool false,.slice none 0 0])/\HM W w'' L X h x s k ((mb,122,muV L.hb t sb { m with st:=3,ad:=fV })::(w.heap.size,81,#[.int .i64 0,.int .i64 0,.int .i64 0,.int .u64 0,.bool false,.bool false,.bool false,.bool false,.slice none 0 0])::E) D Q):=λw' q=>HM.BB hS hT q.swap (hneR _) 3 fV;obtain⟨c0,c1,c2,c3,c4,c5,c6,c7,c8,c9,c10⟩:=aL hmb;unfold opV MU.op at HF;simp only at HF;unfold bk;unfold An.zero;clear H hmb hltE HX hf hne hneR hrm hrE;go_enter Tryz.func101,Tryz.ntmps101
 go_wp2_with fail
 refine HF.out.mono ?_;rintro e w1 ⟨rfl,hA⟩;have HA1:=aa (HGo.out _ hA);clear hA c0 c1 c2 c3 c4 c5 c6 c7 c8 c9 c10 HF HGo;go_wp2_with fail
 refine HA1.out.mono ?_;rintro e w5 ⟨rfl,hA⟩;clear HA1;have HA5:=aa hA;have hrb:=hA.blk (D3 _ (D4 ..));have y0:=hrb.cell 0;have y1:=hrb.cell 1;have y2:=hrb.cell 2;have y3:=hrb.cell 3;have y4:=hrb.cell 4;have y5:=hrb.cell 5;have y6:=hrb.cell 6;have y7:=hrb.cell 7;have y8:=hrb.cell 8;have z0:=hrb.frozen 0;have z1:=hrb.frozen 1;have z2:=hrb.frozen 2;have z3:=hrb.frozen 3;have z4:=hrb.frozen 4;have z5:=hrb.frozen 5;have z6:=hrb.frozen 6;have z7:=hrb.frozen 7;have z8:=hrb.frozen 8;have NR:=hrb.lt;clear hA hrb;go_wp2_with fail
 refine bodyPost_ret (v:=.agg #[.int .i64 0,.int .i64 0,.int .i64 0,.int .u64 0,.bool false,.bool false,.bool true,.bool false,.slice none 0 0]) (by simp[results,Tryz.results101,go_sem, *]) rfl ⟨rfl,?_⟩;exact HEnd.out _ _ _ _ _ _ _ _ _ _ _ _ _ _ _ _ _ _ _ HA5.out
end
section
variable {W w w':World}{L:HL}{X:HX}{h h2:HS}{x x2:HT}{s k:Nat}{E:aK}{D:Nat->Prop}{Q:World->Prop}{mb t sb:Nat}{m m':MU}{r0 r1 r2 r3:Int}{b4 b5 b6 b7:Bool}{A8:Option Addr}{n8 c8:Nat}
theorem my(hS:ah D Q)(hT:Tab W)(H:HM W w L X h x s k ((mb,122,muV L.hb t sb m)::E) D Q)(hne:∀q,q∈E->q.1≠mb)(hk:m.k=2)
  (hcall:∀w' rb c,rb≠mb->(∀q,q∈E->q.1≠rb)->HM W w' L X h x s k ((mb,122,muV L.hb t sb m)::(rb,81,c)::E) D Q->Calls Tryz.prog 101 #[.pointer (some ⟨mb,0,none⟩)] w' λe w''=>e=.returned (.agg #[.int .i64 r0,.int .i64 r1,.int .i64 r2,.int .u64 r3,.bool b4,.bool b5,.bool b6,.bool b7,.slice A8 n8 c8])/\HM W w'' L X h2 x2 s k ((mb,122,muV L.hb t sb m')::(rb,81,c)::E) D Q) :
  Calls Tryz.prog 58 #[.pointer (some ⟨mb,0,none⟩)] w λe w'=>e=.returned (.agg #[.int .i64 r0,.int .i64 r1,.int .i64 r2,.int .u64 r3,.bool b4,.bool b5,.bool b6,.bool b7,.slice A8 n8 c8])/\HM W w' L X h2 x2 s k ((mb,122,muV L.hb t sb m')::E) D Q:=by
 have hmb:=H.blk (D4 ..);have hlt:=hmb.lt;have hltE:∀q,q∈E->q.1<w.heap.size:=λq hq=>(H.blk (b:=q.1) (t:=q.2.1) (cs:=q.2.2) (D3 _ hq)).lt;have hrm:w.heap.size≠mb:=by omega
 have hrE:∀q,q∈E->q.1≠w.heap.size:=λq hq=>by have:=hltE q hq;omega
 have hneR:∀cs:Array Value,∀q,q∈((w.heap.size,81,cs)::E:aK)->q.1≠mb:=λcs q hq=>by
  rcases D5.1 hq with rfl|hq
  ·exact hrm
  ·exact hne q hq
 have HX:Hid (HM W (w.alloc (.cells #[.int .i64 0,.int .i64 0,.int .i64 0,.int .u64 0,.bool false,.bool false,.bool false,.bool false,.slice none 0 0] 81)) L X h x s k ((w.heap.size,81,#[.int .i64 0,.int .i64 0,.int .i64 0,.int .u64 0,.bool false,.bool false,.bool false,.bool false,.slice none 0 0])::(mb,122,muV L.hb t sb m)::E) D Q):=H.alloc hS 81 #[.int .i64 0,.int .i64 0,.int .i64 0,.int .u64 0,.bool false,.bool false,.bool false,.bool false,.slice none 0 0];have HEnd:Hid (∀w' a0 a1 a2 a3 a4 a5 a6 a7 a8 v0 v1 v2 v3 v4 v5 v6 v7 v8,HM W w' L X h2 x2 s k ((mb,122,muV L.hb t sb m')::(w.heap.size,81,#[a0,a1,a2,a3,a4,a5,a6,a7,a8])::E) D Q->HM W (cD w' w.heap.size v0 v1 v2 v3 v4 v5 v6 v7 v8) L X h2 x2 s k ((mb,122,muV L.hb t sb m')::E) D Q):=λw' a0 a1 a2 a3 a4 a5 a6 a7 a8 v0 v1 v2 v3 v4 v5 v6 v7 v8 q=>
  q.swap.cX hS hT (λy hy=>by
   rcases D5.1 hy with rfl|hy
   ·exact λe=>hrm e.symm
   ·exact hrE y hy) v0 v1 v2 v3 v4 v5 v6 v7 v8
 have HC:=aa (hcall _ _ _ hrm hrE HX.out.swap);obtain⟨c0,c1,c2,c3,c4,c5,c6,c7,c8,c9,c10⟩:=aL hmb;rw[hk]at c4;clear H hmb hltE HX hne hneR hrm hrE hk hcall;go_enter Tryz.func58,Tryz.ntmps58
 go_wp2_with fail
 refine HC.out.mono ?_;rintro e w5 ⟨rfl,hA⟩;clear c0 c1 c2 c3 c4 c5 c6 c7 c8 c9 c10 HC;have HA5:=aa hA;have hrb:=hA.blk (D3 _ (D4 ..));have y0:=hrb.cell 0;have y1:=hrb.cell 1;have y2:=hrb.cell 2;have y3:=hrb.cell 3;have y4:=hrb.cell 4;have y5:=hrb.cell 5;have y6:=hrb.cell 6;have y7:=hrb.cell 7;have y8:=hrb.cell 8;have z0:=hrb.frozen 0;have z1:=hrb.frozen 1;have z2:=hrb.frozen 2;have z3:=hrb.frozen 3;have z4:=hrb.frozen 4;have z5:=hrb.frozen 5;have z6:=hrb.frozen 6;have z7:=hrb.frozen 7;have z8:=hrb.frozen 8;have NR:=hrb.lt;clear hA hrb;go_wp2_with fail
 refine bodyPost_ret (v:=.agg #[.int .i64 r0,.int .i64 r1,.int .i64 r2,.int .u64 r3,.bool b4,.bool b5,.bool b6,.bool b7,.slice A8 n8 c8]) (by simp[results,Tryz.results58,go_sem, *]) rfl ⟨rfl,?_⟩;exact HEnd.out _ _ _ _ _ _ _ _ _ _ _ _ _ _ _ _ _ _ _ HA5.out
theorem mB(hS:ah D Q)(hT:Tab W)(H:HM W w L X h x s k ((mb,122,muV L.hb t sb m)::E) D Q)(hne:∀q,q∈E->q.1≠mb)(hk:m.k=3)
  (hcall:∀w' rb c,rb≠mb->(∀q,q∈E->q.1≠rb)->HM W w' L X h x s k ((mb,122,muV L.hb t sb m)::(rb,81,c)::E) D Q->Calls Tryz.prog 101 #[.pointer (some ⟨mb,0,none⟩)] w' λe w''=>e=.returned (.agg #[.int .i64 r0,.int .i64 r1,.int .i64 r2,.int .u64 r3,.bool b4,.bool b5,.bool b6,.bool b7,.slice A8 n8 c8])/\HM W w'' L X h2 x2 s k ((mb,122,muV L.hb t sb m')::(rb,81,c)::E) D Q) :
  Calls Tryz.prog 58 #[.pointer (some ⟨mb,0,none⟩)] w λe w'=>e=.returned (.agg #[.int .i64 r0,.int .i64 r1,.int .i64 r2,.int .u64 r3,.bool b4,.bool b5,.bool b6,.bool b7,.slice A8 n8 c8])/\HM W w' L X h2 x2 s k ((mb,122,muV L.hb t sb m')::E) D Q:=by
 have hmb:=H.blk (D4 ..);have hlt:=hmb.lt;have hltE:∀q,q∈E->q.1<w.heap.size:=λq hq=>(H.blk (b:=q.1) (t:=q.2.1) (cs:=q.2.2) (D3 _ hq)).lt;have hrm:w.heap.size≠mb:=by omega
 have hrE:∀q,q∈E->q.1≠w.heap.size:=λq hq=>by have:=hltE q hq;omega
 have hneR:∀cs:Array Value,∀q,q∈((w.heap.size,81,cs)::E:aK)->q.1≠mb:=λcs q hq=>by
  rcases D5.1 hq with rfl|hq
  ·exact hrm
  ·exact hne q hq
 have HX:Hid (HM W (w.alloc (.cells #[.int .i64 0,.int .i64 0,.int .i64 0,.int .u64 0,.bool false,.bool false,.bool false,.bool false,.slice none 0 0] 81)) L X h x s k ((w.heap.size,81,#[.int .i64 0,.int .i64 0,.int .i64 0,.int .u64 0,.bool false,.bool false,.bool false,.bool false,.slice none 0 0])::(mb,122,muV L.hb t sb m)::E) D Q):=H.alloc hS 81 #[.int .i64 0,.int .i64 0,.int .i64 0,.int .u64 0,.bool false,.bool false,.bool false,.bool false,.slice none 0 0];have HEnd:Hid (∀w' a0 a1 a2 a3 a4 a5 a6 a7 a8 v0 v1 v2 v3 v4 v5 v6 v7 v8,HM W w' L X h2 x2 s k ((mb,122,muV L.hb t sb m')::(w.heap.size,81,#[a0,a1,a2,a3,a4,a5,a6,a7,a8])::E) D Q->HM W (cD w' w.heap.size v0 v1 v2 v3 v4 v5 v6 v7 v8) L X h2 x2 s k ((mb,122,muV L.hb t sb m')::E) D Q):=λw' a0 a1 a2 a3 a4 a5 a6 a7 a8 v0 v1 v2 v3 v4 v5 v6 v7 v8 q=>
  q.swap.cX hS hT (λy hy=>by
   rcases D5.1 hy with rfl|hy
   ·exact λe=>hrm e.symm
   ·exact hrE y hy) v0 v1 v2 v3 v4 v5 v6 v7 v8
 have HC:=aa (hcall _ _ _ hrm hrE HX.out.swap);obtain⟨c0,c1,c2,c3,c4,c5,c6,c7,c8,c9,c10⟩:=aL hmb;rw[hk]at c4;clear H hmb hltE HX hne hneR hrm hrE hk hcall;go_enter Tryz.func58,Tryz.ntmps58
 go_wp2_with fail
 refine HC.out.mono ?_;rintro e w5 ⟨rfl,hA⟩;clear c0 c1 c2 c3 c4 c5 c6 c7 c8 c9 c10 HC;have HA5:=aa hA;have hrb:=hA.blk (D3 _ (D4 ..));have y0:=hrb.cell 0;have y1:=hrb.cell 1;have y2:=hrb.cell 2;have y3:=hrb.cell 3;have y4:=hrb.cell 4;have y5:=hrb.cell 5;have y6:=hrb.cell 6;have y7:=hrb.cell 7;have y8:=hrb.cell 8;have z0:=hrb.frozen 0;have z1:=hrb.frozen 1;have z2:=hrb.frozen 2;have z3:=hrb.frozen 3;have z4:=hrb.frozen 4;have z5:=hrb.frozen 5;have z6:=hrb.frozen 6;have z7:=hrb.frozen 7;have z8:=hrb.frozen 8;have NR:=hrb.lt;clear hA hrb;go_wp2_with fail
 refine bodyPost_ret (v:=.agg #[.int .i64 r0,.int .i64 r1,.int .i64 r2,.int .u64 r3,.bool b4,.bool b5,.bool b6,.bool b7,.slice A8 n8 c8]) (by simp[results,Tryz.results58,go_sem, *]) rfl ⟨rfl,?_⟩;exact HEnd.out _ _ _ _ _ _ _ _ _ _ _ _ _ _ _ _ _ _ _ HA5.out
theorem mD(hS:ah D Q)(hT:Tab W)(H:HM W w L X h x s k ((mb,122,muV L.hb t sb m)::E) D Q)(hne:∀q,q∈E->q.1≠mb)(hk:m.k=4)
  (hcall:∀w' rb c,rb≠mb->(∀q,q∈E->q.1≠rb)->HM W w' L X h x s k ((mb,122,muV L.hb t sb m)::(rb,81,c)::E) D Q->Calls Tryz.prog 101 #[.pointer (some ⟨mb,0,none⟩)] w' λe w''=>e=.returned (.agg #[.int .i64 r0,.int .i64 r1,.int .i64 r2,.int .u64 r3,.bool b4,.bool b5,.bool b6,.bool b7,.slice A8 n8 c8])/\HM W w'' L X h2 x2 s k ((mb,122,muV L.hb t sb m')::(rb,81,c)::E) D Q) :
  Calls Tryz.prog 58 #[.pointer (some ⟨mb,0,none⟩)] w λe w'=>e=.returned (.agg #[.int .i64 r0,.int .i64 r1,.int .i64 r2,.int .u64 r3,.bool b4,.bool b5,.bool b6,.bool b7,.slice A8 n8 c8])/\HM W w' L X h2 x2 s k ((mb,122,muV L.hb t sb m')::E) D Q:=by
 have hmb:=H.blk (D4 ..);have hlt:=hmb.lt;have hltE:∀q,q∈E->q.1<w.heap.size:=λq hq=>(H.blk (b:=q.1) (t:=q.2.1) (cs:=q.2.2) (D3 _ hq)).lt;have hrm:w.heap.size≠mb:=by omega
 have hrE:∀q,q∈E->q.1≠w.heap.size:=λq hq=>by have:=hltE q hq;omega
 have hneR:∀cs:Array Value,∀q,q∈((w.heap.size,81,cs)::E:aK)->q.1≠mb:=λcs q hq=>by
  rcases D5.1 hq with rfl|hq
  ·exact hrm
  ·exact hne q hq
 have HX:Hid (HM W (w.alloc (.cells #[.int .i64 0,.int .i64 0,.int .i64 0,.int .u64 0,.bool false,.bool false,.bool false,.bool false,.slice none 0 0] 81)) L X h x s k ((w.heap.size,81,#[.int .i64 0,.int .i64 0,.int .i64 0,.int .u64 0,.bool false,.bool false,.bool false,.bool false,.slice none 0 0])::(mb,122,muV L.hb t sb m)::E) D Q):=H.alloc hS 81 #[.int .i64 0,.int .i64 0,.int .i64 0,.int .u64 0,.bool false,.bool false,.bool false,.bool false,.slice none 0 0];have HEnd:Hid (∀w' a0 a1 a2 a3 a4 a5 a6 a7 a8 v0 v1 v2 v3 v4 v5 v6 v7 v8,HM W w' L X h2 x2 s k ((mb,122,muV L.hb t sb m')::(w.heap.size,81,#[a0,a1,a2,a3,a4,a5,a6,a7,a8])::E) D Q->HM W (cD w' w.heap.size v0 v1 v2 v3 v4 v5 v6 v7 v8) L X h2 x2 s k ((mb,122,muV L.hb t sb m')::E) D Q):=λw' a0 a1 a2 a3 a4 a5 a6 a7 a8 v0 v1 v2 v3 v4 v5 v6 v7 v8 q=>
  q.swap.cX hS hT (λy hy=>by
   rcases D5.1 hy with rfl|hy
   ·exact λe=>hrm e.symm
   ·exact hrE y hy) v0 v1 v2 v3 v4 v5 v6 v7 v8
 have HC:=aa (hcall _ _ _ hrm hrE HX.out.swap);obtain⟨c0,c1,c2,c3,c4,c5,c6,c7,c8,c9,c10⟩:=aL hmb;rw[hk]at c4;clear H hmb hltE HX hne hneR hrm hrE hk hcall;go_enter Tryz.func58,Tryz.ntmps58
 go_wp2_with fail
 refine HC.out.mono ?_;rintro e w5 ⟨rfl,hA⟩;clear c0 c1 c2 c3 c4 c5 c6 c7 c8 c9 c10 HC;have HA5:=aa hA;have hrb:=hA.blk (D3 _ (D4 ..));have y0:=hrb.cell 0;have y1:=hrb.cell 1;have y2:=hrb.cell 2;have y3:=hrb.cell 3;have y4:=hrb.cell 4;have y5:=hrb.cell 5;have y6:=hrb.cell 6;have y7:=hrb.cell 7;have y8:=hrb.cell 8;have z0:=hrb.frozen 0;have z1:=hrb.frozen 1;have z2:=hrb.frozen 2;have z3:=hrb.frozen 3;have z4:=hrb.frozen 4;have z5:=hrb.frozen 5;have z6:=hrb.frozen 6;have z7:=hrb.frozen 7;have z8:=hrb.frozen 8;have NR:=hrb.lt;clear hA hrb;go_wp2_with fail
 refine bodyPost_ret (v:=.agg #[.int .i64 r0,.int .i64 r1,.int .i64 r2,.int .u64 r3,.bool b4,.bool b5,.bool b6,.bool b7,.slice A8 n8 c8]) (by simp[results,Tryz.results58,go_sem, *]) rfl ⟨rfl,?_⟩;exact HEnd.out _ _ _ _ _ _ _ _ _ _ _ _ _ _ _ _ _ _ _ HA5.out
theorem mE(hS:ah D Q)(hT:Tab W)(H:HM W w L X h x s k ((mb,122,muV L.hb t sb m)::E) D Q)(hne:∀q,q∈E->q.1≠mb)(hk:m.k=5)
  (hcall:∀w' rb c,rb≠mb->(∀q,q∈E->q.1≠rb)->HM W w' L X h x s k ((mb,122,muV L.hb t sb m)::(rb,81,c)::E) D Q->Calls Tryz.prog 101 #[.pointer (some ⟨mb,0,none⟩)] w' λe w''=>e=.returned (.agg #[.int .i64 r0,.int .i64 r1,.int .i64 r2,.int .u64 r3,.bool b4,.bool b5,.bool b6,.bool b7,.slice A8 n8 c8])/\HM W w'' L X h2 x2 s k ((mb,122,muV L.hb t sb m')::(rb,81,c)::E) D Q) :
  Calls Tryz.prog 58 #[.pointer (some ⟨mb,0,none⟩)] w λe w'=>e=.returned (.agg #[.int .i64 r0,.int .i64 r1,.int .i64 r2,.int .u64 r3,.bool b4,.bool b5,.bool b6,.bool b7,.slice A8 n8 c8])/\HM W w' L X h2 x2 s k ((mb,122,muV L.hb t sb m')::E) D Q:=by
 have hmb:=H.blk (D4 ..);have hlt:=hmb.lt;have hltE:∀q,q∈E->q.1<w.heap.size:=λq hq=>(H.blk (b:=q.1) (t:=q.2.1) (cs:=q.2.2) (D3 _ hq)).lt;have hrm:w.heap.size≠mb:=by omega
 have hrE:∀q,q∈E->q.1≠w.heap.size:=λq hq=>by have:=hltE q hq;omega
 have hneR:∀cs:Array Value,∀q,q∈((w.heap.size,81,cs)::E:aK)->q.1≠mb:=λcs q hq=>by
  rcases D5.1 hq with rfl|hq
  ·exact hrm
  ·exact hne q hq
 have HX:Hid (HM W (w.alloc (.cells #[.int .i64 0,.int .i64 0,.int .i64 0,.int .u64 0,.bool false,.bool false,.bool false,.bool false,.slice none 0 0] 81)) L X h x s k ((w.heap.size,81,#[.int .i64 0,.int .i64 0,.int .i64 0,.int .u64 0,.bool false,.bool false,.bool false,.bool false,.slice none 0 0])::(mb,122,muV L.hb t sb m)::E) D Q):=H.alloc hS 81 #[.int .i64 0,.int .i64 0,.int .i64 0,.int .u64 0,.bool false,.bool false,.bool false,.bool false,.slice none 0 0];have HEnd:Hid (∀w' a0 a1 a2 a3 a4 a5 a6 a7 a8 v0 v1 v2 v3 v4 v5 v6 v7 v8,HM W w' L X h2 x2 s k ((mb,122,muV L.hb t sb m')::(w.heap.size,81,#[a0,a1,a2,a3,a4,a5,a6,a7,a8])::E) D Q->HM W (cD w' w.heap.size v0 v1 v2 v3 v4 v5 v6 v7 v8) L X h2 x2 s k ((mb,122,muV L.hb t sb m')::E) D Q):=λw' a0 a1 a2 a3 a4 a5 a6 a7 a8 v0 v1 v2 v3 v4 v5 v6 v7 v8 q=>
  q.swap.cX hS hT (λy hy=>by
   rcases D5.1 hy with rfl|hy
   ·exact λe=>hrm e.symm
   ·exact hrE y hy) v0 v1 v2 v3 v4 v5 v6 v7 v8
 have HC:=aa (hcall _ _ _ hrm hrE HX.out.swap);obtain⟨c0,c1,c2,c3,c4,c5,c6,c7,c8,c9,c10⟩:=aL hmb;rw[hk]at c4;clear H hmb hltE HX hne hneR hrm hrE hk hcall;go_enter Tryz.func58,Tryz.ntmps58
 go_wp2_with fail
 refine HC.out.mono ?_;rintro e w5 ⟨rfl,hA⟩;clear c0 c1 c2 c3 c4 c5 c6 c7 c8 c9 c10 HC;have HA5:=aa hA;have hrb:=hA.blk (D3 _ (D4 ..));have y0:=hrb.cell 0;have y1:=hrb.cell 1;have y2:=hrb.cell 2;have y3:=hrb.cell 3;have y4:=hrb.cell 4;have y5:=hrb.cell 5;have y6:=hrb.cell 6;have y7:=hrb.cell 7;have y8:=hrb.cell 8;have z0:=hrb.frozen 0;have z1:=hrb.frozen 1;have z2:=hrb.frozen 2;have z3:=hrb.frozen 3;have z4:=hrb.frozen 4;have z5:=hrb.frozen 5;have z6:=hrb.frozen 6;have z7:=hrb.frozen 7;have z8:=hrb.frozen 8;have NR:=hrb.lt;clear hA hrb;go_wp2_with fail
 refine bodyPost_ret (v:=.agg #[.int .i64 r0,.int .i64 r1,.int .i64 r2,.int .u64 r3,.bool b4,.bool b5,.bool b6,.bool b7,.slice A8 n8 c8]) (by simp[results,Tryz.results58,go_sem, *]) rfl ⟨rfl,?_⟩;exact HEnd.out _ _ _ _ _ _ _ _ _ _ _ _ _ _ _ _ _ _ _ HA5.out
theorem mF(hS:ah D Q)(hT:Tab W)(H:HM W w L X h x s k ((mb,122,muV L.hb t sb m)::E) D Q)(hne:∀q,q∈E->q.1≠mb)(hk:¬ (1<=m.k/\m.k<=5))(hd:(m.dn:Int)+1<=9223372036854775807){y:An}
  (hcall:∀w' E',(∀q,q∈E'->q.1≠mb)->HM W w' L X h x s k ((mb,122,muV L.hb t sb m)::E') D Q->Calls Tryz.prog 102 #[.pointer (some ⟨mb,0,none⟩)] w' λe w''=>e=.returned (fG 0 0 y)/\HM W w'' L X h2 x2 s k ((mb,122,muV L.hb t sb m)::E') D Q) :
  Calls Tryz.prog 58 #[.pointer (some ⟨mb,0,none⟩)] w λe w'=>e=.returned (bk (t:Int) (m.dn:Int) y true false false (.slice none 0 0))/\HM W w' L X h2 x2 s k ((mb,122,muV L.hb t sb (MU.zero (m.dn+1)))::E) D Q:=by
 have hmb:=H.blk (D4 ..);have hlt:=hmb.lt;have hltE:∀q,q∈E->q.1<w.heap.size:=λq hq=>(H.blk (b:=q.1) (t:=q.2.1) (cs:=q.2.2) (D3 _ hq)).lt;have hrm:w.heap.size≠mb:=by omega
 have hrE:∀q,q∈E->q.1≠w.heap.size:=λq hq=>by have:=hltE q hq;omega
 have hneR:∀cs:Array Value,∀q,q∈((w.heap.size,81,cs)::E:aK)->q.1≠mb:=λcs q hq=>by
  rcases D5.1 hq with rfl|hq
  ·exact hrm
  ·exact hne q hq
 have HX:Hid (HM W (w.alloc (.cells #[.int .i64 0,.int .i64 0,.int .i64 0,.int .u64 0,.bool false,.bool false,.bool false,.bool false,.slice none 0 0] 81)) L X h x s k ((w.heap.size,81,#[.int .i64 0,.int .i64 0,.int .i64 0,.int .u64 0,.bool false,.bool false,.bool false,.bool false,.slice none 0 0])::(mb,122,muV L.hb t sb m)::E) D Q):=H.alloc hS 81 #[.int .i64 0,.int .i64 0,.int .i64 0,.int .u64 0,.bool false,.bool false,.bool false,.bool false,.slice none 0 0];have HEnd:Hid (∀w' a0 a1 a2 a3 a4 a5 a6 a7 a8 v0 v1 v2 v3 v4 v5 v6 v7 v8,HM W w' L X h2 x2 s k ((mb,122,muV L.hb t sb (MU.zero (m.dn+1)))::(w.heap.size,81,#[a0,a1,a2,a3,a4,a5,a6,a7,a8])::E) D Q->HM W (cD w' w.heap.size v0 v1 v2 v3 v4 v5 v6 v7 v8) L X h2 x2 s k ((mb,122,muV L.hb t sb (MU.zero (m.dn+1)))::E) D Q):=λw' a0 a1 a2 a3 a4 a5 a6 a7 a8 v0 v1 v2 v3 v4 v5 v6 v7 v8 q=>
  q.swap.cX hS hT (λy hy=>by
   rcases D5.1 hy with rfl|hy
   ·exact λe=>hrm e.symm
   ·exact hrE y hy) v0 v1 v2 v3 v4 v5 v6 v7 v8
 have HC:=aa (hcall _ _ (hneR _) HX.out.swap);have HAn:Hid (∀w',HM W w' L X h2 x2 s k ((mb,122,muV L.hb t sb m)::(w.heap.size,81,#[.int .i64 0,.int .i64 0,.int .i64 0,.int .u64 0,.bool false,.bool false,.bool false,.bool false,.slice none 0 0])::E) D Q->Calls Tryz.prog 65 #[.pointer (some ⟨mb,0,none⟩),fG 0 0 y] w' λe w''=>e=.returned (.agg #[.int .i64 (t:Int),.int .i64 (m.dn:Int),.int .i64 y.code,.int .u64 y.word,.bool y.bit,.bool true,.bool false,.bool false,.slice none 0 0])/\HM W w'' L X h2 x2 s k ((mb,122,muV L.hb t sb (MU.zero (m.dn+1)))::(w.heap.size,81,#[.int .i64 0,.int .i64 0,.int .i64 0,.int .u64 0,.bool false,.bool false,.bool false,.bool false,.slice none 0 0])::E) D Q):=λw' q=>HM.answer hS hT q (hneR _) hd 0 0 y;obtain⟨c0,c1,c2,c3,c4,c5,c6,c7,c8,c9,c10⟩:=aL hmb;have k1:(m.k==1)=false:=by simp;omega
 have k2:(m.k==2)=false:=by simp;omega
 have k3:(m.k==3)=false:=by simp;omega
 have k4:(m.k==4)=false:=by simp;omega
 have k5:(m.k==5)=false:=by simp;omega
 unfold bk;unfold fG at HC HAn;clear H hmb hltE HX hne hneR hrm hrE hk hcall hd;generalize m.k=kk at *;go_enter Tryz.func58,Tryz.ntmps58
 go_wp2_with fail
 refine HC.out.mono ?_;rintro e w4 ⟨rfl,hA⟩;have HA4:=aa (HAn.out _ hA);clear hA c0 c1 c2 c3 c4 c5 c6 c7 c8 c9 c10 HC;go_wp2_with fail
 refine HA4.out.mono ?_;rintro e w5 ⟨rfl,hA⟩;have HA5:=aa hA;have hrb:=hA.blk (D3 _ (D4 ..));have y0:=hrb.cell 0;have y1:=hrb.cell 1;have y2:=hrb.cell 2;have y3:=hrb.cell 3;have y4:=hrb.cell 4;have y5:=hrb.cell 5;have y6:=hrb.cell 6;have y7:=hrb.cell 7;have y8:=hrb.cell 8;have z0:=hrb.frozen 0;have z1:=hrb.frozen 1;have z2:=hrb.frozen 2;have z3:=hrb.frozen 3;have z4:=hrb.frozen 4;have z5:=hrb.frozen 5;have z6:=hrb.frozen 6;have z7:=hrb.frozen 7;have z8:=hrb.frozen 8;have NR:=hrb.lt;clear hA hrb;go_wp2_with fail
 refine bodyPost_ret (v:=.agg #[.int .i64 (t:Int),.int .i64 (m.dn:Int),.int .i64 y.code,.int .u64 y.word,.bool y.bit,.bool true,.bool false,.bool false,.slice none 0 0]) (by simp[results,Tryz.results58,go_sem, *]) rfl ⟨rfl,?_⟩;exact HEnd.out _ _ _ _ _ _ _ _ _ _ _ _ _ _ _ _ _ _ _ HA5.out
end
end Go.Proofs.YtimkofiempcfdaaGreatDoor
