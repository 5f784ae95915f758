/- Several texts joined (pack.py): Zc Zd Xb. -/
import Derived.Test.YtimlkjppaalfaaaGreatDoorPW27
import Derived.Test.YtimlkjppaalfaaaGreatDoorPW22
import Derived.Test.YtimlkjppaalfaaaGreatDoorPW23
import Derived.Test.YtimlkjppaalfaaaGreatDoorPW24
import Derived.WalkKit
import Derived.BigQuiet
set_option linter.unusedVariables false
set_option linter.unusedSimpArgs false
set_option maxHeartbeats 1600000
set_option maxRecDepth 100000
open List renaming mem_cons_of_mem->CZ,mem_cons_self->C0,mem_cons->C1
open Int renaming eq_ofNat_of_zero_le->Da
namespace Go.Proofs.YtimlkjppaalfaaaGreatDoor
open Go.RowKit Go.Gl HS
section
variable {h:HS}{σ:GS}{A:Nat->Nat}{rv:Nat->Option (Nat×Nat)}{s k:Nat}{B M T t:Nat}
theorem Sim.hst(m:Sim h σ A rv){i:Nat}(hi:i<h.T):h.hG.st i=(σ.st i).map (bB A):=m.st i hi
theorem ir(A:Nat->Nat)(B:Nat)(l:List Int):ay B (l.map (bB A))=ay B l:=by
 unfold ay;simp
theorem sR(A:Nat->Nat)(l:List Int):cG (l.map (bB A))=cG l:=by
 unfold cG;simp
theorem iK(f:Nat->List Int)(i:Nat)(l:List Int):ai f i l=bk f i l:=by
 funext j
 unfold ai bk;rfl
theorem Sim.whole(m:Sim h σ A rv)(gk:GOk T B σ)(hT:h.T=T)(ht:t<T)(o:Po)(hk:¬ (1<=o.k/\o.k<=5)) :
  bq B M T h.hG t o=bq B M T σ t o/\Sim { h with st:=(aM B M T h.hG t o).st } (aM B M T σ t o) A rv:=by
 have ht':t<h.T:=by omega
 have e0:=m.hst ht';have ne:∀j:Int,1<=j->j<=5->o.k≠j:=λj h1 h2 e=>hk (by omega);have n1:=ne 1 (by decide) (by decide);have n2:=ne 2 (by decide) (by decide);have n3:=ne 3 (by decide) (by decide);have n4:=ne 4 (by decide) (by decide);have n5:=ne 5 (by decide) (by decide);have q:∀j:Int,(o.k=j)->(∀i:Int,i≠j->o.k≠i):=λj e i hij e2=>hij (by omega);unfold bq aM;simp only[if_neg n1,if_neg n2,if_neg n3,if_neg n4,if_neg n5];by_cases k6:o.k=6
 ·simp only[if_pos k6];refine⟨by rw[e0,ir],?_⟩;show Sim { h with st:=ai h.st t (aH B (h.st t) 0) } _ A rv;rw[iK];have:=m.push (B:=B) ht' 0;rw[cg]at this;exact this
 simp only[if_neg k6];by_cases k7:o.k=7
 ·simp only[if_pos k7];refine⟨by rw[e0,sR],?_⟩;show Sim { h with st:=ai h.st t (dM (h.st t)) } _ A rv;rw[iK];exact m.pop ht'
 simp only[if_neg k7];by_cases k8:o.k=8
 ·simp only[if_pos k8];unfold rh jc;rw[e0,ir];by_cases hi:aG (σ.st t) o.a
  ·have hi':=(bf A (σ.st t) o.a).2 hi;rw[if_pos hi,if_pos hi',if_pos hi,if_pos hi'];refine⟨rfl,?_⟩;show Sim { h with st:=ai h.st t (aH B (h.st t) (aj ((σ.st t).map (bB A)) o.a)) } _ A rv;rw[iK,cL];exact m.push ht' _
  ·have hi':=λe=>hi ((bf A (σ.st t) o.a).1 e);rw[if_neg hi,if_neg hi',if_neg hi,if_neg hi'];exact⟨rfl,m⟩
 simp only[if_neg k8];by_cases k13:o.k=13
 ·have k9:=q 13 k13 9 (by decide);have k10:=q 13 k13 10 (by decide);have k11:=q 13 k13 11 (by decide);have k12:=q 13 k13 12 (by decide);simp only[if_neg k9,if_neg k10,if_neg k11,if_neg k12,if_pos k13];unfold gq di;rw[e0];by_cases hi:aG (σ.st t) o.a
  ·have hi':=(bf A (σ.st t) o.a).2 hi;by_cases hb:aA T o.b
   ·have hb':=hb;unfold aA at hb';have hbT:o.b.toNat<h.T:=by omega
    have hib:=And.intro hi hb;have hib':=And.intro hi' hb;simp only[if_pos hi,if_pos hi',if_pos hb,if_pos hib,if_pos hib',m.hst hbT,ir];refine⟨trivial,?_⟩;show Sim { h with st:=ai h.st o.b.toNat (aH B (h.st o.b.toNat) (aj ((σ.st t).map (bB A)) o.a)) } _ A rv;rw[iK,cL];exact m.push hbT _
   ·have hib:¬ (aG (σ.st t) o.a/\aA T o.b):=λe=>hb e.2;have hib':¬ (aG ((σ.st t).map (bB A)) o.a/\aA T o.b):=λe=>hb e.2;simp only[if_pos hi,if_pos hi',if_neg hb,if_neg hib,if_neg hib'];exact⟨trivial,m⟩
  ·have hi':=λe=>hi ((bf A (σ.st t) o.a).1 e);have hib:¬ (aG (σ.st t) o.a/\aA T o.b):=λe=>hi e.1;have hib':¬ (aG ((σ.st t).map (bB A)) o.a/\aA T o.b):=λe=>hi' e.1;simp only[if_neg hi,if_neg hi',if_neg hib,if_neg hib'];exact⟨trivial,m⟩
 simp only[if_neg k13];refine⟨?_,m⟩;by_cases k9:o.k=9
 ·simp only[if_pos k9];have eE:eH h.hG t o.a o.b=eH σ t o.a o.b:=by
   unfold eH;rw[e0,nJ];by_cases hi:aG (σ.st t) o.a
   ·rw[if_pos hi,if_pos ((bf A _ _).2 hi)]
   ·rw[if_neg hi,if_neg (λe=>hi ((bf A _ _).1 e))]
  have eV:eI h.hG t o.a o.b=eI σ t o.a o.b:=by
   unfold eI;rw[e0];rw[decide_eq_decide,bf,bf,cL,cL];constructor
   ·rintro⟨h1,h2,h3⟩;exact⟨h1,h2,m.inj (gk.at t o.a) (gk.at t o.b) h3⟩
   ·rintro⟨h1,h2,h3⟩;exact⟨h1,h2,by rw[h3]⟩
  rw[eE,eV]
 simp only[if_neg k9];by_cases k10:o.k=10
 ·simp only[if_pos k10];have eV:eJ h.hG t o.a=eJ σ t o.a:=by
   unfold eJ;rw[e0];rw[decide_eq_decide,bf,cL];constructor
   ·rintro⟨h1,h2⟩;exact⟨h1,Classical.byContradiction λe=>oQ A e h2⟩
   ·rintro⟨h1,h2⟩;exact⟨h1,by rw[h2,cg]⟩
  rw[eV,e0,nJ]
 simp only[if_neg k10]
end
structure cu(σ:GS)(A:Nat->Nat)(t:Nat)(o:Po)(q I:Nat):Prop where
 q1:1<=q
 q2:q<=σ.N
 a:aG (σ.st t) o.a
 r:aj (σ.st t) o.a=(q:Int)
 c:o.k=3->aG (σ.st t) o.c
 f:((o.k=2\/o.k=3)/\∃j:Nat,o.b=(j:Int)/\j<σ.np (q:Int)/\I=A q+1+j)\/((o.k=4\/o.k=5)/\∃j:Nat,o.b=(j:Int)/\j<σ.nw (q:Int)/\I=A q+1+σ.np (q:Int)+j)
section
variable {W w w':World}{L:HL}{X:HX}{h:HS}{x:HT}{s k:Nat}{E:aK}{D:Nat->Prop}{Q:World->Prop}{mb t sb:Nat}{m:MU}{σ:GS}{A:Nat->Nat}{rv:Nat->Option (Nat×Nat)}{B M T:Nat}
theorem Sim.lq(S:Sim h σ A rv){o:Nat}(h1:1<=o)(h2:o<=σ.N):gz h (A o) (osz σ o) (σ.np (o:Int)):=by
 have hz:=gU σ o;have hl:=(S.use o h1 h2 (A o) (Nat.le_refl _) (by omega)).1;have hzm:=S.zm o h1 h2;have hp:σ.np (o:Int)<osz σ o:=by unfold osz;omega
 have of:=nP (s:=osz σ o) (p:=σ.np (o:Int)) ⟨hz,hzm⟩ hp;have hat:=kM (n:=h.n) (f:=h.f) (k:=A o) hl;rw[S.hdr o h1 h2,of]at hat;have hin:=(S.use o h1 h2 (A o+osz σ o-1) (by omega) (by omega)).1;exact⟨hl,by rw[S.hdr o h1 h2,of];exact hat.1.symm,hat.2.trans rfl,by rw[hat.1];rfl,by rw[hat.1];rfl,by rw[hat.1];rfl,hz,hzm,hp,by omega⟩
def iP(W:World)(L:HL)(X:HX)(h:HS)(x:HT)(s k:Nat)(D:Nat->Prop)(Q:World->Prop)(mb t sb:Nat)(m:MU)(o:Po)(fV fE:Int):Prop:=
 ∀w' E',(mb,127,muV L.hb t sb m)∈E'->HM W w' L X h x s k E' D Q->Calls Tryz.prog 128 #[.pointer (some ⟨mb,0,none⟩),opV o] w' λe w''=>e=.returned (.tuple #[.int .i64 fV,.int .i64 fE])/\HM W w'' L X h x s k E' D Q
theorem vl(hS:ah D Q)(S:Sim h σ A rv)(gk:GOk T B σ)(hT:h.T=T)(ht:t<T)(hn:h.n<=4194304)(a b c v:Int)(ho:dH ⟨2,a,b,c,v⟩) :
  (∃code:Int,code≠0/\bq B M T σ t ⟨2,a,b,c,v⟩=⟨code,0,false⟩/\aM B M T σ t ⟨2,a,b,c,v⟩=σ/\iP W L X h x s k D Q mb t sb m ⟨2,a,b,c,v⟩ 0 code) \/
  ∃q I:Nat,cu σ A t ⟨2,a,b,c,v⟩ q I/\I<h.n/\iP W L X h x s k D Q mb t sb m ⟨2,a,b,c,v⟩ (I:Int) 0:=by
 have ht':t<h.T:=by omega
 have e0:=S.st t ht';have eA:bq B M T σ t ⟨2,a,b,c,v⟩=⟨fN B σ t a b,0,false⟩:=rfl;have eS:aM B M T σ t ⟨2,a,b,c,v⟩=dN B σ t a b:=rfl;rw[eA,eS];by_cases ha:aG (σ.st t) a;case neg=>
  have ha':¬ aG (h.st t) a:=λe=>ha ((bf A _ _).1 (by rw[<- e0];exact e));have HO:aD σ t a=10:=by unfold aD;rw[if_neg ha]
  have HNO:¬ (aD σ t a=0/\aA (σ.np (aj (σ.st t) a)) b):=λe=>by rw[HO]at e;exact absurd e.1 (by decide)
  have HE:fN B σ t a b=10:=by
   unfold fN;rw[HO];rw[if_pos (by decide)]
  exact .inl ⟨10,by decide,by rw[HE],by unfold dN;rw[if_neg HNO],λw' E' hm q=>ss hS q hm ht' a b c v ha'⟩
 have ha':aG (h.st t) a:=by rw[e0];exact(bf A _ _).2 ha
 have er:aj (h.st t) a=bB A (aj (σ.st t) a):=by rw[e0,cL]
 by_cases hr:aj (σ.st t) a=0
 ·have hr':aj (h.st t) a=0:=by rw[er,hr,cg]
  have HO:aD σ t a=12:=by unfold aD;rw[if_pos ha,if_pos hr]
  have HNO:¬ (aD σ t a=0/\aA (σ.np (aj (σ.st t) a)) b):=λe=>by rw[HO]at e;exact absurd e.1 (by decide)
  have HE:fN B σ t a b=12:=by
   unfold fN;rw[HO];rw[if_pos (by decide)]
  exact .inl ⟨12,by decide,by rw[HE],by unfold dN;rw[if_neg HNO],λw' E' hm q=>ow hS q hm ht' a b c v ha' hr'⟩
 have HO:aD σ t a=0:=by unfold aD;rw[if_pos ha,if_neg hr]
 obtain⟨g0,g1⟩:=gk.at t a;obtain⟨q0,hq⟩:=Da g0;have hq1:1<=q0:=by omega
 have hq2:q0<=σ.N:=by omega
 have ob:=S.lq hq1 hq2;have hr':aj (h.st t) a=((A q0:Nat):Int)+1:=by rw[er,hq,iq A hq1]
 have hz:σ.np (q0:Int)<osz σ q0/\osz σ q0<=1048576/\A q0<=4194304:=⟨ob.ps,ob.max,by have:=ob.lt;omega⟩;have hfit:=ob.fit;have hosz:osz σ q0=1+σ.np (q0:Int)+σ.nw (q0:Int):=rfl;by_cases hb:b<0
 ·have hfi:¬ aA (σ.np (q0:Int)) b:=by unfold aA;omega
  have HNO:¬ (aD σ t a=0/\aA (σ.np (aj (σ.st t) a)) b):=λe=>by have:=e.2;rw[hq]at this;exact hfi this
  have HE:fN B σ t a b=11:=by
   unfold fN;rw[HO];rw[if_neg (by decide),hq,if_neg hfi]
  exact .inl ⟨11,by decide,by rw[HE],by unfold dN;rw[if_neg HNO],λw' E' hm q=>oy hS q hm ht' a b c v ha' hr' ob.aD ob.bj hz hb⟩
 by_cases hb2:b<((σ.np (q0:Int):Nat):Int);case neg=>
  have hfi:¬ aA (σ.np (q0:Int)) b:=by unfold aA;omega
  have HNO:¬ (aD σ t a=0/\aA (σ.np (aj (σ.st t) a)) b):=λe=>by have:=e.2;rw[hq]at this;exact hfi this
  have HE:fN B σ t a b=11:=by
   unfold fN;rw[HO];rw[if_neg (by decide),hq,if_neg hfi]
  exact .inl ⟨11,by decide,by rw[HE],by unfold dN;rw[if_neg HNO],λw' E' hm q=>oz hS q hm ht' a b c v ha' hr' ob.aD ob.bj hz hb (by omega) ho.b.2⟩
 obtain⟨j,rfl⟩:=Da (show 0<=b by omega);refine .inr ⟨q0,A q0+1+j,⟨hq1,hq2,ha,hq,λe=>absurd e (by show ¬ (2:Int)=3;decide),.inl ⟨.inl rfl,j,rfl,by omega,rfl⟩⟩,by omega,λw' E' hm q=>?_⟩;have:=qy hS q hm ht' a (j:Int) c v ha' hr' ob.aD ob.bj hz hb (by omega);rw[show((A q0+1+j:Nat):Int)=((A q0:Nat):Int)+1+(j:Int)by omega];exact this
theorem vn(hS:ah D Q)(S:Sim h σ A rv)(gk:GOk T B σ)(hT:h.T=T)(ht:t<T)(hn:h.n<=4194304)(a b c v:Int)(ho:dH ⟨3,a,b,c,v⟩) :
  (∃code:Int,code≠0/\bq B M T σ t ⟨3,a,b,c,v⟩=⟨code,0,false⟩/\aM B M T σ t ⟨3,a,b,c,v⟩=σ/\iP W L X h x s k D Q mb t sb m ⟨3,a,b,c,v⟩ 0 code) \/
  ∃q I:Nat,cu σ A t ⟨3,a,b,c,v⟩ q I/\I<h.n/\iP W L X h x s k D Q mb t sb m ⟨3,a,b,c,v⟩ (I:Int) 0:=by
 have ht':t<h.T:=by omega
 have e0:=S.st t ht';have eA:bq B M T σ t ⟨3,a,b,c,v⟩=⟨bh σ t a b c,0,false⟩:=rfl;have eS:aM B M T σ t ⟨3,a,b,c,v⟩=bU σ t a b c:=rfl;rw[eA,eS];by_cases hc:aG (σ.st t) c;case neg=>
  have hc':¬ aG (h.st t) c:=λe=>hc ((bf A _ _).1 (by rw[<- e0];exact e));have HE:bh σ t a b c=10:=by
   unfold bh;rw[if_neg hc]
  exact .inl ⟨10,by decide,by rw[HE],by unfold bU;rw[if_neg (by rw[HE];decide)],λw' E' hm q=>su hS q hm ht' a b c v hc'⟩
 have hc':aG (h.st t) c:=by rw[e0];exact(bf A _ _).2 hc
 by_cases ha:aG (σ.st t) a;case neg=>
  have ha':¬ aG (h.st t) a:=λe=>ha ((bf A _ _).1 (by rw[<- e0];exact e));have HO:aD σ t a=10:=by unfold aD;rw[if_neg ha]
  have HE:bh σ t a b c=10:=by
   unfold bh;rw[if_pos hc];rw[HO];rw[if_pos (by decide)]
  exact .inl ⟨10,by decide,by rw[HE],by unfold bU;rw[if_neg (by rw[HE];decide)],λw' E' hm q=>sw hS q hm ht' a b c v hc' ha'⟩
 have ha':aG (h.st t) a:=by rw[e0];exact(bf A _ _).2 ha
 have er:aj (h.st t) a=bB A (aj (σ.st t) a):=by rw[e0,cL]
 by_cases hr:aj (σ.st t) a=0
 ·have hr':aj (h.st t) a=0:=by rw[er,hr,cg]
  have HO:aD σ t a=12:=by unfold aD;rw[if_pos ha,if_pos hr]
  have HE:bh σ t a b c=12:=by
   unfold bh;rw[if_pos hc];rw[HO];rw[if_pos (by decide)]
  exact .inl ⟨12,by decide,by rw[HE],by unfold bU;rw[if_neg (by rw[HE];decide)],λw' E' hm q=>oB hS q hm ht' a b c v hc' ha' hr'⟩
 have HO:aD σ t a=0:=by unfold aD;rw[if_pos ha,if_neg hr]
 obtain⟨g0,g1⟩:=gk.at t a;obtain⟨q0,hq⟩:=Da g0;have hq1:1<=q0:=by omega
 have hq2:q0<=σ.N:=by omega
 have ob:=S.lq hq1 hq2;have hr':aj (h.st t) a=((A q0:Nat):Int)+1:=by rw[er,hq,iq A hq1]
 have hz:σ.np (q0:Int)<osz σ q0/\osz σ q0<=1048576/\A q0<=4194304:=⟨ob.ps,ob.max,by have:=ob.lt;omega⟩;have hfit:=ob.fit;have hosz:osz σ q0=1+σ.np (q0:Int)+σ.nw (q0:Int):=rfl;by_cases hb:b<0
 ·have hfi:¬ aA (σ.np (q0:Int)) b:=by unfold aA;omega
  have HE:bh σ t a b c=11:=by
   unfold bh;rw[if_pos hc];rw[HO];rw[if_neg (by decide),hq,if_neg hfi]
  exact .inl ⟨11,by decide,by rw[HE],by unfold bU;rw[if_neg (by rw[HE];decide)],λw' E' hm q=>oC hS q hm ht' a b c v hc' ha' hr' ob.aD ob.bj hz hb⟩
 by_cases hb2:b<((σ.np (q0:Int):Nat):Int);case neg=>
  have hfi:¬ aA (σ.np (q0:Int)) b:=by unfold aA;omega
  have HE:bh σ t a b c=11:=by
   unfold bh;rw[if_pos hc];rw[HO];rw[if_neg (by decide),hq,if_neg hfi]
  exact .inl ⟨11,by decide,by rw[HE],by unfold bU;rw[if_neg (by rw[HE];decide)],λw' E' hm q=>oE hS q hm ht' a b c v hc' ha' hr' ob.aD ob.bj hz hb (by omega) ho.b.2⟩
 obtain⟨j,rfl⟩:=Da (show 0<=b by omega);refine .inr ⟨q0,A q0+1+j,⟨hq1,hq2,ha,hq,λ_=>hc,.inl ⟨.inr rfl,j,rfl,by omega,rfl⟩⟩,by omega,λw' E' hm q=>?_⟩;have:=qz hS q hm ht' a (j:Int) c v hc' ha' hr' ob.aD ob.bj hz hb (by omega);rw[show((A q0+1+j:Nat):Int)=((A q0:Nat):Int)+1+(j:Int)by omega];exact this
theorem vp(hS:ah D Q)(S:Sim h σ A rv)(gk:GOk T B σ)(hT:h.T=T)(ht:t<T)(hn:h.n<=4194304)(a b c v:Int)(ho:dH ⟨4,a,b,c,v⟩) :
  (∃code:Int,code≠0/\bq B M T σ t ⟨4,a,b,c,v⟩=⟨code,0,false⟩/\aM B M T σ t ⟨4,a,b,c,v⟩=σ/\iP W L X h x s k D Q mb t sb m ⟨4,a,b,c,v⟩ 0 code) \/
  ∃q I:Nat,cu σ A t ⟨4,a,b,c,v⟩ q I/\I<h.n/\iP W L X h x s k D Q mb t sb m ⟨4,a,b,c,v⟩ (I:Int) 0:=by
 have ht':t<h.T:=by omega
 have e0:=S.st t ht';have eA:bq B M T σ t ⟨4,a,b,c,v⟩=⟨bI σ t a b,ie σ t a b,false⟩:=rfl;have eS:aM B M T σ t ⟨4,a,b,c,v⟩=σ:=rfl;rw[eA,eS];by_cases ha:aG (σ.st t) a;case neg=>
  have ha':¬ aG (h.st t) a:=λe=>ha ((bf A _ _).1 (by rw[<- e0];exact e));have HO:aD σ t a=10:=by unfold aD;rw[if_neg ha]
  have HE:bI σ t a b=10:=by
   unfold bI;rw[HO];rw[if_pos (by decide)]
  exact .inl ⟨10,by decide,by rw[HE];unfold ie;rw[if_neg (by rw[HE];decide)],by rfl,λw' E' hm q=>sx hS q hm ht' a b c v ha'⟩
 have ha':aG (h.st t) a:=by rw[e0];exact(bf A _ _).2 ha
 have er:aj (h.st t) a=bB A (aj (σ.st t) a):=by rw[e0,cL]
 by_cases hr:aj (σ.st t) a=0
 ·have hr':aj (h.st t) a=0:=by rw[er,hr,cg]
  have HO:aD σ t a=12:=by unfold aD;rw[if_pos ha,if_pos hr]
  have HE:bI σ t a b=12:=by
   unfold bI;rw[HO];rw[if_pos (by decide)]
  exact .inl ⟨12,by decide,by rw[HE];unfold ie;rw[if_neg (by rw[HE];decide)],by rfl,λw' E' hm q=>oH hS q hm ht' a b c v ha' hr'⟩
 have HO:aD σ t a=0:=by unfold aD;rw[if_pos ha,if_neg hr]
 obtain⟨g0,g1⟩:=gk.at t a;obtain⟨q0,hq⟩:=Da g0;have hq1:1<=q0:=by omega
 have hq2:q0<=σ.N:=by omega
 have ob:=S.lq hq1 hq2;have hr':aj (h.st t) a=((A q0:Nat):Int)+1:=by rw[er,hq,iq A hq1]
 have hz:σ.np (q0:Int)<osz σ q0/\osz σ q0<=1048576/\A q0<=4194304:=⟨ob.ps,ob.max,by have:=ob.lt;omega⟩;have hfit:=ob.fit;have hosz:osz σ q0=1+σ.np (q0:Int)+σ.nw (q0:Int):=rfl;by_cases hb:b<0
 ·have hfi:¬ aA (σ.nw (q0:Int)) b:=by unfold aA;omega
  have HE:bI σ t a b=11:=by
   unfold bI;rw[HO];rw[if_neg (by decide),hq,if_neg hfi]
  exact .inl ⟨11,by decide,by rw[HE];unfold ie;rw[if_neg (by rw[HE];decide)],by rfl,λw' E' hm q=>oI hS q hm ht' a b c v ha' hr' ob.aD ob.bj hz hb⟩
 by_cases hb2:b<((σ.nw (q0:Int):Nat):Int);case neg=>
  have hfi:¬ aA (σ.nw (q0:Int)) b:=by unfold aA;omega
  have HE:bI σ t a b=11:=by
   unfold bI;rw[HO];rw[if_neg (by decide),hq,if_neg hfi]
  exact .inl ⟨11,by decide,by rw[HE];unfold ie;rw[if_neg (by rw[HE];decide)],by rfl,λw' E' hm q=>oJ hS q hm ht' a b c v ha' hr' ob.aD ob.bj hz hb (by omega) ho.b.2⟩
 obtain⟨j,rfl⟩:=Da (show 0<=b by omega);refine .inr ⟨q0,A q0+1+σ.np (q0:Int)+j,⟨hq1,hq2,ha,hq,λe=>absurd e (by show ¬ (4:Int)=3;decide),.inr ⟨.inl rfl,j,rfl,by omega,rfl⟩⟩,by omega,λw' E' hm q=>?_⟩;have:=qA hS q hm ht' a (j:Int) c v ha' hr' ob.aD ob.bj hz hb (by omega);rw[show((A q0+1+σ.np (q0:Int)+j:Nat):Int)=((A q0:Nat):Int)+1+((σ.np (q0:Int):Nat):Int)+(j:Int)by omega];exact this
theorem vr(hS:ah D Q)(S:Sim h σ A rv)(gk:GOk T B σ)(hT:h.T=T)(ht:t<T)(hn:h.n<=4194304)(a b c v:Int)(ho:dH ⟨5,a,b,c,v⟩) :
  (∃code:Int,code≠0/\bq B M T σ t ⟨5,a,b,c,v⟩=⟨code,0,false⟩/\aM B M T σ t ⟨5,a,b,c,v⟩=σ/\iP W L X h x s k D Q mb t sb m ⟨5,a,b,c,v⟩ 0 code) \/
  ∃q I:Nat,cu σ A t ⟨5,a,b,c,v⟩ q I/\I<h.n/\iP W L X h x s k D Q mb t sb m ⟨5,a,b,c,v⟩ (I:Int) 0:=by
 have ht':t<h.T:=by omega
 have e0:=S.st t ht';have eA:bq B M T σ t ⟨5,a,b,c,v⟩=⟨bI σ t a b,0,false⟩:=rfl;have eS:aM B M T σ t ⟨5,a,b,c,v⟩=cp σ t a b v:=rfl;rw[eA,eS];by_cases ha:aG (σ.st t) a;case neg=>
  have ha':¬ aG (h.st t) a:=λe=>ha ((bf A _ _).1 (by rw[<- e0];exact e));have HO:aD σ t a=10:=by unfold aD;rw[if_neg ha]
  have HE:bI σ t a b=10:=by
   unfold bI;rw[HO];rw[if_pos (by decide)]
  exact .inl ⟨10,by decide,by rw[HE],by unfold cp;rw[if_neg (by rw[HE];decide)],λw' E' hm q=>sD hS q hm ht' a b c v ha'⟩
 have ha':aG (h.st t) a:=by rw[e0];exact(bf A _ _).2 ha
 have er:aj (h.st t) a=bB A (aj (σ.st t) a):=by rw[e0,cL]
 by_cases hr:aj (σ.st t) a=0
 ·have hr':aj (h.st t) a=0:=by rw[er,hr,cg]
  have HO:aD σ t a=12:=by unfold aD;rw[if_pos ha,if_pos hr]
  have HE:bI σ t a b=12:=by
   unfold bI;rw[HO];rw[if_pos (by decide)]
  exact .inl ⟨12,by decide,by rw[HE],by unfold cp;rw[if_neg (by rw[HE];decide)],λw' E' hm q=>oK hS q hm ht' a b c v ha' hr'⟩
 have HO:aD σ t a=0:=by unfold aD;rw[if_pos ha,if_neg hr]
 obtain⟨g0,g1⟩:=gk.at t a;obtain⟨q0,hq⟩:=Da g0;have hq1:1<=q0:=by omega
 have hq2:q0<=σ.N:=by omega
 have ob:=S.lq hq1 hq2;have hr':aj (h.st t) a=((A q0:Nat):Int)+1:=by rw[er,hq,iq A hq1]
 have hz:σ.np (q0:Int)<osz σ q0/\osz σ q0<=1048576/\A q0<=4194304:=⟨ob.ps,ob.max,by have:=ob.lt;omega⟩;have hfit:=ob.fit;have hosz:osz σ q0=1+σ.np (q0:Int)+σ.nw (q0:Int):=rfl;by_cases hb:b<0
 ·have hfi:¬ aA (σ.nw (q0:Int)) b:=by unfold aA;omega
  have HE:bI σ t a b=11:=by
   unfold bI;rw[HO];rw[if_neg (by decide),hq,if_neg hfi]
  exact .inl ⟨11,by decide,by rw[HE],by unfold cp;rw[if_neg (by rw[HE];decide)],λw' E' hm q=>oL hS q hm ht' a b c v ha' hr' ob.aD ob.bj hz hb⟩
 by_cases hb2:b<((σ.nw (q0:Int):Nat):Int);case neg=>
  have hfi:¬ aA (σ.nw (q0:Int)) b:=by unfold aA;omega
  have HE:bI σ t a b=11:=by
   unfold bI;rw[HO];rw[if_neg (by decide),hq,if_neg hfi]
  exact .inl ⟨11,by decide,by rw[HE],by unfold cp;rw[if_neg (by rw[HE];decide)],λw' E' hm q=>oM hS q hm ht' a b c v ha' hr' ob.aD ob.bj hz hb (by omega) ho.b.2⟩
 obtain⟨j,rfl⟩:=Da (show 0<=b by omega);refine .inr ⟨q0,A q0+1+σ.np (q0:Int)+j,⟨hq1,hq2,ha,hq,λe=>absurd e (by show ¬ (5:Int)=3;decide),.inr ⟨.inr rfl,j,rfl,by omega,rfl⟩⟩,by omega,λw' E' hm q=>?_⟩;have:=qB hS q hm ht' a (j:Int) c v ha' hr' ob.aD ob.bj hz hb (by omega);rw[show((A q0+1+σ.np (q0:Int)+j:Nat):Int)=((A q0:Nat):Int)+1+((σ.np (q0:Int):Nat):Int)+(j:Int)by omega];exact this
end
section
variable {W w w':World}{L:HL}{X:HX}{h h2:HS}{x x2:HT}{s k:Nat}{E:aK}{D:Nat->Prop}{Q:World->Prop}{mb t sb:Nat}{m m':MU}{r0 r1 r2 r3:Int}{b4 b5 b6 b7:Bool}{A8:Option Addr}{n8 c8:Nat}
theorem mh(hS:ah D Q)(hT:Tab W)(H:HM W w L X h x s k ((mb,127,muV L.hb t sb m)::E) D Q)(hne:∀q,q∈E->q.1≠mb)(hk:m.k=2)
  (hcall:∀w' rb c,rb≠mb->(∀q,q∈E->q.1≠rb)->HM W w' L X h x s k ((mb,127,muV L.hb t sb m)::(rb,73,c)::E) D Q->Calls Tryz.prog 83 #[.pointer (some ⟨mb,0,none⟩)] w' λe w''=>e=.returned (.agg #[.int .i64 r0,.int .i64 r1,.int .i64 r2,.int .u64 r3,.bool b4,.bool b5,.bool b6,.bool b7,.slice A8 n8 c8])/\HM W w'' L X h2 x2 s k ((mb,127,muV L.hb t sb m')::(rb,73,c)::E) D Q) :
  Calls Tryz.prog 45 #[.pointer (some ⟨mb,0,none⟩)] w λe w'=>e=.returned (.agg #[.int .i64 r0,.int .i64 r1,.int .i64 r2,.int .u64 r3,.bool b4,.bool b5,.bool b6,.bool b7,.slice A8 n8 c8])/\HM W w' L X h2 x2 s k ((mb,127,muV L.hb t sb m')::E) D Q:=by
 have hmb:=H.blk (C0 ..);have hlt:=hmb.lt;have hltE:∀q,q∈E->q.1<w.heap.size:=λq hq=>(H.blk (b:=q.1) (t:=q.2.1) (cs:=q.2.2) (CZ _ hq)).lt;have hrm:w.heap.size≠mb:=by omega
 have hrE:∀q,q∈E->q.1≠w.heap.size:=λq hq=>by have:=hltE q hq;omega
 have hneR:∀cs:Array Value,∀q,q∈((w.heap.size,73,cs)::E:aK)->q.1≠mb:=λcs q hq=>by
  rcases C1.1 hq with rfl|hq
  ·exact hrm
  ·exact hne q hq
 have HX:Hid (HM W (w.alloc (.cells #[.int .i64 0,.int .i64 0,.int .i64 0,.int .u64 0,.bool false,.bool false,.bool false,.bool false,.slice none 0 0] 73)) L X h x s k ((w.heap.size,73,#[.int .i64 0,.int .i64 0,.int .i64 0,.int .u64 0,.bool false,.bool false,.bool false,.bool false,.slice none 0 0])::(mb,127,muV L.hb t sb m)::E) D Q):=H.alloc hS 73 #[.int .i64 0,.int .i64 0,.int .i64 0,.int .u64 0,.bool false,.bool false,.bool false,.bool false,.slice none 0 0];have HEnd:Hid (∀w' a0 a1 a2 a3 a4 a5 a6 a7 a8 v0 v1 v2 v3 v4 v5 v6 v7 v8,HM W w' L X h2 x2 s k ((mb,127,muV L.hb t sb m')::(w.heap.size,73,#[a0,a1,a2,a3,a4,a5,a6,a7,a8])::E) D Q->HM W (cD w' w.heap.size v0 v1 v2 v3 v4 v5 v6 v7 v8) L X h2 x2 s k ((mb,127,muV L.hb t sb m')::E) D Q):=λw' a0 a1 a2 a3 a4 a5 a6 a7 a8 v0 v1 v2 v3 v4 v5 v6 v7 v8 q=>
  q.swap.cS hS hT (λy hy=>by
   rcases C1.1 hy with rfl|hy
   ·exact λe=>hrm e.symm
   ·exact hrE y hy) v0 v1 v2 v3 v4 v5 v6 v7 v8
 have HC:=aa (hcall _ _ _ hrm hrE HX.out.swap);obtain⟨c0,c1,c2,c3,c4,c5,c6,c7,c8,c9,c10⟩:=aJ hmb;rw[hk]at c4;clear H hmb hltE HX hne hneR hrm hrE hk hcall;go_enter Tryz.func45,Tryz.ntmps45
 go_wp2_with fail
 refine HC.out.mono ?_;rintro e w5 ⟨rfl,hA⟩;clear c0 c1 c2 c3 c4 c5 c6 c7 c8 c9 c10 HC;have HA5:=aa hA;have hrb:=hA.blk (CZ _ (C0 ..));have y0:=hrb.cell 0;have y1:=hrb.cell 1;have y2:=hrb.cell 2;have y3:=hrb.cell 3;have y4:=hrb.cell 4;have y5:=hrb.cell 5;have y6:=hrb.cell 6;have y7:=hrb.cell 7;have y8:=hrb.cell 8;have z0:=hrb.frozen 0;have z1:=hrb.frozen 1;have z2:=hrb.frozen 2;have z3:=hrb.frozen 3;have z4:=hrb.frozen 4;have z5:=hrb.frozen 5;have z6:=hrb.frozen 6;have z7:=hrb.frozen 7;have z8:=hrb.frozen 8;have NR:=hrb.lt;clear hA hrb;go_wp2_with fail
 refine bodyPost_ret (v:=.agg #[.int .i64 r0,.int .i64 r1,.int .i64 r2,.int .u64 r3,.bool b4,.bool b5,.bool b6,.bool b7,.slice A8 n8 c8]) (by simp[results,Tryz.results45,go_sem, *]) rfl ⟨rfl,?_⟩;exact HEnd.out _ _ _ _ _ _ _ _ _ _ _ _ _ _ _ _ _ _ _ HA5.out
theorem mi(hS:ah D Q)(hT:Tab W)(H:HM W w L X h x s k ((mb,127,muV L.hb t sb m)::E) D Q)(hne:∀q,q∈E->q.1≠mb)(hk:m.k=3)
  (hcall:∀w' rb c,rb≠mb->(∀q,q∈E->q.1≠rb)->HM W w' L X h x s k ((mb,127,muV L.hb t sb m)::(rb,73,c)::E) D Q->Calls Tryz.prog 83 #[.pointer (some ⟨mb,0,none⟩)] w' λe w''=>e=.returned (.agg #[.int .i64 r0,.int .i64 r1,.int .i64 r2,.int .u64 r3,.bool b4,.bool b5,.bool b6,.bool b7,.slice A8 n8 c8])/\HM W w'' L X h2 x2 s k ((mb,127,muV L.hb t sb m')::(rb,73,c)::E) D Q) :
  Calls Tryz.prog 45 #[.pointer (some ⟨mb,0,none⟩)] w λe w'=>e=.returned (.agg #[.int .i64 r0,.int .i64 r1,.int .i64 r2,.int .u64 r3,.bool b4,.bool b5,.bool b6,.bool b7,.slice A8 n8 c8])/\HM W w' L X h2 x2 s k ((mb,127,muV L.hb t sb m')::E) D Q:=by
 have hmb:=H.blk (C0 ..);have hlt:=hmb.lt;have hltE:∀q,q∈E->q.1<w.heap.size:=λq hq=>(H.blk (b:=q.1) (t:=q.2.1) (cs:=q.2.2) (CZ _ hq)).lt;have hrm:w.heap.size≠mb:=by omega
 have hrE:∀q,q∈E->q.1≠w.heap.size:=λq hq=>by have:=hltE q hq;omega
 have hneR:∀cs:Array Value,∀q,q∈((w.heap.size,73,cs)::E:aK)->q.1≠mb:=λcs q hq=>by
  rcases C1.1 hq with rfl|hq
  ·exact hrm
  ·exact hne q hq
 have HX:Hid (HM W (w.alloc (.cells #[.int .i64 0,.int .i64 0,.int .i64 0,.int .u64 0,.bool false,.bool false,.bool false,.bool false,.slice none 0 0] 73)) L X h x s k ((w.heap.size,73,#[.int .i64 0,.int .i64 0,.int .i64 0,.int .u64 0,.bool false,.bool false,.bool false,.bool false,.slice none 0 0])::(mb,127,muV L.hb t sb m)::E) D Q):=H.alloc hS 73 #[.int .i64 0,.int .i64 0,.int .i64 0,.int .u64 0,.bool false,.bool false,.bool false,.bool false,.slice none 0 0];have HEnd:Hid (∀w' a0 a1 a2 a3 a4 a5 a6 a7 a8 v0 v1 v2 v3 v4 v5 v6 v7 v8,HM W w' L X h2 x2 s k ((mb,127,muV L.hb t sb m')::(w.heap.size,73,#[a0,a1,a2,a3,a4,a5,a6,a7,a8])::E) D Q->HM W (cD w' w.heap.size v0 v1 v2 v3 v4 v5 v6 v7 v8) L X h2 x2 s k ((mb,127,muV L.hb t sb m')::E) D Q):=λw' a0 a1 a2 a3 a4 a5 a6 a7 a8 v0 v1 v2 v3 v4 v5 v6 v7 v8 q=>
  q.swap.cS hS hT (λy hy=>by
   rcases C1.1 hy with rfl|hy
   ·exact λe=>hrm e.symm
   ·exact hrE y hy) v0 v1 v2 v3 v4 v5 v6 v7 v8
 have HC:=aa (hcall _ _ _ hrm hrE HX.out.swap);obtain⟨c0,c1,c2,c3,c4,c5,c6,c7,c8,c9,c10⟩:=aJ hmb;rw[hk]at c4;clear H hmb hltE HX hne hneR hrm hrE hk hcall;go_enter Tryz.func45,Tryz.ntmps45
 go_wp2_with fail
 refine HC.out.mono ?_;rintro e w5 ⟨rfl,hA⟩;clear c0 c1 c2 c3 c4 c5 c6 c7 c8 c9 c10 HC;have HA5:=aa hA;have hrb:=hA.blk (CZ _ (C0 ..));have y0:=hrb.cell 0;have y1:=hrb.cell 1;have y2:=hrb.cell 2;have y3:=hrb.cell 3;have y4:=hrb.cell 4;have y5:=hrb.cell 5;have y6:=hrb.cell 6;have y7:=hrb.cell 7;have y8:=hrb.cell 8;have z0:=hrb.frozen 0;have z1:=hrb.frozen 1;have z2:=hrb.frozen 2;have z3:=hrb.frozen 3;have z4:=hrb.frozen 4;have z5:=hrb.frozen 5;have z6:=hrb.frozen 6;have z7:=hrb.frozen 7;have z8:=hrb.frozen 8;have NR:=hrb.lt;clear hA hrb;go_wp2_with fail
 refine bodyPost_ret (v:=.agg #[.int .i64 r0,.int .i64 r1,.int .i64 r2,.int .u64 r3,.bool b4,.bool b5,.bool b6,.bool b7,.slice A8 n8 c8]) (by simp[results,Tryz.results45,go_sem, *]) rfl ⟨rfl,?_⟩;exact HEnd.out _ _ _ _ _ _ _ _ _ _ _ _ _ _ _ _ _ _ _ HA5.out
theorem mj(hS:ah D Q)(hT:Tab W)(H:HM W w L X h x s k ((mb,127,muV L.hb t sb m)::E) D Q)(hne:∀q,q∈E->q.1≠mb)(hk:m.k=4)
  (hcall:∀w' rb c,rb≠mb->(∀q,q∈E->q.1≠rb)->HM W w' L X h x s k ((mb,127,muV L.hb t sb m)::(rb,73,c)::E) D Q->Calls Tryz.prog 83 #[.pointer (some ⟨mb,0,none⟩)] w' λe w''=>e=.returned (.agg #[.int .i64 r0,.int .i64 r1,.int .i64 r2,.int .u64 r3,.bool b4,.bool b5,.bool b6,.bool b7,.slice A8 n8 c8])/\HM W w'' L X h2 x2 s k ((mb,127,muV L.hb t sb m')::(rb,73,c)::E) D Q) :
  Calls Tryz.prog 45 #[.pointer (some ⟨mb,0,none⟩)] w λe w'=>e=.returned (.agg #[.int .i64 r0,.int .i64 r1,.int .i64 r2,.int .u64 r3,.bool b4,.bool b5,.bool b6,.bool b7,.slice A8 n8 c8])/\HM W w' L X h2 x2 s k ((mb,127,muV L.hb t sb m')::E) D Q:=by
 have hmb:=H.blk (C0 ..);have hlt:=hmb.lt;have hltE:∀q,q∈E->q.1<w.heap.size:=λq hq=>(H.blk (b:=q.1) (t:=q.2.1) (cs:=q.2.2) (CZ _ hq)).lt;have hrm:w.heap.size≠mb:=by omega
 have hrE:∀q,q∈E->q.1≠w.heap.size:=λq hq=>by have:=hltE q hq;omega
 have hneR:∀cs:Array Value,∀q,q∈((w.heap.size,73,cs)::E:aK)->q.1≠mb:=λcs q hq=>by
  rcases C1.1 hq with rfl|hq
  ·exact hrm
  ·exact hne q hq
 have HX:Hid (HM W (w.alloc (.cells #[.int .i64 0,.int .i64 0,.int .i64 0,.int .u64 0,.bool false,.bool false,.bool false,.bool false,.slice none 0 0] 73)) L X h x s k ((w.heap.size,73,#[.int .i64 0,.int .i64 0,.int .i64 0,.int .u64 0,.bool false,.bool false,.bool false,.bool false,.slice none 0 0])::(mb,127,muV L.hb t sb m)::E) D Q):=H.alloc hS 73 #[.int .i64 0,.int .i64 0,.int .i64 0,.int .u64 0,.bool false,.bool false,.bool false,.bool false,.slice none 0 0];have HEnd:Hid (∀w' a0 a1 a2 a3 a4 a5 a6 a7 a8 v0 v1 v2 v3 v4 v5 v6 v7 v8,HM W w' L X h2 x2 s k ((mb,127,muV L.hb t sb m')::(w.heap.size,73,#[a0,a1,a2,a3,a4,a5,a6,a7,a8])::E) D Q->HM W (cD w' w.heap.size v0 v1 v2 v3 v4 v5 v6 v7 v8) L X h2 x2 s k ((mb,127,muV L.hb t sb m')::E) D Q):=λw' a0 a1 a2 a3 a4 a5 a6 a7 a8 v0 v1 v2 v3 v4 v5 v6 v7 v8 q=>
  q.swap.cS hS hT (λy hy=>by
   rcases C1.1 hy with rfl|hy
   ·exact λe=>hrm e.symm
   ·exact hrE y hy) v0 v1 v2 v3 v4 v5 v6 v7 v8
 have HC:=aa (hcall _ _ _ hrm hrE HX.out.swap);obtain⟨c0,c1,c2,c3,c4,c5,c6,c7,c8,c9,c10⟩:=aJ hmb;rw[hk]at c4;clear H hmb hltE HX hne hneR hrm hrE hk hcall;go_enter Tryz.func45,Tryz.ntmps45
 go_wp2_with fail
 refine HC.out.mono ?_;rintro e w5 ⟨rfl,hA⟩;clear c0 c1 c2 c3 c4 c5 c6 c7 c8 c9 c10 HC;have HA5:=aa hA;have hrb:=hA.blk (CZ _ (C0 ..));have y0:=hrb.cell 0;have y1:=hrb.cell 1;have y2:=hrb.cell 2;have y3:=hrb.cell 3;have y4:=hrb.cell 4;have y5:=hrb.cell 5;have y6:=hrb.cell 6;have y7:=hrb.cell 7;have y8:=hrb.cell 8;have z0:=hrb.frozen 0;have z1:=hrb.frozen 1;have z2:=hrb.frozen 2;have z3:=hrb.frozen 3;have z4:=hrb.frozen 4;have z5:=hrb.frozen 5;have z6:=hrb.frozen 6;have z7:=hrb.frozen 7;have z8:=hrb.frozen 8;have NR:=hrb.lt;clear hA hrb;go_wp2_with fail
 refine bodyPost_ret (v:=.agg #[.int .i64 r0,.int .i64 r1,.int .i64 r2,.int .u64 r3,.bool b4,.bool b5,.bool b6,.bool b7,.slice A8 n8 c8]) (by simp[results,Tryz.results45,go_sem, *]) rfl ⟨rfl,?_⟩;exact HEnd.out _ _ _ _ _ _ _ _ _ _ _ _ _ _ _ _ _ _ _ HA5.out
theorem ml(hS:ah D Q)(hT:Tab W)(H:HM W w L X h x s k ((mb,127,muV L.hb t sb m)::E) D Q)(hne:∀q,q∈E->q.1≠mb)(hk:m.k=5)
  (hcall:∀w' rb c,rb≠mb->(∀q,q∈E->q.1≠rb)->HM W w' L X h x s k ((mb,127,muV L.hb t sb m)::(rb,73,c)::E) D Q->Calls Tryz.prog 83 #[.pointer (some ⟨mb,0,none⟩)] w' λe w''=>e=.returned (.agg #[.int .i64 r0,.int .i64 r1,.int .i64 r2,.int .u64 r3,.bool b4,.bool b5,.bool b6,.bool b7,.slice A8 n8 c8])/\HM W w'' L X h2 x2 s k ((mb,127,muV L.hb t sb m')::(rb,73,c)::E) D Q) :
  Calls Tryz.prog 45 #[.pointer (some ⟨mb,0,none⟩)] w λe w'=>e=.returned (.agg #[.int .i64 r0,.int .i64 r1,.int .i64 r2,.int .u64 r3,.bool b4,.bool b5,.bool b6,.bool b7,.slice A8 n8 c8])/\HM W w' L X h2 x2 s k ((mb,127,muV L.hb t sb m')::E) D Q:=by
 have hmb:=H.blk (C0 ..);have hlt:=hmb.lt;have hltE:∀q,q∈E->q.1<w.heap.size:=λq hq=>(H.blk (b:=q.1) (t:=q.2.1) (cs:=q.2.2) (CZ _ hq)).lt;have hrm:w.heap.size≠mb:=by omega
 have hrE:∀q,q∈E->q.1≠w.heap.size:=λq hq=>by have:=hltE q hq;omega
 have hneR:∀cs:Array Value,∀q,q∈((w.heap.size,73,cs)::E:aK)->q.1≠mb:=λcs q hq=>by
  rcases C1.1 hq with rfl|hq
  ·exact hrm
  ·exact hne q hq
 have HX:Hid (HM W (w.alloc (.cells #[.int .i64 0,.int .i64 0,.int .i64 0,.int .u64 0,.bool false,.bool false,.bool false,.bool false,.slice none 0 0] 73)) L X h x s k ((w.heap.size,73,#[.int .i64 0,.int .i64 0,.int .i64 0,.int .u64 0,.bool false,.bool false,.bool false,.bool false,.slice none 0 0])::(mb,127,muV L.hb t sb m)::E) D Q):=H.alloc hS 73 #[.int .i64 0,.int .i64 0,.int .i64 0,.int .u64 0,.bool false,.bool false,.bool false,.bool false,.slice none 0 0];have HEnd:Hid (∀w' a0 a1 a2 a3 a4 a5 a6 a7 a8 v0 v1 v2 v3 v4 v5 v6 v7 v8,HM W w' L X h2 x2 s k ((mb,127,muV L.hb t sb m')::(w.heap.size,73,#[a0,a1,a2,a3,a4,a5,a6,a7,a8])::E) D Q->HM W (cD w' w.heap.size v0 v1 v2 v3 v4 v5 v6 v7 v8) L X h2 x2 s k ((mb,127,muV L.hb t sb m')::E) D Q):=λw' a0 a1 a2 a3 a4 a5 a6 a7 a8 v0 v1 v2 v3 v4 v5 v6 v7 v8 q=>
  q.swap.cS hS hT (λy hy=>by
   rcases C1.1 hy with rfl|hy
   ·exact λe=>hrm e.symm
   ·exact hrE y hy) v0 v1 v2 v3 v4 v5 v6 v7 v8
 have HC:=aa (hcall _ _ _ hrm hrE HX.out.swap);obtain⟨c0,c1,c2,c3,c4,c5,c6,c7,c8,c9,c10⟩:=aJ hmb;rw[hk]at c4;clear H hmb hltE HX hne hneR hrm hrE hk hcall;go_enter Tryz.func45,Tryz.ntmps45
 go_wp2_with fail
 refine HC.out.mono ?_;rintro e w5 ⟨rfl,hA⟩;clear c0 c1 c2 c3 c4 c5 c6 c7 c8 c9 c10 HC;have HA5:=aa hA;have hrb:=hA.blk (CZ _ (C0 ..));have y0:=hrb.cell 0;have y1:=hrb.cell 1;have y2:=hrb.cell 2;have y3:=hrb.cell 3;have y4:=hrb.cell 4;have y5:=hrb.cell 5;have y6:=hrb.cell 6;have y7:=hrb.cell 7;have y8:=hrb.cell 8;have z0:=hrb.frozen 0;have z1:=hrb.frozen 1;have z2:=hrb.frozen 2;have z3:=hrb.frozen 3;have z4:=hrb.frozen 4;have z5:=hrb.frozen 5;have z6:=hrb.frozen 6;have z7:=hrb.frozen 7;have z8:=hrb.frozen 8;have NR:=hrb.lt;clear hA hrb;go_wp2_with fail
 refine bodyPost_ret (v:=.agg #[.int .i64 r0,.int .i64 r1,.int .i64 r2,.int .u64 r3,.bool b4,.bool b5,.bool b6,.bool b7,.slice A8 n8 c8]) (by simp[results,Tryz.results45,go_sem, *]) rfl ⟨rfl,?_⟩;exact HEnd.out _ _ _ _ _ _ _ _ _ _ _ _ _ _ _ _ _ _ _ HA5.out
theorem mq(hS:ah D Q)(hT:Tab W)(H:HM W w L X h x s k ((mb,127,muV L.hb t sb m)::E) D Q)(hne:∀q,q∈E->q.1≠mb)(hk:¬ (1<=m.k/\m.k<=5))(hd:(m.dn:Int)+1<=9223372036854775807){y:An}
  (hcall:∀w' E',(∀q,q∈E'->q.1≠mb)->HM W w' L X h x s k ((mb,127,muV L.hb t sb m)::E') D Q->Calls Tryz.prog 84 #[.pointer (some ⟨mb,0,none⟩)] w' λe w''=>e=.returned (gt 0 0 y)/\HM W w'' L X h2 x2 s k ((mb,127,muV L.hb t sb m)::E') D Q) :
  Calls Tryz.prog 45 #[.pointer (some ⟨mb,0,none⟩)] w λe w'=>e=.returned (bm (t:Int) (m.dn:Int) y true false false (.slice none 0 0))/\HM W w' L X h2 x2 s k ((mb,127,muV L.hb t sb (MU.zero (m.dn+1)))::E) D Q:=by
 have hmb:=H.blk (C0 ..);have hlt:=hmb.lt;have hltE:∀q,q∈E->q.1<w.heap.size:=λq hq=>(H.blk (b:=q.1) (t:=q.2.1) (cs:=q.2.2) (CZ _ hq)).lt;have hrm:w.heap.size≠mb:=by omega
 have hrE:∀q,q∈E->q.1≠w.heap.size:=λq hq=>by have:=hltE q hq;omega
 have hneR:∀cs:Array Value,∀q,q∈((w.heap.size,73,cs)::E:aK)->q.1≠mb:=λcs q hq=>by
  rcases C1.1 hq with rfl|hq
  ·exact hrm
  ·exact hne q hq
 have HX:Hid (HM W (w.alloc (.cells #[.int .i64 0,.int .i64 0,.int .i64 0,.int .u64 0,.bool false,.bool false,.bool false,.bool false,.slice none 0 0] 73)) L X h x s k ((w.heap.size,73,#[.int .i64 0,.int .i64 0,.int .i64 0,.int .u64 0,.bool false,.bool false,.bool false,.bool false,.slice none 0 0])::(mb,127,muV L.hb t sb m)::E) D Q):=H.alloc hS 73 #[.int .i64 0,.int .i64 0,.int .i64 0,.int .u64 0,.bool false,.bool false,.bool false,.bool false,.slice none 0 0];have HEnd:Hid (∀w' a0 a1 a2 a3 a4 a5 a6 a7 a8 v0 v1 v2 v3 v4 v5 v6 v7 v8,HM W w' L X h2 x2 s k ((mb,127,muV L.hb t sb (MU.zero (m.dn+1)))::(w.heap.size,73,#[a0,a1,a2,a3,a4,a5,a6,a7,a8])::E) D Q->HM W (cD w' w.heap.size v0 v1 v2 v3 v4 v5 v6 v7 v8) L X h2 x2 s k ((mb,127,muV L.hb t sb (MU.zero (m.dn+1)))::E) D Q):=λw' a0 a1 a2 a3 a4 a5 a6 a7 a8 v0 v1 v2 v3 v4 v5 v6 v7 v8 q=>
  q.swap.cS hS hT (λy hy=>by
   rcases C1.1 hy with rfl|hy
   ·exact λe=>hrm e.symm
   ·exact hrE y hy) v0 v1 v2 v3 v4 v5 v6 v7 v8
 have HC:=aa (hcall _ _ (hneR _) HX.out.swap);have HAn:Hid (∀w',HM W w' L X h2 x2 s k ((mb,127,muV L.hb t sb m)::(w.heap.size,73,#[.int .i64 0,.int .i64 0,.int .i64 0,.int .u64 0,.bool false,.bool false,.bool false,.bool false,.slice none 0 0])::E) D Q->Calls Tryz.prog 52 #[.pointer (some ⟨mb,0,none⟩),gt 0 0 y] w' λe w''=>e=.returned (.agg #[.int .i64 (t:Int),.int .i64 (m.dn:Int),.int .i64 y.code,.int .u64 y.word,.bool y.bit,.bool true,.bool false,.bool false,.slice none 0 0])/\HM W w'' L X h2 x2 s k ((mb,127,muV L.hb t sb (MU.zero (m.dn+1)))::(w.heap.size,73,#[.int .i64 0,.int .i64 0,.int .i64 0,.int .u64 0,.bool false,.bool false,.bool false,.bool false,.slice none 0 0])::E) D Q):=λw' q=>HM.answer hS hT q (hneR _) hd 0 0 y;obtain⟨c0,c1,c2,c3,c4,c5,c6,c7,c8,c9,c10⟩:=aJ hmb;have k1:(m.k==1)=false:=by simp;omega
 have k2:(m.k==2)=false:=by simp;omega
 have k3:(m.k==3)=false:=by simp;omega
 have k4:(m.k==4)=false:=by simp;omega
 have k5:(m.k==5)=false:=by simp;omega
 unfold bm;unfold gt at HC HAn;clear H hmb hltE HX hne hneR hrm hrE hk hcall hd;generalize m.k=kk at *;go_enter Tryz.func45,Tryz.ntmps45
 go_wp2_with fail
 refine HC.out.mono ?_;rintro e w4 ⟨rfl,hA⟩;have HA4:=aa (HAn.out _ hA);clear hA c0 c1 c2 c3 c4 c5 c6 c7 c8 c9 c10 HC;go_wp2_with fail
 refine HA4.out.mono ?_;rintro e w5 ⟨rfl,hA⟩;have HA5:=aa hA;have hrb:=hA.blk (CZ _ (C0 ..));have y0:=hrb.cell 0;have y1:=hrb.cell 1;have y2:=hrb.cell 2;have y3:=hrb.cell 3;have y4:=hrb.cell 4;have y5:=hrb.cell 5;have y6:=hrb.cell 6;have y7:=hrb.cell 7;have y8:=hrb.cell 8;have z0:=hrb.frozen 0;have z1:=hrb.frozen 1;have z2:=hrb.frozen 2;have z3:=hrb.frozen 3;have z4:=hrb.frozen 4;have z5:=hrb.frozen 5;have z6:=hrb.frozen 6;have z7:=hrb.frozen 7;have z8:=hrb.frozen 8;have NR:=hrb.lt;clear hA hrb;go_wp2_with fail
 refine bodyPost_ret (v:=.agg #[.int .i64 (t:Int),.int .i64 (m.dn:Int),.int .i64 y.code,.int .u64 y.word,.bool y.bit,.bool true,.bool false,.bool false,.slice none 0 0]) (by simp[results,Tryz.results45,go_sem, *]) rfl ⟨rfl,?_⟩;exact HEnd.out _ _ _ _ _ _ _ _ _ _ _ _ _ _ _ _ _ _ _ HA5.out
end
end Go.Proofs.YtimlkjppaalfaaaGreatDoor
