/- Several texts joined (pack.py): Zo Yx Yr Yy No Zp Gpo. -/
import Derived.Test.YtimlkjppaalfaaaGreatDoorPW34
import Derived.Test.YtimlkjppaalfaaaGreatDoorPW26
import Derived.Test.YtimlkjppaalfaaaGreatDoorPW08
import Derived.Test.YtimlkjppaalfaaaGreatDoorPW27
import Derived.Test.YtimlkjppaalfaaaGreatDoorPW11
import Derived.Test.YtimlkjppaalfaaaGreatDoorPW21
import Derived.Test.YtimlkjppaalfaaaGreatDoorPW15
import Derived.Test.YtimlkjppaalfaaaGreatDoorPW03
set_option linter.unusedVariables false
set_option linter.unusedSimpArgs false
set_option maxRecDepth 100000
open List renaming mem_cons_of_mem->CZ,mem_cons_self->C0,mem_cons->C1
open Int renaming eq_ofNat_of_zero_le->Da,toNat_natCast->Db
open Nat renaming le_refl->Dd,lt_or_ge->Dg
namespace Go.Proofs.YtimlkjppaalfaaaGreatDoor
open Go.RowKit Go.Gl HS
structure WI(B:Nat)(h:HS)(x:HT)(V:WS)(σ:GS)(A:Nat->Nat)(rv:Nat->Option (Nat×Nat))(M T:Nat):Prop where
 sim:Sim h σ A rv
 gk:GOk T B σ
 eT:h.T=T
 ph:∀i,i<T->Phase h.n M σ A rv i (V.mu i)
 q:QOk h.T x.qm x.qc x.ql
 op:∀i,i<T->(V.mu i).st≠0->(V.mu i).st≠6->dH (V.mu i).op/\0<=(V.mu i).op.v/\(V.mu i).op.v<18446744073709551616
 B64:B<=64
 M1:h.g.max=(M:Int)
 M2:M<=1048576
section
variable {B:Nat}{h h':HS}{x x':HT}{V:WS}{σ σ':GS}{A A':Nat->Nat}{rv rv':Nat->Option (Nat×Nat)}{M T t:Nat}{m':MU}{OV':Nat->Value}
theorem WI.next(I:WI B h x V σ A rv M T)(S:Sim h' σ' A' rv')(gk:GOk T B σ')(eT:h'.T=h.T)(en:h'.n=h.n)(eg:h'.g=h.g)(p:Phase h'.n M σ' A' rv' t m')(l:dR σ σ' t)(hr:∀i,i≠t->rv' i=rv i)(hA:∀o,o<=σ.N->A' o=A o)
  (hq:QOk h'.T x'.qm x'.qc x'.ql) (ho:m'.st≠0->m'.st≠6->dH m'.op/\0<=m'.op.v/\m'.op.v<18446744073709551616):WI B h' x' { V with mu:=ai V.mu t m',OV:=OV' } σ' A' rv' M T:=by
 refine⟨S,gk,eT.trans I.eT,λi hi=>?_,hq,λi hi=>?_,I.B64,by rw[eg];exact I.M1,I.M2⟩
 ·show Phase h'.n M σ' A' rv' i (ai V.mu t m' i);by_cases e:i=t
  ·subst e;rw[aq];exact p
  ·rw[az _ _ e,en];exact(I.ph i hi).later l e hA (hr i e)
 ·show(ai V.mu t m' i).st≠0->_;by_cases e:i=t
  ·subst e;show(ai V.mu i m' i).st≠0->(ai V.mu i m' i).st≠6->dH (ai V.mu i m' i).op/\0<=(ai V.mu i m' i).op.v/\(ai V.mu i m' i).op.v<18446744073709551616;rw[aq];exact ho
  ·show(ai V.mu t m' i).st≠0->(ai V.mu t m' i).st≠6->dH (ai V.mu t m' i).op/\0<=(ai V.mu t m' i).op.v/\(ai V.mu t m' i).op.v<18446744073709551616;rw[az _ _ e];exact I.op i hi
end
section
variable {W w w':World}{L:HL}{X:HX}{h:HS}{x:HT}{s k:Nat}{E:aK}{D D0:Nat->Prop}{Q Q0:World->Prop}{Λ:WL}{g t:Nat}{V:WS}{σ:GS}{A:Nat->Nat}{rv:Nat->Option (Nat×Nat)}{M T:Nat}
structure nL(h h':HS)(σ:GS)(A A':Nat->Nat)(rv rv':Nat->Option (Nat×Nat))(t:Nat):Prop where
 T:h'.T=h.T
 n:h'.n=h.n
 g:h'.g=h.g
 W:h'.W=h.W
 R:h'.R=h.R
 s:∀q,h.s q≠0->h'.s q=h.s q
 rv:∀i,i≠t->rv' i=rv i
 A:∀o,o<=σ.N->A' o=A o
theorem nL.refl(h:HS)(σ:GS)(A:Nat->Nat)(rv:Nat->Option (Nat×Nat))(t:Nat):nL h h σ A A rv rv t:=⟨rfl,rfl,rfl,rfl,rfl,λ_ _=>rfl,λ_ _=>rfl,λ_ _=>rfl⟩
def AN(x x':HT)(h:HS)(t c:Nat)(l:List Int):Prop:=
 ∃(wc:Bool) (er:Int) (C':List Nat),Turned x.C (h.R*x.per) (c:Int) true wc er C' /\
  ((wc=false/\x'={ x with C:=C' }/\l=[])\/(wc=true/\x'={ x with C:=C',qc:=eP x.qm x.qc x.ql t (c:Int),ql:=eU x.ql t (c:Int) }/\l=cP x.qm x.qc x.ql t (c:Int)))
def AO(W:World)(L:HL)(X:HX)(h:HS)(x:HT)(s k:Nat)(E:aK)(A0:Option Addr)(n0 c0:Nat)(G:List Nat)(xs:List Value)(D0:Nat->Prop)(Q0:World->Prop)(Λ:WL)(g t M T:Nat)(V:WS)(σ:GS)(A:Nat->Nat)(rv:Nat->Option (Nat×Nat))(e:Ending)(w':World):Prop:=
 ∃(X':HX) (h':HS) (x':HT) (A1:Option Addr) (n1 c1:Nat) (G1:List Nat) (xs1:List Value) (OV':Nat->Value) (m':MU) (σ':GS) (A':Nat->Nat) (rv':Nat->Option (Nat×Nat)),
  HM W w' L X' h' x' s k (wE Λ L.hb g T { V with mu:=ai V.mu t m',OV:=OV' }++E) (λb=>b∈G1\/D0 b) (λw=>Lr w 154 A1 n1 c1 G1 xs1/\Q0 w)/\(∀g,g∈G1->¬ D0 g) /\
  WI L.B h' x' { V with mu:=ai V.mu t m',OV:=OV' } σ' A' rv' M T/\nL h h' σ A A' rv rv' t /\
  ((e=.returned (bm 0 0 An.zero false true false (.slice none 0 0))/\σ'=σ/\m'.dn=(V.mu t).dn/\m'.op=(V.mu t).op/\OV'=V.OV/\xs1=xs/\A1=A0/\n1=n0/\c1=c0/\(m'.st=3\/m'.st=5\/(m'.st=4/\(V.mu t).st=3))/\rkM m'.st<rkM (V.mu t).st/\dr x x'/\h'.f=h.f/\((V.mu t).st=3->∃I:Nat,(V.mu t).ad=(I:Int)/\h.f I=0)) \/
  (e=.returned (bm 0 0 An.zero false true true (.slice none 0 0))/\σ'=σ/\m'.dn=(V.mu t).dn/\m'.op=(V.mu t).op/\OV'=V.OV/\xs1=xs/\A1=A0/\n1=n0/\c1=c0/\m'.st=2/\dr x x'/\(V.mu t).k=1/\(V.mu t).st≠6) \/
  (∃b:Bool,e=.returned (bm (t:Int) ((V.mu t).dn:Int) (bq L.B M T σ t (V.mu t).op) true b false (.slice none 0 0))/\σ'=aM L.B M T σ t (V.mu t).op/\m'.dn=(V.mu t).dn+1/\OV'=V.OV/\xs1=xs/\A1=A0/\n1=n0/\c1=c0/\(b=true/\m'.st=6\/b=false/\m'.st=0)/\dr x x'/\(V.mu t).st≠6 /\
    gf h' σ A t (V.mu t).op b m'.ad/\((V.mu t).st=1->(V.mu t).k=3->bh σ t (V.mu t).op.a (V.mu t).op.b (V.mu t).op.c≠0)/\((V.mu t).st=3->(V.mu t).k=3->V.mg=true->∃I:Nat,(V.mu t).ad=(I:Int)/\h.f I=0)) \/
  ((V.mu t).st=6/\h'=h/\A'=A/\σ'=σ/\m'=MU.zero (V.mu t).dn/\OV'=V.OV/\xs1=xs/\A1=A0/\n1=n0/\c1=c0/\∃(I c:Nat) (A:Option Addr) (n:Nat) (G:List Nat) (l:List Int),(V.mu t).ad=(I:Int)/\I<h.n/\h.g.aV (I:Int)=(c:Int)/\AN x x' h t c l/\e=.returned (bm 0 0 An.zero false false false (.slice A (List.length l) n))/\Lr w' 3 A (List.length l) n G (zv l)) \/
  (V.mg=true/\e=.returned (bm 0 0 An.zero false true false (.slice none 0 0))/\h'=h/\x'=x/\A'=A/\σ'=σ/\(V.mu t).st=3/\(V.mu t).k=3/\m'.st=4/\m'.dn=(V.mu t).dn/\m'.op=(V.mu t).op/\∃I:Nat,(V.mu t).ad=(I:Int)/\h.f I≠0/\xs1=xs++[.int .u64 (h.f I:Int)]/\n1=n0+1/\OV'=bC V.OV t (.slice A1 (n0+1) c1)))
theorem jL(w:World)(e:TypeId):Lr w e none 0 0 [] []:=wN _ _ _
theorem tf(hS:ah D0 Q0)(hT:Tab W){A0:Option Addr}{n0 c0:Nat}{G:List Nat}{xs:List Value}(H:HM W w L X h x s k (wE Λ L.hb g T V++E) (λb=>b∈G\/D0 b) (λw=>Lr w 154 A0 n0 c0 G xs/\Q0 w))(hE:∀q,q∈E->q.2.1≠127/\q.2.1≠128)(hGD:∀g,g∈G->¬ D0 g)(hn0:n0<=1048576)
  (I:WI L.B h x V σ A rv M T) (hc:Can M σ) (ht:t<T) (hst:(V.mu t).st≠0) (hO:V.OV t=.slice A0 n0 c0) (hd:((V.mu t).dn:Int)+1<=9223372036854775807) :
  Calls Tryz.prog 19 #[.pointer (some ⟨Λ.P t,0,none⟩)] w (AO W L X h x s k E A0 n0 c0 G xs D0 Q0 Λ g t M T V σ A rv):=by
 have hS1:=hS.row 154 A0 n0 c0 G xs;have H1:=H.lU ht;obtain⟨f1,f2⟩:=H1.BJ hE;have eT:=I.eT;subst eT;have hms:(Λ.sb,61,#[.bool V.mg,.slice (some ⟨Λ.ob,0,none⟩) h.T h.T])∈wR Λ L.hb g h.T t V++E:=by simp[wR,w4E]
 refine(yo hS hT H1 f1 f2 hms hO hGD hn0 (I.ph t ht) hst hd (λh6=>(I.op t ht hst h6).2) I.sim I.gk rfl ht (λh6=>(I.op t ht hst h6).1) I.B64 I.M1 I.M2 I.q).mono ?_;rintro e w' (⟨h6,hlg,p⟩|⟨p1,p2,i,c,had,hI,hcc,p⟩|⟨p1,p2,p3,p4,q,i,l,had,hI,hz,p⟩)
 ·obtain⟨h',x',σ',A',rv',m',hA,S,P,hsq,e1,e2,e3,e4,e5,e6,e7,e8,e9⟩:=p;have hxq:QOk h'.T x'.qm x'.qc x'.ql:=by rw[e1,hsq.1,hsq.2.1,hsq.2.2.1];exact I.q
  have hst':nL h h' σ A A' rv rv' t:=⟨e1,e2,e3,e4,e5,e6,e7,e8⟩;rcases e9 with⟨rfl,rfl,k1,k2,k3,k4,k5,k6⟩|⟨rfl,rfl,k1,k2,k3,k4⟩|⟨b,rfl,rfl,k1,k2,k3,k4⟩
  ·exact⟨X,h',x',A0,n0,c0,G,xs,V.OV,m',_,A',rv',hA.kw,hGD,I.next S I.gk e1 e2 e3 P (.refl _ _) e7 e8 hxq (λ_ _=>by rw[k2];exact I.op t ht hst h6),hst',.inl ⟨rfl,rfl,k1,k2,rfl,rfl,rfl,rfl,rfl,k3,k4,hsq,k5,k6⟩⟩
  ·exact⟨X,h',x',A0,n0,c0,G,xs,V.OV,m',_,A',rv',hA.kw,hGD,I.next S I.gk e1 e2 e3 P (.refl _ _) e7 e8 hxq (λ_ _=>by rw[k2];exact I.op t ht hst h6),hst',.inr (.inl ⟨rfl,rfl,k1,k2,rfl,rfl,rfl,rfl,rfl,k3,hsq,k4,h6⟩)⟩
  ·exact⟨X,h',x',A0,n0,c0,G,xs,V.OV,m',_,A',rv',hA.kw,hGD,I.next S (I.gk.act hc t _) e1 e2 e3 P (.act _ _ _ _ _ _) e7 e8 hxq (λq0 q6=>by rcases k2 with⟨_,k⟩|⟨_,k⟩ <;> exact absurd k (by assumption)),hst',.inr (.inr (.inl ⟨b,rfl,rfl,k1,rfl,rfl,rfl,rfl,rfl,k2,hsq,h6,k3,k4,hlg⟩))⟩
 ·obtain⟨wc,er,C',hTu,⟨rfl,rfl,hA⟩|⟨rfl,F',A1,n,G1,rfl,hA,hL⟩⟩:=p
  ·exact⟨X,h,_,A0,n0,c0,G,xs,V.OV,MU.zero (V.mu t).dn,σ,A,rv,hA.kw,hGD,I.next (x':={ x with C:=C' }) I.sim I.gk rfl rfl rfl (.inl ⟨rfl,p2⟩) (.refl _ _) (λ_ _=>rfl) (λ_ _=>rfl) I.q (λq0 _=>absurd rfl q0),.refl _ _ _ _ _,.inr (.inr (.inr (.inl ⟨p1,rfl,rfl,rfl,rfl,rfl,rfl,rfl,rfl,rfl,i,c,none,0,[],[],had,hI,hcc,⟨_,er,C',hTu,.inl ⟨rfl,rfl,rfl⟩⟩,rfl,jL _ _⟩)))⟩
  ·exact⟨_,h,_,A0,n0,c0,G,xs,V.OV,MU.zero (V.mu t).dn,σ,A,rv,hA.kw,hGD,I.next (x':={ x with C:=C',qc:=eP x.qm x.qc x.ql t (c:Int),ql:=eU x.ql t (c:Int) }) I.sim I.gk rfl rfl rfl (.inl ⟨rfl,p2⟩) (.refl _ _) (λ_ _=>rfl) (λ_ _=>rfl) (I.q.push ht _) (λq0 _=>absurd rfl q0),.refl _ _ _ _ _,.inr (.inr (.inr (.inl ⟨p1,rfl,rfl,rfl,rfl,rfl,rfl,rfl,rfl,rfl,i,c,A1,n,G1,_,had,hI,hcc,⟨_,er,C',hTu,.inr ⟨rfl,rfl,rfl⟩⟩,rfl,hL⟩)))⟩
 ·obtain⟨A',c',G',rfl,hA,hG⟩:=p;exact⟨X,h,x,A',n0+1,c',G',_,_,_,σ,A,rv,hA.kw,hG,I.next I.sim I.gk rfl rfl rfl (.inr (.inr (.inr (.inr (.inr (.inr ⟨rfl,p3,p4,q,i,l,hI,rfl⟩)))))) (.refl _ _) (λ_ _=>rfl) (λ_ _=>rfl) I.q (λ_ _=>I.op t ht hst (by omega)),.refl _ _ _ _ _,.inr (.inr (.inr (.inr ⟨p1,rfl,rfl,rfl,rfl,rfl,p2,p3,rfl,rfl,rfl,i,had,hz,rfl,rfl,rfl⟩)))⟩
end
def eD(x:HT)(T:Nat):List Int:=x.qc++bi x.ql T
structure eF(h:HS)(x:HT)(V:WS)(σ:GS)(A:Nat->Nat)(dl:List Int)(T:Nat):Prop where
 ref:∀o j:Nat,1<=o->o<=σ.N->j<σ.np (o:Int)->cC h.g (h.aN (h.g.av ((A o+1+j:Nat):Int))) ((A o+1+j:Nat):Int) (bB A (σ.ref (o:Int) (j:Int)))=true ->
  (∃c:Nat,h.g.aV ((A o+1+j:Nat):Int)=(c:Int)/\c<h.R*x.per/\bH x.C c=true)\/∃i,i<T/\(V.mu i).st=6/\(V.mu i).ad=((A o+1+j:Nat):Int)
 nd:∀z,(eD x T++dl).count z<=1
 dw:∀c:Nat,c<h.R*x.per->(bH x.C c=true↔(c:Int)∈eD x T++dl)
 rg:∀z,z∈eD x T++dl->0<=z/\z<((h.R*x.per:Nat):Int)
section
variable {h h':HS}{x x':HT}{V V':WS}{σ σ':GS}{A A':Nat->Nat}{rv rv':Nat->Option (Nat×Nat)}{dl l:List Int}{B M T t:Nat}
theorem tj(e:dr x x'):eD x' T=eD x T:=by
 unfold eD;rw[e.2.1,e.2.2.1]
theorem j9(O:Nat->List Int)(t:Nat)(l:List Int)(z:Int):∀n,(t<n->(bi (bC O t l) n).count z+(O t).count z=(bi O n).count z+l.count z)/\(n<=t->(bi (bC O t l) n).count z=(bi O n).count z)
|0=>⟨λh=>by omega,λ_=>rfl⟩
|n+1=>by
  obtain⟨h1,h2⟩:=j9 O t l z n;constructor
  ·intro h;simp only[bi,List.count_append];by_cases e:n=t
   ·subst e;rw[h2 (Dd _),show bC O n l n=l by unfold bC;rw[if_pos rfl]];omega
   ·have:=h1 (by omega);rw[show bC O t l n=O n by unfold bC;rw[if_neg e]];omega
  ·intro h;simp only[bi,List.count_append];rw[h2 (by omega),show bC O t l n=O n by unfold bC;rw[if_neg (by omega)]]
theorem tk(Bq:Nat)(C:List Int)(O:Nat->List Int){t n:Nat}(ht:t<n)(c z:Int):(eP Bq C O t c++bi (eU O t c) n++cP Bq C O t c).count z=(C++bi O n).count z+[c].count z:=by
 unfold eP eU cP;by_cases h3:(O t).length<3
 ·rw[if_pos h3,if_pos h3,if_pos h3];have:=(j9 O t (O t++[c]) z n).1 ht;simp only[List.count_append,List.count_nil]at this ⊢;omega
 ·rw[if_neg h3,if_neg h3,if_neg h3];have h1:=(j9 O t [] z n).1 ht;have h2:((O t++[c]).take (Bq-C.length)).count z+((O t++[c]).drop (Bq-C.length)).count z=(O t++[c]).count z:=by
   rw[<- List.count_append,List.take_append_drop]
  simp only[List.count_append,List.count_nil]at h1 h2 ⊢;omega
theorem Sim.yq(S:Sim h σ A rv){s k:Nat}(ok:h.Ok s k)(st:nL h h' σ A A' rv rv' t){o u:Nat}(h1:1<=o)(h2:o<=σ.N)(h3:A o<=u)(h4:u<A o+osz σ o):h'.aN (h'.g.av (u:Int))=h.aN (h.g.av (u:Int)):=by
 have hu:=S.use o h1 h2 u h3 h4;have hW:=ok.ik;have hR:u / h.W<h.R:=by
  rw[Nat.div_lt_iff_lt_mul (by omega),<- ok.nn];exact hu.1
 obtain⟨d1,d2⟩:=ff (W:=h.W) (u:=u) (by omega);have er:=ok.reg (a:=(u:Int)) hR (by omega) (by omega);rw[st.g,er];unfold HS.aN;rw[st.R,Db];split
 ·exact st.s _ hu.2.1
 ·rfl
theorem vH(g:Geo)(s f:Int)(hw:g.words<=4194304):cC g s f 0=false:=zC hw (by decide) (by decide) (.inl rfl)
theorem eF.step(N:eF h x V σ A dl T)(S:Sim h σ A rv){s k:Nat}(ok:h.Ok s k)(st:nL h h' σ A A' rv rv' t)(e:dr x x')(hmu:∀i,i≠t->V'.mu i=V.mu i)(h6:(V.mu t).st≠6)(gk:GOk T B σ)
  (hr:∀o j:Nat,1<=o->o<=σ'.N->j<σ'.np (o:Int)->(o<=σ.N/\j<σ.np (o:Int)/\σ'.ref (o:Int) (j:Int)=σ.ref (o:Int) (j:Int))\/σ'.ref (o:Int) (j:Int)=0 \/
   (o<=σ.N/\j<σ.np (o:Int)/\0<=σ'.ref (o:Int) (j:Int)/\σ'.ref (o:Int) (j:Int)<=(σ.N:Int)/\(cC h'.g (h'.aN (h'.g.av ((A o+1+j:Nat):Int))) ((A o+1+j:Nat):Int) (bB A (σ'.ref (o:Int) (j:Int)))=true->(V'.mu t).st=6/\(V'.mu t).ad=((A o+1+j:Nat):Int)/\t<T))):eF h' x' V' σ' A' dl T:=by
 have hw:=tj (T:=T) e;have hRp:h'.R*x'.per=h.R*x.per:=by rw[st.R,e.2.2.2.2.1]
 have eC:x'.C=x.C:=e.2.2.2.1;have rA:∀r:Int,0<=r->r<=(σ.N:Int)->bB A' r=bB A r:=λr r0 r1=>by
  unfold bB;rw[st.A r.toNat (by omega)]
 refine⟨λo j h1 h2 hj hn=>?_,by rw[hw];exact N.nd,by rw[hw,hRp,eC];exact N.dw,by rw[hw,hRp];exact N.rg⟩;rcases hr o j h1 h2 hj with⟨k1,k2,k3⟩|k1|⟨k1,k2,k3,k4,k5⟩
 ·rw[st.A o k1]at hn ⊢;rw[k3,rA _ (gk.ref _ _).1 (gk.ref _ _).2,S.yq ok st h1 k1 (by omega) (by unfold osz;omega),st.g]at hn;rcases N.ref o j h1 k1 k2 hn with⟨c,c1,c2,c3⟩|⟨i,i1,i2,i3⟩
  ·exact .inl ⟨c,by rw[st.g];exact c1,by rw[hRp];exact c2,by rw[eC];exact c3⟩
  ·have hit:i≠t:=λe=>h6 (e ▸ i2);exact .inr ⟨i,i1,by rw[hmu i hit];exact i2,by rw[hmu i hit];exact i3⟩
 ·rw[k1,cg,vH _ _ _ (by rw[st.g];exact ok.geo.nU)]at hn;cases hn
 ·rw[st.A o k1]at hn ⊢;rw[rA _ k3 k4]at hn;obtain⟨k6,k7,k8⟩:=k5 hn;exact .inr ⟨t,k8,k6,k7⟩
theorem yr(gk:GOk T B σ){o:Po}{h:HS}{A:Nat->Nat}{b:Bool}{ad:Int}(hN:gf h σ A t o b ad):∀q j:Nat,1<=q->q<=(aM B M T σ t o).N->j<(aM B M T σ t o).np (q:Int) ->
  (q<=σ.N/\j<σ.np (q:Int)/\(aM B M T σ t o).ref (q:Int) (j:Int)=σ.ref (q:Int) (j:Int))\/(aM B M T σ t o).ref (q:Int) (j:Int)=0 \/
  (q<=σ.N/\j<σ.np (q:Int)/\0<=(aM B M T σ t o).ref (q:Int) (j:Int)/\(aM B M T σ t o).ref (q:Int) (j:Int)<=(σ.N:Int) /\
   (cC h.g (h.aN (h.g.av ((A q+1+j:Nat):Int))) ((A q+1+j:Nat):Int) (bB A ((aM B M T σ t o).ref (q:Int) (j:Int)))=true->b=true/\ad=((A q+1+j:Nat):Int))):=by
 intro q j h1 h2 hj;by_cases k3:o.k=3
 ·have e:aM B M T σ t o=bU σ t o.a o.b o.c:=by unfold aM;rw[if_neg (by omega),if_neg (by omega),if_pos k3]
  rw[e]at h2 hj ⊢;unfold bU at h2 hj ⊢;by_cases eE:bh σ t o.a o.b o.c=0
  ·rw[if_pos eE]at h2 hj ⊢;have h2:q<=σ.N:=h2;have hj:j<σ.np (q:Int):=hj;obtain⟨p,i,e1,e2,e3,e4,e5,e6⟩:=hN k3 eE;rw[e1,e2];by_cases hq:q=p
   ·by_cases hji:j=i
    ·have er:(σ.setRef (p:Int) (i:Int) (aj (σ.st t) o.c)).ref (q:Int) (j:Int)=aj (σ.st t) o.c:=by
      show ai σ.ref (p:Int) (ai (σ.ref (p:Int)) (i:Int) _) (q:Int) (j:Int)=_;rw[hq,aq,hji,aq]
     rw[er];have hm:0<=aj (σ.st t) o.c/\aj (σ.st t) o.c<=(σ.N:Int):=by
      unfold aj;split
      ·rename_i hin
       unfold aG at hin;have hl:o.c.toNat<(σ.st t).length:=by omega
       have:=gk.mem t _ (List.getElem_mem hl);simpa[hl] using this
      ·omega
     refine .inr (.inr ⟨h2,hj,hm.1,hm.2,λhn=>?_⟩);rw[hq,hji]at hn ⊢;exact e6 hn
    ·refine .inl ⟨h2,hj,?_⟩;show ai σ.ref (p:Int) (ai (σ.ref (p:Int)) (i:Int) _) (q:Int) (j:Int)=_;rw[hq,aq,az _ _ (by omega)]
   ·refine .inl ⟨h2,hj,?_⟩;show ai σ.ref (p:Int) (ai (σ.ref (p:Int)) (i:Int) _) (q:Int) (j:Int)=_;rw[az _ _ (by omega)]
  ·rw[if_neg eE]at h2 hj ⊢;exact .inl ⟨h2,hj,rfl⟩
 ·have same:(aM B M T σ t o).N=σ.N->(aM B M T σ t o).np=σ.np->(aM B M T σ t o).ref=σ.ref->(q<=σ.N/\j<σ.np (q:Int)/\(aM B M T σ t o).ref (q:Int) (j:Int)=σ.ref (q:Int) (j:Int)):=λe1 e2 e3=>by
   rw[e1]at h2;rw[e2]at hj;rw[e3];exact⟨h2,hj,rfl⟩
  by_cases k1:o.k=1
  ·have e:aM B M T σ t o=bZ B M σ t o.a o.b:=by unfold aM;rw[if_pos k1]
   rw[e]at h2 hj ⊢;unfold bZ at h2 hj ⊢;by_cases c1:aE M o.a o.b
   ·rw[if_pos c1]at h2 hj ⊢;exact .inl ⟨h2,hj,rfl⟩
   ·rw[if_neg c1]at h2 hj ⊢;by_cases c2:(σ.st t).length<B
    ·rw[if_pos c2]at h2 hj ⊢;have h2:q<=σ.N+1:=h2;have hj:j<ai σ.np ((σ.N:Int)+1) o.a.toNat (q:Int):=hj;show _\/ai σ.ref ((σ.N:Int)+1) (λ_=>0) (q:Int) (j:Int)=0\/_;by_cases eq:q=σ.N+1
     ·refine .inr (.inl ?_);rw[show(q:Int)=(σ.N:Int)+1 by omega,aq]
     ·rw[az _ _ (by omega)]at hj;refine .inl ⟨by omega,hj,?_⟩;show ai σ.ref ((σ.N:Int)+1) (λ_=>0) (q:Int) (j:Int)=_;rw[az _ _ (by omega)]
    ·rw[if_neg c2]at h2 hj ⊢;exact .inl ⟨h2,hj,rfl⟩
  ·refine .inl ?_;by_cases k2:o.k=2
   ·have e:aM B M T σ t o=dN B σ t o.a o.b:=by unfold aM;rw[if_neg k1,if_pos k2]
    by_cases c:aD σ t o.a=0/\aA (σ.np (aj (σ.st t) o.a)) o.b
    ·refine same ?_ ?_ ?_ <;> (rw[e];unfold dN;rw[if_pos c];try rfl)
    ·refine same ?_ ?_ ?_ <;> (rw[e];unfold dN;rw[if_neg c])
   by_cases k5:o.k=5
   ·have e:aM B M T σ t o=cp σ t o.a o.b o.v:=by unfold aM;rw[if_neg k1,if_neg k2,if_neg k3,if_pos k5]
    by_cases c:bI σ t o.a o.b=0
    ·refine same ?_ ?_ ?_ <;> (rw[e];unfold cp;rw[if_pos c];try rfl)
    ·refine same ?_ ?_ ?_ <;> (rw[e];unfold cp;rw[if_neg c])
   by_cases k6:o.k=6
   ·refine same ?_ ?_ ?_ <;> (unfold aM;rw[if_neg k1,if_neg k2,if_neg k3,if_neg k5,if_pos k6];try rfl)
   by_cases k7:o.k=7
   ·refine same ?_ ?_ ?_ <;> (unfold aM;rw[if_neg k1,if_neg k2,if_neg k3,if_neg k5,if_neg k6,if_pos k7];try rfl)
   by_cases k8:o.k=8
   ·have e:aM B M T σ t o=jc B σ t o.a:=by unfold aM;rw[if_neg k1,if_neg k2,if_neg k3,if_neg k5,if_neg k6,if_neg k7,if_pos k8]
    by_cases c:aG (σ.st t) o.a
    ·refine same ?_ ?_ ?_ <;> (rw[e];unfold jc;rw[if_pos c];try rfl)
    ·refine same ?_ ?_ ?_ <;> (rw[e];unfold jc;rw[if_neg c])
   by_cases k13:o.k=13
   ·have e:aM B M T σ t o=di B T σ t o.a o.b:=by unfold aM;rw[if_neg k1,if_neg k2,if_neg k3,if_neg k5,if_neg k6,if_neg k7,if_neg k8,if_pos k13]
    by_cases c:aG (σ.st t) o.a/\aA T o.b
    ·refine same ?_ ?_ ?_ <;> (rw[e];unfold di;rw[if_pos c];try rfl)
    ·refine same ?_ ?_ ?_ <;> (rw[e];unfold di;rw[if_neg c])
   ·refine same ?_ ?_ ?_ <;> (unfold aM;rw[if_neg k1,if_neg k2,if_neg k3,if_neg k5,if_neg k6,if_neg k7,if_neg k8,if_neg k13])
theorem eF.note(N:eF h x V σ A dl T){I c:Nat}(had:(V.mu t).ad=(I:Int))(hc:h.g.aV (I:Int)=(c:Int))(hcr:c<h.R*x.per)(ht:t<T)(hmu:∀i,i≠t->V'.mu i=V.mu i)(hx:AN x x' h t c l):eF h x' V' σ A (dl++l) T:=by
 obtain⟨wc,er,C',hT,hx⟩:=hx;obtain⟨t1,t2,t3,t4,t5⟩:0<=(c:Int)/\(c:Int)<((h.R*x.per:Nat):Int)/\er=0/\wc=(bH x.C (c:Int).toNat !=true)/\∀j:Nat,bH C' j=if j=(c:Int).toNat then true else bH x.C j:=by
  rcases hT with hT|⟨hT,_⟩
  ·exact hT
  ·exact absurd ⟨by omega,by omega⟩ hT
 rw[Db]at t4 t5;have up:∀j,bH x.C j=true->bH C' j=true:=λj hj=>by rw[t5];split <;> simp[hj]
 have refs:∀x2:HT,x2.C=C'->x2.per=x.per->∀o j:Nat,1<=o->o<=σ.N->j<σ.np (o:Int)->cC h.g (h.aN (h.g.av ((A o+1+j:Nat):Int))) ((A o+1+j:Nat):Int) (bB A (σ.ref (o:Int) (j:Int)))=true ->
   (∃c:Nat,h.g.aV ((A o+1+j:Nat):Int)=(c:Int)/\c<h.R*x2.per/\bH x2.C c=true)\/∃i,i<T/\(V'.mu i).st=6/\(V'.mu i).ad=((A o+1+j:Nat):Int):=λx2 e1 e2 o j h1 h2 hj hn=>by
  rw[e1,e2];rcases N.ref o j h1 h2 hj hn with⟨c,c1,c2,c3⟩|⟨i,i1,i2,i3⟩
  ·exact .inl ⟨c,c1,c2,up c c3⟩
  ·by_cases hit:i=t
   ·subst hit;rw[had]at i3;rw[<- i3];exact .inl ⟨c,hc,hcr,by rw[t5,if_pos rfl]⟩
   ·exact .inr ⟨i,i1,by rw[hmu i hit];exact i2,by rw[hmu i hit];exact i3⟩
 rcases hx with⟨rfl,rfl,rfl⟩|⟨rfl,rfl,rfl⟩
 ·have hb:bH x.C c=true:=by
   cases hw:bH x.C c with
  |true=>rfl
  |false=>rw[hw]at t4;exact absurd t4 (by decide)
  have hC:∀j,bH C' j=bH x.C j:=λj=>by
   rw[t5];split
   ·rename_i e;rw[e,hb]
   ·rfl
  rw[List.append_nil];exact⟨refs _ rfl rfl,N.nd,λj hj=>by show bH C' j=true↔_;rw[hC];exact N.dw j hj,N.rg⟩
 ·have hb:bH x.C c=false:=by
   cases hw:bH x.C c with
  |false=>rfl
  |true=>rw[hw]at t4;exact absurd t4 (by decide)
  have hnew:(c:Int)∉eD x T++dl:=λhm=>by
   have:=(N.dw c hcr).2 hm;rw[hb]at this;cases this
  have cnt:∀z:Int,(eD { x with C:=C',qc:=eP x.qm x.qc x.ql t (c:Int),ql:=eU x.ql t (c:Int) } T++(dl++cP x.qm x.qc x.ql t (c:Int))).count z=(eD x T++dl).count z+[(c:Int)].count z:=λz=>by
   have:=tk x.qm x.qc x.ql ht (c:Int) z;unfold eD;simp only[List.count_append]at this ⊢;omega
  have mem:∀z:Int,z∈eD { x with C:=C',qc:=eP x.qm x.qc x.ql t (c:Int),ql:=eU x.ql t (c:Int) } T++(dl++cP x.qm x.qc x.ql t (c:Int))↔z∈eD x T++dl\/z=(c:Int):=λz=>by
   rw[<- List.count_pos_iff,cnt,<- List.count_pos_iff];have hs:0<[(c:Int)].count z↔z=(c:Int):=by rw[List.count_pos_iff];simp
   omega
  refine⟨refs _ rfl rfl,λz=>?_,λj hj=>?_,λz hz=>?_⟩
  ·rw[cnt];have h1:=N.nd z;by_cases e:z=(c:Int)
   ·subst e;rw[List.count_eq_zero_of_not_mem hnew];simp
   ·have:[(c:Int)].count z=0:=List.count_eq_zero_of_not_mem (by simpa using e);omega
  ·show bH C' j=true↔_;rw[mem,t5];by_cases e:j=c
   ·subst e;simp
   ·rw[if_neg e];have:=N.dw j hj;rw[this];constructor
    ·exact .inl
    ·rintro(k|k)
     ·exact k
     ·exact absurd (by omega) e
  ·rcases(mem z).1 hz with k|rfl
   ·exact N.rg z k
   ·exact⟨t1,t2⟩
end
open Go.RowKit Go.Gl
def iu(σ:GS)(A:Nat->Nat)(Zs:List (Nat×Nat×Nat))(a z P:Nat):Prop:=(∃o,1<=o/\o<=σ.N/\a=A o/\z=osz σ o/\P=σ.np (o:Int))\/(a,z,P)∈Zs
section
variable {h:HS}{σ:GS}{A:Nat->Nat}{rv:Nat->Option (Nat×Nat)}{s k:Nat}{Zs:List (Nat×Nat×Nat)}{a z P b y Q r u:Nat}
theorem yt(hf:h.f a=aY z P)(hz:1<=z)(hzm:z<=1048576)(hp:P<z)(hin:a+z<=h.n):gz h a z P:=by
 have of:=nP (s:=z) (p:=P) ⟨hz,hzm⟩ hp;have hat:=kM (n:=h.n) (f:=h.f) (k:=a) (by omega);rw[hf,of]at hat;exact⟨by omega,by rw[hf,of];exact hat.1.symm,hat.2.trans rfl,by rw[hat.1];rfl,by rw[hat.1];rfl,by rw[hat.1];rfl,hz,hzm,hp,hin⟩
theorem Sim.lV(S:Sim h σ A rv)(m:iO h σ A rv Zs)(t:iu σ A Zs a z P):h.f a=aY z P/\P<z/\z<=1048576:=by
 rcases t with⟨o,h1,h2,rfl,rfl,rfl⟩|t
 ·exact⟨S.hdr o h1 h2,by unfold osz;omega,S.zm o h1 h2⟩
 ·obtain⟨k1,k2,k3,-⟩:=m.hdr a z P t;exact⟨k1,k2,k3⟩
theorem Sim.pe(S:Sim h σ A rv)(m:iO h σ A rv Zs)(t:iu σ A Zs a z P):∀u,a<=u->u<a+z->h.Used u:=by
 rcases t with⟨o,h1,h2,rfl,rfl,rfl⟩|t
 ·exact S.use o h1 h2
 ·exact m.use a z P t
theorem Sim.yu(S:Sim h σ A rv)(m:iO h σ A rv Zs)(t:iu σ A Zs a z P)(t':iu σ A Zs b y Q)(h1:a<=u)(h2:u<a+z)(h3:b<=u)(h4:u<b+y):a=b/\z=y/\P=Q:=by
 rcases t with⟨o,o1,o2,rfl,rfl,rfl⟩|t
 ·rcases t' with⟨p,p1,p2,rfl,rfl,rfl⟩|t'
  ·have:=S.dis o p o1 o2 p1 p2 u h1 h2 h3 h4;subst this;exact⟨rfl,rfl,rfl⟩
  ·exact absurd ⟨h1,h2⟩ (m.dis b y Q t' o o1 o2 u h3 h4)
 ·rcases t' with⟨p,p1,p2,rfl,rfl,rfl⟩|t'
  ·exact absurd ⟨h3,h4⟩ (m.dis a z P t p p1 p2 u h1 h2)
  ·exact m.one a z P b y Q t t' u h1 h2 h3 h4
theorem Sim.iM(S:Sim h σ A rv)(m:iO h σ A rv Zs)(t:iu σ A Zs a z P):h.mf a z:=by
 rcases t with⟨o,h1,h2,rfl,rfl,rfl⟩|t
 ·exact m.lo o h1 h2
 ·exact m.lz a z P t
theorem iO.yv(m:iO h σ A rv Zs)(hr:∀i,i<h.T->rv i=none)(hu:h.Used u):∃a z P,iu σ A Zs a z P/\a<=u/\u<a+z:=by
 rcases m.cov u hu with⟨o,h1,h2,h3,h4⟩|⟨a,z,P,h1,h2⟩|⟨i,a,z,h1,h2,h3⟩
 ·exact⟨_,_,_,.inl ⟨o,h1,h2,rfl,rfl,rfl⟩,h3,h4⟩
 ·exact⟨a,z,P,.inr h1,h2⟩
 ·rw[hr i h1]at h2;cases h2
theorem Sim.yw(S:Sim h σ A rv)(m:iO h σ A rv Zs)(t:iu σ A Zs a z P):gz h a z P:=by
 obtain⟨k1,k2,k3⟩:=S.lV m t;have:=(S.pe m t (a+z-1) (by omega) (by omega)).1;exact yt k1 (by omega) k3 k2 (by omega)
theorem Sim.cf(S:Sim h σ A rv)(ok:h.Ok s k)(hr:r<h.R)(hs:h.s r≠0):∃e:Nat,h.cf r=(e:Int)/\r*h.W<=e/\e<=r*h.W+h.W/\∀u,r*h.W<=u->u<r*h.W+h.W->(h.Used u↔u<e):=by
 have hW:=ok.ik;have hb:=ok.bX hr;obtain⟨k1,k2⟩:=p9 ok hr;obtain⟨e,he⟩:=Da (show 0<=h.cf r by omega);refine⟨e,he,by omega,by omega,λu u1 u2=>?_⟩;have er:u / h.W=r:=ed (by omega) u1 u2;by_cases hl:h.bz (r:Int) h.T=[]
 ·have hE:h.cf r=h.t r:=by unfold HS.cf;rw[if_pos hl]
  rw[he]at hE;constructor
  ·intro hu;have:=hu.2.2.1;rw[er]at this;omega
  ·intro hu;refine⟨by omega,by rw[er];exact hs,by rw[er];omega,λi hi hx=>?_⟩;obtain⟨q,q1,q2,q3,q4,q5⟩:=S.buf.reg i hi (by omega);have e2:u / h.W=q:=ed (by omega) (by omega) (by omega);have e3:=ok.reg (a:=h.bx i) q1 q3 (by omega);have:=nG (h:=h) (r:=(r:Int)) (i:=i) (by omega) (by rw[e3];omega) hi;rw[hl]at this;cases this
 ·have hE:h.cf r=HS.f9 (h.bz (r:Int) h.T):=by unfold HS.cf;rw[if_neg hl]
  obtain⟨i,hi,i1,i2,i3⟩:=lI (vb hl);rw[<- hE,he]at i1;obtain⟨q,q1,q2,q3,q4,q5⟩:=S.buf.reg i hi i2;have e3:=ok.reg (a:=h.bx i) q1 q3 (by omega);obtain rfl:q=r:=by omega
  constructor
  ·intro hu;have h1:=hu.2.2.2 i hi;omega
  ·intro hu;refine⟨by omega,by rw[er];exact hs,by rw[er,q5];omega,λj hj hx=>?_⟩;obtain⟨q',p1,p2,p3,p4,p5⟩:=S.buf.reg j hj (by omega);have e2:u / h.W=q':=ed (by omega) (by omega) (by omega);obtain rfl:q'=q:=by omega
   by_cases e:j=i
   ·subst e;omega
   ·exact S.buf.one j i hj hi e (by omega) i2 (by omega)
theorem Sim.chain(S:Sim h σ A rv)(m:iO h σ A rv Zs)(hr:∀i,i<h.T->rv i=none){e r:Nat}(hW:1<=h.W)(h3:h.s r=1\/h.s r=2\/h.s r=3)(he:e<=r*h.W+h.W)(hu:∀u,r*h.W<=u->u<r*h.W+h.W->(h.Used u↔u<e)) :
  ∀(n a:Nat),r*h.W<=a->a<=e->e-a<=n->(∀b y Q,iu σ A Zs b y Q->b<a->b+y<=a)->∃l,dt h.f e n a=some l/\∀x:Int,x∈l↔∃b y Q,iu σ A Zs b y Q/\x=(b:Int)/\a<=b/\b<e
|0,a,h1,h2,h4,hb=>⟨[],cF (by omega),λx=>⟨λhx=>by(cases hx),λ⟨b,y,Q,_,_,k1,k2⟩=>by omega⟩⟩
|n+1,a,h1,h2,h4,hb=>by
  by_cases hlt:a<e
  ·obtain⟨b,y,Q,t,t1,t2⟩:=m.yv hr ((hu a h1 (by omega)).2 hlt);have hba:b=a:=by
    by_cases hx:b<a
    ·have:=hb b y Q t hx;omega
    ·omega
   subst hba;obtain⟨k1,k2,k3⟩:=S.lV m t;have of:=nP (s:=y) (p:=Q) ⟨by omega,k3⟩ k2;have eb:b / h.W=r:=ed hW h1 (by omega);have hfit:b+y<=e:=by
    rcases S.iM m t with⟨l1,l2⟩|⟨l1,l2,l3⟩
    ·rw[eb]at l2;have:=(hu (b+y-1) (by omega) (by omega)).1 (S.pe m t _ (by omega) (by omega));omega
    ·rw[eb]at l1;omega
   have hok:bY h.f b e:=by
    unfold bY;rw[k1,of];exact⟨.inl rfl,by show(y:Int)<=_;omega⟩
   have hsz:(Hd.of ((h.f b:Nat):Int)).size=(y:Int):=by rw[k1,of];rfl
   obtain⟨l,l1,l2⟩:=S.chain m hr hW h3 he hu n (b+y) (by omega) hfit (by omega) (λc v R t' hc=>by
    by_cases hx:c<b
    ·have:=hb c v R t' hx;omega
    ·have hv:1<=v:=by have:=(S.lV m t').2.1;omega
     obtain⟨e1,e2,_⟩:=S.yu m t' t (u:=c) (Dd _) (by omega) (by omega) hc;omega)
   refine⟨(b:Int)::l,by rw[tE hlt hok hsz,l1];rfl,λx=>?_⟩;rw[C1,l2];constructor
   ·rintro(e1|⟨c,v,R,t',e1,e2,e3⟩)
    ·exact⟨b,y,Q,t,e1,Dd _,hlt⟩
    ·exact⟨c,v,R,t',e1,by omega,e3⟩
   ·rintro⟨c,v,R,t',e1,e2,e3⟩;by_cases hx:b+y<=c
    ·exact .inr ⟨c,v,R,t',e1,hx,e3⟩
    ·have hv:1<=v:=by have:=(S.lV m t').2.1;omega
     obtain⟨e4,_⟩:=S.yu m t' t (u:=c) (Dd _) (by omega) e2 (by omega);exact .inl (by rw[e1,e4])
  ·exact⟨[],cF hlt,λx=>⟨λhx=>by(cases hx),λ⟨b,y,Q,_,_,k1,k2⟩=>by omega⟩⟩
theorem Sim.row(S:Sim h σ A rv)(m:iO h σ A rv Zs)(hr:∀i,i<h.T->rv i=none)(ok:h.Ok s k)(hR:r<h.R):h.eY (r:Int)=0/\∀x:Int,x∈h.dg (r:Int)↔∃b y Q,iu σ A Zs b y Q/\x=(b:Int)/\b / h.W=r:=by
 have hW:=ok.ik;have hso:=ok.sok r hR;have hbl:=ok.bX hR;have hin:¬ ¬ (0<=(r:Int)/\(r:Int)<(h.R:Int)):=by omega
 unfold HS.dg HS.eY;rw[if_neg hin,if_neg hin,Db];by_cases h3:h.s r=1\/h.s r=2\/h.s r=3
 ·rw[if_pos h3,if_pos h3];obtain⟨e,e1,e2,e3,e4⟩:=S.cf ok hR (by omega);obtain⟨l,l1,l2⟩:=S.chain m hr (by omega) h3 e3 e4 (e-r*h.W) (r*h.W) (Dd _) e2 (Dd _) (λb y Q t hb=>by
   by_cases hx:b+y<=r*h.W
   ·exact hx
   ·exfalso;have eW:r*h.W / h.W=r:=Nat.mul_div_cancel _ (by omega);obtain⟨d1,d2⟩:=ff (W:=h.W) (u:=b) (by omega);rcases S.iM m t with⟨g1,g2⟩|⟨g1,g2,g3⟩
    ·have:r<=b / h.W:=by
      rcases Dg (b / h.W) r with g|g
      ·have:=sQ (W:=h.W) g;omega
      ·exact g
     have:=Nat.mul_le_mul_right h.W this;omega
    ·rcases Dg (b / h.W) r with g|g
     ·obtain⟨i,rfl⟩:∃i,r=b / h.W+i:=⟨r-b / h.W,by omega⟩;have e5:(b / h.W+i)*h.W=b / h.W*h.W+i*h.W:=Nat.add_mul _ _ _;have:=g3 i (by omega) (by omega);omega
     ·have:=Nat.mul_le_mul_right h.W g;omega)
  rw[e1];have hst:=kh (n:=h.n) (f:=h.f) (A:=r*h.W) (B:=e) (yR e2 (by omega)) l1;rw[hst.1,hst.2];refine⟨rfl,λx=>?_⟩;rw[l2];constructor
  ·rintro⟨b,y,Q,t,q1,q2,q3⟩;exact⟨b,y,Q,t,q1,ed (by omega) q2 (by omega)⟩
  ·rintro⟨b,y,Q,t,q1,q2⟩;obtain⟨d1,d2⟩:=ff (W:=h.W) (u:=b) (by omega);rw[q2]at d1 d2;have hy:1<=y:=by have:=(S.lV m t).2.1;omega
   exact⟨b,y,Q,t,q1,d1,(e4 b d1 d2).1 (S.pe m t b (Dd _) (by omega))⟩
 ·rw[if_neg h3,if_neg h3];by_cases h4:h.s r=4
  ·rw[if_pos h4,if_pos h4];have htop:=m.hum r hR h4;have hus:h.Used (r*h.W):=by
    have eW:r*h.W / h.W=r:=Nat.mul_div_cancel _ (by omega);refine⟨by omega,by rw[eW];omega,by rw[eW];exact htop,λi hi hx=>?_⟩;obtain⟨q,q1,q2,q3,q4,q5⟩:=S.buf.reg i hi (by omega);have e2:r*h.W / h.W=q:=ed (by omega) (by omega) (by omega);rw[eW]at e2;rw[e2,q2]at h4;omega
   obtain⟨b,y,Q,t,t1,t2⟩:=m.yv hr hus;have big:∀ {b y Q:Nat},iu σ A Zs b y Q->b<=r*h.W->r*h.W<b+y->b=r*h.W/\∀i,1<=i->i*h.W<y->r+i<h.R/\h.s (r+i)=5:=λ{b y Q} t t1 t2=>by
    obtain⟨d1,d2⟩:=ff (W:=h.W) (u:=b) (by omega);have le:b / h.W<=r:=by
     rcases Dg r (b / h.W)with g|g
     ·have:=sQ (W:=h.W) g;omega
     ·exact g
    rcases S.iM m t with⟨g1,g2⟩|⟨g1,g2,g3⟩
    ·exfalso;rcases Dg (b / h.W) r with g|g
     ·have:=sQ (W:=h.W) g;omega
     ·have:b / h.W=r:=by omega
      rw[this]at g1;omega
    ·rcases Dg (b / h.W) r with g|g
     ·exfalso;obtain⟨i,rfl⟩:∃i,r=b / h.W+i:=⟨r-b / h.W,by omega⟩;have e5:(b / h.W+i)*h.W=b / h.W*h.W+i*h.W:=Nat.add_mul _ _ _;have:=g3 i (by omega) (by omega);omega
     ·have e6:b / h.W=r:=by omega
      rw[e6]at g2 g3;exact⟨g2,g3⟩
   obtain⟨rfl,hc⟩:=big t t1 t2;have ho:=S.yw m t;have hE:=ho.aD;have hV:=ho.bj;have hbig:h.gx r=0:=by
    unfold HS.gx;rw[if_neg (by rw[hE];exact λh=>h rfl),hV,if_pos];intro q q1 q2;have h5:=hc q q1 (by
     have q2:(q:Int)<h.g.bA (y:Int):=q2;have hz:=ho.pos;unfold Geo.bA at q2;rw[if_neg (by omega),ok.rw]at q2;have hWp:(0:Int)<(h.W:Int):=by omega
     have h7:(q:Int)<=((y:Int)-1) / (h.W:Int):=by omega
     have h8:=Int.mul_le_of_le_ediv hWp h7;have h9:((q*h.W:Nat):Int)=(q:Int)*(h.W:Int):=Int.natCast_mul _ _;omega)
    unfold HS.aN;rw[if_pos ⟨by omega,by omega⟩,show((r:Int)+(q:Int)).toNat=r+q by omega];exact h5.2
   rw[hbig,if_pos rfl];refine⟨rfl,λx=>?_⟩;rw[List.mem_singleton];constructor
   ·intro e;exact⟨_,y,Q,t,e,Nat.mul_div_cancel _ (by omega)⟩
   ·rintro⟨c,v,R,t',e1,e2⟩;rw[e1];rcases S.iM m t' with⟨g1,g2⟩|⟨g1,g2,g3⟩
    ·rw[e2]at g1;omega
    ·rw[e2]at g2;rw[g2]
  ·rw[if_neg h4,if_neg h4];refine⟨rfl,λx=>⟨λhx=>by(cases hx),λ⟨b,y,Q,t,e1,e2⟩=>?_⟩⟩;rcases S.iM m t with⟨g1,g2⟩|⟨g1,g2,g3⟩
   ·rw[e2]at g1;exact absurd g1 h3
   ·rw[e2]at g1;exact absurd g1 h4
end
theorem HS.tl{h:HS}{t:Int->Bool}{r:Nat}(hr:r<h.R)(ht:∀x,t x=true->0<=x/\x<(h.R:Int)):∀x,h.bK t r x=true->0<=x/\x<(h.R:Int):=by
 intro x hx;unfold HS.bK at hx;split at hx
 ·rcases Bool.or_eq_true_iff.1 hx with e|e
  ·have:=of_decide_eq_true e;omega
  ·exact ht x e
 ·exact ht x hx
theorem HS.Ab{h:HS}{l:List Int}:∀x,h.jF l x=true->0<=x/\x<(h.R:Int):=by
 have go:∀(ls:List Nat) (t:Int->Bool),(∀r,r∈ls->r<h.R)->(∀x,t x=true->0<=x/\x<(h.R:Int))->∀x,ls.foldl h.bK t x=true->0<=x/\x<(h.R:Int):=by
  intro ls
  induction ls with
 |nil=>intro t _ ht;exact ht
 |cons r ls ih=>intro t hl ht;exact ih _ (λq hq=>hl q (CZ _ hq)) (HS.tl (hl r (C0 ..)) ht)
 refine go _ _ (λr hr=>(iH.1 hr).1) (λx hx=>?_);unfold HS.gS at hx;have:=(Bool.and_eq_true_iff.1 hx).1;exact of_decide_eq_true this
theorem HS.qN{h:HS}{x:Int}:∀(ls:List Nat) (t:Int->Bool),ls.foldl h.bK t x=true->t x=true\/∃r,r∈ls/\x=(r:Int)
|[],t,hx=>.inl hx
|r::ls,t,hx=>by
  rcases HS.qN ls (h.bK t r) hx with e|⟨q,q1,q2⟩
  ·unfold HS.bK at e;split at e
   ·rcases Bool.or_eq_true_iff.1 e with e|e
    ·exact .inr ⟨r,C0 ..,of_decide_eq_true e⟩
    ·exact .inl e
   ·exact .inl e
  ·exact .inr ⟨q,CZ _ q1,q2⟩
theorem HS.nM{h:HS}{r i:Nat}(hi:(i:Int)<h.fD r):∀(ls:List Nat) (t:Int->Bool),r∈ls->t ((r:Int)+(i:Int))=true->ls.foldl h.bK t (r:Int)=true
|q::ls,t,hm,ht=>by
  rw[List.foldl_cons];by_cases e:r=q
  ·subst e;refine h.jl _ _ ?_;unfold HS.bK;rw[if_pos (List.any_eq_true.2 ⟨i,by rw[List.mem_range];omega,ht⟩)];simp
  ·exact HS.nM hi ls _ ((C1.1 hm).resolve_left e) (h.jG ht)
section
variable {h:HS}{x:HT}{V:WS}{σ:GS}{A:Nat->Nat}{rv:Nat->Option (Nat×Nat)}{dl:List Int}{T B s k:Nat}
theorem eF.lost(S:Sim h σ A rv)(hr:∀i,i<h.T->rv i=none)(ok:h.Ok s k)(N:eF h x V σ A dl T)(hidle:∀i,i<T->(V.mu i).st=0){τ:RS}{per:Nat}{l:List Int}{y:Int}(hy:y∈h.dQ τ per l) :
  ∃c:Nat,h.g.aV y=(c:Int)/\c<h.R*x.per/\bH x.C c=true:=by
 unfold HS.dQ at hy;split at hy
 ·rename_i hS
  obtain⟨r,hr0,hy⟩:=List.mem_flatMap.1 hy;have hR:r<h.R:=by simpa using hr0
  unfold HS.cH at hy;split at hy
  ·cases hy
  ·rename_i hc
   obtain⟨a,ha,hy⟩:=List.mem_flatMap.1 hy;obtain⟨Zs,m⟩:=S.rest;obtain⟨b,z,Q,t,rfl,e2⟩:=((S.row m hr ok hR).2 a).1 ha;unfold HS.bL at hy;obtain⟨hy1,hy2⟩:=List.mem_filter.1 hy;have ho:=S.yw m t;rw[ho.fields.1]at hy1;unfold Go.Gl.refs at hy1;obtain⟨j,hj,rfl⟩:=List.mem_map.1 hy1;have hj:=List.mem_range.1 hj;have hc':h.jF l (r:Int)=false/\(h.s r=3\/h.s r=4):=by
    cases e:h.jF l (r:Int)with
   |true=>rw[e]at hc;simp at hc
   |false=>
     rw[e]at hc;refine⟨rfl,?_⟩;by_cases e3:h.s r=3
     ·exact .inl e3
     ·by_cases e4:h.s r=4
      ·exact .inr e4
      ·simp[e3,e4]at hc
   have ht:h.jF l (h.bu ((b:Int)+1+(j:Int)))=true:=(Bool.and_eq_true_iff.1 hy2).1;have hin:=HS.Ab _ ht;have hW:=ok.ik;have hus:=S.pe m t (b+1+j) (by omega) (by have:=ho.ps;omega);have cast:(b:Int)+1+(j:Int)=((b+1+j:Nat):Int):=by omega
   rw[cast]at ht hin ⊢;unfold HS.bu at ht hin;rw[Db]at ht hin;have hRu:(b+1+j) / h.W<h.R:=by
    rw[Nat.div_lt_iff_lt_mul (by omega),<- ok.nn];exact hus.1
   have rg:∀u:Nat,u<h.n->h.g.av (u:Int)=((u / h.W:Nat):Int):=λu hu=>by
    unfold Geo.av;rw[if_pos ⟨by omega,by rw[ok.wd];omega⟩,ok.rw,<- Int.natCast_ediv]
   have hfr:h.jF l (((b+1+j) / h.W:Nat):Int)=false/\h.s ((b+1+j) / h.W)≠1/\h.s ((b+1+j) / h.W)≠2:=by
    rcases S.iM m t with⟨g1,g2⟩|⟨g1,g2,g3⟩
    ·rw[e2]at g1 g2;have hps:=ho.ps;have hd:=ff (W:=h.W) (u:=b) (by omega);rw[e2]at hd;have er:(b+1+j) / h.W=r:=ed (by omega) (by omega) (by omega);rw[er];exact⟨hc'.1,by omega,by omega⟩
    ·rw[e2]at g1 g2 g3;have hps:=ho.ps;obtain⟨i,hi⟩:∃i,(b+1+j) / h.W=r+i:=by
      have:r<=(b+1+j) / h.W:=by rw[<- e2];exact Nat.div_le_div_right (by omega)
      exact⟨(b+1+j) / h.W-r,by omega⟩
     have hd:=ff (W:=h.W) (u:=b+1+j) (by omega);rw[hi]at hd;have e5:(r+i)*h.W=r*h.W+i*h.W:=Nat.add_mul _ _ _;have hiz:i*h.W<z:=by omega
     have hs5:h.s (r+i)=4/\i=0\/h.s (r+i)=5:=by
      by_cases e0:i=0
      ·subst e0;exact .inl ⟨g1,rfl⟩
      ·exact .inr (g3 i (by omega) hiz).2
     have hsp:(i:Int)<h.fD r:=by
      unfold HS.fD;rw[show((r*h.W:Nat):Int)=(b:Int)by rw[<- g2],ho.bj];show(i:Int)<h.g.bA (z:Int);have hz:=ho.pos;unfold Geo.bA;rw[if_neg (by omega),ok.rw];have hWp:(0:Int)<(h.W:Int):=by omega
      have h9:((i*h.W:Nat):Int)=(i:Int)*(h.W:Int):=Int.natCast_mul _ _;have:=Int.le_ediv_of_mul_le hWp (a:=(i:Int)) (b:=(z:Int)-1) (by omega);omega
     rw[hi];refine⟨?_,by omega,by omega⟩;rcases hs5 with⟨-,rfl⟩|hs5
     ·exact hc'.1
     ·cases e:h.jF l ((r+i:Nat):Int)with
     |false=>rfl
     |true=>
       exfalso;have hrl:r∈bn h.s 4 h.R:=iH.2 ⟨hR,g1⟩;rcases HS.qN _ _ e with e1|⟨q,q1,q2⟩
       ·have:=HS.nM (h:=h) hsp (bn h.s 4 h.R) (h.gS l) hrl (by rw[show(r:Int)+(i:Int)=((r+i:Nat):Int)by omega];exact e1);rw[show List.foldl h.bK (h.gS l) (bn h.s 4 h.R) (r:Int)=h.jF l (r:Int) from rfl,hc'.1]at this;cases this
       ·have:=(iH.1 q1).2;rw[show q=r+i by omega]at this;omega
   obtain⟨f1,f2,f3⟩:=hfr;rcases t with⟨o,o1,o2,rfl,rfl,rfl⟩|t
   ·have hf:=S.ref o o1 o2 j hj;have hnz:(h.f (A o+1+j):Int)≠0:=λe=>by
     rw[e]at hin;rw[show adr 0=-1 from by decide]at hin;unfold Geo.av at hin;rw[if_neg (by omega)]at hin;omega
    have hnote:cC h.g (h.aN (h.g.av ((A o+1+j:Nat):Int))) ((A o+1+j:Nat):Int) (bB A (σ.ref (o:Int) (j:Int)))=true:=by
     rw[<- hf,rg _ hus.1];have hst:h.aN (((A o+1+j) / h.W:Nat):Int)=h.s ((A o+1+j) / h.W):=by
      unfold HS.aN;rw[if_pos ⟨Int.natCast_nonneg _,Int.ofNat_lt.2 hRu⟩,Db]
     rw[hst,qh f2 f3];have had:0<=adr (h.f (A o+1+j):Int)/\adr (h.f (A o+1+j):Int)<h.g.words:=by
      unfold Geo.av at hin;split at hin
      ·rename_i q;exact q
      ·omega
     unfold Geo.dy;have hu1:=hus.1;have hwd:=ok.wd;rw[show decide (0<=((A o+1+j:Nat):Int))=true by simp;omega,show decide (((A o+1+j:Nat):Int)<h.g.words)=true by simp;omega,show decide (0<=adr (h.f (A o+1+j):Int))=true by simpa using had.1,show decide (adr (h.f (A o+1+j):Int)<h.g.words)=true by simpa using had.2];simp only[Bool.and_self,Bool.true_and,decide_eq_true_eq];intro e;unfold Geo.av at ht;rw[if_pos had,<- e,ok.rw,<- Int.natCast_ediv]at ht;rw[f1]at ht;cases ht
    rcases N.ref o j o1 o2 hj hnote with h1|⟨i,i1,i2,i3⟩
    ·exact h1
    ·rw[hidle i i1]at i2;exact absurd i2 (by decide)
   ·obtain⟨-,-,-,k4⟩:=m.hdr b z Q t;rw[k4 j hj]at hin;rw[show adr ((0:Nat):Int)=-1 from by decide]at hin;unfold Geo.av at hin;rw[if_neg (by omega)]at hin;omega
 ·cases hy
theorem lW{ws:List Nat}{n j:Nat}:j∈below ws n↔j<n/\bH ws j=true:=by simp[below]
theorem pf(ws:List Nat)(n:Nat):(below ws n).Nodup:=List.Pairwise.filter _ List.nodup_range
theorem eF.perm(N:eF h x V σ A dl T):(eD x T++dl).Perm ((below x.C (h.R*x.per)).map λ(c:Nat)=>(c:Int)):=by
 rw[List.perm_iff_count];intro z;have h1:∀z,z∈eD x T++dl↔z∈(below x.C (h.R*x.per)).map λ(c:Nat)=>(c:Int):=λz=>by
  constructor
  ·intro hz;have hr:=N.rg z hz;obtain⟨c,rfl⟩:=Da hr.1;exact List.mem_map.2 ⟨c,lW.2 ⟨by omega,(N.dw c (by omega)).2 hz⟩,rfl⟩
  ·intro hz;obtain⟨c,hc,rfl⟩:=List.mem_map.1 hz;have:=lW.1 hc;exact(N.dw c this.1).1 this.2
 have h2:((below x.C (h.R*x.per)).map λ(c:Nat)=>(c:Int)).Nodup:=by
  exact List.pairwise_map.2 ((pf x.C (h.R*x.per)).imp (λhne e=>hne (Int.ofNat.inj e)))
 have n2:=List.nodup_iff_count.1 h2 z;have n1:=N.nd z;by_cases hz:z∈eD x T++dl
 ·have c1:=List.count_pos_iff.2 hz;have c2:=List.count_pos_iff.2 ((h1 z).1 hz);omega
 ·rw[List.count_eq_zero_of_not_mem hz,List.count_eq_zero_of_not_mem (λe=>hz ((h1 z).2 e))]
end
section
variable {W w w':World}{L:HL}{X:HX}{h:HS}{x:HT}{s k:Nat}{E:aK}{D:Nat->Prop}{Q:World->Prop}{Λ:WL}{g t:Nat}{V:WS}{σ:GS}{A:Nat->Nat}{rv:Nat->Option (Nat×Nat)}{B M T:Nat}
theorem Phase.idle{n:Nat}{m:MU}(p:Phase n M σ A rv t m)(hs:m.st=0):rv t=none:=by
 rcases p with p|p|p|p|p|p|p
 ·exact p.2
 ·exact p.2
 ·exact p.2.2
 ·exact p.2.1
 ·have:=p.1;omega
 ·exact p.2.1
 ·exact p.2.2.1
theorem Phase.Cv{n:Nat}{m:MU}(p:Phase n M σ A rv t m)(hs:m.st=2):rv t=none/\m.k=1:=by
 rcases p with p|p|p|p|p|p|p
 ·have:=p.1;omega
 ·have:=p.1;omega
 ·exact⟨p.2.2,p.2.1⟩
 ·have:=p.1;omega
 ·have:=p.1;omega
 ·have:=p.1;omega
 ·have:=p.1;omega
def MU.on(m:MU)(o:Po):MU:=⟨m.dn,o.k,o.a,o.b,o.c,o.v,1,0⟩
theorem WI.start(I:WI B h x V σ A rv M T)(ht:t<T)(hs:(V.mu t).st=0){o:Po}(ho:dH o)(hv:0<=o.v/\o.v<18446744073709551616):WI B h x { V with mu:=ai V.mu t ((V.mu t).on o),OV:=V.OV } σ A rv M T:=
 I.next I.sim I.gk rfl rfl rfl (.inr (.inl ⟨rfl,(I.ph t ht).idle hs⟩)) (.refl _ _) (λ_ _=>rfl) (λ_ _=>rfl) I.q (λ_ _=>⟨ho,hv⟩)
theorem WI.fail(I:WI B h x V σ A rv M T)(ht:t<T)(hs:(V.mu t).st=2):WI B h x { V with mu:=ai V.mu t (MU.zero ((V.mu t).dn+1)),OV:=V.OV } σ A rv M T:=
 I.next I.sim I.gk rfl rfl rfl (.inl ⟨rfl,((I.ph t ht).Cv hs).1⟩) (.refl _ _) (λ_ _=>rfl) (λ_ _=>rfl) I.q (λh0 _=>absurd rfl h0)
theorem qO(hS:ah D Q)(hT:Tab W)(H:HM W w L X h x s k (wE Λ L.hb g T V++E) D Q)(hE:∀q,q∈E->q.2.1≠127/\q.2.1≠128)(ht:t<T)(hs:(V.mu t).st=0)(o:Po) :
  Calls Tryz.prog 18 #[.pointer (some ⟨Λ.P t,0,none⟩),opV o] w λe w'=>e=.returned (.int .i64 0)/\HM W w' L X h x s k (wE Λ L.hb g T { V with mu:=ai V.mu t ((V.mu t).on o),OV:=V.OV }++E) D Q:=by
 have H1:=H.lU ht;obtain⟨f1,f2⟩:=H1.BJ hE;have hom:Λ.ob≠Λ.P t:=(H1.blk (b:=Λ.ob) (CZ _ (C0 ..))).apart (H1.blk (C0 ..)) (by decide);refine(H1.mut (P:=λe=>e=.returned (.int .i64 0)) hS hT (m':=(V.mu t).on o) (aL hom f1) (λhb=>lJ hb hs o)).mono ?_;rintro e w' ⟨rfl,hA⟩;exact⟨rfl,hA.kw⟩
theorem tu(hS:ah D Q)(hT:Tab W)(H:HM W w L X h x s k (wE Λ L.hb g T V++E) D Q)(hE:∀q,q∈E->q.2.1≠127/\q.2.1≠128)(ht:t<T)(hs:(V.mu t).st=2)(hd:((V.mu t).dn:Int)+1<=9223372036854775807) :
  Calls Tryz.prog 24 #[.pointer (some ⟨Λ.P t,0,none⟩)] w λe w'=>e=.returned (.tuple #[gt (t:Int) ((V.mu t).dn:Int) ⟨16,0,false⟩,.int .i64 0])/\HM W w' L X h x s k (wE Λ L.hb g T { V with mu:=ai V.mu t (MU.zero ((V.mu t).dn+1)),OV:=V.OV }++E) D Q:=by
 have H1:=H.lU ht;obtain⟨f1,f2⟩:=H1.BJ hE;have hom:Λ.ob≠Λ.P t:=(H1.blk (b:=Λ.ob) (CZ _ (C0 ..))).apart (H1.blk (C0 ..)) (by decide);refine(H1.mut (P:=λe=>e=.returned (.tuple #[gt (t:Int) ((V.mu t).dn:Int) ⟨16,0,false⟩,.int .i64 0])) hS hT (m':=MU.zero ((V.mu t).dn+1)) (aL hom f1) (λhb=>vg hb hs hd)).mono ?_;rintro e w' ⟨rfl,hA⟩;exact⟨rfl,hA.kw⟩
end
def Cw(w:World)(tg:TG)(Q:World->TG->Prop)(v:Value)(e:Ending)(w':World):Prop:=e=.returned v/\∃tg',Q w' tg'/\GFr w tg w' tg'
end Go.Proofs.YtimlkjppaalfaaaGreatDoor
