/- Several texts joined (pack.py): Zh Zi Xf Zj Un Ha. -/
import Derived.Test.YtimlkjppaalfaaaGreatDoorPW32
import Derived.Test.YtimlkjppaalfaaaGreatDoorPW25
import Derived.Test.YtimlkjppaalfaaaGreatDoorPW27
import Derived.WalkKit
import Derived.BigQuiet
import Derived.Deep.RegionHeld3
import Derived.Test.YtimlkjppaalfaaaGreatDoorPW21
import Derived.Test.YtimlkjppaalfaaaGreatDoorPW03
import Derived.Test.YtimlkjppaalfaaaGreatDoorPW02
set_option linter.unusedVariables false
set_option linter.unusedSimpArgs false
set_option maxHeartbeats 3200000
set_option maxRecDepth 100000
open List renaming mem_cons_of_mem->CZ,mem_cons_self->C0,mem_cons->C1
open Int renaming eq_ofNat_of_zero_le->Da
open Nat renaming le_refl->Dd,le_trans->De
namespace Go.Proofs.YtimlkjppaalfaaaGreatDoor
open Go.RowKit Go.Gl HS
section
variable {W w w':World}{L:HL}{X:HX}{h:HS}{x:HT}{s k:Nat}{E:aK}{D:Nat->Prop}{Q:World->Prop}{mb t sb:Nat}{m:MU}{σ:GS}{A:Nat->Nat}{rv:Nat->Option (Nat×Nat)}{M T:Nat}
theorem cu.aD{o:Po}{q I:Nat}(l:cu σ A t o q I):Go.Proofs.YtimlkjppaalfaaaGreatDoor.aD σ t o.a=0:=by
 have:=l.q1;unfold Go.Proofs.YtimlkjppaalfaaaGreatDoor.aD;rw[if_pos l.a,if_neg (by rw[l.r];omega)]
theorem kv(hS:ah D Q)(hT:Tab W)(S:Sim h σ A rv)(gk:GOk T L.B σ)(ht:t<h.T)(hd:(m.dn:Int)+1<=9223372036854775807){I v:Nat}(had:m.ad=(I:Int))(hI:I<h.n)(hc:aG (h.st t) m.c)(hv:aj (h.st t) m.c=(v:Int)) :
  ∃b:Bool,b=cC h.g (h.aN (h.g.av (I:Int))) (I:Int) (v:Int)/\∀w' E',(∀q,q∈E'->q.1≠mb)->HM W w' L X h x s k ((mb,127,muV L.hb t sb m)::E') D Q->Calls Tryz.prog 47 #[.pointer (some ⟨mb,0,none⟩)] w' λe w''=>e=.returned (bm (t:Int) (m.dn:Int) ⟨0,0,false⟩ true b false (.slice none 0 0)) /\
   HM W w'' L X { h with f:=upd h.f I v } x s k ((mb,127,muV L.hb t sb (if b=true then ⟨m.dn+1,0,0,0,0,0,6,(I:Int)⟩ else MU.zero (m.dn+1)))::E') D Q:=by
 cases hnb:cC h.g (h.aN (h.g.av (I:Int))) (I:Int) (v:Int)with
|false=>exact⟨false,rfl,λw' E' n H2=>sK hS hT H2 n ht hd had hI hc hv hnb⟩
|true=>exact⟨true,rfl,λw' E' n H2=>oO hS hT H2 n ht hd had hI hc hv hnb⟩
theorem qH(hS:ah D Q)(hT:Tab W)(H:HM W w L X h x s k ((mb,127,muV L.hb t sb m)::E) D Q)(hne:∀q,q∈E->q.1≠mb)(hst:m.st=3)(hd:(m.dn:Int)+1<=9223372036854775807)
  (S:Sim h σ A rv) (gk:GOk T L.B σ) (eT:h.T=T) (ht:t<T) (hB:L.B<=64) (hr:rv t=none) {q I:Nat} (l:cu σ A t m.op q I) (had:m.ad=(I:Int)) (hI:I<h.n) (hv:0<=m.v/\m.v<18446744073709551616) (hms:m.k=3->∃sv:Value,(sb,61,#[.bool false,sv])∈E) :
  Calls Tryz.prog 19 #[.pointer (some ⟨mb,0,none⟩)] w (dJ W L X x s k E D Q mb t sb M T m h σ A rv):=by
 subst eT;have hle:(h.st t).length<=L.B:=by rw[S.st t ht,List.length_map];exact gk.len t
 have hlen:(h.st t).length=(σ.st t).length:=by rw[S.st t ht,List.length_map]
 have ho:=l.aD;rcases l.f with⟨hk,j,hb,hj,hIe⟩|⟨hk,j,hb,hj,hIe⟩
 ·rcases hk with hk|hk
  ·have hk:m.k=2:=hk;have hf:(h.f I:Int)=bB A (σ.ref (q:Int) (j:Int)):=by rw[hIe];exact S.ref q l.q1 l.q2 j hj
   have hfi:aA (σ.np (aj (σ.st t) m.op.a)) m.op.b:=by rw[l.r,hb];unfold aA;omega
   have ea:bq L.B M h.T σ t m.op=⟨ay L.B (h.st t),0,false⟩:=by
    have:bq L.B M h.T σ t m.op=⟨fN L.B σ t m.op.a m.op.b,0,false⟩:=by unfold bq;rw[if_neg (show m.op.k≠1 by show m.k≠1;omega),if_pos (show m.op.k=2 from hk)]
    rw[this];unfold fN ay;rw[if_neg (by rw[ho];decide),if_pos hfi,hlen]
   have es:σ.push L.B t (σ.ref (q:Int) (j:Int))=aM L.B M h.T σ t m.op:=by
    have:aM L.B M h.T σ t m.op=dN L.B σ t m.op.a m.op.b:=by unfold aM;rw[if_neg (show m.op.k≠1 by show m.k≠1;omega),if_pos (show m.op.k=2 from hk)]
    rw[this];unfold dN;rw[if_pos ⟨ho,hfi⟩,l.r,hb]
   refine(cZ hS hT H hne hst (λw1 rb1 c1 n1 n2 H1=>sI hS hT H1 (aL n1 hne) hk ht hd had hI hB hle)).mono ?_;rintro e w' ⟨rfl,hA⟩;rw[hf]at hA;have:=dJ.fI (M:=M) (T:=h.T) (m:=m) (h:=h) (σ:=σ) hA (S.push ht (σ.ref (q:Int) (j:Int))) hr rfl rfl rfl rfl rfl es (λ_ _=>rfl) (λe=>by have:m.k=3:=e.1;omega);rw[ea]at this;exact this
  ·have hk:m.k=3:=hk;obtain⟨sv,hms⟩:=hms hk;have hc:=l.c hk;have hc':aG (h.st t) m.c:=by rw[S.st t ht];exact(bf A _ _).2 hc
   have er:aj (h.st t) m.c=bB A (aj (σ.st t) m.c):=by rw[S.st t ht,cL]
   obtain⟨v,hvv⟩:=Da (show 0<=bB A (aj (σ.st t) m.c)by unfold bB;split <;> omega);have hfi:aA (σ.np (aj (σ.st t) m.op.a)) m.op.b:=by rw[l.r,hb];unfold aA;omega
   have eE:bh σ t m.op.a m.op.b m.op.c=0:=by
    unfold bh;rw[if_pos hc,if_neg (by rw[ho];decide),if_pos hfi]
   have ea:bq L.B M h.T σ t m.op=⟨0,0,false⟩:=by
    have:bq L.B M h.T σ t m.op=⟨bh σ t m.op.a m.op.b m.op.c,0,false⟩:=by unfold bq;rw[if_neg (show m.op.k≠1 by show m.k≠1;omega),if_neg (show m.op.k≠2 by show m.k≠2;omega),if_pos (show m.op.k=3 from hk)]
    rw[this,eE]
   have es:σ.setRef (q:Int) (j:Int) (aj (σ.st t) m.c)=aM L.B M h.T σ t m.op:=by
    have:aM L.B M h.T σ t m.op=bU σ t m.op.a m.op.b m.op.c:=by unfold aM;rw[if_neg (show m.op.k≠1 by show m.k≠1;omega),if_neg (show m.op.k≠2 by show m.k≠2;omega),if_pos (show m.op.k=3 from hk)]
    rw[this];unfold bU;rw[if_pos eE,l.r,hb];rfl
   obtain⟨b,hbn,hst2⟩:=kv (W:=W) (L:=L) (X:=X) (x:=x) (s:=s) (k:=k) (mb:=mb) (sb:=sb) (m:=m) hS hT S gk ht hd had hI hc' (er.trans hvv);have HNt:∀(b:Bool) (ad:Int) (f':Nat->Nat),b=cC h.g (h.aN (h.g.av (I:Int))) (I:Int) (v:Int)->(b=true->ad=(I:Int))->gf { h with f:=f' } σ A t m.op b ad:=λb ad f' e1 e2 _ _=>⟨q,j,l.r,hb,l.q1,l.q2,hj,λe3=>by
    rw[<- hIe,show bB A (aj (σ.st t) m.op.c)=(v:Int) from hvv]at e3;rw[<- hIe];exact⟨e1.trans e3,e2 (e1.trans e3)⟩⟩
   refine(cZ hS hT H hne hst (λw1 rb1 c1 n1 n2 H1=>qG hS hT H1 (aL n1 hne) hk (CZ _ hms) (λw2 E2 n3 _ H2=>hst2 w2 E2 n3 H2))).mono ?_;rintro e w' ⟨rfl,hA⟩;have S2:=S.setRef l.q1 l.q2 hj hvv.symm;rw[<- hIe]at S2;rw[<- ea];cases b with
  |false=>exact⟨_,x,_,A,rv,MU.zero (m.dn+1),hA,S2,.inl ⟨rfl,hr⟩,dr.refl _,rfl,rfl,rfl,rfl,rfl,λ_ _=>rfl,λ_ _=>rfl,λ_ _=>rfl,.inr (.inr ⟨false,rfl,es,rfl,.inr ⟨rfl,rfl⟩,HNt _ _ _ hbn (λe=>by cases e),λ_ _=>by omega⟩)⟩
  |true=>exact⟨_,x,_,A,rv,⟨m.dn+1,0,0,0,0,0,6,(I:Int)⟩,hA,S2,.inr (.inr (.inr (.inr (.inr (.inl ⟨rfl,hr,I,hI,rfl⟩))))),dr.refl _,rfl,rfl,rfl,rfl,rfl,λ_ _=>rfl,λ_ _=>rfl,λ_ _=>rfl,.inr (.inr ⟨true,rfl,es,rfl,.inl ⟨rfl,rfl⟩,HNt _ _ _ hbn (λ_=>rfl),λ_ _=>by omega⟩)⟩
 ·have hfi:aA (σ.nw (aj (σ.st t) m.op.a)) m.op.b:=by rw[l.r,hb];unfold aA;omega
  have eE:bI σ t m.op.a m.op.b=0:=by
   unfold bI;rw[if_neg (by rw[ho];decide),if_pos hfi]
  rcases hk with hk|hk
  ·have hk:m.k=4:=hk;have hf:(h.f I:Int)=σ.dat (q:Int) (j:Int):=by rw[hIe];exact S.dat q l.q1 l.q2 j hj
   have ea:bq L.B M h.T σ t m.op=⟨0,(h.f I:Int),false⟩:=by
    have:bq L.B M h.T σ t m.op=⟨bI σ t m.op.a m.op.b,ie σ t m.op.a m.op.b,false⟩:=by unfold bq;rw[if_neg (show m.op.k≠1 by show m.k≠1;omega),if_neg (show m.op.k≠2 by show m.k≠2;omega),if_neg (show m.op.k≠3 by show m.k≠3;omega),if_pos (show m.op.k=4 from hk)]
    rw[this,eE];unfold ie;rw[if_pos eE,l.r,hb,hf]
   have es:σ=aM L.B M h.T σ t m.op:=by
    unfold aM;rw[if_neg (show m.op.k≠1 by show m.k≠1;omega),if_neg (show m.op.k≠2 by show m.k≠2;omega),if_neg (show m.op.k≠3 by show m.k≠3;omega),if_neg (show m.op.k≠5 by show m.k≠5;omega),if_neg (show m.op.k≠6 by show m.k≠6;omega),if_neg (show m.op.k≠7 by show m.k≠7;omega),if_neg (show m.op.k≠8 by show m.k≠8;omega),if_neg (show m.op.k≠13 by show m.k≠13;omega)]
   refine(cZ hS hT H hne hst (λw1 rb1 c1 n1 n2 H1=>sJ hS hT H1 (aL n1 hne) hk ht hd had hI)).mono ?_;rintro e w' ⟨rfl,hA⟩;have:=dJ.fI (M:=M) (T:=h.T) (m:=m) (h:=h) (σ:=σ) hA S hr rfl rfl rfl rfl rfl es (λ_ _=>rfl) (λe=>by have:m.k=3:=e.1;omega);rw[ea]at this;exact this
  ·have hk:m.k=5:=hk;obtain⟨v,hvv⟩:=Da hv.1;have ea:bq L.B M h.T σ t m.op=⟨0,0,false⟩:=by
    have:bq L.B M h.T σ t m.op=⟨bI σ t m.op.a m.op.b,0,false⟩:=by unfold bq;rw[if_neg (show m.op.k≠1 by show m.k≠1;omega),if_neg (show m.op.k≠2 by show m.k≠2;omega),if_neg (show m.op.k≠3 by show m.k≠3;omega),if_neg (show m.op.k≠4 by show m.k≠4;omega),if_pos (show m.op.k=5 from hk)]
    rw[this,eE]
   have es:σ.cQ (q:Int) (j:Int) (v:Int)=aM L.B M h.T σ t m.op:=by
    have:aM L.B M h.T σ t m.op=cp σ t m.op.a m.op.b m.op.v:=by unfold aM;rw[if_neg (show m.op.k≠1 by show m.k≠1;omega),if_neg (show m.op.k≠2 by show m.k≠2;omega),if_neg (show m.op.k≠3 by show m.k≠3;omega),if_pos (show m.op.k=5 from hk)]
    rw[this];unfold cp;rw[if_pos eE,l.r,hb,show m.op.v=(v:Int) from hvv]
   refine(cZ hS hT H hne hst (λw1 rb1 c1 n1 n2 H1=>qC hS hT H1 (aL n1 hne) hk ht hd had hI hvv (by omega))).mono ?_;rintro e w' ⟨rfl,hA⟩;have S2:=S.cQ (v:=v) l.q1 l.q2 hj;rw[<- hIe]at S2;have:=dJ.fI (M:=M) (T:=h.T) (m:=m) (h:=h) (σ:=σ) hA S2 hr rfl rfl rfl rfl rfl es (λ_ _=>rfl) (λe=>by have:m.k=3:=e.1;omega);rw[ea]at this;exact this
theorem qI(hS:ah D Q)(hT:Tab W)(H:HM W w L X h x s k ((mb,127,muV L.hb t sb m)::E) D Q)(hne:∀q,q∈E->q.1≠mb)(hst:m.st=4)(hk:m.k=3)(hd:(m.dn:Int)+1<=9223372036854775807)
  (S:Sim h σ A rv) (gk:GOk T L.B σ) (eT:h.T=T) (ht:t<T) (hr:rv t=none) {q I:Nat} (l:cu σ A t m.op q I) (had:m.ad=(I:Int)) (hI:I<h.n) :
  Calls Tryz.prog 19 #[.pointer (some ⟨mb,0,none⟩)] w (dJ W L X x s k E D Q mb t sb M T m h σ A rv):=by
 subst eT;have ho:=l.aD;obtain⟨j,hb,hj,hIe⟩:∃j:Nat,m.op.b=(j:Int)/\j<σ.np (q:Int)/\I=A q+1+j:=by
  rcases l.f with⟨-,y⟩|⟨y,-⟩
  ·exact y
  ·exact absurd y (by rw[show m.op.k=3 from hk];omega)
 have hc:=l.c hk;have hc':aG (h.st t) m.c:=by rw[S.st t ht];exact(bf A _ _).2 hc
 have er:aj (h.st t) m.c=bB A (aj (σ.st t) m.c):=by rw[S.st t ht,cL]
 obtain⟨v,hvv⟩:=Da (show 0<=bB A (aj (σ.st t) m.c)by unfold bB;split <;> omega);have hfi:aA (σ.np (aj (σ.st t) m.op.a)) m.op.b:=by rw[l.r,hb];unfold aA;omega
 have eE:bh σ t m.op.a m.op.b m.op.c=0:=by
  unfold bh;rw[if_pos hc,if_neg (by rw[ho];decide),if_pos hfi]
 have ea:bq L.B M h.T σ t m.op=⟨0,0,false⟩:=by
  have:bq L.B M h.T σ t m.op=⟨bh σ t m.op.a m.op.b m.op.c,0,false⟩:=by unfold bq;rw[if_neg (show m.op.k≠1 by show m.k≠1;omega),if_neg (show m.op.k≠2 by show m.k≠2;omega),if_pos (show m.op.k=3 from hk)]
  rw[this,eE]
 have es:σ.setRef (q:Int) (j:Int) (aj (σ.st t) m.c)=aM L.B M h.T σ t m.op:=by
  have:aM L.B M h.T σ t m.op=bU σ t m.op.a m.op.b m.op.c:=by unfold aM;rw[if_neg (show m.op.k≠1 by show m.k≠1;omega),if_neg (show m.op.k≠2 by show m.k≠2;omega),if_pos (show m.op.k=3 from hk)]
  rw[this];unfold bU;rw[if_pos eE,l.r,hb];rfl
 obtain⟨b,hbn,hst2⟩:=kv (W:=W) (L:=L) (X:=X) (x:=x) (s:=s) (k:=k) (mb:=mb) (sb:=sb) (m:=m) hS hT S gk ht hd had hI hc' (er.trans hvv);have HNt:∀(b:Bool) (ad:Int) (f':Nat->Nat),b=cC h.g (h.aN (h.g.av (I:Int))) (I:Int) (v:Int)->(b=true->ad=(I:Int))->gf { h with f:=f' } σ A t m.op b ad:=λb ad f' e1 e2 _ _=>⟨q,j,l.r,hb,l.q1,l.q2,hj,λe3=>by
  rw[<- hIe,show bB A (aj (σ.st t) m.op.c)=(v:Int) from hvv]at e3;rw[<- hIe];exact⟨e1.trans e3,e2 (e1.trans e3)⟩⟩
 refine(ms hS hT H hne hst (λw1 rb1 c1 n1 n2 H1=>hst2 w1 _ (aL n1 hne) H1)).mono ?_;rintro e w' ⟨rfl,hA⟩;have S2:=S.setRef l.q1 l.q2 hj hvv.symm;rw[<- hIe]at S2;rw[<- ea];cases b with
|false=>exact⟨_,x,_,A,rv,MU.zero (m.dn+1),hA,S2,.inl ⟨rfl,hr⟩,dr.refl _,rfl,rfl,rfl,rfl,rfl,λ_ _=>rfl,λ_ _=>rfl,λ_ _=>rfl,.inr (.inr ⟨false,rfl,es,rfl,.inr ⟨rfl,rfl⟩,HNt _ _ _ hbn (λe=>by cases e),λ_ _=>by omega⟩)⟩
|true=>exact⟨_,x,_,A,rv,⟨m.dn+1,0,0,0,0,0,6,(I:Int)⟩,hA,S2,.inr (.inr (.inr (.inr (.inr (.inl ⟨rfl,hr,I,hI,rfl⟩))))),dr.refl _,rfl,rfl,rfl,rfl,rfl,λ_ _=>rfl,λ_ _=>rfl,λ_ _=>rfl,.inr (.inr ⟨true,rfl,es,rfl,.inl ⟨rfl,rfl⟩,HNt _ _ _ hbn (λ_=>rfl),λ_ _=>by omega⟩)⟩
end
structure dR(σ σ':GS)(t:Nat):Prop where
 n:σ.N<=σ'.N
 st:∀i,i≠t->∃l,σ'.st i=σ.st i++l
 np:∀q:Nat,q<=σ.N->σ'.np (q:Int)=σ.np (q:Int)
 nw:∀q:Nat,q<=σ.N->σ'.nw (q:Int)=σ.nw (q:Int)
section
variable {σ σ' σ'':GS}{t:Nat}
theorem dR.refl(σ:GS)(t:Nat):dR σ σ t:=⟨Dd _,λi _=>⟨[],(List.append_nil _).symm⟩,λ_ _=>rfl,λ_ _=>rfl⟩
theorem dR.trans(h:dR σ σ' t)(h':dR σ' σ'' t):dR σ σ'' t:=
 ⟨De h.n h'.n,λi hi=>by
  obtain⟨l,e⟩:=h.st i hi;obtain⟨l',e'⟩:=h'.st i hi;exact⟨l++l',by rw[e',e,List.append_assoc]⟩,λq hq=>(h'.np q (De hq h.n)).trans (h.np q hq),λq hq=>(h'.nw q (De hq h.n)).trans (h.nw q hq)⟩
theorem sW(B:Nat)(l:List Int)(r:Int):∃z,aH B l r=l++z:=by
 unfold aH;split
 ·exact⟨[r],rfl⟩
 ·exact⟨[],(List.append_nil _).symm⟩
theorem dR.jv(σ:GS)(t:Nat)(l:List Int):dR σ (σ.jv t l) t:=
 ⟨Dd _,λi hi=>⟨[],by show ai σ.st t l i=_;rw[az _ _ hi,List.append_nil]⟩,λ_ _=>rfl,λ_ _=>rfl⟩
theorem dR.push(σ:GS)(B t j:Nat)(r:Int):dR σ (σ.push B j r) t:=
 ⟨Dd _,λi _=>by
  show ∃l,ai σ.st j (aH B (σ.st j) r) i=_;by_cases e:i=j
  ·subst e;rw[aq];exact sW B _ r
  ·rw[az _ _ e];exact⟨[],(List.append_nil _).symm⟩,λ_ _=>rfl,λ_ _=>rfl⟩
theorem dR.new(σ:GS)(a b:Int)(t:Nat):dR σ (σ.new a b) t:=
 ⟨Nat.le_succ _,λi _=>⟨[],(List.append_nil _).symm⟩,λq hq=>az _ _ (by omega),λq hq=>az _ _ (by omega)⟩
theorem dR.act(B M T:Nat)(σ:GS)(t:Nat)(o:Po):dR σ (aM B M T σ t o) t:=by
 unfold aM
 repeat' split
 ·unfold bZ
  repeat' split
  ·exact .refl _ _
  ·exact(dR.new σ _ _ t).trans (.push _ _ _ _ _)
  ·exact .refl _ _
 ·unfold dN;split
  ·exact .push _ _ _ _ _
  ·exact .refl _ _
 ·unfold bU;split
  ·exact⟨Dd _,λi _=>⟨[],(List.append_nil _).symm⟩,λ_ _=>rfl,λ_ _=>rfl⟩
  ·exact .refl _ _
 ·unfold cp;split
  ·exact⟨Dd _,λi _=>⟨[],(List.append_nil _).symm⟩,λ_ _=>rfl,λ_ _=>rfl⟩
  ·exact .refl _ _
 ·exact .push _ _ _ _ _
 ·exact .jv _ _ _
 ·unfold jc;split
  ·exact .push _ _ _ _ _
  ·exact .refl _ _
 ·unfold di;split
  ·exact .push _ _ _ _ _
  ·exact .refl _ _
 ·exact .refl _ _
theorem qJ{l z:List Int}{i:Int}(h:aG l i):aG (l++z) i/\aj (l++z) i=aj l i:=by
 have h2:aG (l++z) i:=by
  unfold aG at h ⊢;rw[List.length_append];omega
 refine⟨h2,?_⟩;unfold aj;rw[if_pos h,if_pos h2];unfold aG at h;rw[List.getD_eq_getElem?_getD,List.getD_eq_getElem?_getD,List.getElem?_append_left (show i.toNat<l.length by omega)]
end
section
variable {σ σ':GS}{A A':Nat->Nat}{rv rv':Nat->Option (Nat×Nat)}{t i:Nat}{o:Po}{q I n M:Nat}{m:MU}
theorem cu.later(l:cu σ A i o q I)(h:dR σ σ' t)(hi:i≠t)(hA:∀o,o<=σ.N->A' o=A o):cu σ' A' i o q I:=by
 obtain⟨z,ez⟩:=h.st i hi;obtain⟨h1,h2⟩:=qJ (z:=z) l.a;refine⟨l.q1,De l.q2 h.n,by rw[ez];exact h1,by rw[ez,h2];exact l.r,λhk=>by rw[ez];exact(qJ (l.c hk)).1,?_⟩;rw[h.np q l.q2,h.nw q l.q2,hA q l.q2];exact l.f
theorem Phase.later(p:Phase n M σ A rv i m)(h:dR σ σ' t)(hi:i≠t)(hA:∀o,o<=σ.N->A' o=A o)(hr:rv' i=rv i):Phase n M σ' A' rv' i m:=by
 unfold Phase at p ⊢;rw[hr];rcases p with p|p|p|⟨p1,p2,q,I,l,p3,p4⟩|p|p|⟨p1,p0,p2,q,I,l,p3,p4⟩
 ·exact .inl p
 ·exact .inr (.inl p)
 ·exact .inr (.inr (.inl p))
 ·exact .inr (.inr (.inr (.inl ⟨p1,p2,q,I,l.later h hi hA,p3,p4⟩)))
 ·exact .inr (.inr (.inr (.inr (.inl p))))
 ·exact .inr (.inr (.inr (.inr (.inr (.inl p)))))
 ·exact .inr (.inr (.inr (.inr (.inr (.inr ⟨p1,p0,p2,q,I,l.later h hi hA,p3,p4⟩)))))
end
section
variable {W w w':World}{L:HL}{X:HX}{h h2:HS}{x x2:HT}{s k:Nat}{E:aK}{D:Nat->Prop}{Q:World->Prop}{mb t sb:Nat}{m:MU}
def lS(W:World)(L:HL)(X:HX)(h:HS)(x:HT)(s k:Nat)(E:aK)(D:Nat->Prop)(Q:World->Prop)(mb t sb:Nat)(dn:Nat)(c:Nat)(e:Ending)(w':World):Prop:=
 ∃(wc:Bool) (er:Int) (C':List Nat),Turned x.C (h.R*x.per) (c:Int) true wc er C' /\
  ((wc=false/\e=.returned (bm 0 0 An.zero false false false (.slice none 0 0))/\HM W w' L X h { x with C:=C' } s k ((mb,127,muV L.hb t sb (MU.zero dn))::E) D Q) \/
  (wc=true/\∃F' A n G,e=.returned (bm 0 0 An.zero false false false (.slice A (cP x.qm x.qc x.ql t (c:Int)).length n)) /\
    HM W w' L { X with qF:=F' } h { x with C:=C',qc:=eP x.qm x.qc x.ql t (c:Int),ql:=eU x.ql t (c:Int) } s k ((mb,127,muV L.hb t sb (MU.zero dn))::E) D Q/\Lr w' 3 A (cP x.qm x.qc x.ql t (c:Int)).length n G (zv (cP x.qm x.qc x.ql t (c:Int)))))
theorem sY(hS:ah D Q)(hT:Tab W)(H:HM W w L X h x s k ((mb,127,muV L.hb t sb m)::E) D Q)(hne:∀q,q∈E->q.1≠mb)(ht:t<h.T)(hk:QOk h.T x.qm x.qc x.ql){I c:Nat}(had:m.ad=(I:Int))(hc:h.g.aV (I:Int)=(c:Int)) :
  Calls Tryz.prog 49 #[.pointer (some ⟨mb,0,none⟩)] w (lS W L X h x s k E D Q mb t sb m.dn c):=by
 have hmb:=H.blk (C0 ..);have hlt:=hmb.lt;have hltE:∀q,q∈E->q.1<w.heap.size:=λq hq=>(H.blk (b:=q.1) (t:=q.2.1) (cs:=q.2.2) (CZ _ hq)).lt;have hrm:w.heap.size≠mb:=by omega
 have hrE:∀q,q∈E->q.1≠w.heap.size:=λq hq=>by have:=hltE q hq;omega
 have hneR:∀cs:Array Value,∀q,q∈((w.heap.size,73,cs)::E:aK)->q.1≠mb:=λcs q hq=>by
  rcases C1.1 hq with rfl|hq
  ·exact hrm
  ·exact hne q hq
 have HX0:Hid (HM W (w.alloc (.cells #[.int .i64 0,.int .i64 0,.int .i64 0,.int .u64 0,.bool false,.bool false,.bool false,.bool false,.slice none 0 0] 73)) L X h x s k ((w.heap.size,73,#[.int .i64 0,.int .i64 0,.int .i64 0,.int .u64 0,.bool false,.bool false,.bool false,.bool false,.slice none 0 0])::(mb,127,muV L.hb t sb m)::E) D Q):=H.alloc hS 73 #[.int .i64 0,.int .i64 0,.int .i64 0,.int .u64 0,.bool false,.bool false,.bool false,.bool false,.slice none 0 0];have HAd:Hid (HM W (w.alloc (.cells #[.int .i64 0,.int .i64 0,.int .i64 0,.int .u64 0,.bool false,.bool false,.bool false,.bool false,.slice none 0 0] 73)).drew L X h x s k ((w.heap.size,73,#[.int .i64 0,.int .i64 0,.int .i64 0,.int .u64 0,.bool false,.bool false,.bool false,.bool false,.slice none 0 0])::(mb,127,muV L.hb t sb m)::E) D Q):=HX0.out.fr0 hS (Fr.refl _ _).drew;have HEnd:Hid (∀X' h' x' w' v0 v1 v2 v3 v4 v5 v6 v7 v8,HM W w' L X' h' x' s k ((mb,127,muV L.hb t sb (MU.zero m.dn))::(w.heap.size,73,#[.int .i64 0,.int .i64 0,.int .i64 0,.int .u64 0,.bool false,.bool false,.bool false,.bool false,.slice none 0 0])::E) D Q->HM W (cD w' w.heap.size v0 v1 v2 v3 v4 v5 v6 v7 v8) L X' h' x' s k ((mb,127,muV L.hb t sb (MU.zero m.dn))::E) D Q):=λX' h' x' w' v0 v1 v2 v3 v4 v5 v6 v7 v8 q=>
  q.swap.cS hS hT (λy hy=>by
   rcases C1.1 hy with rfl|hy
   ·exact λe=>hrm e.symm
   ·exact hrE y hy) v0 v1 v2 v3 v4 v5 v6 v7 v8
 have HCd:Hid (∀w',HM W w' L X h x s k ((w.heap.size,73,#[.int .i64 0,.int .i64 0,.int .i64 0,.int .u64 0,.bool false,.bool false,.bool false,.bool false,.slice none 0 0])::(mb,127,muV L.hb t sb m)::E) D Q->Calls Tryz.prog 11 #[.agg #[.int .i64 h.g.words,.int .i64 h.g.rw,.int .i64 h.g.cw,.int .i64 h.g.regions,.int .i64 h.g.aF,.int .i64 h.g.max],.int .i64 (I:Int)] w' λe w''=>e=.returned (.int .i64 (c:Int))/\HM W w'' L X h x s k ((w.heap.size,73,#[.int .i64 0,.int .i64 0,.int .i64 0,.int .u64 0,.bool false,.bool false,.bool false,.bool false,.slice none 0 0])::(mb,127,muV L.hb t sb m)::E) D Q):=λw' q=>by
  have:=q.Cl hS (I:Int);rwa[hc]at this
 have HK1:Hid (∀w',HM W w' L X h x s k ((w.heap.size,73,#[.int .i64 0,.int .i64 0,.int .i64 0,.int .u64 0,.bool false,.bool false,.bool false,.bool false,.slice none 0 0])::(mb,127,muV L.hb t sb m)::E) D Q->w'.cell? ⟨mb,0,none⟩=some (.pointer (some ⟨L.hb,0,none⟩))/\w'.cell? ⟨mb,10,none⟩=some (.int .i64 (I:Int))/\w'.cell? ⟨L.hb,14,none⟩=some (.int .i64 h.g.words)/\w'.cell? ⟨L.hb,15,none⟩=some (.int .i64 h.g.rw)/\w'.cell? ⟨L.hb,16,none⟩=some (.int .i64 h.g.cw)/\w'.cell? ⟨L.hb,17,none⟩=some (.int .i64 h.g.regions)/\w'.cell? ⟨L.hb,18,none⟩=some (.int .i64 h.g.aF)/\w'.cell? ⟨L.hb,19,none⟩=some (.int .i64 h.g.max)):=λw' q=>by
  obtain⟨d14,d15,d16,d17,d18,d19,-,-,-,-,-,-,-,-,-,-⟩:=q.hc;obtain⟨c0,c1,c2,c3,c4,c5,c6,c7,c8,c9,c10⟩:=aJ (q.blk (CZ _ (C0 ..)));rw[had]at c10;exact⟨c0,c10,d14,d15,d16,d17,d18,d19⟩
 have HPu:Hid (∀w',HM W w' L X h x s k ((w.heap.size,73,#[.int .i64 0,.int .i64 0,.int .i64 0,.int .u64 0,.bool false,.bool false,.bool false,.bool false,.slice none 0 0])::(mb,127,muV L.hb t sb m)::E) D Q->HM W (BD w' mb (.int .i64 0) (.int .i64 0) (.int .i64 0) (.int .i64 0) (.int .u64 0) (.int .i64 0) (.int .i64 0)) L X h x s k ((mb,127,muV L.hb t sb (MU.zero m.dn))::(w.heap.size,73,#[.int .i64 0,.int .i64 0,.int .i64 0,.int .u64 0,.bool false,.bool false,.bool false,.bool false,.slice none 0 0])::E) D Q):=λw' q=>HM.Cp hS hT q.swap (hneR _) 0 0 0 0 0 0 0;have HDi:Hid (∀w',HM W w' L X h x s k ((mb,127,muV L.hb t sb (MU.zero m.dn))::(w.heap.size,73,#[.int .i64 0,.int .i64 0,.int .i64 0,.int .u64 0,.bool false,.bool false,.bool false,.bool false,.slice none 0 0])::E) D Q->Calls Tryz.prog 97 #[.pointer (some ⟨X.cb,0,none⟩),.int .i64 (c:Int)] w' λe w''=>∃wc er C',e=.returned (.tuple #[.bool wc,.int .i64 er])/\Turned x.C (h.R*x.per) (c:Int) true wc er C'/\HM W w'' L X h { x with C:=C' } s k ((mb,127,muV L.hb t sb (MU.zero m.dn))::(w.heap.size,73,#[.int .i64 0,.int .i64 0,.int .i64 0,.int .u64 0,.bool false,.bool false,.bool false,.bool false,.slice none 0 0])::E) D Q):=λw' q=>q.ya hS (c:Int);have HQp:Hid (∀w' C',HM W w' L X h { x with C:=C' } s k ((mb,127,muV L.hb t sb (MU.zero m.dn))::(w.heap.size,73,#[.int .i64 0,.int .i64 0,.int .i64 0,.int .u64 0,.bool false,.bool false,.bool false,.bool false,.slice none 0 0])::E) D Q->Calls Tryz.prog 98 #[.pointer (some ⟨X.qb,0,none⟩),.int .i64 (t:Int),.int .i64 (c:Int)] w' λe w''=>∃F' A n G,e=.returned (.tuple #[.slice A (cP x.qm x.qc x.ql t (c:Int)).length n,.int .i64 0]) /\
   HM W w'' L { X with qF:=F' } h { x with C:=C',qc:=eP x.qm x.qc x.ql t (c:Int),ql:=eU x.ql t (c:Int) } s k ((mb,127,muV L.hb t sb (MU.zero m.dn))::(w.heap.size,73,#[.int .i64 0,.int .i64 0,.int .i64 0,.int .u64 0,.bool false,.bool false,.bool false,.bool false,.slice none 0 0])::E) D Q/\Lr w'' 3 A (cP x.qm x.qc x.ql t (c:Int)).length n G (zv (cP x.qm x.qc x.ql t (c:Int)))):=λw' C' q=>HM.Cq (x:={ x with C:=C' }) hS q hk ht (by omega)
 have HK2:Hid (∀w' X' x',X'.qb=X.qb->HM W w' L X' h x' s k ((mb,127,muV L.hb t sb (MU.zero m.dn))::(w.heap.size,73,#[.int .i64 0,.int .i64 0,.int .i64 0,.int .u64 0,.bool false,.bool false,.bool false,.bool false,.slice none 0 0])::E) D Q->w'.cell? ⟨mb,0,none⟩=some (.pointer (some ⟨L.hb,0,none⟩))/\w'.cell? ⟨mb,1,none⟩=some (.int .i64 (t:Int))/\w'.cell? ⟨L.hb,24,none⟩=some (.pointer (some ⟨X.qb,0,none⟩))):=λw' X' x' e1 q=>by
  obtain⟨-,-,-,-,-,-,-,-,-,-,d24,-,-,-,-,-⟩:=q.hc;rw[e1]at d24;obtain⟨c0,c1,c2,c3,c4,c5,c6,c7,c8,c9,c10⟩:=aJ (q.blk (C0 ..));exact⟨c0,c1,d24⟩
 have HC23:Hid (∀w' E',HM W w' L X h x s k E' D Q->w'.cell? ⟨L.hb,23,none⟩=some (.pointer (some ⟨X.cb,0,none⟩))):=λw' E' q=>q.hc.c23;have HRb:Hid (∀w' X' x',HM W w' L X' h x' s k ((mb,127,muV L.hb t sb (MU.zero m.dn))::(w.heap.size,73,#[.int .i64 0,.int .i64 0,.int .i64 0,.int .u64 0,.bool false,.bool false,.bool false,.bool false,.slice none 0 0])::E) D Q->Blk w' w.heap.size 73 #[.int .i64 0,.int .i64 0,.int .i64 0,.int .u64 0,.bool false,.bool false,.bool false,.bool false,.slice none 0 0]):=λw' X' x' q=>q.blk (CZ _ (C0 ..));have HFin:Hid (∀e w',lS W L X h x s k E D Q mb t sb m.dn c e w'->lS W L X h x s k E D Q mb t sb m.dn c e w'):=λe w' p=>p;have K1:=HK1.out _ HAd.out;have NHb:L.hb<w.heap.size:=af H.hc.c20;have NE:mb≠L.hb:=H.blk (C0 ..) |>.apart H.hr.st (by decide)
 have NE':L.hb≠mb:=λe=>NE e.symm;have c0:w.cell? ⟨mb,0,none⟩=some (.pointer (some ⟨L.hb,0,none⟩)):=hmb.cell 0;clear H hmb hltE hne hneR hrm hrE had hc hk ht HX0;go_enter Tryz.func49,Tryz.ntmps49
 go_wp2_with fail
 go_region_held3 (λw'=>w'.cell? ⟨mb,0,none⟩=some (.pointer (some ⟨L.hb,0,none⟩))/\w'.cell? ⟨mb,10,none⟩=some (.int .i64 (I:Int))/\w'.cell? ⟨L.hb,14,none⟩=some (.int .i64 h.g.words)/\w'.cell? ⟨L.hb,15,none⟩=some (.int .i64 h.g.rw)/\w'.cell? ⟨L.hb,16,none⟩=some (.int .i64 h.g.cw)/\w'.cell? ⟨L.hb,17,none⟩=some (.int .i64 h.g.regions)/\w'.cell? ⟨L.hb,18,none⟩=some (.int .i64 h.g.aF)/\w'.cell? ⟨L.hb,19,none⟩=some (.int .i64 h.g.max))
  (first|with_reducible exact K1|go_keep)
  (first|(go_at_call 11;refine(HCd.out _ HAd.out).mono ?_;rintro e w1 ⟨rfl,hA⟩;have HA1:=aa hA;replace K1:=HK1.out _ hA;clear hA))
 all_goals
  clear K1 c0;have hm1:=HA1.out.blk (CZ _ (C0 ..));obtain⟨g0,g1,-,-,g4,g5,g6,g7,g8,g9,g10⟩:=aJ hm1;have gz4:=hm1.frozen 4;have gz5:=hm1.frozen 5;have gz6:=hm1.frozen 6;have gz7:=hm1.frozen 7;have gz8:=hm1.frozen 8;have gz9:=hm1.frozen 9;have gz10:=hm1.frozen 10;have k23:=HC23.out _ _ HA1.out;have NM1:=hm1.lt;have NH1:L.hb<w1.heap.size:=af k23;have HP1:=aa (HPu.out _ HA1.out);have HD1:=aa (HDi.out _ HP1.out);clear hm1;go_wp2_with fail
  refine HD1.out.mono ?_;rintro e w2 ⟨wc,er,C',rfl,hTu,hA⟩;have HTu:=aa hTu;have HA2:=aa hA;have hrb:=HRb.out _ _ _ hA;clear g0 g1 g4 g5 g6 g7 g8 g9 g10 gz4 gz5 gz6 gz7 gz8 gz9 gz10 k23 HD1 hTu;cases wc with
 |false=>
   have y0:=hrb.cell 0;have y1:=hrb.cell 1;have y2:=hrb.cell 2;have y3:=hrb.cell 3;have y4:=hrb.cell 4;have y5:=hrb.cell 5;have y6:=hrb.cell 6;have y7:=hrb.cell 7;have y8:=hrb.cell 8;have z0:=hrb.frozen 0;have z1:=hrb.frozen 1;have z2:=hrb.frozen 2;have z3:=hrb.frozen 3;have z4:=hrb.frozen 4;have z5:=hrb.frozen 5;have z6:=hrb.frozen 6;have z7:=hrb.frozen 7;have z8:=hrb.frozen 8;have NR:=hrb.lt;clear hA hrb;go_wp2_with fail
   refine bodyPost_ret (v:=.agg #[.int .i64 0,.int .i64 0,.int .i64 0,.int .u64 0,.bool false,.bool false,.bool false,.bool false,.slice none 0 0]) (by simp[results,Tryz.results49,go_sem, *]) rfl ?_;exact HFin.out _ _ ⟨false,er,C',HTu.out,.inl ⟨rfl,rfl,HEnd.out _ _ _ _ _ _ _ _ _ _ _ _ _ HA2.out⟩⟩
 |true=>
   have HA2d:=aa (hA.fr0 hS (Fr.refl _ _).drew);have HQ2:=aa (HQp.out _ _ HA2d.out);have K2:=HK2.out _ X _ rfl HA2d.out;clear hA hrb;go_wp2_with fail
   go_region_held3 (λw'=>w'.cell? ⟨mb,0,none⟩=some (.pointer (some ⟨L.hb,0,none⟩))/\w'.cell? ⟨mb,1,none⟩=some (.int .i64 (t:Int))/\w'.cell? ⟨L.hb,24,none⟩=some (.pointer (some ⟨X.qb,0,none⟩)))
    (first|with_reducible exact K2|go_keep)
    (first|(go_at_call 98;refine HQ2.out.mono ?_;rintro e w3 ⟨F',A,n,G,rfl,hA,hL⟩;have HA3:=aa hA;have HL3:=aa hL;have hrb:=HRb.out _ _ _ hA;replace K2:=HK2.out _ { X with qF:=F' } _ rfl hA;have y0:=hrb.cell 0;have z0:=hrb.frozen 0;have y1:=hrb.cell 1;have z1:=hrb.frozen 1;have y2:=hrb.cell 2;have z2:=hrb.frozen 2;have y3:=hrb.cell 3;have z3:=hrb.frozen 3;have y4:=hrb.cell 4;have z4:=hrb.frozen 4;have y5:=hrb.cell 5;have z5:=hrb.frozen 5;have y6:=hrb.cell 6;have z6:=hrb.frozen 6;have y7:=hrb.cell 7;have z7:=hrb.frozen 7;have y8:=hrb.cell 8;have z8:=hrb.frozen 8;have NR:=hrb.lt;clear hA hL hrb))
   all_goals
    clear K2;go_wp2_with fail
    refine bodyPost_ret (v:=.agg #[.int .i64 0,.int .i64 0,.int .i64 0,.int .u64 0,.bool false,.bool false,.bool false,.bool false,.slice A (cP x.qm x.qc x.ql t (c:Int)).length n]) (by simp[results,Tryz.results49,go_sem, *]) rfl ?_;refine HFin.out _ _ ⟨true,er,C',HTu.out,.inr ⟨rfl,F',A,n,G,rfl,HEnd.out _ _ _ _ _ _ _ _ _ _ _ _ _ HA3.out,?_⟩⟩;exact HL3.out.fr (oN _ _ _ _ _ _ _ _ _ _ _) (λg hg hx=>by
     simp at hx;exact HL3.out.apart (HRb.out _ _ _ HA3.out) (by decide) (hx ▸ hg))
end
section
variable {W w w':World}{L:HL}{X:HX}{h h2:HS}{x x2:HT}{s k:Nat}{E:aK}{D:Nat->Prop}{Q:World->Prop}{mb t sb:Nat}{m:MU}
theorem qK(hS:ah D Q)(hT:Tab W)(H:HM W w L X h x s k ((mb,127,muV L.hb t sb m)::E) D Q)(hne:∀q,q∈E->q.1≠mb)(hst:m.st=6)(ht:t<h.T)(hk:QOk h.T x.qm x.qc x.ql){I c:Nat}(had:m.ad=(I:Int))(hc:h.g.aV (I:Int)=(c:Int)) :
  Calls Tryz.prog 19 #[.pointer (some ⟨mb,0,none⟩)] w (lS W L X h x s k E D Q mb t sb m.dn c):=by
 have hmb:=H.blk (C0 ..);have hlt:=hmb.lt;have hltE:∀q,q∈E->q.1<w.heap.size:=λq hq=>(H.blk (b:=q.1) (t:=q.2.1) (cs:=q.2.2) (CZ _ hq)).lt;have hr:w.heap.size≠mb:=by omega
 have hq:∀q,q∈E->q.1≠w.heap.size:=λq hq=>by have:=hltE q hq;omega
 have hneR:∀q,q∈((w.heap.size,73,#[.int .i64 0,.int .i64 0,.int .i64 0,.int .u64 0,.bool false,.bool false,.bool false,.bool false,.slice none 0 0])::E:aK)->q.1≠mb:=λq hq=>by
  rcases C1.1 hq with rfl|hq
  ·exact hr
  ·exact hne q hq
 have HC:=aa (sY hS hT ((H.alloc hS 73 #[.int .i64 0,.int .i64 0,.int .i64 0,.int .u64 0,.bool false,.bool false,.bool false,.bool false,.slice none 0 0]).sub (λy hy=>by simp only[C1]at hy ⊢;rcases hy with e|e|e <;> simp[e]):HM W _ L X h x s k ((mb,127,muV L.hb t sb m)::(w.heap.size,73,#[.int .i64 0,.int .i64 0,.int .i64 0,.int .u64 0,.bool false,.bool false,.bool false,.bool false,.slice none 0 0])::E) D Q) hneR ht hk had hc);have HEnd:Hid (∀X' x' w' v0 v1 v2 v3 v4 v5 v6 v7 v8,HM W w' L X' h x' s k ((mb,127,muV L.hb t sb (MU.zero m.dn))::(w.heap.size,73,#[.int .i64 0,.int .i64 0,.int .i64 0,.int .u64 0,.bool false,.bool false,.bool false,.bool false,.slice none 0 0])::E) D Q->HM W (cD w' w.heap.size v0 v1 v2 v3 v4 v5 v6 v7 v8) L X' h x' s k ((mb,127,muV L.hb t sb (MU.zero m.dn))::E) D Q):=λX' x' w' v0 v1 v2 v3 v4 v5 v6 v7 v8 q=>
  q.swap.cS hS hT (λy hy=>by
   rcases C1.1 hy with rfl|hy
   ·exact λe=>hr e.symm
   ·exact hq y hy) v0 v1 v2 v3 v4 v5 v6 v7 v8
 have HFin:Hid (∀e w',lS W L X h x s k E D Q mb t sb m.dn c e w'->lS W L X h x s k E D Q mb t sb m.dn c e w'):=λe w' p=>p;obtain⟨c0,c1,c2,c3,c4,c5,c6,c7,c8,c9,c10⟩:=aJ hmb;rw[hst]at c9;clear H hmb hltE hne hneR hst hr hq had hc hk ht;go_enter Tryz.func19,Tryz.ntmps19
 go_wp2_with fail
 refine HC.out.mono ?_;rintro e w5 ⟨wc,er,C',hTu,⟨rfl,rfl,hA⟩|⟨rfl,F',A,n,G,rfl,hA,hL⟩⟩
 ·have HTu:=aa hTu;have HA5:=aa hA;have hrb:=hA.blk (CZ _ (C0 ..));have HRB:=aa hrb;have y0:=hrb.cell 0;have y1:=hrb.cell 1;have y2:=hrb.cell 2;have y3:=hrb.cell 3;have y4:=hrb.cell 4;have y5:=hrb.cell 5;have y6:=hrb.cell 6;have y7:=hrb.cell 7;have y8:=hrb.cell 8;have z0:=hrb.frozen 0;have z1:=hrb.frozen 1;have z2:=hrb.frozen 2;have z3:=hrb.frozen 3;have z4:=hrb.frozen 4;have z5:=hrb.frozen 5;have z6:=hrb.frozen 6;have z7:=hrb.frozen 7;have z8:=hrb.frozen 8;have NR:=hrb.lt;clear hA hTu hrb HC c0 c1 c2 c3 c4 c5 c6 c7 c8 c9 c10;unfold bm An.zero;go_wp2_with fail
  refine bodyPost_ret (v:=.agg #[.int .i64 0,.int .i64 0,.int .i64 0,.int .u64 0,.bool false,.bool false,.bool false,.bool false,.slice none 0 0]) (by simp[results,Tryz.results19,go_sem, *]) rfl ?_;exact HFin.out _ _ ⟨false,er,C',HTu.out,.inl ⟨rfl,rfl,HEnd.out _ _ _ _ _ _ _ _ _ _ _ _ HA5.out⟩⟩
 ·have HTu:=aa hTu;have HA5:=aa hA;have HL5:=aa hL;have hrb:=hA.blk (CZ _ (C0 ..));have HRB:=aa hrb;have y0:=hrb.cell 0;have y1:=hrb.cell 1;have y2:=hrb.cell 2;have y3:=hrb.cell 3;have y4:=hrb.cell 4;have y5:=hrb.cell 5;have y6:=hrb.cell 6;have y7:=hrb.cell 7;have y8:=hrb.cell 8;have z0:=hrb.frozen 0;have z1:=hrb.frozen 1;have z2:=hrb.frozen 2;have z3:=hrb.frozen 3;have z4:=hrb.frozen 4;have z5:=hrb.frozen 5;have z6:=hrb.frozen 6;have z7:=hrb.frozen 7;have z8:=hrb.frozen 8;have NR:=hrb.lt;clear hA hTu hrb HC c0 c1 c2 c3 c4 c5 c6 c7 c8 c9 c10 hL;unfold bm An.zero;go_wp2_with fail
  refine bodyPost_ret (v:=.agg #[.int .i64 0,.int .i64 0,.int .i64 0,.int .u64 0,.bool false,.bool false,.bool false,.bool false,.slice A (cP x.qm x.qc x.ql t (c:Int)).length n]) (by simp[results,Tryz.results19,go_sem, *]) rfl ?_;refine HFin.out _ _ ⟨true,er,C',HTu.out,.inr ⟨rfl,F',A,n,G,rfl,HEnd.out _ _ _ _ _ _ _ _ _ _ _ _ HA5.out,?_⟩⟩;exact HL5.out.fr (oN _ _ _ _ _ _ _ _ _ _ _) (λg hg hx=>by
   simp at hx;exact HL5.out.apart HRB.out (by decide) (hx ▸ hg))
end
section
variable {w:World}{hb sb T rc n oc:Nat}{rA oA:Option Addr}
theorem qL(c27:w.cell? ⟨hb,27,none⟩=some (.slice rA T rc))(c1:w.cell? ⟨sb,1,none⟩=some (.slice oA T oc)){t:Nat}(ht:t<T)(hT:T<=64):Calls Tryz.prog 16 #[.pointer (some ⟨hb,0,none⟩),.int .i64 (t:Int),.pointer (some ⟨sb,0,none⟩)] w λe w'=>
  ∃mb,e=.returned (.tuple #[.pointer (some ⟨mb,0,none⟩),.int .i64 0])/\w.heap.size<=mb/\Blk w' mb 127 (muV hb t sb (MU.zero 0))/\Fr [] w w':=by
 have g1:decide ((t:Int)<0)=false:=by simp
 have g2:decide ((t:Int)>=(T:Int))=false:=by simp;omega
 have g2':decide ((T:Int)<=(t:Int))=false:=by simp;omega
 have g4:decide (T<=t)=false:=by simp;omega
 have g3:((T:Int) !=(T:Int))=false:=by simp
 clear ht;go_enter Tryz.func16,Tryz.ntmps16
 go_wp2_with fail
 go_quiet (fail)
 go_wp2_with fail
 go_ret2
 exact⟨_,rfl,Dd _,Blk.new _ _ _,((Fr.refl _ _).drewN _).alloc _⟩
end
open Go.RowKit Go.Gl
def gX(w:World)(tg:TG)(e:TypeId)(kd:Nat)(r:Int)(v:Value)(l:List Int):Prop:=∃A c G,v=.slice A l.length c/\Lr w e A l.length c G (cN l)/\∀g,g∈G->tg g=(kd,r)
structure ML where
 m:Nat
 ov:Value
 sA:Option Addr
 sc:Nat
 sG:List Nat
 S:Nat->Nat
 db:Nat
 rv:Int->Value
 dv:Int->Value
def aQ(S:Nat->Nat)(K:Nat):List Value:=(List.range K).map λi=>.pointer (some ⟨S i,0,none⟩)
theorem oW(S:Nat->Nat){K i:Nat}(h:i<K):(aQ S K)[i]?=some (.pointer (some ⟨S i,0,none⟩)):=by simp[aQ,h]
structure MG(w:World)(tg:TG)(Λ:ML)(K T B M:Nat)(σ:GS):Prop where
 st:Blk w Λ.m 88 #[.int .i64 (M:Int),Λ.ov,.slice Λ.sA K Λ.sc,.slice (some ⟨Λ.db,0,none⟩) T T]
 t1:tg Λ.m=(11,0)
 obj:R2 w 203 Λ.ov σ.N (λk=>Λ.rv ((k:Int)+1)) (λk=>Λ.dv ((k:Int)+1))
 t2:∀b,Λ.ov.ownBlock=some b->tg b=(12,0)
 refs:∀r,1<=r->r<=(σ.N:Int)->gX w tg 154 14 r (Λ.rv r) (kids σ r)
 data:∀r,1<=r->r<=(σ.N:Int)->gX w tg 67 15 r (Λ.dv r) (dk σ r)
 row:Lr w 132 Λ.sA K Λ.sc Λ.sG (aQ Λ.S K)
 t3:∀g,g∈Λ.sG->tg g=(13,0)
 stk:∀i,i<K->∃F,HkR w (Λ.S i) F B (σ.st i)/\∀x,x∈F->tg x=(16,(i:Int))
 don:Blk w Λ.db 3 (aI T λi=>.int .i64 (σ.done i:Int))
 t4:tg Λ.db=(17,0)
 tok:lc w tg
section
variable {w w':World}{tg tg':TG}{F:List Nat}{Λ:ML}{K T B M:Nat}{σ:GS}
theorem gX.fr{e:TypeId}{kd:Nat}{r:Int}{v:Value}{l:List Int}(h:gX w tg e kd r v l)(hf:Fr F w w')(hF:∀x,x∈F->tg x≠(kd,r))(hu:dP w tg tg'):gX w' tg' e kd r v l:=by
 obtain⟨A,c,G,h1,h2,h3⟩:=h;exact⟨A,c,G,h1,h2.fr hf (λg hg hx=>hF g hx (h3 g hg)),λg hg=>(hu g (h2.lt g hg)).trans (h3 g hg)⟩
theorem MG.st'(h:MG w tg Λ K T B M σ)(hf:Fr F w w')(hF:∀x,x∈F->(tg x).1≠11):Blk w' Λ.m 88 #[.int .i64 (M:Int),Λ.ov,.slice Λ.sA K Λ.sc,.slice (some ⟨Λ.db,0,none⟩) T T]:=h.st.fr hf (λhx=>fT hF _ hx h.t1)
theorem MG.vz(h:MG w tg Λ K T B M σ)(hf:Fr F w w')(hF:∀x,x∈F->(tg x).1≠12):R2 w' 203 Λ.ov σ.N (λk=>Λ.rv ((k:Int)+1)) (λk=>Λ.dv ((k:Int)+1)):=h.obj.fr hf (λb hb hx=>fT hF _ hx (h.t2 b hb))
theorem MG.t8(h:MG w tg Λ K T B M σ)(hf:Fr F w w')(hF:∀x,x∈F->(tg x).1≠14)(hu:dP w tg tg'):∀r,1<=r->r<=(σ.N:Int)->gX w' tg' 154 14 r (Λ.rv r) (kids σ r):=λr h1 h2=>(h.refs r h1 h2).fr hf (fT hF) hu
theorem MG.t9(h:MG w tg Λ K T B M σ)(hf:Fr F w w')(hF:∀x,x∈F->(tg x).1≠15)(hu:dP w tg tg'):∀r,1<=r->r<=(σ.N:Int)->gX w' tg' 67 15 r (Λ.dv r) (dk σ r):=λr h1 h2=>(h.data r h1 h2).fr hf (fT hF) hu
theorem MG.vA(h:MG w tg Λ K T B M σ)(hf:Fr F w w')(hF:∀x,x∈F->(tg x).1≠13):Lr w' 132 Λ.sA K Λ.sc Λ.sG (aQ Λ.S K):=h.row.fr hf (λg hg hx=>fT hF _ hx (h.t3 g hg))
theorem MG.sZ(h:MG w tg Λ K T B M σ)(hf:Fr F w w'){i:Nat}(hi:i<K)(hF:∀x,x∈F->tg x≠(16,(i:Int)))(hu:dP w tg tg'):∃F,HkR w' (Λ.S i) F B (σ.st i)/\∀x,x∈F->tg' x=(16,(i:Int)):=by
 obtain⟨G,h1,h2⟩:=h.stk i hi;exact⟨G,h1.fr hf (λx hx hx'=>hF x hx' (h2 x hx)),λx hx=>(hu x (h1.lt x hx)).trans (h2 x hx)⟩
theorem MG.vB(h:MG w tg Λ K T B M σ)(hf:Fr F w w')(hF:∀x,x∈F->(tg x).1≠17):Blk w' Λ.db 3 (aI T λi=>.int .i64 (σ.done i:Int)):=h.don.fr hf (λhx=>fT hF _ hx h.t4)
theorem MG.tags(h:MG w tg Λ K T B M σ)(hu:dP w tg tg'):tg' Λ.m=(11,0)/\(∀b,Λ.ov.ownBlock=some b->tg' b=(12,0))/\(∀g,g∈Λ.sG->tg' g=(13,0))/\tg' Λ.db=(17,0):=
 ⟨(hu _ h.st.lt).trans h.t1,λb hb=>(hu _ (h.obj.lt hb)).trans (h.t2 b hb),λg hg=>(hu _ (h.row.lt g hg)).trans (h.t3 g hg),(hu _ h.don.lt).trans h.t4⟩
theorem MG.fr(h:MG w tg Λ K T B M σ)(hf:Fr F w w')(hF:∀x,x∈F->(tg x).1=0):MG w' tg Λ K T B M σ:=by
 have hk:∀k,k≠0->∀x,x∈F->(tg x).1≠k:=λk hk x hx e=>hk (by rw[<- e,hF x hx]);have hu:=dP.refl w tg;exact⟨h.st' hf (hk 11 (by decide)),h.t1,h.vz hf (hk 12 (by decide)),h.t2,h.t8 hf (hk 14 (by decide)) hu,h.t9 hf (hk 15 (by decide)) hu,h.vA hf (hk 13 (by decide)),h.t3,
  λi hi=>h.sZ hf hi (fT (hk 16 (by decide))) hu,h.vB hf (hk 17 (by decide)),h.t4,zf h.tok hf⟩
theorem MG.fr0(h:MG w tg Λ K T B M σ)(hf:Fr [] w w'):MG w' tg Λ K T B M σ:=h.fr hf (by simp)
theorem MG.c0(h:MG w tg Λ K T B M σ):w.cell? ⟨Λ.m,0,none⟩=some (.int .i64 (M:Int)):=by rw[h.st.cell];rfl
theorem MG.c1(h:MG w tg Λ K T B M σ):w.cell? ⟨Λ.m,1,none⟩=some Λ.ov:=by rw[h.st.cell];rfl
theorem MG.c2(h:MG w tg Λ K T B M σ):w.cell? ⟨Λ.m,2,none⟩=some (.slice Λ.sA K Λ.sc):=by rw[h.st.cell];rfl
theorem MG.c3(h:MG w tg Λ K T B M σ):w.cell? ⟨Λ.m,3,none⟩=some (.slice (some ⟨Λ.db,0,none⟩) T T):=by rw[h.st.cell];rfl
theorem MG.stack(h:MG w tg Λ K T B M σ){i:Nat}(hi:i<K){G G':List Nat}{l:List Int}(h1:HkR w (Λ.S i) G B (σ.st i))(h2:∀x,x∈G->tg x=(16,(i:Int)))(hf:Fr G w w')(k1:HkR w' (Λ.S i) G' B l)(k2:∀x,x∈G'->x∈G\/w.heap.size<=x) :
  ∃tg',MG w' tg' Λ K T B M (σ.jv i l)/\GFr w tg w' tg':=by
 have hu:dP w tg (λx=>if w.heap.size<=x/\x<w'.heap.size then (16,(i:Int)) else tg x):=λb hb=>if_neg (by omega);have ht:lc w' (λx=>if w.heap.size<=x/\x<w'.heap.size then (16,(i:Int)) else tg x):=λb hb=>by
  by_cases e:w.heap.size<=b/\b<w'.heap.size
  ·exact e.2
  ·simp only[if_neg e]at hb;exact Nat.lt_of_lt_of_le (h.tok b hb) hf.size
 have hk:∀k,k≠16->∀x,x∈G->(tg x).1≠k:=λk hk x hx e=>hk (by rw[<- e,h2 x hx]);obtain⟨a1,a2,a3,a4⟩:=h.tags hu;refine⟨_,⟨h.st' hf (hk 11 (by decide)),a1,h.vz hf (hk 12 (by decide)),a2,h.t8 hf (hk 14 (by decide)) hu,h.t9 hf (hk 15 (by decide)) hu,h.vA hf (hk 13 (by decide)),a3,λj hj=>?_,h.vB hf (hk 17 (by decide)),a4,ht⟩,⟨⟨G,hf,hk 0 (by decide)⟩,hu⟩⟩;by_cases e:j=i
 ·subst e;refine⟨G',?_,λx hx=>?_⟩
  ·show HkR w' (Λ.S j) G' B (ai σ.st j l j);rw[aq];exact k1
  ·rcases k2 x hx with h3|h3
   ·have h4:x<w.heap.size:=h1.lt x h3;exact(hu x h4).trans (h2 x h3)
   ·exact if_pos ⟨h3,k1.lt x hx⟩
 ·obtain⟨H,h3,h4⟩:=h.sZ hf hj (λx hx e1=>e (by rw[h2 x hx]at e1;injection e1 with _ e1;omega)) hu;refine⟨H,?_,h4⟩;show HkR w' (Λ.S j) H B (ai σ.st i l j);rw[az _ _ e];exact h3
theorem qM(σ:GS)(r:Int){b:Nat}(y:Int)(x:Int):kids (σ.setRef r (b:Int) y) x=if x=r then (kids σ r).set b y else kids σ x:=by
 unfold kids GS.setRef;by_cases e:x=r
 ·subst e;rw[if_pos rfl];apply List.ext_getElem
  ·simp
  ·intro i h1 h2;simp only[List.getElem_map,List.getElem_range,List.getElem_set];rw[aq];by_cases e2:b=i
   ·subst e2;rw[if_pos rfl,aq]
   ·rw[if_neg e2,az _ _ (by omega)]
 ·rw[if_neg e];apply List.map_congr_left;intro i _;show ai σ.ref r _ x _=_;rw[az _ _ e]
theorem oX(σ:GS)(r:Int){b:Nat}(y:Int)(x:Int):dk (σ.cQ r (b:Int) y) x=if x=r then (dk σ r).set b y else dk σ x:=by
 unfold dk GS.cQ;by_cases e:x=r
 ·subst e;rw[if_pos rfl];apply List.ext_getElem
  ·simp
  ·intro i h1 h2;simp only[List.getElem_map,List.getElem_range,List.getElem_set];rw[aq];by_cases e2:b=i
   ·subst e2;rw[if_pos rfl,aq]
   ·rw[if_neg e2,az _ _ (by omega)]
 ·rw[if_neg e];apply List.map_congr_left;intro i _;show ai σ.dat r _ x _=_;rw[az _ _ e]
theorem gX.put{e:TypeId}{kd:Nat}{r:Int}{g off n c b:Nat}{l:List Int}(h:gX w tg e kd r (.slice (some ⟨g,off,none⟩) n c) l)(hb:b<l.length)(y:Int):gX (w.setCell ⟨g,off+b,none⟩ (.int .u64 y)) tg e kd r (.slice (some ⟨g,off,none⟩) n c) (l.set b y)/\tg g=(kd,r):=by
 obtain⟨A,c',G,h1,h2,h3⟩:=h;injection h1 with q1 q2 q3;subst q1 q2 q3;obtain⟨g',off',e1,e2,_⟩:=h2.pos (by omega);injection e1 with e1;injection e1 with e1;subst e1;refine⟨⟨_,c,G,by rw[List.length_set],?_,h3⟩,h3 g (by simp[e2])⟩;rw[List.length_set,wL];exact h2.put hb _
theorem MG.CT(h:MG w tg Λ K T B M σ){r:Int}{b:Nat}(h1:1<=r)(h2:r<=(σ.N:Int))(hb:b<σ.np r){g off n c:Nat}(hv:Λ.rv r=.slice (some ⟨g,off,none⟩) n c)(y:Int) :
  MG (w.setCell ⟨g,off+b,none⟩ (.int .u64 y)) tg Λ K T B M (σ.setRef r (b:Int) y)/\GFr w tg (w.setCell ⟨g,off+b,none⟩ (.int .u64 y)) tg:=by
 have hr:=h.refs r h1 h2;rw[hv]at hr;obtain⟨hp,ht⟩:=hr.put (by rw[jw];exact hb) y;have hf:Fr [g] w (w.setCell ⟨g,off+b,none⟩ (.int .u64 y)):=(Fr.refl _ _).setCell (p:=⟨g,off+b,none⟩) (.inl (by simp)) _;have hT:∀x,x∈[g]->tg x=(14,r):=λx hx=>by simp at hx;rw[hx];exact ht
 have hk:∀k,k≠14->∀x,x∈[g]->(tg x).1≠k:=λk hk x hx e=>hk (by rw[<- e,hT x hx]);have hu:=dP.refl w tg;refine⟨⟨h.st' hf (hk 11 (by decide)),h.t1,h.vz hf (hk 12 (by decide)),h.t2,λx x1 x2=>?_,h.t9 hf (hk 15 (by decide)) hu,h.vA hf (hk 13 (by decide)),h.t3,
  λi hi=>h.sZ hf hi (fT (hk 16 (by decide))) hu,h.vB hf (hk 17 (by decide)),h.t4,zf h.tok hf⟩,GFr.of hf (hk 0 (by decide))⟩
 rw[qM];by_cases e:x=r
 ·subst e;rw[if_pos rfl,hv];exact hp
 ·rw[if_neg e];exact(h.refs x x1 x2).fr hf (λz hz=>by rw[hT z hz];simp;exact Ne.symm e) hu
theorem MG.CU(h:MG w tg Λ K T B M σ){r:Int}{b:Nat}(h1:1<=r)(h2:r<=(σ.N:Int))(hb:b<σ.nw r){g off n c:Nat}(hv:Λ.dv r=.slice (some ⟨g,off,none⟩) n c)(y:Int) :
  MG (w.setCell ⟨g,off+b,none⟩ (.int .u64 y)) tg Λ K T B M (σ.cQ r (b:Int) y)/\GFr w tg (w.setCell ⟨g,off+b,none⟩ (.int .u64 y)) tg:=by
 have hr:=h.data r h1 h2;rw[hv]at hr;obtain⟨hp,ht⟩:=hr.put (by unfold dk;simpa using hb) y;have hf:Fr [g] w (w.setCell ⟨g,off+b,none⟩ (.int .u64 y)):=(Fr.refl _ _).setCell (p:=⟨g,off+b,none⟩) (.inl (by simp)) _;have hT:∀x,x∈[g]->tg x=(15,r):=λx hx=>by simp at hx;rw[hx];exact ht
 have hk:∀k,k≠15->∀x,x∈[g]->(tg x).1≠k:=λk hk x hx e=>hk (by rw[<- e,hT x hx]);have hu:=dP.refl w tg;refine⟨⟨h.st' hf (hk 11 (by decide)),h.t1,h.vz hf (hk 12 (by decide)),h.t2,h.t8 hf (hk 14 (by decide)) hu,λx x1 x2=>?_,h.vA hf (hk 13 (by decide)),h.t3,
  λi hi=>h.sZ hf hi (fT (hk 16 (by decide))) hu,h.vB hf (hk 17 (by decide)),h.t4,zf h.tok hf⟩,GFr.of hf (hk 0 (by decide))⟩
 rw[oX];by_cases e:x=r
 ·subst e;rw[if_pos rfl,hv];exact hp
 ·rw[if_neg e];exact(h.data x x1 x2).fr hf (λz hz=>by rw[hT z hz];simp;exact Ne.symm e) hu
theorem MG.done(h:MG w tg Λ K T B M σ){i:Nat}(hi:i<T):MG (w.setCell ⟨Λ.db,i,none⟩ (.int .i64 ((σ.done i+1:Nat):Int))) tg Λ K T B M (σ.tick i)/\GFr w tg (w.setCell ⟨Λ.db,i,none⟩ (.int .i64 ((σ.done i+1:Nat):Int))) tg:=by
 have hf:Fr [Λ.db] w (w.setCell ⟨Λ.db,i,none⟩ (.int .i64 ((σ.done i+1:Nat):Int))):=(Fr.refl _ _).setCell (p:=⟨Λ.db,i,none⟩) (.inl (by simp)) _;have hk:∀k,k≠17->∀x,x∈[Λ.db]->(tg x).1≠k:=λk hk x hx e=>hk (by simp at hx;rw[<- e,hx,h.t4]);have hu:=dP.refl w tg;refine⟨⟨h.st' hf (hk 11 (by decide)),h.t1,h.vz hf (hk 12 (by decide)),h.t2,h.t8 hf (hk 14 (by decide)) hu,h.t9 hf (hk 15 (by decide)) hu,h.vA hf (hk 13 (by decide)),h.t3,
  λi hi=>h.sZ hf hi (fT (hk 16 (by decide))) hu,?_,h.t4,zf h.tok hf⟩,GFr.of hf (hk 0 (by decide))⟩
 have:=h.don.put i (.int .i64 ((σ.done i+1:Nat):Int));rw[ib]at this;have e:bC (λi=>Value.int .i64 (σ.done i:Int)) i (.int .i64 ((σ.done i+1:Nat):Int))=λj=>Value.int .i64 ((σ.tick i).done j:Int):=by
  funext j
  show _=Value.int .i64 ((ai σ.done i (σ.done i+1) j:Nat):Int);by_cases e:j=i
  ·subst e;rw[cy,aq]
  ·rw[da _ _ e,az _ _ e]
 rw[e]at this;exact this
end
end Go.Proofs.YtimlkjppaalfaaaGreatDoor
