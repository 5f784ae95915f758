/- Several texts joined (pack.py): Zh Zi Qv Xe Xf Zj. -/
import Derived.Test.YtfcjdinlcehpmaaGreatDoorPW26
import Derived.Test.YtfcjdinlcehpmaaGreatDoorPW27
import Derived.Test.YtfcjdinlcehpmaaGreatDoorPW09
import Derived.Deep.RegionLaw
import Derived.Test.YtfcjdinlcehpmaaGreatDoorPW13
import Derived.WalkKit
import Derived.BigQuiet
import Derived.Deep.RegionHeld3
namespace Go.Proofs.YtfcjdinlcehpmaaGreatDoor
set_option linter.unusedVariables false
set_option linter.unusedSimpArgs false
set_option maxRecDepth 100000
open Go.RowKit Go.Gl HS
section
variable {W w w':World}{L:HL}{X:HX}{h:HS}{x:HT}{s k:Nat}{E:Blks}{D:Nat→Prop}{Q:World→Prop}{mb t sb:Nat}{m:MU}{σ:GS}{A:Nat→Nat}{rv:Nat→Option (Nat×Nat)}{M T:Nat}
theorem Looked.objE{o:Po}{q I:Nat}(l:Looked σ A t o q I):Go.Proofs.YtfcjdinlcehpmaaGreatDoor.objE σ t o.a=0:=by
 have:=l.q1
 unfold Go.Proofs.YtfcjdinlcehpmaaGreatDoor.objE
 rw [if_pos l.a,if_neg (by rw [l.r];omega)]
theorem mtstore_sim(hS:Lives D Q)(hT:Tab W)(S:Sim h σ A rv)(gk:GOk T L.B σ)(ht:t<h.T)(hd:(m.dn:Int)+1≤9223372036854775807){I v:Nat}(had:m.ad=(I:Int))(hI:I<h.n)(hc:hkIn (h.st t) m.c)(hv:hkAt (h.st t) m.c=(v:Int)) :
  ∃b:Bool,b=noteB h.g (h.stateOf (h.g.regionOf (I:Int))) (I:Int) (v:Int)∧∀w' E',(∀q,q∈E'→q.1≠mb)→HM W w' L X h x s k ((mb,96,muV L.hb t sb m)::E') D Q→Calls Tryz.prog 33 #[.pointer (some ⟨mb,0,none⟩)] w' fun e w''=>e=.returned (resV (t:Int) (m.dn:Int) ⟨0,0,false⟩ true b false (.slice none 0 0)) ∧
   HM W w'' L X { h with f:=upd h.f I v } x s k ((mb,96,muV L.hb t sb (if b=true then ⟨m.dn+1,0,0,0,0,0,6,(I:Int)⟩ else MU.zero (m.dn+1)))::E') D Q:=by
 cases hnb:noteB h.g (h.stateOf (h.g.regionOf (I:Int))) (I:Int) (v:Int)with
 | false=>exact⟨false,rfl,fun w' E' n H2=>mtstore_no hS hT H2 n ht hd had hI hc hv hnb⟩
 | true=>exact⟨true,rfl,fun w' E' n H2=>mtstore_note hS hT H2 n ht hd had hI hc hv hnb⟩
theorem step_looked(hS:Lives D Q)(hT:Tab W)(H:HM W w L X h x s k ((mb,96,muV L.hb t sb m)::E) D Q)(hne:∀q,q∈E→q.1≠mb)(hst:m.st=3)(hd:(m.dn:Int)+1≤9223372036854775807)
  (S:Sim h σ A rv) (gk:GOk T L.B σ) (eT:h.T=T) (ht:t<T) (hB:L.B≤64) (hr:rv t=none) {q I:Nat} (l:Looked σ A t m.op q I) (had:m.ad=(I:Int)) (hI:I<h.n) (hv:0≤m.v∧m.v<18446744073709551616) (hms:m.k=3→∃sv:Value,(sb,40,#[.bool false,sv])∈E) :
  Calls Tryz.prog 13 #[.pointer (some ⟨mb,0,none⟩)] w (StepP W L X x s k E D Q mb t sb M T m h σ A rv):=by
 subst eT
 have hle:(h.st t).length≤L.B:=by rw [S.st t ht,List.length_map];exact gk.len t
 have hlen:(h.st t).length=(σ.st t).length:=by rw [S.st t ht,List.length_map]
 have ho:=l.objE
 rcases l.f with⟨hk,j,hb,hj,hIe⟩ | ⟨hk,j,hb,hj,hIe⟩
 ·rcases hk with hk | hk
  ·have hk:m.k=2:=hk
   have hf:(h.f I:Int)=refO A (σ.ref (q:Int) (j:Int)):=by rw [hIe];exact S.ref q l.q1 l.q2 j hj
   have hfi:fieldIn (σ.np (hkAt (σ.st t) m.op.a)) m.op.b:=by rw [l.r,hb];unfold fieldIn;omega
   have ea:actA L.B M h.T σ t m.op=⟨hkPushE L.B (h.st t),0,false⟩:=by
    have:actA L.B M h.T σ t m.op=⟨loadE L.B σ t m.op.a m.op.b,0,false⟩:=by unfold actA;rw [if_neg (show m.op.k≠1 by show m.k≠1;omega),if_pos (show m.op.k=2 from hk)]
    rw [this]
    unfold loadE hkPushE
    rw [if_neg (by rw [ho];decide),if_pos hfi,hlen]
   have es:σ.push L.B t (σ.ref (q:Int) (j:Int))=actS L.B M h.T σ t m.op:=by
    have:actS L.B M h.T σ t m.op=loadS L.B σ t m.op.a m.op.b:=by unfold actS;rw [if_neg (show m.op.k≠1 by show m.k≠1;omega),if_pos (show m.op.k=2 from hk)]
    rw [this]
    unfold loadS
    rw [if_pos ⟨ho,hfi⟩,l.r,hb]
   refine(mtstep_looked hS hT H hne hst (fun w1 rb1 c1 n1 n2 H1=>mtuse_load hS hT H1 (ne_cons n1 hne) hk ht hd had hI hB hle)).mono ?_
   rintro e w' ⟨rfl,hA⟩
   rw [hf]at hA
   have:=StepP.answered (M:=M) (T:=h.T) (m:=m) (h:=h) (σ:=σ) hA (S.push ht (σ.ref (q:Int) (j:Int))) hr rfl rfl rfl rfl rfl es (fun _ _=>rfl) (fun e=>by have:m.k=3:=e.1;omega)
   rw [ea]at this
   exact this
  ·have hk:m.k=3:=hk
   obtain⟨sv,hms⟩:=hms hk
   have hc:=l.c hk
   have hc':hkIn (h.st t) m.c:=by rw [S.st t ht];exact(hkIn_map A _ _).2 hc
   have er:hkAt (h.st t) m.c=refO A (hkAt (σ.st t) m.c):=by rw [S.st t ht,hkAt_map]
   obtain⟨v,hvv⟩:=Int.eq_ofNat_of_zero_le (show 0≤refO A (hkAt (σ.st t) m.c)by unfold refO;split <;> omega)
   have hfi:fieldIn (σ.np (hkAt (σ.st t) m.op.a)) m.op.b:=by rw [l.r,hb];unfold fieldIn;omega
   have eE:storeE σ t m.op.a m.op.b m.op.c=0:=by
    unfold storeE
    rw [if_pos hc,if_neg (by rw [ho];decide),if_pos hfi]
   have ea:actA L.B M h.T σ t m.op=⟨0,0,false⟩:=by
    have:actA L.B M h.T σ t m.op=⟨storeE σ t m.op.a m.op.b m.op.c,0,false⟩:=by unfold actA;rw [if_neg (show m.op.k≠1 by show m.k≠1;omega),if_neg (show m.op.k≠2 by show m.k≠2;omega),if_pos (show m.op.k=3 from hk)]
    rw [this,eE]
   have es:σ.setRef (q:Int) (j:Int) (hkAt (σ.st t) m.c)=actS L.B M h.T σ t m.op:=by
    have:actS L.B M h.T σ t m.op=storeS σ t m.op.a m.op.b m.op.c:=by unfold actS;rw [if_neg (show m.op.k≠1 by show m.k≠1;omega),if_neg (show m.op.k≠2 by show m.k≠2;omega),if_pos (show m.op.k=3 from hk)]
    rw [this]
    unfold storeS
    rw [if_pos eE,l.r,hb]
    rfl
   obtain⟨b,hbn,hst2⟩:=mtstore_sim (W:=W) (L:=L) (X:=X) (x:=x) (s:=s) (k:=k) (mb:=mb) (sb:=sb) (m:=m) hS hT S gk ht hd had hI hc' (er.trans hvv)
   have HNt:∀(b:Bool) (ad:Int) (f':Nat→Nat),b=noteB h.g (h.stateOf (h.g.regionOf (I:Int))) (I:Int) (v:Int)→(b=true→ad=(I:Int))→NotedS { h with f:=f' } σ A t m.op b ad:=fun b ad f' e1 e2 _ _=>⟨q,j,l.r,hb,l.q1,l.q2,hj,fun e3=>by
    rw [← hIe,show refO A (hkAt (σ.st t) m.op.c)=(v:Int) from hvv]at e3
    rw [← hIe]
    exact⟨e1.trans e3,e2 (e1.trans e3)⟩⟩
   refine(mtstep_looked hS hT H hne hst (fun w1 rb1 c1 n1 n2 H1=>mtuse_store hS hT H1 (ne_cons n1 hne) hk (List.mem_cons_of_mem _ hms) (fun w2 E2 n3 _ H2=>hst2 w2 E2 n3 H2))).mono ?_
   rintro e w' ⟨rfl,hA⟩
   have S2:=S.setRef l.q1 l.q2 hj hvv.symm
   rw [← hIe]at S2
   rw [← ea]
   cases b with
   | false=>exact⟨_,x,_,A,rv,MU.zero (m.dn+1),hA,S2,.inl ⟨rfl,hr⟩,SameQ.refl _,rfl,rfl,rfl,rfl,rfl,fun _ _=>rfl,fun _ _=>rfl,fun _ _=>rfl,.inr (.inr ⟨false,rfl,es,rfl,.inr ⟨rfl,rfl⟩,HNt _ _ _ hbn (fun e=>by cases e),fun _ _=>by omega⟩)⟩
   | true=>exact⟨_,x,_,A,rv,⟨m.dn+1,0,0,0,0,0,6,(I:Int)⟩,hA,S2,.inr (.inr (.inr (.inr (.inr (.inl ⟨rfl,hr,I,hI,rfl⟩))))),SameQ.refl _,rfl,rfl,rfl,rfl,rfl,fun _ _=>rfl,fun _ _=>rfl,fun _ _=>rfl,.inr (.inr ⟨true,rfl,es,rfl,.inl ⟨rfl,rfl⟩,HNt _ _ _ hbn (fun _=>rfl),fun _ _=>by omega⟩)⟩
 ·have hfi:fieldIn (σ.nw (hkAt (σ.st t) m.op.a)) m.op.b:=by rw [l.r,hb];unfold fieldIn;omega
  have eE:wordE σ t m.op.a m.op.b=0:=by
   unfold wordE
   rw [if_neg (by rw [ho];decide),if_pos hfi]
  rcases hk with hk | hk
  ·have hk:m.k=4:=hk
   have hf:(h.f I:Int)=σ.dat (q:Int) (j:Int):=by rw [hIe];exact S.dat q l.q1 l.q2 j hj
   have ea:actA L.B M h.T σ t m.op=⟨0,(h.f I:Int),false⟩:=by
    have:actA L.B M h.T σ t m.op=⟨wordE σ t m.op.a m.op.b,readV σ t m.op.a m.op.b,false⟩:=by unfold actA;rw [if_neg (show m.op.k≠1 by show m.k≠1;omega),if_neg (show m.op.k≠2 by show m.k≠2;omega),if_neg (show m.op.k≠3 by show m.k≠3;omega),if_pos (show m.op.k=4 from hk)]
    rw [this,eE]
    unfold readV
    rw [if_pos eE,l.r,hb,hf]
   have es:σ=actS L.B M h.T σ t m.op:=by
    unfold actS
    rw [if_neg (show m.op.k≠1 by show m.k≠1;omega),if_neg (show m.op.k≠2 by show m.k≠2;omega),if_neg (show m.op.k≠3 by show m.k≠3;omega),if_neg (show m.op.k≠5 by show m.k≠5;omega),if_neg (show m.op.k≠6 by show m.k≠6;omega),if_neg (show m.op.k≠7 by show m.k≠7;omega),if_neg (show m.op.k≠8 by show m.k≠8;omega),if_neg (show m.op.k≠13 by show m.k≠13;omega)]
   refine(mtstep_looked hS hT H hne hst (fun w1 rb1 c1 n1 n2 H1=>mtuse_read hS hT H1 (ne_cons n1 hne) hk ht hd had hI)).mono ?_
   rintro e w' ⟨rfl,hA⟩
   have:=StepP.answered (M:=M) (T:=h.T) (m:=m) (h:=h) (σ:=σ) hA S hr rfl rfl rfl rfl rfl es (fun _ _=>rfl) (fun e=>by have:m.k=3:=e.1;omega)
   rw [ea]at this
   exact this
  ·have hk:m.k=5:=hk
   obtain⟨v,hvv⟩:=Int.eq_ofNat_of_zero_le hv.1
   have ea:actA L.B M h.T σ t m.op=⟨0,0,false⟩:=by
    have:actA L.B M h.T σ t m.op=⟨wordE σ t m.op.a m.op.b,0,false⟩:=by unfold actA;rw [if_neg (show m.op.k≠1 by show m.k≠1;omega),if_neg (show m.op.k≠2 by show m.k≠2;omega),if_neg (show m.op.k≠3 by show m.k≠3;omega),if_neg (show m.op.k≠4 by show m.k≠4;omega),if_pos (show m.op.k=5 from hk)]
    rw [this,eE]
   have es:σ.setDat (q:Int) (j:Int) (v:Int)=actS L.B M h.T σ t m.op:=by
    have:actS L.B M h.T σ t m.op=writeS σ t m.op.a m.op.b m.op.v:=by unfold actS;rw [if_neg (show m.op.k≠1 by show m.k≠1;omega),if_neg (show m.op.k≠2 by show m.k≠2;omega),if_neg (show m.op.k≠3 by show m.k≠3;omega),if_pos (show m.op.k=5 from hk)]
    rw [this]
    unfold writeS
    rw [if_pos eE,l.r,hb,show m.op.v=(v:Int) from hvv]
   refine(mtstep_looked hS hT H hne hst (fun w1 rb1 c1 n1 n2 H1=>mtuse_write hS hT H1 (ne_cons n1 hne) hk ht hd had hI hvv (by omega))).mono ?_
   rintro e w' ⟨rfl,hA⟩
   have S2:=S.setDat (v:=v) l.q1 l.q2 hj
   rw [← hIe]at S2
   have:=StepP.answered (M:=M) (T:=h.T) (m:=m) (h:=h) (σ:=σ) hA S2 hr rfl rfl rfl rfl rfl es (fun _ _=>rfl) (fun e=>by have:m.k=3:=e.1;omega)
   rw [ea]at this
   exact this
theorem step_logged(hS:Lives D Q)(hT:Tab W)(H:HM W w L X h x s k ((mb,96,muV L.hb t sb m)::E) D Q)(hne:∀q,q∈E→q.1≠mb)(hst:m.st=4)(hk:m.k=3)(hd:(m.dn:Int)+1≤9223372036854775807)
  (S:Sim h σ A rv) (gk:GOk T L.B σ) (eT:h.T=T) (ht:t<T) (hr:rv t=none) {q I:Nat} (l:Looked σ A t m.op q I) (had:m.ad=(I:Int)) (hI:I<h.n) :
  Calls Tryz.prog 13 #[.pointer (some ⟨mb,0,none⟩)] w (StepP W L X x s k E D Q mb t sb M T m h σ A rv):=by
 subst eT
 have ho:=l.objE
 obtain⟨j,hb,hj,hIe⟩:∃j:Nat,m.op.b=(j:Int)∧j<σ.np (q:Int)∧I=A q+1+j:=by
  rcases l.f with⟨-,y⟩ | ⟨y,-⟩
  ·exact y
  ·exact absurd y (by rw [show m.op.k=3 from hk];omega)
 have hc:=l.c hk
 have hc':hkIn (h.st t) m.c:=by rw [S.st t ht];exact(hkIn_map A _ _).2 hc
 have er:hkAt (h.st t) m.c=refO A (hkAt (σ.st t) m.c):=by rw [S.st t ht,hkAt_map]
 obtain⟨v,hvv⟩:=Int.eq_ofNat_of_zero_le (show 0≤refO A (hkAt (σ.st t) m.c)by unfold refO;split <;> omega)
 have hfi:fieldIn (σ.np (hkAt (σ.st t) m.op.a)) m.op.b:=by rw [l.r,hb];unfold fieldIn;omega
 have eE:storeE σ t m.op.a m.op.b m.op.c=0:=by
  unfold storeE
  rw [if_pos hc,if_neg (by rw [ho];decide),if_pos hfi]
 have ea:actA L.B M h.T σ t m.op=⟨0,0,false⟩:=by
  have:actA L.B M h.T σ t m.op=⟨storeE σ t m.op.a m.op.b m.op.c,0,false⟩:=by unfold actA;rw [if_neg (show m.op.k≠1 by show m.k≠1;omega),if_neg (show m.op.k≠2 by show m.k≠2;omega),if_pos (show m.op.k=3 from hk)]
  rw [this,eE]
 have es:σ.setRef (q:Int) (j:Int) (hkAt (σ.st t) m.c)=actS L.B M h.T σ t m.op:=by
  have:actS L.B M h.T σ t m.op=storeS σ t m.op.a m.op.b m.op.c:=by unfold actS;rw [if_neg (show m.op.k≠1 by show m.k≠1;omega),if_neg (show m.op.k≠2 by show m.k≠2;omega),if_pos (show m.op.k=3 from hk)]
  rw [this]
  unfold storeS
  rw [if_pos eE,l.r,hb]
  rfl
 obtain⟨b,hbn,hst2⟩:=mtstore_sim (W:=W) (L:=L) (X:=X) (x:=x) (s:=s) (k:=k) (mb:=mb) (sb:=sb) (m:=m) hS hT S gk ht hd had hI hc' (er.trans hvv)
 have HNt:∀(b:Bool) (ad:Int) (f':Nat→Nat),b=noteB h.g (h.stateOf (h.g.regionOf (I:Int))) (I:Int) (v:Int)→(b=true→ad=(I:Int))→NotedS { h with f:=f' } σ A t m.op b ad:=fun b ad f' e1 e2 _ _=>⟨q,j,l.r,hb,l.q1,l.q2,hj,fun e3=>by
  rw [← hIe,show refO A (hkAt (σ.st t) m.op.c)=(v:Int) from hvv]at e3
  rw [← hIe]
  exact⟨e1.trans e3,e2 (e1.trans e3)⟩⟩
 refine(mtstep_logged hS hT H hne hst (fun w1 rb1 c1 n1 n2 H1=>hst2 w1 _ (ne_cons n1 hne) H1)).mono ?_
 rintro e w' ⟨rfl,hA⟩
 have S2:=S.setRef l.q1 l.q2 hj hvv.symm
 rw [← hIe]at S2
 rw [← ea]
 cases b with
 | false=>exact⟨_,x,_,A,rv,MU.zero (m.dn+1),hA,S2,.inl ⟨rfl,hr⟩,SameQ.refl _,rfl,rfl,rfl,rfl,rfl,fun _ _=>rfl,fun _ _=>rfl,fun _ _=>rfl,.inr (.inr ⟨false,rfl,es,rfl,.inr ⟨rfl,rfl⟩,HNt _ _ _ hbn (fun e=>by cases e),fun _ _=>by omega⟩)⟩
 | true=>exact⟨_,x,_,A,rv,⟨m.dn+1,0,0,0,0,0,6,(I:Int)⟩,hA,S2,.inr (.inr (.inr (.inr (.inr (.inl ⟨rfl,hr,I,hI,rfl⟩))))),SameQ.refl _,rfl,rfl,rfl,rfl,rfl,fun _ _=>rfl,fun _ _=>rfl,fun _ _=>rfl,.inr (.inr ⟨true,rfl,es,rfl,.inl ⟨rfl,rfl⟩,HNt _ _ _ hbn (fun _=>rfl),fun _ _=>by omega⟩)⟩
end
structure Later(σ σ':GS)(t:Nat):Prop where
 n:σ.N≤σ'.N
 st:∀i,i≠t→∃l,σ'.st i=σ.st i++l
 np:∀q:Nat,q≤σ.N→σ'.np (q:Int)=σ.np (q:Int)
 nw:∀q:Nat,q≤σ.N→σ'.nw (q:Int)=σ.nw (q:Int)
section
variable {σ σ' σ'':GS}{t:Nat}
theorem Later.refl(σ:GS)(t:Nat):Later σ σ t:=⟨Nat.le_refl _,fun i _=>⟨[],(List.append_nil _).symm⟩,fun _ _=>rfl,fun _ _=>rfl⟩
theorem Later.trans(h:Later σ σ' t)(h':Later σ' σ'' t):Later σ σ'' t:=
 ⟨Nat.le_trans h.n h'.n,fun i hi=>by
  obtain⟨l,e⟩:=h.st i hi
  obtain⟨l',e'⟩:=h'.st i hi
  exact⟨l++l',by rw [e',e,List.append_assoc]⟩,fun q hq=>(h'.np q (Nat.le_trans hq h.n)).trans (h.np q hq),fun q hq=>(h'.nw q (Nat.le_trans hq h.n)).trans (h.nw q hq)⟩
theorem hkPush_app(B:Nat)(l:List Int)(r:Int):∃z,hkPush B l r=l++z:=by
 unfold hkPush
 split
 ·exact⟨[r],rfl⟩
 ·exact⟨[],(List.append_nil _).symm⟩
theorem Later.setSt(σ:GS)(t:Nat)(l:List Int):Later σ (σ.setSt t l) t:=
 ⟨Nat.le_refl _,fun i hi=>⟨[],by show setF σ.st t l i=_;rw [setF_ne _ _ hi,List.append_nil]⟩,fun _ _=>rfl,fun _ _=>rfl⟩
theorem Later.push(σ:GS)(B t j:Nat)(r:Int):Later σ (σ.push B j r) t:=
 ⟨Nat.le_refl _,fun i _=>by
  show ∃l,setF σ.st j (hkPush B (σ.st j) r) i=_
  by_cases e:i=j
  ·subst e;rw [setF_at];exact hkPush_app B _ r
  ·rw [setF_ne _ _ e];exact⟨[],(List.append_nil _).symm⟩,fun _ _=>rfl,fun _ _=>rfl⟩
theorem Later.new(σ:GS)(a b:Int)(t:Nat):Later σ (σ.new a b) t:=
 ⟨Nat.le_succ _,fun i _=>⟨[],(List.append_nil _).symm⟩,fun q hq=>setF_ne _ _ (by omega),fun q hq=>setF_ne _ _ (by omega)⟩
theorem Later.act(B M T:Nat)(σ:GS)(t:Nat)(o:Po):Later σ (actS B M T σ t o) t:=by
 unfold actS
 repeat' split
 ·unfold allocS
  repeat' split
  ·exact .refl _ _
  ·exact(Later.new σ _ _ t).trans (.push _ _ _ _ _)
  ·exact .refl _ _
 ·unfold loadS
  split
  ·exact .push _ _ _ _ _
  ·exact .refl _ _
 ·unfold storeS
  split
  ·exact⟨Nat.le_refl _,fun i _=>⟨[],(List.append_nil _).symm⟩,fun _ _=>rfl,fun _ _=>rfl⟩
  ·exact .refl _ _
 ·unfold writeS
  split
  ·exact⟨Nat.le_refl _,fun i _=>⟨[],(List.append_nil _).symm⟩,fun _ _=>rfl,fun _ _=>rfl⟩
  ·exact .refl _ _
 ·exact .push _ _ _ _ _
 ·exact .setSt _ _ _
 ·unfold dupS
  split
  ·exact .push _ _ _ _ _
  ·exact .refl _ _
 ·unfold sendS
  split
  ·exact .push _ _ _ _ _
  ·exact .refl _ _
 ·exact .refl _ _
theorem hkIn_app{l z:List Int}{i:Int}(h:hkIn l i):hkIn (l++z) i∧hkAt (l++z) i=hkAt l i:=by
 have h2:hkIn (l++z) i:=by
  unfold hkIn at h ⊢
  rw [List.length_append]
  omega
 refine⟨h2,?_⟩
 unfold hkAt
 rw [if_pos h,if_pos h2]
 unfold hkIn at h
 rw [List.getD_eq_getElem?_getD,List.getD_eq_getElem?_getD,List.getElem?_append_left (show i.toNat<l.length by omega)]
end
section
variable {σ σ':GS}{A A':Nat→Nat}{rv rv':Nat→Option (Nat×Nat)}{t i:Nat}{o:Po}{q I n M:Nat}{m:MU}
theorem Looked.later(l:Looked σ A i o q I)(h:Later σ σ' t)(hi:i≠t)(hA:∀o,o≤σ.N→A' o=A o):Looked σ' A' i o q I:=by
 obtain⟨z,ez⟩:=h.st i hi
 obtain⟨h1,h2⟩:=hkIn_app (z:=z) l.a
 refine⟨l.q1,Nat.le_trans l.q2 h.n,by rw [ez];exact h1,by rw [ez,h2];exact l.r,fun hk=>by rw [ez];exact(hkIn_app (l.c hk)).1,?_⟩
 rw [h.np q l.q2,h.nw q l.q2,hA q l.q2]
 exact l.f
theorem Phase.later(p:Phase n M σ A rv i m)(h:Later σ σ' t)(hi:i≠t)(hA:∀o,o≤σ.N→A' o=A o)(hr:rv' i=rv i):Phase n M σ' A' rv' i m:=by
 unfold Phase at p ⊢
 rw [hr]
 rcases p with p | p | p | ⟨p1,p2,q,I,l,p3,p4⟩ | p | p | ⟨p1,p0,p2,q,I,l,p3,p4⟩
 ·exact .inl p
 ·exact .inr (.inl p)
 ·exact .inr (.inr (.inl p))
 ·exact .inr (.inr (.inr (.inl ⟨p1,p2,q,I,l.later h hi hA,p3,p4⟩)))
 ·exact .inr (.inr (.inr (.inr (.inl p))))
 ·exact .inr (.inr (.inr (.inr (.inr (.inl p)))))
 ·exact .inr (.inr (.inr (.inr (.inr (.inr ⟨p1,p0,p2,q,I,l.later h hi hA,p3,p4⟩)))))
end
open Go.RowKit Go.Gl
def QRes(w:World)(F:List Nat)(Q:World→List Nat→Prop)(over:List Int)(er:Int)(e:Ending)(w':World):Prop:=
 ∃F' A c G,e=.returned (.tuple #[.slice A over.length c,.int .i64 er])∧Q w' F'∧Lr w' 3 A over.length c G (zv over)∧Fr F w w'∧(∀x,x∈F'→x∈F∨w.heap.size≤x)∧∀g,g∈G→g∉F'∧(g∈F∨w.heap.size≤g)
def QLst(w:World)(F:List Nat)(Q:World→List Nat→Prop)(over:List Int)(e:Ending)(w':World):Prop:=
 ∃F' A c G,e=.returned (.slice A over.length c)∧Q w' F'∧Lr w' 3 A over.length c G (zv over)∧Fr F w w'∧(∀x,x∈F'→x∈F∨w.heap.size≤x)∧∀g,g∈G→g∉F'∧(g∈F∨w.heap.size≤g)
theorem qhand_any{w:World}{q tb n B:Nat}{A:Option Addr}{c:Nat}{C:List Int}{G0:List Nat}{V:Nat→Value}{G:Nat→List Nat}{O:Nat→List Int}(h:Qk w q tb n B A c C G0 V G O)
  (hn:n≤64) (hb:B≤65536) (hc:C.length≤B) (t:Nat) (ht:t<n) (ho:(O t).length=4) :
  Calls Tryz.prog 99 #[.pointer (some ⟨q,0,none⟩),.int .i64 (t:Int)] w (QLst w (foot q tb n G0 G) (fun w' F'=>Qq w' q F' n B (C++(O t).take (B-C.length)) (putF O t [])) ((O t).drop (B-C.length))):=by
 obtain⟨i0,hi,hz0,hz1,hz2⟩:=info_parts Tryz.info_int
 obtain⟨A1,c1,e1,e2⟩:=h.ls.own t ht
 obtain⟨g,off,rfl,hG,hg,hx,_,_⟩:=e2.pos (by omega)
 have HE1:=hide e1
 have hct:=Qk.cw h ht
 rw [e1,ho]at hct
 have c0:=Qk.c0 h
 have c1':=Qk.c1 h
 have c2:=Qk.c2 h
 have z0:=h.st.frozen 0
 have zt:=h.ls.tab.frozen t
 have H:=hide h
 have HL:=hide e2
 rw [ho]at HL
 have hl1:=HL.out.le
 have hl2:=HL.out.max
 unfold maxLen at hl2
 clear h e1 e2 hx
 obtain⟨R,hR⟩:∃R:Nat,R=B-C.length:=⟨_,rfl⟩
 have hwr:IntKind.i64.wrap ((B:Int)-(C.length:Int))=(R:Int):=by
  rw [show(B:Int)-(C.length:Int)=(R:Int)by omega]
  exact IntWalk.i64_in _ ⟨by omega,by omega⟩
 rw [← hR]
 clear hR
 obtain⟨R4,hR4,hmin,htk,hdr⟩:∃R4:Nat,R4≤4∧(if (R:Int)<4 then (R:Int) else 4)=(R4:Int)∧(O t).take R=(O t).take R4∧(O t).drop R=(O t).drop R4:=by
  by_cases hr:R<4
  ·exact⟨R,by omega,by rw [if_pos (by omega)],rfl,rfl⟩
  ·exact⟨4,by omega,by rw [if_neg (by omega)];rfl,by rw [List.take_of_length_le (by omega),List.take_of_length_le (by omega)],by rw [List.drop_of_length_le (by omega),List.drop_of_length_le (by omega)]⟩
 have hmin2:min (4:Int) (R:Int)=(R4:Int):=by rw [← hmin,Int.min_def];split <;> split <;> omega
 rw [htk,hdr]
 clear htk hdr
 have HK:=hide (HL.out.keep R4 hR4)
 have HN:Hid (((zv (O t)).take R4).length=R4∧∀u∈(zv (O t)).take R4,u.oneCell'=true):=⟨HK.out.len,fun u hu=>zv_one _ u (List.mem_of_mem_take hu)⟩
 have HB:Hid (C.length+R4≤maxLen∧(C.length+R4)*8≤140737488355328):=⟨by unfold maxLen;omega,by omega⟩
 have HFZ:Hid (∀w' i,Fr G0 (w.drewN i) w'→w'.cell? ⟨q,0,none⟩=some (.slice A C.length c)∧w'.frozen? ⟨q,0,none⟩=false):=fun w' i hf=>by
  have hb:=(H.out.st.drewN i).fr hf (H.out.com.apart H.out.st (by decide))
  exact⟨by rw [hb.cell];rfl,hb.frozen 0⟩
 have hrc:R4≤c1:=by omega
 go_enter Tryz.func99,Tryz.ntmps99
 go_wp2_with fail
 go_quiet (fail)
 go_wp2_with fail
 go_region_law (first | (refine step_append_lr rfl _ _ 34 rfl 3 i0 (.int .i64 0) 8 Tryz.underlying34 hi hz0 hz1 hz2 rfl rfl (H.out.com.fr0 ((Fr.refl _ _).drewN _)) rfl HN.out.1 (HK.out.fr0 ((Fr.refl _ _).drewN _)).read HN.out.2 HB.out.1 HB.out.2 ?_;intro A' c' G' w' HLn HFn HGn;have d0:=(HFZ.out _ _ HFn.out).1;have dz:=(HFZ.out _ _ HFn.out).2))
 all_goals
  have hlen:(C++(O t).take R4).length=C.length+R4:=by rw [List.length_append,List.length_take];omega
  have HQ1:Hid (Qk (w'.setCell ⟨q,0,none⟩ (.slice A' (C.length+R4) c')) q tb n B A' c' (C++(O t).take R4) G' V G O):=by
   have h1:=(H.out.fr0 ((Fr.refl [] w).drewN (nq+1))).com_put (by decide) (by decide) (by decide) (ci:=0) (fun _ _ _=>rfl) HFn.out (l:=C++(O t).take R4) (by rw [hlen,zv_app,zv_take];exact HLn.out) (fun x hx=>(HGn.out x hx).imp id (fun h=>by rw [h.1];exact Nat.le_refl _))
   rw [hlen]at h1
   exact h1
  have HF1:Hid (Fr (foot q tb n G0 G) w (w'.setCell ⟨q,0,none⟩ (.slice A' (C.length+R4) c'))):=((H.out.fr0 ((Fr.refl [] w).drewN (nq+1))).com_fr HFn.out 0 _).from_drewN
  have HG1:Hid (∀x,x∈foot q tb n G' G→x∈foot q tb n G0 G∨w.heap.size≤x):=Qc.com_foot (fun x hx=>(HGn.out x hx).imp id (fun h=>by rw [h.1];exact Nat.le_refl _))
  generalize w'.setCell ⟨q,0,none⟩ (.slice A' (C.length+R4) c')=w2 at *
  clear d0 dz
  have f2:=Qk.c2 HQ1.out
  have ft:=Qk.cw HQ1.out ht
  have fz:=HQ1.out.ls.tab.frozen t
  obtain⟨A2,c2',e1,e2⟩:=HQ1.out.ls.own t ht
  have HT2:Hid (Lr (w2.setCell ⟨tb,t,none⟩ (.slice none 0 0)) 3 A2 (O t).length c2' (G t) (zv (O t))):=e2.fr (F:=[tb]) ((Fr.refl _ _).setCell (p:=⟨tb,t,none⟩) (.inl (by simp)) _) (fun x hx=>by have:=HQ1.out.ls.far (by decide) ht;intro h;simp at h;exact this (h ▸ hx))
  have HQ2:Hid (Qk (w2.setCell ⟨tb,t,none⟩ (.slice none 0 0)) q tb n B A' c' (C++(O t).take R4) G' (putF V t (.slice none 0 0)) (putF G t []) (putF O t [])):=HQ1.out.own_put (by decide) (by decide) (by decide) ht (l:=[]) (Fr.refl _ _) (Lr.nil _ _) (fun _ h=>by cases h)
  have HF2:Hid (Fr (foot q tb n G0 G) w (w2.setCell ⟨tb,t,none⟩ (.slice none 0 0))):=HF1.out.setCell (p:=⟨tb,t,none⟩) (.inl (mem_foot.2 (.inr (.inl rfl)))) _
  have HO2:=hide (HQ1.out.own_out (by decide) (by decide) ht)
  have e1':=HE1.out
  rw [e1']at e1
  injection e1 with e1 e1n e1c
  subst e1 e1c
  have HC2:=hide (HT2.out.cut R4 (by omega))
  clear e2 e1n e1'
  have hdl:((O t).drop R4).length=4-R4:=by rw [List.length_drop,ho]
  have HGF:Hid (∀x,x∈foot q tb n G' (putF G t [])→x∈foot q tb n G0 G∨w.heap.size≤x):=fun x hx=>by
   rcases Qc.own_foot ht (B:=w.heap.size) (G1:=[]) (fun _ h=>by cases h) x hx with h | h
   ·exact HG1.out x h
   ·exact .inr h
  have HDL:=hide hdl
  rw [ho,← zv_drop,← hdl]at HC2
  clear hdl
  by_cases hcc:c1=R4
  ·rw [if_pos hcc,if_pos hcc,hcc,Nat.sub_self]at HC2
   go_wp2_with fail
   go_ret
   exact⟨_,some ⟨g,off,none⟩,0,[],by rw [HDL.out];rfl,⟨_,_,_,_,_,_,HQ2.out,rfl⟩,HC2.out,HF2.out,HGF.out,fun _ h=>by cases h⟩
  ·rw [if_neg hcc,if_neg hcc,show Option.map (fun x:Addr=>x.add R4) (some ⟨g,off,none⟩)=some ⟨g,off+R4,none⟩by simp [Go.WideShapes.add_plain]]at HC2
   go_wp2_with fail
   go_ret
   exact⟨_,some ⟨g,off+R4,none⟩,c1-R4,G t,by rw [HDL.out];rfl,⟨_,_,_,_,_,_,HQ2.out,rfl⟩,HC2.out,HF2.out,HGF.out,fun x hx=>⟨HO2.out x hx,.inl (mem_foot.2 (.inr (.inr (.inr ⟨t,ht,hx⟩))))⟩⟩
def pushC(B:Nat)(C:List Int)(O:Nat→List Int)(t:Nat)(x:Int):List Int:=if (O t).length<3 then C else C++(O t++[x]).take (B-C.length)
def pushO(O:Nat→List Int)(t:Nat)(x:Int):Nat→List Int:=if (O t).length<3 then putF O t (O t++[x]) else putF O t []
def pushV(B:Nat)(C:List Int)(O:Nat→List Int)(t:Nat)(x:Int):List Int:=if (O t).length<3 then [] else (O t++[x]).drop (B-C.length)
theorem putF_twice{α:Type}(f:Nat→α)(k:Nat)(a b:α):putF (putF f k a) k b=putF f k b:=by
 funext j
 unfold putF
 by_cases h:j=k <;> simp [h]
theorem QOk.push{n B:Nat}{C:List Int}{O:Nat→List Int}(h:QOk n B C O){t:Nat}(ht:t<n)(x:Int):QOk n B (pushC B C O t x) (pushO O t x):=by
 have hc:=h.c
 unfold pushC pushO
 by_cases h3:(O t).length<3
 ·rw [if_pos h3,if_pos h3]
  refine⟨h.n1,h.n2,h.b,h.c,fun i hi=>?_⟩
  by_cases hit:i=t
  ·subst hit;rw [putF_at,List.length_append];simp;omega
  ·rw [putF_ne _ _ hit];exact h.o i hi
 ·rw [if_neg h3,if_neg h3]
  refine⟨h.n1,h.n2,h.b,by rw [List.length_append,List.length_take];omega,fun i hi=>?_⟩
  by_cases hit:i=t
  ·subst hit;rw [putF_at];simp
  ·rw [putF_ne _ _ hit];exact h.o i hi
set_option maxHeartbeats 3200000 in
theorem qpush_in{w:World}{q:Nat}{F:List Nat}{n B:Nat}{C:List Int}{O:Nat→List Int}(h:Qq w q F n B C O)(hk:QOk n B C O)(t:Nat)(ht:t<n)(x:Int)(hx:0≤x) :
  Calls Tryz.prog 67 #[.pointer (some ⟨q,0,none⟩),.int .i64 (t:Int),.int .i64 x] w (QRes w F (fun w' F'=>Qq w' q F' n B (pushC B C O t x) (pushO O t x)) (pushV B C O t x) 0):=by
 obtain⟨tb,A,c,G0,V,G,h,rfl⟩:=h
 obtain⟨i0,hi,hz0,hz1,hz2⟩:=info_parts Tryz.info_int
 have hn:=hk.n2
 have ho:=hk.o t ht
 have HK:=hide hk
 obtain⟨A1,c1,e1,e2⟩:=h.ls.own t ht
 have ht1:¬ ((t:Int)<0):=by omega
 have ht2:¬ ((t:Int)≥(n:Int)):=by omega
 have ht3:(t:Int)<(n:Int):=by omega
 have hx1:¬ (x<0):=by omega
 have HE1:=hide e1
 have hct:=Qk.cw h ht
 rw [e1]at hct
 have c2:=Qk.c2 h
 have zt:=h.ls.tab.frozen t
 have H:=hide h
 have HL:=hide e2
 have HN:Hid (([Value.int .i64 x]).length=1∧(∀u∈[Value.int .i64 x],u.oneCell'=true)∧(O t).length+1≤maxLen∧((O t).length+1)*8≤140737488355328):=⟨rfl,by simp [Value.oneCell'],by unfold maxLen;omega,by omega⟩
 have HFZ:Hid (∀w1 w',Fr [] w w1→Fr (G t) w1 w'→w'.cell? ⟨q,2,none⟩=some (.slice (some ⟨tb,0,none⟩) n n)∧w'.cell? ⟨tb,t,none⟩=some (.slice A1 (O t).length c1)∧w'.frozen? ⟨tb,t,none⟩=false):=fun w1 w' hf0 hf=>by
  have hb:=(h.st.fr hf0 (by simp)).fr hf (e2.apart h.st (by decide))
  have ht':=(h.ls.tab.fr hf0 (by simp)).fr hf (e2.apart h.ls.tab (by decide))
  exact⟨by rw [hb.cell];rfl,by rw [ht'.cell,rowF_at ht,e1],ht'.frozen t⟩
 have N0:tb<w.heap.size:=h.ls.tab.lt
 have N1:q<w.heap.size:=h.st.lt
 clear h e1 e2 hk
 go_enter Tryz.func67,Tryz.ntmps67
 go_wp2_with fail
 go_region_law (first | (refine step_append_lr rfl _ _ 34 rfl 3 i0 (.int .i64 0) 8 Tryz.underlying34 hi hz0 hz1 hz2 rfl rfl (HL.out.fr0 (((Fr.refl _ _).alloc _).drew)) rfl HN.out.1 (fun _=>one_of w _ 3 rfl _ ((Fr.refl _ _).drew)) HN.out.2.1 HN.out.2.2.1 HN.out.2.2.2 ?_;intro A' c' G' w' HLn HFn HGn;have d0:=(HFZ.out _ _ (((Fr.refl _ _).alloc _).drew) HFn.out).1;have d1:=(HFZ.out _ _ (((Fr.refl _ _).alloc _).drew) HFn.out).2.1;have dz:=(HFZ.out _ _ (((Fr.refl _ _).alloc _).drew) HFn.out).2.2))
 all_goals
  have hlen:(O t++[x]).length=(O t).length+1:=by simp
  have HQ1:Hid (Qk (w'.setCell ⟨tb,t,none⟩ (.slice A' ((O t).length+1) c')) q tb n B A c C G0 (putF V t (.slice A' ((O t).length+1) c')) (putF G t G') (putF O t (O t++[x]))):=by
   have h1:=(H.out.fr0 (((Fr.refl [] w).alloc (.cells #[.int .i64 x] 3)).drew)).own_put (by decide) (by decide) (by decide) ht HFn.out (l:=O t++[x]) (A1:=A') (c1:=c') (G1:=G') (by rw [hlen,zv_app];exact HLn.out) (fun y hy=>(HGn.out y hy).imp id (fun h=>by rw [h.1];exact Nat.le_refl _))
   rw [hlen]at h1
   exact h1
  have HF1:Hid (Fr (foot q tb n G0 G) w (w'.setCell ⟨tb,t,none⟩ (.slice A' ((O t).length+1) c'))):=(((Fr.refl _ w).alloc (.cells #[.int .i64 x] 3)).drew).trans_same ((H.out.fr0 (((Fr.refl [] w).alloc (.cells #[.int .i64 x] 3)).drew)).own_fr ht HFn.out _)
  have HG1:Hid (∀y,y∈foot q tb n G0 (putF G t G')→y∈foot q tb n G0 G∨w.heap.size≤y):=Qc.own_foot ht (fun y hy=>(HGn.out y hy).imp id (fun h=>by rw [h.1];simp))
  generalize w'.setCell ⟨tb,t,none⟩ (.slice A' ((O t).length+1) c')=w2 at *
  clear d0 d1 dz
  have f2:=Qk.c2 HQ1.out
  have ft:=Qk.cw HQ1.out ht
  rw [putF_at]at ft
  by_cases h3:(O t).length<3
  ·have h4:((O t).length:Int)+1<4:=by omega
   have EC:Hid (pushC B C O t x=C∧pushO O t x=putF O t (O t++[x])∧pushV B C O t x=[]):=by
    unfold pushC pushO pushV
    rw [if_pos h3,if_pos h3,if_pos h3]
    exact⟨rfl,rfl,rfl⟩
   go_wp2_with fail
   go_ret2
   rw [EC.out.1,EC.out.2.1,EC.out.2.2]
   exact⟨_,none,0,[],rfl,⟨_,_,_,_,_,_,HQ1.out,rfl⟩,Lr.nil _ _,HF1.out,HG1.out,fun _ h=>by cases h⟩
  ·have h4:¬ (((O t).length:Int)+1<4):=by omega
   have HH:=qhand_any HQ1.out hn HK.out.b HK.out.c t ht (by rw [putF_at,hlen];omega)
   rw [putF_at,putF_twice]at HH
   have HHH:=hide HH
   clear HH
   have EC:Hid (pushC B C O t x=C++(O t++[x]).take (B-C.length)∧pushO O t x=putF O t []∧pushV B C O t x=(O t++[x]).drop (B-C.length)):=by
    unfold pushC pushO pushV
    rw [if_neg h3,if_neg h3,if_neg h3]
    exact⟨rfl,rfl,rfl⟩
   generalize C++(O t++[x]).take (B-C.length)=C2 at *
   generalize (O t++[x]).drop (B-C.length)=D2 at *
   go_wp2_with fail
   refine HHH.out.mono ?_
   rintro e w3 ⟨F3,A3,c3,G3,rfl,hq,hl,hf,hff,hg⟩
   have HR:Hid ((Qq w3 q F3 n B C2 (putF O t []))∧Lr w3 3 A3 D2.length c3 G3 (zv D2)∧Fr (foot q tb n G0 G) w w3∧(∀y,y∈F3→y∈foot q tb n G0 G∨w.heap.size≤y)∧∀y,y∈G3→y∉F3∧(y∈foot q tb n G0 G∨w.heap.size≤y)):=by
    refine⟨hq,hl,HF1.out.trans hf HG1.out,fun y hy=>?_,fun y hy=>⟨(hg y hy).1,?_⟩⟩
    ·rcases hff y hy with h | h
     ·exact HG1.out y h
     ·exact .inr (Nat.le_trans HF1.out.size h)
    ·rcases(hg y hy).2 with h | h
     ·exact HG1.out y h
     ·exact .inr (Nat.le_trans HF1.out.size h)
   clear hq hl hf hff hg
   go_wp2_with fail
   go_ret2
   rw [EC.out.1,EC.out.2.1,EC.out.2.2]
   exact⟨F3,A3,c3,G3,rfl,HR.out.1,HR.out.2.1,HR.out.2.2.1,HR.out.2.2.2.1,HR.out.2.2.2.2⟩
section
variable {W w w':World}{L:HL}{X:HX}{tg:Tg}{own:Nat→Nat}{FS:Nat→List Nat}{h:HS}{x:HT}{s k:Nat}{E:Blks}{D:Nat→Prop}{Q:World→Prop}
theorem Hw.queue(H:Hw w L X tg own FS h x s k){F':List Nat}{C':List Int}{O':Nat→List Int}(hf:Fr X.qF w w')(ho:Qq w' X.qb F' h.T x.qm C' O')(hl:∀b,b∈F'→b<w'.heap.size)(hn:∀b,b∈F'→b∈X.qF∨w.heap.size≤b) :
  ∃own',Hw w' L { X with qF:=F' } tg own' FS h { x with qc:=C',ql:=O' } s k∧(∀b,own' b≠0→own b≠0∨w.heap.size≤b)∧∀b,b<w.heap.size→own' b=own b:=by
 have h1:∀b,b<w.heap.size→ownNew own w.heap.size (fun b=>b∈F') 6 b=own b:=fun b hb=>by unfold ownNew;rw [if_pos hb]
 have r:=H.rest (own':=ownNew own w.heap.size (fun b=>b∈F') 6) hf (fun b hb=>H.o6 b hb) (by decide) h1
 refine⟨_,⟨(r.r1 (by decide)).1,r.r2 (by decide),r.r3 (by decide),(r.r1 (by decide)).2.1,fun i hi=>r.r9 i hi (by omega),(r.r1 (by decide)).2.2,H.ok,r.rt,H.dim,r.r4 (by decide),r.r5 (by decide),ho,r.r7 (by decide),r.r8 (by decide),H.vo,H.vc,H.vq,H.vs,H.vm,r.o1,r.o2,r.o3,r.o4,r.o5,fun b hb=>?_,r.o7,r.o8,r.o100,r.o0,fun b hb=>?_⟩,fun b hb=>?_,h1⟩
 ·rcases hn b hb with e | e
  ·have:=H.o6 b e
   rw [h1 b (H.lt b (by rw [this];decide))]
   exact this
  ·unfold ownNew
   rw [if_neg (by omega),if_pos hb]
 ·have hs:=hf.size
  by_cases e:b<w.heap.size
  ·omega
  ·unfold ownNew at hb
   rw [if_neg e]at hb
   by_cases e2:b∈F'
   ·exact hl b e2
   ·rw [if_neg e2]at hb
    exact absurd rfl hb
 ·by_cases e:b<w.heap.size
  ·rw [h1 b e]at hb
   exact .inl hb
  ·exact .inr (by omega)
theorem HM.qpush(hS:Lives D Q)(H:HM W w L X h x s k E D Q)(hk:QOk h.T x.qm x.qc x.ql){t:Nat}(ht:t<h.T){c:Int}(hc:0≤c) :
  Calls Tryz.prog 67 #[.pointer (some ⟨X.qb,0,none⟩),.int .i64 (t:Int),.int .i64 c] w fun e w'=>∃F' A n G,e=.returned (.tuple #[.slice A (pushV x.qm x.qc x.ql t c).length n,.int .i64 0]) ∧
   HM W w' L { X with qF:=F' } h { x with qc:=pushC x.qm x.qc x.ql t c,ql:=pushO x.ql t c } s k E D Q∧Lr w' 3 A (pushV x.qm x.qc x.ql t c).length n G (zv (pushV x.qm x.qc x.ql t c)):=by
 obtain⟨own,⟨tg,FS,H,h1,h2⟩,hE,hD,hQ⟩:=H
 refine(qpush_in H.qu hk t ht c hc).mono ?_
 rintro e w' ⟨F',A,n,G,rfl,hq,hl,hf,hn,hg⟩
 obtain⟨own',k1,k2,k3⟩:=H.queue hf hq hq.lt hn
 exact⟨F',A,n,G,rfl,HM.of hS hE hD hQ k1 h1 h2 hf (fun b hb=>by rw [H.o6 b hb];decide) k2 k3,hl⟩
end
section
variable {W w w':World}{L:HL}{X:HX}{h h2:HS}{x x2:HT}{s k:Nat}{E:Blks}{D:Nat→Prop}{Q:World→Prop}{mb t sb:Nat}{m:MU}
def NoteP(W:World)(L:HL)(X:HX)(h:HS)(x:HT)(s k:Nat)(E:Blks)(D:Nat→Prop)(Q:World→Prop)(mb t sb:Nat)(dn:Nat)(c:Nat)(e:Ending)(w':World):Prop:=
 ∃(wc:Bool) (er:Int) (C':List Nat),Turned x.C (h.R*x.per) (c:Int) true wc er C' ∧
  ((wc=false∧e=.returned (resV 0 0 An.zero false false false (.slice none 0 0))∧HM W w' L X h { x with C:=C' } s k ((mb,96,muV L.hb t sb (MU.zero dn))::E) D Q) ∨
  (wc=true∧∃F' A n G,e=.returned (resV 0 0 An.zero false false false (.slice A (pushV x.qm x.qc x.ql t (c:Int)).length n)) ∧
    HM W w' L { X with qF:=F' } h { x with C:=C',qc:=pushC x.qm x.qc x.ql t (c:Int),ql:=pushO x.ql t (c:Int) } s k ((mb,96,muV L.hb t sb (MU.zero dn))::E) D Q∧Lr w' 3 A (pushV x.qm x.qc x.ql t (c:Int)).length n G (zv (pushV x.qm x.qc x.ql t (c:Int)))))
set_option maxHeartbeats 3200000 in
theorem mtnote_any(hS:Lives D Q)(hT:Tab W)(H:HM W w L X h x s k ((mb,96,muV L.hb t sb m)::E) D Q)(hne:∀q,q∈E→q.1≠mb)(ht:t<h.T)(hk:QOk h.T x.qm x.qc x.ql){I c:Nat}(had:m.ad=(I:Int))(hc:h.g.cardOf (I:Int)=(c:Int)) :
  Calls Tryz.prog 35 #[.pointer (some ⟨mb,0,none⟩)] w (NoteP W L X h x s k E D Q mb t sb m.dn c):=by
 have hmb:=H.blk (List.mem_cons_self ..)
 have hlt:=hmb.lt
 have hltE:∀q,q∈E→q.1<w.heap.size:=fun q hq=>(H.blk (b:=q.1) (t:=q.2.1) (cs:=q.2.2) (List.mem_cons_of_mem _ hq)).lt
 have hrm:w.heap.size≠mb:=by omega
 have hrE:∀q,q∈E→q.1≠w.heap.size:=fun q hq=>by have:=hltE q hq;omega
 have hneR:∀cs:Array Value,∀q,q∈((w.heap.size,61,cs)::E:Blks)→q.1≠mb:=fun cs q hq=>by
  rcases List.mem_cons.1 hq with rfl | hq
  ·exact hrm
  ·exact hne q hq
 have HX0:Hid (HM W (w.alloc (.cells #[.int .i64 0,.int .i64 0,.int .i64 0,.int .u64 0,.bool false,.bool false,.bool false,.bool false,.slice none 0 0] 61)) L X h x s k ((w.heap.size,61,#[.int .i64 0,.int .i64 0,.int .i64 0,.int .u64 0,.bool false,.bool false,.bool false,.bool false,.slice none 0 0])::(mb,96,muV L.hb t sb m)::E) D Q):=H.alloc hS 61 #[.int .i64 0,.int .i64 0,.int .i64 0,.int .u64 0,.bool false,.bool false,.bool false,.bool false,.slice none 0 0]
 have HAd:Hid (HM W (w.alloc (.cells #[.int .i64 0,.int .i64 0,.int .i64 0,.int .u64 0,.bool false,.bool false,.bool false,.bool false,.slice none 0 0] 61)).drew L X h x s k ((w.heap.size,61,#[.int .i64 0,.int .i64 0,.int .i64 0,.int .u64 0,.bool false,.bool false,.bool false,.bool false,.slice none 0 0])::(mb,96,muV L.hb t sb m)::E) D Q):=HX0.out.fr0 hS (Fr.refl _ _).drew
 have HEnd:Hid (∀X' h' x' w' v0 v1 v2 v3 v4 v5 v6 v7 v8,HM W w' L X' h' x' s k ((mb,96,muV L.hb t sb (MU.zero m.dn))::(w.heap.size,61,#[.int .i64 0,.int .i64 0,.int .i64 0,.int .u64 0,.bool false,.bool false,.bool false,.bool false,.slice none 0 0])::E) D Q→HM W (put9 w' w.heap.size v0 v1 v2 v3 v4 v5 v6 v7 v8) L X' h' x' s k ((mb,96,muV L.hb t sb (MU.zero m.dn))::E) D Q):=fun X' h' x' w' v0 v1 v2 v3 v4 v5 v6 v7 v8 q=>
  q.swap.res9 hS hT (fun y hy=>by
   rcases List.mem_cons.1 hy with rfl | hy
   ·exact fun e=>hrm e.symm
   ·exact hrE y hy) v0 v1 v2 v3 v4 v5 v6 v7 v8
 have HCd:Hid (∀w',HM W w' L X h x s k ((w.heap.size,61,#[.int .i64 0,.int .i64 0,.int .i64 0,.int .u64 0,.bool false,.bool false,.bool false,.bool false,.slice none 0 0])::(mb,96,muV L.hb t sb m)::E) D Q→Calls Tryz.prog 65 #[.agg #[.int .i64 h.g.words,.int .i64 h.g.rw,.int .i64 h.g.cw,.int .i64 h.g.regions,.int .i64 h.g.cards,.int .i64 h.g.max],.int .i64 (I:Int)] w' fun e w''=>e=.returned (.int .i64 (c:Int))∧HM W w'' L X h x s k ((w.heap.size,61,#[.int .i64 0,.int .i64 0,.int .i64 0,.int .u64 0,.bool false,.bool false,.bool false,.bool false,.slice none 0 0])::(mb,96,muV L.hb t sb m)::E) D Q):=fun w' q=>by
  have:=q.cardC hS (I:Int)
  rwa [hc]at this
 have HK1:Hid (∀w',HM W w' L X h x s k ((w.heap.size,61,#[.int .i64 0,.int .i64 0,.int .i64 0,.int .u64 0,.bool false,.bool false,.bool false,.bool false,.slice none 0 0])::(mb,96,muV L.hb t sb m)::E) D Q→w'.cell? ⟨mb,0,none⟩=some (.pointer (some ⟨L.hb,0,none⟩))∧w'.cell? ⟨mb,10,none⟩=some (.int .i64 (I:Int))∧w'.cell? ⟨L.hb,14,none⟩=some (.int .i64 h.g.words)∧w'.cell? ⟨L.hb,15,none⟩=some (.int .i64 h.g.rw)∧w'.cell? ⟨L.hb,16,none⟩=some (.int .i64 h.g.cw)∧w'.cell? ⟨L.hb,17,none⟩=some (.int .i64 h.g.regions)∧w'.cell? ⟨L.hb,18,none⟩=some (.int .i64 h.g.cards)∧w'.cell? ⟨L.hb,19,none⟩=some (.int .i64 h.g.max)):=fun w' q=>by
  obtain⟨d14,d15,d16,d17,d18,d19,-,-,-,-,-,-,-,-,-,-⟩:=q.hc
  obtain⟨c0,c1,c2,c3,c4,c5,c6,c7,c8,c9,c10⟩:=muCells (q.blk (List.mem_cons_of_mem _ (List.mem_cons_self ..)))
  rw [had]at c10
  exact⟨c0,c10,d14,d15,d16,d17,d18,d19⟩
 have HPu:Hid (∀w',HM W w' L X h x s k ((w.heap.size,61,#[.int .i64 0,.int .i64 0,.int .i64 0,.int .u64 0,.bool false,.bool false,.bool false,.bool false,.slice none 0 0])::(mb,96,muV L.hb t sb m)::E) D Q→HM W (put7 w' mb (.int .i64 0) (.int .i64 0) (.int .i64 0) (.int .i64 0) (.int .u64 0) (.int .i64 0) (.int .i64 0)) L X h x s k ((mb,96,muV L.hb t sb (MU.zero m.dn))::(w.heap.size,61,#[.int .i64 0,.int .i64 0,.int .i64 0,.int .u64 0,.bool false,.bool false,.bool false,.bool false,.slice none 0 0])::E) D Q):=fun w' q=>HM.oput hS hT q.swap (hneR _) 0 0 0 0 0 0 0
 have HDi:Hid (∀w',HM W w' L X h x s k ((mb,96,muV L.hb t sb (MU.zero m.dn))::(w.heap.size,61,#[.int .i64 0,.int .i64 0,.int .i64 0,.int .u64 0,.bool false,.bool false,.bool false,.bool false,.slice none 0 0])::E) D Q→Calls Tryz.prog 66 #[.pointer (some ⟨X.cb,0,none⟩),.int .i64 (c:Int)] w' fun e w''=>∃wc er C',e=.returned (.tuple #[.bool wc,.int .i64 er])∧Turned x.C (h.R*x.per) (c:Int) true wc er C'∧HM W w'' L X h { x with C:=C' } s k ((mb,96,muV L.hb t sb (MU.zero m.dn))::(w.heap.size,61,#[.int .i64 0,.int .i64 0,.int .i64 0,.int .u64 0,.bool false,.bool false,.bool false,.bool false,.slice none 0 0])::E) D Q):=fun w' q=>q.dirty hS (c:Int)
 have HQp:Hid (∀w' C',HM W w' L X h { x with C:=C' } s k ((mb,96,muV L.hb t sb (MU.zero m.dn))::(w.heap.size,61,#[.int .i64 0,.int .i64 0,.int .i64 0,.int .u64 0,.bool false,.bool false,.bool false,.bool false,.slice none 0 0])::E) D Q→Calls Tryz.prog 67 #[.pointer (some ⟨X.qb,0,none⟩),.int .i64 (t:Int),.int .i64 (c:Int)] w' fun e w''=>∃F' A n G,e=.returned (.tuple #[.slice A (pushV x.qm x.qc x.ql t (c:Int)).length n,.int .i64 0]) ∧
   HM W w'' L { X with qF:=F' } h { x with C:=C',qc:=pushC x.qm x.qc x.ql t (c:Int),ql:=pushO x.ql t (c:Int) } s k ((mb,96,muV L.hb t sb (MU.zero m.dn))::(w.heap.size,61,#[.int .i64 0,.int .i64 0,.int .i64 0,.int .u64 0,.bool false,.bool false,.bool false,.bool false,.slice none 0 0])::E) D Q∧Lr w'' 3 A (pushV x.qm x.qc x.ql t (c:Int)).length n G (zv (pushV x.qm x.qc x.ql t (c:Int)))):=fun w' C' q=>HM.qpush (x:={ x with C:=C' }) hS q hk ht (by omega)
 have HK2:Hid (∀w' X' x',X'.qb=X.qb→HM W w' L X' h x' s k ((mb,96,muV L.hb t sb (MU.zero m.dn))::(w.heap.size,61,#[.int .i64 0,.int .i64 0,.int .i64 0,.int .u64 0,.bool false,.bool false,.bool false,.bool false,.slice none 0 0])::E) D Q→w'.cell? ⟨mb,0,none⟩=some (.pointer (some ⟨L.hb,0,none⟩))∧w'.cell? ⟨mb,1,none⟩=some (.int .i64 (t:Int))∧w'.cell? ⟨L.hb,24,none⟩=some (.pointer (some ⟨X.qb,0,none⟩))):=fun w' X' x' e1 q=>by
  obtain⟨-,-,-,-,-,-,-,-,-,-,d24,-,-,-,-,-⟩:=q.hc
  rw [e1]at d24
  obtain⟨c0,c1,c2,c3,c4,c5,c6,c7,c8,c9,c10⟩:=muCells (q.blk (List.mem_cons_self ..))
  exact⟨c0,c1,d24⟩
 have HC23:Hid (∀w' E',HM W w' L X h x s k E' D Q→w'.cell? ⟨L.hb,23,none⟩=some (.pointer (some ⟨X.cb,0,none⟩))):=fun w' E' q=>q.hc.c23
 have HRb:Hid (∀w' X' x',HM W w' L X' h x' s k ((mb,96,muV L.hb t sb (MU.zero m.dn))::(w.heap.size,61,#[.int .i64 0,.int .i64 0,.int .i64 0,.int .u64 0,.bool false,.bool false,.bool false,.bool false,.slice none 0 0])::E) D Q→Blk w' w.heap.size 61 #[.int .i64 0,.int .i64 0,.int .i64 0,.int .u64 0,.bool false,.bool false,.bool false,.bool false,.slice none 0 0]):=fun w' X' x' q=>q.blk (List.mem_cons_of_mem _ (List.mem_cons_self ..))
 have HFin:Hid (∀e w',NoteP W L X h x s k E D Q mb t sb m.dn c e w'→NoteP W L X h x s k E D Q mb t sb m.dn c e w'):=fun e w' p=>p
 have K1:=HK1.out _ HAd.out
 have NHb:L.hb<w.heap.size:=lt_of_cell H.hc.c20
 have NE:mb≠L.hb:=H.blk (List.mem_cons_self ..) |>.apart H.hr.st (by decide)
 have NE':L.hb≠mb:=fun e=>NE e.symm
 have c0:w.cell? ⟨mb,0,none⟩=some (.pointer (some ⟨L.hb,0,none⟩)):=hmb.cell 0
 clear H hmb hltE hne hneR hrm hrE had hc hk ht HX0
 go_enter Tryz.func35,Tryz.ntmps35
 go_wp2_with fail
 go_region_held3 (fun w'=>w'.cell? ⟨mb,0,none⟩=some (.pointer (some ⟨L.hb,0,none⟩))∧w'.cell? ⟨mb,10,none⟩=some (.int .i64 (I:Int))∧w'.cell? ⟨L.hb,14,none⟩=some (.int .i64 h.g.words)∧w'.cell? ⟨L.hb,15,none⟩=some (.int .i64 h.g.rw)∧w'.cell? ⟨L.hb,16,none⟩=some (.int .i64 h.g.cw)∧w'.cell? ⟨L.hb,17,none⟩=some (.int .i64 h.g.regions)∧w'.cell? ⟨L.hb,18,none⟩=some (.int .i64 h.g.cards)∧w'.cell? ⟨L.hb,19,none⟩=some (.int .i64 h.g.max))
  (first | with_reducible exact K1 | go_keep)
  (first | (go_at_call 65;refine(HCd.out _ HAd.out).mono ?_;rintro e w1 ⟨rfl,hA⟩;have HA1:=hide hA;replace K1:=HK1.out _ hA;clear hA))
 all_goals
  clear K1 c0
  have hm1:=HA1.out.blk (List.mem_cons_of_mem _ (List.mem_cons_self ..))
  obtain⟨g0,g1,-,-,g4,g5,g6,g7,g8,g9,g10⟩:=muCells hm1
  have gz4:=hm1.frozen 4
  have gz5:=hm1.frozen 5
  have gz6:=hm1.frozen 6
  have gz7:=hm1.frozen 7
  have gz8:=hm1.frozen 8
  have gz9:=hm1.frozen 9
  have gz10:=hm1.frozen 10
  have k23:=HC23.out _ _ HA1.out
  have NM1:=hm1.lt
  have NH1:L.hb<w1.heap.size:=lt_of_cell k23
  have HP1:=hide (HPu.out _ HA1.out)
  have HD1:=hide (HDi.out _ HP1.out)
  clear hm1
  go_wp2_with fail
  refine HD1.out.mono ?_
  rintro e w2 ⟨wc,er,C',rfl,hTu,hA⟩
  have HTu:=hide hTu
  have HA2:=hide hA
  have hrb:=HRb.out _ _ _ hA
  clear g0 g1 g4 g5 g6 g7 g8 g9 g10 gz4 gz5 gz6 gz7 gz8 gz9 gz10 k23 HD1 hTu
  cases wc with
  | false=>
   have y0:=hrb.cell 0
   have y1:=hrb.cell 1
   have y2:=hrb.cell 2
   have y3:=hrb.cell 3
   have y4:=hrb.cell 4
   have y5:=hrb.cell 5
   have y6:=hrb.cell 6
   have y7:=hrb.cell 7
   have y8:=hrb.cell 8
   have z0:=hrb.frozen 0
   have z1:=hrb.frozen 1
   have z2:=hrb.frozen 2
   have z3:=hrb.frozen 3
   have z4:=hrb.frozen 4
   have z5:=hrb.frozen 5
   have z6:=hrb.frozen 6
   have z7:=hrb.frozen 7
   have z8:=hrb.frozen 8
   have NR:=hrb.lt
   clear hA hrb
   go_wp2_with fail
   refine bodyPost_ret (v:=.agg #[.int .i64 0,.int .i64 0,.int .i64 0,.int .u64 0,.bool false,.bool false,.bool false,.bool false,.slice none 0 0]) (by simp [results,Tryz.results35,go_sem, *]) rfl ?_
   exact HFin.out _ _ ⟨false,er,C',HTu.out,.inl ⟨rfl,rfl,HEnd.out _ _ _ _ _ _ _ _ _ _ _ _ _ HA2.out⟩⟩
  | true=>
   have HA2d:=hide (hA.fr0 hS (Fr.refl _ _).drew)
   have HQ2:=hide (HQp.out _ _ HA2d.out)
   have K2:=HK2.out _ X _ rfl HA2d.out
   clear hA hrb
   go_wp2_with fail
   go_region_held3 (fun w'=>w'.cell? ⟨mb,0,none⟩=some (.pointer (some ⟨L.hb,0,none⟩))∧w'.cell? ⟨mb,1,none⟩=some (.int .i64 (t:Int))∧w'.cell? ⟨L.hb,24,none⟩=some (.pointer (some ⟨X.qb,0,none⟩)))
    (first | with_reducible exact K2 | go_keep)
    (first | (go_at_call 67;refine HQ2.out.mono ?_;rintro e w3 ⟨F',A,n,G,rfl,hA,hL⟩;have HA3:=hide hA;have HL3:=hide hL;have hrb:=HRb.out _ _ _ hA;replace K2:=HK2.out _ { X with qF:=F' } _ rfl hA;have y0:=hrb.cell 0;have z0:=hrb.frozen 0;have y1:=hrb.cell 1;have z1:=hrb.frozen 1;have y2:=hrb.cell 2;have z2:=hrb.frozen 2;have y3:=hrb.cell 3;have z3:=hrb.frozen 3;have y4:=hrb.cell 4;have z4:=hrb.frozen 4;have y5:=hrb.cell 5;have z5:=hrb.frozen 5;have y6:=hrb.cell 6;have z6:=hrb.frozen 6;have y7:=hrb.cell 7;have z7:=hrb.frozen 7;have y8:=hrb.cell 8;have z8:=hrb.frozen 8;have NR:=hrb.lt;clear hA hL hrb))
   all_goals
    clear K2
    go_wp2_with fail
    refine bodyPost_ret (v:=.agg #[.int .i64 0,.int .i64 0,.int .i64 0,.int .u64 0,.bool false,.bool false,.bool false,.bool false,.slice A (pushV x.qm x.qc x.ql t (c:Int)).length n]) (by simp [results,Tryz.results35,go_sem, *]) rfl ?_
    refine HFin.out _ _ ⟨true,er,C',HTu.out,.inr ⟨rfl,F',A,n,G,rfl,HEnd.out _ _ _ _ _ _ _ _ _ _ _ _ _ HA3.out,?_⟩⟩
    exact HL3.out.fr (fr_put9 _ _ _ _ _ _ _ _ _ _ _) (fun g hg hx=>by
     simp at hx
     exact HL3.out.apart (HRb.out _ _ _ HA3.out) (by decide) (hx ▸ hg))
end
section
variable {W w w':World}{L:HL}{X:HX}{h h2:HS}{x x2:HT}{s k:Nat}{E:Blks}{D:Nat→Prop}{Q:World→Prop}{mb t sb:Nat}{m:MU}
set_option maxHeartbeats 3200000 in
theorem mtstep_note(hS:Lives D Q)(hT:Tab W)(H:HM W w L X h x s k ((mb,96,muV L.hb t sb m)::E) D Q)(hne:∀q,q∈E→q.1≠mb)(hst:m.st=6)(ht:t<h.T)(hk:QOk h.T x.qm x.qc x.ql){I c:Nat}(had:m.ad=(I:Int))(hc:h.g.cardOf (I:Int)=(c:Int)) :
  Calls Tryz.prog 13 #[.pointer (some ⟨mb,0,none⟩)] w (NoteP W L X h x s k E D Q mb t sb m.dn c):=by
 have hmb:=H.blk (List.mem_cons_self ..)
 have hlt:=hmb.lt
 have hltE:∀q,q∈E→q.1<w.heap.size:=fun q hq=>(H.blk (b:=q.1) (t:=q.2.1) (cs:=q.2.2) (List.mem_cons_of_mem _ hq)).lt
 have hr:w.heap.size≠mb:=by omega
 have hq:∀q,q∈E→q.1≠w.heap.size:=fun q hq=>by have:=hltE q hq;omega
 have hneR:∀q,q∈((w.heap.size,61,#[.int .i64 0,.int .i64 0,.int .i64 0,.int .u64 0,.bool false,.bool false,.bool false,.bool false,.slice none 0 0])::E:Blks)→q.1≠mb:=fun q hq=>by
  rcases List.mem_cons.1 hq with rfl | hq
  ·exact hr
  ·exact hne q hq
 have HC:=hide (mtnote_any hS hT ((H.alloc hS 61 #[.int .i64 0,.int .i64 0,.int .i64 0,.int .u64 0,.bool false,.bool false,.bool false,.bool false,.slice none 0 0]).sub (fun y hy=>by simp only [List.mem_cons]at hy ⊢;rcases hy with e | e | e <;> simp [e]):HM W _ L X h x s k ((mb,96,muV L.hb t sb m)::(w.heap.size,61,#[.int .i64 0,.int .i64 0,.int .i64 0,.int .u64 0,.bool false,.bool false,.bool false,.bool false,.slice none 0 0])::E) D Q) hneR ht hk had hc)
 have HEnd:Hid (∀X' x' w' v0 v1 v2 v3 v4 v5 v6 v7 v8,HM W w' L X' h x' s k ((mb,96,muV L.hb t sb (MU.zero m.dn))::(w.heap.size,61,#[.int .i64 0,.int .i64 0,.int .i64 0,.int .u64 0,.bool false,.bool false,.bool false,.bool false,.slice none 0 0])::E) D Q→HM W (put9 w' w.heap.size v0 v1 v2 v3 v4 v5 v6 v7 v8) L X' h x' s k ((mb,96,muV L.hb t sb (MU.zero m.dn))::E) D Q):=fun X' x' w' v0 v1 v2 v3 v4 v5 v6 v7 v8 q=>
  q.swap.res9 hS hT (fun y hy=>by
   rcases List.mem_cons.1 hy with rfl | hy
   ·exact fun e=>hr e.symm
   ·exact hq y hy) v0 v1 v2 v3 v4 v5 v6 v7 v8
 have HFin:Hid (∀e w',NoteP W L X h x s k E D Q mb t sb m.dn c e w'→NoteP W L X h x s k E D Q mb t sb m.dn c e w'):=fun e w' p=>p
 obtain⟨c0,c1,c2,c3,c4,c5,c6,c7,c8,c9,c10⟩:=muCells hmb
 rw [hst]at c9
 clear H hmb hltE hne hneR hst hr hq had hc hk ht
 go_enter Tryz.func13,Tryz.ntmps13
 go_wp2_with fail
 refine HC.out.mono ?_
 rintro e w5 ⟨wc,er,C',hTu,⟨rfl,rfl,hA⟩ | ⟨rfl,F',A,n,G,rfl,hA,hL⟩⟩
 ·have HTu:=hide hTu
  have HA5:=hide hA
  have hrb:=hA.blk (List.mem_cons_of_mem _ (List.mem_cons_self ..))
  have HRB:=hide hrb
  have y0:=hrb.cell 0
  have y1:=hrb.cell 1
  have y2:=hrb.cell 2
  have y3:=hrb.cell 3
  have y4:=hrb.cell 4
  have y5:=hrb.cell 5
  have y6:=hrb.cell 6
  have y7:=hrb.cell 7
  have y8:=hrb.cell 8
  have z0:=hrb.frozen 0
  have z1:=hrb.frozen 1
  have z2:=hrb.frozen 2
  have z3:=hrb.frozen 3
  have z4:=hrb.frozen 4
  have z5:=hrb.frozen 5
  have z6:=hrb.frozen 6
  have z7:=hrb.frozen 7
  have z8:=hrb.frozen 8
  have NR:=hrb.lt
  clear hA hTu hrb HC c0 c1 c2 c3 c4 c5 c6 c7 c8 c9 c10
  unfold resV An.zero
  go_wp2_with fail
  refine bodyPost_ret (v:=.agg #[.int .i64 0,.int .i64 0,.int .i64 0,.int .u64 0,.bool false,.bool false,.bool false,.bool false,.slice none 0 0]) (by simp [results,Tryz.results13,go_sem, *]) rfl ?_
  exact HFin.out _ _ ⟨false,er,C',HTu.out,.inl ⟨rfl,rfl,HEnd.out _ _ _ _ _ _ _ _ _ _ _ _ HA5.out⟩⟩
 ·have HTu:=hide hTu
  have HA5:=hide hA
  have HL5:=hide hL
  have hrb:=hA.blk (List.mem_cons_of_mem _ (List.mem_cons_self ..))
  have HRB:=hide hrb
  have y0:=hrb.cell 0
  have y1:=hrb.cell 1
  have y2:=hrb.cell 2
  have y3:=hrb.cell 3
  have y4:=hrb.cell 4
  have y5:=hrb.cell 5
  have y6:=hrb.cell 6
  have y7:=hrb.cell 7
  have y8:=hrb.cell 8
  have z0:=hrb.frozen 0
  have z1:=hrb.frozen 1
  have z2:=hrb.frozen 2
  have z3:=hrb.frozen 3
  have z4:=hrb.frozen 4
  have z5:=hrb.frozen 5
  have z6:=hrb.frozen 6
  have z7:=hrb.frozen 7
  have z8:=hrb.frozen 8
  have NR:=hrb.lt
  clear hA hTu hrb HC c0 c1 c2 c3 c4 c5 c6 c7 c8 c9 c10 hL
  unfold resV An.zero
  go_wp2_with fail
  refine bodyPost_ret (v:=.agg #[.int .i64 0,.int .i64 0,.int .i64 0,.int .u64 0,.bool false,.bool false,.bool false,.bool false,.slice A (pushV x.qm x.qc x.ql t (c:Int)).length n]) (by simp [results,Tryz.results13,go_sem, *]) rfl ?_
  refine HFin.out _ _ ⟨true,er,C',HTu.out,.inr ⟨rfl,F',A,n,G,rfl,HEnd.out _ _ _ _ _ _ _ _ _ _ _ _ HA5.out,?_⟩⟩
  exact HL5.out.fr (fr_put9 _ _ _ _ _ _ _ _ _ _ _) (fun g hg hx=>by
   simp at hx
   exact HL5.out.apart HRB.out (by decide) (hx ▸ hg))
end
end Go.Proofs.YtfcjdinlcehpmaaGreatDoor
