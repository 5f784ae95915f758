/- Several texts joined (pack.py): Ur Zq Zr Zs Zt. -/
import Derived.Test.YtimlkjppaalfaaaGreatDoorPW42
import Derived.Test.YtimlkjppaalfaaaGreatDoorPW36
import Derived.Test.YtimlkjppaalfaaaGreatDoorPW19
import Derived.Test.YtimlkjppaalfaaaGreatDoorPW43
import Derived.Test.YtimlkjppaalfaaaGreatDoorPW35
import Derived.Test.YtimlkjppaalfaaaGreatDoorPW41
import Derived.Deep.CutRange
import Derived.Deep.RegionHeld3
import Derived.Deep.RegionLaw
import Derived.StillTailTactics
import Derived.WalkKit
import Derived.BigQuiet
set_option linter.unusedVariables false
set_option linter.unusedSimpArgs false
set_option maxHeartbeats 3200000
set_option maxRecDepth 100000
open List renaming mem_cons_of_mem->CZ,mem_cons_self->C0,mem_cons->C1,mem_append->C9
open Nat renaming le_refl->Dd
namespace Go.Proofs.YtimlkjppaalfaaaGreatDoor
open Go.RowKit Go.Gl HS
theorem yD(tg:TG)(g T B M:Nat)(σ:GS):ah (λb=>(tg b).1≠0) (λw=>MAt w tg g T B M σ):=
 ⟨λw w' F h hf hF=>h.fr hf (λb hb=>Classical.byContradiction λe=>hF b hb e),λw h b hb=>h.tok b hb⟩
theorem As{g:Geo}{s k:Nat}(h:g.Ok s k):∃M:Nat,g.max=(M:Int)/\1<=M/\M<=1048576:=by
 have h1:=h.max;have h2:=h.r2;have hp:=hZ s;have h3:1*1<=(g.regions-1)*pw s:=Int.mul_le_mul (by omega) (by omega) (by decide) (by omega);have h4:1<=g.max/\g.max<=1048576:=by rw[h1];omega
 exact⟨g.max.toNat,by omega,by omega,by omega⟩
section
variable {D1 D2:Nat->Prop}{Q1 Q2:World->Prop}
theorem ah.and(h1:ah D1 Q1)(h2:ah D2 Q2):ah (λb=>D1 b\/D2 b) (λw=>Q1 w/\Q2 w):=
 ⟨λw w' F h hf hF=>⟨h1.stay w w' F h.1 hf (λb hb hd=>hF b hb (.inl hd)),h2.stay w w' F h.2 hf (λb hb hd=>hF b hb (.inr hd))⟩,λw h b hb=>hb.elim (h1.lt w h.1 b) (h2.lt w h.2 b)⟩
theorem ah.all{P:Nat->Prop}{Di:Nat->Nat->Prop}{Qi:Nat->World->Prop}(h:∀i,P i->ah (Di i) (Qi i)):ah (λb=>∃i,P i/\Di i b) (λw=>∀i,P i->Qi i w):=
 ⟨λw w' F q hf hF i hi=>(h i hi).stay w w' F (q i hi) hf (λb hb hd=>hF b hb ⟨i,hi,hd⟩),λw q b ⟨i,hi,hd⟩=>(h i hi).lt w (q i hi) b hd⟩
theorem ah.lr(e:TypeId)(A:Option Addr)(n c:Nat)(G:List Nat)(xs:List Value):ah (λb=>b∈G) (λw=>Lr w e A n c G xs):=⟨λw w' F h hf hF=>h.fr hf (λg hg hx=>hF g hx hg),λw h b hb=>h.lt b hb⟩
end
structure WG where
 g:Nat
 tg:TG
 dA:Option Addr
 dc:Nat
 dG:List Nat
 dl:List Int
 oA:Nat->Option Addr
 on:Nat->Nat
 oc:Nat->Nat
 oG:Nat->List Nat
 ox:Nat->List Value
 nn:Nat->Nat
def gD(DX:Nat->Prop)(Λ:WL)(Γ:WG)(P:Nat->Prop):Nat->Prop:=λb=>DX b\/(b∈Λ.mG\/(b∈Γ.dG\/((Γ.tg b).1≠0\/∃i,P i/\b∈Γ.oG i)))
def gQ(QX:World->Prop)(Λ:WL)(Γ:WG)(P:Nat->Prop)(T B M:Nat)(σ:GS):World->Prop:=λw=>QX w/\(Lr w 62 Λ.mA T Λ.mc Λ.mG (aQ Λ.P T)/\(Lr w 3 Γ.dA Γ.dl.length Γ.dc Γ.dG (zv Γ.dl) /\
 (MAt w Γ.tg Γ.g T B M σ/\∀i,P i->Lr w 154 (Γ.oA i) (Γ.on i) (Γ.oc i) (Γ.oG i) (Γ.ox i))))
theorem eh{DX:Nat->Prop}{QX:World->Prop}(hX:ah DX QX)(Λ:WL)(Γ:WG)(P:Nat->Prop)(T B M:Nat)(σ:GS):ah (gD DX Λ Γ P) (gQ QX Λ Γ P T B M σ):=
 hX.and ((ah.lr _ _ _ _ _ _).and ((ah.lr _ _ _ _ _ _).and ((yD Γ.tg Γ.g T B M σ).and (ah.all λi _=>ah.lr _ _ _ _ _ _))))
structure Dj(DX:Nat->Prop)(Λ:WL)(Γ:WG)(T:Nat):Prop where
 x:∀b,DX b->b∉Λ.mG/\b∉Γ.dG/\(Γ.tg b).1=0/\∀i,i<T->b∉Γ.oG i
 m:∀b,b∈Λ.mG->b∉Γ.dG/\(Γ.tg b).1=0/\∀i,i<T->b∉Γ.oG i
 d:∀b,b∈Γ.dG->(Γ.tg b).1=0/\∀i,i<T->b∉Γ.oG i
 t:∀b,(Γ.tg b).1≠0->∀i,i<T->b∉Γ.oG i
 o:∀i j,i<T->j<T->i≠j->∀b,b∈Γ.oG i->b∉Γ.oG j
def kC(f:Nat->Nat):Nat->Nat
|0=>0
|n+1=>kC f n+f n
theorem lX{f f':Nat->Nat}{t:Nat}(he:∀i,i≠t->f' i=f i):∀n,(t<n->kC f' n+f t=kC f n+f' t)/\(n<=t->kC f' n=kC f n)
|0=>⟨λh=>by omega,λ_=>rfl⟩
|n+1=>by
  obtain⟨h1,h2⟩:=lX he n;refine⟨λh=>?_,λh=>?_⟩
  ·simp only[kC];by_cases e:n=t
   ·subst e;rw[h2 (Dd _)];omega
   ·have:=h1 (by omega);rw[he n e];omega
  ·simp only[kC];rw[h2 (by omega),he n (by omega)]
theorem pl{f:Nat->Nat}{b:Nat}:∀ {n:Nat},(∀i,i<n->f i<=b)->kC f n<=n*b
|0,_=>by simp[kC]
|n+1,h=>by
  have h1:=pl (f:=f) (b:=b) (n:=n) (λi hi=>h i (by omega));have h2:=h n (by omega);simp only[kC];rw[Nat.add_mul,Nat.one_mul];omega
def jM(W:World)(v:Value)(n:Nat)(f:Nat->Po):Prop:=∃A c,v=.slice A n c/\(0<n->∃b off,A=some ⟨b,off,none⟩/\b<W.heap.size/\∀j,j<n ->
 W.cell? ⟨b,off+j*5,none⟩=some (.int .i64 (f j).k)/\W.cell? ⟨b,off+j*5+1,none⟩=some (.int .i64 (f j).a)/\W.cell? ⟨b,off+j*5+2,none⟩=some (.int .i64 (f j).b)/\W.cell? ⟨b,off+j*5+3,none⟩=some (.int .i64 (f j).c)/\W.cell? ⟨b,off+j*5+4,none⟩=some (.int .u64 (f j).v))
structure WP(W:World)(B:Nat)(h:HS)(x:HT)(DX:Nat->Prop)(Λ:WL)(Γ:WG)(M T:Nat)(V:WS)(σ:GS)(A:Nat->Nat)(rv:Nat->Option (Nat×Nat))(Ops:Nat->Nat->Po)(On:Nat->Nat)(Nt:Prop):Prop where
 dj:Dj DX Λ Γ T
 wi:WI B h x V σ A rv M T
 gd:fc T B M
 vd:V.dl=.slice Γ.dA Γ.dl.length Γ.dc
 vo:∀i,i<T->V.OV i=.slice (Γ.oA i) (Γ.on i) (Γ.oc i)
 ops:∀i,i<T->jM W (V.OP i) (On i) (Ops i)
 ok:∀i j,dH (Ops i j)/\0<=(Ops i j).v/\(Ops i j).v<18446744073709551616
 ol:∀i,On i<=60
 nx:∀i,i<T->V.nx i<=On i
 cur:∀i,i<T->(V.mu i).st≠0->(V.mu i).st≠6->V.nx i<On i/\(V.mu i).op=Ops i (V.nx i)
 dn:∀i,i<T->(V.mu i).dn=σ.done i
 dx:∀i,i<T->σ.done i<=V.nx i
 N:σ.N<=kC V.nx T
 lg:∀i,i<T->Γ.on i<=V.nx i+(if (V.mu i).st=4 then 1 else 0)
 nt:∀i,i<T->Γ.nn i+(if (V.mu i).st=6 then 1 else 0)<=V.nx i
 dl:Γ.dl.length<=4*kC Γ.nn T
 no:Nt->eF h x V σ A Γ.dl T
section
variable {W w w':World}{L:HL}{X:HX}{h h':HS}{x x':HT}{s k:Nat}{E:aK}{D D' DX:Nat->Prop}{Q Q' QX:World->Prop}{Λ:WL}{Γ Γ':WG}{hb g t:Nat}{V V':WS}{σ σ':GS}{A A':Nat->Nat}{rv rv':Nat->Option (Nat×Nat)}{B M T:Nat}{Ops:Nat->Nat->Po}{On:Nat->Nat}{Nt:Prop}
theorem HM.re(hT:Tab W)(H:HM W w L X h x s k E D Q)(hD:∀b,D' b->D b)(hq:Q' w):HM W w L X h x s k E D' Q':=H.live hT (F:=[]) (Fr.refl _ _) (λb hb=>by cases hb) (λb hb=>.inl (hD b hb)) hq
theorem WP.next(P:WP W B h x DX Λ Γ M T V σ A rv Ops On Nt)(ht:t<T)(dj:Dj DX Λ Γ' T)(wi:WI B h' x' V' σ' A' rv' M T)(vd:V'.dl=.slice Γ'.dA Γ'.dl.length Γ'.dc)(vo:∀i,i<T->V'.OV i=.slice (Γ'.oA i) (Γ'.on i) (Γ'.oc i))(op:V'.OP=V.OP)
  (hmu:∀i,i≠t->V'.mu i=V.mu i) (hnx:∀i,i≠t->V'.nx i=V.nx i) (hon:∀i,i≠t->Γ'.on i=Γ.on i) (hnn:∀i,i≠t->Γ'.nn i=Γ.nn i) (hdn:∀i,i≠t->σ'.done i=σ.done i)
  (nx:V'.nx t<=On t) (cur:(V'.mu t).st≠0->(V'.mu t).st≠6->V'.nx t<On t/\(V'.mu t).op=Ops t (V'.nx t)) (dn:(V'.mu t).dn=σ'.done t) (dx:σ'.done t<=V'.nx t) (N:σ'.N+V.nx t<=σ.N+V'.nx t)
  (lg:Γ'.on t<=V'.nx t+(if (V'.mu t).st=4 then 1 else 0)) (nt:Γ'.nn t+(if (V'.mu t).st=6 then 1 else 0)<=V'.nx t) (dl:Γ'.dl.length+4*Γ.nn t<=Γ.dl.length+4*Γ'.nn t) (no:Nt->eF h' x' V' σ' A' Γ'.dl T) :
  WP W B h' x' DX Λ Γ' M T V' σ' A' rv' Ops On Nt:=by
 have s1:=(lX hnx T).1 ht;have s2:=(lX hnn T).1 ht;refine⟨dj,wi,P.gd,vd,vo,by rw[op];exact P.ops,P.ok,P.ol,λi hi=>?_,λi hi=>?_,λi hi=>?_,λi hi=>?_,by have:=P.N;omega,λi hi=>?_,λi hi=>?_,by have:=P.dl;omega,no⟩
 ·by_cases e:i=t
  ·subst e;exact nx
  ·rw[hnx i e];exact P.nx i hi
 ·by_cases e:i=t
  ·subst e;exact cur
  ·rw[hmu i e,hnx i e];exact P.cur i hi
 ·by_cases e:i=t
  ·subst e;exact dn
  ·rw[hmu i e,hdn i e];exact P.dn i hi
 ·by_cases e:i=t
  ·subst e;exact dx
  ·rw[hnx i e,hdn i e];exact P.dx i hi
 ·by_cases e:i=t
  ·subst e;exact lg
  ·rw[hmu i e,hnx i e,hon i e];exact P.lg i hi
 ·by_cases e:i=t
  ·subst e;exact nt
  ·rw[hmu i e,hnx i e,hnn i e];exact P.nt i hi
theorem WP.can(P:WP W B h x DX Λ Γ M T V σ A rv Ops On Nt):σ.N<=3840:=by
 have h1:=P.N;have h2:=pl (f:=V.nx) (b:=60) (n:=T) (λi hi=>by have:=P.nx i hi;have:=P.ol i;omega);have h3:=P.gd.t;have:T*60<=64*60:=Nat.mul_le_mul_right _ h3;omega
theorem WP.CW(P:WP W B h x DX Λ Γ M T V σ A rv Ops On Nt):Can M σ:=⟨P.wi.M2,by have:=P.can;omega⟩
theorem WP.CA(P:WP W B h x DX Λ Γ M T V σ A rv Ops On Nt):Γ.dl.length<=15360:=by
 have h1:=P.dl;have h2:=pl (f:=Γ.nn) (b:=60) (n:=T) (λi hi=>by have:=P.nx i hi;have:=P.ol i;have:=P.nt i hi;omega);have h3:=P.gd.t;have:T*60<=64*60:=Nat.mul_le_mul_right _ h3;omega
theorem HM.yE(hS:ah D Q)(hT:Tab W)(H:HM W w L X h x s k (wE Λ hb g T V++E) D Q)(hE:∀q,q∈E->q.1≠Λ.wb){dl':Value}{wn':Int}(hf:Fr [Λ.wb] w w')(hbk:Blk w' Λ.wb 37 (wdV hb Λ.sb Λ.mA T Λ.mc Λ.pb Λ.nb T g dl' wn' V.sy)) :
  HM W w' L X h x s k (wE Λ hb g T { V with dl:=dl',wn:=wn' }++E) D Q:=by
 have H1:HM W w L X h x s k ((Λ.wb,37,wdV hb Λ.sb Λ.mA T Λ.mc Λ.pb Λ.nb T g V.dl V.wn V.sy)::((Λ.ob,128,aI T V.OV)::(Λ.sb,61,#[.bool V.mg,.slice (some ⟨Λ.ob,0,none⟩) T T])::(Λ.pb,82,aI T V.OP)::(Λ.nb,3,aI T λi=>.int .i64 (V.nx i:Int))::((List.range T).map (muE Λ hb V)++E))) D Q:=
  H.sub (λq hq=>by
   simp only[C1,C9]at hq;simp only[wE,w4E,C1,C9,List.not_mem_nil,or_false];rcases hq with e|e|e|e|e|e|e <;> simp[e])
 have hw:=H1.blk (b:=Λ.wb) (C0 ..);have H2:=H1.l7 hS hT hf hbk (λq hq=>by
  have hq3:=H1.blk (b:=q.1) (t:=q.2.1) (cs:=q.2.2) (CZ _ hq);simp only[C1,C9,List.mem_map]at hq;rcases hq with e|e|e|e|⟨i,_,e⟩|e
  ·exact hq3.apart hw (by rw[e];simp only;decide)
  ·exact hq3.apart hw (by rw[e];simp only;decide)
  ·exact hq3.apart hw (by rw[e];simp only;decide)
  ·exact hq3.apart hw (by rw[e];simp only;decide)
  ·exact hq3.apart hw (by rw[<- e];show(127:TypeId)≠37;decide)
  ·exact hE q e)
 exact H2.sub (λq hq=>by
  simp only[wE,w4E,C1,C9,List.not_mem_nil,or_false]at hq;simp only[C1,C9];rcases hq with(e|(e|e|e|e)|e)|e
  ·simp[e]
  ·simp[e]
  ·simp[e]
  ·simp[e]
  ·simp[e]
  ·exact .inr (.inr (.inr (.inr (.inr (.inl e)))))
  ·simp[e])
theorem HM.CB(hS:ah D Q)(hT:Tab W)(H:HM W w L X h x s k (wE Λ hb g T V++E) D Q)(hE:∀q,q∈E->q.1≠Λ.nb){nx':Nat->Nat}(hf:Fr [Λ.nb] w w')(hbk:Blk w' Λ.nb 3 (aI T λi=>.int .i64 (nx' i:Int))) :
  HM W w' L X h x s k (wE Λ hb g T { V with nx:=nx' }++E) D Q:=by
 have H1:HM W w L X h x s k ((Λ.nb,3,aI T λi=>.int .i64 (V.nx i:Int))::((Λ.ob,128,aI T V.OV)::(Λ.wb,37,wdV hb Λ.sb Λ.mA T Λ.mc Λ.pb Λ.nb T g V.dl V.wn V.sy)::(Λ.sb,61,#[.bool V.mg,.slice (some ⟨Λ.ob,0,none⟩) T T])::(Λ.pb,82,aI T V.OP)::((List.range T).map (muE Λ hb V)++E))) D Q:=
  H.sub (λq hq=>by
   simp only[C1,C9]at hq;simp only[wE,w4E,C1,C9,List.not_mem_nil,or_false];rcases hq with e|e|e|e|e|e|e <;> simp[e])
 have hw:=H1.blk (b:=Λ.nb) (C0 ..);have H2:=H1.l7 hS hT hf hbk (λq hq=>by
  have hq3:=H1.blk (b:=q.1) (t:=q.2.1) (cs:=q.2.2) (CZ _ hq);simp only[C1,C9,List.mem_map]at hq;rcases hq with e|e|e|e|⟨i,_,e⟩|e
  ·exact hq3.apart hw (by rw[e];simp only;decide)
  ·exact hq3.apart hw (by rw[e];simp only;decide)
  ·exact hq3.apart hw (by rw[e];simp only;decide)
  ·exact hq3.apart hw (by rw[e];simp only;decide)
  ·exact hq3.apart hw (by rw[<- e];show(127:TypeId)≠3;decide)
  ·exact hE q e)
 exact H2.sub (λq hq=>by
  simp only[wE,w4E,C1,C9,List.not_mem_nil,or_false]at hq;simp only[C1,C9];rcases hq with(e|(e|e|e|e)|e)|e
  ·simp[e]
  ·simp[e]
  ·simp[e]
  ·simp[e]
  ·simp[e]
  ·exact .inr (.inr (.inr (.inr (.inr (.inl e)))))
  ·simp[e])
theorem vO(B M T:Nat)(σ:GS)(t:Nat)(o:Po):aM B M T (σ.tick t) t o=(aM B M T σ t o).tick t:=by
 have e1:∀(c:Prop) [Decidable c] (a b:GS),(if c then a.tick t else b.tick t)=(if c then a else b).tick t:=λc _ a b=>by split <;> rfl
 unfold aM;simp only[<- e1]
 congr 1
 ·unfold bZ;simp only[<- e1];rfl
 ·congr 1
  ·unfold dN;simp only[<- e1];rfl
  ·congr 1
   ·unfold bU;simp only[<- e1];rfl
   ·congr 1
    ·unfold cp;simp only[<- e1];rfl
    ·congr 1
     congr 1
     congr 1
     ·unfold jc;simp only[<- e1];rfl
     ·congr 1
      unfold di;simp only[<- e1];rfl
theorem cu.tick{i:Nat}{o:Po}{q I:Nat}(l:cu σ A i o q I)(t:Nat):cu (σ.tick t) A i o q I:=⟨l.q1,l.q2,l.a,l.r,l.c,l.f⟩
theorem Phase.tick{n:Nat}{i:Nat}{m:MU}(p:Phase n M σ A rv i m)(t:Nat):Phase n M (σ.tick t) A rv i m:=by
 rcases p with p|p|p|⟨p1,p2,q,I,l,p3⟩|p|p|⟨p1,p2,p3,q,I,l,p4⟩
 ·exact .inl p
 ·exact .inr (.inl p)
 ·exact .inr (.inr (.inl p))
 ·exact .inr (.inr (.inr (.inl ⟨p1,p2,q,I,l.tick t,p3⟩)))
 ·exact .inr (.inr (.inr (.inr (.inl p))))
 ·exact .inr (.inr (.inr (.inr (.inr (.inl p)))))
 ·exact .inr (.inr (.inr (.inr (.inr (.inr ⟨p1,p2,p3,q,I,l.tick t,p4⟩)))))
theorem WI.tick(I:WI B h x V σ A rv M T)(t:Nat):WI B h x V (σ.tick t) A rv M T:=⟨I.sim.tick t,I.gk.tick t,I.eT,λi hi=>(I.ph i hi).tick t,I.q,I.op,I.B64,I.M1,I.M2⟩
theorem WI.of(I:WI B h x V σ A rv M T)(hm:V'.mu=V.mu):WI B h x V' σ A rv M T:=⟨I.sim,I.gk,I.eT,λi hi=>by rw[hm];exact I.ph i hi,I.q,λi hi=>by rw[hm];exact I.op i hi,I.B64,I.M1,I.M2⟩
theorem eF.of{dl:List Int}(N:eF h x V σ A dl T)(hm:V'.mu=V.mu)(t:Nat):eF h x V' (σ.tick t) A dl T:=⟨λo j h1 h2 h3 h4=>by rw[hm];exact N.ref o j h1 h2 h3 h4,N.nd,N.dw,N.rg⟩
theorem At(ok:h.Ok s k)(d:cI h.g h.W h.R x.cw x.per){I c:Nat}(hI:I<h.n)(hc:h.g.aV (I:Int)=(c:Int)):c<h.R*x.per:=by
 have hd:=d.c1;have e:h.g.aV (I:Int)=(I:Int) / h.g.cw:=by
  unfold Geo.aV;rw[if_pos ⟨by omega,by rw[ok.wd];omega⟩]
 rw[e,d.cw,<- Int.natCast_ediv]at hc;have hc:I / x.cw=c:=by omega
 rw[<- hc,Nat.div_lt_iff_lt_mul (by omega),Nat.mul_assoc,<- d.wp,<- ok.nn];exact hI
end
def WG.old(Γ:WG)(t:Nat)(A:Option Addr)(n c:Nat)(G:List Nat)(xs:List Value):WG:={ Γ with oA:=ai Γ.oA t A,on:=ai Γ.on t n,oc:=ai Γ.oc t c,oG:=ai Γ.oG t G,ox:=ai Γ.ox t xs }
def WG.left(Γ:WG)(A:Option Addr)(c:Nat)(G:List Nat)(l:List Int):WG:={ Γ with dA:=A,dc:=c,dG:=G,dl:=l }
def WG.tags(Γ:WG)(tg:TG):WG:={ Γ with tg:=tg }
section
variable {W w w' w1 w2 wq:World}{L:HL}{X:HX}{h:HS}{x:HT}{s k:Nat}{E:aK}{DX:Nat->Prop}{QX:World->Prop}{Λ:WL}{Γ:WG}{hb g t:Nat}{V:WS}{σ σ':GS}{B M T:Nat}
theorem CC(hT:Tab W)(H:HM W w L X h x s k E (gD DX Λ Γ (·<T)) (gQ QX Λ Γ (·<T) T B M σ))(ht:t<T) :
  HM W w L X h x s k E (λb=>b∈Γ.oG t\/gD DX Λ Γ (λi=>i<T/\i≠t) b) (λw=>Lr w 154 (Γ.oA t) (Γ.on t) (Γ.oc t) (Γ.oG t) (Γ.ox t)/\gQ QX Λ Γ (λi=>i<T/\i≠t) T B M σ w):=by
 refine H.re hT (λb hb=>?_) ?_
 ·rcases hb with hb|hb|hb|hb|hb|⟨i,hi,hb⟩
  ·exact .inr (.inr (.inr (.inr ⟨t,ht,hb⟩)))
  ·exact .inl hb
  ·exact .inr (.inl hb)
  ·exact .inr (.inr (.inl hb))
  ·exact .inr (.inr (.inr (.inl hb)))
  ·exact .inr (.inr (.inr (.inr ⟨i,hi.1,hb⟩)))
 ·obtain⟨q1,q2,q3,q4,q5⟩:=H.q;exact⟨q5 t ht,q1,q2,q3,q4,λi hi=>q5 i hi.1⟩
theorem CD(hT:Tab W){A1:Option Addr}{n1 c1:Nat}{G1:List Nat}{xs1:List Value}(H:HM W w L X h x s k E (λb=>b∈G1\/gD DX Λ Γ (λi=>i<T/\i≠t) b) (λw=>Lr w 154 A1 n1 c1 G1 xs1/\gQ QX Λ Γ (λi=>i<T/\i≠t) T B M σ w)) :
  HM W w L X h x s k E (gD DX Λ (Γ.old t A1 n1 c1 G1 xs1) (·<T)) (gQ QX Λ (Γ.old t A1 n1 c1 G1 xs1) (·<T) T B M σ):=by
 refine H.re hT (λb hb=>?_) ?_
 ·rcases hb with hb|hb|hb|hb|⟨i,hi,hb⟩
  ·exact .inr (.inl hb)
  ·exact .inr (.inr (.inl hb))
  ·exact .inr (.inr (.inr (.inl hb)))
  ·exact .inr (.inr (.inr (.inr (.inl hb))))
  ·have hb:b∈ai Γ.oG t G1 i:=hb;by_cases e:i=t
   ·subst e;rw[aq]at hb;exact .inl hb
   ·rw[az _ _ e]at hb;exact .inr (.inr (.inr (.inr (.inr ⟨i,⟨hi,e⟩,hb⟩))))
 ·obtain⟨q0,q1,q2,q3,q4,q5⟩:=H.q;refine⟨q1,q2,q3,q4,λi hi=>?_⟩;show Lr w 154 (ai Γ.oA t A1 i) (ai Γ.on t n1 i) (ai Γ.oc t c1 i) (ai Γ.oG t G1 i) (ai Γ.ox t xs1 i);by_cases e:i=t
  ·subst e;rw[aq,aq,aq,aq,aq];exact q0
  ·rw[az _ _ e,az _ _ e,az _ _ e,az _ _ e,az _ _ e];exact q5 i ⟨hi,e⟩
theorem Dj.old(d:Dj DX Λ Γ T){A1:Option Addr}{n1 c1:Nat}{G1:List Nat}{xs1:List Value}(hG:∀g,g∈G1->¬ gD DX Λ Γ (λi=>i<T/\i≠t) g):Dj DX Λ (Γ.old t A1 n1 c1 G1 xs1) T:=by
 have key:∀ {b i:Nat},i<T->b∈ai Γ.oG t G1 i->(i=t/\b∈G1)\/(i≠t/\b∈Γ.oG i):=λ{b i} hi hb=>by
  by_cases e:i=t
  ·subst e;rw[aq]at hb;exact .inl ⟨rfl,hb⟩
  ·rw[az _ _ e]at hb;exact .inr ⟨e,hb⟩
 refine⟨λb hb=>?_,λb hb=>?_,λb hb=>?_,λb hb i hi hx=>?_,λi j hi hj hij b hb hx=>?_⟩
 ·obtain⟨k1,k2,k3,k4⟩:=d.x b hb;refine⟨k1,k2,k3,λi hi hx=>?_⟩;rcases key hi hx with⟨_,e⟩|⟨_,e⟩
  ·exact hG b e (.inl hb)
  ·exact k4 i hi e
 ·obtain⟨k1,k2,k3⟩:=d.m b hb;refine⟨k1,k2,λi hi hx=>?_⟩;rcases key hi hx with⟨_,e⟩|⟨_,e⟩
  ·exact hG b e (.inr (.inl hb))
  ·exact k3 i hi e
 ·obtain⟨k1,k2⟩:=d.d b hb;refine⟨k1,λi hi hx=>?_⟩;rcases key hi hx with⟨_,e⟩|⟨_,e⟩
  ·exact hG b e (.inr (.inr (.inl hb)))
  ·exact k2 i hi e
 ·rcases key hi hx with⟨_,e⟩|⟨_,e⟩
  ·exact hG b e (.inr (.inr (.inr (.inl hb))))
  ·exact d.t b hb i hi e
 ·rcases key hi hb with⟨e1,e⟩|⟨e1,e⟩
  ·rcases key hj hx with⟨e2,e'⟩|⟨e2,e'⟩
   ·omega
   ·exact hG b e (.inr (.inr (.inr (.inr ⟨j,⟨hj,e2⟩,e'⟩))))
  ·rcases key hj hx with⟨e2,e'⟩|⟨e2,e'⟩
   ·exact hG b e' (.inr (.inr (.inr (.inr ⟨i,⟨hi,e1⟩,e⟩))))
   ·exact d.o i j hi hj hij b e e'
theorem CF(hX:ah DX QX)(hT:Tab W)(H:HM W w1 L X h x s k (wE Λ L.hb Γ.g T V++E) (gD DX Λ Γ (·<T)) (gQ QX Λ Γ (·<T) T B M σ))(hE:∀q,q∈E->q.1≠Λ.wb)(d:Dj DX Λ Γ T)(hf:Fr [] w1 wq){A':Option Addr}{n' c':Nat}{G':List Nat}{l':List Int}(hn:n'=l'.length)
  (hL:Lr w2 3 A' n' c' G' (zv l')) (hg:Fr Γ.dG wq w2) (hG':∀g,g∈G'->g∈Γ.dG\/g=wq.heap.size) :
  HM W (w2.setCell ⟨Λ.wb,6,none⟩ (.slice A' n' c')) L X h x s k (wE Λ L.hb Γ.g T { V with dl:=.slice A' n' c',wn:=V.wn }++E) (gD DX Λ (Γ.left A' c' G' l') (·<T)) (gQ QX Λ (Γ.left A' c' G' l') (·<T) T B M σ)/\Dj DX Λ (Γ.left A' c' G' l') T:=by
 subst hn;have hS:=eh hX Λ Γ (·<T) T B M σ;have H1:=H.fr0 hS hf;have hlt:∀b,gD DX Λ Γ (·<T) b->b<wq.heap.size:=λb hb=>hS.lt wq H1.q b hb;have ndG:∀b,b∈Γ.dG->¬ DX b/\b∉Λ.mG/\(Γ.tg b).1=0/\∀i,i<T->b∉Γ.oG i:=λb hb=>⟨λhd=>(d.x b hd).2.1 hb,λhm=>(d.m b hm).1 hb,(d.d b hb).1,(d.d b hb).2⟩;obtain⟨q1,q2,q3,q4,q5⟩:=H1.q;have H2:HM W w2 L X h x s k (wE Λ L.hb Γ.g T V++E) (gD DX Λ (Γ.left A' c' G' l') (·<T)) (gQ QX Λ (Γ.left A' c' G' l') (·<T) T B M σ):=by
  refine H1.live hT hg (λb hb=>.inr (.inr (.inl hb))) (λb hb=>?_) ⟨?_,?_,hL,?_,λi hi=>?_⟩
  ·rcases hb with hb|hb|hb|hb|hb
   ·exact .inl (.inl hb)
   ·exact .inl (.inr (.inl hb))
   ·rcases hG' b hb with e|e
    ·exact .inl (.inr (.inr (.inl e)))
    ·exact .inr (by omega)
   ·exact .inl (.inr (.inr (.inr (.inl hb))))
   ·exact .inl (.inr (.inr (.inr (.inr hb))))
  ·exact hX.stay _ _ _ q1 hg (λb hb hd=>(ndG b hb).1 hd)
  ·exact q2.fr hg (λb hb hx=>(ndG b hx).2.1 hb)
  ·exact q4.fr hg (λb hb=>(ndG b hb).2.2.1)
  ·exact(q5 i hi).fr hg (λb hb hx=>(ndG b hx).2.2.2 i hi hb)
 have hS2:=eh hX Λ (Γ.left A' c' G' l') (·<T) T B M σ;have hbw:=H2.blk (b:=Λ.wb) (t:=37) (cs:=wdV L.hb Λ.sb Λ.mA T Λ.mc Λ.pb Λ.nb T Γ.g V.dl V.wn V.sy) (by simp[wE,w4E]);have hp:=hbw.put 6 (.slice A' l'.length c');refine⟨H2.yE hS2 hT hE ((Fr.refl [Λ.wb] w2).setCell (p:=⟨Λ.wb,6,none⟩) (.inl (by simp)) _) (by unfold wdV at hp ⊢;simpa using hp),⟨λb hb=>?_,λb hb=>?_,λb hb=>?_,d.t,d.o⟩⟩
 ·obtain⟨k1,k2,k3,k4⟩:=d.x b hb;refine⟨k1,λhx=>?_,k3,k4⟩;rcases hG' b hx with e|e
  ·exact k2 e
  ·have:=hlt b (.inl hb);omega
 ·obtain⟨k1,k2,k3⟩:=d.m b hb;refine⟨λhx=>?_,k2,k3⟩;rcases hG' b hx with e|e
  ·exact k1 e
  ·have:=hlt b (.inr (.inl hb));omega
 ·rcases hG' b hb with e|e
  ·exact d.d b e
  ·refine⟨?_,λi hi hx=>?_⟩
   ·by_cases e2:(Γ.tg b).1=0
    ·exact e2
    ·have:=hlt b (.inr (.inr (.inr (.inl e2))));omega
   ·have:=hlt b (.inr (.inr (.inr (.inr ⟨i,hi,hx⟩))));omega
theorem yF(hX:ah DX QX)(hT:Tab W)(H:HM W w L X h x s k E (gD DX Λ Γ (·<T)) (gQ QX Λ Γ (·<T) T B M σ))(d:Dj DX Λ Γ T){tg':TG}(hq:MAt w' tg' Γ.g T B M σ')(hg:GFr w Γ.tg w' tg') :
  HM W w' L X h x s k E (gD DX Λ (Γ.tags tg') (·<T)) (gQ QX Λ (Γ.tags tg') (·<T) T B M σ')/\Dj DX Λ (Γ.tags tg') T:=by
 have hS:=eh hX Λ Γ (·<T) T B M σ;obtain⟨⟨F,hf,hF⟩,hu⟩:=hg;obtain⟨q1,q2,q3,q4,q5⟩:=H.q;have hlt:∀b,gD DX Λ Γ (·<T) b->b<w.heap.size:=λb hb=>hS.lt w H.q b hb;have old:∀b,b<w.heap.size->(tg' b).1=(Γ.tg b).1:=λb hb=>by rw[hu b hb]
 refine⟨H.live hT hf (λb hb=>.inr (.inr (.inr (.inl (hF b hb))))) (λb hb=>?_) ⟨?_,?_,?_,hq,λi hi=>?_⟩,⟨λb hb=>?_,λb hb=>?_,λb hb=>?_,λb hb i hi hx=>?_,d.o⟩⟩
 ·rcases hb with hb|hb|hb|hb|hb
  ·exact .inl (.inl hb)
  ·exact .inl (.inr (.inl hb))
  ·exact .inl (.inr (.inr (.inl hb)))
  ·by_cases e:b<w.heap.size
   ·have hb:(tg' b).1≠0:=hb;rw[old b e]at hb;exact .inl (.inr (.inr (.inr (.inl hb))))
   ·exact .inr (by omega)
  ·exact .inl (.inr (.inr (.inr (.inr hb))))
 ·exact hX.stay _ _ _ q1 hf (λb hb hd=>hF b hb (d.x b hd).2.2.1)
 ·exact q2.fr hf (λb hb hx=>hF b hx (d.m b hb).2.1)
 ·exact q3.fr hf (λb hb hx=>hF b hx (d.d b hb).1)
 ·exact(q5 i hi).fr hf (λb hb hx=>d.t b (hF b hx) i hi hb)
 ·obtain⟨k1,k2,k3,k4⟩:=d.x b hb;exact⟨k1,k2,(old b (hlt b (.inl hb))).trans k3,k4⟩
 ·obtain⟨k1,k2,k3⟩:=d.m b hb;exact⟨k1,(old b (hlt b (.inr (.inl hb)))).trans k2,k3⟩
 ·obtain⟨k1,k2⟩:=d.d b hb;exact⟨(old b (hlt b (.inr (.inr (.inl hb))))).trans k1,k2⟩
 ·have hb:(tg' b).1≠0:=hb;have hl:=hlt b (.inr (.inr (.inr (.inr ⟨i,hi,hx⟩))));rw[old b hl]at hb;exact d.t b hb i hi hx
theorem AP(hX:ah DX QX)(hT:Tab W)(H:HM W w L X h x s k E (gD DX Λ Γ (·<T)) (gQ QX Λ Γ (·<T) T B M σ))(d:Dj DX Λ Γ T)(ht:t<T) :
  ∃db:Nat,w.cell? ⟨Γ.g,3,none⟩=some (.slice (some ⟨db,0,none⟩) T T)/\w.cell? ⟨db,t,none⟩=some (.int .i64 (σ.done t:Int))/\w.frozen? ⟨db,t,none⟩=false /\
   HM W (w.setCell ⟨db,t,none⟩ (.int .i64 ((σ.done t+1:Nat):Int))) L X h x s k E (gD DX Λ (Γ.tags Γ.tg) (·<T)) (gQ QX Λ (Γ.tags Γ.tg) (·<T) T B M (σ.tick t)):=by
 obtain⟨Λm,hm,e⟩:=H.q.2.2.2.1;have hb:=hm.don;have c3:=hm.c3;rw[e]at c3;obtain⟨k1,k2⟩:=hm.done ht;exact⟨Λm.db,c3,by rw[hb.cell,de ht],hb.frozen t,(yF hX hT H d ⟨Λm,k1,e⟩ k2).1⟩
theorem HM.wNx{D:Nat->Prop}{Q:World->Prop}(hS:ah D Q)(hT:Tab W)(H:HM W w L X h x s k (wE Λ hb g T V++E) D Q)(hE:∀q,q∈E->q.1≠Λ.nb) :
  w.frozen? ⟨Λ.nb,t,none⟩=false/\HM W (w.setCell ⟨Λ.nb,t,none⟩ (.int .i64 ((V.nx t:Int)+1))) L X h x s k (wE Λ hb g T { V with nx:=ai V.nx t (V.nx t+1) }++E) D Q:=by
 have hn:=H.blk (b:=Λ.nb) (t:=3) (cs:=aI T λi=>.int .i64 (V.nx i:Int)) (by simp[wE,w4E]);have hp:=hn.put t (.int .i64 ((V.nx t:Int)+1));rw[ib]at hp;refine⟨hn.frozen t,H.CB hS hT hE ((Fr.refl [Λ.nb] w).setCell (p:=⟨Λ.nb,t,none⟩) (.inl (by simp)) _) ?_⟩;have e:(bC (λi=>Value.int .i64 (V.nx i:Int)) t (.int .i64 ((V.nx t:Int)+1)))=λi=>.int .i64 ((ai V.nx t (V.nx t+1) i:Nat):Int):=by
  funext i
  unfold bC ai;split
  ·rw[Int.natCast_add];rfl
  ·rfl
 rw[e]at hp;exact hp
theorem HM.wWn{D:Nat->Prop}{Q:World->Prop}(hS:ah D Q)(hT:Tab W)(H:HM W w L X h x s k (wE Λ hb g T V++E) D Q)(hE:∀q,q∈E->q.1≠Λ.wb)(v:Int) :
  w.frozen? ⟨Λ.wb,7,none⟩=false/\HM W (w.setCell ⟨Λ.wb,7,none⟩ (.int .i64 v)) L X h x s k (wE Λ hb g T { V with dl:=V.dl,wn:=v }++E) D Q:=by
 have hbw:=H.blk (b:=Λ.wb) (t:=37) (cs:=wdV hb Λ.sb Λ.mA T Λ.mc Λ.pb Λ.nb T g V.dl V.wn V.sy) (by simp[wE,w4E]);have hp:=hbw.put 7 (.int .i64 v);exact⟨hbw.frozen 7,H.yE hS hT hE ((Fr.refl [Λ.wb] w).setCell (p:=⟨Λ.wb,7,none⟩) (.inl (by simp)) _) (by unfold wdV at hp ⊢;simpa using hp)⟩
end
def WR(t:Nat)(On:Nat->Nat)(Ops:Nat->Nat->Po)(h h':HS)(Γ Γ':WG)(V V':WS)(σ σ':GS)(A A':Nat->Nat):Prop:=
 V'.sy=V.sy/\V'.mg=V.mg/\V'.OP=V.OP/\Γ'.g=Γ.g/\(∀i,i≠t->V'.mu i=V.mu i/\V'.nx i=V.nx i)/\(h'.T=h.T/\h'.n=h.n/\h'.g=h.g/\h'.W=h.W/\h'.R=h.R)/\(∀o,o<=σ.N->A' o=A o) /\
 (((V.mu t).st=0/\On t<=V.nx t/\V'=V/\Γ'=Γ/\h'=h/\σ'=σ/\A'=A) \/
 (V'.nx t=V.nx t/\V.nx t<On t/\(V.mu t).st≠6/\((V'.mu t).st=3\/(V'.mu t).st=5\/((V'.mu t).st=4/\(V.mu t).st=3))/\rkM (V'.mu t).st<rkM (if (V.mu t).st=0 then 1 else (V.mu t).st)/\σ'=σ/\h'.f=h.f/\Γ'.ox=Γ.ox/\((V.mu t).st=3->∃I:Nat,(V.mu t).ad=(I:Int)/\h.f I=0)) \/
 (V.mg=true/\V'.nx t=V.nx t/\V.nx t<On t/\(V.mu t).st=3/\(Ops t (V.nx t)).k=3/\(V'.mu t).st=4/\σ'=σ/\h'=h/\∃I:Nat,(V.mu t).ad=(I:Int)/\h.f I≠0/\Γ'.ox=ai Γ.ox t (Γ.ox t++[.int .u64 (h.f I:Int)])) \/
 ((V.mu t).st=6/\(V'.mu t).st=0/\V'.nx t=V.nx t/\σ'=σ/\h'=h/\Γ'.ox=Γ.ox) \/
 ((V.mu t).st≠6/\V.nx t<On t/\V'.nx t=V.nx t+1/\((V'.mu t).st=0\/(V'.mu t).st=6)/\Γ'.ox=Γ.ox/\((V.mu t).st=0\/(V.mu t).st=1->(Ops t (V.nx t)).k=3->bh σ t (Ops t (V.nx t)).a (Ops t (V.nx t)).b (Ops t (V.nx t)).c≠0)/\((V.mu t).st=3->(Ops t (V.nx t)).k=3->V.mg=true->∃I:Nat,(V.mu t).ad=(I:Int)/\h.f I=0)) \/
 (V.sy=false/\(V.mu t).st≠6/\V.nx t<On t/\V'.nx t=V.nx t+1/\(V'.mu t).st=0/\σ'=σ.tick t/\Γ'.ox=Γ.ox/\(Ops t (V.nx t)).k=1) \/
 (V.sy=true/\(V.mu t).st≠6/\V.nx t<On t/\V'.nx t=V.nx t/\(V'.mu t).st=2/\σ'=σ/\Γ'.ox=Γ.ox))
def WSP(W:World)(L:HL)(h:HS)(s k:Nat)(E:aK)(DX:Nat->Prop)(QX:World->Prop)(Λ:WL)(Γ:WG)(t M T:Nat)(V:WS)(σ:GS)(A:Nat->Nat)(Ops:Nat->Nat->Po)(On:Nat->Nat)(Nt:Prop)(e:Ending)(w':World):Prop:=
 e=.returned (.bool true)/\∃(X':HX) (h':HS) (x':HT) (V':WS) (σ':GS) (A':Nat->Nat) (rv':Nat->Option (Nat×Nat)) (Γ':WG),
  HM W w' L X' h' x' s k (wE Λ L.hb Γ'.g T V'++E) (gD DX Λ Γ' (·<T)) (gQ QX Λ Γ' (·<T) T L.B M σ')/\WP W L.B h' x' DX Λ Γ' M T V' σ' A' rv' Ops On Nt/\WR t On Ops h h' Γ Γ' V V' σ σ' A A'
section
variable {W w w':World}{L:HL}{X:HX}{h:HS}{x:HT}{s k:Nat}{E:aK}{DX:Nat->Prop}{QX:World->Prop}{Λ:WL}{Γ:WG}{t:Nat}{V:WS}{σ:GS}{A:Nat->Nat}{rv:Nat->Option (Nat×Nat)}{M T:Nat}{Ops:Nat->Nat->Po}{On:Nat->Nat}{Nt:Prop}
theorem HM.gg{D:Nat->Prop}{Q:World->Prop}{hb g:Nat}(H:HM W w L X h x s k (wE Λ hb g T V++E) D Q)(hL:Lr w 62 Λ.mA T Λ.mc Λ.mG (aQ Λ.P T))(ht:t<T) :
  ∃gm om,Λ.mA=some ⟨gm,om,none⟩/\w.cell? ⟨gm,om+t,none⟩=some (.pointer (some ⟨Λ.P t,0,none⟩))/\w.cell? ⟨Λ.wb,2,none⟩=some (.slice (some ⟨gm,om,none⟩) T Λ.mc)/\w.cell? ⟨Λ.wb,3,none⟩=some (.slice (some ⟨Λ.pb,0,none⟩) T T) /\
   w.cell? ⟨Λ.wb,4,none⟩=some (.slice (some ⟨Λ.nb,0,none⟩) T T)/\w.cell? ⟨Λ.wb,5,none⟩=some (.pointer (some ⟨g,0,none⟩))/\w.cell? ⟨Λ.wb,6,none⟩=some V.dl/\w.cell? ⟨Λ.wb,7,none⟩=some (.int .i64 V.wn)/\w.cell? ⟨Λ.wb,8,none⟩=some (.bool V.sy) /\
   w.cell? ⟨Λ.nb,t,none⟩=some (.int .i64 (V.nx t:Int))/\w.cell? ⟨Λ.pb,t,none⟩=some (V.OP t):=by
 obtain⟨gm,om,hmA,-,-,hc,-,-⟩:=hL.pos (by omega);have hw:=H.blk (b:=Λ.wb) (t:=37) (cs:=wdV hb Λ.sb Λ.mA T Λ.mc Λ.pb Λ.nb T g V.dl V.wn V.sy) (by simp[wE,w4E]);have hn:=H.blk (b:=Λ.nb) (t:=3) (cs:=aI T λi=>.int .i64 (V.nx i:Int)) (by simp[wE,w4E]);have hp:=H.blk (b:=Λ.pb) (t:=82) (cs:=aI T V.OP) (by simp[wE,w4E]);refine⟨gm,om,hmA,(hc t ht).trans (oW _ ht),?_,hw.cell 3,hw.cell 4,hw.cell 5,hw.cell 6,hw.cell 7,hw.cell 8,by rw[hn.cell,de ht],by rw[hp.cell,de ht]⟩;rw[<- hmA];exact hw.cell 2
theorem tz(hX:ah DX QX)(hT:Tab W)(H:HM W w L X h x s k (wE Λ L.hb Γ.g T V++E) (gD DX Λ Γ (·<T)) (gQ QX Λ Γ (·<T) T L.B M σ))(P:WP W L.B h x DX Λ Γ M T V σ A rv Ops On Nt)(ht:t<T)(hst:(V.mu t).st=0)(hn:On t<=V.nx t) :
  Calls Tryz.prog 6 #[.pointer (some ⟨Λ.wb,0,none⟩),.int .i64 (t:Int)] w (WSP W L h s k E DX QX Λ Γ t M T V σ A Ops On Nt):=by
 obtain⟨gm,om,hmA,d0,d2,d3,d4,d5,d6,d7,d8,dn,dp⟩:=H.gg H.q.2.1 ht;obtain⟨oA,oc,hop,-⟩:=P.ops t ht;rw[hop]at dp;have HI:=aa (dZ ((H.lU ht).blk (C0 ..)));have HFin:Hid (∀w',Fr [] w w'->WSP W L h s k E DX QX Λ Γ t M T V σ A Ops On Nt (.returned (.bool true)) w'):=λw' hf=>⟨rfl,X,h,x,V,σ,A,rv,Γ,H.fr0 (eh hX _ _ _ _ _ _ _) hf,P,rfl,rfl,rfl,rfl,λ_ _=>⟨rfl,rfl⟩,⟨rfl,rfl,rfl,rfl,rfl⟩,λ_ _=>rfl,.inl ⟨hst,hn,rfl,rfl,rfl,rfl,rfl⟩⟩;have hT64:=P.gd.t;have hlt1:(t:Int)<(T:Int):=by omega
 have hge:decide ((V.nx t:Int)>=(On t:Int))=true:=by simpa using hn
 rw[show((V.mu t).st==0)=true by rw[hst];rfl]at HI;generalize WSP W L h s k E DX QX Λ Γ t M T V σ A Ops On Nt=Post at *;clear H P hop hmA hst;generalize On t=nn at *;generalize V.nx t=nx at *;go_enter Tryz.func6,Tryz.ntmps6
 go_wp2_with fail
 refine HI.out.mono ?_;rintro e w1 ⟨rfl,rfl⟩;go_wp2_with fail
 go_quiet (fail)
 go_wp2_with fail
 exact HFin.out _ ((Fr.refl _ _).drewN _)
end
def yG(Γ2 Γ3:WG)(l:List Int):Prop:=Γ3.g=Γ2.g/\Γ3.oA=Γ2.oA/\Γ3.on=Γ2.on/\Γ3.oc=Γ2.oc/\Γ3.oG=Γ2.oG/\Γ3.ox=Γ2.ox/\Γ3.nn=Γ2.nn/\Γ3.dl=Γ2.dl++l
def vP(W:World)(B:Nat)(DX:Nat->Prop)(Λ:WL)(M T:Nat)(Ops:Nat->Nat->Po)(On:Nat->Nat)(Nt:Prop)(t:Nat)(h h':HS)(x':HT)(Γ Γ2:WG)(V V2:WS)(σ σ3:GS)(A A':Nat->Nat)(rv':Nat->Option (Nat×Nat))(l:List Int)(mu3:Nat->MU)(nx3:Nat->Nat):Prop:=
 ∀(V3:WS) (Γ3:WG),V3.mu=mu3->V3.nx=nx3->V3.OV=V2.OV->V3.OP=V2.OP->V3.sy=V2.sy->V3.mg=V2.mg->V3.dl=.slice Γ3.dA Γ3.dl.length Γ3.dc->yG Γ2 Γ3 l->Dj DX Λ Γ3 T ->
  WP W B h' x' DX Λ Γ3 M T V3 σ3 A' rv' Ops On Nt/\WR t On Ops h h' Γ Γ3 V V3 σ σ3 A A'
def Mid(W w':World)(L:HL)(s k:Nat)(E:aK)(DX:Nat->Prop)(QX:World->Prop)(Λ:WL)(M T:Nat)(Ops:Nat->Nat->Po)(On:Nat->Nat)(Nt:Prop)(t:Nat)(h:HS)(Γ:WG)(V:WS)(σ:GS)(A:Nat->Nat)(th dn code word:Int)(bit done want:Bool)(l:List Int)(X':HX)(h':HS)(x':HT)(V2:WS)(Γ2:WG)(A':Nat->Nat)(rv':Nat->Option (Nat×Nat)):Prop:=
 HM W w' L X' h' x' s k (wE Λ L.hb Γ2.g T V2++E) (gD DX Λ Γ2 (·<T)) (gQ QX Λ Γ2 (·<T) T L.B M σ)/\Dj DX Λ Γ2 T/\V2.dl=.slice Γ2.dA Γ2.dl.length Γ2.dc/\Γ2.dl.length+l.length<=15364/\V2.nx t<=60/\jM W (V2.OP t) (On t) (Ops t) /\
 ((done=false/\want=false/\vP W L.B DX Λ M T Ops On Nt t h h' x' Γ Γ2 V V2 σ σ A A' rv' l V2.mu V2.nx) \/
 (done=false/\want=true/\(V2.sy=true->vP W L.B DX Λ M T Ops On Nt t h h' x' Γ Γ2 V V2 σ σ A A' rv' l V2.mu V2.nx) /\
  (V2.sy=false->(V2.mu t).st=2/\(V2.mu t).dn=σ.done t/\vP W L.B DX Λ M T Ops On Nt t h h' x' Γ Γ2 V V2 σ (σ.tick t) A A' rv' l (ai V2.mu t (MU.zero (σ.done t+1))) (ai V2.nx t (V2.nx t+1)))) \/
 (done=true/\want=false/\V2.nx t<On t/\th=(t:Int)/\dn=(σ.done t:Int)/\(⟨code,word,bit⟩:An)=bq L.B M T σ t (Ops t (V2.nx t))/\σ.done t<=60/\σ.N<=3840/\GOk T L.B σ/\fc T L.B M/\dH (Ops t (V2.nx t)) /\
  vP W L.B DX Λ M T Ops On Nt t h h' x' Γ Γ2 V V2 σ (aM L.B M T (σ.tick t) t (Ops t (V2.nx t))) A A' rv' l V2.mu (ai V2.nx t (V2.nx t+1))))
def RSt(W:World)(L:HL)(s k:Nat)(E:aK)(DX:Nat->Prop)(QX:World->Prop)(Λ:WL)(M T:Nat)(Ops:Nat->Nat->Po)(On:Nat->Nat)(Nt:Prop)(t:Nat)(h:HS)(Γ:WG)(V:WS)(σ:GS)(A:Nat->Nat)(e:Ending)(w':World):Prop:=
 ∃(th dn code word:Int) (bit done busy want:Bool) (Al:Option Addr) (cl:Nat) (Gl:List Nat) (l:List Int) (ll:Nat) (X':HX) (h':HS) (x':HT) (V2:WS) (Γ2:WG) (A':Nat->Nat) (rv':Nat->Option (Nat×Nat)),
  ll=l.length/\e=.returned (.agg #[.int .i64 th,.int .i64 dn,.int .i64 code,.int .u64 word,.bool bit,.bool done,.bool busy,.bool want,.slice Al ll cl])/\Lr w' 3 Al ll cl Gl (zv l) /\
  Mid W w' L s k E DX QX Λ M T Ops On Nt t h Γ V σ A th dn code word bit done want l X' h' x' V2 Γ2 A' rv'
def kx(t:Nat)(On:Nat->Nat)(V V1:WS):Prop:=(V1.mu t).st≠0/\((V1=V/\(V.mu t).st≠0)\/((V.mu t).st=0/\V.nx t<On t/\(V1.mu t).st=1/\V1.nx=V.nx/\V1.sy=V.sy/\V1.mg=V.mg/\V1.OP=V.OP/\∀i,i≠t->V1.mu i=V.mu i))
section
variable {W w w':World}{L:HL}{X:HX}{h:HS}{x:HT}{s k:Nat}{E:aK}{DX:Nat->Prop}{QX:World->Prop}{Λ:WL}{Γ:WG}{t:Nat}{V V1:WS}{σ:GS}{A:Nat->Nat}{rv:Nat->Option (Nat×Nat)}{M T:Nat}{Ops:Nat->Nat->Po}{On:Nat->Nat}{Nt:Prop}
theorem kx.eqs(b:kx t On V V1):V1.nx=V.nx/\V1.sy=V.sy/\V1.mg=V.mg/\V1.OP=V.OP/\(∀i,i≠t->V1.mu i=V.mu i)/\(V1.mu t).st=(if (V.mu t).st=0 then 1 else (V.mu t).st)/\((V.mu t).st≠0->V1=V):=by
 obtain⟨b1,⟨rfl,b2⟩|⟨b2,b3,b4,b5,b6,b7,b8,b9⟩⟩:=b
 ·exact⟨rfl,rfl,rfl,rfl,λ_ _=>rfl,by rw[if_neg b2],λ_=>rfl⟩
 ·exact⟨b5,b6,b7,b8,b9,by rw[if_pos b2];exact b4,λe=>absurd b2 e⟩
theorem yH(hX:ah DX QX)(hT:Tab W)(P:WP W L.B h x DX Λ Γ M T V1 σ A rv Ops On Nt)(b:kx t On V V1)(H0:HM W w L X h x s k (wE Λ L.hb Γ.g T V1++E) (gD DX Λ Γ (·<T)) (gQ QX Λ Γ (·<T) T L.B M σ))(ht:t<T){e:Ending}
  (H:AO W L X h x s k E (Γ.oA t) (Γ.on t) (Γ.oc t) (Γ.oG t) (Γ.ox t) (gD DX Λ Γ (λi=>i<T/\i≠t)) (gQ QX Λ Γ (λi=>i<T/\i≠t) T L.B M σ) Λ Γ.g t M T V1 σ A rv e w') :
  RSt W L s k E DX QX Λ M T Ops On Nt t h Γ V σ A e w':=by
 obtain⟨b1,b2,b3,b4,b5,b6,b7⟩:=b.eqs;have hst:=b.1;obtain⟨X',h',x',A1,n1,c1,G1,xs1,OV',m',σ',A',rv',hA,hGD,hI,hSt,hw⟩:=H;have hA2:=CD hT hA;have hD2:=P.dj.old (t:=t) (A1:=A1) (n1:=n1) (c1:=c1) (xs1:=xs1) hGD;have sA:ai Γ.oA t (Γ.oA t)=Γ.oA:=iA _ _;have sN:ai Γ.on t (Γ.on t)=Γ.on:=iA _ _;have sC:ai Γ.oc t (Γ.oc t)=Γ.oc:=iA _ _;have sX:ai Γ.ox t (Γ.ox t)=Γ.ox:=iA _ _;have hnx:=P.nx t ht;have hol:=P.ol t;have hdl:=P.CA;have hcan:=P.can;have hops:=P.ops t ht;have mt:ai V1.mu t m' t=m':=aq _ _ _;have mo:∀i,i≠t->ai V1.mu t m' i=V1.mu i:=λi e=>az _ _ e;have geo:h'.T=h.T/\h'.n=h.n/\h'.g=h.g/\h'.W=h.W/\h'.R=h.R:=⟨hSt.T,hSt.n,hSt.g,hSt.W,hSt.R⟩;have ok:=H0.ok;have dim:=H0.dim;have gk:=P.wi.gk;have dnt:=P.dn t ht;have dxt:=P.dx t ht;have lgt:=P.lg t ht;have ntt:=P.nt t ht;have cur:=P.cur t ht hst;have fin:∀ {σ3:GS}{mu3:Nat->MU}{nx3:Nat->Nat}{l:List Int}{Γ2:WG},Γ2.g=Γ.g->Γ2.dA=Γ.dA->Γ2.dc=Γ.dc->Γ2.dl=Γ.dl->Γ2.oA=ai Γ.oA t A1->Γ2.on=ai Γ.on t n1->Γ2.oc=ai Γ.oc t c1 ->
   (∀i,i<T->OV' i=.slice (ai Γ.oA t A1 i) (ai Γ.on t n1 i) (ai Γ.oc t c1 i))->(∀i,i≠t->mu3 i=V1.mu i)->(∀i,i≠t->nx3 i=V1.nx i)->(∀i,i≠t->Γ2.nn i=Γ.nn i)->(∀i,i≠t->σ3.done i=σ.done i) ->
   (∀V3:WS,V3.mu=mu3->WI L.B h' x' V3 σ3 A' rv' M T)->nx3 t<=On t->((mu3 t).st≠0->(mu3 t).st≠6->nx3 t<On t/\(mu3 t).op=Ops t (nx3 t))->(mu3 t).dn=σ3.done t->σ3.done t<=nx3 t->σ3.N+V1.nx t<=σ.N+nx3 t ->
   n1<=nx3 t+(if (mu3 t).st=4 then 1 else 0)->Γ2.nn t+(if (mu3 t).st=6 then 1 else 0)<=nx3 t->l.length+4*Γ.nn t<=4*Γ2.nn t->(∀V3:WS,V3.mu=mu3->Nt->eF h' x' V3 σ3 A' (Γ.dl++l) T) ->
   (∀V3 Γ3,V3.mu=mu3->V3.nx=nx3->V3.sy=V1.sy->V3.mg=V1.mg->V3.OP=V1.OP->Γ3.g=Γ.g->Γ3.ox=Γ2.ox->WR t On Ops h h' Γ Γ3 V V3 σ σ3 A A') ->
   vP W L.B DX Λ M T Ops On Nt t h h' x' Γ Γ2 V { V1 with mu:=ai V1.mu t m',OV:=OV' } σ σ3 A A' rv' l mu3 nx3:=by
  intro σ3 mu3 nx3 l Γ2 e1 e2 e3 e4 e5 e6 e7 e8 e9 e10 e11 e12 e13 e14 e15 e16 e17 e18 e19 e20 e21 e22 e23 V3 Γ3 v1 v2 v3 v4 v5 v6 v7 v8 v9;obtain⟨u1,u2,u3,u4,u5,u6,u7,u8⟩:=v8;refine⟨P.next ht v9 (e13 V3 v1) v7 (λi hi=>?_) v4 (λi hi=>by rw[v1];exact e9 i hi) (λi hi=>by rw[v2];exact e10 i hi) (λi hi=>by rw[u3,e6];exact az _ _ hi) (λi hi=>by rw[u7];exact e11 i hi) e12 (by rw[v2];exact e14)
   (by rw[v1,v2];exact e15) (by rw[v1];exact e16) (by rw[v2];exact e17) (by rw[v2];exact e18) (by rw[v1,v2,u3,e6,aq];exact e19) (by rw[v1,v2,u7];exact e20) (by rw[u8,u7,e4,List.length_append];omega) (λhn=>by rw[u8,e4];exact e22 V3 v1 hn),
   e23 V3 Γ3 v1 v2 v5 v6 v4 (u1.trans e1) u6⟩
  rw[v3,u2,u3,u4,e5,e6,e7];exact e8 i hi
 have vo0:∀i,i<T->V1.OV i=.slice (ai Γ.oA t (Γ.oA t) i) (ai Γ.on t (Γ.on t) i) (ai Γ.oc t (Γ.oc t) i):=λi hi=>by rw[sA,sN,sC];exact P.vo i hi
 have wr:∀ {σ3:GS}{V3:WS}{Γ3:WG},V3.sy=V1.sy->V3.mg=V1.mg->V3.OP=V1.OP->Γ3.g=Γ.g->(∀i,i≠t->V3.mu i=V1.mu i/\V3.nx i=V1.nx i) ->
   V3.sy=V.sy/\V3.mg=V.mg/\V3.OP=V.OP/\Γ3.g=Γ.g/\(∀i,i≠t->V3.mu i=V.mu i/\V3.nx i=V.nx i):=λe1 e2 e3 e4 e5=>⟨e1.trans b2,e2.trans b3,e3.trans b4,e4,λi hi=>⟨(e5 i hi).1.trans (b5 i hi),by rw[(e5 i hi).2,b1]⟩⟩
 have h6V:(V1.mu t).st≠6->(V.mu t).st≠6:=λe e2=>e (by rw[b6,e2];rfl);rcases hw with⟨rfl,hσ,k1,k2,rfl,rfl,rfl,rfl,rfl,k3,k4,k5,k6,k7⟩|⟨rfl,hσ,k1,k2,rfl,rfl,rfl,rfl,rfl,k3,k4,k5,h6⟩|⟨bb,rfl,rfl,k1,rfl,rfl,rfl,rfl,rfl,k2,k3,k4,k5,k6,k7⟩ |
   ⟨k1,hh,hA',hσ,rfl,rfl,rfl,rfl,rfl,rfl,I,c,Al,n,G,l,k2,k3,k4,k5,rfl,k6⟩|⟨k1,rfl,hh,hx,hA',hσ,k2,k3,k4,k5,k6,I,k7,k8,rfl,rfl,rfl⟩
 ·obtain rfl:=hσ.symm;have h6:(V1.mu t).st≠6:=λe=>by
   rw[e]at k4;rcases k3 with k3|k3|⟨k3,-⟩ <;> (rw[k3]at k4;exact absurd k4 (by decide))
  have h4:(V1.mu t).st≠4:=λe=>by
   rw[e]at k4;rcases k3 with k3|k3|⟨k3,-⟩ <;> (rw[k3]at k4;exact absurd k4 (by decide))
  obtain⟨c1,c2⟩:=cur h6;rw[if_neg h4]at lgt;rw[if_neg h6]at ntt;refine⟨0,0,0,0,false,false,true,false,none,0,[],[],0,X',h',x',{ V1 with mu:=ai V1.mu t m',OV:=V1.OV },_,A',rv',rfl,rfl,jL _ _,hA2,hD2,P.vd,by show Γ.dl.length+0<=_;omega,by show V1.nx t<=60;omega,hops,.inl ⟨rfl,rfl,?_⟩⟩;refine fin rfl rfl rfl rfl rfl rfl rfl vo0 mo (λ_ _=>rfl) (λ_ _=>rfl) (λ_ _=>rfl) (λV3 hv=>hI.of hv) hnx (λ_ _=>?_) (by show(ai V1.mu t m' t).dn=_;rw[mt,k1];exact dnt) dxt (Dd _) (by show Γ.on t<=V1.nx t+_;omega) ?_ (by show 0+4*Γ.nn t<=4*Γ.nn t;omega) (λV3 hv hn=>?_) (λV3 Γ3 v1 v2 v3 v4 v5 v6 v7=>?_)
  ·refine⟨c1,?_⟩;show(ai V1.mu t m' t).op=_;rw[mt,k2];exact c2
  ·show Γ.nn t+(if (ai V1.mu t m' t).st=6 then 1 else 0)<=_;rw[mt,if_neg (show ¬ m'.st=6 by rcases k3 with k|k|⟨k,-⟩ <;> (rw[k];decide))];omega
  ·rw[List.append_nil];exact(P.no hn).step P.wi.sim ok hSt k5 (λi hi=>by rw[hv];exact mo i hi) h6 gk (λo j _ q1 q2=>.inl ⟨q1,q2,rfl⟩)
  ·obtain⟨w1,w2,w3,w4,w5⟩:=wr (σ3:=σ) v3 v4 v5 v6 (λi hi=>⟨by rw[v1];exact mo i hi,by rw[v2]⟩);refine⟨w1,w2,w3,w4,w5,geo,hSt.A,.inr (.inl ⟨by rw[v2];exact congrFun b1 t,by rw[<- b1];exact c1,h6V h6,?_,?_,rfl,k6,v7.trans sX,λe=>?_⟩)⟩
   ·rw[v1];show(ai V1.mu t m' t).st=3\/(ai V1.mu t m' t).st=5\/((ai V1.mu t m' t).st=4/\(V.mu t).st=3);rw[mt];rcases k3 with k|k|⟨k,q⟩
    ·exact .inl k
    ·exact .inr (.inl k)
    ·refine .inr (.inr ⟨k,?_⟩);rw[b6]at q;by_cases e0:(V.mu t).st=0
     ·rw[if_pos e0]at q;omega
     ·rw[if_neg e0]at q;exact q
   ·rw[v1,<- b6];show rkM (ai V1.mu t m' t).st<_;rw[mt];exact k4
   ·obtain rfl:=b7 (by omega);exact k7 e
 ·obtain rfl:=hσ.symm;obtain⟨c1,c2⟩:=cur h6;rw[if_neg h6]at ntt;have mz:∀i,i≠t->ai (ai V1.mu t m') t (MU.zero (σ.done t+1)) i=V1.mu i:=λi hi=>(az _ _ hi).trans (mo i hi);have hdn:(ai V1.mu t m' t).dn=σ.done t:=by rw[mt,k1];exact dnt
  have hs2:(ai V1.mu t m' t).st=2:=by rw[mt];exact k3
  have hlg2:Γ.on t<=V1.nx t+1:=by split at lgt <;> omega
  refine⟨0,0,0,0,false,false,true,true,none,0,[],[],0,X',h',x',{ V1 with mu:=ai V1.mu t m',OV:=V1.OV },_,A',rv',rfl,rfl,jL _ _,hA2,hD2,P.vd,by show Γ.dl.length+0<=_;omega,by show V1.nx t<=60;omega,hops,.inr (.inl ⟨rfl,rfl,λhsy=>?_,λhsy=>⟨hs2,hdn,?_⟩⟩)⟩
  ·have h4:(V1.mu t).st≠4:=λe=>by
    rcases P.wi.ph t ht with p|p|p|p|p|p|p
    ·have:=p.1;omega
    ·have:=p.1;omega
    ·have:=p.1;omega
    ·have:=p.1;omega
    ·have:=p.1;omega
    ·have:=p.1;omega
    ·have:=p.2.1;omega
   rw[if_neg h4]at lgt;refine fin rfl rfl rfl rfl rfl rfl rfl vo0 mo (λ_ _=>rfl) (λ_ _=>rfl) (λ_ _=>rfl) (λV3 hv=>hI.of hv) hnx (λ_ _=>⟨c1,?_⟩) hdn dxt (Dd _) (by show Γ.on t<=V1.nx t+_;omega) ?_ (by show 0+4*Γ.nn t<=4*Γ.nn t;omega) (λV3 hv hn=>?_) (λV3 Γ3 v1 v2 v3 v4 v5 v6 v7=>?_)
   ·show(ai V1.mu t m' t).op=_;rw[mt,k2];exact c2
   ·show Γ.nn t+(if (ai V1.mu t m' t).st=6 then 1 else 0)<=_;rw[hs2,if_neg (by decide)];omega
   ·rw[List.append_nil];exact(P.no hn).step P.wi.sim ok hSt k4 (λi hi=>by rw[hv];exact mo i hi) h6 gk (λo j _ q1 q2=>.inl ⟨q1,q2,rfl⟩)
   ·obtain⟨w1,w2,w3,w4,w5⟩:=wr (σ3:=σ) v3 v4 v5 v6 (λi hi=>⟨by rw[v1];exact mo i hi,by rw[v2]⟩);exact⟨w1,w2,w3,w4,w5,geo,hSt.A,.inr (.inr (.inr (.inr (.inr (.inr ⟨by rw[<- b2];exact hsy,h6V h6,by rw[<- b1];exact c1,by rw[v2];exact congrFun b1 t,by rw[v1];exact hs2,rfl,v7.trans sX⟩)))))⟩
  ·refine fin rfl rfl rfl rfl rfl rfl rfl vo0 mz (λi hi=>az _ _ hi) (λ_ _=>rfl) (λi hi=>az _ _ hi) (λV3 hv=>?_) ?_ (λe1 _=>?_) ?_ ?_ ?_ ?_ ?_ (by show 0+4*Γ.nn t<=4*Γ.nn t;omega) (λV3 hv hn=>?_) (λV3 Γ3 v1 v2 v3 v4 v5 v6 v7=>?_)
   ·refine((hI.fail ht hs2).tick t).of (hv.trans ?_);show _=ai (ai V1.mu t m') t (MU.zero ((ai V1.mu t m' t).dn+1));rw[hdn]
   ·show ai V1.nx t (V1.nx t+1) t<=_;rw[aq];omega
   ·rw[aq]at e1;exact absurd rfl e1
   ·rw[aq];exact(aq _ _ _).symm
   ·show ai σ.done t (σ.done t+1) t<=ai V1.nx t (V1.nx t+1) t;rw[aq,aq];omega
   ·show σ.N+V1.nx t<=σ.N+ai V1.nx t (V1.nx t+1) t;rw[aq];omega
   ·show _<=ai V1.nx t (V1.nx t+1) t+_;rw[aq];omega
   ·show Γ.nn t+(if (ai (ai V1.mu t m') t (MU.zero (σ.done t+1)) t).st=6 then 1 else 0)<=ai V1.nx t (V1.nx t+1) t;rw[aq,aq,if_neg (by show ¬ (0:Int)=6;decide)];omega
   ·rw[List.append_nil];exact((P.no hn).step (V':=V3) (σ':=σ) P.wi.sim ok hSt k4 (λi hi=>by rw[hv];exact mz i hi) h6 gk (λo j _ q1 q2=>.inl ⟨q1,q2,rfl⟩)).of rfl t
   ·obtain⟨w1,w2,w3,w4,w5⟩:=wr (σ3:=σ) v3 v4 v5 v6 (λi hi=>⟨by rw[v1];exact mz i hi,by rw[v2];exact az _ _ hi⟩);refine⟨w1,w2,w3,w4,w5,geo,hSt.A,.inr (.inr (.inr (.inr (.inr (.inl ⟨by rw[<- b2];exact hsy,h6V h6,by rw[<- b1];exact c1,?_,?_,rfl,v7.trans sX,?_⟩)))))⟩
    ·rw[v2,<- b1];exact aq _ _ _
    ·rw[v1,aq];rfl
    ·rw[<- b1,<- c2];exact k5
 ·have h6:=k4;obtain⟨c1,c2⟩:=cur h6;rw[if_neg h6]at ntt;have hlg2:Γ.on t<=V1.nx t+1:=by split at lgt <;> omega
  have eT:=vO L.B M T σ t (Ops t (V1.nx t));have hN1:=BU L.B M T σ t (Ops t (V1.nx t));have hDn:=wV L.B M T σ t (Ops t (V1.nx t));rw[c2]at k5 hI k6;have sto:∀e:Int,m'.st=e->(ai V1.mu t m' t).st=e:=λe h=>by rw[mt];exact h
  have st06:m'.st=0\/m'.st=6:=by rcases k2 with⟨_,k⟩|⟨_,k⟩ <;> simp[k]
  refine⟨(t:Int),((V1.mu t).dn:Int),(bq L.B M T σ t (V1.mu t).op).code,(bq L.B M T σ t (V1.mu t).op).word,(bq L.B M T σ t (V1.mu t).op).bit,true,bb,false,none,0,[],[],0,X',h',x',{ V1 with mu:=ai V1.mu t m',OV:=V1.OV },_,A',rv',rfl,rfl,jL _ _,?_,hD2,P.vd,by show Γ.dl.length+0<=_;omega,by show V1.nx t<=60;omega,hops,.inr (.inr ⟨rfl,rfl,c1,rfl,by rw[dnt],by rw[c2],by omega,hcan,gk,P.gd,(P.ok t _).1,?_⟩)⟩
  ·exact hA2
  refine fin rfl rfl rfl rfl rfl rfl rfl vo0 mo (λi hi=>az _ _ hi) (λ_ _=>rfl) (λi hi=>?_) (λV3 hv=>?_) ?_ (λe1 e2=>?_) ?_ ?_ ?_ ?_ ?_ (by show 0+4*Γ.nn t<=4*Γ.nn t;omega) (λV3 hv hn=>?_) (λV3 Γ3 v1 v2 v3 v4 v5 v6 v7=>?_)
  ·show(aM L.B M T (σ.tick t) t (Ops t (V1.nx t))).done i=_;rw[eT];show ai (aM L.B M T σ t (Ops t (V1.nx t))).done t _ i=_;rw[az _ _ hi,hDn]
  ·show WI L.B h' x' V3 (aM L.B M T (σ.tick t) t (Ops t (V1.nx t))) A' rv' M T;rw[eT];exact(hI.tick t).of hv
  ·show ai V1.nx t (V1.nx t+1) t<=_;rw[aq];omega
  ·have e1:(ai V1.mu t m' t).st≠0:=e1;have e2:(ai V1.mu t m' t).st≠6:=e2;rw[mt]at e1 e2;rcases st06 with e|e
   ·exact absurd e e1
   ·exact absurd e e2
  ·show(ai V1.mu t m' t).dn=(aM L.B M T (σ.tick t) t (Ops t (V1.nx t))).done t;rw[eT,mt,k1,dnt];show _=ai (aM L.B M T σ t (Ops t (V1.nx t))).done t _ t;rw[aq,hDn]
  ·show(aM L.B M T (σ.tick t) t (Ops t (V1.nx t))).done t<=ai V1.nx t (V1.nx t+1) t;rw[eT,aq];show ai (aM L.B M T σ t (Ops t (V1.nx t))).done t _ t<=_;rw[aq,hDn];omega
  ·show(aM L.B M T (σ.tick t) t (Ops t (V1.nx t))).N+V1.nx t<=σ.N+ai V1.nx t (V1.nx t+1) t;rw[eT,aq];show(aM L.B M T σ t (Ops t (V1.nx t))).N+V1.nx t<=_;omega
  ·show _<=ai V1.nx t (V1.nx t+1) t+_;rw[aq];omega
  ·show Γ.nn t+(if (ai V1.mu t m' t).st=6 then 1 else 0)<=ai V1.nx t (V1.nx t+1) t;rw[show ai V1.nx t (V1.nx t+1) t=V1.nx t+1 from aq _ _ _];split <;> omega
  ·rw[List.append_nil];show eF h' x' V3 (aM L.B M T (σ.tick t) t (Ops t (V1.nx t))) A' Γ.dl T;rw[eT];refine((P.no hn).step (V':=V3) (σ':=aM L.B M T σ t (Ops t (V1.nx t))) P.wi.sim ok hSt k3 (λi hi=>by rw[hv];exact mo i hi) h6 gk (λo j q0 q1 q2=>?_)).of rfl t;rcases yr (M:=M) gk k5 o j q0 q1 q2 with a|a|⟨a1,a2,a3,a4,a5⟩
   ·exact .inl a
   ·exact .inr (.inl a)
   ·refine .inr (.inr ⟨a1,a2,a3,a4,λhnb=>?_⟩);obtain⟨z1,z2⟩:=a5 hnb;have hst6:m'.st=6:=by
     rcases k2 with⟨_,k⟩|⟨k,_⟩
     ·exact k
     ·rw[z1]at k;cases k
    rw[hv];show(ai V1.mu t m' t).st=6/\(ai V1.mu t m' t).ad=_/\_;rw[mt];exact⟨hst6,z2,ht⟩
  ·obtain⟨w1,w2,w3,w4,w5⟩:=wr (σ3:=σ) v3 v4 v5 v6 (λi hi=>⟨by rw[v1];exact mo i hi,by rw[v2];exact az _ _ hi⟩);refine⟨w1,w2,w3,w4,w5,geo,hSt.A,.inr (.inr (.inr (.inr (.inl ⟨h6V h6,by rw[<- b1];exact c1,?_,?_,v7.trans sX,λe1 e2=>?_,λe1 e2 e3=>?_⟩))))⟩
   ·rw[v2,<- b1];exact aq _ _ _
   ·rw[v1];show(ai V1.mu t m' t).st=0\/(ai V1.mu t m' t).st=6;rw[mt];exact st06
   ·rw[<- b1]at e2 ⊢;have hk:(V1.mu t).k=3:=by have:=congrArg Po.k c2;exact this.trans e2
    exact k6 (by rw[b6];split <;> omega) hk
   ·obtain rfl:=b7 (by omega);have hk:(V1.mu t).k=3:=by have:=congrArg Po.k c2;exact this.trans e2
    exact k7 e1 hk e3
 ·obtain rfl:=hσ.symm;obtain rfl:=hh.symm;obtain rfl:=hA'.symm;rw[if_pos k1]at ntt;have hl4:l.length<=4:=by
   obtain⟨wc,er,C',-,⟨-,-,rfl⟩|⟨-,-,rfl⟩⟩:=k5
   ·simp
   ·have:=P.wi.q.o t (by rw[P.wi.eT];exact ht);unfold cP;split
    ·simp
    ·simp only[List.length_drop,List.length_append,List.length_singleton];omega
  have h4:(V1.mu t).st≠4:=by omega
  rw[if_neg h4]at lgt;refine⟨0,0,0,0,false,false,false,false,Al,n,G,l,l.length,X',h,x',{ V1 with mu:=ai V1.mu t (MU.zero (V1.mu t).dn),OV:=V1.OV },{ Γ.old t (Γ.oA t) (Γ.on t) (Γ.oc t) G1 (Γ.ox t)with nn:=ai Γ.nn t (Γ.nn t+1) },A,rv',rfl,rfl,k6,hA2,⟨hD2.x,hD2.m,hD2.d,hD2.t,hD2.o⟩,P.vd,by show Γ.dl.length+_<=_;omega,by show V1.nx t<=60;omega,hops,.inl ⟨rfl,rfl,?_⟩⟩;refine fin rfl rfl rfl rfl rfl rfl rfl vo0 mo (λ_ _=>rfl) (λi hi=>az _ _ hi) (λ_ _=>rfl) (λV3 hv=>hI.of hv) hnx (λe1 _=>?_) (by show(ai V1.mu t _ t).dn=_;rw[mt];exact dnt) dxt (Dd _) (by show Γ.on t<=V1.nx t+_;omega) ?_ (by show _<=4*ai Γ.nn t (Γ.nn t+1) t;rw[aq];omega) (λV3 hv hn=>?_) (λV3 Γ3 v1 v2 v3 v4 v5 v6 v7=>?_)
  ·have e1:(ai V1.mu t (MU.zero (V1.mu t).dn) t).st≠0:=e1;rw[mt]at e1;exact absurd rfl e1
  ·show ai Γ.nn t (Γ.nn t+1) t+(if (ai V1.mu t (MU.zero (V1.mu t).dn) t).st=6 then 1 else 0)<=_;rw[mt,aq,if_neg (by show ¬ (0:Int)=6;decide)];omega
  ·exact(P.no hn).note k2 k4 (At ok dim k3 k4) ht (λi hi=>by rw[hv];exact mo i hi) k5
  ·obtain⟨w1,w2,w3,w4,w5⟩:=wr (σ3:=σ) v3 v4 v5 v6 (λi hi=>⟨by rw[v1];exact mo i hi,by rw[v2]⟩);refine⟨w1,w2,w3,w4,w5,geo,hSt.A,.inr (.inr (.inr (.inl ⟨?_,?_,by rw[v2];exact congrFun b1 t,rfl,rfl,v7.trans sX⟩)))⟩
   ·by_cases e0:(V.mu t).st=0
    ·rw[b6,if_pos e0]at k1;omega
    ·rw[b6,if_neg e0]at k1;exact k1
   ·rw[v1];show(ai V1.mu t (MU.zero (V1.mu t).dn) t).st=0;rw[mt];rfl
 ·obtain rfl:=hσ.symm;obtain rfl:=hh.symm;obtain rfl:=hx.symm;obtain rfl:=hA'.symm;have h6:(V1.mu t).st≠6:=by omega
  obtain⟨c1',c2⟩:=cur h6;rw[if_neg (by omega)]at lgt;rw[if_neg h6]at ntt;refine⟨0,0,0,0,false,false,true,false,none,0,[],[],0,X',h,x,{ V1 with mu:=ai V1.mu t m',OV:=bC V1.OV t (.slice A1 (Γ.on t+1) c1) },_,A,rv',rfl,rfl,jL _ _,hA2,hD2,P.vd,by show Γ.dl.length+0<=_;omega,by show V1.nx t<=60;omega,hops,.inl ⟨rfl,rfl,?_⟩⟩;refine fin rfl rfl rfl rfl rfl rfl rfl (λi hi=>?_) mo (λ_ _=>rfl) (λ_ _=>rfl) (λ_ _=>rfl) (λV3 hv=>hI.of hv) hnx (λ_ _=>⟨c1',?_⟩) (by show(ai V1.mu t m' t).dn=_;rw[mt,k5];exact dnt) dxt (Dd _) ?_ ?_ (by show 0+4*Γ.nn t<=4*Γ.nn t;omega) (λV3 hv hn=>?_) (λV3 Γ3 v1 v2 v3 v4 v5 v6 v7=>?_)
  ·unfold bC ai;split
   ·rfl
   ·exact P.vo i hi
  ·show(ai V1.mu t m' t).op=_;rw[mt,k6];exact c2
  ·show _<=V1.nx t+(if (ai V1.mu t m' t).st=4 then 1 else 0);rw[mt,if_pos k4];omega
  ·show Γ.nn t+(if (ai V1.mu t m' t).st=6 then 1 else 0)<=_;rw[mt,if_neg (show ¬ m'.st=6 by rw[k4];decide)];omega
  ·rw[List.append_nil];exact(P.no hn).step P.wi.sim ok hSt (dr.refl _) (λi hi=>by rw[hv];exact mo i hi) h6 gk (λo j _ q1 q2=>.inl ⟨q1,q2,rfl⟩)
  ·obtain⟨w1,w2,w3,w4,w5⟩:=wr (σ3:=σ) v3 v4 v5 v6 (λi hi=>⟨by rw[v1];exact mo i hi,by rw[v2]⟩);have hV:V1=V:=by
    by_cases e0:(V.mu t).st=0
    ·rw[b6,if_pos e0]at k2;omega
    ·exact b7 e0
   subst hV;refine⟨w1,w2,w3,w4,w5,geo,hSt.A,.inr (.inr (.inl ⟨k1,by rw[v2],c1',k2,?_,?_,rfl,rfl,I,k7,k8,v7⟩))⟩
   ·rw[<- c2];exact k3
   ·rw[v1];show(ai V1.mu t m' t).st=4;rw[mt];exact k4
end
end Go.Proofs.YtimlkjppaalfaaaGreatDoor
