/- Several texts joined (pack.py): Zt. -/
import Derived.Test.YtfcjdinlcehpmaaGreatDoorPW39
namespace Go.Proofs.YtfcjdinlcehpmaaGreatDoor
set_option linter.unusedVariables false
set_option linter.unusedSimpArgs false
set_option maxRecDepth 100000
open Go.RowKit Go.Gl HS
def Same3(Γ2 Γ3:WG)(l:List Int):Prop:=Γ3.g=Γ2.g∧Γ3.oA=Γ2.oA∧Γ3.on=Γ2.on∧Γ3.oc=Γ2.oc∧Γ3.oG=Γ2.oG∧Γ3.ox=Γ2.ox∧Γ3.nn=Γ2.nn∧Γ3.dl=Γ2.dl++l
def Fin3(W:World)(B:Nat)(DX:Nat→Prop)(Λ:WL)(M T:Nat)(Ops:Nat→Nat→Po)(On:Nat→Nat)(Nt:Prop)(t:Nat)(h h':HS)(x':HT)(Γ Γ2:WG)(V V2:WS)(σ σ3:GS)(A A':Nat→Nat)(rv':Nat→Option (Nat×Nat))(l:List Int)(mu3:Nat→MU)(nx3:Nat→Nat):Prop:=
 ∀(V3:WS) (Γ3:WG),V3.mu=mu3→V3.nx=nx3→V3.OV=V2.OV→V3.OP=V2.OP→V3.sy=V2.sy→V3.mg=V2.mg→V3.dl=.slice Γ3.dA Γ3.dl.length Γ3.dc→Same3 Γ2 Γ3 l→Dj DX Λ Γ3 T →
  WP W B h' x' DX Λ Γ3 M T V3 σ3 A' rv' Ops On Nt∧WR t On Ops h h' Γ Γ3 V V3 σ σ3 A A'
def Mid(W w':World)(L:HL)(s k:Nat)(E:Blks)(DX:Nat→Prop)(QX:World→Prop)(Λ:WL)(M T:Nat)(Ops:Nat→Nat→Po)(On:Nat→Nat)(Nt:Prop)(t:Nat)(h:HS)(Γ:WG)(V:WS)(σ:GS)(A:Nat→Nat)(th dn code word:Int)(bit done want:Bool)(l:List Int)(X':HX)(h':HS)(x':HT)(V2:WS)(Γ2:WG)(A':Nat→Nat)(rv':Nat→Option (Nat×Nat)):Prop:=
 HM W w' L X' h' x' s k (wE Λ L.hb Γ2.g T V2++E) (gD DX Λ Γ2 (·<T)) (gQ QX Λ Γ2 (·<T) T L.B M σ)∧Dj DX Λ Γ2 T∧V2.dl=.slice Γ2.dA Γ2.dl.length Γ2.dc∧Γ2.dl.length+l.length≤15364∧V2.nx t≤60∧OpsAt W (V2.OP t) (On t) (Ops t) ∧
 ((done=false∧want=false∧Fin3 W L.B DX Λ M T Ops On Nt t h h' x' Γ Γ2 V V2 σ σ A A' rv' l V2.mu V2.nx) ∨
 (done=false∧want=true∧(V2.sy=true→Fin3 W L.B DX Λ M T Ops On Nt t h h' x' Γ Γ2 V V2 σ σ A A' rv' l V2.mu V2.nx) ∧
  (V2.sy=false→(V2.mu t).st=2∧(V2.mu t).dn=σ.done t∧Fin3 W L.B DX Λ M T Ops On Nt t h h' x' Γ Γ2 V V2 σ (σ.tick t) A A' rv' l (setF V2.mu t (MU.zero (σ.done t+1))) (setF V2.nx t (V2.nx t+1)))) ∨
 (done=true∧want=false∧V2.nx t<On t∧th=(t:Int)∧dn=(σ.done t:Int)∧(⟨code,word,bit⟩:An)=actA L.B M T σ t (Ops t (V2.nx t))∧σ.done t≤60∧σ.N≤3840∧GOk T L.B σ∧GDim T L.B M∧PoOk (Ops t (V2.nx t)) ∧
  Fin3 W L.B DX Λ M T Ops On Nt t h h' x' Γ Γ2 V V2 σ (actS L.B M T (σ.tick t) t (Ops t (V2.nx t))) A A' rv' l V2.mu (setF V2.nx t (V2.nx t+1))))
def RSt(W:World)(L:HL)(s k:Nat)(E:Blks)(DX:Nat→Prop)(QX:World→Prop)(Λ:WL)(M T:Nat)(Ops:Nat→Nat→Po)(On:Nat→Nat)(Nt:Prop)(t:Nat)(h:HS)(Γ:WG)(V:WS)(σ:GS)(A:Nat→Nat)(e:Ending)(w':World):Prop:=
 ∃(th dn code word:Int) (bit done busy want:Bool) (Al:Option Addr) (cl:Nat) (Gl:List Nat) (l:List Int) (ll:Nat) (X':HX) (h':HS) (x':HT) (V2:WS) (Γ2:WG) (A':Nat→Nat) (rv':Nat→Option (Nat×Nat)),
  ll=l.length∧e=.returned (.agg #[.int .i64 th,.int .i64 dn,.int .i64 code,.int .u64 word,.bool bit,.bool done,.bool busy,.bool want,.slice Al ll cl])∧Lr w' 3 Al ll cl Gl (zv l) ∧
  Mid W w' L s k E DX QX Λ M T Ops On Nt t h Γ V σ A th dn code word bit done want l X' h' x' V2 Γ2 A' rv'
def Begun(t:Nat)(On:Nat→Nat)(V V1:WS):Prop:=(V1.mu t).st≠0∧((V1=V∧(V.mu t).st≠0)∨((V.mu t).st=0∧V.nx t<On t∧(V1.mu t).st=1∧V1.nx=V.nx∧V1.sy=V.sy∧V1.mg=V.mg∧V1.OP=V.OP∧∀i,i≠t→V1.mu i=V.mu i))
section
variable {W w w':World}{L:HL}{X:HX}{h:HS}{x:HT}{s k:Nat}{E:Blks}{DX:Nat→Prop}{QX:World→Prop}{Λ:WL}{Γ:WG}{t:Nat}{V V1:WS}{σ:GS}{A:Nat→Nat}{rv:Nat→Option (Nat×Nat)}{M T:Nat}{Ops:Nat→Nat→Po}{On:Nat→Nat}{Nt:Prop}
theorem Begun.eqs(b:Begun t On V V1):V1.nx=V.nx∧V1.sy=V.sy∧V1.mg=V.mg∧V1.OP=V.OP∧(∀i,i≠t→V1.mu i=V.mu i)∧(V1.mu t).st=(if (V.mu t).st=0 then 1 else (V.mu t).st)∧((V.mu t).st≠0→V1=V):=by
 obtain⟨b1,⟨rfl,b2⟩ | ⟨b2,b3,b4,b5,b6,b7,b8,b9⟩⟩:=b
 ·exact⟨rfl,rfl,rfl,rfl,fun _ _=>rfl,by rw [if_neg b2],fun _=>rfl⟩
 ·exact⟨b5,b6,b7,b8,b9,by rw [if_pos b2];exact b4,fun e=>absurd b2 e⟩
theorem step_mid(hX:Lives DX QX)(hT:Tab W)(P:WP W L.B h x DX Λ Γ M T V1 σ A rv Ops On Nt)(b:Begun t On V V1)(H0:HM W w L X h x s k (wE Λ L.hb Γ.g T V1++E) (gD DX Λ Γ (·<T)) (gQ QX Λ Γ (·<T) T L.B M σ))(ht:t<T){e:Ending}
  (H:WStep W L X h x s k E (Γ.oA t) (Γ.on t) (Γ.oc t) (Γ.oG t) (Γ.ox t) (gD DX Λ Γ (fun i=>i<T∧i≠t)) (gQ QX Λ Γ (fun i=>i<T∧i≠t) T L.B M σ) Λ Γ.g t M T V1 σ A rv e w') :
  RSt W L s k E DX QX Λ M T Ops On Nt t h Γ V σ A e w':=by
 obtain⟨b1,b2,b3,b4,b5,b6,b7⟩:=b.eqs
 have hst:=b.1
 obtain⟨X',h',x',A1,n1,c1,G1,xs1,OV',m',σ',A',rv',hA,hGD,hI,hSt,hw⟩:=H
 have hA2:=gBack hT hA
 have hD2:=P.dj.old (t:=t) (A1:=A1) (n1:=n1) (c1:=c1) (xs1:=xs1) hGD
 have sA:setF Γ.oA t (Γ.oA t)=Γ.oA:=setF_same _ _
 have sN:setF Γ.on t (Γ.on t)=Γ.on:=setF_same _ _
 have sC:setF Γ.oc t (Γ.oc t)=Γ.oc:=setF_same _ _
 have sX:setF Γ.ox t (Γ.ox t)=Γ.ox:=setF_same _ _
 have hnx:=P.nx t ht
 have hol:=P.ol t
 have hdl:=P.dlen
 have hcan:=P.can
 have hops:=P.ops t ht
 have mt:setF V1.mu t m' t=m':=setF_at _ _ _
 have mo:∀i,i≠t→setF V1.mu t m' i=V1.mu i:=fun i e=>setF_ne _ _ e
 have geo:h'.T=h.T∧h'.n=h.n∧h'.g=h.g∧h'.W=h.W∧h'.R=h.R:=⟨hSt.T,hSt.n,hSt.g,hSt.W,hSt.R⟩
 have ok:=H0.ok
 have dim:=H0.dim
 have gk:=P.wi.gk
 have dnt:=P.dn t ht
 have dxt:=P.dx t ht
 have lgt:=P.lg t ht
 have ntt:=P.nt t ht
 have cur:=P.cur t ht hst
 have fin:∀ {σ3:GS} {mu3:Nat→MU} {nx3:Nat→Nat} {l:List Int} {Γ2:WG},Γ2.g=Γ.g→Γ2.dA=Γ.dA→Γ2.dc=Γ.dc→Γ2.dl=Γ.dl→Γ2.oA=setF Γ.oA t A1→Γ2.on=setF Γ.on t n1→Γ2.oc=setF Γ.oc t c1 →
   (∀i,i<T→OV' i=.slice (setF Γ.oA t A1 i) (setF Γ.on t n1 i) (setF Γ.oc t c1 i))→(∀i,i≠t→mu3 i=V1.mu i)→(∀i,i≠t→nx3 i=V1.nx i)→(∀i,i≠t→Γ2.nn i=Γ.nn i)→(∀i,i≠t→σ3.done i=σ.done i) →
   (∀V3:WS,V3.mu=mu3→WI L.B h' x' V3 σ3 A' rv' M T)→nx3 t≤On t→((mu3 t).st≠0→(mu3 t).st≠6→nx3 t<On t∧(mu3 t).op=Ops t (nx3 t))→(mu3 t).dn=σ3.done t→σ3.done t≤nx3 t→σ3.N+V1.nx t≤σ.N+nx3 t →
   n1≤nx3 t+(if (mu3 t).st=4 then 1 else 0)→Γ2.nn t+(if (mu3 t).st=6 then 1 else 0)≤nx3 t→l.length+4*Γ.nn t≤4*Γ2.nn t→(∀V3:WS,V3.mu=mu3→Nt→Notes h' x' V3 σ3 A' (Γ.dl++l) T) →
   (∀V3 Γ3,V3.mu=mu3→V3.nx=nx3→V3.sy=V1.sy→V3.mg=V1.mg→V3.OP=V1.OP→Γ3.g=Γ.g→Γ3.ox=Γ2.ox→WR t On Ops h h' Γ Γ3 V V3 σ σ3 A A') →
   Fin3 W L.B DX Λ M T Ops On Nt t h h' x' Γ Γ2 V { V1 with mu:=setF V1.mu t m',OV:=OV' } σ σ3 A A' rv' l mu3 nx3:=by
  intro σ3 mu3 nx3 l Γ2 e1 e2 e3 e4 e5 e6 e7 e8 e9 e10 e11 e12 e13 e14 e15 e16 e17 e18 e19 e20 e21 e22 e23 V3 Γ3 v1 v2 v3 v4 v5 v6 v7 v8 v9
  obtain⟨u1,u2,u3,u4,u5,u6,u7,u8⟩:=v8
  refine⟨P.next ht v9 (e13 V3 v1) v7 (fun i hi=>?_) v4 (fun i hi=>by rw [v1];exact e9 i hi) (fun i hi=>by rw [v2];exact e10 i hi) (fun i hi=>by rw [u3,e6];exact setF_ne _ _ hi) (fun i hi=>by rw [u7];exact e11 i hi) e12 (by rw [v2];exact e14)
   (by rw [v1,v2];exact e15) (by rw [v1];exact e16) (by rw [v2];exact e17) (by rw [v2];exact e18) (by rw [v1,v2,u3,e6,setF_at];exact e19) (by rw [v1,v2,u7];exact e20) (by rw [u8,u7,e4,List.length_append];omega) (fun hn=>by rw [u8,e4];exact e22 V3 v1 hn),
   e23 V3 Γ3 v1 v2 v5 v6 v4 (u1.trans e1) u6⟩
  rw [v3,u2,u3,u4,e5,e6,e7]
  exact e8 i hi
 have vo0:∀i,i<T→V1.OV i=.slice (setF Γ.oA t (Γ.oA t) i) (setF Γ.on t (Γ.on t) i) (setF Γ.oc t (Γ.oc t) i):=fun i hi=>by rw [sA,sN,sC];exact P.vo i hi
 have wr:∀ {σ3:GS} {V3:WS} {Γ3:WG},V3.sy=V1.sy→V3.mg=V1.mg→V3.OP=V1.OP→Γ3.g=Γ.g→(∀i,i≠t→V3.mu i=V1.mu i∧V3.nx i=V1.nx i) →
   V3.sy=V.sy∧V3.mg=V.mg∧V3.OP=V.OP∧Γ3.g=Γ.g∧(∀i,i≠t→V3.mu i=V.mu i∧V3.nx i=V.nx i):=fun e1 e2 e3 e4 e5=>⟨e1.trans b2,e2.trans b3,e3.trans b4,e4,fun i hi=>⟨(e5 i hi).1.trans (b5 i hi),by rw [(e5 i hi).2,b1]⟩⟩
 have h6V:(V1.mu t).st≠6→(V.mu t).st≠6:=fun e e2=>e (by rw [b6,e2];rfl)
 rcases hw with⟨rfl,hσ,k1,k2,rfl,rfl,rfl,rfl,rfl,k3,k4,k5,k6,k7⟩ | ⟨rfl,hσ,k1,k2,rfl,rfl,rfl,rfl,rfl,k3,k4,k5,h6⟩ | ⟨bb,rfl,rfl,k1,rfl,rfl,rfl,rfl,rfl,k2,k3,k4,k5,k6,k7⟩ |
   ⟨k1,hh,hA',hσ,rfl,rfl,rfl,rfl,rfl,rfl,I,c,Al,n,G,l,k2,k3,k4,k5,rfl,k6⟩ | ⟨k1,rfl,hh,hx,hA',hσ,k2,k3,k4,k5,k6,I,k7,k8,rfl,rfl,rfl⟩
 ·obtain rfl:=hσ.symm
  have h6:(V1.mu t).st≠6:=fun e=>by
   rw [e]at k4
   rcases k3 with k3 | k3 | ⟨k3,-⟩ <;> (rw [k3]at k4;exact absurd k4 (by decide))
  have h4:(V1.mu t).st≠4:=fun e=>by
   rw [e]at k4
   rcases k3 with k3 | k3 | ⟨k3,-⟩ <;> (rw [k3]at k4;exact absurd k4 (by decide))
  obtain⟨c1,c2⟩:=cur h6
  rw [if_neg h4]at lgt
  rw [if_neg h6]at ntt
  refine⟨0,0,0,0,false,false,true,false,none,0,[],[],0,X',h',x',{ V1 with mu:=setF V1.mu t m',OV:=V1.OV },_,A',rv',rfl,rfl,lr_none _ _,hA2,hD2,P.vd,by show Γ.dl.length+0≤_;omega,by show V1.nx t≤60;omega,hops,.inl ⟨rfl,rfl,?_⟩⟩
  refine fin rfl rfl rfl rfl rfl rfl rfl vo0 mo (fun _ _=>rfl) (fun _ _=>rfl) (fun _ _=>rfl) (fun V3 hv=>hI.of hv) hnx (fun _ _=>?_) (by show(setF V1.mu t m' t).dn=_;rw [mt,k1];exact dnt) dxt (Nat.le_refl _) (by show Γ.on t≤V1.nx t+_;omega) ?_ (by show 0+4*Γ.nn t≤4*Γ.nn t;omega) (fun V3 hv hn=>?_) (fun V3 Γ3 v1 v2 v3 v4 v5 v6 v7=>?_)
  ·refine⟨c1,?_⟩
   show(setF V1.mu t m' t).op=_
   rw [mt,k2]
   exact c2
  ·show Γ.nn t+(if (setF V1.mu t m' t).st=6 then 1 else 0)≤_
   rw [mt,if_neg (show ¬ m'.st=6 by rcases k3 with k | k | ⟨k,-⟩ <;> (rw [k];decide))]
   omega
  ·rw [List.append_nil]
   exact(P.no hn).step P.wi.sim ok hSt k5 (fun i hi=>by rw [hv];exact mo i hi) h6 gk (fun o j _ q1 q2=>.inl ⟨q1,q2,rfl⟩)
  ·obtain⟨w1,w2,w3,w4,w5⟩:=wr (σ3:=σ) v3 v4 v5 v6 (fun i hi=>⟨by rw [v1];exact mo i hi,by rw [v2]⟩)
   refine⟨w1,w2,w3,w4,w5,geo,hSt.A,.inr (.inl ⟨by rw [v2];exact congrFun b1 t,by rw [← b1];exact c1,h6V h6,?_,?_,rfl,k6,v7.trans sX,fun e=>?_⟩)⟩
   ·rw [v1];show(setF V1.mu t m' t).st=3∨(setF V1.mu t m' t).st=5∨((setF V1.mu t m' t).st=4∧(V.mu t).st=3)
    rw [mt]
    rcases k3 with k | k | ⟨k,q⟩
    ·exact .inl k
    ·exact .inr (.inl k)
    ·refine .inr (.inr ⟨k,?_⟩)
     rw [b6]at q
     by_cases e0:(V.mu t).st=0
     ·rw [if_pos e0]at q;omega
     ·rw [if_neg e0]at q;exact q
   ·rw [v1,← b6];show rkM (setF V1.mu t m' t).st<_
    rw [mt];exact k4
   ·obtain rfl:=b7 (by omega)
    exact k7 e
 ·obtain rfl:=hσ.symm
  obtain⟨c1,c2⟩:=cur h6
  rw [if_neg h6]at ntt
  have mz:∀i,i≠t→setF (setF V1.mu t m') t (MU.zero (σ.done t+1)) i=V1.mu i:=fun i hi=>(setF_ne _ _ hi).trans (mo i hi)
  have hdn:(setF V1.mu t m' t).dn=σ.done t:=by rw [mt,k1];exact dnt
  have hs2:(setF V1.mu t m' t).st=2:=by rw [mt];exact k3
  have hlg2:Γ.on t≤V1.nx t+1:=by split at lgt <;> omega
  refine⟨0,0,0,0,false,false,true,true,none,0,[],[],0,X',h',x',{ V1 with mu:=setF V1.mu t m',OV:=V1.OV },_,A',rv',rfl,rfl,lr_none _ _,hA2,hD2,P.vd,by show Γ.dl.length+0≤_;omega,by show V1.nx t≤60;omega,hops,.inr (.inl ⟨rfl,rfl,fun hsy=>?_,fun hsy=>⟨hs2,hdn,?_⟩⟩)⟩
  ·have h4:(V1.mu t).st≠4:=fun e=>by
    rcases P.wi.ph t ht with p | p | p | p | p | p | p
    ·have:=p.1;omega
    ·have:=p.1;omega
    ·have:=p.1;omega
    ·have:=p.1;omega
    ·have:=p.1;omega
    ·have:=p.1;omega
    ·have:=p.2.1;omega
   rw [if_neg h4]at lgt
   refine fin rfl rfl rfl rfl rfl rfl rfl vo0 mo (fun _ _=>rfl) (fun _ _=>rfl) (fun _ _=>rfl) (fun V3 hv=>hI.of hv) hnx (fun _ _=>⟨c1,?_⟩) hdn dxt (Nat.le_refl _) (by show Γ.on t≤V1.nx t+_;omega) ?_ (by show 0+4*Γ.nn t≤4*Γ.nn t;omega) (fun V3 hv hn=>?_) (fun V3 Γ3 v1 v2 v3 v4 v5 v6 v7=>?_)
   ·show(setF V1.mu t m' t).op=_
    rw [mt,k2]
    exact c2
   ·show Γ.nn t+(if (setF V1.mu t m' t).st=6 then 1 else 0)≤_
    rw [hs2,if_neg (by decide)]
    omega
   ·rw [List.append_nil]
    exact(P.no hn).step P.wi.sim ok hSt k4 (fun i hi=>by rw [hv];exact mo i hi) h6 gk (fun o j _ q1 q2=>.inl ⟨q1,q2,rfl⟩)
   ·obtain⟨w1,w2,w3,w4,w5⟩:=wr (σ3:=σ) v3 v4 v5 v6 (fun i hi=>⟨by rw [v1];exact mo i hi,by rw [v2]⟩)
    exact⟨w1,w2,w3,w4,w5,geo,hSt.A,.inr (.inr (.inr (.inr (.inr (.inr ⟨by rw [← b2];exact hsy,h6V h6,by rw [← b1];exact c1,by rw [v2];exact congrFun b1 t,by rw [v1];exact hs2,rfl,v7.trans sX⟩)))))⟩
  ·refine fin rfl rfl rfl rfl rfl rfl rfl vo0 mz (fun i hi=>setF_ne _ _ hi) (fun _ _=>rfl) (fun i hi=>setF_ne _ _ hi) (fun V3 hv=>?_) ?_ (fun e1 _=>?_) ?_ ?_ ?_ ?_ ?_ (by show 0+4*Γ.nn t≤4*Γ.nn t;omega) (fun V3 hv hn=>?_) (fun V3 Γ3 v1 v2 v3 v4 v5 v6 v7=>?_)
   ·refine((hI.fail ht hs2).tick t).of (hv.trans ?_)
    show _=setF (setF V1.mu t m') t (MU.zero ((setF V1.mu t m' t).dn+1))
    rw [hdn]
   ·show setF V1.nx t (V1.nx t+1) t≤_
    rw [setF_at];omega
   ·rw [setF_at]at e1;exact absurd rfl e1
   ·rw [setF_at];exact(setF_at _ _ _).symm
   ·show setF σ.done t (σ.done t+1) t≤setF V1.nx t (V1.nx t+1) t
    rw [setF_at,setF_at];omega
   ·show σ.N+V1.nx t≤σ.N+setF V1.nx t (V1.nx t+1) t
    rw [setF_at];omega
   ·show _≤setF V1.nx t (V1.nx t+1) t+_
    rw [setF_at];omega
   ·show Γ.nn t+(if (setF (setF V1.mu t m') t (MU.zero (σ.done t+1)) t).st=6 then 1 else 0)≤setF V1.nx t (V1.nx t+1) t
    rw [setF_at,setF_at,if_neg (by show ¬ (0:Int)=6;decide)];omega
   ·rw [List.append_nil]
    exact((P.no hn).step (V':=V3) (σ':=σ) P.wi.sim ok hSt k4 (fun i hi=>by rw [hv];exact mz i hi) h6 gk (fun o j _ q1 q2=>.inl ⟨q1,q2,rfl⟩)).of rfl t
   ·obtain⟨w1,w2,w3,w4,w5⟩:=wr (σ3:=σ) v3 v4 v5 v6 (fun i hi=>⟨by rw [v1];exact mz i hi,by rw [v2];exact setF_ne _ _ hi⟩)
    refine⟨w1,w2,w3,w4,w5,geo,hSt.A,.inr (.inr (.inr (.inr (.inr (.inl ⟨by rw [← b2];exact hsy,h6V h6,by rw [← b1];exact c1,?_,?_,rfl,v7.trans sX,?_⟩)))))⟩
    ·rw [v2,← b1];exact setF_at _ _ _
    ·rw [v1,setF_at];rfl
    ·rw [← b1,← c2];exact k5
 ·have h6:=k4
  obtain⟨c1,c2⟩:=cur h6
  rw [if_neg h6]at ntt
  have hlg2:Γ.on t≤V1.nx t+1:=by split at lgt <;> omega
  have eT:=actS_tick L.B M T σ t (Ops t (V1.nx t))
  have hN1:=act_N L.B M T σ t (Ops t (V1.nx t))
  have hDn:=act_done L.B M T σ t (Ops t (V1.nx t))
  rw [c2]at k5 hI k6
  have sto:∀e:Int,m'.st=e→(setF V1.mu t m' t).st=e:=fun e h=>by rw [mt];exact h
  have st06:m'.st=0∨m'.st=6:=by rcases k2 with⟨_,k⟩ | ⟨_,k⟩ <;> simp [k]
  refine⟨(t:Int),((V1.mu t).dn:Int),(actA L.B M T σ t (V1.mu t).op).code,(actA L.B M T σ t (V1.mu t).op).word,(actA L.B M T σ t (V1.mu t).op).bit,true,bb,false,none,0,[],[],0,X',h',x',{ V1 with mu:=setF V1.mu t m',OV:=V1.OV },_,A',rv',rfl,rfl,lr_none _ _,?_,hD2,P.vd,by show Γ.dl.length+0≤_;omega,by show V1.nx t≤60;omega,hops,.inr (.inr ⟨rfl,rfl,c1,rfl,by rw [dnt],by rw [c2],by omega,hcan,gk,P.gd,(P.ok t _).1,?_⟩)⟩
  ·exact hA2
  refine fin rfl rfl rfl rfl rfl rfl rfl vo0 mo (fun i hi=>setF_ne _ _ hi) (fun _ _=>rfl) (fun i hi=>?_) (fun V3 hv=>?_) ?_ (fun e1 e2=>?_) ?_ ?_ ?_ ?_ ?_ (by show 0+4*Γ.nn t≤4*Γ.nn t;omega) (fun V3 hv hn=>?_) (fun V3 Γ3 v1 v2 v3 v4 v5 v6 v7=>?_)
  ·show(actS L.B M T (σ.tick t) t (Ops t (V1.nx t))).done i=_
   rw [eT]
   show setF (actS L.B M T σ t (Ops t (V1.nx t))).done t _ i=_
   rw [setF_ne _ _ hi,hDn]
  ·show WI L.B h' x' V3 (actS L.B M T (σ.tick t) t (Ops t (V1.nx t))) A' rv' M T
   rw [eT]
   exact(hI.tick t).of hv
  ·show setF V1.nx t (V1.nx t+1) t≤_
   rw [setF_at];omega
  ·have e1:(setF V1.mu t m' t).st≠0:=e1
   have e2:(setF V1.mu t m' t).st≠6:=e2
   rw [mt]at e1 e2
   rcases st06 with e | e
   ·exact absurd e e1
   ·exact absurd e e2
  ·show(setF V1.mu t m' t).dn=(actS L.B M T (σ.tick t) t (Ops t (V1.nx t))).done t
   rw [eT,mt,k1,dnt]
   show _=setF (actS L.B M T σ t (Ops t (V1.nx t))).done t _ t
   rw [setF_at,hDn]
  ·show(actS L.B M T (σ.tick t) t (Ops t (V1.nx t))).done t≤setF V1.nx t (V1.nx t+1) t
   rw [eT,setF_at]
   show setF (actS L.B M T σ t (Ops t (V1.nx t))).done t _ t≤_
   rw [setF_at,hDn]
   omega
  ·show(actS L.B M T (σ.tick t) t (Ops t (V1.nx t))).N+V1.nx t≤σ.N+setF V1.nx t (V1.nx t+1) t
   rw [eT,setF_at]
   show(actS L.B M T σ t (Ops t (V1.nx t))).N+V1.nx t≤_
   omega
  ·show _≤setF V1.nx t (V1.nx t+1) t+_
   rw [setF_at];omega
  ·show Γ.nn t+(if (setF V1.mu t m' t).st=6 then 1 else 0)≤setF V1.nx t (V1.nx t+1) t
   rw [show setF V1.nx t (V1.nx t+1) t=V1.nx t+1 from setF_at _ _ _]
   split <;> omega
  ·rw [List.append_nil]
   show Notes h' x' V3 (actS L.B M T (σ.tick t) t (Ops t (V1.nx t))) A' Γ.dl T
   rw [eT]
   refine((P.no hn).step (V':=V3) (σ':=actS L.B M T σ t (Ops t (V1.nx t))) P.wi.sim ok hSt k3 (fun i hi=>by rw [hv];exact mo i hi) h6 gk (fun o j q0 q1 q2=>?_)).of rfl t
   rcases act_refs (M:=M) gk k5 o j q0 q1 q2 with a | a | ⟨a1,a2,a3,a4,a5⟩
   ·exact .inl a
   ·exact .inr (.inl a)
   ·refine .inr (.inr ⟨a1,a2,a3,a4,fun hnb=>?_⟩)
    obtain⟨z1,z2⟩:=a5 hnb
    have hst6:m'.st=6:=by
     rcases k2 with⟨_,k⟩ | ⟨k,_⟩
     ·exact k
     ·rw [z1]at k;cases k
    rw [hv]
    show(setF V1.mu t m' t).st=6∧(setF V1.mu t m' t).ad=_∧_
    rw [mt]
    exact⟨hst6,z2,ht⟩
  ·obtain⟨w1,w2,w3,w4,w5⟩:=wr (σ3:=σ) v3 v4 v5 v6 (fun i hi=>⟨by rw [v1];exact mo i hi,by rw [v2];exact setF_ne _ _ hi⟩)
   refine⟨w1,w2,w3,w4,w5,geo,hSt.A,.inr (.inr (.inr (.inr (.inl ⟨h6V h6,by rw [← b1];exact c1,?_,?_,v7.trans sX,fun e1 e2=>?_,fun e1 e2 e3=>?_⟩))))⟩
   ·rw [v2,← b1];exact setF_at _ _ _
   ·rw [v1];show(setF V1.mu t m' t).st=0∨(setF V1.mu t m' t).st=6
    rw [mt];exact st06
   ·rw [← b1]at e2 ⊢
    have hk:(V1.mu t).k=3:=by have:=congrArg Po.k c2;exact this.trans e2
    exact k6 (by rw [b6];split <;> omega) hk
   ·obtain rfl:=b7 (by omega)
    have hk:(V1.mu t).k=3:=by have:=congrArg Po.k c2;exact this.trans e2
    exact k7 e1 hk e3
 ·obtain rfl:=hσ.symm
  obtain rfl:=hh.symm
  obtain rfl:=hA'.symm
  rw [if_pos k1]at ntt
  have hl4:l.length≤4:=by
   obtain⟨wc,er,C',-,⟨-,-,rfl⟩ | ⟨-,-,rfl⟩⟩:=k5
   ·simp
   ·have:=P.wi.q.o t (by rw [P.wi.eT];exact ht)
    unfold pushV
    split
    ·simp
    ·simp only [List.length_drop,List.length_append,List.length_singleton]
     omega
  have h4:(V1.mu t).st≠4:=by omega
  rw [if_neg h4]at lgt
  refine⟨0,0,0,0,false,false,false,false,Al,n,G,l,l.length,X',h,x',{ V1 with mu:=setF V1.mu t (MU.zero (V1.mu t).dn),OV:=V1.OV },{ Γ.old t (Γ.oA t) (Γ.on t) (Γ.oc t) G1 (Γ.ox t)with nn:=setF Γ.nn t (Γ.nn t+1) },A,rv',rfl,rfl,k6,hA2,⟨hD2.x,hD2.m,hD2.d,hD2.t,hD2.o⟩,P.vd,by show Γ.dl.length+_≤_;omega,by show V1.nx t≤60;omega,hops,.inl ⟨rfl,rfl,?_⟩⟩
  refine fin rfl rfl rfl rfl rfl rfl rfl vo0 mo (fun _ _=>rfl) (fun i hi=>setF_ne _ _ hi) (fun _ _=>rfl) (fun V3 hv=>hI.of hv) hnx (fun e1 _=>?_) (by show(setF V1.mu t _ t).dn=_;rw [mt];exact dnt) dxt (Nat.le_refl _) (by show Γ.on t≤V1.nx t+_;omega) ?_ (by show _≤4*setF Γ.nn t (Γ.nn t+1) t;rw [setF_at];omega) (fun V3 hv hn=>?_) (fun V3 Γ3 v1 v2 v3 v4 v5 v6 v7=>?_)
  ·have e1:(setF V1.mu t (MU.zero (V1.mu t).dn) t).st≠0:=e1
   rw [mt]at e1;exact absurd rfl e1
  ·show setF Γ.nn t (Γ.nn t+1) t+(if (setF V1.mu t (MU.zero (V1.mu t).dn) t).st=6 then 1 else 0)≤_
   rw [mt,setF_at,if_neg (by show ¬ (0:Int)=6;decide)]
   omega
  ·exact(P.no hn).note k2 k4 (card_lt ok dim k3 k4) ht (fun i hi=>by rw [hv];exact mo i hi) k5
  ·obtain⟨w1,w2,w3,w4,w5⟩:=wr (σ3:=σ) v3 v4 v5 v6 (fun i hi=>⟨by rw [v1];exact mo i hi,by rw [v2]⟩)
   refine⟨w1,w2,w3,w4,w5,geo,hSt.A,.inr (.inr (.inr (.inl ⟨?_,?_,by rw [v2];exact congrFun b1 t,rfl,rfl,v7.trans sX⟩)))⟩
   ·by_cases e0:(V.mu t).st=0
    ·rw [b6,if_pos e0]at k1;omega
    ·rw [b6,if_neg e0]at k1;exact k1
   ·rw [v1];show(setF V1.mu t (MU.zero (V1.mu t).dn) t).st=0
    rw [mt];rfl
 ·obtain rfl:=hσ.symm
  obtain rfl:=hh.symm
  obtain rfl:=hx.symm
  obtain rfl:=hA'.symm
  have h6:(V1.mu t).st≠6:=by omega
  obtain⟨c1',c2⟩:=cur h6
  rw [if_neg (by omega)]at lgt
  rw [if_neg h6]at ntt
  refine⟨0,0,0,0,false,false,true,false,none,0,[],[],0,X',h,x,{ V1 with mu:=setF V1.mu t m',OV:=putF V1.OV t (.slice A1 (Γ.on t+1) c1) },_,A,rv',rfl,rfl,lr_none _ _,hA2,hD2,P.vd,by show Γ.dl.length+0≤_;omega,by show V1.nx t≤60;omega,hops,.inl ⟨rfl,rfl,?_⟩⟩
  refine fin rfl rfl rfl rfl rfl rfl rfl (fun i hi=>?_) mo (fun _ _=>rfl) (fun _ _=>rfl) (fun _ _=>rfl) (fun V3 hv=>hI.of hv) hnx (fun _ _=>⟨c1',?_⟩) (by show(setF V1.mu t m' t).dn=_;rw [mt,k5];exact dnt) dxt (Nat.le_refl _) ?_ ?_ (by show 0+4*Γ.nn t≤4*Γ.nn t;omega) (fun V3 hv hn=>?_) (fun V3 Γ3 v1 v2 v3 v4 v5 v6 v7=>?_)
  ·unfold putF setF
   split
   ·rfl
   ·exact P.vo i hi
  ·show(setF V1.mu t m' t).op=_
   rw [mt,k6]
   exact c2
  ·show _≤V1.nx t+(if (setF V1.mu t m' t).st=4 then 1 else 0)
   rw [mt,if_pos k4]
   omega
  ·show Γ.nn t+(if (setF V1.mu t m' t).st=6 then 1 else 0)≤_
   rw [mt,if_neg (show ¬ m'.st=6 by rw [k4];decide)]
   omega
  ·rw [List.append_nil]
   exact(P.no hn).step P.wi.sim ok hSt (SameQ.refl _) (fun i hi=>by rw [hv];exact mo i hi) h6 gk (fun o j _ q1 q2=>.inl ⟨q1,q2,rfl⟩)
  ·obtain⟨w1,w2,w3,w4,w5⟩:=wr (σ3:=σ) v3 v4 v5 v6 (fun i hi=>⟨by rw [v1];exact mo i hi,by rw [v2]⟩)
   have hV:V1=V:=by
    by_cases e0:(V.mu t).st=0
    ·rw [b6,if_pos e0]at k2;omega
    ·exact b7 e0
   subst hV
   refine⟨w1,w2,w3,w4,w5,geo,hSt.A,.inr (.inr (.inl ⟨k1,by rw [v2],c1',k2,?_,?_,rfl,rfl,I,k7,k8,v7⟩))⟩
   ·rw [← c2];exact k3
   ·rw [v1];show(setF V1.mu t m' t).st=4
    rw [mt];exact k4
end
end Go.Proofs.YtfcjdinlcehpmaaGreatDoor
