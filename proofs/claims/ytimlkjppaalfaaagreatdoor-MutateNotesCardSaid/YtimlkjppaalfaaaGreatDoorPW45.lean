/- gleanerlaw15: World.Step goes on. -/
import Derived.Test.YtimlkjppaalfaaaGreatDoorPW44
import Derived.Deep.CutRange
import Derived.Deep.RegionHeld3
import Derived.Deep.RegionLaw
import Derived.StillTailTactics
import Derived.WalkKit
import Derived.BigQuiet
set_option linter.unusedVariables false
set_option linter.unusedSimpArgs false
set_option maxHeartbeats 3200000
set_option maxRecDepth 100000
open List renaming mem_cons_self->C0,mem_cons->C1,mem_append->C9
open Nat renaming le_refl->Dd
namespace Go.Proofs.YtimlkjppaalfaaaGreatDoor
open Go.RowKit Go.Gl HS
section
variable {W w w':World}{L:HL}{X:HX}{h:HS}{x:HT}{s k:Nat}{E:aK}{DX:Nat->Prop}{QX:World->Prop}{Λ:WL}{Γ:WG}{t:Nat}{V:WS}{σ:GS}{A:Nat->Nat}{rv:Nat->Option (Nat×Nat)}{M T:Nat}{Ops:Nat->Nat->Po}{On:Nat->Nat}{Nt:Prop}
def Got(W w:World)(L:HL)(X:HX)(h:HS)(x:HT)(s k:Nat)(E:aK)(DX:Nat->Prop)(QX:World->Prop)(Λ:WL)(Γ:WG)(t M T:Nat)(V:WS)(σ:GS)(A:Nat->Nat)(rv:Nat->Option (Nat×Nat))(Ops:Nat->Nat->Po)(On:Nat->Nat)(Nt:Prop):Prop:=
 ∃V1,kx t On V V1/\HM W w L X h x s k (wE Λ L.hb Γ.g T V1++E) (gD DX Λ Γ (·<T)) (gQ QX Λ Γ (·<T) T L.B M σ)/\WP W L.B h x DX Λ Γ M T V1 σ A rv Ops On Nt
theorem WP.begin(P:WP W L.B h x DX Λ Γ M T V σ A rv Ops On Nt)(ht:t<T)(hst:(V.mu t).st=0)(hn:V.nx t<On t):WP W L.B h x DX Λ Γ M T { V with mu:=ai V.mu t ((V.mu t).on (Ops t (V.nx t))),OV:=V.OV } σ A rv Ops On Nt /\
  kx t On V { V with mu:=ai V.mu t ((V.mu t).on (Ops t (V.nx t))),OV:=V.OV }:=by
 have mt:ai V.mu t ((V.mu t).on (Ops t (V.nx t))) t=(V.mu t).on (Ops t (V.nx t)):=aq _ _ _;have mo:∀i,i≠t->ai V.mu t ((V.mu t).on (Ops t (V.nx t))) i=V.mu i:=λi e=>az _ _ e;have lg:=P.lg t ht;have nt:=P.nt t ht;rw[if_neg (by omega)]at lg nt;refine⟨P.next ht P.dj (P.wi.start ht hst (P.ok _ _).1 (P.ok _ _).2) P.vd P.vo rfl mo (λ_ _=>rfl) (λ_ _=>rfl) (λ_ _=>rfl) (λ_ _=>rfl) (P.nx t ht) (λ_ _=>⟨hn,?_⟩) ?_ (P.dx t ht) (Dd _) ?_ ?_ (Dd _) (λhN=>?_),?_,.inr ⟨hst,hn,?_,rfl,rfl,rfl,rfl,mo⟩⟩
 ·show(ai V.mu t _ t).op=_;rw[mt];rfl
 ·show(ai V.mu t _ t).dn=_;rw[mt];exact P.dn t ht
 ·show _<=V.nx t+(if (ai V.mu t _ t).st=4 then 1 else 0);omega
 ·show _+(if (ai V.mu t ((V.mu t).on (Ops t (V.nx t))) t).st=6 then 1 else 0)<=V.nx t;rw[mt,if_neg (by show ¬ (1:Int)=6;decide)];omega
 ·obtain⟨n1,n2,n3,n4⟩:=P.no hN;refine⟨λo j h1 h2 hj hn=>(n1 o j h1 h2 hj hn).imp id (λ⟨i,i1,i2,i3⟩=>?_),n2,n3,n4⟩;have hit:i≠t:=λe=>by subst e;omega
  exact⟨i,i1,by show(ai V.mu t _ i).st=6;rw[mo i hit];exact i2,by show(ai V.mu t _ i).ad=_;rw[mo i hit];exact i3⟩
 ·show(ai V.mu t _ t).st≠0;rw[mt];show(1:Int)≠0;decide
 ·show(ai V.mu t _ t).st=1;rw[mt];rfl
theorem kx.same(hst:(V.mu t).st≠0):kx t On V V:=⟨hst,.inl ⟨rfl,hst⟩⟩
theorem qT(hX:ah DX QX)(hT:Tab W)(H:HM W w L X h x s k (wE Λ L.hb Γ.g T V++E) (gD DX Λ Γ (·<T)) (gQ QX Λ Γ (·<T) T L.B M σ))(eE:∀q,q∈E->q.2.1≠127/\q.2.1≠128/\q.1≠Λ.wb/\q.1≠Λ.nb)(P:WP W L.B h x DX Λ Γ M T V σ A rv Ops On Nt)(ht:t<T)
  (hgo:(V.mu t).st≠0\/V.nx t<On t) :
  Calls Tryz.prog 6 #[.pointer (some ⟨Λ.wb,0,none⟩),.int .i64 (t:Int)] w (WSP W L h s k E DX QX Λ Γ t M T V σ A Ops On Nt):=by
 have hS:=eh hX Λ Γ (·<T) T L.B M σ;obtain⟨gm,om,hmA,d0,d2,d3,d4,d5,d6,d7,d8,dn,dp⟩:=H.gg H.q.2.1 ht;have HI:=aa (dZ ((H.lU ht).blk (C0 ..)));have hT64:=P.gd.t;have hlt1:(t:Int)<(T:Int):=by omega
 have HG:=aa (show ah DX QX/\Tab W/\t<T from ⟨hX,hT,ht⟩);have HEE:=aa eE;have HFW:=aa H.fr;have HGot0:Hid ((V.mu t).st≠0->Got W w L X h x s k E DX QX Λ Γ t M T V σ A rv Ops On Nt):=λhst=>⟨V,kx.same hst,H,P⟩;have HMid:Hid (∀w1,Got W w1 L X h x s k E DX QX Λ Γ t M T V σ A rv Ops On Nt->Calls Tryz.prog 19 #[.pointer (some ⟨Λ.P t,0,none⟩)] w1 λe w'=>RSt W L s k E DX QX Λ M T Ops On Nt t h Γ V σ A e w'):=λw1 ⟨V1,b1,H1,P1⟩=>by
  have hon:Γ.on t<=1048576:=by
   have:=P1.lg t ht;have:=P1.nx t ht;have:=P1.ol t;split at*<;> omega
  refine(tf (eh hX Λ Γ (λi=>i<T/\i≠t) T L.B M σ) hT (CC hT H1 ht) (λq hq=>⟨(eE q hq).1,(eE q hq).2.1⟩) (λg hg hd=>?_) hon P1.wi P1.CW ht b1.1 (P1.vo t ht) (by have:=P1.dn t ht;have:=P1.dx t ht;have:=P1.nx t ht;have:=P1.ol t;omega)).mono (λe w' q=>yH hX hT P1 b1 H1 ht q);rcases hd with hd|hd|hd|hd|⟨j,⟨hj,hne⟩,hd⟩
  ·exact(P1.dj.x g hd).2.2.2 t ht hg
  ·exact(P1.dj.m g hd).2.2 t ht hg
  ·exact(P1.dj.d g hd).2 t ht hg
  ·exact P1.dj.t g hd t ht hg
  ·exact P1.dj.o t j ht hj (λe=>hne e.symm) g hg hd
 obtain⟨oA,oc,hop,hoc⟩:=P.ops t ht;rw[hop]at dp;have HOp:=aa hoc;have HSt:Hid ((V.mu t).st=0->V.nx t<On t->∀w1,Fr [] w w1->Calls Tryz.prog 18 #[.pointer (some ⟨Λ.P t,0,none⟩),.agg #[.int .i64 (Ops t (V.nx t)).k,.int .i64 (Ops t (V.nx t)).a,.int .i64 (Ops t (V.nx t)).b,.int .i64 (Ops t (V.nx t)).c,.int .u64 (Ops t (V.nx t)).v]] w1 λe w'=>e=.returned (.int .i64 0)/\Got W w' L X h x s k E DX QX Λ Γ t M T V σ A rv Ops On Nt):=λhst hn w1 hf=>by
  refine(qO hS hT (H.fr0 hS hf) (λq hq=>⟨(eE q hq).1,(eE q hq).2.1⟩) ht hst (Ops t (V.nx t))).mono ?_;rintro e w' ⟨rfl,hA⟩;obtain⟨p1,p2⟩:=P.begin ht hst hn;exact⟨rfl,_,p2,hA,p1⟩
 have HWp:Hid (∀e w',WSP W L h s k E DX QX Λ Γ t M T V σ A Ops On Nt e w'->WSP W L h s k E DX QX Λ Γ t M T V σ A Ops On Nt e w'):=λ_ _ p=>p;have hol:=P.ol t;have hnx:=P.nx t ht;have Hgo:=aa hgo;clear H P hop hS hX hT hoc eE hgo;obtain⟨st,hst⟩:∃st,st=(V.mu t).st:=⟨_,rfl⟩;rw[<- hst]at HI HGot0 HSt Hgo;obtain⟨nx,hnxe⟩:∃nx,nx=V.nx t:=⟨_,rfl⟩;rw[<- hnxe]at HSt Hgo dn hnx;obtain⟨nn,hnn⟩:∃nn,nn=On t:=⟨_,rfl⟩;rw[<- hnn]at HSt Hgo hol hnx dp HOp;obtain⟨O,hO⟩:∃O,O=Ops t nx:=⟨_,rfl⟩;have HOe:=aa hO;rw[<- hO]at HSt;have HN:Hid (st=(V.mu t).st/\nx=V.nx t/\nn=On t):=⟨hst,hnxe,hnn⟩;clear hst hnxe hnn hO;go_enter Tryz.func6,Tryz.ntmps6
 go_wp2_with fail
 refine HI.out.mono ?_;rintro e w1 ⟨rfl,rfl⟩;go_upto_if 18 with fail
 go_cut [] from 18 to 53 (λwc=>Got W wc L X h x s k E DX QX Λ Γ t M T V σ A rv Ops On Nt)
 case first=>
  by_cases h0:st=0
  ·have hlt:nx<nn:=by
    rcases Hgo.out with e|e
    ·exact absurd h0 e
    ·exact e
   have hge:decide ((nx:Int)>=(nn:Int))=false:=by simpa using hlt
   obtain⟨ob,oo,hoA,hob,hoc⟩:=HOp.out (by omega);obtain⟨o0,o1,o2,o3,o4⟩:=hoc nx hlt;rw[<- HOe.out]at o0 o1 o2 o3 o4;have cW:∀ {p:Addr}{v:Value},W.cell? p=some v->w.cell? p=some v:=λh=>(HFW.out.cell (af h) (by simp)).trans h;replace o0:=cW o0;replace o1:=cW o1;replace o2:=cW o2;replace o3:=cW o3;replace o4:=cW o4;clear cW;have hlt2:(nx:Int)<(nn:Int):=by omega
   subst hoA;have HSt1:=aa (HSt.out h0 hlt);have hb0:(st==0)=true:=by simpa using h0
   clear h0 hoc;go_wp2_with fail
   go_quiet (fail)
   obtain⟨w5,hw5⟩:∃w5,w5=w.drewN nq:=⟨_,rfl⟩;rw[<- hw5];have HF5:Hid (Fr [] w w5):=by rw[hw5];exact(Fr.refl _ _).drewN _
   clear hw5;have cw:∀ {p:Addr}{v:Value},w.cell? p=some v->w5.cell? p=some v:=λh=>(HF5.out.cell (af h) (by simp)).trans h;replace d3:=cw d3;replace d4:=cw d4;replace dn:=cw dn;replace dp:=cw dp;replace o0:=cw o0;replace o1:=cw o1;replace o2:=cw o2;replace o3:=cw o3;replace o4:=cw o4;clear cw;go_wp2_with fail
   refine bF 17 (by kernel_rfl) (by kernel_rfl) ?_;simp only[List.take_succ_cons,List.take_zero,List.drop_succ_cons,List.drop_zero]
   repeat still_step
   refine wpStill_nil ?_;go_wp2_with fail
   refine(HSt1.out _ ?_).mono ?_
   ·exact HF5.out.drew
   rintro e w4 ⟨rfl,hG4⟩;have HG4:=aa hG4;clear hG4;go_wp2_with fail
   go_meet
   case rel=>exact HG4.out
  ·have hb0:(st==0)=false:=by simpa using h0
   have HG1:=aa (HGot0.out h0);go_wp2_with fail
   go_meet
   case rel=>exact HG1.out
 case rest=>
  have HG1:=aa (HMid.out wc hcut);clear hcut HMid HGot0 HSt HI HOp d0 d2 d3 d4 d5 d6 d7 d8 dn dp;go_wp2_with fail
  refine HG1.out.mono ?_;rintro e w2 ⟨th,dn2,code,word,bit,done,busy,want,Al,cl,Gl,l,ll,X',h',x',V2,Γ2,A',rv',hll,rfl,hLl,hM⟩;obtain⟨hA,hD,hvd,hlen,hnx2,hop2,hways⟩:=hM;obtain⟨i0,hi,hz0,hz1,hz2⟩:=info_parts Tryz.nK;have hS2:=eh HG.out.1 Λ Γ2 (·<T) T L.B M σ;obtain⟨rb,hrb⟩:∃rb,rb=w2.heap.size:=⟨_,rfl⟩;obtain⟨w3,hw3⟩:∃w3,w3=w2.alloc (.cells #[.int .i64 th,.int .i64 dn2,.int .i64 code,.int .u64 word,.bool bit,.bool done,.bool busy,.bool want,.slice Al ll cl] 73):=⟨_,rfl⟩;have hA3:HM W w3 L X' h' x' s k (wE Λ L.hb Γ2.g T V2++((rb,73,#[.int .i64 th,.int .i64 dn2,.int .i64 code,.int .u64 word,.bool bit,.bool done,.bool busy,.bool want,.slice Al ll cl])::E)) (gD DX Λ Γ2 (·<T)) (gQ QX Λ Γ2 (·<T) T L.B M σ):=by
   have:=hA.alloc hS2 73 #[.int .i64 th,.int .i64 dn2,.int .i64 code,.int .u64 word,.bool bit,.bool done,.bool busy,.bool want,.slice Al ll cl];rw[<- hw3,<- hrb]at this;exact this.sub (λq hq=>by
    simp only[C9,C1]at hq ⊢;rcases hq with e|e|e <;> simp[e])
  obtain⟨dn0,hdn0⟩:∃dn0,dn0=Γ2.dl.length:=⟨_,rfl⟩;rw[<- hdn0,<- hll]at hlen;rw[<- hdn0]at hvd;have hC3:=(hA3.blk (b:=rb) (t:=73) (cs:=#[.int .i64 th,.int .i64 dn2,.int .i64 code,.int .u64 word,.bool bit,.bool done,.bool busy,.bool want,.slice Al ll cl]) (by simp));have y8:=hC3.cell 8;have HL3:Hid (Lr w3 3 Al ll cl Gl (zv l)):=by rw[hw3];exact hLl.alloc _
  have HD3:Hid (Lr w3 3 Γ2.dA dn0 Γ2.dc Γ2.dG (zv Γ2.dl)):=by rw[hdn0];exact hA3.q.2.2.1
  have hwb:=hA3.blk (b:=Λ.wb) (t:=37) (cs:=wdV L.hb Λ.sb Λ.mA T Λ.mc Λ.pb Λ.nb T Γ2.g V2.dl V2.wn V2.sy) (by simp[wE,w4E]);have d6:w3.cell? ⟨Λ.wb,6,none⟩=some (.slice Γ2.dA dn0 Γ2.dc):=by rw[<- hvd];exact hwb.cell 6
  have HFZ:Hid (∀wq w4,Fr [] w3 wq->Fr Γ2.dG wq w4->w4.cell? ⟨Λ.wb,6,none⟩=some (.slice Γ2.dA dn0 Γ2.dc)/\w4.frozen? ⟨Λ.wb,6,none⟩=false):=λwq w4 hf hg=>by
   have hnm:Λ.wb∉Γ2.dG:=λhx=>HD3.out.apart hwb (by decide) hx;have hb1:=(hwb.fr hf (by simp)).fr hg hnm;refine⟨?_,hb1.frozen 6⟩;rw[<- hvd];exact hb1.cell 6
  have HE3:Hid (∀q,q∈((rb,73,#[.int .i64 th,.int .i64 dn2,.int .i64 code,.int .u64 word,.bool bit,.bool done,.bool busy,.bool want,.slice Al ll cl])::E:aK)->q.2.1≠127/\q.2.1≠128/\q.1≠Λ.wb/\q.1≠Λ.nb):=λq hq=>by
   rcases C1.1 hq with rfl|hq
   ·refine⟨by show(73:TypeId)≠127;decide,by show(73:TypeId)≠128;decide,hC3.apart hwb (by decide),hC3.apart (hA3.blk (b:=Λ.nb) (t:=3) (cs:=aI T λi=>.int .i64 (V2.nx i:Int)) (by simp[wE,w4E])) (by decide)⟩
   ·exact HEE.out q hq
  have HP8:Hid (∀wq w4 A' c' G',Fr [] w3 wq->Lr w4 3 A' (dn0+ll) c' G' (zv Γ2.dl++zv l)->Fr Γ2.dG wq w4->(∀g,g∈G'->g∈Γ2.dG\/(g=wq.heap.size/\0<ll)) ->
    HM W (w4.setCell ⟨Λ.wb,6,none⟩ (.slice A' (dn0+ll) c')) L X' h' x' s k (wE Λ L.hb Γ2.g T { V2 with dl:=.slice A' (dn0+ll) c',wn:=V2.wn }++((rb,73,#[.int .i64 th,.int .i64 dn2,.int .i64 code,.int .u64 word,.bool bit,.bool done,.bool busy,.bool want,.slice Al ll cl])::E)) (gD DX Λ (Γ2.left A' c' G' (Γ2.dl++l)) (·<T)) (gQ QX Λ (Γ2.left A' c' G' (Γ2.dl++l)) (·<T) T L.B M σ)/\Dj DX Λ (Γ2.left A' c' G' (Γ2.dl++l)) T):=λwq w4 A' c' G' hf hL hg hG=>
   CF HG.out.1 HG.out.2.1 hA3 (λq hq=>(HE3.out q hq).2.2.1) hD hf (by rw[List.length_append,hdn0,hll]) (by rw[gK];exact hL) hg (λg hx=>(hG g hx).imp id (λe=>e.1))
  have HZ:Hid ((∀u,u∈zv l->u.oneCell'=true)/\(zv l).length=ll):=⟨λu hu=>by unfold zv at hu;obtain⟨z,_,rfl⟩:=List.mem_map.1 hu;rfl,by rw[hll];simp[zv]⟩;have HB8:Hid (dn0+ll<=maxLen/\(dn0+ll)*8<=140737488355328):=⟨by unfold maxLen;omega,by omega⟩;have HF3:Hid (Fr [] w3 w3):=Fr.refl _ _;have NW:Λ.wb<w3.heap.size:=hwb.lt;have NR:rb<w3.heap.size:=hC3.lt;have HA3:=aa hA3;have HD2:=aa hD;have HWays:=aa hways;have HOp2:=aa hop2;have Hnx2:=aa hnx2;have HE0:Hid (dn0=Γ2.dl.length/\ll=l.length):=⟨hdn0,hll⟩;have HRB:=aa hrb;have HW3:=aa hw3;clear hways hop2 hnx2 hD hA hA3 hC3 hwb hvd hlen hLl hll hdn0 hrb hw3 hS2;go_upto_region 8 with fail
  rw[<- HRB.out,<- HW3.out];clear HRB HW3;go_cut [] from 56 to 65 (λwc=>∃A' c' G',HM W wc L X' h' x' s k (wE Λ L.hb Γ2.g T { V2 with dl:=.slice A' (dn0+ll) c',wn:=V2.wn }++((rb,73,#[.int .i64 th,.int .i64 dn2,.int .i64 code,.int .u64 word,.bool bit,.bool done,.bool busy,.bool want,.slice Al ll cl])::E)) (gD DX Λ (Γ2.left A' c' G' (Γ2.dl++l)) (·<T)) (gQ QX Λ (Γ2.left A' c' G' (Γ2.dl++l)) (·<T) T L.B M σ)/\Dj DX Λ (Γ2.left A' c' G' (Γ2.dl++l)) T)
  case first=>
   go_region_law (first|(refine fp rfl _ _ 25 rfl 3 i0 (.int .i64 0) 8 Tryz.underlying25 hi hz0 hz1 hz2 rfl rfl (HD3.out.fr0 ((Fr.refl _ _).drew)) rfl HZ.out.2 (HL3.out.fr0 ((Fr.refl _ _).drew)).read HZ.out.1 HB8.out.1 HB8.out.2 ?_;intro A' c' G' w' HLn HFn HGn;have d0:=(HFZ.out _ _ ((Fr.refl _ _).drew) HFn.out).1;have dz:=(HFZ.out _ _ ((Fr.refl _ _).drew) HFn.out).2))
   all_goals
    go_wp2_with fail
    go_meet
    case rel=>
     exact⟨A',c',G',HP8.out _ _ _ _ _ ((Fr.refl _ _).drew) HLn.out HFn.out HGn.out⟩
  case rest=>
   obtain⟨A3,c3,G3,hA5,hD5⟩:=hcut;obtain⟨V3,hV3⟩:∃V3:WS,V3={ V2 with dl:=.slice A3 (dn0+ll) c3,wn:=V2.wn }:=⟨_,rfl⟩;obtain⟨Γ3,hG3⟩:∃Γ3:WG,Γ3=Γ2.left A3 c3 G3 (Γ2.dl++l):=⟨_,rfl⟩;rw[<- hV3,<- hG3]at hA5;rw[<- hG3]at hD5;have g3:Γ2.g=Γ3.g:=by rw[hG3];rfl
   rw[g3]at hA5;have hS3:yG Γ2 Γ3 l:=by rw[hG3];exact⟨rfl,rfl,rfl,rfl,rfl,rfl,rfl,rfl⟩
   have hvd3:V3.dl=.slice Γ3.dA Γ3.dl.length Γ3.dc:=by
    rw[hV3,hG3];show Value.slice A3 (dn0+ll) c3=.slice A3 (Γ2.dl++l).length c3;rw[List.length_append,<- HE0.out.1,<- HE0.out.2]
   obtain⟨m1,m2,m3,m4,m5,m6⟩:V3.mu=V2.mu/\V3.nx=V2.nx/\V3.OV=V2.OV/\V3.OP=V2.OP/\V3.sy=V2.sy/\V3.mg=V2.mg:=by rw[hV3];exact⟨rfl,rfl,rfl,rfl,rfl,rfl⟩
   have hSg:=eh HG.out.1 Λ Γ3 (·<T) T L.B M σ;have HGoEnd:Hid (vP W L.B DX Λ M T Ops On Nt t h h' x' Γ Γ2 V V2 σ σ A A' rv' l V2.mu V2.nx->∀w9,Fr [] wc w9->WSP W L h s k E DX QX Λ Γ t M T V σ A Ops On Nt (.returned (.bool true)) w9):=λhF w9 hf=>by
    obtain⟨p1,p2⟩:=hF V3 Γ3 m1 m2 m3 m4 m5 m6 hvd3 hS3 hD5;exact⟨rfl,X',h',x',V3,σ,A',rv',Γ3,(hA5.fr0 hSg hf).sub (λq hq=>by
     simp only[C9,C1]at hq ⊢;rcases hq with e|e <;> simp[e]),p1,p2⟩
   have hC5:=(hA5.blk (b:=rb) (t:=73) (cs:=#[.int .i64 th,.int .i64 dn2,.int .i64 code,.int .u64 word,.bool bit,.bool done,.bool busy,.bool want,.slice Al ll cl]) (by simp));have y5:=hC5.cell 5;have y7:=hC5.cell 7;have NR5:=hC5.lt;obtain⟨gm5,om5,hmA5,e0,e2,e3,e4,e5,e6,e7,e8,en,ep⟩:=hA5.gg hA5.q.2.1 HG.out.2.2;have NW5:=af e2;have HA5:=aa hA5;have HD5:=aa hD5;have HM5:Hid (V3.mu=V2.mu/\V3.nx=V2.nx/\V3.OV=V2.OV/\V3.OP=V2.OP/\V3.sy=V2.sy/\V3.mg=V2.mg/\V3.dl=.slice Γ3.dA Γ3.dl.length Γ3.dc/\yG Γ2 Γ3 l):=⟨m1,m2,m3,m4,m5,m6,hvd3,hS3⟩;have HC5:=aa hC5;rw[m5]at e8;rw[m2]at en;rw[m4]at ep;clear hA5 hD5 hC5 hV3 hG3 g3 hS3 hvd3 m1 m2 m3 m4 m5 m6 hSg HP8 HB8 HZ HFZ HD3 HL3 HA3 HD2 d6 y8 hi hz0 hz1 hz2 HF3 HE3 HG1 hmA5 NW NR;rcases HWays.out with⟨rfl,rfl,hF⟩|⟨rfl,rfl,hFt,hFf⟩|⟨rfl,rfl,k1,hth,hdn,k2,k3,k4,k5,k6,k7,hF⟩
   ·have HE:=aa (HGoEnd.out hF);clear hF HWays;go_wp2_with fail
    go_ret
    exact HE.out _ (Fr.refl _ _)
   ·obtain⟨sy,hsy⟩:∃sy,sy=V2.sy:=⟨_,rfl⟩;rw[<- hsy]at e8 hFt hFf;clear hsy;cases sy with
   |true=>
     have HE:=aa (HGoEnd.out (hFt rfl));clear hFt hFf HWays;go_wp2_with fail
     go_ret
     exact HE.out _ (Fr.refl _ _)
   |false=>
     obtain⟨f1,f2,hF⟩:=hFf rfl;have HF:=aa hF;obtain⟨dd,hdd⟩:∃dd,dd=σ.done t:=⟨_,rfl⟩;rw[<- hdd]at f2;have HDd:=aa hdd;obtain⟨hT64',hdd60⟩:T<=64/\dd<=60:=⟨hT64,by
      obtain⟨p1,-⟩:=hF { V3 with mu:=ai V2.mu t (MU.zero (σ.done t+1)),nx:=ai V2.nx t (V2.nx t+1) } Γ3 rfl rfl HM5.out.2.2.1 HM5.out.2.2.2.1 HM5.out.2.2.2.2.1 HM5.out.2.2.2.2.2.1 HM5.out.2.2.2.2.2.2.1 HM5.out.2.2.2.2.2.2.2 HD5.out;have a1:=p1.dx t HG.out.2.2;have a2:=p1.nx t HG.out.2.2;have a3:=p1.ol t;have a4:(σ.tick t).done t=σ.done t+1:=aq _ _ _;omega⟩
     have hSg:=eh HG.out.1 Λ Γ3 (·<T) T L.B M σ;have HFl:Hid (Calls Tryz.prog 24 #[.pointer (some ⟨Λ.P t,0,none⟩)] wc λe w'=>e=.returned (.tuple #[.agg #[.int .i64 (t:Int),.int .i64 (dd:Int),.int .i64 16,.int .u64 0,.bool false],.int .i64 0]) /\
       HM W w' L X' h' x' s k (wE Λ L.hb Γ3.g T { V3 with mu:=ai V3.mu t (MU.zero (dd+1)),OV:=V3.OV }++((rb,73,#[.int .i64 th,.int .i64 dn2,.int .i64 code,.int .u64 word,.bool bit,.bool false,.bool busy,.bool true,.slice Al ll cl])::E)) (gD DX Λ Γ3 (·<T)) (gQ QX Λ Γ3 (·<T) T L.B M σ)):=by
      have e1:(V3.mu t).st=2:=by rw[HM5.out.1];exact f1
      have e2:(V3.mu t).dn=dd:=by rw[HM5.out.1];exact f2
      have:=tu hSg HG.out.2.1 HA5.out (λq hq=>by
       rcases C1.1 hq with rfl|hq
       ·exact⟨by show(73:TypeId)≠127;decide,by show(73:TypeId)≠128;decide⟩
       ·exact⟨(HEE.out q hq).1,(HEE.out q hq).2.1⟩) HG.out.2.2 e1 (by rw[e2];omega)
      rw[e2]at this;exact this
     clear hF hFt hFf f1 f2 hdd HWays HGoEnd;go_wp2_with fail
     refine HFl.out.mono ?_;rintro e w6 ⟨rfl,hA6⟩;obtain⟨V4,hV4⟩:∃V4:WS,V4={ V3 with mu:=ai V3.mu t (MU.zero (dd+1)),OV:=V3.OV }:=⟨_,rfl⟩;rw[<- hV4]at hA6;have hV4':V4.mu=ai V2.mu t (MU.zero (dd+1))/\V4.nx=V2.nx/\V4.OV=V2.OV/\V4.OP=V2.OP/\V4.sy=V2.sy/\V4.mg=V2.mg/\V4.dl=V3.dl:=by
      rw[hV4];exact⟨by rw[<- HM5.out.1],HM5.out.2.1,HM5.out.2.2.1,HM5.out.2.2.2.1,HM5.out.2.2.2.2.1,HM5.out.2.2.2.2.2.1,rfl⟩
     have HV4:=aa hV4';clear hV4 hV4' HFl e0 e2 e3 e4 e5 e6 e7 e8 en ep;obtain⟨ab,hab⟩:∃ab,ab=w6.heap.size:=⟨_,rfl⟩;obtain⟨w7,hw7⟩:∃w7,w7=w6.alloc (.cells #[.int .i64 (t:Int),.int .i64 (dd:Int),.int .i64 16,.int .u64 0,.bool false] 71):=⟨_,rfl⟩;have hA7:HM W w7 L X' h' x' s k (wE Λ L.hb Γ3.g T V4++((ab,71,#[.int .i64 (t:Int),.int .i64 (dd:Int),.int .i64 16,.int .u64 0,.bool false])::E)) (gD DX Λ Γ3 (·<T)) (gQ QX Λ Γ3 (·<T) T L.B M σ):=by
      have:=hA6.alloc hSg 71 #[.int .i64 (t:Int),.int .i64 (dd:Int),.int .i64 16,.int .u64 0,.bool false];rw[<- hw7,<- hab]at this;exact this.sub (λq hq=>by
       simp only[C9,C1]at hq ⊢;rcases hq with e|e|e <;> simp[e])
     have hb7:=hA7.blk (b:=ab) (t:=71) (cs:=#[.int .i64 (t:Int),.int .i64 (dd:Int),.int .i64 16,.int .u64 0,.bool false]) (by simp);have HE7:Hid (∀q,q∈((ab,71,#[.int .i64 (t:Int),.int .i64 (dd:Int),.int .i64 16,.int .u64 0,.bool false])::E:aK)->q.1≠Λ.wb/\q.1≠Λ.nb):=λq hq=>by
      rcases C1.1 hq with rfl|hq
      ·exact⟨hb7.apart (hA7.blk (b:=Λ.wb) (t:=37) (cs:=wdV L.hb Λ.sb Λ.mA T Λ.mc Λ.pb Λ.nb T Γ3.g V4.dl V4.wn V4.sy) (by simp[wE,w4E])) (by decide),hb7.apart (hA7.blk (b:=Λ.nb) (t:=3) (cs:=aI T λi=>.int .i64 (V4.nx i:Int)) (by simp[wE,w4E])) (by decide)⟩
      ·exact⟨(HEE.out q hq).2.2.1,(HEE.out q hq).2.2.2⟩
     have HA7:=aa hA7;have HAB:=aa hab;have HW7:=aa hw7;clear hA6 hA7 hab hw7 hb7 HA5;go_upto_region 13 with fail
     rw[<- HAB.out,<- HW7.out];obtain⟨gm7,om7,hmA7,e0,e2,e3,e4,e5,e6,e7,e8,en,ep⟩:=HA7.out.gg HA7.out.q.2.1 HG.out.2.2;obtain⟨z7,hA8⟩:=HA7.out.wWn hSg HG.out.2.1 (λq hq=>(HE7.out q hq).1) (wrap64 (V4.wn+1));obtain⟨w8,hw8⟩:∃w8,w8=w7.setCell ⟨Λ.wb,7,none⟩ (.int .i64 (wrap64 (V4.wn+1))):=⟨_,rfl⟩;rw[<- hw8]at hA8;have HA8:=aa hA8;have HW8:=aa hw8;clear hA8 hw8 e0 e2 e3 e4 e5 e6 e8 en ep hmA7 HAB HW7;go_upto_region 14 with fail
     rw[<- HW8.out];clear HW8 e7 z7;obtain⟨db,c3,cd,-,-⟩:=AP HG.out.1 HG.out.2.1 HA8.out HD5.out HG.out.2.2;rw[<- HDd.out]at cd;obtain⟨gm8,om8,hmA8,e0,e2,e3,e4,e5,e6,e7,e8,en,ep⟩:=HA8.out.gg HA8.out.q.2.1 HG.out.2.2;have hb8:=HA8.out.blk (b:=ab) (t:=71) (cs:=#[.int .i64 (t:Int),.int .i64 (dd:Int),.int .i64 16,.int .u64 0,.bool false]) (by simp);have a0:=hb8.cell 0;have a1:=hb8.cell 1;have a2:=hb8.cell 2;have a3:=hb8.cell 3;have a4:=hb8.cell 4;clear hb8 e0 e2 e3 e6 e7 e8 en ep hmA8 e4;go_wp2_with fail
     go_quiet (fail)
     obtain⟨w9,hw9⟩:∃w9,w9=w8.drewN nq:=⟨_,rfl⟩;rw[<- hw9];have hA9:HM W w9 L X' h' x' s k (wE Λ L.hb Γ3.g T { V4 with dl:=V4.dl,wn:=wrap64 (V4.wn+1) }++((ab,71,#[.int .i64 (t:Int),.int .i64 (dd:Int),.int .i64 16,.int .u64 0,.bool false])::E)) (gD DX Λ Γ3 (·<T)) (gQ QX Λ Γ3 (·<T) T L.B M σ):=by
      rw[hw9];exact HA8.out.fr0 hSg ((Fr.refl _ _).drewN _)
     clear hw9 c3 cd a0 a1 a2 a3 a4 e5;obtain⟨gm9,om9,hmA9,e0,e2,e3,e4,e5,e6,e7,e8,en,ep⟩:=hA9.gg hA9.q.2.1 HG.out.2.2;obtain⟨db2,c3,cd,cz,hA10⟩:=AP HG.out.1 HG.out.2.1 hA9 HD5.out HG.out.2.2;rw[<- HDd.out,show((dd+1:Nat):Int)=(dd:Int)+1 by omega]at hA10;rw[<- HDd.out]at cd;have hwr:IntKind.i64.wrap ((dd:Int)+1)=(dd:Int)+1:=IntWalk.i64_in _ ⟨by omega,by omega⟩;obtain⟨w10,hw10⟩:∃w10,w10=w9.setCell ⟨db2,t,none⟩ (.int .i64 ((dd:Int)+1)):=⟨_,rfl⟩;rw[<- hw10]at hA10;have HA10:=aa hA10;have HW10:=aa hw10;clear hA9 hA10 hw10 e0 e2 e3 e4 e6 e7 e8 en ep hmA9;go_upto_region 17 with fail
     rw[<- HW10.out];clear HW10 c3 cd cz e5 hwr;have hSg2:=eh HG.out.1 Λ (Γ3.tags Γ3.tg) (·<T) T L.B M (σ.tick t);obtain⟨gm10,om10,hmA10,e0,e2,e3,e4,e5,e6,e7,e8,en,ep⟩:=HA10.out.gg HA10.out.q.2.1 HG.out.2.2;obtain⟨zn,hA11⟩:=HA10.out.wNx (t:=t) hSg2 HG.out.2.1 (λq hq=>(HE7.out q hq).2);obtain⟨nx2,hnx2⟩:∃nx2,nx2=V2.nx t:=⟨_,rfl⟩;have hx4:({ V4 with dl:=V4.dl,wn:=wrap64 (V4.wn+1) }:WS).nx t=nx2:=by rw[hnx2,<- HV4.out.2.1]
     rw[hx4]at en hA11;have hle2:nx2<=60:=by rw[hnx2];exact Hnx2.out
     have hwr:IntKind.i64.wrap ((nx2:Int)+1)=(nx2:Int)+1:=IntWalk.i64_in _ ⟨by omega,by omega⟩;obtain⟨w11,hw11⟩:∃w11,w11=w10.setCell ⟨Λ.nb,t,none⟩ (.int .i64 ((nx2:Int)+1)):=⟨_,rfl⟩;rw[<- hw11]at hA11;have HA11:=aa hA11;have HW11:=aa hw11;have HX2:=aa hnx2;clear hA11 hw11 e0 e2 e3 e5 e6 e7 e8 ep hmA10 hx4 hnx2;go_upto_region 18 with fail
     rw[<- HW11.out];clear HW11 en zn e4 hwr;have HI11:=aa (dZ ((HA11.out.lU HG.out.2.2).blk (C0 ..)));rw[show(({ ({ V4 with dl:=V4.dl,wn:=wrap64 (V4.wn+1) }:WS)with nx:=ai ({ V4 with dl:=V4.dl,wn:=wrap64 (V4.wn+1) }:WS).nx t (nx2+1) }:WS).mu t).st=0 by show(V4.mu t).st=0;rw[HV4.out.1,aq];rfl]at HI11;rw[show((0:Int)==0)=true from rfl]at HI11;have HFin:Hid (WSP W L h s k E DX QX Λ Γ t M T V σ A Ops On Nt (.returned (.bool true)) w11):=by
      obtain⟨v1,v2,v3,v4,v5,v6,v7⟩:=HV4.out;have hvd:V4.dl=.slice Γ3.dA Γ3.dl.length Γ3.dc:=v7.trans HM5.out.2.2.2.2.2.2.1;obtain⟨p1,p2⟩:=HF.out { ({ V4 with dl:=V4.dl,wn:=wrap64 (V4.wn+1) }:WS)with nx:=ai ({ V4 with dl:=V4.dl,wn:=wrap64 (V4.wn+1) }:WS).nx t (nx2+1) } (Γ3.tags Γ3.tg) (by rw[<- HDd.out];exact v1) (by rw[<- HX2.out,<- v2]) v3 v4 v5 v6 hvd HM5.out.2.2.2.2.2.2.2 ⟨HD5.out.x,HD5.out.m,HD5.out.d,HD5.out.t,HD5.out.o⟩;exact⟨rfl,X',h',x',_,σ.tick t,A',rv',Γ3.tags Γ3.tg,HA11.out.sub (λq hq=>by
       simp only[C9,C1]at hq ⊢;rcases hq with e|e
       ·exact .inl e
       ·exact .inr (.inr e)),p1,p2⟩
     go_wp2_with fail
     refine HI11.out.mono ?_;rintro e w12 ⟨rfl,rfl⟩;go_wp2_with fail
     go_ret
     exact HFin.out
   ·obtain⟨oA2,oc2,hopv,hoc2⟩:=HOp2.out;obtain⟨nx2,hnx2⟩:∃nx2,nx2=V2.nx t:=⟨_,rfl⟩;obtain⟨n2,hn2⟩:∃n2,n2=On t:=⟨_,rfl⟩;obtain⟨O2,hO2⟩:∃O2,O2=Ops t nx2:=⟨_,rfl⟩;rw[hopv,<- hn2]at ep;rw[<- hnx2]at en k1 k2 k7 hF;rw[<- hn2]at k1 hoc2;rw[<- hO2]at k2 k7 hF;have hx60:nx2<=60:=by rw[hnx2];exact Hnx2.out
    obtain⟨ob2,oo2,hoA2,hob2,ho⟩:=hoc2 (by omega);subst hoA2;obtain⟨o0,o1,o2,o3,o4⟩:=ho nx2 k1;rw[<- hO2]at o0 o1 o2 o3 o4;have cW:∀ {p:Addr}{v:Value},W.cell? p=some v->wc.cell? p=some v:=λh=>(HA5.out.fr.cell (af h) (by simp)).trans h;replace o0:=cW o0;replace o1:=cW o1;replace o2:=cW o2;replace o3:=cW o3;replace o4:=cW o4;have hSg:=eh HG.out.1 Λ Γ3 (·<T) T L.B M σ;have HF:=aa hF;have HX2:=aa hnx2;have HDo:Hid (∀w8 V8 E8,HM W w8 L X' h' x' s k (wE Λ L.hb Γ3.g T V8++E8) (gD DX Λ Γ3 (·<T)) (gQ QX Λ Γ3 (·<T) T L.B M σ) ->
      Calls Tryz.prog 25 #[.pointer (some ⟨Γ3.g,0,none⟩),.int .i64 (t:Int),.agg #[.int .i64 O2.k,.int .i64 O2.a,.int .i64 O2.b,.int .i64 O2.c,.int .u64 O2.v]] w8 λe w'=>e=.returned (.agg #[.int .i64 th,.int .i64 dn2,.int .i64 code,.int .u64 word,.bool bit]) /\
       ∃tg',HM W w' L X' h' x' s k (wE Λ L.hb Γ3.g T V8++E8) (gD DX Λ (Γ3.tags tg') (·<T)) (gQ QX Λ (Γ3.tags tg') (·<T) T L.B M (aM L.B M T (σ.tick t) t O2))/\Dj DX Λ (Γ3.tags tg') T):=λw8 V8 E8 q=>by
     obtain⟨Λm,hm,em⟩:=q.q.2.2.2.1;have hd:=BL hm k5 k6 (by omega) HG.out.2.2 (by omega) O2 k7;rw[em,<- k2]at hd;refine Calls.mono hd ?_;rintro e w' ⟨rfl,tg',hq,hg⟩;obtain⟨p1,p2⟩:=yF HG.out.1 HG.out.2.1 q HD5.out hq hg;exact⟨by rw[hth,hdn];rfl,tg',p1,p2⟩
    have hlt2:(nx2:Int)<(n2:Int):=by omega
    have hwr:IntKind.i64.wrap ((nx2:Int)+1)=(nx2:Int)+1:=IntWalk.i64_in _ ⟨by omega,by omega⟩;have N3:=af ep;have N4:=af en;have N5:=af o0;clear hF hnx2 hO2 hn2 hopv hoc2 ho k2 k3 k4 k5 k6 k7 hth hdn HWays HGoEnd HOp2 Hnx2 cW hob2 e0 e2 e6 e7 e8;obtain⟨w5,hw5⟩:∃w5,w5=wc:=⟨_,rfl⟩;subst hw5;go_upto_region 21 with fail
    go_cut [9] from 128 to 143 (λp wx=>∃b9,p=.pointer (some ⟨b9,0,none⟩)/\w5.heap.size<=b9/\Blk wx b9 69 #[.int .i64 O2.k,.int .i64 O2.a,.int .i64 O2.b,.int .i64 O2.c,.int .u64 O2.v]/\Fr [] w5 wx)
    case first=>
     go_region_held3 (λw'=>w'.cell? ⟨Λ.wb,3,none⟩=some (.slice (some ⟨Λ.pb,0,none⟩) T T)/\w'.cell? ⟨Λ.pb,t,none⟩=some (.slice (some ⟨ob2,oo2,none⟩) n2 oc2)/\w'.cell? ⟨Λ.wb,4,none⟩=some (.slice (some ⟨Λ.nb,0,none⟩) T T)/\w'.cell? ⟨Λ.nb,t,none⟩=some (.int .i64 (nx2:Int)) /\
       w'.cell? ⟨ob2,oo2+nx2*5,none⟩=some (.int .i64 O2.k)/\w'.cell? ⟨ob2,oo2+nx2*5+1,none⟩=some (.int .i64 O2.a)/\w'.cell? ⟨ob2,oo2+nx2*5+2,none⟩=some (.int .i64 O2.b)/\w'.cell? ⟨ob2,oo2+nx2*5+3,none⟩=some (.int .i64 O2.c)/\w'.cell? ⟨ob2,oo2+nx2*5+4,none⟩=some (.int .u64 O2.v))
      (first|exact⟨e3,ep,e4,en,o0,o1,o2,o3,o4⟩|go_keep)
      (first|fail)
     all_goals
      go_wp2_with fail
      go_meet
      case rel=>
       exact⟨_,rfl,Dd _,(Blk.new _ _ _).drew,((Fr.refl _ _).alloc _).drew⟩
    case rest=>
     obtain⟨b9,rfl,hb9,hbk9,hf9⟩:=hcut;have hA6:=HA5.out.new hSg hf9 hbk9 hb9;have hA6':HM W wc L X' h' x' s k (wE Λ L.hb Γ3.g T V3++((b9,69,#[.int .i64 O2.k,.int .i64 O2.a,.int .i64 O2.b,.int .i64 O2.c,.int .u64 O2.v])::(rb,73,#[.int .i64 th,.int .i64 dn2,.int .i64 code,.int .u64 word,.bool bit,.bool true,.bool busy,.bool false,.slice Al ll cl])::E)) (gD DX Λ Γ3 (·<T)) (gQ QX Λ Γ3 (·<T) T L.B M σ):=hA6.sub (λq hq=>by
      simp only[C9,C1]at hq ⊢;rcases hq with e|e|e|e <;> simp[e])
     have hbn:=hA6'.blk (b:=Λ.nb) (t:=3) (cs:=aI T λi=>.int .i64 (V3.nx i:Int)) (by simp[wE,w4E]);have HE6:Hid (∀q,q∈((b9,69,#[.int .i64 O2.k,.int .i64 O2.a,.int .i64 O2.b,.int .i64 O2.c,.int .u64 O2.v])::(rb,73,#[.int .i64 th,.int .i64 dn2,.int .i64 code,.int .u64 word,.bool bit,.bool true,.bool busy,.bool false,.slice Al ll cl])::E:aK)->q.1≠Λ.nb):=λq hq=>by
      rcases C1.1 hq with rfl|hq
      ·exact hbk9.apart hbn (by decide)
      ·rcases C1.1 hq with rfl|hq
       ·exact(HC5.out.fr hf9 (by simp)).apart hbn (by decide)
       ·exact(HEE.out q hq).2.2.2
     obtain⟨gm6,om6,hmA6,e0,e2,e3',e4',e5',e6,e7,e8,en',ep'⟩:=hA6'.gg hA6'.q.2.1 HG.out.2.2;obtain⟨zn,hA7⟩:=hA6'.wNx (t:=t) hSg HG.out.2.1 HE6.out;have hx3:V3.nx t=nx2:=by rw[HX2.out,<- HM5.out.2.1]
     rw[hx3]at en' hA7;obtain⟨w7,hw7⟩:∃w7,w7=wc.setCell ⟨Λ.nb,t,none⟩ (.int .i64 ((nx2:Int)+1)):=⟨_,rfl⟩;rw[<- hw7]at hA7;have HA7:=aa hA7;have HW7:=aa hw7;clear e3 e4 e5 en ep o0 o1 o2 o3 o4 N3 N4 N5 NW5 NR5 y5 y7 hA6 hA6' hbn hA7 hw7 hbk9 hf9 hb9 hx3 e0 e2 e3' e5' e6 e7 e8 ep' hmA6 HA5 HC5;go_upto_region 23 with fail
     rw[<- HW7.out];clear HW7 zn en' e4';obtain⟨gm7,om7,hmA7,e0,e2,e3,e4,e5,e6,e7,e8,en,ep⟩:=HA7.out.gg HA7.out.q.2.1 HG.out.2.2;have hb7:=HA7.out.blk (b:=b9) (t:=69) (cs:=#[.int .i64 O2.k,.int .i64 O2.a,.int .i64 O2.b,.int .i64 O2.c,.int .u64 O2.v]) (by simp);have hc7:=HA7.out.blk (b:=rb) (t:=73) (cs:=#[.int .i64 th,.int .i64 dn2,.int .i64 code,.int .u64 word,.bool bit,.bool true,.bool busy,.bool false,.slice Al ll cl]) (by simp);have o0:w7.cell? ⟨b9,0,none⟩=some (.int .i64 O2.k):=hb7.cell 0;have o1:w7.cell? ⟨b9,1,none⟩=some (.int .i64 O2.a):=hb7.cell 1;have o2:w7.cell? ⟨b9,2,none⟩=some (.int .i64 O2.b):=hb7.cell 2;have o3:w7.cell? ⟨b9,3,none⟩=some (.int .i64 O2.c):=hb7.cell 3;have o4:w7.cell? ⟨b9,4,none⟩=some (.int .u64 O2.v):=hb7.cell 4;have y0:w7.cell? ⟨rb,0,none⟩=some (.int .i64 th):=hc7.cell 0;have y1:w7.cell? ⟨rb,1,none⟩=some (.int .i64 dn2):=hc7.cell 1;have y2:w7.cell? ⟨rb,2,none⟩=some (.int .i64 code):=hc7.cell 2;have y3:w7.cell? ⟨rb,3,none⟩=some (.int .u64 word):=hc7.cell 3;have y4:w7.cell? ⟨rb,4,none⟩=some (.bool bit):=hc7.cell 4;have HDo7:=aa (HDo.out w7.drew _ _ (HA7.out.fr0 hSg (Fr.refl _ _).drew));have HV7:Hid (({ V3 with nx:=ai V3.nx t (nx2+1) }:WS).mu=V2.mu):=HM5.out.1;obtain⟨V7,hV7⟩:∃V7:WS,V7={ V3 with nx:=ai V3.nx t (nx2+1) }:=⟨_,rfl⟩;have HV8:Hid (V7.mu=V2.mu/\V7.nx=ai V2.nx t (nx2+1)/\V7.OV=V2.OV/\V7.OP=V2.OP/\V7.sy=V2.sy/\V7.mg=V2.mg/\V7.dl=V3.dl):=by
      rw[hV7];exact⟨HM5.out.1,by rw[<- HM5.out.2.1],HM5.out.2.2.1,HM5.out.2.2.2.1,HM5.out.2.2.2.2.1,HM5.out.2.2.2.2.2.1,rfl⟩
     rw[<- hV7]at HDo7;have HK:Hid (∀w' Γ' σ' (V8:WS),HM W w' L X' h' x' s k (wE Λ L.hb Γ3.g T V8++((b9,69,#[.int .i64 O2.k,.int .i64 O2.a,.int .i64 O2.b,.int .i64 O2.c,.int .u64 O2.v])::(rb,73,#[.int .i64 th,.int .i64 dn2,.int .i64 code,.int .u64 word,.bool bit,.bool true,.bool busy,.bool false,.slice Al ll cl])::E)) (gD DX Λ Γ' (·<T)) (gQ QX Λ Γ' (·<T) T L.B M σ')->w'.cell? ⟨rb,0,none⟩=some (.int .i64 th)/\w'.cell? ⟨rb,1,none⟩=some (.int .i64 dn2)/\w'.cell? ⟨rb,2,none⟩=some (.int .i64 code)/\w'.cell? ⟨rb,3,none⟩=some (.int .u64 word)/\w'.cell? ⟨rb,4,none⟩=some (.bool bit)/\w'.cell? ⟨b9,0,none⟩=some (.int .i64 O2.k)/\w'.cell? ⟨b9,1,none⟩=some (.int .i64 O2.a)/\w'.cell? ⟨b9,2,none⟩=some (.int .i64 O2.b)/\w'.cell? ⟨b9,3,none⟩=some (.int .i64 O2.c)/\w'.cell? ⟨b9,4,none⟩=some (.int .u64 O2.v)/\w'.cell? ⟨Λ.wb,5,none⟩=some (.pointer (some ⟨Γ3.g,0,none⟩))):=λw' Γ' σ' V8 q=>by
      have q7:=q.blk (b:=b9) (t:=69) (cs:=#[.int .i64 O2.k,.int .i64 O2.a,.int .i64 O2.b,.int .i64 O2.c,.int .u64 O2.v]) (by simp);have r7:=q.blk (b:=rb) (t:=73) (cs:=#[.int .i64 th,.int .i64 dn2,.int .i64 code,.int .u64 word,.bool bit,.bool true,.bool busy,.bool false,.slice Al ll cl]) (by simp);have s7:=q.blk (b:=Λ.wb) (t:=37) (cs:=wdV L.hb Λ.sb Λ.mA T Λ.mc Λ.pb Λ.nb T Γ3.g V8.dl V8.wn V8.sy) (by simp[wE,w4E]);exact⟨r7.cell 0,r7.cell 1,r7.cell 2,r7.cell 3,r7.cell 4,q7.cell 0,q7.cell 1,q7.cell 2,q7.cell 3,q7.cell 4,s7.cell 5⟩
     have HFn:Hid (∀w9 tg',HM W w9 L X' h' x' s k (wE Λ L.hb Γ3.g T V7++((b9,69,#[.int .i64 O2.k,.int .i64 O2.a,.int .i64 O2.b,.int .i64 O2.c,.int .u64 O2.v])::(rb,73,#[.int .i64 th,.int .i64 dn2,.int .i64 code,.int .u64 word,.bool bit,.bool true,.bool busy,.bool false,.slice Al ll cl])::E)) (gD DX Λ (Γ3.tags tg') (·<T)) (gQ QX Λ (Γ3.tags tg') (·<T) T L.B M (aM L.B M T (σ.tick t) t O2))->Dj DX Λ (Γ3.tags tg') T ->
       WSP W L h s k E DX QX Λ Γ t M T V σ A Ops On Nt (.returned (.bool true)) w9):=λw9 tg' hA9 hD9=>by
      obtain⟨v1,v2,v3,v4,v5,v6,v7⟩:=HV8.out;obtain⟨p1,p2⟩:=HF.out V7 (Γ3.tags tg') v1 v2 v3 v4 v5 v6 (v7.trans HM5.out.2.2.2.2.2.2.1) HM5.out.2.2.2.2.2.2.2 hD9;exact⟨rfl,X',h',x',V7,_,A',rv',Γ3.tags tg',hA9.sub (λq hq=>by
       simp only[C9,C1]at hq ⊢;rcases hq with e|e
       ·exact .inl e
       ·exact .inr (.inr (.inr e))),p1,p2⟩
     clear hV7 HV7 HDo hb7 hc7 e0 e2 e3 e4 e6 e7 e8 en ep hmA7 HA7;go_cut [4] from 153 to 162 (λp wx=>p=.bool true/\WSP W L h s k E DX QX Λ Γ t M T V σ A Ops On Nt (.returned (.bool true)) wx)
     case first=>
      go_region_held3 (λw'=>w'.cell? ⟨rb,0,none⟩=some (.int .i64 th)/\w'.cell? ⟨rb,1,none⟩=some (.int .i64 dn2)/\w'.cell? ⟨rb,2,none⟩=some (.int .i64 code)/\w'.cell? ⟨rb,3,none⟩=some (.int .u64 word)/\w'.cell? ⟨rb,4,none⟩=some (.bool bit)/\w'.cell? ⟨b9,0,none⟩=some (.int .i64 O2.k)/\w'.cell? ⟨b9,1,none⟩=some (.int .i64 O2.a)/\w'.cell? ⟨b9,2,none⟩=some (.int .i64 O2.b)/\w'.cell? ⟨b9,3,none⟩=some (.int .i64 O2.c)/\w'.cell? ⟨b9,4,none⟩=some (.int .u64 O2.v)/\w'.cell? ⟨Λ.wb,5,none⟩=some (.pointer (some ⟨Γ3.g,0,none⟩)))
       (first|exact⟨y0,y1,y2,y3,y4,o0,o1,o2,o3,o4,e5⟩|exact HK9.out|go_keep)
       (first|(go_at_call 25;refine HDo7.out.mono ?_;rintro e w9 ⟨rfl,tg',hA9,hD9⟩;have HK9:=aa (HK.out _ _ _ _ hA9);have HFin:=aa (HFn.out _ _ hA9 hD9)))
      all_goals
       go_wp2_with fail
       go_meet
       case rel=>exact⟨rfl,HFin.out⟩
     case rest=>
      obtain⟨rfl,hP⟩:=hcut;go_wp2_with fail
      go_ret
      exact hP
end
end Go.Proofs.YtimlkjppaalfaaaGreatDoor
