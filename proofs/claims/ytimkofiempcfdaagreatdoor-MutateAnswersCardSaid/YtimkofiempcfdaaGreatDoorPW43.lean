/- Several texts joined (pack.py): Zv Yr Yy Vp Hh. -/
import Derived.Test.YtimkofiempcfdaaGreatDoorPW42
import Derived.Test.YtimkofiempcfdaaGreatDoorPW09
import Derived.Test.YtimkofiempcfdaaGreatDoorPW20
import Derived.Test.YtimkofiempcfdaaGreatDoorPW17
import Derived.Test.YtimkofiempcfdaaGreatDoorPW19
import Derived.Test.YtimkofiempcfdaaGreatDoorPW14
import Derived.Test.YtimkofiempcfdaaGreatDoorProg
import Derived.Test.YtimkofiempcfdaaGreatDoorPW00
import Derived.WalkKit
import Derived.BigQuiet
import Derived.Test.YtimkofiempcfdaaGreatDoorPW18
import Derived.Test.YtimkofiempcfdaaGreatDoorPW32
set_option linter.unusedVariables false
set_option linter.unusedSimpArgs false
set_option maxHeartbeats 3200000
set_option maxRecDepth 100000
open List renaming mem_cons->D5
open Int renaming eq_ofNat_of_zero_le->Ed
open Nat renaming lt_of_lt_of_le->Ef,le_refl->Eg,zero_le->Ei,lt_or_ge->Ej
namespace Go.Proofs.YtimkofiempcfdaaGreatDoor
open Go.RowKit Go.Gl HS
def jc(on:Nat)(zn:Nat->Nat)(f:Nat->Nat->Po)(i j:Nat):Po:=if i<on/\j<zn i then f i j else ⟨0,0,0,0,0⟩
def pE(on:Nat)(zn:Nat->Nat)(i:Nat):Nat:=if i<on then (if zn i<60 then zn i else 60) else 0
def V15(on:Nat)(zA:Nat->Option Addr)(zn zc:Nat->Nat):WS:={ WS.new with OP:=gN on zA zn zc }
def Γ15(g:Nat)(tg:TG):WG:=⟨g,tg,none,0,[],[],λ_=>none,λ_=>0,λ_=>0,λ_=>[],λ_=>[],λ_=>0⟩
def rq(w:World)(c:Cfg)(on:Nat)(zA:Nat->Option Addr)(zn zc:Nat->Nat)(f:Nat->Nat->Po)(e:Ending)(w':World):Prop:=
 (e=.returned (.tuple #[.pointer none,.bool true])/\Fr [] w w') \/
 ∃(T M g s k:Nat) (tg:TG) (L:HL) (X:HX) (Λ:WL) (h:HS) (x:HT),e=.returned (.tuple #[.pointer (some ⟨Λ.wb,0,none⟩),.bool true])/\c.threads=(T:Int)/\1<=T/\T<=64 /\
  HM w w' L X h x s k (wE Λ L.hb (Γ15 g tg).g T (V15 on zA zn zc)++[]) (gD (λ_=>False) Λ (Γ15 g tg) (·<T)) (gQ (λ_=>True) Λ (Γ15 g tg) (·<T) T L.B M G0) /\
  WP w L.B h x (λ_=>False) Λ (Γ15 g tg) M T (V15 on zA zn zc) G0 (λ_=>0) (λ_=>none) (jc on zn f) (pE on zn) True
theorem BH{Λ:WL}{hb g T:Nat}{on:Nat}{zA:Nat->Option Addr}{zn zc:Nat->Nat}:∀q,q∈wE Λ hb g T (V15 on zA zn zc)->q∈ovO Λ hb g T T (gN on zA zn zc):=λq hq=>by
 simp only[wE,w4E,D5,List.mem_append,List.mem_map,List.not_mem_nil,or_false]at hq;simp only[ovO,D5,List.mem_map];rcases hq with e|(e|e|e|e)|⟨i,hi,e⟩
 ·exact .inr (.inr (.inl e))
 ·exact .inl e
 ·exact .inr (.inl e)
 ·exact .inr (.inr (.inr (.inl e)))
 ·exact .inr (.inr (.inr (.inr (.inl e))))
 ·exact .inr (.inr (.inr (.inr (.inr ⟨i,hi,e⟩))))
theorem Ah{g:Geo}{W R n T:Nat}:Sim (HSn g W R n T) G0 (λ_=>0) (λ_=>none):=by
 have no:∀o:Nat,1<=o->o<=G0.N->False:=λo h1 h2=>by
  have h2:o<=0:=h2;omega
 have nu:∀u,¬ (HSn g W R n T).Used u:=λu hu=>hu.2.1 rfl;refine⟨⟨λi hi hb=>?_,λi j hi hj hne hb=>?_⟩,λi hi=>rfl,λo h1 h2=>(no o h1 h2).elim,λo h1 h2=>(no o h1 h2).elim,λo h1 h2=>(no o h1 h2).elim,λo h1 h2=>(no o h1 h2).elim,λo h1 h2=>(no o h1 h2).elim,λo p h1 h2=>(no o h1 h2).elim,
  λi hi a z e=>(by cases e),λi hi a z e=>(by cases e),λi hi a z e=>(by cases e),λi j hi hj hne a z b y e=>(by cases e),[],⟨λa z P hm=>(by cases hm),λa z P hm=>(by cases hm),λa z P hm=>(by cases hm),λa z P hm=>(by cases hm),λa z P b y Q hm=>(by cases hm),λa z P hm=>(by cases hm),
  λo h1 h2=>(no o h1 h2).elim,λi hi a z e=>(by cases e),λu hu=>(nu u hu).elim,λr hr h4=>?_⟩⟩
 ·have hb:(0:Int)<0:=hb;omega
 ·have hb:(0:Int)<0:=hb;omega
 ·have h4:(0:Int)=4:=h4;omega
theorem BI{w w':World}{L:HL}{X:HX}{c:Cfg}{W0 R C P qm s k T B M g:Nat}{tg:TG}{Λ:WL}{on:Nat}{oA:Option Addr}{zA:Nat->Option Addr}{zn zc:Nat->Nat}{f:Nat->Nat->Po}(hT:Tab w)(ok:zI c W0 R C P T B qm s k)(hM:c.geo.max=(M:Int))(hM1:1<=M)(hM2:M<=1048576)
  (hB:L.B=B) (hO:kC w oA on zA zn zc f) (hwf:∀i j,i<on->j<zn i->dB (f i j)/\0<=(f i j).v/\(f i j).v<18446744073709551616)
  (H:OvO w w' L X (HSn c.geo W0 R (R*W0) T) (HTn C P R qm (R*W0)) s k [] (λb=>(tg b).1≠0) (λw=>MAt w tg g T B M G0) g T Λ (gN on zA zn zc)) :
  rq w c on zA zn zc f (.returned (.tuple #[.pointer (some ⟨Λ.wb,0,none⟩),.bool true])) w':=by
 subst hB;obtain⟨H,h2,-⟩:=H;have z0:dB ⟨0,0,0,0,0⟩:=⟨⟨by decide,by decide⟩,⟨by decide,by decide⟩⟩;have H1:=H.sub (E':=wE Λ L.hb g T (V15 on zA zn zc)++[]) (λq hq=>by
  rw[List.append_nil]at hq ⊢;exact BH q hq)
 have hw0:∀c:Nat,bC (HTn C P R qm (R*W0)).C c=false:=λc=>mP _ _;have hl0:∀T,gK (HTn C P R qm (R*W0)) T=[]:=λT=>by
  show []++j9 (λ_=>[]) T=[];rw[nA (λ_ _=>rfl)];rfl
 refine .inr ⟨T,M,g,s,k,tg,L,X,Λ,_,_,rfl,ok.th,ok.t1,ok.t2,H1.re hT (λb hb=>?_) ⟨trivial,H.q.1,Lr.nil _ _,H.q.2,λi _=>Lr.nil _ _⟩,?_⟩
 ·rcases hb with hb|hb|hb|hb|⟨i,_,hb⟩
  ·exact hb.elim
  ·exact .inl hb
  ·cases hb
  ·exact .inr hb
  ·cases hb
 ·refine⟨⟨λb hb=>hb.elim,λb hb=>⟨λhx=>(by cases hx),?_,λi _ hx=>(by cases hx)⟩,λb hb=>(by cases hb),λb _ i _ hx=>(by cases hx),λi j _ _ _ b hb=>(by cases hb)⟩,
   ⟨Ah,GOk.zero _ _,rfl,λi _=>.inl ⟨rfl,rfl⟩,⟨ok.t1,ok.t2,ok.q2,Ei _,λi _=>Ei _⟩,λi _ h0=>absurd rfl h0,ok.b2,hM,hM2⟩,⟨ok.t2,ok.b2,hM1,hM2⟩,rfl,λi _=>rfl,λi hi=>?_,λi j=>?_,λi=>?_,λi _=>Ei _,λi _ h0=>absurd rfl h0,λi _=>rfl,λi _=>Ei _,Ei _,λi _=>Ei _,λi _=>Ei _,Ei _,λ_=>⟨λo j h1 h2=>?_,λz=>?_,λc _=>?_,λz hz=>?_⟩⟩
  ·by_cases e:(tg b).1=0
   ·exact e
   ·exact absurd e (h2 b hb)
  ·show jN w (gN on zA zn zc i) (pE on zn i) (jc on zn f i);unfold gN pE;by_cases e:i<on
   ·rw[if_pos e,if_pos e];obtain⟨A,c0,e1,e2⟩:=hO.ops i e;injection e1 with e1 e3 e4;subst e1 e4;refine⟨_,_,rfl,λhp=>?_⟩;have hle:(if zn i<60 then zn i else 60)<=zn i:=by split <;> omega
    obtain⟨b,off,e5,e6,e7⟩:=e2 (by omega);refine⟨b,off,e5,e6,λj hj=>?_⟩;have:jc on zn f i j=f i j:=by unfold jc;rw[if_pos ⟨e,by omega⟩]
    rw[this];exact e7 j (by omega)
   ·rw[if_neg e,if_neg e];exact⟨none,0,rfl,λhp=>absurd hp (by omega)⟩
  ·unfold jc;split
   ·rename_i e
    exact hwf i j e.1 e.2
   ·exact⟨z0,by decide,by decide⟩
  ·unfold pE;split
   ·split <;> omega
   ·omega
  ·have h2:o<=0:=h2;omega
  ·rw[hl0];simp[Γ15]
  ·rw[hl0,hw0];simp[Γ15]
  ·rw[hl0]at hz;simp[Γ15]at hz
theorem wg(c:Cfg)(w:World)(hT:Tab w){oA:Option Addr}{on oc:Nat}{zA:Nat->Option Addr}{zn zc:Nat->Nat}{f:Nat->Nat->Po}(hO:kC w oA on zA zn zc f)(hwf:∀i j,i<on->j<zn i->dB (f i j)/\0<=(f i j).v/\(f i j).v<18446744073709551616) :
  Calls Tryz.prog 8 #[c.val,.slice oA on oc] w (rq w c on zA zn zc f):=by
 have HT:=aa hT;have HOI:=aa hO;have HWf:=aa hwf;clear hT hO hwf;by_cases hm:ig c=false
 ·have HG:Hid (∀w',Calls Tryz.prog 28 #[c.val] w' λe w''=>e=.returned (.tuple #[.agg #[.int .i64 0,.int .i64 0,.int .i64 0,.int .i64 0,.int .i64 0,.int .i64 0],.int .i64 20])/\Fr [] w' w''):=λw'=>(kQ c w').mono λe w'' ⟨h1,h2⟩=>⟨by rw[h1];unfold Cfg.ans Cfg.err;rw[hm];rfl,h2⟩;have HP:Hid (∀w',Fr [] w w'->rq w c on zA zn zc f (.returned (.tuple #[.pointer none,.bool true])) w'):=λw' hf=>.inl ⟨rfl,hf⟩;unfold Cfg.val at HG ⊢;generalize rq w c on zA zn zc f=Post at *;clear hm;go_enter Tryz.func8,Tryz.ntmps8
  go_wp2_with fail
  refine(HG.out _).mono ?_;rintro e w2 ⟨rfl,hf⟩;have HF2:Hid (Fr [] w w2):=((Fr.refl _ _).alloc _).af hf;clear hf;go_wp2_with fail
  exact HP.out _ (HF2.out.alloc _)
 ·have hm:ig c=true:=by simpa using hm
  obtain⟨W0,R,C,P,T,B,qm,s,k,ok⟩:=zJ hm;obtain⟨M,hM,hM1,hM2⟩:=Af ok.ok;have HG:Hid (∀w',Calls Tryz.prog 28 #[c.val] w' λe w''=>e=.returned (.tuple #[c.geo.val,.int .i64 0])/\Fr [] w' w''):=λw'=>(kQ c w').mono λe w'' ⟨h1,h2⟩=>⟨by rw[h1];unfold Cfg.ans Cfg.err;rw[hm];rfl,h2⟩;have HN:Hid (∀w',Tab w'->Calls Tryz.prog 22 #[c.val] w' (kv w' c c.geo W0 R (R*W0) T C P qm B s k)):=λw' hT=>lH hm ok w' hT;have HR:Hid (∀w',Calls Tryz.prog 29 #[.int .i64 (T:Int),.int .i64 (B:Int),.int .i64 (M:Int)] w' (BF w' T B M)):=λw'=>zT T B M ok.t1 ok.b1 ⟨ok.t2,ok.b2,hM1,hM2⟩ w';have HP1:Hid (∀w',Fr [] w w'->rq w c on zA zn zc f (.returned (.tuple #[.pointer none,.bool true])) w'):=λw' hf=>.inl ⟨rfl,hf⟩;have HP2:Hid (∀w' g tg L X Λ,L.B=B->OvO w w' L X (HSn c.geo W0 R (R*W0) T) (HTn C P R qm (R*W0)) s k [] (λb=>(tg b).1≠0) (λw=>MAt w tg g T B M G0) g T Λ (gN on zA zn zc)->rq w c on zA zn zc f (.returned (.tuple #[.pointer (some ⟨Λ.wb,0,none⟩),.bool true])) w'):=λw' g tg L X Λ hLB hO=>BI HT.out ok hM hM1 hM2 hLB HOI.out HWf.out hO;have hth:=aa ok.th;have hro:=aa ok.ro;obtain⟨h0,hh0⟩:∃h0,h0=HSn c.geo W0 R (R*W0) T:=⟨_,rfl⟩;have HT0:Hid (h0.T=T):=by rw[hh0];rfl
  have HH0:=aa hh0;rw[<- hh0]at HP2;obtain⟨g,hg⟩:∃g,g=c.geo:=⟨_,rfl⟩;rw[<- hg]at HG HN hM;have HGg:=aa hg;have HM0:=aa hM;generalize rq w c on zA zn zc f=Post at *;have HBC:=aa (Blk.new w 23 c.cells);clear hm ok hg hh0 hM;unfold Cfg.val at HG HN ⊢;unfold Geo.val at HG;go_enter Tryz.func8,Tryz.ntmps8
  go_wp2_with fail
  refine(HG.out _).mono ?_;rintro e w2 ⟨rfl,hf⟩;have HF2:Hid (Fr [] w w2):=((Fr.refl _ _).alloc _).af hf;have HB2:=aa (HBC.out.fr hf (by simp));have HGB:Hid (Blk (w2.alloc (.cells #[.int .i64 g.words,.int .i64 g.rw,.int .i64 g.cw,.int .i64 g.regions,.int .i64 g.aG,.int .i64 g.max] 40)) w2.heap.size 40 g.cells):=Blk.new _ _ _;obtain⟨a0,a1,a2,a3,a4,a5,a6,a7,a8,a9,a10,a11,a12,a13⟩:=mT.of HB2.out;have N0:w.heap.size<w2.heap.size:=ae a0;clear hf HBC;by_cases hbig:g.words>8192
  ·have hb1:decide (g.words>8192)=true:=by simpa using hbig
   have hb2:decide (8192<g.words)=true:=by simpa using hbig
   go_wp2_with fail
   exact HP1.out _ (HF2.out.alloc _)
  ·have hb1:decide (g.words>8192)=false:=by simpa using hbig
   have hb2:decide (8192<g.words)=false:=by simpa using hbig
   go_wp2_with fail
   refine(HN.out _ ((HT.out.fr HF2.out (by simp)).alloc _)).mono ?_;intro e w4 hP;obtain⟨L,X,own,rfl,hH,hB,hcf,hf,hown⟩:=hP.at (HF2.out.alloc _);rw[HGg.out,<- HH0.out]at hH;have HM4:=aa (HM.of0 hH);have HLB:=aa hB;have HF4:Hid (Fr [] w w4):=HM4.out.fr;have HB4:=(HB2.out.alloc (.cells #[.int .i64 g.words,.int .i64 g.rw,.int .i64 g.cw,.int .i64 g.regions,.int .i64 g.aG,.int .i64 g.max] 40)).fr hf (by simp);have HG4:=HGB.out.fr hf (by simp);have e3:w4.cell? ⟨w.heap.size,3,none⟩=some (.int .i64 (T:Int)):=by rw[<- hth.out];exact HB4.cell 3
   have e4:w4.cell? ⟨w.heap.size,4,none⟩=some (.int .i64 (B:Int)):=by rw[<- hro.out];exact HB4.cell 4
   have e5:w4.cell? ⟨w2.heap.size,5,none⟩=some (.int .i64 (M:Int)):=by rw[<- HM0.out];exact HG4.cell 5
   clear hP hH hB hcf hf hown HB4 HG4 HN HG HB2 HF2 a0 a1 a2 a3 a4 a5 a6 a7 a8 a9 a10 a11 a12 a13;go_wp2_with fail
   refine(HR.out _).mono ?_;intro e w5 hR;unfold BF at hR;obtain⟨gb,tg,rfl,hq,hf5,hn5⟩:=hR;have hM5:HM w w5 L X h0 _ s k [] (λb=>(tg b).1≠0) (λw=>MAt w tg gb T B M G0):=HM4.out.live HT.out (F:=[]) hf5 (λb hb=>by cases hb) (λb hb=>.inr (hn5 b hb)) hq;have HOv:=aa (yz (oc:=oc) (yu tg gb T B M G0) HT.out hM5 gb HOI.out);clear hq hf5 hn5 hM5 HR HM4 e3 e4 e5;go_wp2_with fail
   refine HOv.out.mono ?_;rintro e w6 ⟨Λ,rfl,hO⟩;rw[HT0.out]at hO;have HO6:=aa hO;clear hO HOv;go_wp2_with fail
   exact HP2.out _ _ _ _ _ _ HLB.out HO6.out
open Go.RowKit Go.Gl
structure cC(σ τ:GS)(T:Nat)(φ:Int->Int):Prop where
 zero:φ 0=0
 inj:∀a b,0<=a->a<=(σ.N:Int)->0<=b->b<=(σ.N:Int)->φ a=φ b->a=b
 st:∀t,t<T->τ.st t=(σ.st t).map φ
 np:∀r,1<=r->r<=(σ.N:Int)->τ.np (φ r)=σ.np r
 nw:∀r,1<=r->r<=(σ.N:Int)->τ.nw (φ r)=σ.nw r
 ref:∀r,1<=r->r<=(σ.N:Int)->∀j:Nat,j<σ.np r->τ.ref (φ r) (j:Int)=φ (σ.ref r (j:Int))
 dat:∀r,1<=r->r<=(σ.N:Int)->∀j:Nat,j<σ.nw r->τ.dat (φ r) (j:Int)=σ.dat r (j:Int)
section
variable {σ τ:GS}{T:Nat}{φ:Int->Int}
def InN(σ:GS)(r:Int):Prop:=0<=r/\r<=(σ.N:Int)
theorem cC.eq0(h:cC σ τ T φ){r:Int}(hr:InN σ r):φ r=0↔r=0:=by
 constructor
 ·intro e;exact h.inj r 0 hr.1 hr.2 (Int.le_refl _) (by omega) (e.trans h.zero.symm)
 ·intro e;rw[e];exact h.zero
theorem cC.mem(h:cC σ τ T φ){r:Int}(hr:InN σ r){L:List Int}(hL:∀x,x∈L->InN σ x):φ r∈L.map φ↔r∈L:=by
 constructor
 ·intro hm;obtain⟨x,hx,e⟩:=List.mem_map.1 hm;obtain rfl:=h.inj x r (hL x hx).1 (hL x hx).2 hr.1 hr.2 e;exact hx
 ·intro hm;exact List.mem_map.2 ⟨r,hm,rfl⟩
theorem cC.visit(h:cC σ τ T φ){r:Int}(hr:InN σ r){L:List Int}(hL:∀x,x∈L->InN σ x):visit (L.map φ) (φ r)=(visit L r).map φ:=by
 unfold Go.Proofs.YtimkofiempcfdaaGreatDoor.visit;by_cases e:r=0\/r∈L
 ·rw[if_pos e,if_pos];rcases e with e|e
  ·exact .inl ((h.eq0 hr).2 e)
  ·exact .inr ((h.mem hr hL).2 e)
 ·rw[if_neg e,if_neg]
  ·simp
  ·rintro(e2|e2)
   ·exact e (.inl ((h.eq0 hr).1 e2))
   ·exact e (.inr ((h.mem hr hL).1 e2))
theorem cC.av(h:cC σ τ T φ):∀(l:List Int) {L:List Int},(∀x,x∈l->InN σ x)->(∀x,x∈L->InN σ x)->av (L.map φ) (l.map φ)=(av L l).map φ
|[],L,_,_=>rfl
|a::l,L,hl,hL=>by
  rw[List.map_cons,iz,iz,h.visit (hl a (by simp)) hL];refine h.av l (λx hx=>hl x (by simp[hx])) (λx hx=>?_);rw[jV]at hx;rcases hx with hx|⟨rfl,_⟩
  ·exact hL x hx
  ·exact hl _ (by simp)
theorem cC.kids(h:cC σ τ T φ){r:Int}(h1:1<=r)(h2:r<=(σ.N:Int)):kids τ (φ r)=(kids σ r).map φ:=by
 unfold Go.Proofs.YtimkofiempcfdaaGreatDoor.kids;rw[h.np r h1 h2,List.map_map];refine List.map_congr_left λj hj=>?_;exact h.ref r h1 h2 j (List.mem_range.1 hj)
theorem cC.bp(h:cC σ τ T φ){r:Int}(h1:1<=r)(h2:r<=(σ.N:Int)):bp τ (φ r)=bp σ r:=by
 unfold Go.Proofs.YtimkofiempcfdaaGreatDoor.bp;rw[h.nw r h1 h2];refine List.map_congr_left λj hj=>?_;exact h.dat r h1 h2 j (List.mem_range.1 hj)
theorem cC.roots(h:cC σ τ T φ):∀n,n<=T->aP τ n=(aP σ n).map φ
|0,_=>rfl
|n+1,hn=>by rw[cu,cu,h.roots n (by omega),h.st n (by omega),List.map_append]
theorem GIn.roots(ok:GIn σ){r:Int}(h:r∈aP σ T):InN σ r:=by
 obtain⟨t,_,ht⟩:=fN.1 h;exact ok.mem t r ht
theorem GIn.kids(ok:GIn σ){r x:Int}(h:x∈kids σ r):InN σ x:=by
 obtain⟨j,_,rfl⟩:=jB.1 h;exact ok.ref r j
theorem cC.bfs(h:cC σ τ T φ)(ok:GIn σ):∀n,bfs τ T n=(bfs σ T n).map φ
|0=>by
  show Go.Proofs.YtimkofiempcfdaaGreatDoor.av [] (aP τ T)=(Go.Proofs.YtimkofiempcfdaaGreatDoor.av [] (aP σ T)).map φ;rw[h.roots T (Eg _)];exact h.av _ (L:=[]) (λx hx=>ok.roots hx) (λx hx=>by cases hx)
|n+1=>by
  have ih:=h.bfs ok n;rcases Ej n (Go.Proofs.YtimkofiempcfdaaGreatDoor.bfs σ T n).length with hl|hl
  ·have e1:=List.getElem?_eq_getElem hl;have hin:=iP (T:=T) ok n _ (List.getElem_mem hl);have e2:(Go.Proofs.YtimkofiempcfdaaGreatDoor.bfs τ T n)[n]?=some (φ ((Go.Proofs.YtimkofiempcfdaaGreatDoor.bfs σ T n)[n]'hl)):=by
    rw[ih,List.getElem?_map,e1];rfl
   rw[dq σ T e1,dq τ T e2,ih,h.kids hin.1 hin.2];refine h.av _ (λx hx=>ok.kids hx) (λx hx=>?_);have:=iP ok n x hx;exact⟨by omega,this.2⟩
  ·rw[ey σ T hl,ey τ T (by rw[ih,List.length_map];exact hl),ih]
theorem cC.order(h:cC σ τ T φ)(ok:GIn σ)(ok':GIn τ):order τ T=(order σ T).map φ:=by
 have h1:=iA (T:=T) ok (σ.N+τ.N);have h2:=iA (T:=T) ok' (σ.N+τ.N);rw[lF ok (n:=σ.N+τ.N) (by omega),lF ok' (n:=σ.N+τ.N) (by omega),h.bfs ok]
theorem uq(h:cC σ τ T φ){r:Int}(hr:InN σ r):∀ {L:List Int},(∀x,x∈L->InN σ x)->(L.map φ).idxOf (φ r)=L.idxOf r
|[],_=>rfl
|a::l,hL=>by
  have ih:=uq h hr (L:=l) (λx hx=>hL x (by simp[hx]));rw[List.map_cons,List.idxOf_cons,List.idxOf_cons,ih];have e:(φ a==φ r)=(a==r):=by
   by_cases e:a=r
   ·subst e;simp
   ·have e2:φ a≠φ r:=λe2=>e (h.inj a r (hL a (by simp)).1 (hL a (by simp)).2 hr.1 hr.2 e2);rw[beq_eq_false_iff_ne.2 e,beq_eq_false_iff_ne.2 e2]
  rw[e]
theorem cC.num(h:cC σ τ T φ){r:Int}(hr:InN σ r){L:List Int}(hL:∀x,x∈L->InN σ x):num (L.map φ) (φ r)=num L r:=by
 unfold Go.Proofs.YtimkofiempcfdaaGreatDoor.num;by_cases e:r∈L
 ·rw[if_pos e,if_pos ((h.mem hr hL).2 e),uq h hr hL]
 ·rw[if_neg e,if_neg (λe2=>e ((h.mem hr hL).1 e2))]
theorem cC.shape(h:cC σ τ T φ)(ok:GIn σ)(ok':GIn τ):shape τ T=shape σ T:=by
 have hO:∀x,x∈Go.Proofs.YtimkofiempcfdaaGreatDoor.order σ T->InN σ x:=λx hx=>by
  have:=j8 ok hx;exact⟨by omega,this.2⟩
 have hnum:∀l:List Int,(∀x,x∈l->InN σ x)->(l.map φ).map (Go.Proofs.YtimkofiempcfdaaGreatDoor.num ((Go.Proofs.YtimkofiempcfdaaGreatDoor.order σ T).map φ))=l.map (Go.Proofs.YtimkofiempcfdaaGreatDoor.num (Go.Proofs.YtimkofiempcfdaaGreatDoor.order σ T)):=λl hl=>by
  rw[List.map_map];exact List.map_congr_left λx hx=>h.num (hl x hx) hO
 unfold Go.Proofs.YtimkofiempcfdaaGreatDoor.shape;rw[h.order ok ok']
 congr 1
 ·refine jE λt ht=>?_;unfold bh;rw[h.st t (List.mem_range.1 ht),List.length_map,hnum _ (λx hx=>ok.mem t x hx)]
 ·rw[List.flatMap_map];refine jE λr hr=>?_;have hin:=j8 ok hr;unfold bS;rw[h.np r hin.1 hin.2,h.nw r hin.1 hin.2,h.kids hin.1 hin.2,h.bp hin.1 hin.2,hnum _ (λx hx=>ok.kids hx)]
end
def gO(σ:GS)(A:Nat->Nat)(Zs:List (Nat×Nat×Nat))(a z P:Nat):Prop:=(∃o,1<=o/\o<=σ.N/\a=A o/\z=osz σ o/\P=σ.np (o:Int))\/(a,z,P)∈Zs
section
variable {h:HS}{σ:GS}{A:Nat->Nat}{rv:Nat->Option (Nat×Nat)}{s k:Nat}{Zs:List (Nat×Nat×Nat)}{a z P b y Q r u:Nat}
theorem yA(hf:h.f a=aX z P)(hz:1<=z)(hzm:z<=1048576)(hp:P<z)(hin:a+z<=h.n):dN h a z P:=by
 have of:=oe (s:=z) (p:=P) ⟨hz,hzm⟩ hp;have hat:=pT (n:=h.n) (f:=h.f) (k:=a) (by omega);rw[hf,of]at hat;exact⟨by omega,by rw[hf,of];exact hat.1.symm,hat.2.trans rfl,by rw[hat.1];rfl,by rw[hat.1];rfl,by rw[hat.1];rfl,hz,hzm,hp,hin⟩
theorem Sim.l6(S:Sim h σ A rv)(m:ib h σ A rv Zs)(t:gO σ A Zs a z P):h.f a=aX z P/\P<z/\z<=1048576:=by
 rcases t with⟨o,h1,h2,rfl,rfl,rfl⟩|t
 ·exact⟨S.hdr o h1 h2,by unfold osz;omega,S.zm o h1 h2⟩
 ·obtain⟨k1,k2,k3,-⟩:=m.hdr a z P t;exact⟨k1,k2,k3⟩
theorem Sim.tH(S:Sim h σ A rv)(m:ib h σ A rv Zs)(t:gO σ A Zs a z P):∀u,a<=u->u<a+z->h.Used u:=by
 rcases t with⟨o,h1,h2,rfl,rfl,rfl⟩|t
 ·exact S.use o h1 h2
 ·exact m.use a z P t
theorem Sim.yB(S:Sim h σ A rv)(m:ib h σ A rv Zs)(t:gO σ A Zs a z P)(t':gO σ A Zs b y Q)(h1:a<=u)(h2:u<a+z)(h3:b<=u)(h4:u<b+y):a=b/\z=y/\P=Q:=by
 rcases t with⟨o,o1,o2,rfl,rfl,rfl⟩|t
 ·rcases t' with⟨p,p1,p2,rfl,rfl,rfl⟩|t'
  ·have:=S.dis o p o1 o2 p1 p2 u h1 h2 h3 h4;subst this;exact⟨rfl,rfl,rfl⟩
  ·exact absurd ⟨h1,h2⟩ (m.dis b y Q t' o o1 o2 u h3 h4)
 ·rcases t' with⟨p,p1,p2,rfl,rfl,rfl⟩|t'
  ·exact absurd ⟨h3,h4⟩ (m.dis a z P t p p1 p2 u h1 h2)
  ·exact m.one a z P b y Q t t' u h1 h2 h3 h4
theorem Sim.jP(S:Sim h σ A rv)(m:ib h σ A rv Zs)(t:gO σ A Zs a z P):h.mq a z:=by
 rcases t with⟨o,h1,h2,rfl,rfl,rfl⟩|t
 ·exact m.lo o h1 h2
 ·exact m.lz a z P t
theorem ib.yC(m:ib h σ A rv Zs)(hr:∀i,i<h.T->rv i=none)(hu:h.Used u):∃a z P,gO σ A Zs a z P/\a<=u/\u<a+z:=by
 rcases m.cov u hu with⟨o,h1,h2,h3,h4⟩|⟨a,z,P,h1,h2⟩|⟨i,a,z,h1,h2,h3⟩
 ·exact⟨_,_,_,.inl ⟨o,h1,h2,rfl,rfl,rfl⟩,h3,h4⟩
 ·exact⟨a,z,P,.inr h1,h2⟩
 ·rw[hr i h1]at h2;cases h2
theorem Sim.pF(S:Sim h σ A rv)(m:ib h σ A rv Zs)(t:gO σ A Zs a z P):dN h a z P:=by
 obtain⟨k1,k2,k3⟩:=S.l6 m t;have:=(S.tH m t (a+z-1) (by omega) (by omega)).1;exact yA k1 (by omega) k3 k2 (by omega)
theorem Sim.cP(S:Sim h σ A rv)(ok:h.Ok s k)(hr:r<h.R)(hs:h.s r≠0):∃e:Nat,h.cP r=(e:Int)/\r*h.W<=e/\e<=r*h.W+h.W/\∀u,r*h.W<=u->u<r*h.W+h.W->(h.Used u↔u<e):=by
 have hW:=ok.iW;have hb:=ok.cv hr;obtain⟨k1,k2⟩:=qE ok hr;obtain⟨e,he⟩:=Ed (show 0<=h.cP r by omega);refine⟨e,he,by omega,by omega,λu u1 u2=>?_⟩;have er:u / h.W=r:=eM (by omega) u1 u2;by_cases hl:h.bl (r:Int) h.T=[]
 ·have hE:h.cP r=h.t r:=by unfold HS.cP;rw[if_pos hl]
  rw[he]at hE;constructor
  ·intro hu;have:=hu.2.2.1;rw[er]at this;omega
  ·intro hu;refine⟨by omega,by rw[er];exact hs,by rw[er];omega,λi hi hx=>?_⟩;obtain⟨q,q1,q2,q3,q4,q5⟩:=S.buf.reg i hi (by omega);have e2:u / h.W=q:=eM (by omega) (by omega) (by omega);have e3:=ok.reg (a:=h.bx i) q1 q3 (by omega);have:=nO (h:=h) (r:=(r:Int)) (i:=i) (by omega) (by rw[e3];omega) hi;rw[hl]at this;cases this
 ·have hE:h.cP r=HS.fH (h.bl (r:Int) h.T):=by unfold HS.cP;rw[if_neg hl]
  obtain⟨i,hi,i1,i2,i3⟩:=lN (vr hl);rw[<- hE,he]at i1;obtain⟨q,q1,q2,q3,q4,q5⟩:=S.buf.reg i hi i2;have e3:=ok.reg (a:=h.bx i) q1 q3 (by omega);obtain rfl:q=r:=by omega
  constructor
  ·intro hu;have h1:=hu.2.2.2 i hi;omega
  ·intro hu;refine⟨by omega,by rw[er];exact hs,by rw[er,q5];omega,λj hj hx=>?_⟩;obtain⟨q',p1,p2,p3,p4,p5⟩:=S.buf.reg j hj (by omega);have e2:u / h.W=q':=eM (by omega) (by omega) (by omega);obtain rfl:q'=q:=by omega
   by_cases e:j=i
   ·subst e;omega
   ·exact S.buf.one j i hj hi e (by omega) i2 (by omega)
theorem Sim.chain(S:Sim h σ A rv)(m:ib h σ A rv Zs)(hr:∀i,i<h.T->rv i=none){e r:Nat}(hW:1<=h.W)(h3:h.s r=1\/h.s r=2\/h.s r=3)(he:e<=r*h.W+h.W)(hu:∀u,r*h.W<=u->u<r*h.W+h.W->(h.Used u↔u<e)) :
  ∀(n a:Nat),r*h.W<=a->a<=e->e-a<=n->(∀b y Q,gO σ A Zs b y Q->b<a->b+y<=a)->∃l,eD h.f e n a=some l/\∀x:Int,x∈l↔∃b y Q,gO σ A Zs b y Q/\x=(b:Int)/\a<=b/\b<e
|0,a,h1,h2,h4,hb=>⟨[],dk (by omega),λx=>⟨λhx=>by(cases hx),λ⟨b,y,Q,_,_,k1,k2⟩=>by omega⟩⟩
|n+1,a,h1,h2,h4,hb=>by
  by_cases hlt:a<e
  ·obtain⟨b,y,Q,t,t1,t2⟩:=m.yC hr ((hu a h1 (by omega)).2 hlt);have hba:b=a:=by
    by_cases hx:b<a
    ·have:=hb b y Q t hx;omega
    ·omega
   subst hba;obtain⟨k1,k2,k3⟩:=S.l6 m t;have of:=oe (s:=y) (p:=Q) ⟨by omega,k3⟩ k2;have eb:b / h.W=r:=eM hW h1 (by omega);have hfit:b+y<=e:=by
    rcases S.jP m t with⟨l1,l2⟩|⟨l1,l2,l3⟩
    ·rw[eb]at l2;have:=(hu (b+y-1) (by omega) (by omega)).1 (S.tH m t _ (by omega) (by omega));omega
    ·rw[eb]at l1;omega
   have hok:bY h.f b e:=by
    unfold bY;rw[k1,of];exact⟨.inl rfl,by show(y:Int)<=_;omega⟩
   have hsz:(Hd.of ((h.f b:Nat):Int)).size=(y:Int):=by rw[k1,of];rfl
   obtain⟨l,l1,l2⟩:=S.chain m hr hW h3 he hu n (b+y) (by omega) hfit (by omega) (λc v R t' hc=>by
    by_cases hx:c<b
    ·have:=hb c v R t' hx;omega
    ·have hv:1<=v:=by have:=(S.l6 m t').2.1;omega
     obtain⟨e1,e2,_⟩:=S.yB m t' t (u:=c) (Eg _) (by omega) (by omega) hc;omega)
   refine⟨(b:Int)::l,by rw[tS hlt hok hsz,l1];rfl,λx=>?_⟩;rw[D5,l2];constructor
   ·rintro(e1|⟨c,v,R,t',e1,e2,e3⟩)
    ·exact⟨b,y,Q,t,e1,Eg _,hlt⟩
    ·exact⟨c,v,R,t',e1,by omega,e3⟩
   ·rintro⟨c,v,R,t',e1,e2,e3⟩;by_cases hx:b+y<=c
    ·exact .inr ⟨c,v,R,t',e1,hx,e3⟩
    ·have hv:1<=v:=by have:=(S.l6 m t').2.1;omega
     obtain⟨e4,_⟩:=S.yB m t' t (u:=c) (Eg _) (by omega) e2 (by omega);exact .inl (by rw[e1,e4])
  ·exact⟨[],dk hlt,λx=>⟨λhx=>by(cases hx),λ⟨b,y,Q,_,_,k1,k2⟩=>by omega⟩⟩
theorem Sim.row(S:Sim h σ A rv)(m:ib h σ A rv Zs)(hr:∀i,i<h.T->rv i=none)(ok:h.Ok s k)(hR:r<h.R):h.fb (r:Int)=0/\∀x:Int,x∈h.gH (r:Int)↔∃b y Q,gO σ A Zs b y Q/\x=(b:Int)/\b / h.W=r:=by
 have hW:=ok.iW;have hso:=ok.sok r hR;have hbl:=ok.cv hR;have hin:¬ ¬ (0<=(r:Int)/\(r:Int)<(h.R:Int)):=by omega
 unfold HS.gH HS.fb;rw[if_neg hin,if_neg hin,Int.toNat_natCast];by_cases h3:h.s r=1\/h.s r=2\/h.s r=3
 ·rw[if_pos h3,if_pos h3];obtain⟨e,e1,e2,e3,e4⟩:=S.cP ok hR (by omega);obtain⟨l,l1,l2⟩:=S.chain m hr (by omega) h3 e3 e4 (e-r*h.W) (r*h.W) (Eg _) e2 (Eg _) (λb y Q t hb=>by
   by_cases hx:b+y<=r*h.W
   ·exact hx
   ·exfalso;have eW:r*h.W / h.W=r:=Nat.mul_div_cancel _ (by omega);obtain⟨d1,d2⟩:=hZ (W:=h.W) (u:=b) (by omega);rcases S.jP m t with⟨g1,g2⟩|⟨g1,g2,g3⟩
    ·have:r<=b / h.W:=by
      rcases Ej (b / h.W) r with g|g
      ·have:=sJ (W:=h.W) g;omega
      ·exact g
     have:=Nat.mul_le_mul_right h.W this;omega
    ·rcases Ej (b / h.W) r with g|g
     ·obtain⟨i,rfl⟩:∃i,r=b / h.W+i:=⟨r-b / h.W,by omega⟩;have e5:(b / h.W+i)*h.W=b / h.W*h.W+i*h.W:=Nat.add_mul _ _ _;have:=g3 i (by omega) (by omega);omega
     ·have:=Nat.mul_le_mul_right h.W g;omega)
  rw[e1];have hst:=ko (n:=h.n) (f:=h.f) (A:=r*h.W) (B:=e) (yU e2 (by omega)) l1;rw[hst.1,hst.2];refine⟨rfl,λx=>?_⟩;rw[l2];constructor
  ·rintro⟨b,y,Q,t,q1,q2,q3⟩;exact⟨b,y,Q,t,q1,eM (by omega) q2 (by omega)⟩
  ·rintro⟨b,y,Q,t,q1,q2⟩;obtain⟨d1,d2⟩:=hZ (W:=h.W) (u:=b) (by omega);rw[q2]at d1 d2;have hy:1<=y:=by have:=(S.l6 m t).2.1;omega
   exact⟨b,y,Q,t,q1,d1,(e4 b d1 d2).1 (S.tH m t b (Eg _) (by omega))⟩
 ·rw[if_neg h3,if_neg h3];by_cases h4:h.s r=4
  ·rw[if_pos h4,if_pos h4];have htop:=m.hum r hR h4;have hus:h.Used (r*h.W):=by
    have eW:r*h.W / h.W=r:=Nat.mul_div_cancel _ (by omega);refine⟨by omega,by rw[eW];omega,by rw[eW];exact htop,λi hi hx=>?_⟩;obtain⟨q,q1,q2,q3,q4,q5⟩:=S.buf.reg i hi (by omega);have e2:r*h.W / h.W=q:=eM (by omega) (by omega) (by omega);rw[eW]at e2;rw[e2,q2]at h4;omega
   obtain⟨b,y,Q,t,t1,t2⟩:=m.yC hr hus;have big:∀ {b y Q:Nat},gO σ A Zs b y Q->b<=r*h.W->r*h.W<b+y->b=r*h.W/\∀i,1<=i->i*h.W<y->r+i<h.R/\h.s (r+i)=5:=λ{b y Q} t t1 t2=>by
    obtain⟨d1,d2⟩:=hZ (W:=h.W) (u:=b) (by omega);have le:b / h.W<=r:=by
     rcases Ej r (b / h.W)with g|g
     ·have:=sJ (W:=h.W) g;omega
     ·exact g
    rcases S.jP m t with⟨g1,g2⟩|⟨g1,g2,g3⟩
    ·exfalso;rcases Ej (b / h.W) r with g|g
     ·have:=sJ (W:=h.W) g;omega
     ·have:b / h.W=r:=by omega
      rw[this]at g1;omega
    ·rcases Ej (b / h.W) r with g|g
     ·exfalso;obtain⟨i,rfl⟩:∃i,r=b / h.W+i:=⟨r-b / h.W,by omega⟩;have e5:(b / h.W+i)*h.W=b / h.W*h.W+i*h.W:=Nat.add_mul _ _ _;have:=g3 i (by omega) (by omega);omega
     ·have e6:b / h.W=r:=by omega
      rw[e6]at g2 g3;exact⟨g2,g3⟩
   obtain⟨rfl,hc⟩:=big t t1 t2;have ho:=S.pF m t;have hE:=ho.aD;have hV:=ho.bA;have hbig:h.gG r=0:=by
    unfold HS.gG;rw[if_neg (by rw[hE];exact λh=>h rfl),hV,if_pos];intro q q1 q2;have h5:=hc q q1 (by
     have q2:(q:Int)<h.g.bI (y:Int):=q2;have hz:=ho.pos;unfold Geo.bI at q2;rw[if_neg (by omega),ok.rw]at q2;have hWp:(0:Int)<(h.W:Int):=by omega
     have h7:(q:Int)<=((y:Int)-1) / (h.W:Int):=by omega
     have h8:=Int.mul_le_of_le_ediv hWp h7;have h9:((q*h.W:Nat):Int)=(q:Int)*(h.W:Int):=Int.natCast_mul _ _;omega)
    unfold HS.aQ;rw[if_pos ⟨by omega,by omega⟩,show((r:Int)+(q:Int)).toNat=r+q by omega];exact h5.2
   rw[hbig,if_pos rfl];refine⟨rfl,λx=>?_⟩;rw[List.mem_singleton];constructor
   ·intro e;exact⟨_,y,Q,t,e,Nat.mul_div_cancel _ (by omega)⟩
   ·rintro⟨c,v,R,t',e1,e2⟩;rw[e1];rcases S.jP m t' with⟨g1,g2⟩|⟨g1,g2,g3⟩
    ·rw[e2]at g1;omega
    ·rw[e2]at g2;rw[g2]
  ·rw[if_neg h4,if_neg h4];refine⟨rfl,λx=>⟨λhx=>by(cases hx),λ⟨b,y,Q,t,e1,e2⟩=>?_⟩⟩;rcases S.jP m t with⟨g1,g2⟩|⟨g1,g2,g3⟩
   ·rw[e2]at g1;exact absurd g1 h3
   ·rw[e2]at g1;exact absurd g1 h4
theorem Sim.aU(S:Sim h σ A rv)(m:ib h σ A rv Zs)(hr:∀i,i<h.T->rv i=none)(ok:h.Ok s k){x:Int}:x∈h.aU↔∃b y Q,gO σ A Zs b y Q/\x=(b:Int):=by
 have hW:=ok.iW;rw[qn];constructor
 ·rintro⟨q,q1,q2,q3⟩;obtain⟨b,y,Q,t,e1,e2⟩:=((S.row m hr ok q1).2 x).1 q2;exact⟨b,y,Q,t,e1⟩
 ·rintro⟨b,y,Q,t,rfl⟩;have ho:=S.pF m t;have hl:=ho.lt;have hb:b / h.W<h.R:=by
   rw[Nat.div_lt_iff_lt_mul (by omega),<- ok.nn];exact hl
  exact⟨b / h.W,hb,((S.row m hr ok hb).2 _).2 ⟨b,y,Q,t,rfl,rfl⟩,ho.aD⟩
theorem Sim.known(S:Sim h σ A rv)(m:ib h σ A rv Zs)(hr:∀i,i<h.T->rv i=none)(ok:h.Ok s k){r:Int}(h1:0<=r/\r<=(σ.N:Int)):bo A r=0\/bo A r-1∈h.aU:=by
 unfold bo;by_cases e:r=0
 ·rw[if_pos e];exact .inl rfl
 ·rw[if_neg e];refine .inr ((S.aU m hr ok).2 ⟨A r.toNat,_,_,.inl ⟨r.toNat,by omega,by omega,rfl,rfl,rfl⟩,by omega⟩)
theorem Sim.sound{T B:Nat}(S:Sim h σ A rv)(hr:∀i,i<h.T->rv i=none)(ok:h.Ok s k)(gk:GOk T B σ):h.Sound:=by
 obtain⟨Zs,m⟩:=S.rest;refine⟨λq hq=>(S.row m hr ok hq).1,λx hx=>?_,λi hi=>?_⟩
 ·obtain⟨b,y,Q,t,rfl⟩:=(S.aU m hr ok).1 hx;rw[(S.pF m t).refs];intro v hv;obtain⟨j,j1,rfl⟩:=List.mem_map.1 hv;have j1:=List.mem_range.1 j1;rcases t with⟨o,o1,o2,rfl,rfl,rfl⟩|t
  ·rw[S.ref o o1 o2 j j1];exact S.known m hr ok (gk.ref _ _)
  ·obtain⟨-,-,-,k4⟩:=m.hdr b y Q t;rw[k4 j j1];exact .inl rfl
 ·rw[S.st i hi];intro v hv;obtain⟨v',hv',rfl⟩:=List.mem_map.1 hv;exact S.known m hr ok (gk.mem i v' hv')
theorem Sim.named{T B:Nat}(S:Sim h σ A rv)(hr:∀i,i<h.T->rv i=none)(ok:h.Ok s k)(gk:GOk T B σ):cC σ h.gs h.T (bo A):=by
 obtain⟨Zs,m⟩:=S.rest;have th:∀o:Nat,1<=o->o<=σ.N->gO σ A Zs (A o) (osz σ o) (σ.np (o:Int)):=λo h1 h2=>.inl ⟨o,h1,h2,rfl,rfl,rfl⟩;have hob:=λo h1 h2=>S.pF m (th o h1 h2);have hmem:=λ(o:Nat) h1 h2=>(S.aU m hr ok (x:=(A o:Int))).2 ⟨_,_,_,th o h1 h2,rfl⟩;have hnp:∀o:Nat,1<=o->o<=σ.N->h.gs.np ((A o:Int)+1)=σ.np (o:Int)/\h.gs.nw ((A o:Int)+1)=σ.nw (o:Int):=λo h1 h2=>by
  have:=qo (hob o h1 h2) (hmem o h1 h2);refine⟨this.1,this.2.trans ?_⟩;unfold osz;omega
 refine⟨bT A,λa b a0 a1 b0 b1 e=>S.inj ⟨a0,a1⟩ ⟨b0,b1⟩ e,λt ht=>?_,λr h1 h2=>?_,λr h1 h2=>?_,λr h1 h2 j hj=>?_,λr h1 h2 j hj=>?_⟩
 ·show(if t<h.T then h.st t else [])=_;rw[if_pos ht,S.st t ht]
 ·obtain⟨o,rfl⟩:=Ed (show 0<=r by omega);rw[dC A (by omega),(hnp o (by omega) (by omega)).1]
 ·obtain⟨o,rfl⟩:=Ed (show 0<=r by omega);rw[dC A (by omega),(hnp o (by omega) (by omega)).2]
 ·obtain⟨o,rfl⟩:=Ed (show 0<=r by omega);have o1:1<=o:=by omega
  have o2:o<=σ.N:=by omega
  rw[dC A o1,<- lp h.gs ((A o:Int)+1) (by rw[(hnp o o1 o2).1];exact hj),kJ (hob o o1 o2) (hmem o o1 o2),(hob o o1 o2).refs];have:=S.ref o o1 o2 j hj;simp[hj,this]
 ·obtain⟨o,rfl⟩:=Ed (show 0<=r by omega);have o1:1<=o:=by omega
  have o2:o<=σ.N:=by omega
  have e1:h.gs.dat ((A o:Int)+1) (j:Int)=(bp h.gs ((A o:Int)+1)).getD j 0:=by
   unfold bp;rw[(hnp o o1 o2).2];simp[hj]
  have e2:osz σ o-1-σ.np (o:Int)=σ.nw (o:Int):=by unfold osz;omega
  rw[dC A o1,e1,qq (hob o o1 o2) (hmem o o1 o2),e2];have:=S.dat o o1 o2 j hj;simp[hj,this]
theorem GOk.Dr{T B:Nat}{σ:GS}(ok:GOk T B σ):GIn σ:=⟨ok.mem,ok.ref⟩
theorem Sim.shape{T B:Nat}(S:Sim h σ A rv)(hr:∀i,i<h.T->rv i=none)(ok:h.Ok s k)(gk:GOk T B σ):shape h.gs h.T=Go.Proofs.YtimkofiempcfdaaGreatDoor.shape σ h.T:=
 (S.named hr ok gk).shape gk.Dr (As ok (S.sound hr ok gk))
end
def CG:Cfg:=⟨6,4,3,1,4,0,0,1,0,0,0,0,0,0⟩
def f14:Nat->Nat:=upd (aC (λ_=>0) 0 3 (λ_=>0)) 0 (aX 3 1)
def h14:HS:=⟨CG.geo,64,4,256,f14,ak (λ_=>0) 0 3,ak (λk=>((k*64:Nat):Int)) 0 3,1,λ_=>0,λ_=>0,bj (λ_=>[]) 0 [1]⟩
theorem wh{w:World}{A B:Option Addr}{ca cb:Nat}{xs ys:List Int}(hA:Sl w A xs.length (λk=>.int .u64 (xs.getD k 0)))(hB:Sl w B ys.length (λk=>.int .u64 (ys.getD k 0)))
  (hx:xs.length<=9223372036854775807) (hy:ys.length<=9223372036854775807) :
  Calls Tryz.prog 35 #[.slice A xs.length ca,.slice B ys.length cb] w λe w'=>e=.returned (.bool (decide (xs=ys)))/\∃k,w'=w.drewN k:=by
 by_cases hl:xs.length=ys.length
 ·have hl':((xs.length:Int) !=(ys.length:Int))=false:=by rw[bne_eq_false_iff_eq];omega
  have HA:=aa hA;have HB:=aa hB;have HL:=aa hl;clear hA hB hl;go_enter Tryz.func35,Tryz.ntmps35
  go_wp2
  go_loopw [5] (λi wr=>∃k q:Nat,i=.int .i64 k/\k<=xs.length/\(∀j,j<k->xs.getD j 0=ys.getD j 0)/\wr=w.drewN q) (λi _=>xs.length-(intOf i).toNat)
  case atStart=>exact⟨0,0,rfl,Ei _,λj hj=>absurd hj (by omega),rfl⟩
  case round=>
   obtain⟨k,q,rfl,hk,hs,rfl⟩:=hrel;have HS:=aa hs;clear hs;by_cases hlt:k<xs.length
   ·have hlt1:(k:Int)<(xs.length:Int):=by omega
    have hlt2:(k:Int)<(ys.length:Int):=by have:=HL.out;omega
    have hlt3:k<ys.length:=by omega
    obtain⟨b,off,rfl,_,ha⟩:=HA.out (by omega);obtain⟨b',off',rfl,_,hb⟩:=HB.out (by omega);have hca:w.cell? ⟨b,off+k,none⟩=some (.int .u64 (xs.getD k 0)):=ha k hlt;have hcb:w.cell? ⟨b',off'+k,none⟩=some (.int .u64 (ys.getD k 0)):=hb k hlt3;have HX:Hid (xs≠ys\/xs.getD k 0=ys.getD k 0):=by
     by_cases h:xs=ys
     ·right;rw[h]
     ·exact .inl h
    clear ha hb;generalize hX:xs.getD k 0=x at *;generalize hY:ys.getD k 0=y at *;have EX:=aa hX;have EY:=aa hY;clear hX hY;by_cases he:x=y
    ·subst he;go_wp2_with fail
     go_quiet (fail)
     go_wp2
     go_roundw
     case rel=>exact⟨k+1,q+nq,by go_num,by omega,λj hj=>by
      rcases Ej j k with h|h
      ·exact HS.out j h
      ·obtain rfl:j=k:=by omega
       rw[EX.out,EY.out],rfl⟩
     case measure=>simp[intOf];omega
    ·have hne:(x==y)=false:=by simpa using he
     have hne':(x !=y)=true:=by simpa using he
     go_wp2_with fail
     go_quiet (fail)
     go_wp2
     go_ret
     refine⟨aW ?_,q+nq,by rw[World.drewN_drewN]⟩;rcases HX.out with h|h
     ·simp[h]
     ·exact absurd h he
   ·go_wp2_with fail
    go_ret
    refine⟨aW ?_,_,rfl⟩;have:xs=ys:=by
     apply List.ext_getElem HL.out;intro i h1 h2;have:=HS.out i (by omega);simpa[h1,h2] using this
    simp[this]
 ·have hl':((xs.length:Int) !=(ys.length:Int))=true:=by rw[bne_iff_ne];omega
  have HE:Hid ((false:Bool)=decide (xs=ys)):=by
   refine Eq.symm ?_;rw[decide_eq_false_iff_not];rintro rfl;exact hl rfl
  clear hA hB hl;go_enter Tryz.func35,Tryz.ntmps35
  go_wp2
  go_ret
  exact⟨aW HE.out,0,rfl⟩
theorem yD{L:List Int}{r:Int}(h:r∉L)(x:Int):num (L++[r]) x=if x=r then ((L.length+1:Nat):Int) else num L x:=by
 by_cases e:x=r
 ·subst e;rw[if_pos rfl,lj h]
 ·rw[if_neg e];unfold num;by_cases hx:x∈L
  ·rw[if_pos hx,if_pos (by simp[hx]),List.idxOf_append,if_pos hx]
  ·rw[if_neg hx,if_neg (by simp[hx,e])]
def yE(N:Nat)(L:List Int):Array Value:=aJ (N+1) λj=>.int .u64 (num L (j:Int))
def eO(W w:World)(N nb:Nat)(A:Option Addr)(n c:Nat)(L:List Int):Prop:=
 Fr [] W w/\∃G,Lr w 3 A n c G (zv L)/\Blk w nb 64 (yE N L)/\(∀g,g∈G->W.heap.size<=g)/\W.heap.size<=nb
section
variable {W w w1 w':World}{N nb n c:Nat}{A:Option Addr}{L:List Int}
theorem eO.fr0(h:eO W w N nb A n c L)(hf:Fr [] w w'):eO W w' N nb A n c L:=by
 obtain⟨h0,G,h1,h2,h3,h4⟩:=h;exact⟨h0.af hf,G,h1.fr0 hf,h2.fr hf (by simp),h3,h4⟩
theorem dUx{l:List Int}{k:Nat}(h:k<l.length):l.take (k+1)=l.take k++[l.getD k 0]:=by
 rw[List.take_add_one]
 congr 1
 simp[h]
theorem wj(ht:eO W w N nb A n c L)(hn:n=L.length){la:Option Addr}{l:List Int}{lc:Nat}(hl:Sl W la l.length (λk=>.int .u64 (l.getD k 0)))(hr:∀r,r∈l->0<=r/\r<=(N:Int))(hN:N<=4096)(hll:l.length<=1048576)(h0:(0:Int)∉L){O:List Int}(hO:av L l <+: O)(hOl:O.length<=4096) :
  Calls Tryz.prog 126 #[.slice A n c,.slice (some ⟨nb,0,none⟩) (N+1) (N+1),.slice la l.length lc] w λe w'=>∃A' n' c',e=.returned (.slice A' n' c')/\n'=(av L l).length/\eO W w' N nb A' n' c' (av L l):=by
 obtain⟨i0,hi,hz0,hz1,hz2⟩:=info_parts Tryz.uo;have HTR:=aa ht;have HN:=aa hn;have HR:Hid (∀k,k<l.length->0<=l.getD k 0/\l.getD k 0<=(N:Int)):=λk hk=>hr _ (by simp[hk]);have HLS:=aa hl;have H0:=aa h0;have HPRE:Hid (∀k,av L (l.take k) <+: O):=λk=>by
  have e:av L l=av (av L (l.take k)) (l.drop k):=by rw[<- cn,List.take_append_drop]
  exact(e ▸ dS _ _:av L (l.take k) <+: av L l).trans hO
 have HB:Hid (N<=4096/\O.length<=4096/\l.length<=1048576):=⟨hN,hOl,hll⟩;have HZ:Hid (∀k,(0:Int)∉av L (l.take k)):=λk hm=>by
  rw[cp]at hm;rcases hm with hm|⟨_,hm⟩
  ·exact h0 hm
  ·exact hm rfl
 clear ht hl hr hN hll h0 hO hOl hn;go_enter Tryz.func126,Tryz.ntmps126
 go_wp2_with fail
 go_loopw [0,7] (λs i wr=>∃(k:Nat) (A':Option Addr) (n' c':Nat),i=.int .i64 k/\s=.slice A' n' c'/\n'=(av L (l.take k)).length/\k<=l.length/\eO W wr N nb A' n' c' (av L (l.take k))) (λ_ i _=>l.length-(intOf i).toNat)
 case atStart=>exact⟨0,A,n,c,rfl,rfl,by simpa[jk] using HN.out,Ei _,by simpa[jk] using HTR.out⟩
 case round=>
  obtain⟨k,A1,n1,c1,rfl,rfl,hn1,hk,ht1⟩:=hrel;by_cases hlt:k<l.length
  ·have hlt1:(k:Int)<(l.length:Int):=by omega
   obtain⟨g,off,rfl,hgl,hcs⟩:=HLS.out (by omega);have hrb:=HR.out k hlt;have hv:visit (av L (l.take k)) (l.getD k 0)=av L (l.take (k+1)):=by rw[dUx hlt,cn,lh]
   have hpre1:=HPRE.out (k+1);obtain⟨q,hq⟩:=Ed hrb.1;have x0:wr.cell? ⟨g,off+k,none⟩=some (.int .u64 (q:Int)):=by rw[<- hq,ht1.1.cell (p:=⟨g,off+k,none⟩) hgl (by simp)];exact hcs k hlt
   have hqN:q<=N:=by omega
   have hkb:k<1048576:=by have:=HB.out.2.2;omega
   rw[hq]at hv;obtain⟨hf,G,k1,k2,k3,k4⟩:=ht1;obtain⟨L1,hL1⟩:∃L1,L1=av L (l.take k):=⟨_,rfl⟩;rw[<- hL1]at hv k1 k2 hn1;have hz:(0:Int)∉L1:=by rw[hL1];exact HZ.out k
   have hN:=HB.out.1;have hq1:(q:Int)<((N:Int)+1):=by omega
   have y0:wr.cell? ⟨nb,q,none⟩=some (.int .u64 (num L1 (q:Int))):=by
    rw[k2.cell];exact cg (by omega)
   have HL1:=aa hL1;have HLT:=aa hlt;by_cases e0:q=0
   ·subst e0;have HR1:Hid (n1=(av L (l.take (k+1))).length/\eO W wr N nb A1 n1 c1 (av L (l.take (k+1)))):=by
     rw[<- hv,show visit L1 ((0:Nat):Int)=L1 by unfold visit;rw[if_pos (.inl rfl)]];exact⟨hn1,hf,G,k1,k2,k3,k4⟩
    clear hf k1 k2 k3 k4 hcs hv hpre1 hq hrb hL1 hn1 hz y0;go_wp2_with fail
    go_roundw
    case rel=>exact⟨k+1,A1,n1,c1,by go_num,rfl,HR1.out.1,by have:=HLT.out;omega,HR1.out.2⟩
    case measure=>simp[intOf];have:=HLT.out;omega
   ·have e1:((q:Int)==0)=false:=by simp;omega
    have e2:((q:Int) !=0)=true:=by simp;omega
    by_cases hm:(q:Int)∈L1
    ·have e3:num L1 (q:Int)≠0:=tV.2 hm;have e4:(num L1 (q:Int)==0)=false:=by simpa using e3
     have HR1:Hid (n1=(av L (l.take (k+1))).length/\eO W wr N nb A1 n1 c1 (av L (l.take (k+1)))):=by
      rw[<- hv,show visit L1 (q:Int)=L1 by unfold visit;rw[if_pos (.inr hm)]];exact⟨hn1,hf,G,k1,k2,k3,k4⟩
     generalize num L1 (q:Int)=x at *;clear hf k1 k2 k3 k4 hcs hv hpre1 hq hrb hL1 hn1 hz e0 hm e3;go_wp2_with fail
     go_roundw
     case rel=>exact⟨k+1,A1,n1,c1,by go_num,rfl,HR1.out.1,by have:=HLT.out;omega,HR1.out.2⟩
     case measure=>simp[intOf];have:=HLT.out;omega
    ·have e3:num L1 (q:Int)=0:=by unfold num;rw[if_neg hm]
     rw[e3]at y0;have e5:visit L1 (q:Int)=L1++[(q:Int)]:=by unfold visit;rw[if_neg (λh=>h.elim (λh=>by omega) hm)]
     have hlen:n1<4096:=by
      have h1:=hpre1.length_le;rw[<- hv,e5,List.length_append]at h1;have:=HB.out.2.1;simp at h1;omega
     have hw1:IntKind.i64.wrap (q:Int)=(q:Int):=IntWalk.i64_in _ ⟨by omega,by omega⟩;have hw2:IntKind.u64.wrap ((n1:Int)+1)=(n1:Int)+1:=IntWalk.u64_in _ ⟨by omega,by omega⟩;have HNB:Hid (n1+1<=maxLen/\(n1+1)*8<=140737488355328):=⟨by unfold maxLen;omega,by omega⟩;have hnG:nb∉G:=k1.apart k2 (by decide);have NB0:nb<wr.heap.size:=k2.lt;have NG0:g<wr.heap.size:=Ef hgl hf.size;have HFZ:Hid (∀w2,Fr G (wr.alloc (.cells #[.int .i64 (q:Int)] 3)) w2->w2.cell? ⟨g,off+k,none⟩=some (.int .u64 (q:Int))/\w2.cell? ⟨nb,q,none⟩=some (.int .u64 0)/\w2.frozen? ⟨nb,q,none⟩=false):=λw2 hF=>by
      have hfa:Fr [] wr (wr.alloc (.cells #[.int .i64 (q:Int)] 3)):=(Fr.refl _ _).alloc _;have hb:=(k2.fr hfa (by simp)).fr hF hnG;refine⟨?_,?_,hb.frozen q⟩
      ·rw[hF.cell (p:=⟨g,off+k,none⟩) (Ef NG0 hfa.size) (λhx=>by have h8:W.heap.size<=g:=k3 _ hx;omega),hfa.cell (p:=⟨g,off+k,none⟩) NG0 (by simp)];exact x0
      ·rw[hb.cell,<- e3];exact cg (by omega)
     have HLR:Hid (Lr (wr.alloc (.cells #[.int .i64 (q:Int)] 3)) 3 A1 n1 c1 G (zv L1)):=k1.alloc _;have HEND:Hid (∀w2 A' c' G',Fr G (wr.alloc (.cells #[.int .i64 (q:Int)] 3)) w2->Lr w2 3 A' (n1+1) c' G' (zv L1++[.int .i64 (q:Int)])->(∀g,g∈G'->g∈G\/wr.heap.size<=g) ->
       n1+1=(av L (l.take (k+1))).length/\eO W (w2.setCell ⟨nb,q,none⟩ (.int .u64 ((n1:Int)+1))) N nb A' (n1+1) c' (av L (l.take (k+1)))):=λw2 A' c' G' hF hLn hGn=>by
      have hfa:Fr [] wr (wr.alloc (.cells #[.int .i64 (q:Int)] 3)):=(Fr.refl _ _).alloc _;have hb:=(k2.fr hfa (by simp)).fr hF hnG;have hf3:Fr [nb] w2 (w2.setCell ⟨nb,q,none⟩ (.int .u64 ((n1:Int)+1))):=(Fr.refl _ _).setCell (p:=⟨nb,q,none⟩) (.inl (by simp)) _;rw[<- hv,e5];refine⟨by rw[List.length_append,<- hn1];rfl,((hf.af hfa).trans hF (λx hx=>.inr (k3 x hx))).trans hf3 (λx hx=>.inr (by simp at hx;rw[hx];exact k4)),G',?_,?_,λg hg=>?_,k4⟩
      ·rw[jU];refine hLn.fr hf3 (λg hg hx=>?_);simp at hx;exact(hLn.apart hb (by decide)) (hx ▸ hg)
      ·have hp:=hb.put q (.int .u64 ((n1:Int)+1));unfold yE at hp ⊢;rw[gy]at hp;have e:bz (λj:Nat=>Value.int .u64 (num L1 (j:Int))) q (.int .u64 ((n1:Int)+1))=λj:Nat=>Value.int .u64 (num (L1++[(q:Int)]) (j:Int)):=by
        funext j
        rw[yD hm];by_cases e:j=q
        ·subst e;rw[cf,if_pos rfl,<- hn1];rfl
        ·rw[cN _ _ e,if_neg (by omega)]
       rw[e]at hp;exact hp
      ·rcases hGn g hg with h|h
       ·exact k3 g h
       ·exact Nat.le_trans hf.size h
     clear hf k1 k2 k3 k4 hcs hv hpre1 hq hrb hL1 hn1 hz e0 hm e3 e5 hnG HTR;go_wp2_with (first|(at_builtin;refine aF rfl _ _ 25 rfl 3 i0 (.int .i64 0) 8 Tryz.underlying25 hi hz0 hz1 hz2 rfl rfl HLR.out rfl rfl (λ_=>cG wr _ 3 rfl _ (Fr.refl _ _)) (by intro u hu;simp at hu;rw[hu];rfl) HNB.out.1 HNB.out.2 ?_;intro A' c' G' w2 HLn HFn HGn;have d0:=(HFZ.out _ HFn.out).1;have d1:=(HFZ.out _ HFn.out).2.1;have dz:=(HFZ.out _ HFn.out).2.2;have ND:=ae d1))
     have HR1:=aa (HEND.out w2 A' c' G' HFn.out HLn.out (λg hg=>(HGn.out g hg).imp id (λh=>by rw[h.1];simp)));go_roundw
     case rel=>exact⟨k+1,A',n1+1,c',by go_num,rfl,HR1.out.1,by have:=HLT.out;omega,HR1.out.2⟩
     case measure=>simp[intOf];have:=HLT.out;omega
  ·obtain rfl:k=l.length:=by omega
   rw[List.take_of_length_le (Eg _)]at hn1 ht1;have HE:Hid (n1=(av L l).length/\eO W wr N nb A1 n1 c1 (av L l)):=⟨hn1,ht1⟩;clear ht1 hn1 HTR;go_wp2_with fail
   go_ret
   exact⟨A1,n1,c1,rfl,HE.out.1,HE.out.2⟩
end
end Go.Proofs.YtimkofiempcfdaaGreatDoor
