/- Several texts joined (pack.py): Zv Vp Hh Hi Hj Hl Zw. -/
import Derived.Test.YtimlkjppaalfaaaGreatDoorPW46
import Derived.Test.YtimlkjppaalfaaaGreatDoorPW19
import Derived.Test.YtimlkjppaalfaaaGreatDoorPW11
import Derived.Test.YtimlkjppaalfaaaGreatDoorProg
import Derived.Test.YtimlkjppaalfaaaGreatDoorPW00
import Derived.WalkKit
import Derived.BigQuiet
import Derived.Test.YtimlkjppaalfaaaGreatDoorPW36
import Derived.Test.YtimlkjppaalfaaaGreatDoorPW21
import Derived.Deep.CutRange
import Derived.Deep.RegionHeld3
import Derived.Test.YtimlkjppaalfaaaGreatDoorPW45
import Derived.Test.YtimlkjppaalfaaaGreatDoorPW35
set_option linter.unusedVariables false
set_option linter.unusedSimpArgs false
set_option maxHeartbeats 3200000
set_option maxRecDepth 100000
open List renaming mem_cons->C1
open Nat renaming zero_le->Df
namespace Go.Proofs.YtimlkjppaalfaaaGreatDoor
open Go.RowKit Go.Gl HS
def iQ(on:Nat)(zn:Nat->Nat)(f:Nat->Nat->Po)(i j:Nat):Po:=if i<on/\j<zn i then f i j else ⟨0,0,0,0,0⟩
def po(on:Nat)(zn:Nat->Nat)(i:Nat):Nat:=if i<on then (if zn i<60 then zn i else 60) else 0
def V15(on:Nat)(zA:Nat->Option Addr)(zn zc:Nat->Nat):WS:={ WS.new with OP:=gF on zA zn zc }
def Γ15(g:Nat)(tg:TG):WG:=⟨g,tg,none,0,[],[],λ_=>none,λ_=>0,λ_=>0,λ_=>[],λ_=>[],λ_=>0⟩
def qU(w:World)(c:Cfg)(on:Nat)(zA:Nat->Option Addr)(zn zc:Nat->Nat)(f:Nat->Nat->Po)(e:Ending)(w':World):Prop:=
 (e=.returned (.tuple #[.pointer none,.bool true])/\Fr [] w w') \/
 ∃(T M g s k:Nat) (tg:TG) (L:HL) (X:HX) (Λ:WL) (h:HS) (x:HT),e=.returned (.tuple #[.pointer (some ⟨Λ.wb,0,none⟩),.bool true])/\c.threads=(T:Int)/\1<=T/\T<=64 /\
  HM w w' L X h x s k (wE Λ L.hb (Γ15 g tg).g T (V15 on zA zn zc)++[]) (gD (λ_=>False) Λ (Γ15 g tg) (·<T)) (gQ (λ_=>True) Λ (Γ15 g tg) (·<T) T L.B M G0) /\
  WP w L.B h x (λ_=>False) Λ (Γ15 g tg) M T (V15 on zA zn zc) G0 (λ_=>0) (λ_=>none) (iQ on zn f) (po on zn) True
theorem BM{Λ:WL}{hb g T:Nat}{on:Nat}{zA:Nat->Option Addr}{zn zc:Nat->Nat}:∀q,q∈wE Λ hb g T (V15 on zA zn zc)->q∈ovO Λ hb g T T (gF on zA zn zc):=λq hq=>by
 simp only[wE,w4E,C1,List.mem_append,List.mem_map,List.not_mem_nil,or_false]at hq;simp only[ovO,C1,List.mem_map];rcases hq with e|(e|e|e|e)|⟨i,hi,e⟩
 ·exact .inr (.inr (.inl e))
 ·exact .inl e
 ·exact .inr (.inl e)
 ·exact .inr (.inr (.inr (.inl e)))
 ·exact .inr (.inr (.inr (.inr (.inl e))))
 ·exact .inr (.inr (.inr (.inr (.inr ⟨i,hi,e⟩))))
theorem Au{g:Geo}{W R n T:Nat}:Sim (HSn g W R n T) G0 (λ_=>0) (λ_=>none):=by
 have no:∀o:Nat,1<=o->o<=G0.N->False:=λo h1 h2=>by
  have h2:o<=0:=h2;omega
 have nu:∀u,¬ (HSn g W R n T).Used u:=λu hu=>hu.2.1 rfl;refine⟨⟨λi hi hb=>?_,λi j hi hj hne hb=>?_⟩,λi hi=>rfl,λo h1 h2=>(no o h1 h2).elim,λo h1 h2=>(no o h1 h2).elim,λo h1 h2=>(no o h1 h2).elim,λo h1 h2=>(no o h1 h2).elim,λo h1 h2=>(no o h1 h2).elim,λo p h1 h2=>(no o h1 h2).elim,
  λi hi a z e=>(by cases e),λi hi a z e=>(by cases e),λi hi a z e=>(by cases e),λi j hi hj hne a z b y e=>(by cases e),[],⟨λa z P hm=>(by cases hm),λa z P hm=>(by cases hm),λa z P hm=>(by cases hm),λa z P hm=>(by cases hm),λa z P b y Q hm=>(by cases hm),λa z P hm=>(by cases hm),
  λo h1 h2=>(no o h1 h2).elim,λi hi a z e=>(by cases e),λu hu=>(nu u hu).elim,λr hr h4=>?_⟩⟩
 ·have hb:(0:Int)<0:=hb;omega
 ·have hb:(0:Int)<0:=hb;omega
 ·have h4:(0:Int)=4:=h4;omega
theorem BN{w w':World}{L:HL}{X:HX}{c:Cfg}{W0 R C P qm s k T B M g:Nat}{tg:TG}{Λ:WL}{on:Nat}{oA:Option Addr}{zA:Nat->Option Addr}{zn zc:Nat->Nat}{f:Nat->Nat->Po}(hT:Tab w)(ok:zT c W0 R C P T B qm s k)(hM:c.geo.max=(M:Int))(hM1:1<=M)(hM2:M<=1048576)
  (hB:L.B=B) (hO:ky w oA on zA zn zc f) (hwf:∀i j,i<on->j<zn i->dH (f i j)/\0<=(f i j).v/\(f i j).v<18446744073709551616)
  (H:OvO w w' L X (HSn c.geo W0 R (R*W0) T) (HTn C P R qm (R*W0)) s k [] (λb=>(tg b).1≠0) (λw=>MAt w tg g T B M G0) g T Λ (gF on zA zn zc)) :
  qU w c on zA zn zc f (.returned (.tuple #[.pointer (some ⟨Λ.wb,0,none⟩),.bool true])) w':=by
 subst hB;obtain⟨H,h2,-⟩:=H;have z0:dH ⟨0,0,0,0,0⟩:=⟨⟨by decide,by decide⟩,⟨by decide,by decide⟩⟩;have H1:=H.sub (E':=wE Λ L.hb g T (V15 on zA zn zc)++[]) (λq hq=>by
  rw[List.append_nil]at hq ⊢;exact BM q hq)
 have hw0:∀c:Nat,bH (HTn C P R qm (R*W0)).C c=false:=λc=>nf _ _;have hl0:∀T,eD (HTn C P R qm (R*W0)) T=[]:=λT=>by
  show []++bi (λ_=>[]) T=[];rw[nB (λ_ _=>rfl)];rfl
 refine .inr ⟨T,M,g,s,k,tg,L,X,Λ,_,_,rfl,ok.th,ok.t1,ok.t2,H1.re hT (λb hb=>?_) ⟨trivial,H.q.1,Lr.nil _ _,H.q.2,λi _=>Lr.nil _ _⟩,?_⟩
 ·rcases hb with hb|hb|hb|hb|⟨i,_,hb⟩
  ·exact hb.elim
  ·exact .inl hb
  ·cases hb
  ·exact .inr hb
  ·cases hb
 ·refine⟨⟨λb hb=>hb.elim,λb hb=>⟨λhx=>(by cases hx),?_,λi _ hx=>(by cases hx)⟩,λb hb=>(by cases hb),λb _ i _ hx=>(by cases hx),λi j _ _ _ b hb=>(by cases hb)⟩,
   ⟨Au,GOk.zero _ _,rfl,λi _=>.inl ⟨rfl,rfl⟩,⟨ok.t1,ok.t2,ok.q2,Df _,λi _=>Df _⟩,λi _ h0=>absurd rfl h0,ok.b2,hM,hM2⟩,⟨ok.t2,ok.b2,hM1,hM2⟩,rfl,λi _=>rfl,λi hi=>?_,λi j=>?_,λi=>?_,λi _=>Df _,λi _ h0=>absurd rfl h0,λi _=>rfl,λi _=>Df _,Df _,λi _=>Df _,λi _=>Df _,Df _,λ_=>⟨λo j h1 h2=>?_,λz=>?_,λc _=>?_,λz hz=>?_⟩⟩
  ·by_cases e:(tg b).1=0
   ·exact e
   ·exact absurd e (h2 b hb)
  ·show jM w (gF on zA zn zc i) (po on zn i) (iQ on zn f i);unfold gF po;by_cases e:i<on
   ·rw[if_pos e,if_pos e];obtain⟨A,c0,e1,e2⟩:=hO.ops i e;injection e1 with e1 e3 e4;subst e1 e4;refine⟨_,_,rfl,λhp=>?_⟩;have hle:(if zn i<60 then zn i else 60)<=zn i:=by split <;> omega
    obtain⟨b,off,e5,e6,e7⟩:=e2 (by omega);refine⟨b,off,e5,e6,λj hj=>?_⟩;have:iQ on zn f i j=f i j:=by unfold iQ;rw[if_pos ⟨e,by omega⟩]
    rw[this];exact e7 j (by omega)
   ·rw[if_neg e,if_neg e];exact⟨none,0,rfl,λhp=>absurd hp (by omega)⟩
  ·unfold iQ;split
   ·rename_i e
    exact hwf i j e.1 e.2
   ·exact⟨z0,by decide,by decide⟩
  ·unfold po;split
   ·split <;> omega
   ·omega
  ·have h2:o<=0:=h2;omega
  ·rw[hl0];simp[Γ15]
  ·rw[hl0,hw0];simp[Γ15]
  ·rw[hl0]at hz;simp[Γ15]at hz
theorem vQ(c:Cfg)(w:World)(hT:Tab w){oA:Option Addr}{on oc:Nat}{zA:Nat->Option Addr}{zn zc:Nat->Nat}{f:Nat->Nat->Po}(hO:ky w oA on zA zn zc f)(hwf:∀i j,i<on->j<zn i->dH (f i j)/\0<=(f i j).v/\(f i j).v<18446744073709551616) :
  Calls Tryz.prog 5 #[c.val,.slice oA on oc] w (qU w c on zA zn zc f):=by
 have HT:=aa hT;have HOI:=aa hO;have HWf:=aa hwf;clear hT hO hwf;by_cases hm:ia c=false
 ·have HG:Hid (∀w',Calls Tryz.prog 21 #[c.val] w' λe w''=>e=.returned (.tuple #[.agg #[.int .i64 0,.int .i64 0,.int .i64 0,.int .i64 0,.int .i64 0,.int .i64 0],.int .i64 20])/\Fr [] w' w''):=λw'=>(lm c w').mono λe w'' ⟨h1,h2⟩=>⟨by rw[h1];unfold Cfg.ans Cfg.err;rw[hm];rfl,h2⟩;have HP:Hid (∀w',Fr [] w w'->qU w c on zA zn zc f (.returned (.tuple #[.pointer none,.bool true])) w'):=λw' hf=>.inl ⟨rfl,hf⟩;unfold Cfg.val at HG ⊢;generalize qU w c on zA zn zc f=Post at *;clear hm;go_enter Tryz.func5,Tryz.ntmps5
  go_wp2_with fail
  refine(HG.out _).mono ?_;rintro e w2 ⟨rfl,hf⟩;have HF2:Hid (Fr [] w w2):=((Fr.refl _ _).alloc _).ae hf;clear hf;go_wp2_with fail
  exact HP.out _ (HF2.out.alloc _)
 ·have hm:ia c=true:=by simpa using hm
  obtain⟨W0,R,C,P,T,B,qm,s,k,ok⟩:=zU hm;obtain⟨M,hM,hM1,hM2⟩:=As ok.ok;have HG:Hid (∀w',Calls Tryz.prog 21 #[c.val] w' λe w''=>e=.returned (.tuple #[c.geo.val,.int .i64 0])/\Fr [] w' w''):=λw'=>(lm c w').mono λe w'' ⟨h1,h2⟩=>⟨by rw[h1];unfold Cfg.ans Cfg.err;rw[hm];rfl,h2⟩;have HN:Hid (∀w',Tab w'->Calls Tryz.prog 14 #[c.val] w' (kq w' c c.geo W0 R (R*W0) T C P qm B s k)):=λw' hT=>lG hm ok w' hT;have HR:Hid (∀w',Calls Tryz.prog 22 #[.int .i64 (T:Int),.int .i64 (B:Int),.int .i64 (M:Int)] w' (BK w' T B M)):=λw'=>Ad T B M ok.t1 ok.b1 ⟨ok.t2,ok.b2,hM1,hM2⟩ w';have HP1:Hid (∀w',Fr [] w w'->qU w c on zA zn zc f (.returned (.tuple #[.pointer none,.bool true])) w'):=λw' hf=>.inl ⟨rfl,hf⟩;have HP2:Hid (∀w' g tg L X Λ,L.B=B->OvO w w' L X (HSn c.geo W0 R (R*W0) T) (HTn C P R qm (R*W0)) s k [] (λb=>(tg b).1≠0) (λw=>MAt w tg g T B M G0) g T Λ (gF on zA zn zc)->qU w c on zA zn zc f (.returned (.tuple #[.pointer (some ⟨Λ.wb,0,none⟩),.bool true])) w'):=λw' g tg L X Λ hLB hO=>BN HT.out ok hM hM1 hM2 hLB HOI.out HWf.out hO;have hth:=aa ok.th;have hro:=aa ok.ro;obtain⟨h0,hh0⟩:∃h0,h0=HSn c.geo W0 R (R*W0) T:=⟨_,rfl⟩;have HT0:Hid (h0.T=T):=by rw[hh0];rfl
  have HH0:=aa hh0;rw[<- hh0]at HP2;obtain⟨g,hg⟩:∃g,g=c.geo:=⟨_,rfl⟩;rw[<- hg]at HG HN hM;have HGg:=aa hg;have HM0:=aa hM;generalize qU w c on zA zn zc f=Post at *;have HBC:=aa (Blk.new w 23 c.cells);clear hm ok hg hh0 hM;unfold Cfg.val at HG HN ⊢;unfold Geo.val at HG;go_enter Tryz.func5,Tryz.ntmps5
  go_wp2_with fail
  refine(HG.out _).mono ?_;rintro e w2 ⟨rfl,hf⟩;have HF2:Hid (Fr [] w w2):=((Fr.refl _ _).alloc _).ae hf;have HB2:=aa (HBC.out.fr hf (by simp));have HGB:Hid (Blk (w2.alloc (.cells #[.int .i64 g.words,.int .i64 g.rw,.int .i64 g.cw,.int .i64 g.regions,.int .i64 g.aF,.int .i64 g.max] 39)) w2.heap.size 39 g.cells):=Blk.new _ _ _;obtain⟨a0,a1,a2,a3,a4,a5,a6,a7,a8,a9,a10,a11,a12,a13⟩:=mD.of HB2.out;have N0:w.heap.size<w2.heap.size:=af a0;clear hf HBC;by_cases hbig:g.words>8192
  ·have hb1:decide (g.words>8192)=true:=by simpa using hbig
   have hb2:decide (8192<g.words)=true:=by simpa using hbig
   go_wp2_with fail
   exact HP1.out _ (HF2.out.alloc _)
  ·have hb1:decide (g.words>8192)=false:=by simpa using hbig
   have hb2:decide (8192<g.words)=false:=by simpa using hbig
   go_wp2_with fail
   refine(HN.out _ ((HT.out.fr HF2.out (by simp)).alloc _)).mono ?_;intro e w4 hP;obtain⟨L,X,own,rfl,hH,hB,hcf,hf,hown⟩:=hP.at (HF2.out.alloc _);rw[HGg.out,<- HH0.out]at hH;have HM4:=aa (HM.of0 hH);have HLB:=aa hB;have HF4:Hid (Fr [] w w4):=HM4.out.fr;have HB4:=(HB2.out.alloc (.cells #[.int .i64 g.words,.int .i64 g.rw,.int .i64 g.cw,.int .i64 g.regions,.int .i64 g.aF,.int .i64 g.max] 39)).fr hf (by simp);have HG4:=HGB.out.fr hf (by simp);have e3:w4.cell? ⟨w.heap.size,3,none⟩=some (.int .i64 (T:Int)):=by rw[<- hth.out];exact HB4.cell 3
   have e4:w4.cell? ⟨w.heap.size,4,none⟩=some (.int .i64 (B:Int)):=by rw[<- hro.out];exact HB4.cell 4
   have e5:w4.cell? ⟨w2.heap.size,5,none⟩=some (.int .i64 (M:Int)):=by rw[<- HM0.out];exact HG4.cell 5
   clear hP hH hB hcf hf hown HB4 HG4 HN HG HB2 HF2 a0 a1 a2 a3 a4 a5 a6 a7 a8 a9 a10 a11 a12 a13;go_wp2_with fail
   refine(HR.out _).mono ?_;intro e w5 hR;unfold BK at hR;obtain⟨gb,tg,rfl,hq,hf5,hn5⟩:=hR;have hM5:HM w w5 L X h0 _ s k [] (λb=>(tg b).1≠0) (λw=>MAt w tg gb T B M G0):=HM4.out.live HT.out (F:=[]) hf5 (λb hb=>by cases hb) (λb hb=>.inr (hn5 b hb)) hq;have HOv:=aa (yI (oc:=oc) (yD tg gb T B M G0) HT.out hM5 gb HOI.out);clear hq hf5 hn5 hM5 HR HM4 e3 e4 e5;go_wp2_with fail
   refine HOv.out.mono ?_;rintro e w6 ⟨Λ,rfl,hO⟩;rw[HT0.out]at hO;have HO6:=aa hO;clear hO HOv;go_wp2_with fail
   exact HP2.out _ _ _ _ _ _ HLB.out HO6.out
open Go.RowKit Go.Gl
def iw(W w:World)(L:HL)(s k:Nat)(Λ:WL)(g M T:Nat)(Ops:Nat->Nat->Po)(On:Nat->Nat)(V:WS)(h:HS)(x:HT)(σ:GS)(A:Nat->Nat)(Γ:WG):Prop:=
 Γ.g=g/\∃(X:HX) (rv:Nat->Option (Nat×Nat)),HM W w L X h x s k (wE Λ L.hb Γ.g T V++[]) (gD (λ_=>False) Λ Γ (·<T)) (gQ (λ_=>True) Λ Γ (·<T) T L.B M σ)/\WP W L.B h x (λ_=>False) Λ Γ M T V σ A rv Ops On True
def kD(W w:World)(L:HL)(s k:Nat)(Λ:WL)(g M T:Nat)(Ops:Nat->Nat->Po)(On:Nat->Nat)(P:WS->HS->HT->GS->(Nat->Nat)->WG->Prop):Prop:=
 ∃V h x σ A Γ,iw W w L s k Λ g M T Ops On V h x σ A Γ/\P V h x σ A Γ
section
variable {W w w':World}{L:HL}{s k:Nat}{Λ:WL}{g M T:Nat}{Ops:Nat->Nat->Po}{On:Nat->Nat}{V V':WS}{h h':HS}{x:HT}{σ σ':GS}{A A':Nat->Nat}{Γ Γ':WG}{t:Nat}{P:WS->HS->HT->GS->(Nat->Nat)->WG->Prop}
theorem iw.fr0(H:iw W w L s k Λ g M T Ops On V h x σ A Γ)(hf:Fr [] w w'):iw W w' L s k Λ g M T Ops On V h x σ A Γ:=by
 obtain⟨e,X,rv,h1,h2⟩:=H;exact⟨e,X,rv,h1.fr0 (eh ah.none _ _ _ _ _ _ _) hf,h2⟩
theorem iw.fr(H:iw W w L s k Λ g M T Ops On V h x σ A Γ):Fr [] W w:=by
 obtain⟨e,X,rv,h1,h2⟩:=H;exact h1.fr
theorem kD.fr(H:kD W w L s k Λ g M T Ops On P):Fr [] W w:=by
 obtain⟨V,h,x,σ,A,Γ,h1,h2⟩:=H;exact h1.fr
theorem iw.step(hT:Tab W)(H:iw W w L s k Λ g M T Ops On V h x σ A Γ)(ht:t<T) :
  Calls Tryz.prog 6 #[.pointer (some ⟨Λ.wb,0,none⟩),.int .i64 (t:Int)] w λe w'=>e=.returned (.bool true)/\∃V' h' x' σ' A' Γ',iw W w' L s k Λ g M T Ops On V' h' x' σ' A' Γ'/\WR t On Ops h h' Γ Γ' V V' σ σ' A A':=by
 obtain⟨e,X,rv,h1,h2⟩:=H;have fin:∀e' w',WSP W L h s k [] (λ_=>False) (λ_=>True) Λ Γ t M T V σ A Ops On True e' w'->e'=.returned (.bool true)/\∃V' h' x' σ' A' Γ',iw W w' L s k Λ g M T Ops On V' h' x' σ' A' Γ'/\WR t On Ops h h' Γ Γ' V V' σ σ' A A':=λe' w' ⟨q1,X',h',x',V',σ',A',rv',Γ',q2,q3,q4⟩=>⟨q1,V',h',x',σ',A',Γ',⟨q4.2.2.2.1.trans e,X',rv',q2,q3⟩,q4⟩;by_cases hst:(V.mu t).st=0
 ·by_cases hn:On t<=V.nx t
  ·exact(tz ah.none hT h1 h2 ht hst hn).mono fin
  ·exact(qT ah.none hT h1 (λq hq=>by cases hq) h2 ht (.inr (by omega))).mono fin
 ·exact(qT ah.none hT h1 (λq hq=>by cases hq) h2 ht (.inl hst)).mono fin
theorem BO(s:Int):rkM s<=4:=by unfold rkM;split <;> (try split) <;> (try split) <;> (try split) <;> omega
theorem AQ{s:Int}(h0:s≠0)(h6:s≠6):2<=rkM s:=by unfold rkM;rw[if_neg h0,if_neg h6];split <;> (try split) <;> omega
theorem WR.rk(r:WR t On Ops h h' Γ Γ' V V' σ σ' A A')(hs:V.sy=false)(h0:(V.mu t).st≠0):rkM (V'.mu t).st<rkM (V.mu t).st:=by
 obtain⟨-,-,-,-,-,-,-,r⟩:=r;rcases r with r|⟨-,-,-,-,r,-⟩|⟨-,-,-,r1,-,r2,-⟩|⟨r1,r2,-⟩|⟨r1,-,-,r2,-⟩|⟨-,r1,-,-,r2,-⟩|r
 ·exact absurd r.1 h0
 ·rw[if_neg h0]at r;exact r
 ·rw[r1,r2];decide
 ·rw[r1,r2];decide
 ·have:=AQ h0 r1;rcases r2 with r2|r2 <;> (rw[r2];first|(have:rkM 0=0:=by decide);omega|(have:rkM 6=1:=by decide);omega)
 ·have:=AQ h0 r1;have e:rkM 0=0:=by decide
  rw[r2];omega
 ·rw[hs]at r;cases r.1
theorem WR.sy(r:WR t On Ops h h' Γ Γ' V V' σ σ' A A'):V'.sy=V.sy/\V'.mg=V.mg/\∀i,i≠t->V'.mu i=V.mu i/\V'.nx i=V.nx i:=⟨r.1,r.2.1,r.2.2.2.2.1⟩
end
theorem yJ(p:Int)(hp:-9223372036854775808<=p/\p<=9223372036854775807){n:Nat}(h1:1<=n)(h2:n<=64)(w:World):Calls Tryz.prog 7 #[.int .i64 p,.int .i64 (n:Int)] w λe w'=>∃t:Nat,t<n/\e=.returned (.int .i64 (t:Int))/\w=w':=by
 have hne:¬ (n:Int)=0:=by omega
 have a1:-(n:Int)<p.tmod (n:Int)/\p.tmod (n:Int)<(n:Int):=⟨by have:=Int.lt_tmod_of_pos p (show(0:Int)<(n:Int)by omega);omega,Int.tmod_lt_of_pos p (by omega)⟩;have hw1:IntKind.i64.wrap (p.tmod (n:Int))=p.tmod (n:Int):=IntWalk.i64_in _ ⟨by omega,by omega⟩;have hw2:IntKind.i64.wrap (p.tmod (n:Int)+(n:Int))=p.tmod (n:Int)+(n:Int):=IntWalk.i64_in _ ⟨by omega,by omega⟩;have a2:0<=(p.tmod (n:Int)+(n:Int)).tmod (n:Int)/\(p.tmod (n:Int)+(n:Int)).tmod (n:Int)<(n:Int):=⟨Int.tmod_nonneg _ (by omega),Int.tmod_lt_of_pos _ (by omega)⟩;have a3:(p.tmod (n:Int)+(n:Int)).tmod (n:Int)=(p.tmod (n:Int)+(n:Int)) % (n:Int):=Int.tmod_eq_emod_of_nonneg (by omega);have a4:(p.tmod (n:Int)+(n:Int)) % (n:Int)=p.tmod (n:Int) % (n:Int):=by rw[Int.add_emod_right]
 obtain⟨t,ht⟩:=Int.eq_ofNat_of_zero_le a2.1;have hw3:IntKind.i64.wrap ((p.tmod (n:Int)+(n:Int)).tmod (n:Int))=(t:Int):=by rw[<- ht];exact IntWalk.i64_in _ ⟨by omega,by omega⟩
 have hE:Hid (t<n):=by show t<n;omega
 go_enter Tryz.func7,Tryz.ntmps7
 go_wp2_with fail
 go_ret
 exact⟨t,hE.out,by rw[show p.tmod (n:Int) % (n:Int)=(t:Int)by rw[<- a4,<- a3,ht]];rfl,rfl⟩
end Go.Proofs.YtimlkjppaalfaaaGreatDoor
