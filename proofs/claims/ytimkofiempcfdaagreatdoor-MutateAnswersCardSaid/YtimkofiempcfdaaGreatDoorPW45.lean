/- Several texts joined (pack.py): Zx Zy L15An Frame Card Oa. -/
import Derived.Test.YtimkofiempcfdaaGreatDoorPW44
import Derived.Deep.CutRange
import Derived.WalkKit
import Derived.BigQuiet
import Derived.Test.YtimkofiempcfdaaGreatDoorPW39
import Derived.StillTailTactics
import Derived.ProofKit
import Derived.OpenShut
import Derived.Carry
import Derived.Below
import Derived.Deep.Slices
import Derived.Deep.Fields
import Derived.ChangeSame
import Derived.Test.YtimkofiempcfdaaGreatDoorPW00
import Derived.Test.YtimkofiempcfdaaGreatDoorCards
import Derived.Test.YtimkofiempcfdaaGreatDoorTie
import Derived.Deep.DeepHandedRow
import Derived.Lib.LaidTab
set_option linter.unusedVariables false
set_option linter.unusedSimpArgs false
set_option maxHeartbeats 6400000
set_option maxRecDepth 100000
open Nat renaming lt_of_lt_of_le->Ef,zero_le->Ei
namespace Go.Proofs.YtimkofiempcfdaaGreatDoor
open Go.RowKit Go.Gl HS
section
variable {W w w':World}{L:HL}{s k:Nat}{Λ:WL}{g M T:Nat}{Ops:Nat->Nat->Po}{On:Nat->Nat}{V V':WS}{h h':HS}{x:HT}{σ σ':GS}{A A':Nat->Nat}{Γ Γ':WG}{t:Nat}{P:WS->HS->HT->GS->(Nat->Nat)->WG->Prop}
theorem ru(H:gP W w L s k Λ g M T Ops On V h x σ A Γ)(hidle:∀i,i<T->(V.mu i).st=0) :
  Calls Tryz.prog 12 #[.pointer (some ⟨Λ.wb,0,none⟩)] w λe w'=>e=.returned (.bool true)/\gP W w' L s k Λ g M T Ops On V h x σ A Γ:=by
 obtain⟨eg,X,rv,h1,h2⟩:=H;have hS:=dZ ah.none Λ Γ (·<T) T L.B M σ;have I:=h2.wi;have hrv:∀i,i<h.T->rv i=none:=λi hi=>by
  rw[I.eT]at hi;exact(I.ph i hi).idle (hidle i hi)
 have ok:=h1.ok;have hso:=I.sim.sound hrv ok I.gk;have hsh:=I.sim.shape hrv ok I.gk;rw[I.eT]at hsh;obtain⟨S,hSS⟩:∃S,S=shape σ T:=⟨_,rfl⟩;have HSh:=vj h1.hr hso;rw[I.eT,hsh,<- hSS]at HSh;unfold Bv at HSh;have HS1:=aa HSh;have HLk:Hid (∀w1 w2,HM W w1 L X h x s k (wE Λ L.hb Γ.g T V++[]) (gD (λ_=>False) Λ Γ (·<T)) (gQ (λ_=>True) Λ Γ (·<T) T L.B M σ)->Hr w2 L h s k->Fr [L.ab] w1 w2->HM W w2 L X h x s k (wE Λ L.hb Γ.g T V++[]) (gD (λ_=>False) Λ Γ (·<T)) (gQ (λ_=>True) Λ Γ (·<T) T L.B M σ)):=λw1 w2 q hr hf=>q.looked hS hr hf;have HCk:Hid (∀w1,HM W w1 L X h x s k (wE Λ L.hb Γ.g T V++[]) (gD (λ_=>False) Λ Γ (·<T)) (gQ (λ_=>True) Λ Γ (·<T) T L.B M σ)->Calls Tryz.prog 34 #[.pointer (some ⟨L.hb,0,none⟩)] w1 λe w2=>e=.returned (.int .i64 0)/\HM W w2 L X h x s k (wE Λ L.hb Γ.g T V++[]) (gD (λ_=>False) Λ Γ (·<T)) (gQ (λ_=>True) Λ Γ (·<T) T L.B M σ)/\Fr [L.ab] w1 w2):=λw1 q=>by
  have:=lJ q.hr;rw[kc hso]at this;refine Calls.mono this ?_;rintro e w2 ⟨rfl,hr,hf⟩;exact⟨rfl,q.looked hS hr hf,hf⟩
 have HGs:Hid (∀w1,HM W w1 L X h x s k (wE Λ L.hb Γ.g T V++[]) (gD (λ_=>False) Λ Γ (·<T)) (gQ (λ_=>True) Λ Γ (·<T) T L.B M σ)->Calls Tryz.prog 36 #[.pointer (some ⟨Γ.g,0,none⟩)] w1 (iS w1 S)):=λw1 q=>by
  obtain⟨Λm,hm,em⟩:=q.q.2.2.2.1;rw[<- em,hSS];exact tJ hm I.gk h2.gd (by have:=h2.can;omega)
 have HCl:Hid (∀w1,HM W w1 L X h x s k (wE Λ L.hb Γ.g T V++[]) (gD (λ_=>False) Λ Γ (·<T)) (gQ (λ_=>True) Λ Γ (·<T) T L.B M σ)->w1.cell? ⟨Λ.wb,0,none⟩=some (.pointer (some ⟨L.hb,0,none⟩))/\w1.cell? ⟨Λ.wb,5,none⟩=some (.pointer (some ⟨Γ.g,0,none⟩))):=λw1 q=>by
  have hb:=q.blk (b:=Λ.wb) (t:=37) (cs:=wdV L.hb Λ.sb Λ.mA T Λ.mc Λ.pb Λ.nb T Γ.g V.dl V.wn V.sy) (by simp[wE,w4E]);exact⟨hb.cell 0,hb.cell 5⟩
 have HAb:Hid (∀w1 w2 (A:Option Addr) (n c:Nat) (G:List Nat) (xs:List Value),HM W w1 L X h x s k (wE Λ L.hb Γ.g T V++[]) (gD (λ_=>False) Λ Γ (·<T)) (gQ (λ_=>True) Λ Γ (·<T) T L.B M σ)->Lr w1 64 A n c G xs->Fr [L.ab] w1 w2->Lr w2 64 A n c G xs):=λw1 w2 A n c G xs q hl hf=>by
  obtain⟨ca,hca⟩:=q.hr.ar;exact hl.fr hf (λg hg hx=>by simp at hx;subst hx;exact hl.apart hca.set (by decide) hg)
 have HEnd:Hid (∀w1,HM W w1 L X h x s k (wE Λ L.hb Γ.g T V++[]) (gD (λ_=>False) Λ Γ (·<T)) (gQ (λ_=>True) Λ Γ (·<T) T L.B M σ)->gP W w1 L s k Λ g M T Ops On V h x σ A Γ):=λw1 q=>⟨eg,X,rv,q,h2⟩;have HSg:=aa hS;obtain⟨d0,d5⟩:=HCl.out _ h1;have HA1:=aa h1;clear h1 h2 I hrv ok hso hsh hSS HSh hS hidle eg;generalize gP W w L s k Λ g M T Ops On V h x σ A Γ=Q0 at *;go_enter Tryz.func12,Tryz.ntmps12
 go_wp2_with fail
 refine HS1.out.mono ?_;rintro e w1 ⟨A1,c1,G1,rfl,hL1,hG1,hr1,hf1⟩;have HA2:=aa (HLk.out _ _ HA1.out hr1 hf1);have hlm:S.length<=9223372036854775807:=by
  have a:=hL1.le;have b:=hL1.max;unfold maxLen at b;omega
 have HLM:=aa hlm;have HL1:=aa hL1;have HC1:=aa (HCk.out _ HA2.out);clear d0 d5 hL1 hG1 hr1 hf1 hlm HA1 HS1;obtain⟨d0,d5⟩:=HCl.out _ HA2.out;go_wp2_with fail
 refine HC1.out.mono ?_;rintro e w2 ⟨rfl,hA3,hf2⟩;have HL2:=aa (HAb.out _ _ _ _ _ _ _ HA2.out HL1.out hf2);have HG3:=aa (HGs.out _ hA3);have HA3:=aa hA3;clear d0 d5 hf2 hA3 HA2 HL1 HC1;obtain⟨d0,d5⟩:=HCl.out _ HA3.out;go_wp2_with fail
 refine HG3.out.mono ?_;rintro e w3 ⟨A3,n3,c3,G3,rfl,hL3,hf3,-⟩;have hn3:S.length=n3:=by have:=hL3.len;rw[gz]at this;exact this
 subst hn3;have HSm:=aa (wh (ca:=c1) (cb:=c3) (kZ (HL2.out.fr0 hf3)) (kZ hL3) HLM.out HLM.out);rw[show decide (S=S)=true by simp]at HSm;have HA4:=aa (HEnd.out _ (HA3.out.fr0 HSg.out hf3));clear d0 d5 hf3 hL3 HA3 HL2 HG3;go_wp2_with fail
 refine HSm.out.mono ?_;rintro e w4 ⟨rfl,q4,rfl⟩;go_wp2_with fail
 go_ret
 exact⟨rfl,HA4.out.fr0 ((Fr.refl _ _).drewN _)⟩
theorem gP.cells(H:gP W w L s k Λ g M T Ops On V h x σ A Γ):w.cell? ⟨Λ.wb,2,none⟩=some (.slice Λ.mA T Λ.mc):=by
 obtain⟨eg,X,rv,h1,h2⟩:=H;exact(h1.blk (b:=Λ.wb) (t:=37) (cs:=wdV L.hb Λ.sb Λ.mA T Λ.mc Λ.pb Λ.nb T Γ.g V.dl V.wn V.sy) (by simp[wE,w4E])).cell 2
theorem gP.jQ(H:gP W w L s k Λ g M T Ops On V h x σ A Γ)(ht:t<T):∃gm om oA oc,Λ.mA=some ⟨gm,om,none⟩/\w.cell? ⟨gm,om+t,none⟩=some (.pointer (some ⟨Λ.P t,0,none⟩))/\w.cell? ⟨Λ.wb,2,none⟩=some (.slice (some ⟨gm,om,none⟩) T Λ.mc)/\w.cell? ⟨Λ.wb,3,none⟩=some (.slice (some ⟨Λ.pb,0,none⟩) T T) /\
  w.cell? ⟨Λ.wb,4,none⟩=some (.slice (some ⟨Λ.nb,0,none⟩) T T)/\w.cell? ⟨Λ.nb,t,none⟩=some (.int .i64 (V.nx t:Int))/\w.cell? ⟨Λ.pb,t,none⟩=some (.slice oA (On t) oc)/\On t<=60/\V.nx t<=On t /\
  (Calls Tryz.prog 19 #[.pointer (some ⟨Λ.P t,0,none⟩)] w λe w'=>e=.returned (.bool ((V.mu t).st==0))/\w=w')/\((V.mu t).st≠0->(V.mu t).st≠6->V.nx t<On t):=by
 obtain⟨eg,X,rv,h1,h2⟩:=H;obtain⟨gm,om,hmA,d0,d2,d3,d4,d5,d6,d7,d8,dn,dp⟩:=h1.gp h1.q.2.1 ht;obtain⟨oA,oc,hop,-⟩:=h2.ops t ht;rw[hop]at dp;exact⟨gm,om,oA,oc,hmA,d0,d2,d3,d4,dn,dp,h2.ol t,h2.nx t ht,dY ((h1.lZ ht).blk (List.mem_cons_self ..)),λa b=>(h2.cur t ht a b).1⟩
theorem yJ(hT:Tab W)(hT64:T<=64)(H:gR W w L s k Λ g M T Ops On (λV _ _ _ _ _=>V.sy=false)) :
  Calls Tryz.prog 11 #[.pointer (some ⟨Λ.wb,0,none⟩)] w λe w'=>e=.returned (.bool true)/\gR W w' L s k Λ g M T Ops On (λV _ _ _ _ _=>V.sy=false/\∀i,i<T->(V.mu i).st=0):=by
 have HT:=aa hT;have HH:=aa H;clear hT H;go_enter Tryz.func11,Tryz.ntmps11
 go_wp2_with fail
 go_loopw [3] (λi wr=>∃n:Nat,i=.int .i64 n/\n<=T/\gR W wr L s k Λ g M T Ops On (λV _ _ _ _ _=>V.sy=false/\∀j,j<n->(V.mu j).st=0)) (λi _=>T-(intOf i).toNat)
 case atStart=>
  refine⟨0,rfl,Ei _,?_⟩;obtain⟨V,h,x,σ,A,Γ,h1,h2⟩:=HH.out;exact⟨V,h,x,σ,A,Γ,h1,h2,λj hj=>absurd hj (by omega)⟩
 case round=>
  obtain⟨n,rfl,hn,hI⟩:=hrel;have HI:=aa hI;obtain⟨V,h,x,σ,A,Γ,h1,h2,h3⟩:=hI;have d2:=h1.cells;by_cases hlt:n<T
  ·have hlt1:(n:Int)<(T:Int):=by omega
   have hT1:(T:Int)<=64:=by omega
   have HL:=aa hlt;have H1:Hid (gR W wr L s k Λ g M T Ops On (λV _ _ _ _ _=>V.sy=false/\(∀j,j<n->(V.mu j).st=0)/\0+rkM (V.mu n).st<=4)):=⟨V,h,x,σ,A,Γ,h1,h2,h3,by have:=yG (V.mu n).st;omega⟩;clear h1 h2 h3 HI HH;go_wp2_with fail
   clear d2;obtain⟨w0,hw0⟩:∃w0,w0=wr:=⟨_,rfl⟩;subst hw0;go_loopw [4] (λi wr=>∃j:Nat,i=.int .i64 j/\j<=4/\gR W wr L s k Λ g M T Ops On (λV _ _ _ _ _=>V.sy=false/\(∀j,j<n->(V.mu j).st=0)/\j+rkM (V.mu n).st<=4)) (λi _=>5-(intOf i).toNat)
   case atStart=>exact⟨0,rfl,by omega,H1.out⟩
   case round=>
    obtain⟨j,rfl,hj,hI⟩:=hrel;obtain⟨V,h,x,σ,A,Γ,h1,h2,h3,h4⟩:=hI;obtain⟨gm,om,oA,oc,hmA,d0,d2,d3,d4,dn,dp,hol,hnx,hid,hc⟩:=h1.jQ HL.out;have HId:=aa hid;have HSt:=aa (h1.step HT.out HL.out);have HA1:=aa h1;have HR:Hid (V.sy=false/\(∀j,j<n->(V.mu j).st=0)/\j+rkM (V.mu n).st<=4):=⟨h2,h3,h4⟩;clear h1 h2 h3 h4 hid hmA d3 d4 dn dp hol hnx hc H1;by_cases hst:(V.mu n).st=0
    ·have e1:((V.mu n).st==0)=true:=by simpa using hst
     rw[e1]at HId;have HE:Hid (gR W wr L s k Λ g M T Ops On (λV _ _ _ _ _=>V.sy=false/\∀j,j<n+1->(V.mu j).st=0)):=⟨V,h,x,σ,A,Γ,HA1.out,HR.out.1,λi hi=>by
      by_cases e:i=n
      ·subst e;exact hst
      ·exact HR.out.2.1 i (by omega)⟩
     clear hst e1 HSt HA1 HR;go_wp2_with fail
     refine HId.out.mono ?_;rintro e w1 ⟨rfl,rfl⟩;go_wp2_with fail
     go_roundw
     case rel=>exact⟨n+1,by go_num,by have:=HL.out;omega,HE.out⟩
     case measure=>simp[intOf];have:=HL.out;omega
    ·have e1:((V.mu n).st==0)=false:=by simpa using hst
     rw[e1]at HId;have HN:=aa hst;have hj9:decide ((j:Int)>9)=false:=by simp;omega
     clear hst e1;go_wp2_with fail
     refine HId.out.mono ?_;rintro e w1 ⟨rfl,rfl⟩;go_wp2_with fail
     refine HSt.out.mono ?_;rintro e w2 ⟨rfl,V',h',x',σ',A',Γ',g1,g2⟩;have hrk:=g2.rk HR.out.1 HN.out;have hsy:=g2.sy;have hj2:j+1+rkM (V'.mu n).st<=4:=by have:=HR.out.2.2;omega
     have HE:Hid (gR W w2 L s k Λ g M T Ops On (λV _ _ _ _ _=>V.sy=false/\(∀j,j<n->(V.mu j).st=0)/\j+1+rkM (V.mu n).st<=4)):=⟨V',h',x',σ',A',Γ',g1,hsy.1.trans HR.out.1,λi hi=>by
      rw[(hsy.2.2 i (by omega)).1];exact HR.out.2.1 i hi,hj2⟩
     have HJ:Hid (j+1<=4):=by show _<=_;omega
     clear g1 g2 hrk hsy hj2 HSt HA1 HR d0 d2;go_wp2_with fail
     go_roundw
     case rel=>exact⟨j+1,by go_num,HJ.out,HE.out⟩
     case measure=>simp[intOf];have:=HJ.out;omega
  ·obtain rfl:n=T:=by omega
   clear h1 h2 h3 HH;go_wp2_with fail
   go_ret
   exact⟨rfl,HI.out⟩
end
section
variable {W w w':World}{L:HL}{s k:Nat}{Λ:WL}{g M T:Nat}{Ops:Nat->Nat->Po}{On:Nat->Nat}{V V':WS}{h h':HS}{x:HT}{σ σ':GS}{A A':Nat->Nat}{Γ Γ':WG}{t:Nat}{P:WS->HS->HT->GS->(Nat->Nat)->WG->Prop}
theorem Am(hT:Tab W)(hT64:T<=64)(H:gR W w L s k Λ g M T Ops On (λV _ _ _ _ _=>V.sy=false)) :
  Calls Tryz.prog 13 #[.pointer (some ⟨Λ.wb,0,none⟩)] w λe w'=>e=.returned (.bool true)/\gR W w' L s k Λ g M T Ops On (λV _ _ _ _ _=>V.sy=false/\∀i,i<T->(V.mu i).st=0):=by
 have HT:=aa hT;have HH:=aa H;clear hT H;go_enter Tryz.func13,Tryz.ntmps13
 go_wp2_with fail
 go_loopw [3] (λi wr=>∃n:Nat,i=.int .i64 n/\n<=T/\gR W wr L s k Λ g M T Ops On (λV _ _ _ _ _=>V.sy=false/\∀j,j<n->(V.mu j).st=0)) (λi _=>T-(intOf i).toNat)
 case atStart=>
  refine⟨0,rfl,Ei _,?_⟩;obtain⟨V,h,x,σ,A,Γ,h1,h2⟩:=HH.out;exact⟨V,h,x,σ,A,Γ,h1,h2,λj hj=>absurd hj (by omega)⟩
 case round=>
  obtain⟨n,rfl,hn,hI⟩:=hrel;have HI:=aa hI;obtain⟨V,h,x,σ,A,Γ,h1,h2,h3⟩:=hI;have d2:=h1.cells;by_cases hlt:n<T
  ·have hlt1:(n:Int)<(T:Int):=by omega
   have hT1:(T:Int)<=64:=by omega
   have HL:=aa hlt;have hle:=h1.jQ hlt;have H1:Hid (gR W wr L s k Λ g M T Ops On (λV _ _ _ _ _=>V.sy=false/\(∀j,j<n->(V.mu j).st=0)/\0+ic On V n<=364)):=⟨V,h,x,σ,A,Γ,h1,h2,h3,by
    obtain⟨_,_,_,_,_,_,_,_,_,_,_,hol,_⟩:=hle;have:=yH On V n hol;omega⟩
   clear h1 h2 h3 HI HH hle;go_wp2_with fail
   clear d2;obtain⟨w0,hw0⟩:∃w0,w0=wr:=⟨_,rfl⟩;subst hw0;go_loopw [4] (λi wr=>∃j:Nat,i=.int .i64 j/\j<=364/\gR W wr L s k Λ g M T Ops On (λV _ _ _ _ _=>V.sy=false/\(∀j,j<n->(V.mu j).st=0)/\j+ic On V n<=364)) (λi _=>365-(intOf i).toNat)
   case atStart=>exact⟨0,rfl,by omega,H1.out⟩
   case round=>
    obtain⟨j,rfl,hj,hI⟩:=hrel;obtain⟨V,h,x,σ,A,Γ,h1,h2,h3,h4⟩:=hI;have HA1:=aa h1;have HR:Hid (V.sy=false/\(∀j,j<n->(V.mu j).st=0)/\j+ic On V n<=364):=⟨h2,h3,h4⟩;obtain⟨gm,om,oA,oc,hmA,d0,d2,d3,d4,dn,dp,hol,hnx,-,hc⟩:=h1.jQ HL.out;have HC:=aa hc;have HId:Hid (∀q,Calls Tryz.prog 19 #[.pointer (some ⟨Λ.P n,0,none⟩)] (wr.drewN q) λe w'=>e=.returned (.bool ((V.mu n).st==0))/\wr.drewN q=w'):=λq=>by
     obtain⟨_,_,_,_,_,_,_,_,_,_,_,_,_,hid,_⟩:=(h1.fr0 ((Fr.refl _ _).drewN q)).jQ HL.out;exact hid
    have HId1:Hid (Calls Tryz.prog 19 #[.pointer (some ⟨Λ.P n,0,none⟩)] wr.drew λe w'=>e=.returned (.bool ((V.mu n).st==0))/\wr.drew=w'):=by
     obtain⟨_,_,_,_,_,_,_,_,_,_,_,_,_,hid,_⟩:=(h1.fr0 ((Fr.refl _ _).drew)).jQ HL.out;exact hid
    have HSt:Hid (∀w1,Fr [] wr w1->Calls Tryz.prog 9 #[.pointer (some ⟨Λ.wb,0,none⟩),.int .i64 (n:Int)] w1 λe w'=>e=.returned (.bool true)/\∃V' h' x' σ' A' Γ',gP W w' L s k Λ g M T Ops On V' h' x' σ' A' Γ'/\WR n On Ops h h' Γ Γ' V V' σ σ' A A'):=λw1 hf=>(h1.fr0 hf).step HT.out HL.out;have HM:=aa hmA;clear h1 h2 h3 h4 hmA hc H1;obtain⟨nx,hnxe⟩:∃nx,nx=V.nx n:=⟨_,rfl⟩;obtain⟨nn,hnn⟩:∃nn,nn=On n:=⟨_,rfl⟩;rw[<- hnxe]at dn hnx;rw[<- hnn]at dp hol hnx;have HX:Hid (nx=V.nx n/\nn=On n):=⟨hnxe,hnn⟩;have hj9:decide ((j:Int)>600)=false:=by simp;omega
    clear hnxe hnn;by_cases hgo:(V.mu n).st≠0\/nx<nn
    ·have HGo:=aa hgo;have key:∀(P:Prop),P->P:=λ_ p=>p;have hcond:nx<nn\/(¬ nx<nn/\((V.mu n).st==0)=false):=by
      by_cases e:nx<nn
      ·exact .inl e
      ·exact .inr ⟨e,by rcases hgo with e2|e2 <;> simp_all⟩
     clear hgo key;rcases hcond with hlt2|⟨hlt2,e1⟩
     ·have hd:decide ((nx:Int)<(nn:Int))=true:=by simpa using hlt2
      go_wp2_with fail
      go_quiet (fail)
      obtain⟨w5,hw5⟩:∃w5,w5=wr.drewN nq:=⟨_,rfl⟩;rw[<- hw5];have HS5:=aa (HSt.out w5 (by rw[hw5];exact(Fr.refl _ _).drewN _));clear hw5 HSt HId HId1 HA1 d0 d2 d3 d4 dn dp hd;go_wp2_with fail
      refine HS5.out.mono ?_;rintro e w2 ⟨rfl,V',h',x',σ',A',Γ',g1,g2⟩;have hlw:=g2.left HR.out.1 HC.out (by rw[<- HX.out.1,<- HX.out.2];exact HGo.out);have hsy:=g2.sy;have hj2:j+1+ic On V' n<=364:=by have:=HR.out.2.2;omega
      have HE:Hid (gR W w2 L s k Λ g M T Ops On (λV _ _ _ _ _=>V.sy=false/\(∀j,j<n->(V.mu j).st=0)/\j+1+ic On V n<=364)):=⟨V',h',x',σ',A',Γ',g1,hsy.1.trans HR.out.1,λi hi=>by
       rw[(hsy.2.2 i (by omega)).1];exact HR.out.2.1 i hi,hj2⟩
      have HJ:Hid (j+1<=364):=by show _<=_;omega
      clear g1 g2 hlw hsy hj2 HS5 HR;go_wp2_with fail
      go_roundw
      case rel=>exact⟨j+1,by go_num,HJ.out,HE.out⟩
      case measure=>simp[intOf];have:=HJ.out;omega
     ·have hd:decide ((nx:Int)<(nn:Int))=false:=by simpa using hlt2
      rw[e1]at HId HId1;go_wp2_with fail
      go_quiet ((go_at_call 19;exact aB (HId.out _)))
      obtain⟨w5,hw5⟩:∃w5,w5=wr.drewN nq:=⟨_,rfl⟩;rw[<- hw5];have HS5:=aa (HSt.out w5 (by rw[hw5];exact(Fr.refl _ _).drewN _));clear hw5 HSt HId HId1 HA1 d0 d2 d3 d4 dn dp hd;go_wp2_with fail
      refine HS5.out.mono ?_;rintro e w2 ⟨rfl,V',h',x',σ',A',Γ',g1,g2⟩;have hlw:=g2.left HR.out.1 HC.out (by rw[<- HX.out.1,<- HX.out.2];exact HGo.out);have hsy:=g2.sy;have hj2:j+1+ic On V' n<=364:=by have:=HR.out.2.2;omega
      have HE:Hid (gR W w2 L s k Λ g M T Ops On (λV _ _ _ _ _=>V.sy=false/\(∀j,j<n->(V.mu j).st=0)/\j+1+ic On V n<=364)):=⟨V',h',x',σ',A',Γ',g1,hsy.1.trans HR.out.1,λi hi=>by
       rw[(hsy.2.2 i (by omega)).1];exact HR.out.2.1 i hi,hj2⟩
      have HJ:Hid (j+1<=364):=by show _<=_;omega
      clear g1 g2 hlw hsy hj2 HS5 HR;go_wp2_with fail
      go_roundw
      case rel=>exact⟨j+1,by go_num,HJ.out,HE.out⟩
      case measure=>simp[intOf];have:=HJ.out;omega
    ·have hn0:¬ nx<nn:=λe=>hgo (.inr e);have e0:(V.mu n).st=0:=Classical.byContradiction λe=>hgo (.inl e);have e1:((V.mu n).st==0)=true:=by simpa using e0
     have hd:decide ((nx:Int)<(nn:Int))=false:=by simpa using hn0
     rw[e1]at HId HId1;have HE:Hid (∀w1,Fr [] wr w1->gR W w1 L s k Λ g M T Ops On (λV _ _ _ _ _=>V.sy=false/\∀j,j<n+1->(V.mu j).st=0)):=λw1 hf=>⟨V,h,x,σ,A,Γ,HA1.out.fr0 hf,HR.out.1,λi hi=>by
      by_cases e:i=n
      ·subst e;exact e0
      ·exact HR.out.2.1 i (by omega)⟩
     clear hgo e0 e1 HSt HA1 HR HC HX;go_wp2_with fail
     go_quiet ((go_at_call 19;exact aB (HId.out _)))
     go_wp2_with fail
     go_roundw
     case rel=>exact⟨n+1,by go_num,by have:=HL.out;omega,HE.out _ ((Fr.refl _ _).drewN _)⟩
     case measure=>simp[intOf];have:=HL.out;omega
  ·obtain rfl:n=T:=by omega
   clear h1 h2 h3 HH;go_wp2_with fail
   go_ret
   exact⟨rfl,HI.out⟩
end
theorem jN.fr0{w w':World}{v:Value}{n:Nat}{f:Nat->Po}(h:jN w v n f)(hf:Fr [] w w'):jN w' v n f:=by
 obtain⟨A,c,e,h2⟩:=h;refine⟨A,c,e,λhn=>?_⟩;obtain⟨b,off,e1,e2,e3⟩:=h2 hn;have tr:∀j,w'.cell? ⟨b,j,none⟩=w.cell? ⟨b,j,none⟩:=λj=>hf.cell (p:=⟨b,j,none⟩) e2 (by simp);refine⟨b,off,e1,Ef e2 hf.size,λj hj=>?_⟩;rw[tr,tr,tr,tr,tr];exact e3 j hj
theorem kC.fr0{w w':World}{A:Option Addr}{n:Nat}{rA:Nat->Option Addr}{rn rc:Nat->Nat}{f:Nat->Nat->Po}(h:kC w A n rA rn rc f)(hf:Fr [] w w'):kC w' A n rA rn rc f:=by
 refine⟨λhn=>?_,h.len,λi hi=>(h.ops i hi).fr0 hf⟩;obtain⟨b,off,e1,e2,e3⟩:=h.row hn;exact⟨b,off,e1,Ef e2 hf.size,λi hi=>(hf.cell (p:=⟨b,off+i,none⟩) e2 (by simp)).trans (e3 i hi)⟩
end Go.Proofs.YtimkofiempcfdaaGreatDoor
namespace Go.Proofs.YtimkofiempcfdaaGreatDoor.MutateAnswers
open Go.RowKit Go.Gl HS
theorem walk(c:Cfg){oA pA:Option Addr}{on oc pn pc:Nat}{zA:Nat->Option Addr}{zn zc:Nat->Nat}{f:Nat->Nat->Po}{ps:List Int}(w:World)(hT:Tab w)(hO:kC w oA on zA zn zc f)
  (hwf:∀i j,i<on->j<zn i->dB (f i j)/\0<=(f i j).v/\(f i j).v<18446744073709551616) (hP:Sl w pA pn (λk=>.int .i64 (ps.getD k 0))) (hps:∀z,z∈ps->-9223372036854775808<=z/\z<=9223372036854775807) (hpn:pn<=maxLen) :
  Calls Tryz.prog 3 #[c.val,.slice oA on oc,.slice pA pn pc] w λe w'=>e=.returned (.bool true)/\Fr [] w w':=by
 have HT:=aa hT;have HBg:Hid (∀w',Fr [] w w'->Calls Tryz.prog 8 #[c.val,.slice oA on oc] w' (rq w' c on zA zn zc f)):=λw' hf=>wg c w' (hT.fr hf (by simp)) (hO.fr0 hf) hwf;have HPk:Hid (∀k w',k<pn->Fr [] w w'->∃b off,pA=some ⟨b,off,none⟩/\w'.cell? ⟨b,off+k,none⟩=some (.int .i64 (ps.getD k 0))):=λk w' hk hf=>by
  obtain⟨b,off,e1,e2,e3⟩:=hP (by omega);exact⟨b,off,e1,(hf.cell (p:=⟨b,off+k,none⟩) e2 (by simp)).trans (e3 k hk)⟩
 have HPb:Hid (∀k,-9223372036854775808<=ps.getD k 0/\ps.getD k 0<=9223372036854775807):=λk=>by
  rw[List.getD_eq_getElem?_getD];by_cases h:k<ps.length
  ·rw[List.getElem?_eq_getElem h];exact hps _ (List.getElem_mem h)
  ·rw[List.getElem?_eq_none (by omega)];exact⟨by decide,by decide⟩
 have hpm:pn<=9223372036854775807:=by unfold maxLen at hpn;omega
 clear hT hO hwf hP hps hpn;unfold Cfg.val at HBg ⊢;go_enter Tryz.func3,Tryz.ntmps3
 go_wp2_with fail
 refine(rl _ ((HT.out.alloc _))).mono ?_;rintro e w1 ⟨rfl,hf⟩;have hb:=(Blk.new w 23 c.cells).fr hf (by simp);have HF1:Hid (Fr [] w w1):=((Fr.refl _ _).alloc _).af hf;obtain⟨a0,a1,a2,a3,a4,a5,a6,a7,a8,a9,a10,a11,a12,a13⟩:=mT.of hb;have N0:w.heap.size<w1.heap.size:=ae a0;have HB1:=aa (HBg.out w1 HF1.out);clear hf hb HBg;go_wp2_with fail
 refine HB1.out.mono ?_;intro e w2 hB;clear a0 a1 a2 a3 a4 a5 a6 a7 a8 a9 a10 a11 a12 a13 N0 HB1;rcases hB with⟨rfl,hf⟩|⟨T,M,g,s,k,tg,L,X,Λ,h,x,rfl,hth,hT1,hT64,hA,hP0⟩
 ·have HF2:=aa (HF1.out.af hf);clear hf;go_wp2_with fail
  go_ret
  exact⟨rfl,HF2.out⟩
 ·have HI0:Hid (gR w1 w2 L s k Λ g M T (jc on zn f) (pE on zn) (λV _ _ _ _ _=>V.sy=false)):=⟨_,h,x,G0,_,_,⟨rfl,X,_,hA,hP0⟩,rfl⟩;have HTT:Hid (1<=T/\T<=64):=⟨hT1,hT64⟩;have hT1i:(1:Int)<=(T:Int):=by omega
  have hT64i:(T:Int)<=64:=by omega
  have HT1:Hid (Tab w1):=HT.out.fr HF1.out (by simp);clear hA hP0 hth hT1 hT64;go_wp2_with fail
  go_loopw [9] (λi wr=>∃n:Nat,i=.int .i64 n/\n<=400/\gR w1 wr L s k Λ g M T (jc on zn f) (pE on zn) (λV _ _ _ _ _=>V.sy=false)) (λi _=>400-(intOf i).toNat)
  case atStart=>exact⟨0,rfl,by omega,HI0.out⟩
  case round=>
   obtain⟨n,rfl,hn,hI⟩:=hrel;have HI:=aa hI;have HFr:Hid (Fr [] w wr):=HF1.out.af hI.fr;by_cases hgo:n<pn/\n<400
   ·have h1:(n:Int)<(pn:Int):=by omega
    have h2:(n:Int)<400:=by omega
    have h3:decide ((n:Int)<(pn:Int))=true:=by simpa using h1
    have HL:=aa hgo;obtain⟨b,off,hpA,q0⟩:=HPk.out n wr hgo.1 HFr.out;obtain⟨V,hh,xx,σ,A,Γ,g1,g2⟩:=hI;have d2:=g1.cells;have HPick:=aa (λw'=>yI (ps.getD n 0) (HPb.out n) HTT.out.1 HTT.out.2 w');subst hpA;obtain⟨p,hp⟩:∃p,p=ps.getD n 0:=⟨_,rfl⟩;rw[<- hp]at q0 HPick;have HG1:=aa g1;have HG2:=aa g2;have NQ:=ae q0;have ND:=ae d2;have HStp:Hid (∀t,t<T->Calls Tryz.prog 9 #[.pointer (some ⟨Λ.wb,0,none⟩),.int .i64 (t:Int)] wr.drew λe w'=>e=.returned (.bool true)/\∃V' h' x' σ' A' Γ',gP w1 w' L s k Λ g M T (jc on zn f) (pE on zn) V' h' x' σ' A' Γ'/\WR t (pE on zn) (jc on zn f) hh h' Γ Γ' V V' σ σ' A A'):=λt ht=>(HG1.out.fr0 (Fr.refl _ _).drew).step HT1.out ht;have HK:Hid (∀w4,Fr [] w1 w4->w4.cell? ⟨Λ.wb,2,none⟩=some (.slice Λ.mA T Λ.mc)->w4.cell? ⟨b,off+n,none⟩=some (.int .i64 p)/\w4.cell? ⟨Λ.wb,2,none⟩=some (.slice Λ.mA T Λ.mc)):=λw4 hf h2=>by
     obtain⟨b',off',e1,e2⟩:=HPk.out n w4 HL.out.1 (HF1.out.af hf);injection e1 with e1;injection e1 with e1 e3;subst e1 e3;rw[hp];exact⟨e2,h2⟩
    clear hp g1 g2 HI0 hgo HPk HPb;go_wp2_with fail
    go_region_held3 (λw'=>w'.cell? ⟨b,off+n,none⟩=some (.int .i64 p)/\w'.cell? ⟨Λ.wb,2,none⟩=some (.slice Λ.mA T Λ.mc))
     (first|exact⟨q0,d2⟩|exact HK4.out|go_keep)
     (first|(go_at_call 10;refine(HPick.out _).mono ?_;rintro e w3 ⟨t,ht,rfl,rfl⟩;have HT3:=aa ht;have HS3:=aa (HStp.out _ ht))|(go_at_call 9;refine HS3.out.mono ?_;rintro e w4 ⟨rfl,V',h',x',σ',A',Γ',r1,r2⟩;have HK4:=aa (HK.out _ r1.fr r1.cells);have HR1:=aa r1;have HR2:=aa r2))
    all_goals
     have HE:Hid (gR w1 w4 L s k Λ g M T (jc on zn f) (pE on zn) (λV _ _ _ _ _=>V.sy=false)):=⟨V',h',x',σ',A',Γ',HR1.out,HR2.out.sy.1.trans HG2.out⟩;clear r1 r2 HR1 HR2 HS3 HG1 HG2 HStp HK4;go_wp2_with fail
     go_roundw
     case rel=>exact⟨n+1,by go_num,by have:=HL.out;omega,HE.out⟩
     case measure=>simp[intOf];have:=HL.out;omega
   ·have hcond:(¬ n<pn/\decide ((n:Int)<(pn:Int))=false)\/(n<pn/\¬ n<400/\decide ((n:Int)<400)=false):=by
     by_cases e:n<pn
     ·exact .inr ⟨e,by omega,by simp;omega⟩
     ·exact .inl ⟨e,by simpa using e⟩
    have HR:=aa (yJ HT1.out HTT.out.2 HI.out);clear hI hgo HI0 HPk HPb hn;have key:True:=trivial;rcases hcond with⟨h0,h1⟩|⟨h0,h1,h2⟩;all_goals
     go_wp2_with fail
     refine HR.out.mono ?_;rintro e w3 ⟨rfl,V,hh,xx,σ,A,Γ,r1,r2,r3⟩;have HLk:=aa (ru r1 r3);have HI3:=aa r2;clear r1 r2 r3;go_wp2_with fail
     refine HLk.out.mono ?_;rintro e w4 ⟨rfl,r1⟩;have HAl:=aa (Am HT1.out HTT.out.2 ⟨V,hh,xx,σ,A,Γ,r1,HI3.out⟩);clear r1 HI3 HLk;go_wp2_with fail
     refine HAl.out.mono ?_;rintro e w5 ⟨rfl,V5,h5,x5,σ5,A5,Γ5,r1,r2,r3⟩;have HLk:=aa (ru r1 r3);clear r1 r2 r3 HAl;go_wp2_with fail
     refine HLk.out.mono ?_;rintro e w6 ⟨rfl,r1⟩;have HE:Hid (Fr [] w w6):=HF1.out.af r1.fr;clear r1 HLk;go_wp2_with fail
     go_ret
     exact⟨rfl,HE.out⟩
end Go.Proofs.YtimkofiempcfdaaGreatDoor.MutateAnswers
namespace Go.Gl
open Go.ChangeShapes Go.WideShapes Go.ChangeAt Go.RowKit
theorem mI{H:Type}{enc:TypeId×Value->H}{P:Program}(hl:laidOutB P=true){W W':World}(hb:Below W.heap.size W W') :
  ∀(ts:List TypeId) (vs:List Value) (ds:List (DataW H)) (ps:List MemPlace),(∀t,t∈ts->P.readableRec t=true/\t<P.types.size) ->
   DataW.TrodAll enc P W 0 (λ_=>true) true ts vs ds ps->(∀x∈ps,x.block<W.heap.size)->DataW.TrodAll enc P W' 0 (λb=>decide (b<W.heap.size)) true ts vs ds ps:=by
 intro ts
 induction ts with
|nil=>
  intro vs ds ps _ h _;cases vs with
 |nil=>cases ds with
  |nil=>exact h
  |cons d ds=>exact h.elim
 |cons v vs=>exact h.elim
|cons t ts ih=>
  intro vs ds ps hr h hlt;cases vs with
 |nil=>exact h.elim
 |cons v vs=>cases ds with
  |nil=>exact h.elim
  |cons d ds=>
    obtain⟨p,q,h1,h2,rfl⟩:=h;obtain⟨r1,r2⟩:=hr t (by simp);exact⟨p,q,Below.trod hl r1 r2 h1 hb (λx hx=>hlt x (by simp[hx])),ih vs ds q (λu hu=>hr u (by simp[hu])) h2 (λx hx=>hlt x (by simp[hx])),rfl⟩
def Holds(P:Program)(k:FuncId)(args:Array Value)(W:World):Prop:=Calls P k args W λe W'=>e=.returned (.bool true)/\Below W.heap.size W W'
theorem wk{H:Type}{enc:TypeId×Value->H}{P:Program}{f:Func}{s:ChangeSpec}{k:FuncId}{tb:TypeId}(hv:s.vars=[])(hr:f.resultTypes=#[tb])(htb:P.underlying tb=some .bool)
  (hspec:∀ds:List (DataW H),ds.length=f.params.toList.length->s.fn H (ds++[])={ results:=[.lit (.bool true)],args:=ds,vars:=[] })
  (hl:laidOutB P=true) (hread:∀t,t∈f.params.toList->P.readableRec t=true/\t<P.types.size)
  {W:World}{args:Array Value}{ds gs:List (DataW H)}{before:List MemPlace} (hW:DataW.Whole enc P f.params.toList s.vars false W args.toList ds gs before) (hc:Holds P k args W) :
  Calls P k args W λe W'=>∃v,e=.returned v/\s.post enc P f false true false false W args v W':=by
 refine hc.mono λe W' ⟨he,hb⟩=>⟨_,he,?_⟩;have hW':=hW;obtain⟨p,q,hA,hV,rfl,hfz,hnd⟩:=hW;rw[hv]at hV;obtain⟨rfl,rfl⟩:=trodVars_none hV;have hlen:ds.length=f.params.toList.length:=by
  have:∀(ts:List TypeId) (vs:List Value) (ds:List (DataW H)) (ps:List MemPlace),DataW.TrodAll enc P W 0 (λ_=>true) true ts vs ds ps->ds.length=ts.length:=by
   intro ts
   induction ts with
  |nil=>intro vs ds ps h;cases vs <;> cases ds <;> first|rfl|exact h.elim
  |cons t ts ih=>
    intro vs ds ps h;cases vs <;> cases ds <;> first|exact h.elim|(obtain⟨p,q,_,h2,_⟩:=h;simp[ih _ _ _ h2])
  exact this _ _ _ _ hA
 have hlt:∀x∈p++[],x.block<W.heap.size:=λx hx=>by simpa using hW'.lt x hx
 refine⟨ds,[],p++[],[],p,[],hW',?_,?_,?_,hb.frame _,λh=>by cases h⟩
 ·rw[hspec ds hlen,hr];exact trodAll_cons_mk (shut_bool htb true) trodAll_mk0
 ·rw[hspec ds hlen];exact mI hl hb _ _ _ _ hread hA (λx hx=>hlt x (by simpa using hx))
 ·rw[hspec ds hlen,hv];exact rfl
theorem jt{n:Int}(h:(Lit.int .i64 n).wf=true):-9223372036854775808<=n/\n<=9223372036854775807:=by
 simpa[Lit.wf,IntKind.min,IntKind.max,IntKind.signed,IntKind.bits] using h
theorem tK{n:Int}(h:(Lit.int .u64 n).wf=true):0<=n/\n<18446744073709551616:=by
 have:0<=n/\n<=18446744073709551615:=by simpa[Lit.wf,IntKind.min,IntKind.max,IntKind.signed,IntKind.bits] using h
 omega
theorem Ao{H:Type}{enc:TypeId×Value->H}{P:Program}{W:World}{t e:TypeId}{k:IntKind}{r:Reach}{b:Nat}{v:Value}{d:DataW H}{p:List MemPlace}
  (ht:P.underlying t=some (.slice e)) (he:P.underlying e=some (.int k)) (hc:P.cellsOf e=1) (hv:Value.okWide P W r b t v) (h:DataW.Trod enc P W 0 (λ_=>true) true t v d p) :
  ∃A n c,∃zs:List Int,v=.slice A n c/\n<=maxLen/\Sl W A n (λj=>.int k (zs.getD j 0))/\∀z∈zs,(Lit.int k z).wf=true:=by
 obtain⟨a0,len,cap,rfl⟩:=okWide_slice ht hv;obtain⟨fuel,hf⟩:=h;rcases open_ints ht he hc hf with⟨hcs,hx⟩|⟨a,len',cap',zs,hcs,_,hl,hm,hz,hx,hcell,hwz⟩
 ·simp only[Value.cells]at hcs;injection hcs with h1 _;injection h1 with h1 h2 h3;subst h1 h2 h3;exact⟨none,0,0,[],rfl,Ei _,λh=>absurd h (by decide),λz hz=>by cases hz⟩
 ·simp only[Value.cells]at hcs;injection hcs with h1 _;injection h1 with h1 h2 h3;subst h1 h2 h3;simp only[if_true]at hz;refine⟨some a,len,cap,zs,rfl,by omega,λhn=>?_,hwz⟩;obtain⟨b,off,rfl,hat⟩:=ints_at hcell (by omega);refine⟨b,off,rfl,?_,λj hj=>hat j (by omega)⟩;have h0:=hat 0 (by omega);rcases Nat.lt_or_ge b W.heap.size with hl|hl
  ·exact hl
  ·simp[World.cell?,Array.getElem?_eq_none hl]at h0
open Go.Deep
section
variable {H:Type}{enc:TypeId×Value->H}{P:Program}{w:World}{base:Nat}{spare:Nat->Bool}{held:Bool}
theorem jR{t e:TypeId}{fs:Array Field}{fuel:Nat}{cs:List Value}{x:DataW H×List MemPlace}(ht:P.underlying t=some (.slice e))(he:P.underlying e=some (.struct fs))
  (hone:oneCellFields P fs=true) (hC:P.cellsOf e=fs.size) (h:DataW.trod enc P w base spare held fuel t cs=some x) :
  (cs=[.slice none 0 0]/\x=(.nil,[])) \/
  ∃(a:Addr) (len cap m:Nat) (D:Nat->DataW H) (Pl:Nat->List MemPlace),cs=[.slice (some a) len cap]/\base<=a.block/\len<=cap/\cap<=maxLen/\m=(if spare a.block then cap else len) /\
   x=(.slice ((List.range len).map D) ((List.range (m-len)).map λj=>D (len+j)),MemPlace.row a (m*fs.size)++(List.range m).flatMap Pl) /\
   ∀i,i<m->∃(ys:List (DataW H×List MemPlace)) (n:Nat),D i=.agg (ys.map (·.1))/\Pl i=ys.flatMap (·.2)/\ys.length=fs.size /\
    ∀(j:Nat) (f:Field),fs[j]?=some f->∃(v:Value) (y:DataW H×List MemPlace),w.cell? (a.add (i*fs.size+j))=some v/\ys[j]?=some y/\DataW.trod enc P w base spare held n f.type [v]=some y:=by
 rcases open_slice ht h with h0|⟨a,len,cap,m,n,D,Pl,hcs,hb,hl,hm,hmm,hx,hi⟩
 ·exact .inl h0
 ·refine .inr ⟨a,len,cap,m,D,Pl,hcs,hb,hl,hm,hmm,by rw[hC]at hx;exact hx,λi him=>?_⟩;obtain⟨cs',hc,ht'⟩:=hi i him;rw[hC]at hc;obtain⟨ys,n',hn',hy,hlen,hyl,hf⟩:=DataW.trod_struct he ht';obtain⟨_,hcl,hat⟩:=World.cells?_some hc;simp only[Prod.mk.injEq]at hy;refine⟨ys,n',hy.1,hy.2,hyl,λj f hj=>?_⟩;obtain⟨ho,hk⟩:=hone_of hone j f hj;have hjl:j<fs.size:=(Array.getElem?_eq_some_iff.1 hj).1;have hcell:=hat j hjl;have hv:cs'[j]?=some (cs'[j]'(by omega)):=List.getElem?_eq_getElem (by omega);have h1:=hf j f hj;rw[ho,hk]at h1;have hone':(cs'.drop j).take 1=[cs'[j]'(by omega)]:=by
   rw[List.drop_eq_getElem_cons (by omega)];rfl
  rw[hone']at h1;have hys:ys[j]?=some (ys[j]'(by omega)):=List.getElem?_eq_getElem (by omega);refine⟨_,_,?_,hys,h1.trans hys⟩;rw[<- Go.Deep.add_add,hcell,hv]
theorem mJ{r:Reach}{b0:Nat}{t:TypeId}{fs:Array Field}{k:IntKind}{v:Value}{d:DataW H}{p:List MemPlace}(hs:P.underlying t=some (.struct fs))(hone:oneCellFields P fs=true)(hC:P.cellsOf t=fs.size)
  (hk:∀f∈fs.toList,P.underlying f.type=some (.int k)) (hv:Value.okWide P w r b0 t v) (h:DataW.Trod enc P w base spare held t v d p) :
  ∃zs:List Int,zs.length=fs.size/\v=.agg (zs.map (Value.int k)).toArray/\∀z∈zs,(Lit.int k z).wf=true:=by
 obtain⟨cs,rfl,hsz⟩:=okWide_struct hs hv;obtain⟨fuel,hf⟩:=h;obtain⟨xs,n,_,_,hl,hlen,hg⟩:=DataW.trod_struct hs hf;have key:∀j (hj:j<cs.size),∃z,cs[j]=.int k z/\(Lit.int k z).wf=true:=by
  intro j hj;have hjf:j<fs.size:=by omega
  have hfj:fs[j]?=some fs[j]:=Array.getElem?_eq_getElem hjf;obtain⟨ho,hc⟩:=hone_of hone j _ hfj;have h1:=hg j _ hfj;have e:(cs.toList.drop j).take 1=[cs[j]]:=by
   rw[List.drop_eq_getElem_cons (by simpa using hj)];rfl
  have hx:xs[j]?=some (xs[j]'(by omega)):=List.getElem?_eq_getElem (by omega);rw[ho,hc,show(Value.agg cs).cells.toList=cs.toList from rfl,e,hx]at h1;obtain⟨z,hz,_,hw⟩:=DataW.trod_int (hk _ (by simp)) h1;exact⟨z,by simpa using hz,hw⟩
 refine⟨cs.toList.map λv=>match v with|.int _ z=>z|_=>0,by simp;omega,?_,?_⟩
 ·congr 1
  apply Array.ext
  ·simp
  ·intro j h1 h2;obtain⟨z,hz,_⟩:=key j h1;simp[hz]
 ·intro z hz;simp only[List.mem_map]at hz;obtain⟨v,hv,rfl⟩:=hz;obtain⟨j,hj,rfl⟩:=List.getElem_of_mem hv;obtain⟨z,hz,hw⟩:=key j (by simpa using hj);simp only[Array.getElem_toList,hz];exact hw
end
end Go.Gl
namespace Go.Proofs.YtimkofiempcfdaaGreatDoor
open Go.ChangeShapes Go.WideShapes Go.ChangeAt Go.RowKit Go.Gl
theorem own:ownKnob Tryz.prog.godebug=none:=by kernel_rfl
theorem CI:Tryz.prog.globalNamed "math/bits.deBruijn64tab"=some 0:=by kernel_rfl
theorem yK:(Tryz.prog.globals[0]?).map (·.type)=some 246:=by kernel_rfl
theorem yL:Tryz.prog.cellsOf 246=64:=by kernel_rfl
theorem wm:Tryz.prog.cellsOf 5=1:=by kernel_rfl
def pG:List Int:=Lib.deBruijn64tab.map λ(x:Nat)=>(x:Int)
theorem table{W:World}(h:laidMetH Tryz.prog [("math/bits.deBruijn64tab",Rows.laid_math_bits_deBruijn64tab)] W):Tab W:=by
 have ht:Lib.TabIs Tryz.prog W "math/bits.deBruijn64tab" .u8 pG:=
  Lib.tabIs_of_head (rest:=[]) CI yK Tryz.underlying246 Tryz.underlying5 wm yL h
 intro k hk;have:=ht.cell CI k (by show k<64;exact hk);rw[this]
 congr 2
 unfold pG;rw[List.getD_eq_getElem?_getD,List.getElem?_map,List.getD_eq_getElem?_getD];cases Lib.deBruijn64tab[k]? <;> rfl
theorem laidOut:laidOutB Tryz.prog=true:=by kernel_rfl
noncomputable def km (os:Os):World:=
 { World.holding Tryz.prog os ⟨#[],#[],[]⟩with heap:=(World.holding Tryz.prog os ⟨#[],#[],[]⟩).heap.modify 0 fun
  |.cells _ t frozen=>.cells (pG.map λz=>Value.int .u8 z).toArray t frozen
  |o=>o }
open Go.RowKit Go.Gl Go.ChangeShapes Go.WideShapes Go.ChangeAt Go.Deep
theorem tL:∃fs:Array Field,Tryz.prog.underlying 23=some (.struct fs)/\oneCellFields Tryz.prog fs=true/\Tryz.prog.cellsOf 23=fs.size/\fs.size=14/\∀f∈fs.toList,Tryz.prog.underlying f.type=some (.int .i64):=
 ⟨_,Tryz.underlying23,by kernel_rfl,by kernel_rfl,by kernel_rfl,by
  intro f hf;simp at hf;rcases hf with rfl|rfl|rfl|rfl|rfl|rfl|rfl|rfl|rfl|rfl|rfl|rfl|rfl|rfl;all_goals exact Tryz.underlying3⟩
def l7(j:Nat):IntKind:=if j=4 then .u64 else .i64
theorem wu:∃fs:Array Field,Tryz.prog.underlying 66=some (.struct fs)/\oneCellFields Tryz.prog fs=true/\Tryz.prog.cellsOf 66=fs.size/\fs.size=5/\∀(j:Nat) f,fs[j]?=some f->Tryz.prog.underlying f.type=some (.int (l7 j)):=
 ⟨_,Tryz.underlying66,by kernel_rfl,by kernel_rfl,by kernel_rfl,by
  intro j f hf
  match j,hf with
 |0,hf=>simp at hf;subst hf;exact Tryz.underlying63
 |1,hf=>simp at hf;subst hf;exact Tryz.underlying3
 |2,hf=>simp at hf;subst hf;exact Tryz.underlying3
 |3,hf=>simp at hf;subst hf;exact Tryz.underlying3
 |4,hf=>simp at hf;subst hf;exact Tryz.underlying64
 |j+5,hf=>simp at hf⟩
section
variable {H:Type}{enc:TypeId×Value->H}{W:World}
theorem wA{fuel:Nat}{cs:List Value}{x:DataW H×List MemPlace}(h:DataW.trod enc Tryz.prog W 0 (λ_=>true) true fuel 55 cs=some x) :
  ∃(A:Option Addr) (n c:Nat) (f:Nat->Po),cs=[.slice A n c]/\n<=c/\n<=maxLen/\jN W (.slice A n c) n f/\∀j,j<n->dB (f j)/\0<=(f j).v/\(f j).v<18446744073709551616:=by
 obtain⟨fs,e1,e2,e3,e4,e5⟩:=wu;rcases jR Tryz.underlying55 e1 e2 e3 h with⟨hcs,hx⟩|⟨a,len,cap,m,D,Pl,hcs,_,hl,hm,hmm,hx,hi⟩
 ·exact⟨none,0,0,λ_=>⟨0,0,0,0,0⟩,hcs,Nat.le_refl _,Ei _,⟨none,0,rfl,λh=>absurd h (by decide)⟩,λj h=>absurd h (by omega)⟩
 ·simp only[if_true]at hmm;subst hmm;have each:∀i j,∃z:Int,i<m->j<fs.size->W.cell? (a.add (i*fs.size+j))=some (.int (l7 j) z)/\(Lit.int (l7 j) z).wf=true:=by
   intro i j;by_cases h0:i<m/\j<fs.size
   ·obtain⟨hi0,hj0⟩:=h0;obtain⟨ys,n,_,_,_,hf⟩:=hi i hi0;have hfj:fs[j]?=some fs[j]:=Array.getElem?_eq_getElem hj0;obtain⟨v0,y0,k0,_,t0⟩:=hf j _ hfj;obtain⟨z0,e0,_,w0⟩:=DataW.trod_int (e5 j _ hfj) t0;simp only[List.cons.injEq,and_true]at e0;subst e0;exact⟨z0,λ_ _=>⟨k0,w0⟩⟩
   ·exact⟨0,λh1 h2=>absurd ⟨h1,h2⟩ h0⟩
  obtain⟨g,hfun⟩:∃g:Nat->Nat->Int,∀i j,i<m->j<fs.size->W.cell? (a.add (i*fs.size+j))=some (.int (l7 j) (g i j))/\(Lit.int (l7 j) (g i j)).wf=true:=
   ⟨λi j=>Classical.choose (each i j),λi j=>Classical.choose_spec (each i j)⟩
  clear each;rw[e4]at hfun;refine⟨some a,len,m,λi=>⟨g i 0,g i 1,g i 2,g i 3,g i 4⟩,hcs,by omega,by omega,⟨some a,m,rfl,λhn=>?_⟩,λj hj=>?_⟩
  ·have h0:=(hfun 0 0 (by omega) (by decide)).1;obtain⟨b0,off,spot⟩:=a;have hspot:spot=none:=by
    have:=World.cell?_spot h0;simpa[Addr.add] using this
   subst hspot;have ea:∀q,Addr.add ⟨b0,off,none⟩ q=⟨b0,off+q,none⟩:=λq=>Go.WideShapes.add_plain _ _ _;refine⟨b0,off,rfl,?_,λi hi2=>?_⟩
   ·have:=ae h0;simpa[Addr.add] using this
   ·have q0:=(hfun i 0 (by omega) (by decide)).1;have q1:=(hfun i 1 (by omega) (by decide)).1;have q2:=(hfun i 2 (by omega) (by decide)).1;have q3:=(hfun i 3 (by omega) (by decide)).1;have q4:=(hfun i 4 (by omega) (by decide)).1;rw[ea]at q0 q1 q2 q3 q4;exact⟨q0,q1,q2,q3,q4⟩
  ·have w1:=(hfun j 1 (by omega) (by decide)).2;have w2:=(hfun j 2 (by omega) (by decide)).2;have w4:=(hfun j 4 (by omega) (by decide)).2;exact⟨⟨jt w1,jt w2⟩,tK w4⟩
theorem wB{r:Reach}{b:Nat}{v:Value}{d:DataW H}{p:List MemPlace}(hv:Value.okWide Tryz.prog W r b 24 v)(h:DataW.Trod enc Tryz.prog W 0 (λ_=>true) true 24 v d p) :
  ∃(A:Option Addr) (n c:Nat) (zA:Nat->Option Addr) (zn zc:Nat->Nat) (f:Nat->Nat->Po),v=.slice A n c/\kC W A n zA zn zc f/\∀i j,i<n->j<zn i->dB (f i j)/\0<=(f i j).v/\(f i j).v<18446744073709551616:=by
 obtain⟨a0,len,cap,rfl⟩:=okWide_slice Tryz.underlying24 hv;obtain⟨fuel,hf⟩:=h;rcases open_slice1 Tryz.underlying24 (by kernel_rfl) hf with⟨hcs,hx⟩|⟨a,len',cap',m,n,V,D,Pl,hcs,_,hl,hm,hmm,hx,hi⟩
 ·simp only[Value.cells]at hcs;injection hcs with h1 _;injection h1 with h1 h2 h3;subst h1 h2 h3;exact⟨none,0,0,λ_=>none,λ_=>0,λ_=>0,λ_ _=>⟨0,0,0,0,0⟩,rfl,⟨λh=>absurd h (by decide),λi h=>absurd h (by omega),λi h=>absurd h (by omega)⟩,λi j h=>absurd h (by omega)⟩
 ·simp only[Value.cells]at hcs;injection hcs with h1 _;injection h1 with h1 h2 h3;subst h1 h2 h3;simp only[if_true]at hmm;subst hmm;have each:∀i,∃(A:Option Addr) (n c:Nat) (f:Nat->Po),i<m->W.cell? (a.add i)=some (.slice A n c)/\(n<=c/\n<=maxLen)/\jN W (.slice A n c) n f/\∀j,j<n->dB (f j)/\0<=(f j).v/\(f j).v<18446744073709551616:=by
   intro i;by_cases h0:i<m
   ·obtain⟨c0,t0⟩:=hi i h0;obtain⟨A,n,c,f,q1,q2,q3,q4,q5⟩:=wA t0;simp only[List.cons.injEq,and_true]at q1;exact⟨A,n,c,f,λ_=>⟨by rw[c0,q1],⟨q2,q3⟩,q4,q5⟩⟩
   ·exact⟨none,0,0,λ_=>⟨0,0,0,0,0⟩,λh=>absurd h h0⟩
  refine⟨some a,len,m,λi=>(each i).choose,λi=>(each i).choose_spec.choose,λi=>(each i).choose_spec.choose_spec.choose,λi=>(each i).choose_spec.choose_spec.choose_spec.choose,rfl,⟨λhn=>?_,λi hi2=>?_,λi hi2=>?_⟩,λi j hi2 hj=>?_⟩
  ·have h0:=((each 0).choose_spec.choose_spec.choose_spec.choose_spec (by omega)).1;obtain⟨b0,off,spot⟩:=a;have hspot:spot=none:=by
    have:=World.cell?_spot h0;simpa[Addr.add] using this
   subst hspot;refine⟨b0,off,rfl,?_,λi hi2=>?_⟩
   ·have:=ae h0;simpa[Addr.add] using this
   ·have:=((each i).choose_spec.choose_spec.choose_spec.choose_spec (by omega)).1;exact(congrArg W.cell? (show(⟨b0,off+i,none⟩:Addr)=Addr.add ⟨b0,off,none⟩ i from (Go.WideShapes.add_plain _ _ _).symm)).trans this
  ·exact((each i).choose_spec.choose_spec.choose_spec.choose_spec (by omega)).2.1
  ·exact((each i).choose_spec.choose_spec.choose_spec.choose_spec (by omega)).2.2.1
  ·exact((each i).choose_spec.choose_spec.choose_spec.choose_spec (by omega)).2.2.2 j hj
end
end Go.Proofs.YtimkofiempcfdaaGreatDoor
