/- Several texts joined (pack.py): Ud Ue Yz Za Zb. -/
import Derived.Test.YtimkofiempcfdaaGreatDoorPW19
import Derived.WalkKit
import Derived.BigQuiet
import Derived.Deep.CutRange
import Derived.Deep.RegionHeld3
set_option linter.unusedVariables false
set_option linter.unusedSimpArgs false
set_option maxHeartbeats 1600000
set_option maxRecDepth 100000
open Nat renaming le_refl->Eg
namespace Go.Proofs.YtimkofiempcfdaaGreatDoor
open Go.RowKit Go.Gl HS
section
variable {W w w':World}{L:HL}{X:HX}{h:HS}{x:HT}{s k:Nat}{E:aK}{D:Nat->Prop}{Q:World->Prop}{mb t sb:Nat}{m:MU}
noncomputable def lP (h:HS) (i:Nat):Nat->Int:=if h.bx i<h.be i then ak h.t (h.g.az (h.bx i)).toNat (h.bx i) else h.t
noncomputable def bB (h:HS) (i:Nat):HS:={ h with t:=lP h i,bx:=ak h.bx i 0,be:=ak h.be i 0 }
theorem jK(hS:ah D Q)(H:HM W w L X h x s k E D Q)(hm:(mb,122,muV L.hb t sb m)∈E)(ht:t<h.T)(hB:h.ui) :
  Calls Tryz.prog 165 #[.pointer (some ⟨mb,0,none⟩)] w λe w'=>e=.returned (.tuple #[])/\HM W w' L X (bB h t) x s k E D Q:=by
 have ok:=H.ok;have HMu:Hid (∀w' h' x',HM W w' L X h' x' s k E D Q->w'.cell? ⟨mb,0,none⟩=some (.pointer (some ⟨L.hb,0,none⟩))/\w'.cell? ⟨mb,1,none⟩=some (.int .i64 (t:Int))):=λw' h' x' q=>by
  have hb:=q.blk hm;exact⟨hb.cell 0,hb.cell 1⟩
 have HAd:=aa (H.fr0 hS (Fr.refl _ _).drew);have HDr:Hid (∀w',HM W w' L X h x s k E D Q->Calls Tryz.prog 176 #[.pointer (some ⟨L.bb,t*2,none⟩)] w' λe w''=>e=.returned (.tuple #[.int .i64 (h.bx t),.int .i64 (h.be t)])/\HM W w'' L X { h with bx:=ak h.bx t 0,be:=ak h.be t 0 } x s k E D Q):=λw' q=>q.Cp hS ht;have HCe:Hid (∀w' a b c,HM W w' L X { h with t:=a,bx:=b,be:=c } x s k E D Q->fx w' L X h.g h.T):=λw' a b c q=>q.hc;have HC0:Hid (∀w',HM W w' L X h x s k E D Q->fx w' L X h.g h.T):=λw' q=>q.hc;have HRg:Hid (∀w' a b c z,HM W w' L X { h with t:=a,bx:=b,be:=c } x s k E D Q->Calls Tryz.prog 83 #[.agg #[.int .i64 h.g.words,.int .i64 h.g.rw,.int .i64 h.g.cw,.int .i64 h.g.regions,.int .i64 h.g.aG,.int .i64 h.g.max],.int .i64 z] w' λe w''=>e=.returned (.int .i64 (h.g.az z))/\HM W w'' L X { h with t:=a,bx:=b,be:=c } x s k E D Q):=λw' a b c z q=>q.region hS z;have HIn:Hid (h.bx t<h.be t->∃r:Nat,h.g.az (h.bx t)=(r:Int)/\r<h.R/\dr (h.s r)/\((r*h.W:Nat):Int)<=h.bx t/\h.bx t<=((r*h.W+h.W:Nat):Int)):=λe=>by
  obtain⟨r,r1,r2,r3,r4⟩:=hB t ht e;exact⟨r,ok.reg r1 r3 (by omega),r1,r2,r3,by omega⟩
 have HTp:Hid (∀w' b c (r:Nat) z,r<h.R->dr (h.s r)->((r*h.W:Nat):Int)<=z->z<=((r*h.W+h.W:Nat):Int)->HM W w' L X { h with bx:=b,be:=c } x s k E D Q->Calls Tryz.prog 177 #[.pointer (some ⟨L.tb,0,none⟩),.int .i64 (r:Int),.int .i64 z] w' λe w''=>e=.returned (.int .i64 0)/\HM W w'' L X { h with t:=ak h.t r z,bx:=b,be:=c } x s k E D Q):=λw' b c r z h1 h2 h3 h4 q=>q.x6 hS h1 h2 h3 h4;have HOut:Hid (bB h t={ h with t:=lP h t,bx:=ak h.bx t 0,be:=ak h.be t 0 }):=rfl;have HDt:Hid (lP h t=if h.bx t<h.be t then ak h.t (h.g.az (h.bx t)).toNat (h.bx t) else h.t):=rfl;have ht1:(t:Int)<(h.T:Int):=by omega
 obtain⟨k0,k1⟩:=HMu.out _ _ _ HAd.out;have c28:=(HC0.out _ HAd.out).c28;have K0:w.drew.cell? ⟨mb,0,none⟩=some (.pointer (some ⟨L.hb,0,none⟩))/\w.drew.cell? ⟨mb,1,none⟩=some (.int .i64 (t:Int))/\w.drew.cell? ⟨L.hb,28,none⟩=some (.slice (some ⟨L.bb,0,none⟩) h.T h.T):=⟨k0,k1,c28⟩;have HK:Hid (∀w' h',h'.T=h.T->HM W w' L X h' x s k E D Q->w'.cell? ⟨mb,0,none⟩=some (.pointer (some ⟨L.hb,0,none⟩))/\w'.cell? ⟨mb,1,none⟩=some (.int .i64 (t:Int))/\w'.cell? ⟨L.hb,28,none⟩=some (.slice (some ⟨L.bb,0,none⟩) h.T h.T)):=λw' h' e q=>by
  have hb:=q.blk hm;have:=q.hc.c28;rw[e]at this;exact⟨hb.cell 0,hb.cell 1,this⟩
 clear H hB ok ht hm k0 k1 c28;generalize h.bx t=y0 at *;generalize h.be t=y1 at *;go_enter Tryz.func165,Tryz.ntmps165
 go_wp2_with fail
 go_region_held3 (λw'=>w'.cell? ⟨mb,0,none⟩=some (.pointer (some ⟨L.hb,0,none⟩))/\w'.cell? ⟨mb,1,none⟩=some (.int .i64 (t:Int))/\w'.cell? ⟨L.hb,28,none⟩=some (.slice (some ⟨L.bb,0,none⟩) h.T h.T))
  (first|with_reducible exact K0|go_keep)
  (first|(go_at_call 176;refine(HDr.out _ HAd.out).mono ?_;rintro e w1 ⟨rfl,hA⟩;have HA1:=aa hA;have K0:=HK.out _ { h with bx:=ak h.bx t 0,be:=ak h.be t 0 } rfl hA;clear hA))
 clear K0 HAd HDr;by_cases hxy:y0<y1
 ·obtain⟨r,er,r1,r2,r3,r4⟩:=HIn.out hxy;have HR:=aa (And.intro r1 (And.intro r2 (And.intro r3 r4)));have HDt2:Hid (lP h t=ak h.t r y0):=aa (by rw[HDt.out,if_pos hxy,er];rfl);clear r1 r2 r3 r4 HIn HDt;go_wp2_with fail
  have HAd:=aa (HA1.out.fr0 hS (Fr.refl _ _).drew);have HK8:Hid (∀w',HM W w' L X { h with bx:=ak h.bx t 0,be:=ak h.be t 0 } x s k E D Q->w'.cell? ⟨mb,0,none⟩=some (.pointer (some ⟨L.hb,0,none⟩))/\w'.cell? ⟨L.hb,14,none⟩=some (.int .i64 h.g.words)/\w'.cell? ⟨L.hb,15,none⟩=some (.int .i64 h.g.rw)/\w'.cell? ⟨L.hb,16,none⟩=some (.int .i64 h.g.cw)/\w'.cell? ⟨L.hb,17,none⟩=some (.int .i64 h.g.regions)/\w'.cell? ⟨L.hb,18,none⟩=some (.int .i64 h.g.aG)/\w'.cell? ⟨L.hb,19,none⟩=some (.int .i64 h.g.max)/\w'.cell? ⟨L.hb,21,none⟩=some (.pointer (some ⟨L.tb,0,none⟩))):=λw' q=>by
   have hb:=(HMu.out _ _ _ q).1;obtain⟨a1,a2,a3,a4,a5,a6,a7,a8,a9,a10,a11,a12,a13,a14,a15,a16⟩:=HCe.out _ _ _ _ q;exact⟨hb,a1,a2,a3,a4,a5,a6,a8⟩
  have HK9:Hid (∀w',HM W w' L X { h with t:=ak h.t r y0,bx:=ak h.bx t 0,be:=ak h.be t 0 } x s k E D Q->w'.cell? ⟨mb,0,none⟩=some (.pointer (some ⟨L.hb,0,none⟩))/\w'.cell? ⟨L.hb,14,none⟩=some (.int .i64 h.g.words)/\w'.cell? ⟨L.hb,15,none⟩=some (.int .i64 h.g.rw)/\w'.cell? ⟨L.hb,16,none⟩=some (.int .i64 h.g.cw)/\w'.cell? ⟨L.hb,17,none⟩=some (.int .i64 h.g.regions)/\w'.cell? ⟨L.hb,18,none⟩=some (.int .i64 h.g.aG)/\w'.cell? ⟨L.hb,19,none⟩=some (.int .i64 h.g.max)/\w'.cell? ⟨L.hb,21,none⟩=some (.pointer (some ⟨L.tb,0,none⟩))):=λw' q=>by
   have hb:=(HMu.out _ _ _ q).1;obtain⟨a1,a2,a3,a4,a5,a6,a7,a8,a9,a10,a11,a12,a13,a14,a15,a16⟩:=HCe.out _ _ _ _ q;exact⟨hb,a1,a2,a3,a4,a5,a6,a8⟩
  have K0:=HK8.out _ HAd.out;have HRD:=aa (λw' q=>HRg.out w' h.t (ak h.bx t 0) (ak h.be t 0) y0 q);rw[er]at HRD;have HSet:=aa (λw' q=>HTp.out w' (ak h.bx t 0) (ak h.be t 0) r y0 HR.out.1 HR.out.2.1 HR.out.2.2.1 HR.out.2.2.2 q);clear er hxy;go_region_held3 (λw'=>w'.cell? ⟨mb,0,none⟩=some (.pointer (some ⟨L.hb,0,none⟩))/\w'.cell? ⟨L.hb,14,none⟩=some (.int .i64 h.g.words)/\w'.cell? ⟨L.hb,15,none⟩=some (.int .i64 h.g.rw)/\w'.cell? ⟨L.hb,16,none⟩=some (.int .i64 h.g.cw)/\w'.cell? ⟨L.hb,17,none⟩=some (.int .i64 h.g.regions)/\w'.cell? ⟨L.hb,18,none⟩=some (.int .i64 h.g.aG)/\w'.cell? ⟨L.hb,19,none⟩=some (.int .i64 h.g.max)/\w'.cell? ⟨L.hb,21,none⟩=some (.pointer (some ⟨L.tb,0,none⟩)))
   (first|with_reducible exact K0|go_keep)
   (first|(go_at_call 83;refine(HRD.out _ HAd.out).mono ?_;rintro e w3 ⟨rfl,hA⟩;replace HAd:=aa hA;have K0:=HK8.out _ hA;clear hA)|(go_at_call 177;refine(HSet.out _ HAd.out).mono ?_;rintro e w4 ⟨rfl,hA⟩;have HA2:=aa hA;have K0:=HK9.out _ hA;clear hA))
  all_goals
   go_wp2_with fail
   go_end0
   refine⟨rfl,?_⟩;rw[HOut.out,HDt2.out];exact HA2.out
 ·have HDt2:Hid (lP h t=h.t):=aa (by rw[HDt.out,if_neg hxy]);clear HIn HDt;go_wp2_with fail
  go_end0
  refine⟨rfl,?_⟩;rw[HOut.out,HDt2.out];exact HA1.out
end
section
variable {W w w':World}{L:HL}{X:HX}{h:HS}{x:HT}{s k:Nat}{E:aK}{D:Nat->Prop}{Q:World->Prop}{mb t sb:Nat}{m:MU}
theorem HM.x8(hS:ah D Q)(H:HM W w L X h x s k E D Q)(y:Int) :
  Calls Tryz.prog 75 #[.pointer (some ⟨L.tb,0,none⟩),.int .i64 y] w λe w'=>(∃A c,e=.returned (.slice A (bN h.s y h.R).length c))/\HM W w' L X h x s k E D Q:=
 H.see hS λown ⟨tg,FS,H⟩=>(vn H.rg y).mono (by
  rintro e w' ⟨v,rfl,ho,hf⟩;obtain⟨A,c,rfl,_⟩:=Sl.own ho;exact⟨⟨A,c,rfl⟩,hf⟩)
theorem HM.take(hS:ah D Q)(H:HM W w L X h x s k E D Q){y:Int}(hy:dr y){j:Nat}(hl:du h.s h.R j) :
  Calls Tryz.prog 178 #[.pointer (some ⟨L.tb,0,none⟩),.int .i64 y] w λe w'=>e=.returned (.tuple #[.int .i64 (j:Int),.int .i64 0])/\HM W w' L X { h with s:=ak h.s j y } x s k E D Q:=
 H.post hS λown q=>q.Ci hy hl
theorem HM.zR(hS:ah D Q)(H:HM W w L X h x s k E D Q){y:Int}(hy:dr y)(hl:gF h.s h.R) :
  Calls Tryz.prog 178 #[.pointer (some ⟨L.tb,0,none⟩),.int .i64 y] w λe w'=>e=.returned (.tuple #[.int .i64 0,.int .i64 6])/\HM W w' L X h x s k E D Q:=
 H.see hS λown ⟨tg,FS,H⟩=>(rY H.rg hy hl).mono (by rintro e w' ⟨rfl,rfl⟩;exact⟨rfl,Fr.refl _ _⟩)
theorem HM.bH(H:HM W w L X h x s k E D Q):w.cell? ⟨L.hb,7,none⟩=some (.int .i64 L.cfg.bH):=H.hr.st.cell 7
def ek(h:HS)(i j:Nat):HS:={ h with s:=ak h.s j 1,t:=ak h.t j ((j*h.W+h.W:Nat):Int),bx:=ak h.bx i ((j*h.W:Nat):Int),be:=ak h.be i ((j*h.W+h.W:Nat):Int) }
theorem mi(hS:ah D Q)(H:HM W w L X h x s k E D Q)(hm:(mb,122,muV L.hb t sb m)∈E)(hy:((bN h.s 1 h.R).length:Int)>=L.cfg.bH) :
  Calls Tryz.prog 166 #[.pointer (some ⟨mb,0,none⟩)] w λe w'=>e=.returned (.tuple #[])/\HM W w' L X h x s k E D Q:=by
 have HAd:=aa (H.fr0 hS (Fr.refl _ _).drew);have HL:=aa (λw' (q:HM W w' L X h x s k E D Q)=>q.x8 hS 1);have HK:Hid (∀w',HM W w' L X h x s k E D Q->w'.cell? ⟨L.hb,21,none⟩=some (.pointer (some ⟨L.tb,0,none⟩))/\w'.cell? ⟨L.hb,7,none⟩=some (.int .i64 L.cfg.bH)):=λw' q=>⟨q.hc.c21,q.bH⟩;have k0:w.cell? ⟨mb,0,none⟩=some (.pointer (some ⟨L.hb,0,none⟩)):=(H.blk hm).cell 0;have K0:=HK.out _ HAd.out;have NH:=ae K0.1;have hwl:IntKind.i64.wrap ((bN h.s 1 h.R).length:Int)=((bN h.s 1 h.R).length:Int):=by
  have h1:(bN h.s 1 h.R).length<=h.R:=by unfold bN;exact Nat.le_trans (List.length_filter_le _ _) (by simp)
  have:=H.dim.r3;exact IntWalk.i64_in _ ⟨by omega,by omega⟩
 have hyB:decide (((bN h.s 1 h.R).length:Int)>=L.cfg.bH)=true:=by simpa using hy
 have hyC:decide (L.cfg.bH<=((bN h.s 1 h.R).length:Int))=true:=by simpa using hy
 clear H hm;generalize (bN h.s 1 h.R).length=n9 at *;generalize L.cfg.bH=y9 at *;go_enter Tryz.func166,Tryz.ntmps166
 go_wp2_with fail
 go_region_held3 (λw'=>w'.cell? ⟨L.hb,21,none⟩=some (.pointer (some ⟨L.tb,0,none⟩))/\w'.cell? ⟨L.hb,7,none⟩=some (.int .i64 y9))
  (first|with_reducible exact K0|go_keep)
  (first|(go_at_call 75;refine(HL.out _ HAd.out).mono ?_;rintro e w1 ⟨⟨A1,c1,rfl⟩,hA⟩;have HA1:=aa hA;have K0:=HK.out _ hA;clear hA))
 all_goals
  go_wp2_with fail
  exact bodyPost_ret (results_none rfl _ _ _) rfl ⟨rfl,HA1.out⟩
theorem mj(hS:ah D Q)(H:HM W w L X h x s k E D Q)(hm:(mb,122,muV L.hb t sb m)∈E)(hy:((bN h.s 1 h.R).length:Int)<L.cfg.bH)(hn:gF h.s h.R) :
  Calls Tryz.prog 166 #[.pointer (some ⟨mb,0,none⟩)] w λe w'=>e=.returned (.tuple #[])/\HM W w' L X h x s k E D Q:=by
 have HAd:=aa (H.fr0 hS (Fr.refl _ _).drew);have HL:=aa (λw' (q:HM W w' L X h x s k E D Q)=>q.x8 hS 1);have HN:=aa (λw' (q:HM W w' L X h x s k E D Q)=>q.zR hS (y:=1) (.inl rfl) hn);have HK:Hid (∀w',HM W w' L X h x s k E D Q->w'.cell? ⟨L.hb,21,none⟩=some (.pointer (some ⟨L.tb,0,none⟩))/\w'.cell? ⟨L.hb,7,none⟩=some (.int .i64 L.cfg.bH)):=λw' q=>⟨q.hc.c21,q.bH⟩;have k0:w.cell? ⟨mb,0,none⟩=some (.pointer (some ⟨L.hb,0,none⟩)):=(H.blk hm).cell 0;have K0:=HK.out _ HAd.out;have NH:=ae K0.1;have hyB:decide (((bN h.s 1 h.R).length:Int)>=L.cfg.bH)=false:=by simpa using hy
 have hyC:decide (L.cfg.bH<=((bN h.s 1 h.R).length:Int))=false:=by simpa using hy
 clear H hm hn;generalize (bN h.s 1 h.R).length=n9 at *;generalize L.cfg.bH=y9 at *;go_enter Tryz.func166,Tryz.ntmps166
 go_wp2_with fail
 go_region_held3 (λw'=>w'.cell? ⟨L.hb,21,none⟩=some (.pointer (some ⟨L.tb,0,none⟩))/\w'.cell? ⟨L.hb,7,none⟩=some (.int .i64 y9))
  (first|with_reducible exact K0|go_keep)
  (first|(go_at_call 75;refine(HL.out _ HAd.out).mono ?_;rintro e w1 ⟨⟨A1,c1,rfl⟩,hA⟩;have HA1:=aa hA;have K0:=HK.out _ hA;clear hA))
 all_goals
  have k21:=(HK.out _ HA1.out).1;have NH1:=ae k21;have HN1:=aa (HN.out _ HA1.out);clear k0;go_wp2_with fail
  refine HN1.out.mono ?_;rintro e w2 ⟨rfl,hA⟩;have HA2:=aa hA;clear hA k21 NH1;go_wp2_with fail
  exact bodyPost_ret (results_none rfl _ _ _) rfl ⟨rfl,HA2.out⟩
end
def HS.Used(h:HS)(u:Nat):Prop:=u<h.n/\h.s (u / h.W)≠0/\(u:Int)<h.t (u / h.W)/\∀i,i<h.T->¬ (h.bx i<=(u:Int)/\(u:Int)<h.be i)
def osz(σ:GS)(o:Nat):Nat:=1+σ.np (o:Int)+σ.nw (o:Int)
theorem hU(σ:GS)(o:Nat):1<=osz σ o:=by unfold osz;omega
def HS.mq(h:HS)(a z:Nat):Prop:=
 ((h.s (a / h.W)=1\/h.s (a / h.W)=2\/h.s (a / h.W)=3)/\a+z<=a / h.W*h.W+h.W) \/
 (h.s (a / h.W)=4/\a=a / h.W*h.W/\∀i,1<=i->i*h.W<z->a / h.W+i<h.R/\h.s (a / h.W+i)=5)
theorem HS.mq.up{h h':HS}{a z:Nat}(l:h.mq a z)(eW:h'.W=h.W)(eR:h'.R=h.R)(hs:∀q,h.s q≠0->h'.s q=h.s q):h'.mq a z:=by
 unfold HS.mq;rw[eW,eR];rcases l with⟨l1,l2⟩|⟨l1,l2,l3⟩
 ·refine .inl ⟨?_,l2⟩;rw[hs _ (by omega)];exact l1
 ·refine .inr ⟨by rw[hs _ (by omega)];exact l1,l2,λi h1 h2=>?_⟩;obtain⟨k1,k2⟩:=l3 i h1 h2;exact⟨k1,by rw[hs _ (by omega)];exact k2⟩
structure ib(h:HS)(σ:GS)(A:Nat->Nat)(rv:Nat->Option (Nat×Nat))(Zs:List (Nat×Nat×Nat)):Prop where
 hdr:∀a z P,(a,z,P)∈Zs->h.f a=aX z P/\P<z/\z<=1048576/\∀j,j<P->h.f (a+1+j)=0
 use:∀a z P,(a,z,P)∈Zs->∀u,a<=u->u<a+z->h.Used u
 dis:∀a z P,(a,z,P)∈Zs->∀o,1<=o->o<=σ.N->∀u,a<=u->u<a+z->¬ (A o<=u/\u<A o+osz σ o)
 rdi:∀a z P,(a,z,P)∈Zs->∀i,i<h.T->∀b y,rv i=some (b,y)->∀u,a<=u->u<a+z->¬ (b<=u/\u<b+y)
 one:∀a z P b y Q,(a,z,P)∈Zs->(b,y,Q)∈Zs->∀u,a<=u->u<a+z->b<=u->u<b+y->a=b/\z=y/\P=Q
 lz:∀a z P,(a,z,P)∈Zs->h.mq a z
 lo:∀o,1<=o->o<=σ.N->h.mq (A o) (osz σ o)
 lr:∀i,i<h.T->∀a z,rv i=some (a,z)->h.mq a z
 cov:∀u,h.Used u->(∃o,1<=o/\o<=σ.N/\A o<=u/\u<A o+osz σ o)\/(∃a z P,(a,z,P)∈Zs/\a<=u/\u<a+z)\/∃i a z,i<h.T/\rv i=some (a,z)/\a<=u/\u<a+z
 hum:∀r,r<h.R->h.s r=4->((r*h.W:Nat):Int)<h.t r
def Rest(h:HS)(σ:GS)(A:Nat->Nat)(rv:Nat->Option (Nat×Nat)):Prop:=∃Zs,ib h σ A rv Zs
section
variable {h:HS}{σ:GS}{A:Nat->Nat}{rv:Nat->Option (Nat×Nat)}{Zs:List (Nat×Nat×Nat)}
theorem Rest.stk(m:Rest h σ A rv){l:Nat->List Int}{σ':GS}(eN:σ'.N=σ.N)(ez:∀p,osz σ' p=osz σ p):Rest { h with st:=l } σ' A rv:=by
 obtain⟨Zs,m⟩:=m;exact⟨Zs,⟨m.hdr,m.use,λa z P hm o h1 h2=>by rw[ez];exact m.dis a z P hm o h1 (by omega),m.rdi,m.one,m.lz,λo h1 h2=>by rw[ez];exact m.lo o h1 (by omega),m.lr,
  λu hu=>(m.cov u hu).imp (λ⟨o,h1,h2,h3,h4⟩=>⟨o,h1,by omega,h3,by rw[ez];exact h4⟩) id,m.hum⟩⟩
theorem Rest.word(m:Rest h σ A rv){o u0 v:Nat}(h1:1<=o)(h2:o<=σ.N)(hu:A o<=u0/\u0<A o+osz σ o){σ':GS}(eN:σ'.N=σ.N)(ez:∀p,osz σ' p=osz σ p):Rest { h with f:=upd h.f u0 v } σ' A rv:=by
 obtain⟨Zs,m⟩:=m;have far:∀a z P,(a,z,P)∈Zs->∀u,a<=u->u<a+z->upd h.f u0 v u=h.f u:=λa z P hm u k1 k2=>by
  unfold upd;rw[if_neg];intro e;exact m.dis a z P hm o h1 h2 u k1 k2 (by omega)
 refine⟨Zs,⟨λa z P hm=>?_,m.use,λa z P hm o h1 h2=>by rw[ez];exact m.dis a z P hm o h1 (by omega),m.rdi,m.one,m.lz,λo h1 h2=>by rw[ez];exact m.lo o h1 (by omega),m.lr,
  λu hu=>(m.cov u hu).imp (λ⟨o,h1,h2,h3,h4⟩=>⟨o,h1,by omega,h3,by rw[ez];exact h4⟩) id,m.hum⟩⟩
 obtain⟨k1,k2,k3,k4⟩:=m.hdr a z P hm;exact⟨(far a z P hm a (Eg _) (by omega)).trans k1,k2,k3,λj hj=>(far a z P hm _ (by omega) (by omega)).trans (k4 j hj)⟩
theorem Rest.move(m:Rest h σ A rv){h':HS}(eT:h'.T=h.T)(eW:h'.W=h.W)(eR:h'.R=h.R)(ef:h'.f=h.f)(hu:∀u,h.Used u->h'.Used u)(hb:∀u,h'.Used u->h.Used u)(hs:∀q,h.s q≠0->h'.s q=h.s q)
  (hh:∀r,r<h.R->h'.s r=4->((r*h.W:Nat):Int)<h'.t r):Rest h' σ A rv:=by
 obtain⟨Zs,m⟩:=m;exact⟨Zs,⟨λa z P hm=>by rw[ef];exact m.hdr a z P hm,λa z P hm u k1 k2=>hu u (m.use a z P hm u k1 k2),m.dis,λa z P hm i hi=>m.rdi a z P hm i (by omega),m.one,λa z P hm=>(m.lz a z P hm).up eW eR hs,
  λo h1 h2=>(m.lo o h1 h2).up eW eR hs,λi hi a z e=>(m.lr i (by omega) a z e).up eW eR hs,
  λu k=>(m.cov u (hb u k)).imp id (Or.imp id (λ⟨i,a,z,q1,q2⟩=>⟨i,a,z,by omega,q2⟩)),λr hr h4=>by rw[eW];exact hh r (by omega) h4⟩⟩
theorem Rest.take(m:Rest h σ A rv){h':HS}{t a z:Nat}(ht:t<h.T)(eT:h'.T=h.T)(eW:h'.W=h.W)(eR:h'.R=h.R)(ef:h'.f=h.f)(hu:∀u,h.Used u->h'.Used u)(hb:∀u,h'.Used u->h.Used u\/(a<=u/\u<a+z))(hs:∀q,h.s q≠0->h'.s q=h.s q)
  (hh:∀r,r<h.R->h'.s r=4->((r*h.W:Nat):Int)<h'.t r) (hr:rv t=none) (hn:∀u,a<=u->u<a+z->¬ h.Used u) (hl:h'.mq a z):Rest h' σ A (ai rv t (some (a,z))):=by
 obtain⟨Zs,m⟩:=m;refine⟨Zs,⟨λa z P hm=>by rw[ef];exact m.hdr a z P hm,λa z P hm u k1 k2=>hu u (m.use a z P hm u k1 k2),m.dis,λb y P hm i hi c v e u k1 k2 k3=>?_,m.one,λa z P hm=>(m.lz a z P hm).up eW eR hs,
  λo h1 h2=>(m.lo o h1 h2).up eW eR hs,λi hi b y e=>?_,λu k=>?_,λr hr h4=>by rw[eW];exact hh r (by omega) h4⟩⟩
 ·unfold ai at e;split at e
  ·obtain⟨rfl,rfl⟩:=Prod.mk.inj (Option.some.inj e);exact hn u k3.1 k3.2 (m.use b y P hm u k1 k2)
  ·exact m.rdi b y P hm i (by omega) c v e u k1 k2 k3
 ·unfold ai at e;split at e
  ·obtain⟨rfl,rfl⟩:=Prod.mk.inj (Option.some.inj e);exact hl
  ·exact(m.lr i (by omega) b y e).up eW eR hs
 ·rcases hb u k with k|k
  ·refine(m.cov u k).imp id (Or.imp id ?_);rintro⟨i,b,y,q1,q2,q3⟩;refine⟨i,b,y,by omega,?_,q3⟩;unfold ai;split
   ·rename_i e;rw[e,hr]at q2;cases q2
   ·exact q2
  ·exact .inr (.inr ⟨t,a,z,by omega,aq _ _ _,k⟩)
theorem Rest.make(m:Rest h σ A rv){t a z P:Nat}(ht:t<h.T)(hr:rv t=some (a,z))(hP:P<z){g:Nat->Nat}{x:Nat} :
  Rest { h with f:=upd (aC h.f a z g) a x } (σ.new (P:Int) ((z-1-P:Nat):Int)) (ai A (σ.N+1) a) (ai rv t none):=by
 obtain⟨Zs,m⟩:=m;have eA:∀o,o<=σ.N->ai A (σ.N+1) a o=A o:=λo ho=>ay _ _ (by omega);have ez:∀o,o<=σ.N->osz (σ.new (P:Int) ((z-1-P:Nat):Int)) o=osz σ o:=λo ho=>by
  unfold osz;rw[show(σ.new (P:Int) ((z-1-P:Nat):Int)).np (o:Int)=σ.np (o:Int) from ay _ _ (by omega),show(σ.new (P:Int) ((z-1-P:Nat):Int)).nw (o:Int)=σ.nw (o:Int) from ay _ _ (by omega)]
 have eZ:osz (σ.new (P:Int) ((z-1-P:Nat):Int)) (σ.N+1)=z:=by
  have e:(((σ.N+1:Nat)):Int)=(σ.N:Int)+1:=by omega
  unfold osz;rw[e,show(σ.new (P:Int) ((z-1-P:Nat):Int)).np ((σ.N:Int)+1)=P from (aq _ _ _).trans (by simp),show(σ.new (P:Int) ((z-1-P:Nat):Int)).nw ((σ.N:Int)+1)=z-1-P from (aq _ _ _).trans (by simp)];omega
 have two:∀o,o<=(σ.new (P:Int) ((z-1-P:Nat):Int)).N->o<=σ.N\/o=σ.N+1:=λo ho=>by
  have:o<=σ.N+1:=ho;omega
 have old:∀b y Q,(b,y,Q)∈Zs->∀u,b<=u->u<b+y->upd (aC h.f a z g) a x u=h.f u:=λb y Q hm u h3 h4=>by
  have:¬ (a<=u/\u<a+z):=m.rdi b y Q hm t ht a z hr u h3 h4;unfold upd aC;rw[if_neg (by omega),if_neg this]
 have none_:∀ {i:Nat}{p:Nat×Nat},ai rv t none i=some p->rv i=some p:=λ{i p} e=>by
  unfold ai at e;split at e
  ·cases e
  ·exact e
 refine⟨Zs,⟨λb y Q hm=>?_,m.use,λb y Q hm o h1 h2 u k1 k2 k3=>?_,λb y Q hm i hi c v e=>m.rdi b y Q hm i hi c v (none_ e),m.one,m.lz,λo h1 h2=>?_,λi hi b y e=>m.lr i hi b y (none_ e),λu k=>?_,m.hum⟩⟩
 ·obtain⟨k1,k2,k3,k4⟩:=m.hdr b y Q hm;exact⟨(old b y Q hm b (Eg _) (by omega)).trans k1,k2,k3,λj hj=>(old b y Q hm _ (by omega) (by omega)).trans (k4 j hj)⟩
 ·rcases two o h2 with e|e
  ·rw[eA o e,ez o e]at k3;exact m.dis b y Q hm o h1 e u k1 k2 k3
  ·subst e;rw[aq,eZ]at k3;exact m.rdi b y Q hm t ht a z hr u k1 k2 k3
 ·rcases two o h2 with e|e
  ·rw[eA o e,ez o e];exact m.lo o h1 e
  ·subst e;rw[aq,eZ];exact m.lr t ht a z hr
 ·rcases m.cov u k with⟨o,q1,q2,q3,q4⟩|q|⟨i,b,y,q1,q2,q3⟩
  ·exact .inl ⟨o,q1,Nat.le_succ_of_le q2,by rw[eA o q2];exact q3,by rw[eA o q2,ez o q2];exact q4⟩
  ·exact .inr (.inl q)
  ·by_cases e:i=t
   ·subst e;rw[hr]at q2;obtain⟨rfl,rfl⟩:=Prod.mk.inj (Option.some.inj q2);exact .inl ⟨σ.N+1,by omega,Eg _,by rw[aq];exact q3.1,by rw[aq,eZ];exact q3.2⟩
   ·exact .inr (.inr ⟨i,b,y,q1,(ay _ _ e).trans q2,q3⟩)
theorem Rest.x9(m:Rest h σ A rv){t a z P:Nat}(ht:t<h.T)(hr:rv t=some (a,z))(hP:P<z)(hz:z<=1048576)(hu:∀u,a<=u->u<a+z->h.Used u)(hd:∀o,1<=o->o<=σ.N->∀u,a<=u->u<a+z->¬ (A o<=u/\u<A o+osz σ o))
  (hrr:∀i,i<h.T->i≠t->∀b y,rv i=some (b,y)->∀u,a<=u->u<a+z->¬ (b<=u/\u<b+y)) :
  Rest { h with f:=upd (aC h.f a z (λ_=>0)) a (aX z P) } σ A (ai rv t none):=by
 obtain⟨Zs,m⟩:=m;have old:∀b y Q,(b,y,Q)∈Zs->∀u,b<=u->u<b+y->upd (aC h.f a z (λ_=>0)) a (aX z P) u=h.f u:=λb y Q hm u h3 h4=>by
  have:¬ (a<=u/\u<a+z):=m.rdi b y Q hm t ht a z hr u h3 h4;unfold upd aC;rw[if_neg (by omega),if_neg this]
 have none_:∀ {i:Nat}{p:Nat×Nat},ai rv t none i=some p->i≠t/\rv i=some p:=λ{i p} e=>by
  unfold ai at e;split at e
  ·cases e
  ·exact⟨by assumption,e⟩
 have two:∀ {b y Q},(b,y,Q)∈(a,z,P)::Zs->(b=a/\y=z/\Q=P)\/(b,y,Q)∈Zs:=λ{b y Q} hm=>by
  rcases List.mem_cons.1 hm with e|e
  ·injection e with e1 e2;injection e2 with e2 e3;exact .inl ⟨e1,e2,e3⟩
  ·exact .inr e
 refine⟨(a,z,P)::Zs,⟨λb y Q hm=>?_,λb y Q hm=>?_,λb y Q hm=>?_,λb y Q hm i hi c v e=>?_,λb y Q c v S h1 h2 u k1 k2 k3 k4=>?_,λb y Q hm=>?_,m.lo,λi hi b y e=>m.lr i hi b y (none_ e).2,λu k=>?_,m.hum⟩⟩
 ·rcases two hm with⟨rfl,rfl,rfl⟩|hm
  ·refine⟨by show upd _ _ _ _=_;unfold upd;rw[if_pos rfl],hP,hz,λj hj=>?_⟩;show upd _ _ _ _=_;unfold upd aC;rw[if_neg (by omega),if_pos (by omega)]
  ·obtain⟨k1,k2,k3,k4⟩:=m.hdr b y Q hm;exact⟨(old b y Q hm b (Eg _) (by omega)).trans k1,k2,k3,λj hj=>(old b y Q hm _ (by omega) (by omega)).trans (k4 j hj)⟩
 ·rcases two hm with⟨rfl,rfl,rfl⟩|hm
  ·exact hu
  ·exact m.use b y Q hm
 ·rcases two hm with⟨rfl,rfl,rfl⟩|hm
  ·exact hd
  ·exact m.dis b y Q hm
 ·obtain⟨e1,e2⟩:=none_ e;rcases two hm with⟨rfl,rfl,rfl⟩|hm
  ·exact hrr i hi e1 c v e2
  ·exact m.rdi b y Q hm i hi c v e2
 ·rcases two h1 with⟨rfl,rfl,rfl⟩|g1
  ·rcases two h2 with⟨rfl,rfl,rfl⟩|g2
   ·exact⟨rfl,rfl,rfl⟩
   ·exact absurd ⟨k1,k2⟩ (m.rdi c v S g2 t ht _ _ hr u k3 k4)
  ·rcases two h2 with⟨rfl,rfl,rfl⟩|g2
   ·exact absurd ⟨k3,k4⟩ (m.rdi b y Q g1 t ht _ _ hr u k1 k2)
   ·exact m.one b y Q c v S g1 g2 u k1 k2 k3 k4
 ·rcases two hm with⟨rfl,rfl,rfl⟩|hm
  ·exact m.lr t ht _ _ hr
  ·exact m.lz b y Q hm
 ·rcases m.cov u k with q|⟨b,y,Q,q1,q2⟩|⟨i,b,y,q1,q2,q3⟩
  ·exact .inl q
  ·exact .inr (.inl ⟨b,y,Q,List.mem_cons_of_mem _ q1,q2⟩)
  ·by_cases e:i=t
   ·subst e;rw[hr]at q2;obtain⟨rfl,rfl⟩:=Prod.mk.inj (Option.some.inj q2);exact .inr (.inl ⟨_,_,P,List.mem_cons_self ..,q3⟩)
   ·exact .inr (.inr ⟨i,b,y,q1,(ay _ _ e).trans q2,q3⟩)
end
structure HS.lQ(h:HS):Prop where
 reg:∀i,i<h.T->h.bx i<h.be i->∃r,r<h.R/\h.s r=1/\((r*h.W:Nat):Int)<=h.bx i/\h.be i=((r*h.W+h.W:Nat):Int)/\h.t r=((r*h.W+h.W:Nat):Int)
 one:∀i j,i<h.T->j<h.T->i≠j->h.bx i<h.be i->h.bx j<h.be j->h.be i≠h.be j
theorem HS.lQ.Cq{h:HS}(b:h.lQ):h.ui:=λi hi hb=>by
 obtain⟨r,h1,h2,h3,h4,h5⟩:=b.reg i hi hb;exact⟨r,h1,.inl h2,h3,by omega⟩
def bo(A:Nat->Nat)(r:Int):Int:=if r=0 then 0 else ((A r.toNat:Nat):Int)+1
structure Sim(h:HS)(σ:GS)(A:Nat->Nat)(rv:Nat->Option (Nat×Nat)):Prop where
 buf:h.lQ
 st:∀i,i<h.T->h.st i=(σ.st i).map (bo A)
 zm:∀o,1<=o->o<=σ.N->osz σ o<=1048576
 hdr:∀o,1<=o->o<=σ.N->h.f (A o)=aX (osz σ o) (σ.np (o:Int))
 ref:∀o,1<=o->o<=σ.N->∀j,j<σ.np (o:Int)->(h.f (A o+1+j):Int)=bo A (σ.ref (o:Int) (j:Int))
 dat:∀o,1<=o->o<=σ.N->∀j,j<σ.nw (o:Int)->(h.f (A o+1+σ.np (o:Int)+j):Int)=σ.dat (o:Int) (j:Int)
 use:∀o,1<=o->o<=σ.N->∀u,A o<=u->u<A o+osz σ o->h.Used u
 dis:∀o p,1<=o->o<=σ.N->1<=p->p<=σ.N->∀u,A o<=u->u<A o+osz σ o->A p<=u->u<A p+osz σ p->o=p
 rz:∀i,i<h.T->∀a z,rv i=some (a,z)->1<=z/\z<=1048576
 kh:∀i,i<h.T->∀a z,rv i=some (a,z)->∀u,a<=u->u<a+z->h.Used u
 ki:∀i,i<h.T->∀a z,rv i=some (a,z)->∀o,1<=o->o<=σ.N->∀u,a<=u->u<a+z->¬ (A o<=u/\u<A o+osz σ o)
 rr:∀i j,i<h.T->j<h.T->i≠j->∀a z b y,rv i=some (a,z)->rv j=some (b,y)->∀u,a<=u->u<a+z->¬ (b<=u/\u<b+y)
 rest:Rest h σ A rv
section
variable {h:HS}{σ:GS}{A:Nat->Nat}{rv:Nat->Option (Nat×Nat)}
theorem bT(A:Nat->Nat):bo A 0=0:=by simp[bo]
theorem dC(A:Nat->Nat){o:Nat}(h:1<=o):bo A (o:Int)=((A o:Nat):Int)+1:=by unfold bo;rw[if_neg (by omega)];simp
theorem oM(A:Nat->Nat){r:Int}(h:r≠0):bo A r≠0:=by unfold bo;rw[if_neg h];omega
theorem Sim.inj(m:Sim h σ A rv){r q:Int}(hr:0<=r/\r<=(σ.N:Int))(hq:0<=q/\q<=(σ.N:Int))(e:bo A r=bo A q):r=q:=by
 by_cases e1:r=0
 ·by_cases e2:q=0
  ·omega
  ·rw[e1,bT]at e;exact absurd e.symm (oM A e2)
 ·by_cases e2:q=0
  ·rw[e2,bT]at e;exact absurd e (oM A e1)
  ·unfold bo at e;rw[if_neg e1,if_neg e2]at e;have:=m.dis r.toNat q.toNat (by omega) (by omega) (by omega) (by omega) (A r.toNat) (Eg _) (by have:=hU σ r.toNat;omega) (by omega) (by have:=hU σ q.toNat;omega);omega
theorem Sim.stk(m:Sim h σ A rv){t:Nat}{l:List Int}:Sim { h with st:=bj h.st t (l.map (bo A)) } (σ.jA t l) A rv:=by
 refine⟨⟨m.buf.reg,m.buf.one⟩,λi hi=>?_,m.zm,m.hdr,m.ref,m.dat,m.use,m.dis,m.rz,m.kh,m.ki,m.rr,m.rest.stk rfl (λ_=>rfl)⟩;show bj h.st t (l.map (bo A)) i=(ai σ.st t l i).map (bo A);unfold bj ai;split
 ·rfl
 ·exact m.st i hi
theorem Sim.tick(m:Sim h σ A rv)(t:Nat):Sim h (σ.tick t) A rv:=⟨m.buf,m.st,m.zm,m.hdr,m.ref,m.dat,m.use,m.dis,m.rz,m.kh,m.ki,m.rr,m.rest.stk (l:=h.st) rfl (λ_=>rfl)⟩
theorem sI(A:Nat->Nat)(B:Nat)(l:List Int)(r:Int):aI B (l.map (bo A)) (bo A r)=(aI B l r).map (bo A):=by
 unfold aI;simp only[List.length_map];split <;> simp
theorem vw(A:Nat->Nat)(l:List Int):dJ (l.map (bo A))=(dJ l).map (bo A):=by
 unfold dJ;simp
theorem bd(A:Nat->Nat)(l:List Int)(i:Int):aH (l.map (bo A)) i↔aH l i:=by
 unfold aH;simp
theorem nR(A:Nat->Nat)(l:List Int)(i:Int):al (l.map (bo A)) i=al l i:=by
 unfold al aH;simp
theorem cM(A:Nat->Nat)(l:List Int)(i:Int):aj (l.map (bo A)) i=bo A (aj l i):=by
 unfold aj;by_cases e:aH l i
 ·rw[if_pos e,if_pos ((bd A l i).2 e)];unfold aH at e;have hk:i.toNat<l.length:=by omega
  simp[hk]
 ·rw[if_neg e,if_neg (λx=>e ((bd A l i).1 x)),bT]
theorem Sim.push(m:Sim h σ A rv){t B:Nat}(ht:t<h.T)(r:Int):Sim { h with st:=bj h.st t (aI B (h.st t) (bo A r)) } (σ.push B t r) A rv:=by
 rw[m.st t ht,sI];exact m.stk
theorem Sim.pop(m:Sim h σ A rv){t:Nat}(ht:t<h.T):Sim { h with st:=bj h.st t (dJ (h.st t)) } (oh σ t) A rv:=by
 rw[m.st t ht,vw];exact m.stk
theorem Sim.setRef(m:Sim h σ A rv){o j v:Nat}{y:Int}(h1:1<=o)(h2:o<=σ.N)(hj:j<σ.np (o:Int))(hv:(v:Int)=bo A y):Sim { h with f:=upd h.f (A o+1+j) v } (σ.setRef (o:Int) (j:Int) y) A rv:=by
 have ez:∀p,osz (σ.setRef (o:Int) (j:Int) y) p=osz σ p:=λ_=>rfl;have far:∀p,1<=p->p<=σ.N->∀u,A p<=u->u<A p+osz σ p->(p≠o\/u≠A o+1+j)->upd h.f (A o+1+j) v u=h.f u:=λp p1 p2 u u1 u2 e=>by
  unfold upd;rw[if_neg];intro e2;rcases e with e|e
  ·refine e (m.dis p o p1 p2 h1 h2 u u1 u2 (by omega) ?_);unfold osz;omega
  ·exact e e2
 refine⟨⟨m.buf.reg,m.buf.one⟩,m.st,m.zm,λp p1 p2=>?_,λp p1 p2 i hi=>?_,λp p1 p2 i hi=>?_,m.use,m.dis,m.rz,m.kh,m.ki,m.rr,m.rest.word h1 h2 ⟨by omega,by unfold osz;omega⟩ rfl (λ_=>rfl)⟩
 ·rw[ez];refine(far p p1 p2 _ (Eg _) (by have:=hU σ p;omega) ?_).trans (m.hdr p p1 p2);by_cases e:p=o
  ·subst e;right;omega
  ·exact .inl e
 ·have hi:i<σ.np (p:Int):=hi;show(upd h.f (A o+1+j) v (A p+1+i):Int)=bo A (ai σ.ref (o:Int) (ai (σ.ref (o:Int)) (j:Int) y) (p:Int) (i:Int));by_cases e:p=o
  ·subst e;rw[aq];by_cases e2:i=j
   ·subst e2;rw[aq];unfold upd;rw[if_pos rfl,hv]
   ·rw[ay _ _ (by omega),far p p1 p2 _ (by omega) (by unfold osz;omega) (.inr (by omega))];exact m.ref p p1 p2 i hi
  ·rw[ay _ _ (by omega),far p p1 p2 _ (by omega) (by unfold osz;omega) (.inl e)];exact m.ref p p1 p2 i hi
 ·have hi:i<σ.nw (p:Int):=hi;show(upd h.f (A o+1+j) v (A p+1+σ.np (p:Int)+i):Int)=σ.dat (p:Int) (i:Int);rw[far p p1 p2 _ (by omega) (by unfold osz;omega) ?_]
  ·exact m.dat p p1 p2 i hi
  ·by_cases e:p=o
   ·subst e;right;omega
   ·exact .inl e
theorem Sim.cV(m:Sim h σ A rv){o j v:Nat}(h1:1<=o)(h2:o<=σ.N)(hj:j<σ.nw (o:Int)):Sim { h with f:=upd h.f (A o+1+σ.np (o:Int)+j) v } (σ.cV (o:Int) (j:Int) (v:Int)) A rv:=by
 have ez:∀p,osz (σ.cV (o:Int) (j:Int) (v:Int)) p=osz σ p:=λ_=>rfl;have far:∀p,1<=p->p<=σ.N->∀u,A p<=u->u<A p+osz σ p->(p≠o\/u≠A o+1+σ.np (o:Int)+j)->upd h.f (A o+1+σ.np (o:Int)+j) v u=h.f u:=λp p1 p2 u u1 u2 e=>by
  unfold upd;rw[if_neg];intro e2;rcases e with e|e
  ·refine e (m.dis p o p1 p2 h1 h2 u u1 u2 (by omega) ?_);unfold osz;omega
  ·exact e e2
 refine⟨⟨m.buf.reg,m.buf.one⟩,m.st,m.zm,λp p1 p2=>?_,λp p1 p2 i hi=>?_,λp p1 p2 i hi=>?_,m.use,m.dis,m.rz,m.kh,m.ki,m.rr,m.rest.word h1 h2 ⟨by omega,by unfold osz;omega⟩ rfl (λ_=>rfl)⟩
 ·rw[ez];refine(far p p1 p2 _ (Eg _) (by have:=hU σ p;omega) ?_).trans (m.hdr p p1 p2);by_cases e:p=o
  ·subst e;right;omega
  ·exact .inl e
 ·have hi:i<σ.np (p:Int):=hi;show(upd h.f _ v (A p+1+i):Int)=bo A (σ.ref (p:Int) (i:Int));rw[far p p1 p2 _ (by omega) (by unfold osz;omega) ?_]
  ·exact m.ref p p1 p2 i hi
  ·by_cases e:p=o
   ·subst e;right;omega
   ·exact .inl e
 ·have hi:i<σ.nw (p:Int):=hi;show(upd h.f _ v (A p+1+σ.np (p:Int)+i):Int)=ai σ.dat (o:Int) (ai (σ.dat (o:Int)) (j:Int) (v:Int)) (p:Int) (i:Int);by_cases e:p=o
  ·subst e;rw[aq];by_cases e2:i=j
   ·subst e2;rw[aq];unfold upd;rw[if_pos rfl]
   ·rw[ay _ _ (by omega),far p p1 p2 _ (by omega) (by unfold osz;omega) (.inr (by omega))];exact m.dat p p1 p2 i hi
  ·rw[ay _ _ (by omega),far p p1 p2 _ (by omega) (by unfold osz;omega) (.inl e)];exact m.dat p p1 p2 i hi
theorem Sim.take(m:Sim h σ A rv){h':HS}{t a z:Nat}(hb:h'.lQ)(eT:h'.T=h.T)(ef:h'.f=h.f)(es:h'.st=h.st)(hu:∀u,h.Used u->h'.Used u)(hr:rv t=none)(hz:1<=z/\z<=1048576)
  (hn:∀u,a<=u->u<a+z->¬ h.Used u/\h'.Used u) (ht:t<h.T) (eW:h'.W=h.W) (eR:h'.R=h.R) (hc:∀u,h'.Used u->h.Used u\/(a<=u/\u<a+z)) (hs:∀q,h.s q≠0->h'.s q=h.s q)
  (hh:∀r,r<h.R->h'.s r=4->((r*h.W:Nat):Int)<h'.t r) (hl:h'.mq a z):Sim h' σ A (ai rv t (some (a,z))):=by
 refine⟨hb,λi hi=>by rw[es];exact m.st i (by omega),m.zm,λo h1 h2=>by rw[ef];exact m.hdr o h1 h2,λo h1 h2=>by rw[ef];exact m.ref o h1 h2,λo h1 h2=>by rw[ef];exact m.dat o h1 h2,
  λo h1 h2 u h3 h4=>hu u (m.use o h1 h2 u h3 h4),m.dis,λi hi b y e=>?_,λi hi b y e u h3 h4=>?_,λi hi b y e o h1 h2 u h3 h4 h5=>?_,λi j hi hj hne b y c x e1 e2 u h3 h4 h5=>?_,m.rest.take ht eT eW eR ef hu hc hs hh hr (λu k1 k2=>(hn u k1 k2).1) hl⟩
 ·unfold ai at e;split at e
  ·obtain⟨rfl,rfl⟩:=Prod.mk.inj (Option.some.inj e);exact hz
  ·exact m.rz i (by omega) b y e
 ·unfold ai at e;split at e
  ·obtain⟨rfl,rfl⟩:=Prod.mk.inj (Option.some.inj e);exact(hn u h3 h4).2
  ·exact hu u (m.kh i (by omega) b y e u h3 h4)
 ·unfold ai at e;split at e
  ·obtain⟨rfl,rfl⟩:=Prod.mk.inj (Option.some.inj e);exact(hn u h3 h4).1 (m.use o h1 h2 u h5.1 h5.2)
  ·exact m.ki i (by omega) b y e o h1 h2 u h3 h4 h5
 ·unfold ai at e1 e2;split at e1
  ·split at e2
   ·omega
   ·obtain⟨rfl,rfl⟩:=Prod.mk.inj (Option.some.inj e1);exact(hn u h3 h4).1 (m.kh j (by omega) c x e2 u h5.1 h5.2)
  ·split at e2
   ·obtain⟨rfl,rfl⟩:=Prod.mk.inj (Option.some.inj e2);exact(hn u h5.1 h5.2).1 (m.kh i (by omega) b y e1 u h3 h4)
   ·exact m.rr i j (by omega) (by omega) hne b y c x e1 e2 u h3 h4 h5
theorem Sim.move(m:Sim h σ A rv){h':HS}(hb:h'.lQ)(eT:h'.T=h.T)(ef:h'.f=h.f)(es:h'.st=h.st)(hu:∀u,h.Used u->h'.Used u)(eW:h'.W=h.W)(eR:h'.R=h.R)(hc:∀u,h'.Used u->h.Used u)(hs:∀q,h.s q≠0->h'.s q=h.s q)
  (hh:∀r,r<h.R->h'.s r=4->((r*h.W:Nat):Int)<h'.t r):Sim h' σ A rv:=
 ⟨hb,λi hi=>by rw[es];exact m.st i (by omega),m.zm,λo h1 h2=>by rw[ef];exact m.hdr o h1 h2,λo h1 h2=>by rw[ef];exact m.ref o h1 h2,λo h1 h2=>by rw[ef];exact m.dat o h1 h2,
  λo h1 h2 u h3 h4=>hu u (m.use o h1 h2 u h3 h4),m.dis,λi hi=>m.rz i (by omega),λi hi b y e u h3 h4=>hu u (m.kh i (by omega) b y e u h3 h4),λi hi=>m.ki i (by omega),λi j hi hj=>m.rr i j (by omega) (by omega),m.rest.move eT eW eR ef hu hc hs hh⟩
theorem Sim.make(m:Sim h σ A rv){t a z P:Nat}(ht:t<h.T)(hr:rv t=some (a,z))(hP:P<z){α β:Int}(hα:α=(P:Int))(hβ:β=((z-1-P:Nat):Int))(hk:∀i,i<h.T->∀r,r∈σ.st i->0<=r/\r<=(σ.N:Int))(hkr:∀r j,0<=σ.ref r j/\σ.ref r j<=(σ.N:Int)) :
  Sim { h with f:=upd (aC h.f a z (λ_=>0)) a (aX z P) } (σ.new α β) (ai A (σ.N+1) a) (ai rv t none):=by
 subst hα hβ;have hz:=m.rz t ht a z hr;have eA:∀o,o<=σ.N->ai A (σ.N+1) a o=A o:=λo ho=>ay _ _ (by omega);have eR:∀r:Int,0<=r->r<=(σ.N:Int)->bo (ai A (σ.N+1) a) r=bo A r:=λr h1 h2=>by
  unfold bo;rw[eA r.toNat (by omega)]
 have en:∀o:Nat,o<=σ.N->(σ.new (P:Int) ((z-1-P:Nat):Int)).np (o:Int)=σ.np (o:Int)/\(σ.new (P:Int) ((z-1-P:Nat):Int)).nw (o:Int)=σ.nw (o:Int):=λo ho=>⟨ay _ _ (by omega),ay _ _ (by omega)⟩;have ez:∀o,o<=σ.N->osz (σ.new (P:Int) ((z-1-P:Nat):Int)) o=osz σ o:=λo ho=>by unfold osz;rw[(en o ho).1,(en o ho).2]
 have eN:(σ.new (P:Int) ((z-1-P:Nat):Int)).np ((σ.N+1:Nat):Int)=P/\(σ.new (P:Int) ((z-1-P:Nat):Int)).nw ((σ.N+1:Nat):Int)=z-1-P:=by
  have e:(((σ.N+1:Nat)):Int)=(σ.N:Int)+1:=by omega
  rw[e];exact⟨(aq _ _ _).trans (by simp),(aq _ _ _).trans (by simp)⟩
 have eZ:osz (σ.new (P:Int) ((z-1-P:Nat):Int)) (σ.N+1)=z:=by unfold osz;rw[eN.1,eN.2];omega
 have old:∀o,1<=o->o<=σ.N->∀u,A o<=u->u<A o+osz σ o->upd (aC h.f a z (λ_=>0)) a (aX z P) u=h.f u:=λo h1 h2 u h3 h4=>by
  have:¬ (a<=u/\u<a+z):=λe=>m.ki t ht a z hr o h1 h2 u e.1 e.2 ⟨h3,h4⟩;unfold upd aC;rw[if_neg (by omega),if_neg this]
 have two:∀o,o<=(σ.new (P:Int) ((z-1-P:Nat):Int)).N->o<=σ.N\/o=σ.N+1:=λo ho=>by
  have:o<=σ.N+1:=ho;omega
 refine⟨⟨m.buf.reg,m.buf.one⟩,λi hi=>?_,λo h1 h2=>?_,λo h1 h2=>?_,λo h1 h2 j hj=>?_,λo h1 h2 j hj=>?_,λo h1 h2 u h3 h4=>?_,λo p h1 h2 h3 h4 u h5 h6 h7 h8=>?_,λi hi b y e=>?_,λi hi b y e u h3 h4=>?_,λi hi b y e o h1 h2 u h3 h4 h5=>?_,λi j hi hj hne b y c x e1 e2 u h3 h4 h5=>?_,m.rest.make ht hr hP⟩
 ·show h.st i=(σ.st i).map _;rw[m.st i hi];exact List.map_congr_left λr hrm=>(eR r (hk i hi r hrm).1 (hk i hi r hrm).2).symm
 ·rcases two o h2 with e|e
  ·rw[ez o e];exact m.zm o h1 e
  ·subst e;rw[eZ];exact hz.2
 ·show upd _ _ _ (ai A (σ.N+1) a o)=_;rcases two o h2 with e|e
  ·rw[eA o e,ez o e,(en o e).1,old o h1 e _ (Eg _) (by have:=hU σ o;omega)];exact m.hdr o h1 e
  ·subst e;rw[aq,eZ,eN.1];unfold upd;rw[if_pos rfl]
 ·show(upd _ _ _ (ai A (σ.N+1) a o+1+j):Int)=bo _ (ai σ.ref ((σ.N:Int)+1) (λ_=>0) (o:Int) (j:Int));rcases two o h2 with e|e
  ·rw[(en o e).1]at hj;rw[eA o e,ay _ _ (by omega),old o h1 e _ (by omega) (by unfold osz;omega),eR _ (hkr _ _).1 (hkr _ _).2];exact m.ref o h1 e j hj
  ·subst e;rw[eN.1]at hj;rw[aq,show(((σ.N+1:Nat)):Int)=(σ.N:Int)+1 by omega,aq,bT];unfold upd aC;rw[if_neg (by omega),if_pos (by omega)];rfl
 ·show(upd _ _ _ (ai A (σ.N+1) a o+1+(σ.new (P:Int) ((z-1-P:Nat):Int)).np (o:Int)+j):Int)=ai σ.dat ((σ.N:Int)+1) (λ_=>0) (o:Int) (j:Int);rcases two o h2 with e|e
  ·rw[(en o e).2]at hj;rw[(en o e).1,eA o e,ay _ _ (by omega),old o h1 e _ (by omega) (by unfold osz;omega)];exact m.dat o h1 e j hj
  ·subst e;rw[eN.2]at hj;rw[eN.1,aq,show(((σ.N+1:Nat)):Int)=(σ.N:Int)+1 by omega,aq];unfold upd aC;rw[if_neg (by omega),if_pos (by omega)];rfl
 ·rcases two o h2 with e|e
  ·rw[eA o e]at h3 h4;rw[ez o e]at h4;exact m.use o h1 e u h3 h4
  ·subst e;rw[aq]at h3 h4;rw[eZ]at h4;exact m.kh t ht a z hr u h3 h4
 ·rcases two o h2 with e|e
  ·rw[eA o e]at h5 h6;rw[ez o e]at h6;rcases two p h4 with e'|e'
   ·rw[eA p e']at h7 h8;rw[ez p e']at h8;exact m.dis o p h1 e h3 e' u h5 h6 h7 h8
   ·subst e';rw[aq]at h7 h8;rw[eZ]at h8;exact absurd ⟨h5,h6⟩ (m.ki t ht a z hr o h1 e u h7 h8)
  ·subst e;rw[aq]at h5 h6;rw[eZ]at h6;rcases two p h4 with e'|e'
   ·rw[eA p e']at h7 h8;rw[ez p e']at h8;exact absurd ⟨h7,h8⟩ (m.ki t ht a z hr p h3 e' u h5 h6)
   ·exact e'.symm
 ·unfold ai at e;split at e
  ·cases e
  ·exact m.rz i hi b y e
 ·unfold ai at e;split at e
  ·cases e
  ·exact m.kh i hi b y e u h3 h4
 ·unfold ai at e;split at e
  ·cases e
  ·rename_i hit
   rcases two o h2 with e'|e'
   ·rw[eA o e']at h5;rw[ez o e']at h5;exact m.ki i hi b y e o h1 e' u h3 h4 h5
   ·subst e';rw[aq,eZ]at h5;exact m.rr t i ht hi (by omega) a z b y hr e u h5.1 h5.2 ⟨h3,h4⟩
 ·unfold ai at e1 e2;split at e1
  ·cases e1
  ·split at e2
   ·cases e2
   ·exact m.rr i j hi hj hne b y c x e1 e2 u h3 h4 h5
end
section
variable {h:HS}{σ:GS}{A:Nat->Nat}{rv:Nat->Option (Nat×Nat)}{s k:Nat}
theorem eM{W u r:Nat}(hW:1<=W)(h1:r*W<=u)(h2:u<r*W+W):u / W=r:=by
 rw[Nat.div_eq_iff (by omega)];constructor
 ·exact h1
 ·have:r*W+W-1+1=r*W+W:=by omega
  omega
theorem hZ{W u:Nat}(hW:1<=W):u / W*W<=u/\u<u / W*W+W:=by
 have h1:=Nat.div_add_mod u W;have h2:=Nat.mod_lt u (show 0<W by omega);have h3:W*(u / W)=u / W*W:=Nat.mul_comm _ _;omega
theorem BA{R W r:Nat}(hr:r<R):r*W+W<=R*W:=by
 have:=Nat.mul_le_mul_right W (show r+1<=R by omega);rw[Nat.add_mul,Nat.one_mul]at this;exact this
theorem qJ{W r q:Nat}(hW:1<=W)(e:r*W+W=q*W+W):r=q:=by
 have:r*W=q*W:=by omega
 exact Nat.eq_of_mul_eq_mul_right (by omega) this
theorem sJ{W a b:Nat}(hab:a<b):a*W+W<=b*W:=by
 have:=Nat.mul_le_mul_right W (show a+1<=b by omega);rw[Nat.add_mul,Nat.one_mul]at this;exact this
theorem Sim.own(m:Sim h σ A rv)(hnn:h.n=h.R*h.W)(hW:1<=h.W){t:Nat}(ht:t<h.T){n a:Nat}(hn:1<=n/\n<=1048576)(ha:h.bx t=(a:Int))(hn2:h.bx t+(n:Int)<=h.be t)(hr:rv t=none) :
  Sim { h with bx:=ak h.bx t (h.bx t+(n:Int)) } σ A (ai rv t (some (a,n))):=by
 obtain⟨r,r1,r2,r3,r4,r5⟩:=m.buf.reg t ht (by omega);have hrl:=BA (W:=h.W) r1;have eb:∀i,i≠t->ak h.bx t (h.bx t+(n:Int)) i=h.bx i:=λi e=>by unfold ak;rw[if_neg e]
 have et:ak h.bx t (h.bx t+(n:Int)) t=h.bx t+(n:Int):=by unfold ak;rw[if_pos rfl]
 have bx1:∀i,h.bx i<=ak h.bx t (h.bx t+(n:Int)) i:=λi=>by
  by_cases e:i=t
  ·subst e;rw[et];omega
  ·rw[eb i e];omega
 refine m.take (h':={ h with bx:=ak h.bx t (h.bx t+(n:Int)) }) ⟨λi hi hb=>?_,λi j hi hj hne h1 h2=>?_⟩ rfl rfl rfl (λu hu=>⟨hu.1,hu.2.1,hu.2.2.1,λi hi hx=>hu.2.2.2 i hi ⟨Int.le_trans (bx1 i) hx.1,hx.2⟩⟩) hr hn (λu h1 h2=>⟨λhu=>hu.2.2.2 t ht ⟨by omega,by omega⟩,?_⟩) ht rfl rfl (λu hu=>?_) (λ_ _=>rfl) (λr hr h4=>?_) ?_
 ·have hb:ak h.bx t (h.bx t+(n:Int)) i<h.be i:=hb;have:=bx1 i;obtain⟨q,q1,q2,q3,q4,q5⟩:=m.buf.reg i hi (by omega);exact⟨q,q1,q2,Int.le_trans q3 this,q4,q5⟩
 ·have h1:ak h.bx t (h.bx t+(n:Int)) i<h.be i:=h1;have h2:ak h.bx t (h.bx t+(n:Int)) j<h.be j:=h2;have:=bx1 i;have:=bx1 j;exact m.buf.one i j hi hj hne (by omega) (by omega)
 ·have er:u / h.W=r:=eM hW (by omega) (by omega);refine⟨by show u<h.n;omega,by show h.s (u / h.W)≠0;rw[er,r2];decide,by show(u:Int)<h.t (u / h.W);rw[er,r5];omega,λi hi hx=>?_⟩;have hx:ak h.bx t (h.bx t+(n:Int)) i<=(u:Int)/\(u:Int)<h.be i:=hx;by_cases e:i=t
  ·subst e;rw[et]at hx;omega
  ·rw[eb i e]at hx;obtain⟨q,q1,q2,q3,q4,q5⟩:=m.buf.reg i hi (by omega);have e2:u / h.W=q:=eM hW (by omega) (by omega);have:h.be i=h.be t:=by rw[q4,r4,<- e2,er]
   exact m.buf.one i t hi ht e (by omega) (by omega) this
 ·by_cases e:a<=u/\u<a+n
  ·exact .inr e
  ·refine .inl ⟨hu.1,hu.2.1,hu.2.2.1,λi hi hx=>hu.2.2.2 i hi ?_⟩;show ak h.bx t (h.bx t+(n:Int)) i<=(u:Int)/\(u:Int)<h.be i;by_cases e2:i=t
   ·subst e2;rw[et];omega
   ·rw[eb i e2];exact hx
 ·obtain⟨Zs,mz⟩:=m.rest;exact mz.hum r hr h4
 ·have er:a / h.W=r:=eM hW (by omega) (by omega);refine .inl ⟨.inl ?_,?_⟩
  ·show h.s (a / h.W)=1;rw[er,r2]
  ·show a+n<=a / h.W*h.W+h.W;rw[er];omega
theorem Sim.drop(m:Sim h σ A rv)(hW:1<=h.W){t:Nat}(ht:t<h.T)(hreg:∀r,r<h.R->((r*h.W:Nat):Int)<=h.bx t->h.bx t<((r*h.W+h.W:Nat):Int)->(h.g.az (h.bx t)).toNat=r):Sim (bB h t) σ A rv:=by
 have ebx:∀i,i≠t->ak h.bx t 0 i=h.bx i:=λi e=>by unfold ak;rw[if_neg e]
 have ebe:∀i,i≠t->ak h.be t 0 i=h.be i:=λi e=>by unfold ak;rw[if_neg e]
 have etx:ak h.bx t 0 t=0:=by unfold ak;rw[if_pos rfl]
 have ete:ak h.be t 0 t=0:=by unfold ak;rw[if_pos rfl]
 by_cases hb:h.bx t<h.be t
 ·obtain⟨r,r1,r2,r3,r4,r5⟩:=m.buf.reg t ht hb;have er:=hreg r r1 r3 (by omega);have eT:(bB h t).t=ak h.t r (h.bx t):=by unfold bB lP;rw[if_pos hb,er]
  have eTr:∀q,q≠r->(bB h t).t q=h.t q:=λq e=>by rw[eT];unfold ak;rw[if_neg e]
  have eTt:(bB h t).t r=h.bx t:=by rw[eT];unfold ak;rw[if_pos rfl]
  refine m.move ⟨λi hi hx=>?_,λi j hi hj hne h1 h2=>?_⟩ rfl rfl rfl (λu hu=>⟨hu.1,hu.2.1,?_,λi hi hx=>?_⟩) rfl rfl (λu hu=>?_) (λ_ _=>rfl) (λq hq h4=>?_)
  ·have hx:ak h.bx t 0 i<ak h.be t 0 i:=hx;by_cases e:i=t
   ·subst e;rw[etx,ete]at hx;omega
   ·rw[ebx i e,ebe i e]at hx;obtain⟨q,q1,q2,q3,q4,q5⟩:=m.buf.reg i hi hx;have hne:q≠r:=λe2=>m.buf.one i t hi ht e hx hb (by rw[q4,r4,e2]);refine⟨q,q1,q2,by show _<=ak h.bx t 0 i;rw[ebx i e];exact q3,by show ak h.be t 0 i=_;rw[ebe i e];exact q4,(eTr q hne).trans q5⟩
  ·have h1:ak h.bx t 0 i<ak h.be t 0 i:=h1;have h2:ak h.bx t 0 j<ak h.be t 0 j:=h2;show ak h.be t 0 i≠ak h.be t 0 j;by_cases e:i=t
   ·subst e;rw[etx,ete]at h1;omega
   ·by_cases e':j=t
    ·subst e';rw[etx,ete]at h2;omega
    ·rw[ebx i e,ebe i e]at h1;rw[ebx j e',ebe j e']at h2;rw[ebe i e,ebe j e'];exact m.buf.one i j hi hj hne h1 h2
  ·show(u:Int)<(bB h t).t (u / h.W);by_cases e:u / h.W=r
   ·rw[e,eTt];have h3:=hu.2.2.1;rw[e,r5]at h3;have:=hu.2.2.2 t ht;rw[r4]at this;omega
   ·rw[eTr _ e];exact hu.2.2.1
  ·have hx:ak h.bx t 0 i<=(u:Int)/\(u:Int)<ak h.be t 0 i:=hx;by_cases e:i=t
   ·subst e;rw[ete]at hx;omega
   ·rw[ebx i e,ebe i e]at hx;exact hu.2.2.2 i hi hx
  ·obtain⟨u1,u2,u3,u4⟩:=hu;have u3:(u:Int)<(bB h t).t (u / h.W):=u3;refine⟨u1,u2,?_,λi hi hx=>?_⟩
   ·by_cases e:u / h.W=r
    ·rw[e,r5];rw[e,eTt]at u3;omega
    ·rw[eTr _ e]at u3;exact u3
   ·by_cases e:i=t
    ·subst e;have e2:u / h.W=r:=eM hW (by omega) (by omega);rw[e2,eTt]at u3;omega
    ·refine u4 i hi ?_;show ak h.bx t 0 i<=(u:Int)/\(u:Int)<ak h.be t 0 i;rw[ebx i e,ebe i e];exact hx
  ·have h4:h.s q=4:=h4;obtain⟨Zs,mz⟩:=m.rest;rw[eTr q (λe=>by rw[e,r2]at h4;exact absurd h4 (by decide))];exact mz.hum q hq h4
 ·have eT:(bB h t).t=h.t:=by unfold bB lP;rw[if_neg hb]
  refine m.move ⟨λi hi hx=>?_,λi j hi hj hne h1 h2=>?_⟩ rfl rfl rfl (λu hu=>⟨hu.1,hu.2.1,by show(u:Int)<(bB h t).t (u / h.W);rw[eT];exact hu.2.2.1,λi hi hx=>?_⟩) rfl rfl (λu hu=>?_) (λ_ _=>rfl) (λq hq h4=>?_)
  ·have hx:ak h.bx t 0 i<ak h.be t 0 i:=hx;by_cases e:i=t
   ·subst e;rw[etx,ete]at hx;omega
   ·rw[ebx i e,ebe i e]at hx;obtain⟨q,q1,q2,q3,q4,q5⟩:=m.buf.reg i hi hx;exact⟨q,q1,q2,by show _<=ak h.bx t 0 i;rw[ebx i e];exact q3,by show ak h.be t 0 i=_;rw[ebe i e];exact q4,by rw[eT];exact q5⟩
  ·have h1:ak h.bx t 0 i<ak h.be t 0 i:=h1;have h2:ak h.bx t 0 j<ak h.be t 0 j:=h2;show ak h.be t 0 i≠ak h.be t 0 j;by_cases e:i=t
   ·subst e;rw[etx,ete]at h1;omega
   ·by_cases e':j=t
    ·subst e';rw[etx,ete]at h2;omega
    ·rw[ebx i e,ebe i e]at h1;rw[ebx j e',ebe j e']at h2;rw[ebe i e,ebe j e'];exact m.buf.one i j hi hj hne h1 h2
  ·have hx:ak h.bx t 0 i<=(u:Int)/\(u:Int)<ak h.be t 0 i:=hx;by_cases e:i=t
   ·subst e;rw[ete]at hx;omega
   ·rw[ebx i e,ebe i e]at hx;exact hu.2.2.2 i hi hx
  ·obtain⟨u1,u2,u3,u4⟩:=hu;have u3:(u:Int)<(bB h t).t (u / h.W):=u3;rw[eT]at u3;refine⟨u1,u2,u3,λi hi hx=>?_⟩;by_cases e:i=t
   ·subst e;omega
   ·refine u4 i hi ?_;show ak h.bx t 0 i<=(u:Int)/\(u:Int)<ak h.be t 0 i;rw[ebx i e,ebe i e];exact hx
  ·obtain⟨Zs,mz⟩:=m.rest;rw[eT];exact mz.hum q hq h4
theorem Sim.fill(m:Sim h σ A rv)(hW:1<=h.W){t j:Nat}(ht:t<h.T)(hl:du h.s h.R j)(h0:¬ h.bx t<h.be t):Sim (ek h t j) σ A rv:=by
 obtain⟨l1,l2,-⟩:=hl;have ebx:∀i,i≠t->ak h.bx t ((j*h.W:Nat):Int) i=h.bx i:=λi e=>by unfold ak;rw[if_neg e]
 have ebe:∀i,i≠t->ak h.be t ((j*h.W+h.W:Nat):Int) i=h.be i:=λi e=>by unfold ak;rw[if_neg e]
 have etx:ak h.bx t ((j*h.W:Nat):Int) t=((j*h.W:Nat):Int):=by unfold ak;rw[if_pos rfl]
 have ete:ak h.be t ((j*h.W+h.W:Nat):Int) t=((j*h.W+h.W:Nat):Int):=by unfold ak;rw[if_pos rfl]
 have es:∀q,q≠j->ak h.s j 1 q=h.s q:=λq e=>by unfold ak;rw[if_neg e]
 have eT:∀q,q≠j->ak h.t j ((j*h.W+h.W:Nat):Int) q=h.t q:=λq e=>by unfold ak;rw[if_neg e]
 have old:∀i,i<h.T->i≠t->h.bx i<h.be i->∃r,r<h.R/\r≠j/\h.s r=1/\((r*h.W:Nat):Int)<=h.bx i/\h.be i=((r*h.W+h.W:Nat):Int)/\h.t r=((r*h.W+h.W:Nat):Int):=λi hi e hx=>by
  obtain⟨q,q1,q2,q3,q4,q5⟩:=m.buf.reg i hi hx;exact⟨q,q1,λe2=>by rw[e2,l2]at q2;omega,q2,q3,q4,q5⟩
 refine m.move ⟨λi hi hx=>?_,λi i' hi hi' hne h1 h2=>?_⟩ rfl rfl rfl (λu hu=>?_) rfl rfl (λu hu=>?_) (λq hq=>es q (λe=>hq (by rw[e];exact l2))) (λq hq h4=>?_)
 ·have hx:ak h.bx t ((j*h.W:Nat):Int) i<ak h.be t ((j*h.W+h.W:Nat):Int) i:=hx;by_cases e:i=t
  ·subst e;exact⟨j,l1,by show ak h.s j 1 j=1;unfold ak;rw[if_pos rfl],by show _<=ak h.bx i _ i;rw[etx];exact Int.le_refl _,by show ak h.be i _ i=_;rw[ete];rfl,by show ak h.t j _ j=_;unfold ak;rw[if_pos rfl];rfl⟩
  ·rw[ebx i e,ebe i e]at hx;obtain⟨q,q1,q0,q2,q3,q4,q5⟩:=old i hi e hx;exact⟨q,q1,(es q q0).trans q2,by show _<=ak h.bx t _ i;rw[ebx i e];exact q3,by show ak h.be t _ i=_;rw[ebe i e];exact q4,(eT q q0).trans q5⟩
 ·have h1:ak h.bx t ((j*h.W:Nat):Int) i<ak h.be t ((j*h.W+h.W:Nat):Int) i:=h1;have h2:ak h.bx t ((j*h.W:Nat):Int) i'<ak h.be t ((j*h.W+h.W:Nat):Int) i':=h2;show ak h.be t ((j*h.W+h.W:Nat):Int) i≠ak h.be t ((j*h.W+h.W:Nat):Int) i';by_cases e:i=t
  ·subst e;rw[ebx i' (by omega),ebe i' (by omega)]at h2;rw[ete,ebe i' (by omega)];obtain⟨q,q1,q0,q2,q3,q4,q5⟩:=old i' hi' (by omega) h2;rw[q4];exact λe2=>q0 (qJ hW (by omega)).symm
  ·rw[ebx i e,ebe i e]at h1;obtain⟨q,q1,q0,q2,q3,q4,q5⟩:=old i hi e h1;by_cases e':i'=t
   ·subst e';rw[ete,ebe i e,q4];exact λe2=>q0 (qJ hW (by omega))
   ·rw[ebx i' e',ebe i' e']at h2;rw[ebe i e,ebe i' e'];exact m.buf.one i i' hi hi' hne h1 h2
 ·have hne:u / h.W≠j:=λe=>by have:=hu.2.1;rw[e]at this;exact this l2
  refine⟨hu.1,by show ak h.s j 1 (u / h.W)≠0;rw[es _ hne];exact hu.2.1,by show(u:Int)<ak h.t j _ (u / h.W);rw[eT _ hne];exact hu.2.2.1,λi hi hx=>?_⟩;have hx:ak h.bx t ((j*h.W:Nat):Int) i<=(u:Int)/\(u:Int)<ak h.be t ((j*h.W+h.W:Nat):Int) i:=hx;by_cases e:i=t
  ·subst e;rw[etx,ete]at hx;exact hne (eM hW (by omega) (by omega))
  ·rw[ebx i e,ebe i e]at hx;exact hu.2.2.2 i hi hx
 ·obtain⟨u1,u2,u3,u4⟩:=hu;have hne:u / h.W≠j:=λe=>by
   obtain⟨d1,d2⟩:=hZ (u:=u) hW;rw[e]at d1 d2;refine u4 t ht ?_;show ak h.bx t ((j*h.W:Nat):Int) t<=(u:Int)/\(u:Int)<ak h.be t ((j*h.W+h.W:Nat):Int) t;rw[etx,ete];omega
  have u2:ak h.s j 1 (u / h.W)≠0:=u2;have u3:(u:Int)<ak h.t j ((j*h.W+h.W:Nat):Int) (u / h.W):=u3;rw[es _ hne]at u2;rw[eT _ hne]at u3;refine⟨u1,u2,u3,λi hi hx=>?_⟩;by_cases e:i=t
  ·subst e;omega
  ·refine u4 i hi ?_;show ak h.bx t ((j*h.W:Nat):Int) i<=(u:Int)/\(u:Int)<ak h.be t ((j*h.W+h.W:Nat):Int) i;rw[ebx i e,ebe i e];exact hx
 ·have h4:ak h.s j 1 q=4:=h4;have hne:q≠j:=λe=>by subst e;unfold ak at h4;rw[if_pos rfl]at h4;exact absurd h4 (by decide)
  rw[es q hne]at h4;obtain⟨Zs,mz⟩:=m.rest;show _<ak h.t j _ q;rw[eT q hne];exact mz.hum q hq h4
theorem Sim.run(m:Sim h σ A rv)(hnn:h.n=h.R*h.W)(hW:1<=h.W){t c f z:Nat}(ht:t<h.T)(hc:1<=c)(hz:1<=z/\z<=1048576)(hz1:(c-1)*h.W<z)(hz2:z<=c*h.W)(hl:eL h.s h.R c f)(hr:rv t=none) :
  Sim { h with s:=ak (bc h.s f (f+c) λ_=>5) f 4,t:=bc h.t f (f+c) (bG h.W f z) } σ A (ai rv t (some (f*h.W,z))):=by
 obtain⟨l1,l2,-⟩:=hl;have fr:∀q,f<=q->q<f+c->h.s q=0:=λq q1 q2=>l2 q q1 q2;have es:∀q,h.s q≠0->ak (bc h.s f (f+c) λ_=>5) f 4 q=h.s q/\bc h.t f (f+c) (bG h.W f z) q=h.t q:=λq hq=>by
  have:¬ (f<=q/\q<f+c):=λe=>hq (fr q e.1 e.2);unfold ak bc;rw[if_neg (by omega),if_neg this,if_neg this];exact⟨rfl,rfl⟩
 have hfc:f*h.W+z<=(f+c)*h.W:=by rw[Nat.add_mul];omega
 have hRn:(f+c)*h.W<=h.R*h.W:=Nat.mul_le_mul_right _ l1;refine m.take (h':={ h with s:=ak (bc h.s f (f+c) λ_=>5) f 4,t:=bc h.t f (f+c) (bG h.W f z) }) ⟨λi hi hx=>?_,m.buf.one⟩ rfl rfl rfl (λu hu=>⟨hu.1,by show ak _ f 4 (u / h.W)≠0;rw[(es _ hu.2.1).1];exact hu.2.1,by show(u:Int)<bc h.t f (f+c) _ (u / h.W);rw[(es _ hu.2.1).2];exact hu.2.2.1,hu.2.2.2⟩) hr hz (λu h1 h2=>?_) ht rfl rfl (λu hu=>?_) (λq hq=>(es q hq).1) (λq hq h4=>?_) ?_
 ·obtain⟨q,q1,q2,q3,q4,q5⟩:=m.buf.reg i hi hx;have hq0:h.s q≠0:=by rw[q2];decide
  exact⟨q,q1,(es q hq0).1.trans q2,q3,q4,(es q hq0).2.trans q5⟩
 ·obtain⟨d1,d2⟩:=hZ (u:=u) hW;have hq1:f<=u / h.W:=by rw[Nat.le_div_iff_mul_le (by omega)];exact h1
  have hq2:u / h.W<f+c:=by rw[Nat.div_lt_iff_lt_mul (by omega)];omega
  have hs0:=fr _ hq1 hq2;refine⟨λhu=>hu.2.1 hs0,by show u<h.n;omega,?_,?_,λi hi hx=>?_⟩
  ·show ak (bc h.s f (f+c) λ_=>5) f 4 (u / h.W)≠0;unfold ak bc;split
   ·decide
   ·rw[if_pos ⟨hq1,hq2⟩];show(5:Int)≠0;decide
  ·show(u:Int)<bc h.t f (f+c) (bG h.W f z) (u / h.W);unfold bc bG;rw[if_pos ⟨hq1,hq2⟩];split <;> omega
  ·have hx:h.bx i<=(u:Int)/\(u:Int)<h.be i:=hx;obtain⟨q,q1,q2,q3,q4,q5⟩:=m.buf.reg i hi (by omega);have e2:u / h.W=q:=eM hW (by omega) (by omega);rw[e2,q2]at hs0;omega
 ·obtain⟨u1,u2,u3,u4⟩:=hu;have u2:ak (bc h.s f (f+c) λ_=>5) f 4 (u / h.W)≠0:=u2;have u3:(u:Int)<bc h.t f (f+c) (bG h.W f z) (u / h.W):=u3;by_cases e:f<=u / h.W/\u / h.W<f+c
  ·obtain⟨d1,d2⟩:=hZ (u:=u) hW;have:=Nat.mul_le_mul_right h.W e.1;unfold bc bG at u3;rw[if_pos e]at u3;refine .inr ⟨by omega,?_⟩;split at u3 <;> omega
  ·refine .inl ⟨u1,?_,?_,u4⟩
   ·unfold ak bc at u2;rw[if_neg (by omega),if_neg e]at u2;exact u2
   ·unfold bc at u3;rw[if_neg e]at u3;exact u3
 ·have h4:ak (bc h.s f (f+c) λ_=>5) f 4 q=4:=h4;show _<bc h.t f (f+c) (bG h.W f z) q;by_cases e:q=f
  ·subst e;unfold bc bG;rw[if_pos (by omega)];split <;> omega
  ·by_cases e2:f<=q/\q<f+c
   ·unfold ak bc at h4;rw[if_neg e,if_pos e2]at h4;have h4:(5:Int)=4:=h4;exact absurd h4 (by decide)
   ·unfold ak bc at h4;rw[if_neg e,if_neg e2]at h4;unfold bc;rw[if_neg e2];obtain⟨Zs,mz⟩:=m.rest;exact mz.hum q hq h4
 ·have ef:f*h.W / h.W=f:=Nat.mul_div_cancel _ (by omega);refine .inr ⟨?_,?_,λi k1 k2=>?_⟩
  ·show ak _ f 4 (f*h.W / h.W)=4;rw[ef];unfold ak;rw[if_pos rfl]
  ·show f*h.W=f*h.W / h.W*h.W;rw[ef]
  ·show f*h.W / h.W+i<h.R/\ak (bc h.s f (f+c) λ_=>5) f 4 (f*h.W / h.W+i)=5;rw[ef];have hic:i<c:=by
    have k2:i*h.W<z:=k2;have:i*h.W<c*h.W:=by omega
    exact Nat.lt_of_mul_lt_mul_right this
   refine⟨by omega,?_⟩;unfold ak bc;rw[if_neg (by omega),if_pos (by omega)]
end
end Go.Proofs.YtimkofiempcfdaaGreatDoor
