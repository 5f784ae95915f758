/- Several texts joined (pack.py): Zx Vyh Zy L15An. -/
import Derived.Test.YtimlkjppaalfaaaGreatDoorPW47
import Derived.Deep.CutRange
import Derived.WalkKit
import Derived.BigQuiet
import Derived.Test.YtimlkjppaalfaaaGreatDoorPW27
import Derived.Test.YtimlkjppaalfaaaGreatDoorPW35
import Derived.Test.YtimlkjppaalfaaaGreatDoorPW43
import Derived.StillTailTactics
set_option linter.unusedVariables false
set_option linter.unusedSimpArgs false
set_option maxHeartbeats 3200000
set_option maxRecDepth 100000
open Nat renaming lt_of_lt_of_le->Dc
namespace Go.Proofs.YtimlkjppaalfaaaGreatDoor
open Go.RowKit Go.Gl HS
section
variable {W w w':World}{L:HL}{s k:Nat}{Λ:WL}{g M T:Nat}{Ops:Nat->Nat->Po}{On:Nat->Nat}{V V':WS}{h h':HS}{x:HT}{σ σ':GS}{A A':Nat->Nat}{Γ Γ':WG}{t:Nat}{P:WS->HS->HT->GS->(Nat->Nat)->WG->Prop}
theorem iw.cells(H:iw W w L s k Λ g M T Ops On V h x σ A Γ):w.cell? ⟨Λ.wb,2,none⟩=some (.slice Λ.mA T Λ.mc):=by
 obtain⟨eg,X,rv,h1,h2⟩:=H;exact(h1.blk (b:=Λ.wb) (t:=37) (cs:=wdV L.hb Λ.sb Λ.mA T Λ.mc Λ.pb Λ.nb T Γ.g V.dl V.wn V.sy) (by simp[wE,w4E])).cell 2
theorem iw.Av(H:iw W w L s k Λ g M T Ops On V h x σ A Γ)(ht:t<T):∃gm om oA oc,Λ.mA=some ⟨gm,om,none⟩/\w.cell? ⟨gm,om+t,none⟩=some (.pointer (some ⟨Λ.P t,0,none⟩))/\w.cell? ⟨Λ.wb,2,none⟩=some (.slice (some ⟨gm,om,none⟩) T Λ.mc)/\w.cell? ⟨Λ.wb,3,none⟩=some (.slice (some ⟨Λ.pb,0,none⟩) T T) /\
  w.cell? ⟨Λ.wb,4,none⟩=some (.slice (some ⟨Λ.nb,0,none⟩) T T)/\w.cell? ⟨Λ.nb,t,none⟩=some (.int .i64 (V.nx t:Int))/\w.cell? ⟨Λ.pb,t,none⟩=some (.slice oA (On t) oc)/\On t<=60/\V.nx t<=On t /\
  (Calls Tryz.prog 17 #[.pointer (some ⟨Λ.P t,0,none⟩)] w λe w'=>e=.returned (.bool ((V.mu t).st==0))/\w=w')/\((V.mu t).st≠0->(V.mu t).st≠6->V.nx t<On t):=by
 obtain⟨eg,X,rv,h1,h2⟩:=H;obtain⟨gm,om,hmA,d0,d2,d3,d4,d5,d6,d7,d8,dn,dp⟩:=h1.gg h1.q.2.1 ht;obtain⟨oA,oc,hop,-⟩:=h2.ops t ht;rw[hop]at dp;exact⟨gm,om,oA,oc,hmA,d0,d2,d3,d4,dn,dp,h2.ol t,h2.nx t ht,dZ ((h1.lU ht).blk (List.mem_cons_self ..)),λa b=>(h2.cur t ht a b).1⟩
theorem yK(hT:Tab W)(hT64:T<=64)(H:kD W w L s k Λ g M T Ops On (λV _ _ _ _ _=>V.sy=false)) :
  Calls Tryz.prog 8 #[.pointer (some ⟨Λ.wb,0,none⟩)] w λe w'=>e=.returned (.bool true)/\kD W w' L s k Λ g M T Ops On (λV _ _ _ _ _=>V.sy=false/\∀i,i<T->(V.mu i).st=0):=by
 have HT:=aa hT;have HH:=aa H;clear hT H;go_enter Tryz.func8,Tryz.ntmps8
 go_wp2_with fail
 go_loopw [3] (λi wr=>∃n:Nat,i=.int .i64 n/\n<=T/\kD W wr L s k Λ g M T Ops On (λV _ _ _ _ _=>V.sy=false/\∀j,j<n->(V.mu j).st=0)) (λi _=>T-(intOf i).toNat)
 case atStart=>
  refine⟨0,rfl,Nat.zero_le _,?_⟩;obtain⟨V,h,x,σ,A,Γ,h1,h2⟩:=HH.out;exact⟨V,h,x,σ,A,Γ,h1,h2,λj hj=>absurd hj (by omega)⟩
 case round=>
  obtain⟨n,rfl,hn,hI⟩:=hrel;have HI:=aa hI;obtain⟨V,h,x,σ,A,Γ,h1,h2,h3⟩:=hI;have d2:=h1.cells;by_cases hlt:n<T
  ·have hlt1:(n:Int)<(T:Int):=by omega
   have hT1:(T:Int)<=64:=by omega
   have HL:=aa hlt;have H1:Hid (kD W wr L s k Λ g M T Ops On (λV _ _ _ _ _=>V.sy=false/\(∀j,j<n->(V.mu j).st=0)/\0+rkM (V.mu n).st<=4)):=⟨V,h,x,σ,A,Γ,h1,h2,h3,by have:=BO (V.mu n).st;omega⟩;clear h1 h2 h3 HI HH;go_wp2_with fail
   clear d2;obtain⟨w0,hw0⟩:∃w0,w0=wr:=⟨_,rfl⟩;subst hw0;go_loopw [4] (λi wr=>∃j:Nat,i=.int .i64 j/\j<=4/\kD W wr L s k Λ g M T Ops On (λV _ _ _ _ _=>V.sy=false/\(∀j,j<n->(V.mu j).st=0)/\j+rkM (V.mu n).st<=4)) (λi _=>5-(intOf i).toNat)
   case atStart=>exact⟨0,rfl,by omega,H1.out⟩
   case round=>
    obtain⟨j,rfl,hj,hI⟩:=hrel;obtain⟨V,h,x,σ,A,Γ,h1,h2,h3,h4⟩:=hI;obtain⟨gm,om,oA,oc,hmA,d0,d2,d3,d4,dn,dp,hol,hnx,hid,hc⟩:=h1.Av HL.out;have HId:=aa hid;have HSt:=aa (h1.step HT.out HL.out);have HA1:=aa h1;have HR:Hid (V.sy=false/\(∀j,j<n->(V.mu j).st=0)/\j+rkM (V.mu n).st<=4):=⟨h2,h3,h4⟩;clear h1 h2 h3 h4 hid hmA d3 d4 dn dp hol hnx hc H1;by_cases hst:(V.mu n).st=0
    ·have e1:((V.mu n).st==0)=true:=by simpa using hst
     rw[e1]at HId;have HE:Hid (kD W wr L s k Λ g M T Ops On (λV _ _ _ _ _=>V.sy=false/\∀j,j<n+1->(V.mu j).st=0)):=⟨V,h,x,σ,A,Γ,HA1.out,HR.out.1,λi hi=>by
      by_cases e:i=n
      ·subst e;exact hst
      ·exact HR.out.2.1 i (by omega)⟩
     clear hst e1 HSt HA1 HR;go_wp2_with fail
     refine HId.out.mono ?_;rintro e w1 ⟨rfl,rfl⟩;go_wp2_with fail
     go_roundw
     case rel=>exact⟨n+1,by go_num,by have:=HL.out;omega,HE.out⟩
     case measure=>simp[intOf];have:=HL.out;omega
    ·have e1:((V.mu n).st==0)=false:=by simpa using hst
     rw[e1]at HId;have HN:=aa hst;have hj9:decide ((j:Int)>9)=false:=by simp;omega
     clear hst e1;go_wp2_with fail
     refine HId.out.mono ?_;rintro e w1 ⟨rfl,rfl⟩;go_wp2_with fail
     refine HSt.out.mono ?_;rintro e w2 ⟨rfl,V',h',x',σ',A',Γ',g1,g2⟩;have hrk:=g2.rk HR.out.1 HN.out;have hsy:=g2.sy;have hj2:j+1+rkM (V'.mu n).st<=4:=by have:=HR.out.2.2;omega
     have HE:Hid (kD W w2 L s k Λ g M T Ops On (λV _ _ _ _ _=>V.sy=false/\(∀j,j<n->(V.mu j).st=0)/\j+1+rkM (V.mu n).st<=4)):=⟨V',h',x',σ',A',Γ',g1,hsy.1.trans HR.out.1,λi hi=>by
      rw[(hsy.2.2 i (by omega)).1];exact HR.out.2.1 i hi,hj2⟩
     have HJ:Hid (j+1<=4):=by show _<=_;omega
     clear g1 g2 hrk hsy hj2 HSt HA1 HR d0 d2;go_wp2_with fail
     go_roundw
     case rel=>exact⟨j+1,by go_num,HJ.out,HE.out⟩
     case measure=>simp[intOf];have:=HJ.out;omega
  ·obtain rfl:n=T:=by omega
   clear h1 h2 h3 HH;go_wp2_with fail
   go_ret
   exact⟨rfl,HI.out⟩
end
structure HMl(W w:World)(L:HL)(X:HX)(h:HS)(x:HT)(s k:Nat)(E:aK)(D:Nat->Prop)(Q:World->Prop)(A:Option Addr)(n c:Nat)(G:List Nat)(xs:List Value):Prop where
 hm:HM W w L X h x s k E (λb=>D b\/b∈G) (λw=>Q w/\Lr w 3 A n c G xs)
 ap:∀g,g∈G->¬ D g
section
variable {W w w':World}{L:HL}{X:HX}{h:HS}{x:HT}{s k:Nat}{E:aK}{D:Nat->Prop}{Q:World->Prop}{A:Option Addr}{n c:Nat}{G:List Nat}{xs:List Value}
theorem HMl.iR(hS:ah D Q)(A:Option Addr)(n c:Nat)(G:List Nat)(xs:List Value):ah (λb=>D b\/b∈G) (λw=>Q w/\Lr w 3 A n c G xs):=hS.and (ah.lr _ _ _ _ _ _)
theorem HMl.nil(hT:Tab W)(H:HM W w L X h x s k E D Q):HMl W w L X h x s k E D Q none 0 0 [] []:=
 ⟨H.live hT (F:=[]) (Fr.refl _ _) (λb hb=>by cases hb) (λb hb=>.inl (hb.elim id (λh=>by cases h))) ⟨H.q,Lr.nil _ _⟩,λg hg=>by cases hg⟩
theorem HMl.lr(H:HMl W w L X h x s k E D Q A n c G xs):Lr w 3 A n c G xs:=H.hm.q.2
theorem HMl.fr0(hS:ah D Q)(H:HMl W w L X h x s k E D Q A n c G xs)(hf:Fr [] w w'):HMl W w' L X h x s k E D Q A n c G xs:=
 ⟨H.hm.fr0 (HMl.iR hS _ _ _ _ _) hf,H.ap⟩
theorem HMl.app(hS:ah D Q)(hT:Tab W)(H:HMl W w L X h x s k E D Q A n c G xs){A':Option Addr}{n' c':Nat}{G':List Nat}{xs':List Value}(hl:Lr w' 3 A' n' c' G' xs')(hf:Fr G w w')(hG:∀g,g∈G'->g∈G\/w.heap.size<=g):HMl W w' L X h x s k E D Q A' n' c' G' xs':=by
 have hq:=H.hm.q;refine⟨H.hm.live hT hf (λb hb=>.inr hb) (λb hb=>?_) ⟨hS.stay w w' G hq.1 hf H.ap,hl⟩,λg hg hd=>?_⟩
 ·rcases hb with e|e
  ·exact .inl (.inl e)
  ·exact(hG b e).imp .inr id
 ·rcases hG g hg with e|e
  ·exact H.ap g e hd
  ·have:=hS.lt w hq.1 g hd;omega
theorem HM.Aw(hS:ah D Q)(H:HM W w L X h x s k E D Q)(hk:QOk h.T x.qm x.qc x.ql) :
  Calls Tryz.prog 12 #[.pointer (some ⟨X.qb,0,none⟩)] w λe w'=>∃F' A c G,e=.returned (.slice A (x.qc++bi x.ql h.T).length c)/\HMl W w' L { X with qF:=F' } h { x with qc:=[],ql:=λ_=>[] } s k E D Q A (x.qc++bi x.ql h.T).length c G (zv (x.qc++bi x.ql h.T)):=by
 have hq:=H.q;refine(H.BF hS hk).mono ?_;rintro e w' ⟨F',A,c,G,e1,e2,e3⟩;exact⟨F',A,c,G,e1,e2,λg hg hd=>by have:=hS.lt w hq g hd;have:=e3 g hg;omega⟩
theorem HM.CG(hS:ah D Q)(H:HM W w L X h x s k E D Q){j:Nat}(hj:j<=65536):Calls Tryz.prog 9 #[.pointer (some ⟨L.hb,0,none⟩),.slice (some ⟨w.heap.size,0,none⟩) 1 1] (w.alloc (.cells #[.int .i64 (j:Int)] 3))
  λe w'=>∃A' c' G',e=.returned (.slice A' (h.dQ x.σ x.per [(j:Int)]).length c')/\Lr w' 3 A' (h.dQ x.σ x.per [(j:Int)]).length c' G' (zv (h.dQ x.σ x.per [(j:Int)]))/\HM W w' L X h x s k E D Q:=by
 have hab:L.ab<w.heap.size:=by
  obtain⟨c9,h9⟩:=H.hr.ar;exact h9.set.lt
 refine((H.fr0 hS ((Fr.refl _ _).alloc (.cells #[.int .i64 (j:Int)] 3))).lost hS (l:=[(j:Int)]) (A:=some ⟨w.heap.size,0,none⟩) (c:=1) (λ_=>⟨w.heap.size,0,rfl,by simp,λk hk=>?_⟩) (by simp) (λm hm=>?_) (λ_ b off e=>?_)).mono ?_
 ·obtain rfl:k=0:=by simpa using hk
  exact(Blk.new w 3 #[.int .i64 (j:Int)]).cell 0
 ·obtain rfl:m=0:=by simpa using hm
  show(Lit.int .i64 (j:Int)).wf=true;exact fi ⟨by omega,by omega⟩
 ·injection e with e;injection e with e1 e2;omega
 ·rintro e w' ⟨A',c',G',e1,e2,e3,e4,e5⟩;exact⟨A',c',G',e1,e2,e4⟩
def rgn(n:Nat):List Int:=(List.range n).map λ(j:Nat)=>(j:Int)
theorem yL(n:Nat):rgn (n+1)=rgn n++[(n:Int)]:=by unfold rgn;rw[List.range_succ,List.map_append];rfl
theorem jO(n:Nat):(rgn n).length=n:=by simp[rgn]
theorem Ax{n r:Nat}(h:r<n):(r:Int)∈rgn n:=List.mem_map.2 ⟨r,by simpa using h,rfl⟩
theorem Ay{n m:Nat}(h:m<n):(rgn n).getD m 0=(m:Int):=by simp[rgn,h]
theorem HM.Az(hS:ah D Q)(H:HM W w L X h x s k E D Q){A:Option Addr}{c:Nat}{G:List Nat}(hl:Lr w 3 A h.R c G (zv (rgn h.R)))(hR:h.R<=65536) :
  Calls Tryz.prog 9 #[.pointer (some ⟨L.hb,0,none⟩),.slice A h.R c] w λe w'=>∃A' c',e=.returned (.slice A' 0 c')/\Fr [] W w':=by
 have hnil:=h.xP x.σ x.per (l:=rgn h.R) (λr hr=>Ax hr);have:=H.lost hS (l:=rgn h.R) (A:=A) (c:=c) (by rw[jO];exact hl.slz) (by rw[jO];omega) (λm hm=>by rw[jO]at hm;rw[Ay hm];exact fi ⟨by omega,by omega⟩) (λhp b off e=>by
  rw[jO]at hp;obtain⟨c9,h9⟩:=H.hr.ar;obtain⟨g,off',e1,e2,_⟩:=hl.pos hp;have h8:=hl.apart h9.set (by decide);rw[e2]at h8;rw[e1]at e;injection e with e;injection e with e3;intro e4;exact h8 (by simp;omega))
 rw[hnil,jO]at this;refine this.mono ?_;rintro e w' ⟨A',c',G',e1,e2,e3,e4,e5⟩;exact⟨A',c',e1,e4.fr⟩
end
def CH(W w:World)(L:HL)(wb:Nat)(h:HS)(x:HT)(s k:Nat):Prop:=∃X E D Q dl dA dc dG,ah D Q/\HM W w L X h x s k E D Q /\
 (∀w' X' x' D' Q',HM W w' L X' h x' s k E D' Q'->w'.cell? ⟨wb,0,none⟩=some (.pointer (some ⟨L.hb,0,none⟩))/\w'.cell? ⟨wb,6,none⟩=some (.slice dA (dl:List Int).length dc)) /\
 (∀w',Q w'->Lr w' 3 dA dl.length dc dG (zv dl))/\(∀l y,y∈h.dQ x.σ x.per l->fY x.C (h.g.aV y)=true) /\
 ((x.qc++bi x.ql h.T)++dl).Perm ((below x.C (h.R*x.per)).map λ(c:Nat)=>(c:Int))/\QOk h.T x.qm x.qc x.ql/\dl.length<=15360
section
variable {W w w':World}{L:HL}{s k:Nat}{Λ:WL}{g M T:Nat}{Ops:Nat->Nat->Po}{On:Nat->Nat}{V:WS}{h:HS}{x:HT}{σ:GS}{A:Nat->Nat}{Γ:WG}
theorem iw.notes(H:iw W w L s k Λ g M T Ops On V h x σ A Γ)(hidle:∀i,i<T->(V.mu i).st=0):CH W w L Λ.wb h x s k:=by
 obtain⟨eg,X,rv,h1,h2⟩:=H;have I:=h2.wi;have hrv:∀i,i<h.T->rv i=none:=λi hi=>by
  rw[I.eT]at hi;exact(I.ph i hi).idle (hidle i hi)
 have ok:=h1.ok;have N:=h2.no trivial;refine⟨X,wE Λ L.hb Γ.g T V++[],gD (λ_=>False) Λ Γ (·<T),gQ (λ_=>True) Λ Γ (·<T) T L.B M σ,Γ.dl,Γ.dA,Γ.dc,Γ.dG,eh ah.none Λ Γ (·<T) T L.B M σ,h1,λw' X' x' D' Q' q=>?_,λw' q=>q.2.2.1,λl y hy=>?_,?_,I.q,h2.CA⟩
 ·have hb:=q.blk (b:=Λ.wb) (t:=37) (cs:=wdV L.hb Λ.sb Λ.mA T Λ.mc Λ.pb Λ.nb T Γ.g V.dl V.wn V.sy) (by simp[wE,w4E]);have c6:=hb.cell 6;rw[h2.vd]at c6;exact⟨hb.cell 0,c6⟩
 ·obtain⟨c,c1,c2,c3⟩:=N.lost I.sim hrv ok hidle hy;rw[c1];unfold fY;rw[Int.toNat_natCast,c3];simp
 ·have:=N.perm;unfold eD at this;rw[I.eT];exact this
end
section
variable {W w w':World}{L:HL}{s k:Nat}{Λ:WL}{g M T:Nat}{Ops:Nat->Nat->Po}{On:Nat->Nat}{V V':WS}{h h':HS}{x:HT}{σ σ':GS}{A A':Nat->Nat}{Γ Γ':WG}{t:Nat}{P:WS->HS->HT->GS->(Nat->Nat)->WG->Prop}
end
theorem jM.fr0{w w':World}{v:Value}{n:Nat}{f:Nat->Po}(h:jM w v n f)(hf:Fr [] w w'):jM w' v n f:=by
 obtain⟨A,c,e,h2⟩:=h;refine⟨A,c,e,λhn=>?_⟩;obtain⟨b,off,e1,e2,e3⟩:=h2 hn;have tr:∀j,w'.cell? ⟨b,j,none⟩=w.cell? ⟨b,j,none⟩:=λj=>hf.cell (p:=⟨b,j,none⟩) e2 (by simp);refine⟨b,off,e1,Dc e2 hf.size,λj hj=>?_⟩;rw[tr,tr,tr,tr,tr];exact e3 j hj
theorem ky.fr0{w w':World}{A:Option Addr}{n:Nat}{rA:Nat->Option Addr}{rn rc:Nat->Nat}{f:Nat->Nat->Po}(h:ky w A n rA rn rc f)(hf:Fr [] w w'):ky w' A n rA rn rc f:=by
 refine⟨λhn=>?_,h.len,λi hi=>(h.ops i hi).fr0 hf⟩;obtain⟨b,off,e1,e2,e3⟩:=h.row hn;exact⟨b,off,e1,Dc e2 hf.size,λi hi=>(hf.cell (p:=⟨b,off+i,none⟩) e2 (by simp)).trans (e3 i hi)⟩
end Go.Proofs.YtimlkjppaalfaaaGreatDoor
namespace Go.Proofs.YtimlkjppaalfaaaGreatDoor.MutateAnswers
open Go.RowKit Go.Gl HS
end Go.Proofs.YtimlkjppaalfaaaGreatDoor.MutateAnswers
