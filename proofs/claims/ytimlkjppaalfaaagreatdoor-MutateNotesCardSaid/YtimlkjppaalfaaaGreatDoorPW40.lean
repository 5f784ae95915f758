/- gleanerref13: step's alloc. -/
import Derived.Test.YtimlkjppaalfaaaGreatDoorPW36
import Derived.Deep.CutRange
import Derived.Deep.RegionHeld3
import Derived.Deep.AppendLies
import Derived.WalkKit
import Derived.BigQuiet
set_option linter.unusedVariables false
set_option linter.unusedSimpArgs false
set_option maxHeartbeats 3200000
set_option maxRecDepth 100000
open List renaming getElem_cons_succ->C3,getElem_cons_zero->C4,getElem_toArray->C5,setIfInBounds_toArray->C6,set_cons_zero->C7,set_cons_succ->C8
open Int renaming eq_ofNat_of_zero_le->Da,toNat_natCast->Db
open Nat renaming zero_le->Df
namespace Go.Proofs.YtimlkjppaalfaaaGreatDoor
open Go.RowKit Go.Gl
theorem Tryz.tv:(Tryz.prog.info? 67).map (λi=>(i.zero,i.size,i.bytes))=some (some (.int .u64 0),1,8):=by kernel_rfl
theorem gX.made{w:World}{tg:TG}{e:TypeId}{kd:Nat}{r:Int}{x n:Nat}(hb:Blk w x e (aI n λ_=>.int .u64 0))(ht:tg x=(kd,r))(hn:n<=maxLen):gX w tg e kd r (.slice (some ⟨x,0,none⟩) n n) (List.replicate n 0):=by
 refine⟨some ⟨x,0,none⟩,n,if n=0 then [] else [x],by rw[List.length_replicate],?_,?_⟩
 ·rw[List.length_replicate];refine⟨by simp[cN],Nat.le_refl _,hn,λh=>if_pos h,λh=>⟨x,0,_,rfl,if_neg (by omega),hb,by simp[dU],?_⟩⟩;rw[dV];simp[cN]
 ·intro g hg;split at hg
  ·cases hg
  ·simp at hg;rw[hg];exact ht
theorem qP(σ:GS)(x y:Nat):kids (σ.new (x:Int) (y:Int)) ((σ.N:Int)+1)=List.replicate x 0:=by
 unfold kids GS.new;dsimp only;rw[aq,aq,Db];exact List.eq_replicate_iff.2 ⟨by rw[List.length_map,List.length_range],λb hb=>by obtain⟨_,_,e⟩:=List.mem_map.1 hb;exact e.symm⟩
theorem qQ(σ:GS)(x y:Nat){r:Int}(h:r≠(σ.N:Int)+1):kids (σ.new (x:Int) (y:Int)) r=kids σ r:=by
 unfold kids GS.new;dsimp only;rw[az _ _ h,az _ _ h]
theorem pg(σ:GS)(x y:Nat):dk (σ.new (x:Int) (y:Int)) ((σ.N:Int)+1)=List.replicate y 0:=by
 unfold dk GS.new;dsimp only;rw[aq,aq,Db];exact List.eq_replicate_iff.2 ⟨by rw[List.length_map,List.length_range],λb hb=>by obtain⟨_,_,e⟩:=List.mem_map.1 hb;exact e.symm⟩
theorem pi(σ:GS)(x y:Nat){r:Int}(h:r≠(σ.N:Int)+1):dk (σ.new (x:Int) (y:Int)) r=dk σ r:=by
 unfold dk GS.new;dsimp only;rw[az _ _ h,az _ _ h]
section
variable {w w':World}{tg tg':TG}{F:List Nat}{Λ:ML}{K T B M:Nat}{σ:GS}{t:Nat}
theorem MG.Cx(h:MG w tg Λ K T B M σ){x y:Nat}(hx:x<=1048576)(hy:y<=1048576){w2 w':World}{xa xb g cap:Nat}(hf1:Fr [] w w2)(ha:Blk w2 xa 154 (aI x λ_=>.int .u64 0))(hb:Blk w2 xb 67 (aI y λ_=>.int .u64 0))(na:w.heap.size<=xa)(nb:w.heap.size<=xb)(hne:xa≠xb){nv:Array Value}{t0:TypeId}
  (hown:w'.ownsRow 0 203 2 (.slice (some ⟨g,0,none⟩) (σ.N+1) cap) (σ.N+1) (dO (λk=>Λ.rv ((k:Int)+1)) (λk=>Λ.dv ((k:Int)+1)) σ.N++[.slice (some ⟨xa,0,none⟩) x x,.slice (some ⟨xb,0,none⟩) y y]))
  (hgr:(w2.alloc (.cells nv t0)).grownBy w' Λ.ov.ownBlock) (hat:Λ.ov.ownBlock=some g\/g=w2.heap.size+1) (hgl:g<w'.heap.size) :
  ∃tg',MG (w'.setCell ⟨Λ.m,1,none⟩ (.slice (some ⟨g,0,none⟩) (σ.N+1) cap)) tg' { Λ with ov:=.slice (some ⟨g,0,none⟩) (σ.N+1) cap,rv:=ai Λ.rv ((σ.N:Int)+1) (.slice (some ⟨xa,0,none⟩) x x),dv:=ai Λ.dv ((σ.N:Int)+1) (.slice (some ⟨xb,0,none⟩) y y) } K T B M (σ.new (x:Int) (y:Int)) /\
   GFr w tg (w'.setCell ⟨Λ.m,1,none⟩ (.slice (some ⟨g,0,none⟩) (σ.N+1) cap)) tg':=by
 have hfa:Fr [] w (w2.alloc (.cells nv t0)):=hf1.alloc _;have hgf:Fr Λ.ov.ownBlock.toList (w2.alloc (.cells nv t0)) w':=gY hgr;have hf2:Fr Λ.ov.ownBlock.toList w w':=(hfa.mono (λx hx=>by cases hx)).trans hgf (λx hx=>.inl hx);have hf3:Fr [Λ.m] w' (w'.setCell ⟨Λ.m,1,none⟩ (.slice (some ⟨g,0,none⟩) (σ.N+1) cap)):=(Fr.refl _ _).setCell (p:=⟨Λ.m,1,none⟩) (.inl (by simp)) _;obtain⟨w3,hw3⟩:∃w3,w3=w'.setCell ⟨Λ.m,1,none⟩ (.slice (some ⟨g,0,none⟩) (σ.N+1) cap):=⟨_,rfl⟩;rw[<- hw3]at hf3 ⊢;have h2:∀x,x∈Λ.ov.ownBlock.toList->tg x=(12,0):=λx hx=>h.t2 x (by simpa using hx);have hf:Fr (Λ.m::Λ.ov.ownBlock.toList) w w3:=(hf2.mono (λx hx=>.inl (by simp[hx]))).trans hf3 (λx hx=>.inl (by simp at hx;simp[hx]));have hT:∀x,x∈Λ.m::Λ.ov.ownBlock.toList->tg x=(11,0)\/tg x=(12,0):=λx hx=>by
  rcases List.mem_cons.1 hx with rfl|hx
  ·exact .inl h.t1
  ·exact .inr (h2 x hx)
 have hk:∀n,n≠11->n≠12->∀x,x∈Λ.m::Λ.ov.ownBlock.toList->(tg x).1≠n:=λn h1 h2 x hx e=>by
  rcases hT x hx with e1|e1
  ·rw[e1]at e;exact h1 e.symm
  ·rw[e1]at e;exact h2 e.symm
 have hs1:=hf1.size;have hs2:w2.heap.size<w'.heap.size:=by
  have:=hgr.size;simp at this;omega
 have hs3:w'.heap.size=w3.heap.size:=by rw[hw3];simp
 have la:=ha.lt;have lb:=hb.lt;obtain⟨tg',htg⟩:∃tg':TG,tg'=λx=>if x=g then (12,0) else if x=xa then (14,(σ.N:Int)+1) else if x=xb then (15,(σ.N:Int)+1) else tg x:=⟨_,rfl⟩
 have gna:g≠xa:=λe=>by
  rcases hat with e1|e1
  ·have:=h.obj.lt e1;omega
  ·omega
 have gnb:g≠xb:=λe=>by
  rcases hat with e1|e1
  ·have:=h.obj.lt e1;omega
  ·omega
 have tgg:tg' g=(12,0):=by rw[htg];exact if_pos rfl
 have tga:tg' xa=(14,(σ.N:Int)+1):=by rw[htg];dsimp only;rw[if_neg (Ne.symm gna),if_pos rfl]
 have tgb:tg' xb=(15,(σ.N:Int)+1):=by rw[htg];dsimp only;rw[if_neg (Ne.symm gnb),if_neg (Ne.symm hne),if_pos rfl]
 have hu:dP w tg tg':=λx hx=>by
  rw[htg];dsimp only;by_cases e:x=g
  ·rw[if_pos e];rcases hat with e1|e1
   ·rw[e,h.t2 g e1]
   ·omega
  ·rw[if_neg e,if_neg (by omega),if_neg (by omega)]
 have hok:lc w3 tg':=λx hx=>by
  by_cases e:x=g
  ·rw[e,<- hs3];exact hgl
  ·by_cases e2:x=xa
   ·omega
   ·by_cases e3:x=xb
    ·omega
    ·rw[htg]at hx;dsimp only at hx;rw[if_neg e,if_neg e2,if_neg e3]at hx;have:=h.tok x hx;omega
 obtain⟨a1,a2,a3,a4⟩:=h.tags hu;have hb2:=h.st.fr hf2 (λhx=>by have:=h2 _ hx;rw[h.t1]at this;cases this);have hgne:g≠Λ.m:=λe=>by rw[e]at tgg;rw[a1]at tgg;cases tgg
 have hnm:∀z,w.heap.size<=z->z∉Λ.ov.ownBlock.toList:=λz hz hx=>by
  have:=h.obj.lt (b:=z) (by simpa using hx);omega
 have ha3:Blk w3 xa 154 (aI x λ_=>.int .u64 0):=((ha.alloc _).fr hgf (hnm _ na)).fr hf3 (λhx=>by simp at hx;have:=h.st.lt;omega);have hb3:Blk w3 xb 67 (aI y λ_=>.int .u64 0):=((hb.alloc _).fr hgf (hnm _ nb)).fr hf3 (λhx=>by simp at hx;have:=h.st.lt;omega);refine⟨tg',⟨?_,a1,?_,λb hb=>?_,λr h1 h2=>?_,λr h1 h2=>?_,h.vA hf (hk 13 (by decide) (by decide)),a3,λi hi=>h.sZ hf hi (fT (hk 16 (by decide) (by decide))) hu,h.vB hf (hk 17 (by decide) (by decide)),a4,hok⟩,⟨⟨_,hf,hk 0 (by decide) (by decide)⟩,hu⟩⟩
 ·have:=hb2.put 1 (.slice (some ⟨g,0,none⟩) (σ.N+1) cap);rw[hw3];simpa using this
 ·show R2 w3 203 _ (σ.N+1) _ _;have hown':w'.ownsRow 0 203 2 (.slice (some ⟨g,0,none⟩) (σ.N+1) cap) (σ.N+1) (dO (λ(k:Nat)=>ai Λ.rv ((σ.N:Int)+1) (.slice (some ⟨xa,0,none⟩) x x) ((k:Int)+1)) (λ(k:Nat)=>ai Λ.dv ((σ.N:Int)+1) (.slice (some ⟨xb,0,none⟩) y y) ((k:Int)+1)) (σ.N+1)):=by
   rw[fw,aq,aq];rw[kj (f':=λ(k:Nat)=>Λ.rv ((k:Int)+1)) (g':=λ(k:Nat)=>Λ.dv ((k:Int)+1)) (λi hi=>⟨by rw[az _ _ (by omega)],by rw[az _ _ (by omega)]⟩)];exact hown
  exact dS hown' hf3 (λx hx=>by
   have hx':some g=some x:=hx;injection hx' with hx';subst hx';simpa using hgne)
 ·have hb':some g=some b:=hb;injection hb' with hb';rw[<- hb'];exact tgg
 ·have h2:r<=((σ.N+1:Nat):Int):=h2;show gX w3 tg' 154 14 r (ai Λ.rv ((σ.N:Int)+1) _ r) _;by_cases e:r=(σ.N:Int)+1
  ·subst e;rw[aq,qP];exact gX.made ha3 tga (by unfold maxLen;omega)
  ·rw[az _ _ e,qQ _ _ _ e];exact(h.refs r h1 (by omega)).fr hf (fT (hk 14 (by decide) (by decide))) hu
 ·have h2:r<=((σ.N+1:Nat):Int):=h2;show gX w3 tg' 67 15 r (ai Λ.dv ((σ.N:Int)+1) _ r) _;by_cases e:r=(σ.N:Int)+1
  ·subst e;rw[aq,pg];exact gX.made hb3 tgb (by unfold maxLen;omega)
  ·rw[az _ _ e,pi _ _ _ e];exact(h.data r h1 (by omega)).fr hf (fT (hk 15 (by decide) (by decide))) hu
theorem Am(h:MG w tg Λ T T B M σ)(ok:GOk T B σ)(hd:fc T B M)(hN:σ.N+1<=4096)(ht:t<T)(a b c v:Int)(ha:-9223372036854775808<=a/\a<=9223372036854775807)(hb:-9223372036854775808<=b/\b<=9223372036854775807){ab:Nat}{th dn:Int}(hab:Blk w ab 71 (dK th dn ⟨0,0,false⟩))(htg:(tg ab).1=0) :
  Calls Tryz.prog 53 #[.pointer (some ⟨Λ.m,0,none⟩),.pointer (some ⟨Λ.S t,0,none⟩),opV ⟨1,a,b,c,v⟩,.pointer (some ⟨ab,0,none⟩)] w (au w tg Λ.m T B M (bZ B M σ t a b) ab th dn ⟨eG B M σ t a b,0,false⟩):=by
 obtain⟨i0,hi,hz0,hz1,hz2⟩:=info_parts Tryz.vf;have HTK:Hid ((tg w.heap.size).1=0):=by
  rcases Nat.eq_zero_or_pos (tg w.heap.size).1 with e|e
  ·exact e
  ·have:=h.tok w.heap.size (by omega);omega
 have hf1:Fr [] w (w.alloc (.cells #[.int .i64 1,.int .i64 a,.int .i64 b,.int .i64 c,.int .u64 v] 69)):=(Fr.refl _ _).alloc _;obtain⟨w1,hw1⟩:∃w1,w1=w.alloc (.cells #[.int .i64 1,.int .i64 a,.int .i64 b,.int .i64 c,.int .u64 v] 69):=⟨_,rfl⟩;have hbo:Blk w1 w.heap.size 69 #[.int .i64 1,.int .i64 a,.int .i64 b,.int .i64 c,.int .u64 v]:=by rw[hw1];exact Blk.new _ _ _
 rw[<- hw1]at hf1;have hp1:=h.fr0 hf1;have HW1:=aa hw1;have HF1:=aa hf1;have HAB:=aa hab;have HTG:=aa htg;have HM:=aa hp1.at;have e0:w1.cell? ⟨w.heap.size,0,none⟩=some (.int .i64 1):=by rw[hbo.cell];rfl
 have e1:w1.cell? ⟨w.heap.size,1,none⟩=some (.int .i64 a):=by rw[hbo.cell];rfl
 have e2:w1.cell? ⟨w.heap.size,2,none⟩=some (.int .i64 b):=by rw[hbo.cell];rfl
 have e3:w1.cell? ⟨w.heap.size,3,none⟩=some (.int .i64 c):=by rw[hbo.cell];rfl
 have e4:w1.cell? ⟨w.heap.size,4,none⟩=some (.int .u64 v):=by rw[hbo.cell];rfl
 have NO:w.heap.size<w1.heap.size:=af e0;unfold opV;clear hw1 hf1 hab htg h hbo;have HS:=aa (vM hp1 hd a b ha hb);have HFu:=aa (vL hp1 ok hd ht);by_cases hs:aE M a b
 ·have q1:eG B M σ t a b=13:=by unfold eG;rw[if_pos hs]
  have q2:bZ B M σ t a b=σ:=by unfold bZ;rw[if_pos hs]
  rw[q1,q2];rw[show decide (¬ aE M a b)=false by simpa using hs]at HS;clear q1 q2 hs hp1 ok hd hN ht HFu;go_enter Tryz.func53,Tryz.ntmps53
  go_upto_region 1 with fail
  rw[<- HW1.out];go_wp2_with fail
  refine HS.out.mono ?_;rintro e w' ⟨rfl,rfl⟩;go_wp2_with fail
  go_ret
  exact au.of0 HF1.out (GFr.refl _ _) HM.out HAB.out HTG.out (Fr.refl _ _)
 ·obtain⟨k1,k2,k3,k4⟩:=fP hs;obtain⟨x,rfl⟩:=Da k1;obtain⟨y,rfl⟩:=Da k2;rw[show decide (¬ aE M (x:Int) (y:Int))=true by simpa using hs]at HS;by_cases hl:(σ.st t).length<B
  ·rw[show decide (¬ (σ.st t).length<B)=false by simpa using hl]at HFu;have q1:eG B M σ t (x:Int) (y:Int)=0:=by unfold eG ay;rw[if_neg hs,if_pos hl]
   have q2:bZ B M σ t (x:Int) (y:Int)=(σ.new (x:Int) (y:Int)).push B t ((σ.N:Int)+1):=by unfold bZ;rw[if_neg hs,if_pos hl]
   rw[q1,q2];have hM:=hd.m;have hcap:=ok.cap;have hmk1:∀w',(Instr.makeSlice 128 (.int .i64 (x:Int)) (.int .i64 (x:Int))).run Tryz.prog w'=.ok (.slice (some ⟨w'.heap.size,0,none⟩) x x) (w'.alloc (.cells (aI x λ_=>.int .u64 0) 154)):=ke Tryz.underlying128 Tryz.gp rfl (by omega);have hmk2:∀w',(Instr.makeSlice 167 (.int .i64 (y:Int)) (.int .i64 (y:Int))).run Tryz.prog w'=.ok (.slice (some ⟨w'.heap.size,0,none⟩) y y) (w'.alloc (.cells (aI y λ_=>.int .u64 0) 67)):=ke Tryz.underlying167 Tryz.tv rfl (by omega);have ok1:GOk T B (σ.new (x:Int) (y:Int)):=ok.new (by omega) (by omega) hN;have HPU:Hid (∀w' tg' Λ',MG w' tg' Λ' T T B M (σ.new (x:Int) (y:Int))->Calls Tryz.prog 103 #[.pointer (some ⟨Λ'.S t,0,none⟩),.int .u64 ((σ.N:Int)+1)] w' (MSt w' tg' Λ' T T B M ((σ.new (x:Int) (y:Int)).push B t ((σ.N:Int)+1)) (.int .i64 0))):=λw' tg' Λ' hp=>by
    have:=gE hp ok1 hd ht ((σ.N:Int)+1);rwa[show ay B ((σ.new (x:Int) (y:Int)).st t)=0 from if_pos hl]at this
   have HXY:Hid (x<=1048576/\y<=1048576):=⟨by omega,by omega⟩;have HK:Hid (σ.N+1<=maxLen/\(σ.N+1)*48<=140737488355328):=⟨by unfold maxLen;omega,by omega⟩;have hw3:IntKind.u64.wrap ((σ.N:Int)+1)=(σ.N:Int)+1:=IntWalk.u64_in _ ⟨by omega,by omega⟩;have HLEN:Hid (∀w' tg' Λ',MG w' tg' Λ' T T B M (σ.new (x:Int) (y:Int))->∃A c,Λ'.ov=.slice A (σ.N+1) c):=λw' tg' Λ' hp=>by
    obtain⟨A,c,e,_⟩:=hp.obj.form;exact⟨A,c,e⟩
   have HTO:Hid ((tg w.heap.size).1=0):=HTK.out;have HP1:=aa hp1;clear q1 q2 hs hp1 ok hd hN ht hM hcap k1 k2 k3 k4 ok1 hl ha hb;go_enter Tryz.func53,Tryz.ntmps53
   go_upto_region 1 with fail
   rw[<- HW1.out];go_wp2_with fail
   refine HS.out.mono ?_;rintro e w' ⟨rfl,rfl⟩;go_wp2_with fail
   refine HFu.out.mono ?_;rintro e w' ⟨rfl,q,rfl⟩;go_upto_region 7 with fail
   obtain⟨W0,hW0⟩:∃W0,W0=(w1.drewN q).drew:=⟨_,rfl⟩;have HFD:Hid (Fr [] w1 W0):=by rw[hW0];exact((Fr.refl _ _).drewN _).drew
   have hp0:MG W0 tg Λ T T B M σ:=HP1.out.fr0 HFD.out;have c1:W0.cell? ⟨Λ.m,1,none⟩=some Λ.ov:=hp0.c1;have NM:Λ.m<W0.heap.size:=hp0.st.lt;have NM1:Λ.m<W0.heap.size+1:=by omega
   have NM2:Λ.m<W0.heap.size+1+1:=by omega
   have K0:Hid ((w1.drewN q).drew.cell? ⟨w.heap.size,1,none⟩=some (.int .i64 (x:Int))/\(w1.drewN q).drew.cell? ⟨w.heap.size,2,none⟩=some (.int .i64 (y:Int))):=⟨by rw[(((Fr.refl [] w1).drewN q).drew).cell (p:=⟨w.heap.size,1,none⟩) NO (by simp)];exact e1,by rw[(((Fr.refl [] w1).drewN q).drew).cell (p:=⟨w.heap.size,2,none⟩) NO (by simp)];exact e2⟩;have hgo:∀(w2 w3:World) (F:List Nat),Fr F w2 w3->w.heap.size∉F->(λw':World=>w'.cell? ⟨w.heap.size,1,none⟩=some (.int .i64 (x:Int))/\w'.cell? ⟨w.heap.size,2,none⟩=some (.int .i64 (y:Int))) w2->(λw':World=>w'.cell? ⟨w.heap.size,1,none⟩=some (.int .i64 (x:Int))/\w'.cell? ⟨w.heap.size,2,none⟩=some (.int .i64 (y:Int))) w3:=λw2 w3 F hf hn hs=>⟨by rw[hf.cell (p:=⟨w.heap.size,1,none⟩) (af hs.1) hn];exact hs.1,by rw[hf.cell (p:=⟨w.heap.size,2,none⟩) (af hs.2) hn];exact hs.2⟩;have hmo:Λ.m≠w.heap.size:=λe=>by have:=hp0.t1;rw[e]at this;have:=HTO.out;simp_all
   have hoo:w.heap.size∉Λ.ov.ownBlock.toList:=λhx=>by have:=hp0.t2 w.heap.size (by simpa using hx);have:=HTO.out;simp_all
   have KA:Hid (∀w2 o,(λw':World=>w'.cell? ⟨w.heap.size,1,none⟩=some (.int .i64 (x:Int))/\w'.cell? ⟨w.heap.size,2,none⟩=some (.int .i64 (y:Int))) w2->(λw':World=>w'.cell? ⟨w.heap.size,1,none⟩=some (.int .i64 (x:Int))/\w'.cell? ⟨w.heap.size,2,none⟩=some (.int .i64 (y:Int))) (w2.alloc o)):=λw2 o hs=>hgo _ _ [] ((Fr.refl _ _).alloc _) (by simp) hs;have KP:Hid (∀(w2:World) v,(λw':World=>w'.cell? ⟨w.heap.size,1,none⟩=some (.int .i64 (x:Int))/\w'.cell? ⟨w.heap.size,2,none⟩=some (.int .i64 (y:Int))) w2->(λw':World=>w'.cell? ⟨w.heap.size,1,none⟩=some (.int .i64 (x:Int))/\w'.cell? ⟨w.heap.size,2,none⟩=some (.int .i64 (y:Int))) (w2.setCell ⟨Λ.m,1,none⟩ v)):=λw2 v hs=>hgo _ _ [Λ.m] ((Fr.refl _ _).setCell (p:=⟨Λ.m,1,none⟩) (.inl (by simp)) _) (by simpa using Ne.symm hmo) hs;have KG:Hid (∀(w2 w3:World),w2.grownBy w3 Λ.ov.ownBlock->(λw':World=>w'.cell? ⟨w.heap.size,1,none⟩=some (.int .i64 (x:Int))/\w'.cell? ⟨w.heap.size,2,none⟩=some (.int .i64 (y:Int))) w2->(λw':World=>w'.cell? ⟨w.heap.size,1,none⟩=some (.int .i64 (x:Int))/\w'.cell? ⟨w.heap.size,2,none⟩=some (.int .i64 (y:Int))) w3):=λw2 w3 hg hs=>hgo _ _ _ (gY hg) hoo hs;have HFZ:Hid (∀(w2 w3:World),Fr [] W0 w2->w2.grownBy w3 Λ.ov.ownBlock->w3.cell? ⟨Λ.m,1,none⟩=some Λ.ov/\w3.frozen? ⟨Λ.m,1,none⟩=false):=λw2 w3 hf hg=>by
    have hb:=(hp0.st.fr hf (by simp)).fr (gY hg) (λhx=>by have:=hp0.t2 Λ.m (by simpa using hx);rw[hp0.t1]at this;cases this);exact⟨by rw[hb.cell];rfl,hb.frozen 1⟩
   have HRow:Hid (W0.ownsRow 0 203 2 Λ.ov σ.N (dO (λk=>Λ.rv ((k:Int)+1)) (λk=>Λ.dv ((k:Int)+1)) σ.N)):=hp0.obj;have HEND:Hid (∀(w2 w3:World) (xa xb g cap:Nat) (nv:Array Value) (t0:TypeId),Fr [] W0 w2->Blk w2 xa 154 (aI x λ_=>.int .u64 0)->Blk w2 xb 67 (aI y λ_=>.int .u64 0)->W0.heap.size<=xa->W0.heap.size<=xb->xa≠xb ->
     w3.ownsRow 0 203 2 (.slice (some ⟨g,0,none⟩) (σ.N+1) cap) (σ.N+1) (dO (λk=>Λ.rv ((k:Int)+1)) (λk=>Λ.dv ((k:Int)+1)) σ.N++[.slice (some ⟨xa,0,none⟩) x x,.slice (some ⟨xb,0,none⟩) y y])->(w2.alloc (.cells nv t0)).grownBy w3 Λ.ov.ownBlock->(Λ.ov.ownBlock=some g\/g=w2.heap.size+1)->g<w3.heap.size ->
     ∃tg1 Λ1,MG (w3.setCell ⟨Λ.m,1,none⟩ (.slice (some ⟨g,0,none⟩) (σ.N+1) cap)) tg1 Λ1 T T B M (σ.new (x:Int) (y:Int))/\Λ1.m=Λ.m/\Λ1.S=Λ.S/\GFr w1 tg (w3.setCell ⟨Λ.m,1,none⟩ (.slice (some ⟨g,0,none⟩) (σ.N+1) cap)) tg1):=λw2 w3 xa xb g cap nv t0 i1 i2 i3 i4 i5 i6 i7 i8 i9 i10=>by
    obtain⟨tg1,r1,r2⟩:=hp0.Cx HXY.out.1 HXY.out.2 i1 i2 i3 i4 i5 i6 i7 i8 i9 i10;exact⟨tg1,_,r1,rfl,rfl,(GFr.fr0 HFD.out).trans r2⟩
   have HP0:=aa hp0;have HW0:=aa hW0;clear hW0;go_cut [] from 35 to 50 (λwc=>∃tg1 Λ1,MG wc tg1 Λ1 T T B M (σ.new (x:Int) (y:Int))/\Λ1.m=Λ.m/\Λ1.S=Λ.S/\GFr w1 tg wc tg1)
   case first=>
    clear hp0 hgo hmo hoo HP0 HP1 HPU HLEN HTO HFu HS HAB HTG HM hw3;generalize hRW:dO (λ(k:Nat)=>Λ.rv ((k:Int)+1)) (λ(k:Nat)=>Λ.dv ((k:Int)+1)) σ.N=RW at *;generalize σ.N=n at *;generalize Λ.ov=ov at *;generalize Λ.m=mm at *;refine wp_region_held_drew (S:=λw'=>w'.cell? ⟨w.heap.size,1,none⟩=some (.int .i64 (x:Int))/\w'.cell? ⟨w.heap.size,2,none⟩=some (.int .i64 (y:Int))) (by kernel_rfl) (K0.out) (λhHeld=>?_);rw[<- HW0.out]at hHeld ⊢;refine wpAnyH_take (i:=0) (v:=?v0x1) rfl (by kernel_rfl) (by kernel_rfl) (by kernel_rfl) (λ_ _ _ h=>h) (Or.inl ⟨by rfl,?hy0x1⟩) (by assumption) ?rest0x1;case hy0x1=>(intro w' hSw;(try dsimp only at hSw);(try simp only[C5,C3,C4]);(first|(go_simp;done)|(go_simp;with_reducible rfl)))
    (try simp only[Act.put,C5,C3,C4,C6,C7,C8])
    refine wpAnyH_take (i:=1) (v:=?v1x2) rfl (by kernel_rfl) (by kernel_rfl) (by kernel_rfl) (λ_ _ _ h=>h) (Or.inl ⟨by rfl,?hy1x2⟩) (by assumption) ?rest1x2;case hy1x2=>(intro w' hSw;(try dsimp only at hSw);(try simp only[C5,C3,C4]);(first|(go_simp;done)|(go_simp;with_reducible rfl)))
    (try simp only[Act.put,C5,C3,C4,C6,C7,C8])
    refine wpAnyH_take (i:=2) (v:=?v2x3) rfl (by kernel_rfl) (by kernel_rfl) (by kernel_rfl) (λ_ _ _ h=>h) (Or.inl ⟨by rfl,?hy2x3⟩) (by assumption) ?rest2x3;case hy2x3=>(intro w' hSw;(try dsimp only at hSw);(try simp only[C5,C3,C4]);(first|(go_simp;done)|(go_simp;with_reducible rfl)))
    (try simp only[Act.put,C5,C3,C4,C6,C7,C8])
    refine wpAnyH_take (i:=3) (v:=?v3x4) rfl (by kernel_rfl) (by kernel_rfl) (by kernel_rfl) (λ_ _ _ h=>h) (Or.inl ⟨by rfl,?hy3x4⟩) (by assumption) ?rest3x4;case hy3x4=>(intro w' hSw;(try dsimp only at hSw);(try simp only[C5,C3,C4]);(first|(go_simp;done)|(go_simp;with_reducible rfl)))
    (try simp only[Act.put,C5,C3,C4,C6,C7,C8])
    refine wpAnyH_take (i:=5) (v:=?v5x5) rfl (by kernel_rfl) (by kernel_rfl) (by kernel_rfl) (λ_ _ _ h=>h) (Or.inl ⟨by rfl,?hy5x5⟩) (by assumption) ?rest5x5;case hy5x5=>(intro w' hSw;(try dsimp only at hSw);(try simp only[C5,C3,C4]);(first|(go_simp;done)|(go_simp;with_reducible rfl)))
    (try simp only[Act.put,C5,C3,C4,C6,C7,C8])
    refine wpAnyH_take (i:=6) (v:=?v6x6) rfl (by kernel_rfl) (by kernel_rfl) (by kernel_rfl) (λ_ _ _ h=>h) (Or.inl ⟨by rfl,?hy6x6⟩) (by assumption) ?rest6x6;case hy6x6=>(intro w' hSw;(try dsimp only at hSw);(try simp only[C5,C3,C4]);(first|(go_simp;done)|(go_simp;with_reducible rfl)))
    (try simp only[Act.put,C5,C3,C4,C6,C7,C8])
    refine wpAnyH_take (i:=8) (v:=?v8x7) rfl (by kernel_rfl) (by kernel_rfl) (by kernel_rfl) (λ_ _ _ h=>h) (Or.inl ⟨by rfl,?hy8x7⟩) (by assumption) ?rest8x7;case hy8x7=>(intro w' hSw;(try dsimp only at hSw);(try simp only[C5,C3,C4]);(first|(go_simp;done)|(go_simp;with_reducible rfl)))
    (try simp only[Act.put,C5,C3,C4,C6,C7,C8])
    refine wpAnyH_take (i:=9) (v:=?v9x8) rfl (by kernel_rfl) (by kernel_rfl) (by kernel_rfl) (λ_ _ _ h=>h) (Or.inl ⟨by rfl,?hy9x8⟩) (by assumption) ?rest9x8;case hy9x8=>(intro w' hSw;(try dsimp only at hSw);(try simp only[C5,C3,C4]);(first|(go_simp;done)|(go_simp;with_reducible rfl)))
    (try simp only[Act.put,C5,C3,C4,C6,C7,C8])
    refine wpAnyH_ready (rs:=[4,7,10]) (by kernel_rfl) (by simp) ?_;refine AllReadyH.cons rfl (λK hK=>?_) (AllReadyH.cons rfl (λK hK=>?_) (AllReadyH.cons rfl (λK hK=>?_) AllReadyH.nil))
    ·(try simp only[C5,C3,C4])
     go_simp
     refine hK.out _ _ (hHeld) (λhHeld=>?_);clear hK K;(try simp only[Act.put,C6,C7,C8])
     refine wpAnyH_ready (rs:=[7,10]) (by kernel_rfl) (by simp) ?_;refine AllReadyH.cons rfl (λK hK=>?_) (AllReadyH.cons rfl (λK hK=>?_) AllReadyH.nil)
     ·(try simp only[C5,C3,C4])
      go_simp
      refine hK.out _ _ ((KA.out _ _ hHeld)) (λhHeld=>?_);clear hK K;(try simp only[Act.put,C6,C7,C8])
      refine wpAnyH_ready (rs:=[10]) (by kernel_rfl) (by simp) ?_;refine AllReadyH.cons rfl (λK hK=>?_) AllReadyH.nil;(try simp only[C5,C3,C4])
      go_simp
      refine hK.out _ _ ((KA.out _ _ hHeld)) (λhHeld=>?_);clear hK K;(try simp only[Act.put,C6,C7,C8])
      refine wpAnyH_take (i:=11) (v:=?v11x9) rfl (by kernel_rfl) (by kernel_rfl) (by kernel_rfl) (λ_ _ _ h=>h) (Or.inl ⟨by rfl,?hy11x9⟩) (by assumption) ?rest11x9;case hy11x9=>(intro w' hSw;(try dsimp only at hSw);(try simp only[C5,C3,C4]);(first|(go_simp;done)|(go_simp;with_reducible rfl)))
      (try simp only[Act.put,C5,C3,C4,C6,C7,C8])
      refine wpAnyH_ready (rs:=[12]) (by kernel_rfl) (by simp) ?_;refine AllReadyH.cons rfl (λK hK=>?_) AllReadyH.nil;(try simp only[C5,C3,C4])
      go_simp
      refine hK.out _ _ ((KA.out _ _ hHeld)) (λhHeld=>?_);clear hK K;(try simp only[Act.put,C6,C7,C8])
      refine wpAnyH_ready (rs:=[13]) (by kernel_rfl) (by simp) ?_;refine AllReadyH.cons rfl (λK hK=>?_) AllReadyH.nil;(try simp only[C5,C3,C4])
      rw[if_pos (by rfl)];refine wp_append_lies _ _ _ 85 rfl 0 203 i0 (.agg #[.slice none 0 0,.slice none 0 0]) 2 48 Tryz.underlying85 hi hz0 hz1 hz2 rfl (by decide) ov n RW rfl (dS HRow.out ((((Fr.refl [] _).alloc _).alloc _).alloc _) (λ_ _=>by simp)) ⟨W0.heap.size+2,0,none⟩ 1 1 [.slice (some ⟨W0.heap.size,0,none⟩) x x,.slice (some ⟨W0.heap.size+1,0,none⟩) y y] rfl rfl (World.news_of_block (cs:=#[.slice (some ⟨W0.heap.size,0,none⟩) x x,.slice (some ⟨W0.heap.size+1,0,none⟩) y y]) (Blk.aX _ _ (by simp))) (by intro u hu;simp at hu;rcases hu with rfl|rfl <;> rfl) (by decide) HK.out.1 HK.out.2 (Df _) _ rfl ?_;intro g cap w3 hown hgr hat hlt;have HOWN:=aa hown;have HGR:=aa hgr;have HAT:=aa hat;have HLT:=aa hlt;have d0:=(HFZ.out _ w3 ((((Fr.refl [] _).alloc _).alloc _).alloc _) hgr).1;have dz:=(HFZ.out _ w3 ((((Fr.refl [] _).alloc _).alloc _).alloc _) hgr).2;have N3:mm<w3.heap.size:=af d0;clear hown hat hlt;refine hK.out _ _ ((KG.out _ _ HGR.out hHeld)) (λhHeld=>?_);clear hK K;(try simp only[Act.put,C6,C7,C8])
      refine wpAnyH_take (i:=14) (v:=?v14x10) rfl (by kernel_rfl) (by kernel_rfl) (by kernel_rfl) (λ_ _ _ h=>h) (Or.inl ⟨by rfl,?hy14x10⟩) (by assumption) ?rest14x10;case hy14x10=>(intro w' hSw;(try dsimp only at hSw);(try simp only[C5,C3,C4]);(first|(go_simp;done)|(go_simp;with_reducible rfl)))
      (try simp only[Act.put,C5,C3,C4,C6,C7,C8])
      refine wpAnyH_take (i:=15) (v:=?v15x11) rfl (by kernel_rfl) (by kernel_rfl) (by kernel_rfl) (λ_ _ _ h=>h) (Or.inl ⟨by rfl,?hy15x11⟩) (by assumption) ?rest15x11;case hy15x11=>(intro w' hSw;(try dsimp only at hSw);(try simp only[C5,C3,C4]);(first|(go_simp;done)|(go_simp;with_reducible rfl)))
      (try simp only[Act.put,C5,C3,C4,C6,C7,C8])
      refine wpAnyH_ready (rs:=[16]) (by kernel_rfl) (by simp) ?_;refine AllReadyH.cons rfl (λK hK=>?_) AllReadyH.nil;(try simp only[C5,C3,C4])
      go_simp
      refine hK.out _ _ ((KP.out _ _ hHeld)) (λhHeld=>?_);clear hK K;(try simp only[Act.put,C6,C7,C8])
      refine wpAnyH_done (by kernel_rfl) ?_ _;go_wp2_with fail
      go_meet
      case rel=>
       exact HEND.out _ _ _ _ _ _ _ _ (((Fr.refl _ _).alloc _).alloc _) ((Blk.new _ _ _).alloc _) (Blk.aX _ _ (by simp)) (by omega) (by omega) (by omega) HOWN.out HGR.out (by simpa using HAT.out) HLT.out
     ·(try simp only[C5,C3,C4])
      go_simp
      refine hK.out _ _ ((KA.out _ _ hHeld)) (λhHeld=>?_);clear hK K;(try simp only[Act.put,C6,C7,C8])
      refine wpAnyH_ready (rs:=[7]) (by kernel_rfl) (by simp) ?_;refine AllReadyH.cons rfl (λK hK=>?_) AllReadyH.nil;(try simp only[C5,C3,C4])
      go_simp
      refine hK.out _ _ ((KA.out _ _ hHeld)) (λhHeld=>?_);clear hK K;(try simp only[Act.put,C6,C7,C8])
      refine wpAnyH_take (i:=11) (v:=?v11x12) rfl (by kernel_rfl) (by kernel_rfl) (by kernel_rfl) (λ_ _ _ h=>h) (Or.inl ⟨by rfl,?hy11x12⟩) (by assumption) ?rest11x12;case hy11x12=>(intro w' hSw;(try dsimp only at hSw);(try simp only[C5,C3,C4]);(first|(go_simp;done)|(go_simp;with_reducible rfl)))
      (try simp only[Act.put,C5,C3,C4,C6,C7,C8])
      refine wpAnyH_ready (rs:=[12]) (by kernel_rfl) (by simp) ?_;refine AllReadyH.cons rfl (λK hK=>?_) AllReadyH.nil;(try simp only[C5,C3,C4])
      go_simp
      refine hK.out _ _ ((KA.out _ _ hHeld)) (λhHeld=>?_);clear hK K;(try simp only[Act.put,C6,C7,C8])
      refine wpAnyH_ready (rs:=[13]) (by kernel_rfl) (by simp) ?_;refine AllReadyH.cons rfl (λK hK=>?_) AllReadyH.nil;(try simp only[C5,C3,C4])
      rw[if_pos (by rfl)];refine wp_append_lies _ _ _ 85 rfl 0 203 i0 (.agg #[.slice none 0 0,.slice none 0 0]) 2 48 Tryz.underlying85 hi hz0 hz1 hz2 rfl (by decide) ov n RW rfl (dS HRow.out ((((Fr.refl [] _).alloc _).alloc _).alloc _) (λ_ _=>by simp)) ⟨W0.heap.size+2,0,none⟩ 1 1 [.slice (some ⟨W0.heap.size+1,0,none⟩) x x,.slice (some ⟨W0.heap.size,0,none⟩) y y] rfl rfl (World.news_of_block (cs:=#[.slice (some ⟨W0.heap.size+1,0,none⟩) x x,.slice (some ⟨W0.heap.size,0,none⟩) y y]) (Blk.aX _ _ (by simp))) (by intro u hu;simp at hu;rcases hu with rfl|rfl <;> rfl) (by decide) HK.out.1 HK.out.2 (Df _) _ rfl ?_;intro g cap w3 hown hgr hat hlt;have HOWN:=aa hown;have HGR:=aa hgr;have HAT:=aa hat;have HLT:=aa hlt;have d0:=(HFZ.out _ w3 ((((Fr.refl [] _).alloc _).alloc _).alloc _) hgr).1;have dz:=(HFZ.out _ w3 ((((Fr.refl [] _).alloc _).alloc _).alloc _) hgr).2;have N3:mm<w3.heap.size:=af d0;clear hown hat hlt;refine hK.out _ _ ((KG.out _ _ HGR.out hHeld)) (λhHeld=>?_);clear hK K;(try simp only[Act.put,C6,C7,C8])
      refine wpAnyH_take (i:=14) (v:=?v14x13) rfl (by kernel_rfl) (by kernel_rfl) (by kernel_rfl) (λ_ _ _ h=>h) (Or.inl ⟨by rfl,?hy14x13⟩) (by assumption) ?rest14x13;case hy14x13=>(intro w' hSw;(try dsimp only at hSw);(try simp only[C5,C3,C4]);(first|(go_simp;done)|(go_simp;with_reducible rfl)))
      (try simp only[Act.put,C5,C3,C4,C6,C7,C8])
      refine wpAnyH_take (i:=15) (v:=?v15x14) rfl (by kernel_rfl) (by kernel_rfl) (by kernel_rfl) (λ_ _ _ h=>h) (Or.inl ⟨by rfl,?hy15x14⟩) (by assumption) ?rest15x14;case hy15x14=>(intro w' hSw;(try dsimp only at hSw);(try simp only[C5,C3,C4]);(first|(go_simp;done)|(go_simp;with_reducible rfl)))
      (try simp only[Act.put,C5,C3,C4,C6,C7,C8])
      refine wpAnyH_ready (rs:=[16]) (by kernel_rfl) (by simp) ?_;refine AllReadyH.cons rfl (λK hK=>?_) AllReadyH.nil;(try simp only[C5,C3,C4])
      go_simp
      refine hK.out _ _ ((KP.out _ _ hHeld)) (λhHeld=>?_);clear hK K;(try simp only[Act.put,C6,C7,C8])
      refine wpAnyH_done (by kernel_rfl) ?_ _;go_wp2_with fail
      go_meet
      case rel=>
       exact HEND.out _ _ _ _ _ _ _ _ (((Fr.refl _ _).alloc _).alloc _) (Blk.aX _ _ (by simp)) ((Blk.new _ _ _).alloc _) (by omega) (by omega) (by omega) HOWN.out HGR.out (by simpa using HAT.out) HLT.out
    ·(try simp only[C5,C3,C4])
     go_simp
     refine hK.out _ _ ((KA.out _ _ hHeld)) (λhHeld=>?_);clear hK K;(try simp only[Act.put,C6,C7,C8])
     refine wpAnyH_ready (rs:=[4,10]) (by kernel_rfl) (by simp) ?_;refine AllReadyH.cons rfl (λK hK=>?_) (AllReadyH.cons rfl (λK hK=>?_) AllReadyH.nil)
     ·(try simp only[C5,C3,C4])
      go_simp
      refine hK.out _ _ (hHeld) (λhHeld=>?_);clear hK K;(try simp only[Act.put,C6,C7,C8])
      refine wpAnyH_ready (rs:=[10]) (by kernel_rfl) (by simp) ?_;refine AllReadyH.cons rfl (λK hK=>?_) AllReadyH.nil;(try simp only[C5,C3,C4])
      go_simp
      refine hK.out _ _ ((KA.out _ _ hHeld)) (λhHeld=>?_);clear hK K;(try simp only[Act.put,C6,C7,C8])
      refine wpAnyH_take (i:=11) (v:=?v11x15) rfl (by kernel_rfl) (by kernel_rfl) (by kernel_rfl) (λ_ _ _ h=>h) (Or.inl ⟨by rfl,?hy11x15⟩) (by assumption) ?rest11x15;case hy11x15=>(intro w' hSw;(try dsimp only at hSw);(try simp only[C5,C3,C4]);(first|(go_simp;done)|(go_simp;with_reducible rfl)))
      (try simp only[Act.put,C5,C3,C4,C6,C7,C8])
      refine wpAnyH_ready (rs:=[12]) (by kernel_rfl) (by simp) ?_;refine AllReadyH.cons rfl (λK hK=>?_) AllReadyH.nil;(try simp only[C5,C3,C4])
      go_simp
      refine hK.out _ _ ((KA.out _ _ hHeld)) (λhHeld=>?_);clear hK K;(try simp only[Act.put,C6,C7,C8])
      refine wpAnyH_ready (rs:=[13]) (by kernel_rfl) (by simp) ?_;refine AllReadyH.cons rfl (λK hK=>?_) AllReadyH.nil;(try simp only[C5,C3,C4])
      rw[if_pos (by rfl)];refine wp_append_lies _ _ _ 85 rfl 0 203 i0 (.agg #[.slice none 0 0,.slice none 0 0]) 2 48 Tryz.underlying85 hi hz0 hz1 hz2 rfl (by decide) ov n RW rfl (dS HRow.out ((((Fr.refl [] _).alloc _).alloc _).alloc _) (λ_ _=>by simp)) ⟨W0.heap.size+2,0,none⟩ 1 1 [.slice (some ⟨W0.heap.size,0,none⟩) x x,.slice (some ⟨W0.heap.size+1,0,none⟩) y y] rfl rfl (World.news_of_block (cs:=#[.slice (some ⟨W0.heap.size,0,none⟩) x x,.slice (some ⟨W0.heap.size+1,0,none⟩) y y]) (Blk.aX _ _ (by simp))) (by intro u hu;simp at hu;rcases hu with rfl|rfl <;> rfl) (by decide) HK.out.1 HK.out.2 (Df _) _ rfl ?_;intro g cap w3 hown hgr hat hlt;have HOWN:=aa hown;have HGR:=aa hgr;have HAT:=aa hat;have HLT:=aa hlt;have d0:=(HFZ.out _ w3 ((((Fr.refl [] _).alloc _).alloc _).alloc _) hgr).1;have dz:=(HFZ.out _ w3 ((((Fr.refl [] _).alloc _).alloc _).alloc _) hgr).2;have N3:mm<w3.heap.size:=af d0;clear hown hat hlt;refine hK.out _ _ ((KG.out _ _ HGR.out hHeld)) (λhHeld=>?_);clear hK K;(try simp only[Act.put,C6,C7,C8])
      refine wpAnyH_take (i:=14) (v:=?v14x16) rfl (by kernel_rfl) (by kernel_rfl) (by kernel_rfl) (λ_ _ _ h=>h) (Or.inl ⟨by rfl,?hy14x16⟩) (by assumption) ?rest14x16;case hy14x16=>(intro w' hSw;(try dsimp only at hSw);(try simp only[C5,C3,C4]);(first|(go_simp;done)|(go_simp;with_reducible rfl)))
      (try simp only[Act.put,C5,C3,C4,C6,C7,C8])
      refine wpAnyH_take (i:=15) (v:=?v15x17) rfl (by kernel_rfl) (by kernel_rfl) (by kernel_rfl) (λ_ _ _ h=>h) (Or.inl ⟨by rfl,?hy15x17⟩) (by assumption) ?rest15x17;case hy15x17=>(intro w' hSw;(try dsimp only at hSw);(try simp only[C5,C3,C4]);(first|(go_simp;done)|(go_simp;with_reducible rfl)))
      (try simp only[Act.put,C5,C3,C4,C6,C7,C8])
      refine wpAnyH_ready (rs:=[16]) (by kernel_rfl) (by simp) ?_;refine AllReadyH.cons rfl (λK hK=>?_) AllReadyH.nil;(try simp only[C5,C3,C4])
      go_simp
      refine hK.out _ _ ((KP.out _ _ hHeld)) (λhHeld=>?_);clear hK K;(try simp only[Act.put,C6,C7,C8])
      refine wpAnyH_done (by kernel_rfl) ?_ _;go_wp2_with fail
      go_meet
      case rel=>
       exact HEND.out _ _ _ _ _ _ _ _ (((Fr.refl _ _).alloc _).alloc _) ((Blk.new _ _ _).alloc _) (Blk.aX _ _ (by simp)) (by omega) (by omega) (by omega) HOWN.out HGR.out (by simpa using HAT.out) HLT.out
     ·(try simp only[C5,C3,C4])
      go_simp
      refine hK.out _ _ ((KA.out _ _ hHeld)) (λhHeld=>?_);clear hK K;(try simp only[Act.put,C6,C7,C8])
      refine wpAnyH_take (i:=11) (v:=?v11x18) rfl (by kernel_rfl) (by kernel_rfl) (by kernel_rfl) (λ_ _ _ h=>h) (Or.inl ⟨by rfl,?hy11x18⟩) (by assumption) ?rest11x18;case hy11x18=>(intro w' hSw;(try dsimp only at hSw);(try simp only[C5,C3,C4]);(first|(go_simp;done)|(go_simp;with_reducible rfl)))
      (try simp only[Act.put,C5,C3,C4,C6,C7,C8])
      refine wpAnyH_ready (rs:=[4,12]) (by kernel_rfl) (by simp) ?_;refine AllReadyH.cons rfl (λK hK=>?_) (AllReadyH.cons rfl (λK hK=>?_) AllReadyH.nil)
      ·(try simp only[C5,C3,C4])
       go_simp
       refine hK.out _ _ (hHeld) (λhHeld=>?_);clear hK K;(try simp only[Act.put,C6,C7,C8])
       refine wpAnyH_ready (rs:=[12]) (by kernel_rfl) (by simp) ?_;refine AllReadyH.cons rfl (λK hK=>?_) AllReadyH.nil;(try simp only[C5,C3,C4])
       go_simp
       refine hK.out _ _ ((KA.out _ _ hHeld)) (λhHeld=>?_);clear hK K;(try simp only[Act.put,C6,C7,C8])
       refine wpAnyH_ready (rs:=[13]) (by kernel_rfl) (by simp) ?_;refine AllReadyH.cons rfl (λK hK=>?_) AllReadyH.nil;(try simp only[C5,C3,C4])
       rw[if_pos (by rfl)];refine wp_append_lies _ _ _ 85 rfl 0 203 i0 (.agg #[.slice none 0 0,.slice none 0 0]) 2 48 Tryz.underlying85 hi hz0 hz1 hz2 rfl (by decide) ov n RW rfl (dS HRow.out ((((Fr.refl [] _).alloc _).alloc _).alloc _) (λ_ _=>by simp)) ⟨W0.heap.size+2,0,none⟩ 1 1 [.slice (some ⟨W0.heap.size,0,none⟩) x x,.slice (some ⟨W0.heap.size+1,0,none⟩) y y] rfl rfl (World.news_of_block (cs:=#[.slice (some ⟨W0.heap.size,0,none⟩) x x,.slice (some ⟨W0.heap.size+1,0,none⟩) y y]) (Blk.aX _ _ (by simp))) (by intro u hu;simp at hu;rcases hu with rfl|rfl <;> rfl) (by decide) HK.out.1 HK.out.2 (Df _) _ rfl ?_;intro g cap w3 hown hgr hat hlt;have HOWN:=aa hown;have HGR:=aa hgr;have HAT:=aa hat;have HLT:=aa hlt;have d0:=(HFZ.out _ w3 ((((Fr.refl [] _).alloc _).alloc _).alloc _) hgr).1;have dz:=(HFZ.out _ w3 ((((Fr.refl [] _).alloc _).alloc _).alloc _) hgr).2;have N3:mm<w3.heap.size:=af d0;clear hown hat hlt;refine hK.out _ _ ((KG.out _ _ HGR.out hHeld)) (λhHeld=>?_);clear hK K;(try simp only[Act.put,C6,C7,C8])
       refine wpAnyH_take (i:=14) (v:=?v14x19) rfl (by kernel_rfl) (by kernel_rfl) (by kernel_rfl) (λ_ _ _ h=>h) (Or.inl ⟨by rfl,?hy14x19⟩) (by assumption) ?rest14x19;case hy14x19=>(intro w' hSw;(try dsimp only at hSw);(try simp only[C5,C3,C4]);(first|(go_simp;done)|(go_simp;with_reducible rfl)))
       (try simp only[Act.put,C5,C3,C4,C6,C7,C8])
       refine wpAnyH_take (i:=15) (v:=?v15x20) rfl (by kernel_rfl) (by kernel_rfl) (by kernel_rfl) (λ_ _ _ h=>h) (Or.inl ⟨by rfl,?hy15x20⟩) (by assumption) ?rest15x20;case hy15x20=>(intro w' hSw;(try dsimp only at hSw);(try simp only[C5,C3,C4]);(first|(go_simp;done)|(go_simp;with_reducible rfl)))
       (try simp only[Act.put,C5,C3,C4,C6,C7,C8])
       refine wpAnyH_ready (rs:=[16]) (by kernel_rfl) (by simp) ?_;refine AllReadyH.cons rfl (λK hK=>?_) AllReadyH.nil;(try simp only[C5,C3,C4])
       go_simp
       refine hK.out _ _ ((KP.out _ _ hHeld)) (λhHeld=>?_);clear hK K;(try simp only[Act.put,C6,C7,C8])
       refine wpAnyH_done (by kernel_rfl) ?_ _;go_wp2_with fail
       go_meet
       case rel=>
        exact HEND.out _ _ _ _ _ _ _ _ (((Fr.refl _ _).alloc _).alloc _) ((Blk.new _ _ _).alloc _) (Blk.aX _ _ (by simp)) (by omega) (by omega) (by omega) HOWN.out HGR.out (by simpa using HAT.out) HLT.out
      ·(try simp only[C5,C3,C4])
       go_simp
       refine hK.out _ _ ((KA.out _ _ hHeld)) (λhHeld=>?_);clear hK K;(try simp only[Act.put,C6,C7,C8])
       refine wpAnyH_ready (rs:=[4]) (by kernel_rfl) (by simp) ?_;refine AllReadyH.cons rfl (λK hK=>?_) AllReadyH.nil;(try simp only[C5,C3,C4])
       go_simp
       refine hK.out _ _ (hHeld) (λhHeld=>?_);clear hK K;(try simp only[Act.put,C6,C7,C8])
       refine wpAnyH_ready (rs:=[13]) (by kernel_rfl) (by simp) ?_;refine AllReadyH.cons rfl (λK hK=>?_) AllReadyH.nil;(try simp only[C5,C3,C4])
       rw[if_pos (by rfl)];refine wp_append_lies _ _ _ 85 rfl 0 203 i0 (.agg #[.slice none 0 0,.slice none 0 0]) 2 48 Tryz.underlying85 hi hz0 hz1 hz2 rfl (by decide) ov n RW rfl (dS HRow.out ((((Fr.refl [] _).alloc _).alloc _).alloc _) (λ_ _=>by simp)) ⟨W0.heap.size+2,0,none⟩ 1 1 [.slice (some ⟨W0.heap.size,0,none⟩) x x,.slice (some ⟨W0.heap.size+1,0,none⟩) y y] rfl rfl (World.news_of_block (cs:=#[.slice (some ⟨W0.heap.size,0,none⟩) x x,.slice (some ⟨W0.heap.size+1,0,none⟩) y y]) (Blk.aX _ _ (by simp))) (by intro u hu;simp at hu;rcases hu with rfl|rfl <;> rfl) (by decide) HK.out.1 HK.out.2 (Df _) _ rfl ?_;intro g cap w3 hown hgr hat hlt;have HOWN:=aa hown;have HGR:=aa hgr;have HAT:=aa hat;have HLT:=aa hlt;have d0:=(HFZ.out _ w3 ((((Fr.refl [] _).alloc _).alloc _).alloc _) hgr).1;have dz:=(HFZ.out _ w3 ((((Fr.refl [] _).alloc _).alloc _).alloc _) hgr).2;have N3:mm<w3.heap.size:=af d0;clear hown hat hlt;refine hK.out _ _ ((KG.out _ _ HGR.out hHeld)) (λhHeld=>?_);clear hK K;(try simp only[Act.put,C6,C7,C8])
       refine wpAnyH_take (i:=14) (v:=?v14x21) rfl (by kernel_rfl) (by kernel_rfl) (by kernel_rfl) (λ_ _ _ h=>h) (Or.inl ⟨by rfl,?hy14x21⟩) (by assumption) ?rest14x21;case hy14x21=>(intro w' hSw;(try dsimp only at hSw);(try simp only[C5,C3,C4]);(first|(go_simp;done)|(go_simp;with_reducible rfl)))
       (try simp only[Act.put,C5,C3,C4,C6,C7,C8])
       refine wpAnyH_take (i:=15) (v:=?v15x22) rfl (by kernel_rfl) (by kernel_rfl) (by kernel_rfl) (λ_ _ _ h=>h) (Or.inl ⟨by rfl,?hy15x22⟩) (by assumption) ?rest15x22;case hy15x22=>(intro w' hSw;(try dsimp only at hSw);(try simp only[C5,C3,C4]);(first|(go_simp;done)|(go_simp;with_reducible rfl)))
       (try simp only[Act.put,C5,C3,C4,C6,C7,C8])
       refine wpAnyH_ready (rs:=[16]) (by kernel_rfl) (by simp) ?_;refine AllReadyH.cons rfl (λK hK=>?_) AllReadyH.nil;(try simp only[C5,C3,C4])
       go_simp
       refine hK.out _ _ ((KP.out _ _ hHeld)) (λhHeld=>?_);clear hK K;(try simp only[Act.put,C6,C7,C8])
       refine wpAnyH_done (by kernel_rfl) ?_ _;go_wp2_with fail
       go_meet
       case rel=>
        exact HEND.out _ _ _ _ _ _ _ _ (((Fr.refl _ _).alloc _).alloc _) ((Blk.new _ _ _).alloc _) (Blk.aX _ _ (by simp)) (by omega) (by omega) (by omega) HOWN.out HGR.out (by simpa using HAT.out) HLT.out
    ·(try simp only[C5,C3,C4])
     go_simp
     refine hK.out _ _ ((KA.out _ _ hHeld)) (λhHeld=>?_);clear hK K;(try simp only[Act.put,C6,C7,C8])
     refine wpAnyH_ready (rs:=[4,7]) (by kernel_rfl) (by simp) ?_;refine AllReadyH.cons rfl (λK hK=>?_) (AllReadyH.cons rfl (λK hK=>?_) AllReadyH.nil)
     ·(try simp only[C5,C3,C4])
      go_simp
      refine hK.out _ _ (hHeld) (λhHeld=>?_);clear hK K;(try simp only[Act.put,C6,C7,C8])
      refine wpAnyH_ready (rs:=[7]) (by kernel_rfl) (by simp) ?_;refine AllReadyH.cons rfl (λK hK=>?_) AllReadyH.nil;(try simp only[C5,C3,C4])
      go_simp
      refine hK.out _ _ ((KA.out _ _ hHeld)) (λhHeld=>?_);clear hK K;(try simp only[Act.put,C6,C7,C8])
      refine wpAnyH_take (i:=11) (v:=?v11x23) rfl (by kernel_rfl) (by kernel_rfl) (by kernel_rfl) (λ_ _ _ h=>h) (Or.inl ⟨by rfl,?hy11x23⟩) (by assumption) ?rest11x23;case hy11x23=>(intro w' hSw;(try dsimp only at hSw);(try simp only[C5,C3,C4]);(first|(go_simp;done)|(go_simp;with_reducible rfl)))
      (try simp only[Act.put,C5,C3,C4,C6,C7,C8])
      refine wpAnyH_ready (rs:=[12]) (by kernel_rfl) (by simp) ?_;refine AllReadyH.cons rfl (λK hK=>?_) AllReadyH.nil;(try simp only[C5,C3,C4])
      go_simp
      refine hK.out _ _ ((KA.out _ _ hHeld)) (λhHeld=>?_);clear hK K;(try simp only[Act.put,C6,C7,C8])
      refine wpAnyH_ready (rs:=[13]) (by kernel_rfl) (by simp) ?_;refine AllReadyH.cons rfl (λK hK=>?_) AllReadyH.nil;(try simp only[C5,C3,C4])
      rw[if_pos (by rfl)];refine wp_append_lies _ _ _ 85 rfl 0 203 i0 (.agg #[.slice none 0 0,.slice none 0 0]) 2 48 Tryz.underlying85 hi hz0 hz1 hz2 rfl (by decide) ov n RW rfl (dS HRow.out ((((Fr.refl [] _).alloc _).alloc _).alloc _) (λ_ _=>by simp)) ⟨W0.heap.size+2,0,none⟩ 1 1 [.slice (some ⟨W0.heap.size+1,0,none⟩) x x,.slice (some ⟨W0.heap.size,0,none⟩) y y] rfl rfl (World.news_of_block (cs:=#[.slice (some ⟨W0.heap.size+1,0,none⟩) x x,.slice (some ⟨W0.heap.size,0,none⟩) y y]) (Blk.aX _ _ (by simp))) (by intro u hu;simp at hu;rcases hu with rfl|rfl <;> rfl) (by decide) HK.out.1 HK.out.2 (Df _) _ rfl ?_;intro g cap w3 hown hgr hat hlt;have HOWN:=aa hown;have HGR:=aa hgr;have HAT:=aa hat;have HLT:=aa hlt;have d0:=(HFZ.out _ w3 ((((Fr.refl [] _).alloc _).alloc _).alloc _) hgr).1;have dz:=(HFZ.out _ w3 ((((Fr.refl [] _).alloc _).alloc _).alloc _) hgr).2;have N3:mm<w3.heap.size:=af d0;clear hown hat hlt;refine hK.out _ _ ((KG.out _ _ HGR.out hHeld)) (λhHeld=>?_);clear hK K;(try simp only[Act.put,C6,C7,C8])
      refine wpAnyH_take (i:=14) (v:=?v14x24) rfl (by kernel_rfl) (by kernel_rfl) (by kernel_rfl) (λ_ _ _ h=>h) (Or.inl ⟨by rfl,?hy14x24⟩) (by assumption) ?rest14x24;case hy14x24=>(intro w' hSw;(try dsimp only at hSw);(try simp only[C5,C3,C4]);(first|(go_simp;done)|(go_simp;with_reducible rfl)))
      (try simp only[Act.put,C5,C3,C4,C6,C7,C8])
      refine wpAnyH_take (i:=15) (v:=?v15x25) rfl (by kernel_rfl) (by kernel_rfl) (by kernel_rfl) (λ_ _ _ h=>h) (Or.inl ⟨by rfl,?hy15x25⟩) (by assumption) ?rest15x25;case hy15x25=>(intro w' hSw;(try dsimp only at hSw);(try simp only[C5,C3,C4]);(first|(go_simp;done)|(go_simp;with_reducible rfl)))
      (try simp only[Act.put,C5,C3,C4,C6,C7,C8])
      refine wpAnyH_ready (rs:=[16]) (by kernel_rfl) (by simp) ?_;refine AllReadyH.cons rfl (λK hK=>?_) AllReadyH.nil;(try simp only[C5,C3,C4])
      go_simp
      refine hK.out _ _ ((KP.out _ _ hHeld)) (λhHeld=>?_);clear hK K;(try simp only[Act.put,C6,C7,C8])
      refine wpAnyH_done (by kernel_rfl) ?_ _;go_wp2_with fail
      go_meet
      case rel=>
       exact HEND.out _ _ _ _ _ _ _ _ (((Fr.refl _ _).alloc _).alloc _) (Blk.aX _ _ (by simp)) ((Blk.new _ _ _).alloc _) (by omega) (by omega) (by omega) HOWN.out HGR.out (by simpa using HAT.out) HLT.out
     ·(try simp only[C5,C3,C4])
      go_simp
      refine hK.out _ _ ((KA.out _ _ hHeld)) (λhHeld=>?_);clear hK K;(try simp only[Act.put,C6,C7,C8])
      refine wpAnyH_take (i:=11) (v:=?v11x26) rfl (by kernel_rfl) (by kernel_rfl) (by kernel_rfl) (λ_ _ _ h=>h) (Or.inl ⟨by rfl,?hy11x26⟩) (by assumption) ?rest11x26;case hy11x26=>(intro w' hSw;(try dsimp only at hSw);(try simp only[C5,C3,C4]);(first|(go_simp;done)|(go_simp;with_reducible rfl)))
      (try simp only[Act.put,C5,C3,C4,C6,C7,C8])
      refine wpAnyH_ready (rs:=[4,12]) (by kernel_rfl) (by simp) ?_;refine AllReadyH.cons rfl (λK hK=>?_) (AllReadyH.cons rfl (λK hK=>?_) AllReadyH.nil)
      ·(try simp only[C5,C3,C4])
       go_simp
       refine hK.out _ _ (hHeld) (λhHeld=>?_);clear hK K;(try simp only[Act.put,C6,C7,C8])
       refine wpAnyH_ready (rs:=[12]) (by kernel_rfl) (by simp) ?_;refine AllReadyH.cons rfl (λK hK=>?_) AllReadyH.nil;(try simp only[C5,C3,C4])
       go_simp
       refine hK.out _ _ ((KA.out _ _ hHeld)) (λhHeld=>?_);clear hK K;(try simp only[Act.put,C6,C7,C8])
       refine wpAnyH_ready (rs:=[13]) (by kernel_rfl) (by simp) ?_;refine AllReadyH.cons rfl (λK hK=>?_) AllReadyH.nil;(try simp only[C5,C3,C4])
       rw[if_pos (by rfl)];refine wp_append_lies _ _ _ 85 rfl 0 203 i0 (.agg #[.slice none 0 0,.slice none 0 0]) 2 48 Tryz.underlying85 hi hz0 hz1 hz2 rfl (by decide) ov n RW rfl (dS HRow.out ((((Fr.refl [] _).alloc _).alloc _).alloc _) (λ_ _=>by simp)) ⟨W0.heap.size+2,0,none⟩ 1 1 [.slice (some ⟨W0.heap.size+1,0,none⟩) x x,.slice (some ⟨W0.heap.size,0,none⟩) y y] rfl rfl (World.news_of_block (cs:=#[.slice (some ⟨W0.heap.size+1,0,none⟩) x x,.slice (some ⟨W0.heap.size,0,none⟩) y y]) (Blk.aX _ _ (by simp))) (by intro u hu;simp at hu;rcases hu with rfl|rfl <;> rfl) (by decide) HK.out.1 HK.out.2 (Df _) _ rfl ?_;intro g cap w3 hown hgr hat hlt;have HOWN:=aa hown;have HGR:=aa hgr;have HAT:=aa hat;have HLT:=aa hlt;have d0:=(HFZ.out _ w3 ((((Fr.refl [] _).alloc _).alloc _).alloc _) hgr).1;have dz:=(HFZ.out _ w3 ((((Fr.refl [] _).alloc _).alloc _).alloc _) hgr).2;have N3:mm<w3.heap.size:=af d0;clear hown hat hlt;refine hK.out _ _ ((KG.out _ _ HGR.out hHeld)) (λhHeld=>?_);clear hK K;(try simp only[Act.put,C6,C7,C8])
       refine wpAnyH_take (i:=14) (v:=?v14x27) rfl (by kernel_rfl) (by kernel_rfl) (by kernel_rfl) (λ_ _ _ h=>h) (Or.inl ⟨by rfl,?hy14x27⟩) (by assumption) ?rest14x27;case hy14x27=>(intro w' hSw;(try dsimp only at hSw);(try simp only[C5,C3,C4]);(first|(go_simp;done)|(go_simp;with_reducible rfl)))
       (try simp only[Act.put,C5,C3,C4,C6,C7,C8])
       refine wpAnyH_take (i:=15) (v:=?v15x28) rfl (by kernel_rfl) (by kernel_rfl) (by kernel_rfl) (λ_ _ _ h=>h) (Or.inl ⟨by rfl,?hy15x28⟩) (by assumption) ?rest15x28;case hy15x28=>(intro w' hSw;(try dsimp only at hSw);(try simp only[C5,C3,C4]);(first|(go_simp;done)|(go_simp;with_reducible rfl)))
       (try simp only[Act.put,C5,C3,C4,C6,C7,C8])
       refine wpAnyH_ready (rs:=[16]) (by kernel_rfl) (by simp) ?_;refine AllReadyH.cons rfl (λK hK=>?_) AllReadyH.nil;(try simp only[C5,C3,C4])
       go_simp
       refine hK.out _ _ ((KP.out _ _ hHeld)) (λhHeld=>?_);clear hK K;(try simp only[Act.put,C6,C7,C8])
       refine wpAnyH_done (by kernel_rfl) ?_ _;go_wp2_with fail
       go_meet
       case rel=>
        exact HEND.out _ _ _ _ _ _ _ _ (((Fr.refl _ _).alloc _).alloc _) (Blk.aX _ _ (by simp)) ((Blk.new _ _ _).alloc _) (by omega) (by omega) (by omega) HOWN.out HGR.out (by simpa using HAT.out) HLT.out
      ·(try simp only[C5,C3,C4])
       go_simp
       refine hK.out _ _ ((KA.out _ _ hHeld)) (λhHeld=>?_);clear hK K;(try simp only[Act.put,C6,C7,C8])
       refine wpAnyH_ready (rs:=[4]) (by kernel_rfl) (by simp) ?_;refine AllReadyH.cons rfl (λK hK=>?_) AllReadyH.nil;(try simp only[C5,C3,C4])
       go_simp
       refine hK.out _ _ (hHeld) (λhHeld=>?_);clear hK K;(try simp only[Act.put,C6,C7,C8])
       refine wpAnyH_ready (rs:=[13]) (by kernel_rfl) (by simp) ?_;refine AllReadyH.cons rfl (λK hK=>?_) AllReadyH.nil;(try simp only[C5,C3,C4])
       rw[if_pos (by rfl)];refine wp_append_lies _ _ _ 85 rfl 0 203 i0 (.agg #[.slice none 0 0,.slice none 0 0]) 2 48 Tryz.underlying85 hi hz0 hz1 hz2 rfl (by decide) ov n RW rfl (dS HRow.out ((((Fr.refl [] _).alloc _).alloc _).alloc _) (λ_ _=>by simp)) ⟨W0.heap.size+2,0,none⟩ 1 1 [.slice (some ⟨W0.heap.size+1,0,none⟩) x x,.slice (some ⟨W0.heap.size,0,none⟩) y y] rfl rfl (World.news_of_block (cs:=#[.slice (some ⟨W0.heap.size+1,0,none⟩) x x,.slice (some ⟨W0.heap.size,0,none⟩) y y]) (Blk.aX _ _ (by simp))) (by intro u hu;simp at hu;rcases hu with rfl|rfl <;> rfl) (by decide) HK.out.1 HK.out.2 (Df _) _ rfl ?_;intro g cap w3 hown hgr hat hlt;have HOWN:=aa hown;have HGR:=aa hgr;have HAT:=aa hat;have HLT:=aa hlt;have d0:=(HFZ.out _ w3 ((((Fr.refl [] _).alloc _).alloc _).alloc _) hgr).1;have dz:=(HFZ.out _ w3 ((((Fr.refl [] _).alloc _).alloc _).alloc _) hgr).2;have N3:mm<w3.heap.size:=af d0;clear hown hat hlt;refine hK.out _ _ ((KG.out _ _ HGR.out hHeld)) (λhHeld=>?_);clear hK K;(try simp only[Act.put,C6,C7,C8])
       refine wpAnyH_take (i:=14) (v:=?v14x29) rfl (by kernel_rfl) (by kernel_rfl) (by kernel_rfl) (λ_ _ _ h=>h) (Or.inl ⟨by rfl,?hy14x29⟩) (by assumption) ?rest14x29;case hy14x29=>(intro w' hSw;(try dsimp only at hSw);(try simp only[C5,C3,C4]);(first|(go_simp;done)|(go_simp;with_reducible rfl)))
       (try simp only[Act.put,C5,C3,C4,C6,C7,C8])
       refine wpAnyH_take (i:=15) (v:=?v15x30) rfl (by kernel_rfl) (by kernel_rfl) (by kernel_rfl) (λ_ _ _ h=>h) (Or.inl ⟨by rfl,?hy15x30⟩) (by assumption) ?rest15x30;case hy15x30=>(intro w' hSw;(try dsimp only at hSw);(try simp only[C5,C3,C4]);(first|(go_simp;done)|(go_simp;with_reducible rfl)))
       (try simp only[Act.put,C5,C3,C4,C6,C7,C8])
       refine wpAnyH_ready (rs:=[16]) (by kernel_rfl) (by simp) ?_;refine AllReadyH.cons rfl (λK hK=>?_) AllReadyH.nil;(try simp only[C5,C3,C4])
       go_simp
       refine hK.out _ _ ((KP.out _ _ hHeld)) (λhHeld=>?_);clear hK K;(try simp only[Act.put,C6,C7,C8])
       refine wpAnyH_done (by kernel_rfl) ?_ _;go_wp2_with fail
       go_meet
       case rel=>
        exact HEND.out _ _ _ _ _ _ _ _ (((Fr.refl _ _).alloc _).alloc _) (Blk.aX _ _ (by simp)) ((Blk.new _ _ _).alloc _) (by omega) (by omega) (by omega) HOWN.out HGR.out (by simpa using HAT.out) HLT.out
   case rest=>
    obtain⟨tg1,Λ1,hp,hm,hS,hg⟩:=hcut;have HC:=HPU.out _ _ _ hp;rw[hS]at HC;obtain⟨A1,cc1,hov⟩:=HLEN.out _ _ _ hp;have c1':=hp.c1;rw[hov,hm]at c1';have HPP:=aa HC;have HG:=aa hg;have HMM:=aa hm;clear hp hg hm hS HC hov c1 K0 KA KP KG HFZ HRow HEND HP0 hgo hmo hoo hp0 HP1 HPU HLEN;go_wp2_with fail
    refine HPP.out.mono ?_;rintro e w2 ⟨rfl,tg2,hp2,hg2⟩;have HP2:Hid (MAt w2 tg2 Λ.m T B M ((σ.new (x:Int) (y:Int)).push B t ((σ.N:Int)+1))):=⟨_,hp2,HMM.out⟩;have HG2:=aa hg2;clear hp2 hg2;go_wp2_with fail
    go_ret
    exact au.of0 HF1.out (HG.out.trans HG2.out) HP2.out HAB.out HTG.out (Fr.refl _ _)
  ·rw[show decide (¬ (σ.st t).length<B)=true by simpa using hl]at HFu;have q1:eG B M σ t (x:Int) (y:Int)=15:=by unfold eG ay;rw[if_neg hs,if_neg hl]
   have q2:bZ B M σ t (x:Int) (y:Int)=σ:=by unfold bZ;rw[if_neg hs,if_neg hl]
   rw[q1,q2];clear q1 q2 hs hp1 ok hd hN ht;go_enter Tryz.func53,Tryz.ntmps53
   go_upto_region 1 with fail
   rw[<- HW1.out];go_wp2_with fail
   refine HS.out.mono ?_;rintro e w' ⟨rfl,rfl⟩;go_wp2_with fail
   refine HFu.out.mono ?_;rintro e w' ⟨rfl,q,rfl⟩;go_wp2_with fail
   go_ret
   exact au.of0 HF1.out (GFr.refl _ _) HM.out HAB.out HTG.out ((Fr.refl _ _).drewN _)
end
end Go.Proofs.YtimlkjppaalfaaaGreatDoor
