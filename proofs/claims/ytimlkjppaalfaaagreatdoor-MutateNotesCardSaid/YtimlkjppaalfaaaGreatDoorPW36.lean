/- Several texts joined (pack.py): Hb Hc Hdo. -/
import Derived.Test.YtimlkjppaalfaaaGreatDoorPW33
import Derived.Test.YtimlkjppaalfaaaGreatDoorPW21
import Derived.Deep.OwnRows
import Derived.WalkKit
import Derived.BigQuiet
import Derived.Deep.CutRange
set_option linter.unusedVariables false
set_option linter.unusedSimpArgs false
set_option maxHeartbeats 3200000
set_option maxRecDepth 100000
open List renaming mem_cons->C1
open Int renaming eq_ofNat_of_zero_le->Da
namespace Go.Proofs.YtimlkjppaalfaaaGreatDoor
open Go.RowKit Go.Gl
theorem vI(n:Nat)(v:Value)(h:v.cells=#[v]):madeCells #[v] n=aI n λ_=>v:=by
 have:=cU v h n;rw[h]at this;rw[dV,<- this,Array.toArray_toList]
theorem ke{P:Program}{t e:TypeId}{z:Value}(ht:P.underlying t=some (.slice e))(hi:(P.info? e).map (λi=>(i.zero,i.size,i.bytes))=some (some z,1,8))(hz:z.cells=#[z]){n:Nat}(hn:n<=4194304)(w:World) :
  (Instr.makeSlice t (.int .i64 (n:Int)) (.int .i64 (n:Int))).run P w=.ok (.slice (some ⟨w.heap.size,0,none⟩) n n) (w.alloc (.cells (aI n λ_=>z) e)):=by
 rw[run_make_row' (P:=P) t e z 8 ht hi hz .i64 .i64 n (by omega) (by omega) w,vI n z hz]
theorem Tryz.Ac:(Tryz.prog.info? 3).map (λi=>(i.zero,i.size,i.bytes))=some (some (.int .i64 0),1,8):=by kernel_rfl
theorem Tryz.vJ:(Tryz.prog.info? 132).map (λi=>(i.zero,i.size,i.bytes))=some (some (.pointer none),1,8):=by kernel_rfl
theorem vK(S:Nat->Nat)(k s:Nat):aQ (ai S k s) (k+1)=aQ S k++[.pointer (some ⟨s,0,none⟩)]:=by
 unfold aQ;rw[List.range_succ,List.map_append,List.map_singleton,aq]
 congr 1
 apply List.map_congr_left;intro i hi;rw[az _ _ (by have:=List.mem_range.1 hi;omega)]
section
variable {w w':World}{tg:TG}{Λ:ML}{k T B M:Nat}
theorem MG.yx(h:MG w tg Λ k T B M G0){w1:World}{s:Nat}{F:List Nat}(hf1:Fr [] w w1)(hs:HkR w1 s F B [])(hn:∀x,x∈F->w.heap.size<=x){nv:Array Value}{t0:TypeId}{A':Option Addr}{c':Nat}{G':List Nat}
  (hL:Lr w' 132 A' (k+1) c' G' (aQ Λ.S k++[.pointer (some ⟨s,0,none⟩)])) (hgr:Fr Λ.sG (w1.alloc (.cells nv t0)) w') (hG:∀g,g∈G'->g∈Λ.sG\/g=(w1.alloc (.cells nv t0)).heap.size) :
  ∃tg',MG (w'.setCell ⟨Λ.m,2,none⟩ (.slice A' (k+1) c')) tg' { Λ with sA:=A',sc:=c',sG:=G',S:=ai Λ.S k s } (k+1) T B M G0/\GFr w tg (w'.setCell ⟨Λ.m,2,none⟩ (.slice A' (k+1) c')) tg':=by
 have hfa:Fr [] w (w1.alloc (.cells nv t0)):=hf1.alloc _;have hf2:Fr Λ.sG w w':=(hfa.mono (λx hx=>by cases hx)).trans hgr (λx hx=>.inl hx);have hf3:Fr [Λ.m] w' (w'.setCell ⟨Λ.m,2,none⟩ (.slice A' (k+1) c')):=(Fr.refl _ _).setCell (p:=⟨Λ.m,2,none⟩) (.inl (by simp)) _;obtain⟨w3,hw3⟩:∃w3,w3=w'.setCell ⟨Λ.m,2,none⟩ (.slice A' (k+1) c'):=⟨_,rfl⟩;rw[<- hw3]at hf3 ⊢;have hf:Fr (Λ.m::Λ.sG) w w3:=(hf2.mono (λx hx=>.inl (by simp[hx]))).trans hf3 (λx hx=>.inl (by simp at hx;simp[hx]));have hT:∀x,x∈Λ.m::Λ.sG->tg x=(11,0)\/tg x=(13,0):=λx hx=>by
  rcases C1.1 hx with rfl|hx
  ·exact .inl h.t1
  ·exact .inr (h.t3 x hx)
 have hk:∀n,n≠11->n≠13->∀x,x∈Λ.m::Λ.sG->(tg x).1≠n:=λn h1 h2 x hx e=>by
  rcases hT x hx with e1|e1
  ·rw[e1]at e;exact h1 e.symm
  ·rw[e1]at e;exact h2 e.symm
 have hs1:=hf1.size;have hs2:w1.heap.size<w'.heap.size:=by
  have:=hgr.size;simp at this;omega
 have hs3:w'.heap.size=w3.heap.size:=by rw[hw3];simp
 have hGl:∀g,g∈G'->g<w'.heap.size:=hL.lt;obtain⟨tg',htg⟩:∃tg':TG,tg'=λx=>if x∈G' then (13,0) else if w.heap.size<=x/\x<w3.heap.size then (16,(k:Int)) else tg x:=⟨_,rfl⟩
 have tgg:∀g,g∈G'->tg' g=(13,0):=λg hg=>by rw[htg];exact if_pos hg
 have hu:dP w tg tg':=λx hx=>by
  rw[htg];dsimp only;by_cases e:x∈G'
  ·rw[if_pos e];rcases hG x e with e1|e1
   ·rw[h.t3 x e1]
   ·simp at e1;omega
  ·rw[if_neg e,if_neg (by omega)]
 have hok:lc w3 tg':=λx hx=>by
  by_cases e:x∈G'
  ·rw[<- hs3];exact hGl x e
  ·by_cases e2:w.heap.size<=x/\x<w3.heap.size
   ·exact e2.2
   ·rw[htg]at hx;dsimp only at hx;rw[if_neg e,if_neg e2]at hx;have:=h.tok x hx;omega
 have hgF:∀g,g∈F->g∉G':=λg hg hx=>by
  have:=hs.lt g hg;have h4:=hn g hg;rcases hG g hx with e1|e1
  ·have:=h.row.lt g e1;omega
  ·simp at e1;omega
 obtain⟨a1,a2,a3,a4⟩:=h.tags hu;have hb2:=h.st.fr hf2 (λhx=>by have:=h.t3 _ hx;rw[h.t1]at this;cases this);have hmG:Λ.m∉G':=λhx=>by
  have:=tgg _ hx;rw[a1]at this;cases this
 refine⟨tg',⟨?_,a1,h.vz hf (hk 12 (by decide) (by decide)),a2,λr h1 h2=>absurd h2 (by show ¬ r<=0;omega),λr h1 h2=>absurd h2 (by show ¬ r<=0;omega),?_,tgg,λi hi=>?_,h.vB hf (hk 17 (by decide) (by decide)),a4,hok⟩,⟨⟨_,hf,hk 0 (by decide) (by decide)⟩,hu⟩⟩
 ·have:=hb2.put 2 (.slice A' (k+1) c');rw[hw3];simpa using this
 ·rw[vK];exact hL.fr hf3 (λg hg hx=>by simp at hx;exact hmG (hx ▸ hg))
 ·by_cases e:i=k
  ·subst e;refine⟨F,?_,λx hx=>?_⟩
   ·show HkR w3 (ai Λ.S i s i) F B [];rw[aq];have hsx:HkR w' s F B []:=(hs.fr0 ((Fr.refl _ _).alloc (.cells nv t0))).fr hgr (λx hx hx'=>by
     have:=hn x hx;have:=h.row.lt x hx';omega)
    exact hsx.fr hf3 (λx hx hx'=>by simp at hx';have:=hn x hx;have:=h.st.lt;omega)
   ·have h3:=hn x hx;have h4:=hs.lt x hx;rw[htg];dsimp only;rw[if_neg (hgF x hx),if_pos ⟨h3,by omega⟩]
  ·obtain⟨H,h3,h4⟩:=h.sZ hf (i:=i) (by omega) (fT (hk 16 (by decide) (by decide))) hu;refine⟨H,?_,h4⟩;show HkR w3 (ai Λ.S k s i) H B (G0.st i);rw[az _ _ e];exact h3
end
theorem MG.zero(w:World)(T B M:Nat):MG ((w.alloc (.cells (aI T λ_=>.int .i64 0) 3)).alloc (.cells #[.int .i64 (M:Int),.slice none 0 0,.slice none 0 0,.slice (some ⟨w.heap.size,0,none⟩) T T] 88)) (λx=>if x=w.heap.size then (17,0) else if x=w.heap.size+1 then (11,0) else (0,0))
  ⟨w.heap.size+1,.slice none 0 0,none,0,[],λ_=>0,w.heap.size,λ_=>.slice none 0 0,λ_=>.slice none 0 0⟩ 0 T B M G0:=by
 refine⟨Blk.aX _ _ (by simp),by simp,R2.nil _ _ _ _,λb hb=>(by cases hb),λr h1 h2=>absurd h2 (by show ¬ r<=0;omega),λr h1 h2=>absurd h2 (by show ¬ r<=0;omega),Lr.nil _ _,λg hg=>(by cases hg),λi hi=>absurd hi (by omega),(Blk.new _ _ _).alloc _,by simp,λb hb=>?_⟩;by_cases e:b=w.heap.size
 ·simp;omega
 ·by_cases e2:b=w.heap.size+1
  ·simp;omega
  ·simp[e,e2]at hb
def MAt(w:World)(tg:TG)(m T B M:Nat)(σ:GS):Prop:=∃Λ,MG w tg Λ T T B M σ/\Λ.m=m
def BK(w:World)(T B M:Nat)(e:Ending)(w':World):Prop:=
 ∃g tg,e=.returned (.tuple #[.pointer (some ⟨g,0,none⟩),.int .i64 0])/\MAt w' tg g T B M G0/\Fr [] w w'/\∀b,(tg b).1≠0->w.heap.size<=b
theorem Ad(T B M:Nat)(hT:1<=T)(h1:1<=B)(hd:fc T B M)(w:World):Calls Tryz.prog 22 #[.int .i64 (T:Int),.int .i64 (B:Int),.int .i64 (M:Int)] w (BK w T B M):=by
 obtain⟨i0,hi,hz0,hz1,hz2⟩:=info_parts Tryz.vJ;have g1:¬ ((T:Int)<1):=by omega
 have g2:¬ ((T:Int)>64):=by have:=hd.t;omega
 have g3:¬ ((M:Int)<1):=by have:=hd.m1;omega
 have g4:¬ ((M:Int)>1048576):=by have:=hd.m;omega
 have g5:¬ ((B:Int)<1):=by omega
 have g6:¬ ((B:Int)>64):=by have:=hd.b;omega
 have hmk:∀w',(Instr.makeSlice 25 (.int .i64 (T:Int)) (.int .i64 (T:Int))).run Tryz.prog w'=.ok (.slice (some ⟨w'.heap.size,0,none⟩) T T) (w'.alloc (.cells (aI T λ_=>.int .i64 0) 3)):=ke Tryz.underlying25 Tryz.Ac rfl (by have:=hd.t;omega);have HD:=aa hd;have HB1:=aa h1;have HT0:=aa hT;clear hd hT h1;go_enter Tryz.func22,Tryz.ntmps22
 go_wp2_with fail
 have HZ:=aa (MG.zero w T B M);have HF:Hid (Fr [] w ((w.alloc (.cells (aI T λ_=>.int .i64 0) 3)).alloc (.cells #[.int .i64 (M:Int),.slice none 0 0,.slice none 0 0,.slice (some ⟨w.heap.size,0,none⟩) T T] 88))):=((Fr.refl _ _).alloc _).alloc _;have HTG:Hid (∀b:Nat,((λx=>if x=w.heap.size then (17,0) else if x=w.heap.size+1 then (11,0) else (0,0):TG) b).1≠0->w.heap.size<=b):=λb hb=>by
  by_cases e:b=w.heap.size
  ·omega
  ·by_cases e2:b=w.heap.size+1
   ·omega
   ·simp[e,e2]at hb
 go_loopw [9] (λi wr=>∃(k:Nat) (tg:TG) (Λ:ML),i=.int .i64 k/\k<=T/\MG wr tg Λ k T B M G0/\Λ.m=w.heap.size+1/\Fr [] w wr/\∀b,(tg b).1≠0->w.heap.size<=b) (λi _=>T-(intOf i).toNat)
 case atStart=>exact⟨0,_,_,rfl,Nat.zero_le _,HZ.out,rfl,HF.out,HTG.out⟩
 case round=>
  obtain⟨k,tg,Λ,rfl,hk,hp,hg,hf,ht⟩:=hrel;by_cases hlt:k<T
  ·have hlt1:(k:Int)<(T:Int):=by omega
   have HA:=aa (uo B HB1.out HD.out.b wr);have HG:=aa hg;have HP:=aa hp;have HFr:=aa hf;have HTr:=aa ht;have HL:=aa hlt;clear hp hg hf ht HZ HF HTG;go_wp2_with fail
   refine HA.out.mono ?_;rintro e w1 ⟨s,F,rfl,hq,hf1,hn⟩;have hp1:=HP.out.fr0 hf1;have c2:w1.cell? ⟨w.heap.size+1,2,none⟩=some (.slice Λ.sA k Λ.sc):=by rw[<- HG.out];exact hp1.c2
   have NG:w.heap.size+1<w1.heap.size:=af c2;have HQ:=aa hq;have HF1:=aa hf1;have HNN:=aa hn;have HP1:=aa hp1;have HFZ:Hid (∀w',Fr Λ.sG (w1.alloc (.cells #[.pointer (some ⟨s,0,none⟩)] 132)) w'->w'.cell? ⟨w.heap.size+1,2,none⟩=some (.slice Λ.sA k Λ.sc)/\w'.frozen? ⟨w.heap.size+1,2,none⟩=false):=λw' hg=>by
    have hb:=((hp1.st.fr ((Fr.refl [] w1).alloc (.cells #[.pointer (some ⟨s,0,none⟩)] 132)) (by simp)).fr hg (λhx=>by have:=hp1.t3 _ hx;rw[hp1.t1]at this;cases this));rw[HG.out]at hb;exact⟨by rw[hb.cell];rfl,hb.frozen 2⟩
   have HLR:Hid (Lr (w1.alloc (.cells #[.pointer (some ⟨s,0,none⟩)] 132)) 132 Λ.sA k Λ.sc Λ.sG (aQ Λ.S k)):=hp1.row.alloc _;have HN:Hid (k+1<=maxLen/\(k+1)*8<=140737488355328):=by have:=HD.out.t;exact⟨by unfold maxLen;omega,by omega⟩
   clear hq hf1 hn hp1;go_wp2_with (first|(at_builtin;refine aS rfl _ _ 86 rfl 132 i0 (.pointer none) 8 Tryz.underlying86 hi hz0 hz1 hz2 rfl rfl HLR.out rfl rfl (λ_=>fq w1 _ 132 rfl _ (Fr.refl _ _)) (by intro u hu;simp at hu;rw[hu];rfl) HN.out.1 HN.out.2 ?_;intro A' c' G' w2 HLn HFn HGn;have d0:=(HFZ.out _ HFn.out).1;have dz:=(HFZ.out _ HFn.out).2))
   have HR:Hid (∃tg' Λ',MG (w2.setCell ⟨w.heap.size+1,2,none⟩ (.slice A' (k+1) c')) tg' Λ' (k+1) T B M G0/\Λ'.m=w.heap.size+1/\Fr [] w (w2.setCell ⟨w.heap.size+1,2,none⟩ (.slice A' (k+1) c'))/\∀b,(tg' b).1≠0->w.heap.size<=b):=by
    obtain⟨tg',k1,k2⟩:=HP.out.yx HF1.out HQ.out HNN.out HLn.out HFn.out (λg hg=>(HGn.out g hg).imp id (λh=>h.1));rw[HG.out]at k1 k2;exact⟨tg',_,k1,rfl,GFr.inside HFr.out HTr.out k2,GFr.new HFr.out HTr.out k2⟩
   go_roundw
   case rel=>
    obtain⟨tg',Λ',r1,r2,r3,r4⟩:=HR.out;exact⟨k+1,tg',Λ',by go_num,by have:=HL.out;omega,r1,r2,r3,r4⟩
   case measure=>simp[intOf];have:=HL.out;omega
  ·obtain rfl:k=T:=by omega
   have HR:Hid (∃tg,MAt wr tg (w.heap.size+1) k B M G0/\Fr [] w wr/\∀b,(tg b).1≠0->w.heap.size<=b):=⟨tg,⟨Λ,hp,hg⟩,hf,ht⟩;clear hp hg hf ht HZ HF HTG;go_wp2_with fail
   go_ret2
   obtain⟨tg',r1,r2,r3⟩:=HR.out;exact⟨w.heap.size+1,tg',rfl,r1,r2,r3⟩
def au(w:World)(tg:TG)(m T B M:Nat)(σ:GS)(ab:Nat)(th dn:Int)(x:An)(e:Ending)(w':World):Prop:=
 e=.returned (.int .i64 x.code)/\∃tg',MAt w' tg' m T B M σ/\Blk w' ab 71 (dK th dn ⟨0,x.word,x.bit⟩)/\(∃F,Fr F w w'/\∀x,x∈F->x=ab\/(tg x).1≠0)/\dP w tg tg'
section
variable {w w':World}{tg tg':TG}{F:List Nat}{Λ:ML}{K T B M:Nat}{σ:GS}{t:Nat}
theorem MAt.fr{m:Nat}(h:MAt w tg m T B M σ)(hf:Fr F w w')(hF:∀x,x∈F->(tg x).1=0):MAt w' tg m T B M σ:=by
 obtain⟨Λ,h1,h2⟩:=h;exact⟨Λ,h1.fr hf hF,h2⟩
theorem MAt.fr0{m:Nat}(h:MAt w tg m T B M σ)(hf:Fr [] w w'):MAt w' tg m T B M σ:=h.fr hf (by simp)
theorem MAt.tok{m:Nat}(h:MAt w tg m T B M σ):lc w tg:=by
 obtain⟨Λ,h1,h2⟩:=h;exact h1.tok
theorem MG.at(h:MG w tg Λ T T B M σ):MAt w tg Λ.m T B M σ:=⟨Λ,h,rfl⟩
theorem au.of{w1 w2 w3:World}{tg2:TG}{m ab:Nat}{th dn:Int}{x:An}{cs:Array Value}(hf:Fr [] w w1)(hg:GFr w1 tg w2 tg2)(hq:MAt w2 tg2 m T B M σ)(hb:Blk w ab 71 cs)(ha:(tg ab).1=0)
  (hf3:Fr [ab] w2 w3) (hb3:Blk w3 ab 71 (dK th dn ⟨0,x.word,x.bit⟩)):au w tg m T B M σ ab th dn x (.returned (.int .i64 x.code)) w3:=by
 have h2:(tg2 ab).1=0:=by rw[hg.up ab (Nat.lt_of_lt_of_le hb.lt hf.size)];exact ha
 have hfg:=(GFr.fr0 (tg:=tg) hf).trans hg;obtain⟨F,h4,h5⟩:=hfg.fr;refine⟨rfl,tg2,hq.fr hf3 (λz hz=>by simp at hz;rw[hz];exact h2),hb3,⟨ab::F,(h4.mono (λz hz=>.inl (by simp[hz]))).trans hf3 (λz hz=>.inl (by simp at hz;simp[hz])),λz hz=>?_⟩,hfg.up⟩;rcases C1.1 hz with h6|h6
 ·exact .inl h6
 ·exact .inr (h5 z h6)
theorem au.of0{w1 w2 w3:World}{tg2:TG}{m ab:Nat}{th dn:Int}{c:Int}(hf:Fr [] w w1)(hg:GFr w1 tg w2 tg2)(hq:MAt w2 tg2 m T B M σ)(hb:Blk w ab 71 (dK th dn ⟨0,0,false⟩))(ha:(tg ab).1=0)(hf3:Fr [] w2 w3) :
  au w tg m T B M σ ab th dn ⟨c,0,false⟩ (.returned (.int .i64 c)) w3:=
 au.of hf hg hq hb ha (hf3.mono (λx hx=>by cases hx)) ((hg.blk (hb.fr hf (by simp)) ha).fr hf3 (by simp))
def MSt(w:World)(tg:TG)(Λ:ML)(K T B M:Nat)(σ:GS)(v:Value)(e:Ending)(w':World):Prop:=e=.returned v/\∃tg',MG w' tg' Λ K T B M σ/\GFr w tg w' tg'
theorem gE(h:MG w tg Λ K T B M σ)(ok:GOk T B σ)(hd:fc T B M)(ht:t<K)(r:Int) :
  Calls Tryz.prog 103 #[.pointer (some ⟨Λ.S t,0,none⟩),.int .u64 r] w (MSt w tg Λ K T B M (σ.push B t r) (.int .i64 (ay B (σ.st t)))):=by
 obtain⟨G,k1,k2⟩:=h.stk t ht;refine(pF k1 (ok.len t) hd.b r).mono ?_;rintro e w' ⟨G',rfl,q1,q2,q3⟩;obtain⟨tg',r1,r2⟩:=h.stack ht k1 k2 q2 q1 q3;exact⟨rfl,tg',r1,r2⟩
theorem yy(h:MG w tg Λ K T B M σ)(ok:GOk T B σ)(hd:fc T B M)(ht:t<K) :
  Calls Tryz.prog 106 #[.pointer (some ⟨Λ.S t,0,none⟩)] w (MSt w tg Λ K T B M (nX σ t) (.tuple #[.int .u64 (fu (σ.st t)),.int .i64 (cG (σ.st t))])):=by
 obtain⟨G,k1,k2⟩:=h.stk t ht;refine(rf k1 (ok.len t) hd.b).mono ?_;rintro e w' ⟨G',rfl,q1,q2,q3⟩;obtain⟨tg',r1,r2⟩:=h.stack ht k1 k2 q2 q1 q3;exact⟨rfl,tg',r1,r2⟩
theorem fZ(h:MG w tg Λ K T B M σ)(ht:t<K)(i:Int) :
  Calls Tryz.prog 105 #[.pointer (some ⟨Λ.S t,0,none⟩),.int .i64 i] w λe w'=>e=.returned (.tuple #[.int .u64 (aj (σ.st t) i),.int .i64 (am (σ.st t) i)])/\w=w':=by
 obtain⟨G,k1,k2⟩:=h.stk t ht;exact uq k1 i
def obP(Λ:ML)(r:Int):Value:=if r=0 then .pointer none else match Λ.ov.ownBlock with
|some b=>.pointer (some ⟨b,(r-1).toNat*2,none⟩)
|none=>.pointer none
theorem nN(Λ:ML):obP Λ 0=.pointer none:=by simp[obP]
theorem MG.ob(h:MG w tg Λ K T B M σ){r:Int}(h1:1<=r)(h2:r<=(σ.N:Int)):∃(b c k:Nat),r=(k:Int)+1/\k<σ.N/\Λ.ov=.slice (some ⟨b,0,none⟩) σ.N c/\obP Λ r=.pointer (some ⟨b,k*2,none⟩)/\b<w.heap.size /\
  w.cell? ⟨b,k*2,none⟩=some (Λ.rv r)/\w.cell? ⟨b,k*2+1,none⟩=some (Λ.dv r):=by
 obtain⟨k,hk⟩:∃k:Nat,r-1=(k:Int):=Da (by omega);have hr:r=(k:Int)+1:=by omega
 obtain⟨b,c,e1,e2,_,e3⟩:=h.obj.pos (by omega);obtain⟨e4,e5⟩:=e3 k (by omega);rw[<- hr]at e4 e5;refine⟨b,c,k,hr,by omega,e1,?_,e2,e4,e5⟩;unfold obP;rw[if_neg (by omega),e1];show Value.pointer (some ⟨b,(r-1).toNat*2,none⟩)=_;rw[hk,Int.toNat_natCast]
theorem gX.sl{e:TypeId}{kd:Nat}{r:Int}{v:Value}{l:List Int}(h:gX w tg e kd r v l):∃A c,v=.slice A l.length c/\Sl w A l.length (λk=>.int .u64 (l.getD k 0)):=by
 obtain⟨A,c,G,h1,h2,h3⟩:=h;exact⟨A,c,h1,tG h2⟩
theorem f6(h:MG w tg Λ K T B M σ)(ok:GOk T B σ)(ht:t<K)(a:Int) :
  Calls Tryz.prog 104 #[.pointer (some ⟨Λ.m,0,none⟩),.pointer (some ⟨Λ.S t,0,none⟩),.int .i64 a] w λe w'=>e=.returned (.tuple #[obP Λ (aj (σ.st t) a),.int .i64 (aD σ t a)])/\w=w':=by
 have HA:=aa (fZ h ht a);unfold aD;by_cases hi:aG (σ.st t) a
 ·have e2:am (σ.st t) a=0:=by unfold am;rw[if_pos hi]
  rw[if_pos hi];rw[e2]at HA;by_cases e0:aj (σ.st t) a=0
  ·rw[if_pos e0];rw[e0]at HA ⊢;rw[nN];clear h hi e2 e0;go_enter Tryz.func104,Tryz.ntmps104
   go_wp2_with fail
   refine HA.out.mono ?_;rintro e w' ⟨rfl,rfl⟩;go_wp2_with fail
   go_ret2
   exact⟨rfl,rfl⟩
  ·rw[if_neg e0];have hat:=ok.at t a;obtain⟨b,c,k,q1,q2,q3,q4,q5,_,_⟩:=h.ob (r:=aj (σ.st t) a) (by omega) hat.2;have c1:=h.c1;rw[q3]at c1;rw[q4];have hc:=ok.cap;have hk1:(k:Int)<(σ.N:Int):=by omega
   have hne:((k:Int)+1==0)=false:=by simp;omega
   have hw1:IntKind.u64.wrap ((k:Int)+1-1)=(k:Int):=by
    rw[show(k:Int)+1-1=(k:Int)by omega];exact IntWalk.u64_in _ ⟨by omega,by omega⟩
   rw[q1]at HA;clear h hi e2 e0 q1 q3 q4 ok hat;generalize σ.N=n at *;go_enter Tryz.func104,Tryz.ntmps104
   go_wp2_with fail
   refine HA.out.mono ?_;rintro e w' ⟨rfl,rfl⟩;go_wp2_with fail
   go_ret2
   exact⟨rfl,rfl⟩
 ·have e1:aj (σ.st t) a=0:=by unfold aj;rw[if_neg hi]
  have e2:am (σ.st t) a=10:=by unfold am;rw[if_neg hi]
  rw[if_neg hi];rw[e1,e2]at HA;rw[e1,nN];clear h hi e1 e2;go_enter Tryz.func104,Tryz.ntmps104
  go_wp2_with fail
  refine HA.out.mono ?_;rintro e w' ⟨rfl,rfl⟩;go_wp2_with fail
  go_ret2
  exact⟨rfl,rfl⟩
theorem vL(h:MG w tg Λ K T B M σ)(ok:GOk T B σ)(hd:fc T B M)(ht:t<K) :
  Calls Tryz.prog 102 #[.pointer (some ⟨Λ.S t,0,none⟩)] w λe w'=>e=.returned (.bool (decide (¬ (σ.st t).length<B)))/\∃k,w'=w.drewN k:=by
 obtain⟨G,k1,k2⟩:=h.stk t ht;obtain⟨A,c,c1,c0,_⟩:=k1.sl;clear k1 k2 h;generalize (σ.st t).length=n at *;by_cases hn:n<B
 ·have h1:¬ ((n:Int)>=(B:Int)):=by omega
  have h2:((n:Int)>=(B:Int))↔False:=by simpa using h1
  rw[show decide (¬ n<B)=false by simpa using hn];go_enter Tryz.func102,Tryz.ntmps102
  go_wp2_with fail
  go_quiet (fail)
  go_wp2_with fail
  go_ret
  exact⟨bd (by simp <;> omega),_,rfl⟩
 ·have h1:(n:Int)>=(B:Int):=by omega
  rw[show decide (¬ n<B)=true by simpa using hn];go_enter Tryz.func102,Tryz.ntmps102
  go_wp2_with fail
  go_quiet (fail)
  go_wp2_with fail
  go_ret
  exact⟨bd (by simp <;> omega),_,rfl⟩
theorem vM(h:MG w tg Λ K T B M σ)(hd:fc T B M)(a b:Int)(ha:-9223372036854775808<=a/\a<=9223372036854775807)(hb:-9223372036854775808<=b/\b<=9223372036854775807) :
  Calls Tryz.prog 101 #[.pointer (some ⟨Λ.m,0,none⟩),.int .i64 a,.int .i64 b] w λe w'=>e=.returned (.bool (decide (¬ aE M a b)))/\w=w':=by
 have c0:=h.c0;have hm:=hd.m;clear h;rcases(show ¬ (a>=0)\/(a>=0/\¬ b>=0)\/(a>=0/\b>=0/\¬ a<=1048576)\/(a>=0/\b>=0/\a<=1048576/\¬ b<=1048576)\/(a>=0/\b>=0/\a<=1048576/\b<=1048576/\¬ (a+b>0))\/(a>=0/\b>=0/\a<=1048576/\b<=1048576/\a+b>0)by omega)with h1|⟨h1,h2⟩|⟨h1,h2,h3⟩|⟨h1,h2,h3,h4⟩|⟨h1,h2,h3,h4,h5⟩|⟨h1,h2,h3,h4,h5⟩
 ·rw[show decide (¬ aE M a b)=false by unfold aE;simp;omega];go_enter Tryz.func101,Tryz.ntmps101
  go_wp2
  go_ret
  exact⟨rfl,rfl⟩
 ·rw[show decide (¬ aE M a b)=false by unfold aE;simp;omega];go_enter Tryz.func101,Tryz.ntmps101
  go_wp2
  go_ret
  exact⟨rfl,rfl⟩
 ·rw[show decide (¬ aE M a b)=false by unfold aE;simp;omega];go_enter Tryz.func101,Tryz.ntmps101
  go_wp2
  go_ret
  exact⟨rfl,rfl⟩
 ·rw[show decide (¬ aE M a b)=false by unfold aE;simp;omega];go_enter Tryz.func101,Tryz.ntmps101
  go_wp2
  go_ret
  exact⟨rfl,rfl⟩
 ·rw[show decide (¬ aE M a b)=false by unfold aE;simp;omega];have hw:IntKind.i64.wrap (a+b)=a+b:=IntWalk.i64_in _ ⟨by omega,by omega⟩;go_enter Tryz.func101,Tryz.ntmps101
  go_wp2
  go_ret
  exact⟨rfl,rfl⟩
 ·have hw:IntKind.i64.wrap (a+b)=a+b:=IntWalk.i64_in _ ⟨by omega,by omega⟩;have hw1:IntKind.i64.wrap (1+a)=1+a:=IntWalk.i64_in _ ⟨by omega,by omega⟩;have hw2:IntKind.i64.wrap (1+a+b)=1+a+b:=IntWalk.i64_in _ ⟨by omega,by omega⟩;by_cases h6:1+a+b<=(M:Int)
  ·rw[show decide (¬ aE M a b)=true by unfold aE;simp;omega];go_enter Tryz.func101,Tryz.ntmps101
   go_wp2
   go_ret
   exact⟨rfl,rfl⟩
  ·rw[show decide (¬ aE M a b)=false by unfold aE;simp;omega];go_enter Tryz.func101,Tryz.ntmps101
   go_wp2
   go_ret
   exact⟨rfl,rfl⟩
end
section
variable {w w':World}{tg tg':TG}{F:List Nat}{Λ:ML}{T B M:Nat}{σ:GS}{t:Nat}
theorem Ae(h:MG w tg Λ T T B M σ)(ok:GOk T B σ)(hd:fc T B M)(ht:t<T)(a b c v:Int){ab:Nat}{th dn:Int}(hab:Blk w ab 71 (dK th dn ⟨0,0,false⟩))(htg:(tg ab).1=0) :
  Calls Tryz.prog 53 #[.pointer (some ⟨Λ.m,0,none⟩),.pointer (some ⟨Λ.S t,0,none⟩),opV ⟨2,a,b,c,v⟩,.pointer (some ⟨ab,0,none⟩)] w (au w tg Λ.m T B M (dN B σ t a b) ab th dn ⟨fN B σ t a b,0,false⟩):=by
 have hf1:Fr [] w (w.alloc (.cells #[.int .i64 2,.int .i64 a,.int .i64 b,.int .i64 c,.int .u64 v] 69)):=(Fr.refl _ _).alloc _;obtain⟨w1,hw1⟩:∃w1,w1=w.alloc (.cells #[.int .i64 2,.int .i64 a,.int .i64 b,.int .i64 c,.int .u64 v] 69):=⟨_,rfl⟩;have hbo:Blk w1 w.heap.size 69 #[.int .i64 2,.int .i64 a,.int .i64 b,.int .i64 c,.int .u64 v]:=by rw[hw1];exact Blk.new _ _ _
 rw[<- hw1]at hf1;have hp1:=h.fr0 hf1;have HW1:=aa hw1;have HF1:=aa hf1;have HAB:=aa hab;have HTG:=aa htg;have HM:=aa hp1.at;have e0:w1.cell? ⟨w.heap.size,0,none⟩=some (.int .i64 2):=by rw[hbo.cell];rfl
 have e1:w1.cell? ⟨w.heap.size,1,none⟩=some (.int .i64 a):=by rw[hbo.cell];rfl
 have e2:w1.cell? ⟨w.heap.size,2,none⟩=some (.int .i64 b):=by rw[hbo.cell];rfl
 have e3:w1.cell? ⟨w.heap.size,3,none⟩=some (.int .i64 c):=by rw[hbo.cell];rfl
 have e4:w1.cell? ⟨w.heap.size,4,none⟩=some (.int .u64 v):=by rw[hbo.cell];rfl
 have NO:w.heap.size<w1.heap.size:=af e0;unfold opV;clear hw1 hf1 hab htg h hbo;have HA:=aa (f6 hp1 ok ht a);unfold fN dN;by_cases h0:aD σ t a=0
 ·have hat:=ok.at t a;have hne:=(ga.1 h0).2;obtain⟨o,oc,k,q1,q2,q3,q4,q5,cr,cd⟩:=hp1.ob (r:=aj (σ.st t) a) (by omega) hat.2;obtain⟨A,rc,hv,hs⟩:=(hp1.refs _ (by omega) hat.2).sl;rw[hv]at cr;rw[jw]at hs cr;have hnp:=ok.np (aj (σ.st t) a);rw[h0,q4]at HA;rw[if_neg (show ¬ (aD σ t a≠0) from λhx=>hx h0)];rcases dF (σ.np (aj (σ.st t) a)) b with⟨k1,k2⟩|⟨k1,k3,k2⟩|⟨k1,k3,k2⟩
  ·rw[if_neg k2,if_neg (λhx=>k2 hx.2)];generalize σ.np (aj (σ.st t) a)=n at *;clear hp1 hs k2 h0 hat hne q1 q2 q3 q4 hv cd ok hd ht;go_enter Tryz.func53,Tryz.ntmps53
   go_upto_region 1 with fail
   rw[<- HW1.out];go_wp2_with fail
   refine HA.out.mono ?_;rintro e w' ⟨rfl,rfl⟩;go_wp2_with fail
   go_quiet (fail)
   go_wp2_with fail
   go_ret
   exact au.of0 HF1.out (GFr.refl _ _) HM.out HAB.out HTG.out ((Fr.refl _ _).drewN _)
  ·rw[if_neg k2,if_neg (λhx=>k2 hx.2)];have k0:¬ b<0:=by omega
   generalize σ.np (aj (σ.st t) a)=n at *;clear hp1 hs k2 h0 hat hne q1 q2 q3 q4 hv cd ok hd ht;go_enter Tryz.func53,Tryz.ntmps53
   go_upto_region 1 with fail
   rw[<- HW1.out];go_wp2_with fail
   refine HA.out.mono ?_;rintro e w' ⟨rfl,rfl⟩;go_wp2_with fail
   go_quiet (fail)
   go_wp2_with fail
   go_ret
   exact au.of0 HF1.out (GFr.refl _ _) HM.out HAB.out HTG.out ((Fr.refl _ _).drewN _)
  ·rw[if_pos k2,if_pos ⟨h0,k2⟩];obtain⟨j,rfl⟩:=Da k1;obtain⟨g,off,rfl,hg,hcs⟩:=hs (by omega);have cj:w1.cell? ⟨g,off+j,none⟩=some (.int .u64 (σ.ref (aj (σ.st t) a) (j:Int))):=by
    have:=hcs j (by omega);dsimp only at this;rwa[wX σ _ (by omega)]at this
   have HP:Hid (∀w',Fr [] w1 w'->Calls Tryz.prog 103 #[.pointer (some ⟨Λ.S t,0,none⟩),.int .u64 (σ.ref (aj (σ.st t) a) (j:Int))] w' (MSt w' tg Λ T T B M (σ.push B t (σ.ref (aj (σ.st t) a) (j:Int))) (.int .i64 (ay B (σ.st t))))):=λw' hf=>gE (hp1.fr0 hf) ok hd (by assumption) _;have k0:¬ (j:Int)<0:=by omega
   have hgs:=hg;generalize σ.push B t _=σ' at *;generalize σ.ref (aj (σ.st t) a) (j:Int)=y at *;generalize σ.np (aj (σ.st t) a)=n at *;generalize ay B (σ.st t)=E at *;clear hp1 hs hcs k2 h0 hat hne q1 q2 q3 q4 hv cd ok hd ht HM;go_enter Tryz.func53,Tryz.ntmps53
   go_upto_region 1 with fail
   rw[<- HW1.out];go_wp2_with fail
   refine HA.out.mono ?_;rintro e w' ⟨rfl,rfl⟩;go_wp2_with fail
   go_quiet (fail)
   go_wp2_with fail
   refine bF 9 (by kernel_rfl) (by kernel_rfl) ?_;simp only[List.take_succ_cons,List.take_zero,List.drop_succ_cons,List.drop_zero]
   repeat still_step
   refine wpStill_nil ?_;go_wp2_with fail
   refine(HP.out _ (((Fr.refl _ _).drewN _).drew)).mono ?_;rintro e w2 ⟨rfl,tg2,hp2,hg2⟩;have HP2:=aa hp2.at;have HG2:=aa hg2;clear hp2 hg2;go_wp2_with fail
   go_ret
   exact au.of0 HF1.out ((GFr.fr0 (((Fr.refl _ _).drewN _).drew)).trans HG2.out) HP2.out HAB.out HTG.out (Fr.refl _ _)
 ·rw[if_pos h0,if_neg (λhx=>h0 hx.1)];rw[jI h0,nN]at HA;have hne:(aD σ t a !=0)=true:=by simpa using h0
  generalize aD σ t a=E at *;clear hp1 h0 ok hd ht;go_enter Tryz.func53,Tryz.ntmps53
  go_upto_region 1 with fail
  rw[<- HW1.out];go_wp2_with fail
  refine HA.out.mono ?_;rintro e w' ⟨rfl,rfl⟩;go_wp2_with fail
  go_ret
  exact au.of0 HF1.out (GFr.refl _ _) HM.out HAB.out HTG.out (Fr.refl _ _)
end
end Go.Proofs.YtimlkjppaalfaaaGreatDoor
