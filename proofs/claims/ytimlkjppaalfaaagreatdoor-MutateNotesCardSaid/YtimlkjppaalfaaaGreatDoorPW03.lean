/- Several texts joined (pack.py): Mp Ga A1. -/
import Derived.Test.YtimlkjppaalfaaaGreatDoorPW00
import Derived.Maps.RangeWalk
import Derived.Test.YtimlkjppaalfaaaGreatDoorPW02
import Derived.WalkKit
import Derived.Test.YtimlkjppaalfaaaGreatDoorProg
import Derived.BigQuiet
set_option linter.unusedVariables false
set_option maxRecDepth 100000
open List renaming mem_append->C9
open Int renaming eq_ofNat_of_zero_le->Da,toNat_natCast->Db
open Nat renaming lt_or_ge->Dg
namespace Go.Gl
open Go.RowKit Go.ChangeMaps Go.MapKept
open Go.Maps (Keyed)
structure CK(P:Program)(k:TypeId)(es:Array MapEntry)(clock:Nat)(f:Value->Option Value):Prop where
 st:Stamped es clock
 key:∀e∈es.toList,∃l,keyOf P k e.key=some l
 val:∀e∈es.toList,f e.key=some e.val
 ofF:∀x v,f x=some v->∃e∈es.toList,e.key=x/\e.val=v
def Mp(P:Program)(k:TypeId)(w:World)(b:Nat)(f:Value->Option Value):Prop:=∃es clock,w.heap[b]?=some (.map es clock)/\CK P k es clock f
def CX(w w':World)(b:Nat)(key:Value):Prop:=∀es clock,w.heap[b]?=some (.map es clock)->∃es',w'.heap[b]?=some (.map es' clock)/\es'.toList.Sublist es.toList/\∀x,x∈es'.toList↔x∈es.toList/\x.key≠key
open Classical in
noncomputable def upF (f:Value->Option Value) (key v:Value):Value->Option Value:=λx=>if x=key then some v else f x
theorem ig(f:Value->Option Value)(key v:Value):upF f key v key=some v:=by simp[upF]
theorem ii(f:Value->Option Value){key x:Value}(v:Value)(h:x≠key):upF f key v x=f x:=by simp[upF,h]
theorem ki(w:World)(b:Nat)(o:Obj):Fr [b] w (setBlock w b o):=
 ⟨rfl,rfl,rfl,by simp[setBlock],λi _ hi=>by
  have:i≠b:=by simpa using hi
  simp only[setBlock,Array.getElem?_setIfInBounds];rw[if_neg (Ne.symm this)]⟩
section
variable {P:Program}{k:TypeId}{w w':World}{b:Nat}{f g:Value->Option Value}{F:List Nat}
theorem Mp.lt(h:Mp P k w b f):b<w.heap.size:=by
 obtain⟨es,clock,hb,_⟩:=h;exact(Array.getElem?_eq_some_iff.1 hb).1
theorem Mp.fr(h:Mp P k w b f)(hf:Fr F w w')(hb:b∉F):Mp P k w' b f:=by
 have hl:=h.lt;obtain⟨es,clock,hb',E⟩:=h;exact⟨es,clock,(hf.block b hl hb).trans hb',E⟩
theorem Mp.fr0(h:Mp P k w b f)(hf:Fr [] w w'):Mp P k w' b f:=h.fr hf (by simp)
theorem Mp.df{c:Nat}{t:TypeId}{cs:Array Value}(h:Mp P k w b f)(hc:Blk w c t cs):b≠c:=by
 rintro rfl;obtain⟨es,clock,hb,_⟩:=h;unfold Blk at hc;rw[hb]at hc;cases hc
theorem Mp.made(w:World):Mp P k (w.alloc (.map #[] 0)) w.heap.size (λ_=>none):=
 ⟨#[],0,heap_alloc_new w _,stamped_empty 0,by simp,by simp,by simp⟩
theorem Mp.look{t e:TypeId}{z key:Value}{kl:Lit}(h:Mp P k w b f)(K:Keyed P k)(ht:P.underlying t=some (.map k e))(hz:(zeroValue e).run P w=.ok z w)(hkey:keyOf P k key=some kl) :
  (Instr.lookup t (.map (some b)) key false).run P w=.ok ((f key).getD z) w:=by
 obtain⟨es,clock,hb,E⟩:=h;rcases K.find w hkey es.toList E.key with⟨h1,h2⟩|⟨j,e0,h1,h2,h3⟩
 ·have:f key=none:=by
   cases hf:f key with
  |none=>rfl
  |some v=>obtain⟨x,hx,h5,_⟩:=E.ofF key v hf;exact absurd h5 (h2 x hx)
  simp[Instr.lookup,run_underlying ht,MapKept.run_getObj_map hb,K.check w _ hkey,h1,hz,Result.andThen,this]
 ·have:f key=some e0.val:=h3 ▸ E.val e0 (List.mem_of_getElem? h2);simp[Instr.lookup,run_underlying ht,MapKept.run_getObj_map hb,K.check w _ hkey,h1,Result.andThen,this]
theorem ri{es:Array MapEntry}{clock:Nat}(h:Stamped es clock){j i:Nat}{e0 x:MapEntry}(h0:es.toList[j]?=some e0)(hx:es.toList[i]?=some x)(hne:i≠j):x.key≠e0.key:=by
 have hp:=((stamped_iff es clock).1 h).2.2;rw[List.pairwise_iff_getElem]at hp;obtain⟨hj,rfl⟩:=List.getElem?_eq_some_iff.1 h0;obtain⟨hi,rfl⟩:=List.getElem?_eq_some_iff.1 hx;rcases Nat.lt_or_gt_of_ne hne with h1|h1
 ·exact hp i j hi hj h1
 ·exact(hp j i hj hi h1).symm
theorem Mp.update{t e:TypeId}{key val:Value}{kl:Lit}(h:Mp P k w b f)(K:Keyed P k)(ht:P.underlying t=some (.map k e))(hkey:keyOf P k key=some kl) :
  ∃w',(Instr.mapUpdate t (.map (some b)) key val).run P w=.ok () w'/\Mp P k w' b (upF f key val)/\Fr [b] w w':=by
 obtain⟨es,clock,hb,E⟩:=h;rcases K.find w hkey es.toList E.key with⟨h1,h2⟩|⟨j,e0,h1,h2,h3⟩
 ·refine⟨setBlock w b (.map (es.push ⟨key,val,clock⟩) (clock+1)),?_,⟨_,_,heap_setBlock_same hb _,stamped_push E.st h2,?_,?_,?_⟩,ki _ _ _⟩
  ·simp[Instr.mapUpdate,run_underlying ht,MapKept.run_getObj_map hb,K.check w false hkey,h1,MapKept.run_setObj_map _ hb,Result.andThen,setBlock]
  ·intro x hx;simp only[Array.toList_push,C9,List.mem_singleton]at hx;rcases hx with hx|rfl
   ·exact E.key x hx
   ·exact⟨_,hkey⟩
  ·intro x hx;simp only[Array.toList_push,C9,List.mem_singleton]at hx;rcases hx with hx|rfl
   ·rw[ii _ _ (h2 x hx)];exact E.val x hx
   ·exact ig _ _ _
  ·intro x v hx;by_cases e:x=key
   ·subst e;rw[ig]at hx;cases hx;exact⟨⟨x,val,clock⟩,by simp,rfl,rfl⟩
   ·rw[ii _ _ e]at hx;obtain⟨y,hy,h5,h6⟩:=E.ofF x v hx;exact⟨y,by simp at hy ⊢;exact .inl hy,h5,h6⟩
 ·have hj:es[j]?=some e0:=by simpa using h2
  have hlist:(es.modify j (λe'=>{ e' with key:=key,val:=val })).toList=es.toList.set j { e0 with key:=key,val:=val }:=by rw[Array.toList_modify,modify_eq_set _ _ _ _ h2]
  have hjl:j<es.toList.length:=(List.getElem?_eq_some_iff.1 h2).1;have who:∀x∈es.toList.set j { e0 with key:=key,val:=val },x={ e0 with key:=key,val:=val }\/(x∈es.toList/\x.key≠key):=by
   intro x hx;obtain⟨i,hi,ex⟩:=List.getElem_of_mem hx;rw[List.getElem_set]at ex;split at ex
   ·exact .inl ex.symm
   ·rename_i hne
    have hi':i<es.toList.length:=by simpa using hi
    refine .inr ⟨ex ▸ List.getElem_mem hi',?_⟩;rw[<- h3];exact ri E.st h2 (by rw[List.getElem?_eq_getElem hi',ex]) (λe1=>hne e1.symm)
  refine⟨setBlock w b (.map (es.modify j (λe'=>{ e' with key:=key,val:=val })) clock),?_,⟨_,_,heap_setBlock_same hb _,stamped_modify E.st _ _ (λ_ _=>rfl) (λe' _ he'=>by rw[hj]at he';cases he';exact h3.symm),?_,?_,?_⟩,ki _ _ _⟩
  ·simp[Instr.mapUpdate,run_underlying ht,MapKept.run_getObj_map hb,K.check w false hkey,h1,hj,h3,K.stays w hkey,MapKept.run_setObj_map _ hb,Result.andThen,setBlock]
  ·intro x hx;rw[hlist]at hx;rcases who x hx with rfl|⟨hx',_⟩
   ·exact⟨_,hkey⟩
   ·exact E.key x hx'
  ·intro x hx;rw[hlist]at hx;rcases who x hx with rfl|⟨hx',hne⟩
   ·exact ig _ _ _
   ·rw[ii _ _ hne];exact E.val x hx'
  ·intro x v hx;rw[hlist];by_cases e:x=key
   ·subst e;rw[ig]at hx;cases hx;exact⟨{ e0 with key:=x,val:=val },List.mem_iff_getElem.2 ⟨j,by simpa using hjl,by simp⟩,rfl,rfl⟩
   ·rw[ii _ _ e]at hx;obtain⟨y,hy,h5,h6⟩:=E.ofF x v hx;obtain⟨i,hi⟩:=List.getElem?_of_mem hy;have hne:j≠i:=by
     rintro rfl;rw[h2]at hi;cases hi;exact e (h5.symm.trans h3)
    exact⟨y,List.mem_of_getElem? (by rw[List.getElem?_set_ne hne];exact hi),h5,h6⟩
variable {r cnt:Nat}{left:Value->Prop}
end
open Go.RowKit
def dO(f g:Nat->Value)(n:Nat):List Value:=(List.range n).flatMap λi=>[f i,g i]
theorem fw(f g:Nat->Value)(n:Nat):dO f g (n+1)=dO f g n++[f n,g n]:=by
 unfold dO;rw[List.range_succ,List.flatMap_append];simp
theorem gu(f g:Nat->Value):∀n,(dO f g n).length=n*2
|0=>rfl
|n+1=>by rw[fw,List.length_append,gu f g n];simp;omega
theorem jx(f g:Nat->Value):∀ {n i:Nat},i<n->(dO f g n)[i*2]?=some (f i)/\(dO f g n)[i*2+1]?=some (g i)
|n+1,i,h=>by
  rw[fw];have hl:=gu f g n;rcases Dg i n with h1|h1
  ·obtain⟨a,b⟩:=jx f g h1;exact⟨by rw[List.getElem?_append_left (by omega)];exact a,by rw[List.getElem?_append_left (by omega)];exact b⟩
  ·obtain rfl:i=n:=by omega
   refine⟨?_,?_⟩
   ·rw[List.getElem?_append_right (by omega),hl,Nat.sub_self];rfl
   ·rw[List.getElem?_append_right (by omega),hl,show i*2+1-i*2=1 by omega];rfl
theorem kj{f g f' g':Nat->Value}:∀ {n:Nat},(∀i,i<n->f i=f' i/\g i=g' i)->dO f g n=dO f' g' n
|0,_=>rfl
|n+1,h=>by
  rw[fw,fw,kj (λi hi=>h i (by omega)),(h n (by omega)).1,(h n (by omega)).2]
def R2(w:World)(e:TypeId)(v:Value)(n:Nat)(f g:Nat->Value):Prop:=w.ownsRow 0 e 2 v n (dO f g n)
section
variable {w w':World}{e:TypeId}{v:Value}{n:Nat}{f g:Nat->Value}{F:List Nat}
theorem R2.nil(w:World)(e:TypeId)(f g:Nat->Value):R2 w e (.slice none 0 0) 0 f g:=World.ownsRow_nil _ _ _ _
theorem R2.fr(h:R2 w e v n f g)(hf:Fr F w w')(hg:∀b,v.ownBlock=some b->b∉F):R2 w' e v n f g:=dS h hf hg
theorem R2.lt(h:R2 w e v n f g){b:Nat}(hb:v.ownBlock=some b):b<w.heap.size:=by
 rcases h.2 with⟨rfl,_⟩|⟨g',cap,cur,rfl,_,hh,_⟩
 ·cases hb
 ·injection hb with hb;exact hb ▸ Blk.lt (t:=e) hh
theorem R2.form(h:R2 w e v n f g):∃A c,v=.slice A n c/\n<=maxLen:=by
 rcases h.2 with⟨h1,h2⟩|⟨b,cap,cur,h1,_,_,h3,h4,_⟩
 ·exact⟨none,0,by rw[h1,h2],by rw[h2];exact Nat.zero_le _⟩
 ·exact⟨_,_,h1,Nat.le_trans h3 h4⟩
theorem R2.pos(h:R2 w e v n f g)(hn:0<n):∃b c,v=.slice (some ⟨b,0,none⟩) n c/\b<w.heap.size/\(∀k,w.frozen? ⟨b,k,none⟩=false) /\
  ∀i,i<n->w.cell? ⟨b,i*2,none⟩=some (f i)/\w.cell? ⟨b,i*2+1,none⟩=some (g i):=by
 rcases h.2 with⟨h1,h2⟩|⟨b,cap,cur,h1,_,hb,h3,h4,h5,h6⟩
 ·exact absurd h2 (by omega)
 ·have hb:Blk w b e cur:=hb;refine⟨b,cap,h1,hb.lt,λk=>hb.frozen k,λi hi=>?_⟩;have key:∀j,j<n*2->cur[j]?=(dO f g n)[j]?:=λj hj=>by
   rw[<- h6,List.getElem?_take_of_lt hj,Array.getElem?_toList]
  rw[hb.cell,hb.cell,key _ (by omega),key _ (by omega)];exact jx f g hi
end
abbrev TG:=Nat->Nat×Int
def lc(w:World)(tg:TG):Prop:=∀b,(tg b).1≠0->b<w.heap.size
def dP(w:World)(tg tg':TG):Prop:=∀b,b<w.heap.size->tg' b=tg b
theorem dP.refl(w:World)(tg:TG):dP w tg tg:=λ_ _=>rfl
structure GFr(w:World)(tg:TG)(w':World)(tg':TG):Prop where
 fr:∃F,Fr F w w'/\∀x,x∈F->(tg x).1≠0
 up:dP w tg tg'
section
variable {w w' w'':World}{tg tg' tg'':TG}{F:List Nat}
theorem GFr.refl(w:World)(tg:TG):GFr w tg w tg:=⟨⟨[],Fr.refl _ _,λ_ h=>by cases h⟩,dP.refl _ _⟩
theorem GFr.of(hf:Fr F w w')(hF:∀x,x∈F->(tg x).1≠0):GFr w tg w' tg:=⟨⟨F,hf,hF⟩,dP.refl _ _⟩
theorem GFr.fr0(hf:Fr [] w w'):GFr w tg w' tg:=GFr.of hf (λ_ h=>by cases h)
theorem GFr.trans(h:GFr w tg w' tg')(k:GFr w' tg' w'' tg''):GFr w tg w'' tg'':=by
 obtain⟨F,h1,h2⟩:=h.fr;obtain⟨G,k1,k2⟩:=k.fr;have hs:=h1.size;refine⟨⟨F++G.filter (λx=>decide (x<w.heap.size)),(h1.mono (λx hx=>.inl (by simp[hx]))).trans k1 (λx hx=>?_),λx hx=>?_⟩,λb hb=>(k.up b (by omega)).trans (h.up b hb)⟩
 ·rcases Dg x w.heap.size with h3|h3
  ·exact .inl (by simp[hx,h3])
  ·exact .inr h3
 ·rcases C9.1 hx with h3|h3
  ·exact h2 x h3
  ·rw[List.mem_filter]at h3;have h4:x<w.heap.size:=by simpa using h3.2
   rw[<- h.up x h4];exact k2 x h3.1
theorem GFr.Ba(h:GFr w tg w' tg')(k:Fr [] w' w''):GFr w tg w'' tg':=h.trans (GFr.fr0 k)
theorem GFr.blk(h:GFr w tg w' tg'){g:Nat}{t:TypeId}{cs:Array Value}(hb:Blk w g t cs)(hg:(tg g).1=0):Blk w' g t cs:=by
 obtain⟨F,h1,h2⟩:=h.fr;exact hb.fr h1 (λhx=>h2 g hx hg)
theorem GFr.inside{W:World}(h:Fr [] W w)(ht:∀b,(tg b).1≠0->W.heap.size<=b)(k:GFr w tg w' tg'):Fr [] W w':=by
 obtain⟨F,h1,h2⟩:=k.fr;exact h.trans h1 (λx hx=>.inr (ht x (h2 x hx)))
theorem GFr.new{W:World}(hw:Fr [] W w)(ht:∀b,(tg b).1≠0->W.heap.size<=b)(k:GFr w tg w' tg'):∀b,(tg' b).1≠0->W.heap.size<=b:=λb hb=>by
 rcases Dg b w.heap.size with h1|h1
 ·rw[k.up b h1]at hb;exact ht b hb
 ·exact Nat.le_trans hw.size h1
end
end Go.Gl
namespace Go.Proofs.YtimlkjppaalfaaaGreatDoor
open Go.RowKit Go.Gl
open Go.Maps (Keyed)
theorem Tryz.tI:Keyed Tryz.prog 3:=Maps.int_keyed Tryz.underlying3
theorem Tryz.wY:Keyed Tryz.prog 154:=Maps.int_keyed Tryz.underlying154
theorem tJ(a:Int)(wa:(Lit.int .i64 a).wf=true):keyOf Tryz.prog 3 (.int .i64 a)=some (.int .i64 a):=Maps.keyOf_int_mk Tryz.underlying3 wa
theorem wZ(a:Int)(wa:(Lit.int .u64 a).wf=true):keyOf Tryz.prog 154 (.int .u64 a)=some (.int .u64 a):=Maps.keyOf_int_mk Tryz.underlying154 wa
theorem fi{n:Int}(h:-9223372036854775808<=n/\n<=9223372036854775807):(Lit.int .i64 n).wf=true:=by
 simpa[Lit.wf,IntKind.min,IntKind.max,IntKind.signed,IntKind.bits] using h
theorem mJ{n:Int}(h:0<=n/\n<18446744073709551616):(Lit.int .u64 n).wf=true:=by
 have:0<=n/\n<=18446744073709551615:=by omega
 simpa[Lit.wf,IntKind.min,IntKind.max,IntKind.signed,IntKind.bits] using this
theorem fT{tg:TG}{F:List Nat}{k:Nat}{i:Int}(hF:∀x,x∈F->(tg x).1≠k):∀x,x∈F->tg x≠(k,i):=λx hx e=>hF x hx (by rw[e])
theorem zf{w w':World}{tg:TG}{F:List Nat}(h:lc w tg)(hf:Fr F w w'):lc w' tg:=λb hb=>Nat.lt_of_lt_of_le (h b hb) hf.size
structure Ar(w:World)(ab aw n:Nat)(f:Nat->Nat)(c:Int):Prop where
 set:Blk w ab 173 #[.slice (some ⟨aw,0,none⟩) n n,.int .i64 c]
 row:Blk w aw 67 (gW n f)
 max:n<=4194304
 ok:∀k,f k<18446744073709551616
section
variable {w w':World}{ab aw n:Nat}{f:Nat->Nat}{c:Int}{F:List Nat}
theorem Ar.fr(h:Ar w ab aw n f c)(hf:Fr F w w')(h1:ab∉F)(h2:aw∉F):Ar w' ab aw n f c:=⟨h.set.fr hf h1,h.row.fr hf h2,h.max,h.ok⟩
theorem Ar.drewN(h:Ar w ab aw n f c)(k:Nat):Ar (w.drewN k) ab aw n f c:=⟨h.set,h.row,h.max,h.ok⟩
theorem Ar.c0(h:Ar w ab aw n f c):w.cell? ⟨ab,0,none⟩=some (.slice (some ⟨aw,0,none⟩) n n):=by rw[h.set.cell];rfl
theorem Ar.c1(h:Ar w ab aw n f c):w.cell? ⟨ab,1,none⟩=some (.int .i64 c):=by rw[h.set.cell];rfl
theorem Ar.cw(h:Ar w ab aw n f c){k:Nat}(hk:k<n):w.cell? ⟨aw,k,none⟩=some (.int .u64 (f k:Int)):=by rw[h.row.cell,jo hk]
theorem Ar.ne(h:Ar w ab aw n f c):ab≠aw:=h.set.apart h.row (by decide)
theorem Ar.iB(h:Ar w ab aw n f c)(c':Int):Ar (w.setCell ⟨ab,1,none⟩ (.int .i64 c')) ab aw n f c':=
 ⟨h.set.put 1 (.int .i64 c'),h.row.far (p:=⟨ab,1,none⟩) h.ne.symm _,h.max,h.ok⟩
theorem Ar.stored(h:Ar w ab aw n f c)(k:Nat){x:Nat}(hx:x<18446744073709551616):Ar (w.setCell ⟨aw,k,none⟩ (.int .u64 (x:Int))) ab aw n (upd f k x) c:=by
 refine⟨h.set.far (p:=⟨aw,k,none⟩) h.ne _,?_,h.max,λj=>?_⟩
 ·have:=h.row.put k (.int .u64 (x:Int));rw[vZ]at this;exact this
 ·unfold upd;split
  ·exact hx
  ·exact h.ok j
end
theorem Tryz.ur:(Tryz.prog.info? 67).map (λi=>(i.zero,i.size,i.bytes))=some (some (.int .u64 0),1,8):=by kernel_rfl
def mK(w:World)(n:Nat)(e:Ending)(w':World):Prop:=
 ∃ab aw,e=.returned (.tuple #[.pointer (some ⟨ab,0,none⟩),.int .i64 0])/\Ar w' ab aw n (λ_=>0) 0/\Fr [] w w'/\w.heap.size<=ab/\w.heap.size<=aw
theorem xc(n:Nat)(h:n<=4194304)(w:World):Calls Tryz.prog 37 #[.int .i64 (n:Int)] w (mK w n):=by
 obtain⟨i0,hi,hz0,hz1,hz2⟩:=info_parts Tryz.ur;go_enter Tryz.func37,Tryz.ntmps37
 go_wp2_with (at_make;refine wpList_make_full _ rfl _ _ 167 rfl w.heap.size 67 i0 (.int .u64 0) 1 Tryz.underlying167 hi hz0 hz1 _ _ _ _ n rfl rfl rfl rfl (by rw[hz2];omega) (by unfold maxLen;omega) (Nat.le_refl _) ?_;intro w1 hown hgr;have HO:=aa hown;have HG:=aa hgr;clear hown hgr)
 go_ret2
 have hown:=HO.out;rw[Nat.mul_one,cU _ rfl]at hown;have hb:=gh hown;refine⟨w1.heap.size,w.heap.size,rfl,⟨Blk.new _ _ _,?_,h,λ_=>by decide⟩,((Fr.refl _ _).grown HG.out (λ_ hk=>by cases hk)).alloc _,HG.out.size,Nat.le_refl _⟩;have:gW n (λ_=>0)=(List.replicate n (Value.int .u64 0)).toArray:=by
  unfold gW
  congr 1
  apply List.ext_getElem <;> simp
 rw[this];exact hb.alloc _
theorem ld{w:World}{ab aw n:Nat}{f:Nat->Nat}{c:Int}(h:Ar w ab aw n f c):Calls Tryz.prog 115 #[.pointer (some ⟨ab,0,none⟩)] w λe w'=>e=.returned (.int .i64 (n:Int))/\w=w':=by
 have h0:=h.c0;clear h;go_enter Tryz.func115,Tryz.ntmps115
 go_wp2
 go_ret
 exact⟨rfl,rfl⟩
theorem lf{w:World}{ab aw n:Nat}{f:Nat->Nat}{c:Int}(h:Ar w ab aw n f c){i:Int}(hi:¬ (0<=i/\i<(n:Int))) :
  Calls Tryz.prog 134 #[.pointer (some ⟨ab,0,none⟩),.int .i64 i] w λe w'=>e=.returned (.tuple #[.pointer none,.int .i64 2])/\w=w':=by
 have h0:=h.c0;clear h;by_cases c1:i<0
 ·clear hi;go_enter Tryz.func134,Tryz.ntmps134
  go_wp2
  go_ret2
  exact⟨rfl,rfl⟩
 ·have c2:(n:Int)<=i:=by omega
  clear hi;go_enter Tryz.func134,Tryz.ntmps134
  go_wp2
  go_ret2
  exact⟨rfl,rfl⟩
theorem mL{w:World}{ab aw n:Nat}{f:Nat->Nat}{c:Int}(h:Ar w ab aw n f c){k:Nat}(hk:k<n) :
  Calls Tryz.prog 134 #[.pointer (some ⟨ab,0,none⟩),.int .i64 (k:Int)] w λe w'=>
   e=.returned (.tuple #[.pointer (some ⟨aw,k,none⟩),.int .i64 0])/\w'=w.setCell ⟨ab,1,none⟩ (.int .i64 (wrap64 (c+1))):=by
 have h0:=h.c0;have h1:=h.c1;have hz:=h.set.frozen 1;have h0':=(h.iB (wrap64 (c+1))).c0;have c1:(k:Int)<(n:Int):=by omega
 clear h;go_enter Tryz.func134,Tryz.ntmps134
 go_wp2
 go_ret2
 exact⟨rfl,rfl⟩
def Bb(n:Nat)(f:Nat->Nat)(c:Int)(i:Int)(v:Nat)(er c':Int):Prop:=
 (0<=i/\i<(n:Int)/\v=f i.toNat/\er=0/\c'=wrap64 (c+1))\/(¬ (0<=i/\i<(n:Int))/\v=0/\er=2/\c'=c)
def xd(w:World)(ab aw n:Nat)(f:Nat->Nat)(c i:Int)(e:Ending)(w':World):Prop:=
 ∃(v:Nat) (er c':Int),e=.returned (.tuple #[.int .u64 (v:Int),.int .i64 er])/\Ar w' ab aw n f c'/\Fr [ab] w w'/\Bb n f c i v er c'
theorem pG{w:World}{ab aw n:Nat}{f:Nat->Nat}{c:Int}(h:Ar w ab aw n f c)(i:Int) :
  Calls Tryz.prog 87 #[.pointer (some ⟨ab,0,none⟩),.int .i64 i] w (xd w ab aw n f c i):=by
 by_cases hi:0<=i/\i<(n:Int)
 ·obtain⟨hi0,hi1⟩:=hi;obtain⟨k,rfl⟩:=Da hi0;have hk:k<n:=by omega
  have HA:=aa (mL h hk);have HC:=aa (h.iB (wrap64 (c+1)));have hw:=(h.iB (wrap64 (c+1))).cw hk;clear h;go_enter Tryz.func87,Tryz.ntmps87
  go_wp2_with (go_at_call 134;refine HA.out.mono ?_;rintro e w' ⟨rfl,rfl⟩)
  go_ret2
  exact⟨f k,0,_,rfl,HC.out,(Fr.refl _ _).setCell (p:=⟨ab,1,none⟩) (.inl (by simp)) _,.inl ⟨hi0,hi1,by rw[Db],rfl,rfl⟩⟩
 ·have HA:=aa (lf h hi);have HI:=aa hi;have H:=aa h;clear h hi;go_enter Tryz.func87,Tryz.ntmps87
  go_wp2_with (go_at_call 134;refine HA.out.mono ?_;rintro e w' ⟨rfl,rfl⟩)
  go_ret2
  exact⟨0,2,c,rfl,H.out,Fr.refl _ _,.inr ⟨HI.out,rfl,rfl,rfl⟩⟩
def Bc(n:Nat)(f:Nat->Nat)(c:Int)(i:Int)(x:Nat)(er:Int)(f':Nat->Nat)(c':Int):Prop:=
 (0<=i/\i<(n:Int)/\er=0/\f'=upd f i.toNat x/\c'=wrap64 (c+1))\/(¬ (0<=i/\i<(n:Int))/\er=2/\f'=f/\c'=c)
def us(w:World)(ab aw n:Nat)(f:Nat->Nat)(c i:Int)(x:Nat)(e:Ending)(w':World):Prop:=
 ∃(er:Int) (f':Nat->Nat) (c':Int),e=.returned (.int .i64 er)/\Ar w' ab aw n f' c'/\Fr [ab,aw] w w'/\Bc n f c i x er f' c'
theorem ut{w:World}{ab aw n:Nat}{f:Nat->Nat}{c:Int}(h:Ar w ab aw n f c)(i:Int)(x:Nat)(hx:x<18446744073709551616) :
  Calls Tryz.prog 88 #[.pointer (some ⟨ab,0,none⟩),.int .i64 i,.int .u64 (x:Int)] w (us w ab aw n f c i x):=by
 by_cases hi:0<=i/\i<(n:Int)
 ·obtain⟨hi0,hi1⟩:=hi;obtain⟨k,rfl⟩:=Da hi0;have hk:k<n:=by omega
  have HA:=aa (mL h hk);have HC:=aa ((h.iB (wrap64 (c+1))).stored k hx);have hw:=(h.iB (wrap64 (c+1))).cw hk;have hz:=(h.iB (wrap64 (c+1))).row.frozen k;clear h;go_enter Tryz.func88,Tryz.ntmps88
  go_wp2_with (go_at_call 134;refine HA.out.mono ?_;rintro e w' ⟨rfl,rfl⟩)
  go_ret
  exact⟨0,_,_,rfl,HC.out,((Fr.refl _ _).setCell (p:=⟨ab,1,none⟩) (.inl (by simp)) _).setCell (p:=⟨aw,k,none⟩) (.inl (by simp)) _,.inl ⟨hi0,hi1,rfl,by rw[Db],rfl⟩⟩
 ·have HA:=aa (lf h hi);have HI:=aa hi;have H:=aa h;clear h hi;go_enter Tryz.func88,Tryz.ntmps88
  go_wp2_with (go_at_call 134;refine HA.out.mono ?_;rintro e w' ⟨rfl,rfl⟩)
  go_ret
  exact⟨2,f,c,rfl,H.out,Fr.refl _ _,.inr ⟨HI.out,rfl,rfl,rfl⟩⟩
def jT(n:Nat)(i m:Int):Prop:=0<=i/\0<=m/\i+m<=(n:Int)
theorem zg{w:World}{ab aw n:Nat}{f:Nat->Nat}{c:Int}(h:Ar w ab aw n f c){i m:Int}(hi1:i<=9223372036854775807)(hi:¬ jT n i m) :
  Calls Tryz.prog 153 #[.pointer (some ⟨ab,0,none⟩),.int .i64 i,.int .i64 m] w λe w'=>e=.returned (.tuple #[.slice none 0 0,.int .i64 2])/\w=w':=by
 have h0:=h.c0;have hmax:=h.max;unfold jT at hi;clear h;by_cases c1:i<0
 ·clear hi;go_enter Tryz.func153,Tryz.ntmps153
  go_wp2
  go_ret2
  exact⟨rfl,rfl⟩
 ·by_cases c2:m<0
  ·clear hi;go_enter Tryz.func153,Tryz.ntmps153
   go_wp2
   go_ret2
   exact⟨rfl,rfl⟩
  ·have c3:(n:Int)-i<m:=by omega
   clear hi;go_enter Tryz.func153,Tryz.ntmps153
   go_wp2
   go_ret2
   exact⟨rfl,rfl⟩
theorem lh{A:Option Addr}{c L m:Nat}{v:Value}(h:L=m):Ending.returned (.tuple #[.slice A L c,v])=.returned (.tuple #[.slice A m c,v]):=by rw[h]
def zh(w:World)(aw i m:Nat)(e:Ending)(w':World):Prop:=
 ∃A c,e=.returned (.tuple #[.slice A m c,.int .i64 0])/\(0<m->A=some ⟨aw,i,none⟩)/\w=w'
theorem Bd{w:World}{ab aw n:Nat}{f:Nat->Nat}{c:Int}(h:Ar w ab aw n f c){i m:Nat}(hi:i+m<=n) :
  Calls Tryz.prog 153 #[.pointer (some ⟨ab,0,none⟩),.int .i64 (i:Int),.int .i64 (m:Int)] w (zh w aw i m):=by
 have h0:=h.c0;have hmax:=h.max;clear h;have c3:(m:Int)<=(n:Int)-(i:Int):=by omega
 by_cases hc:n=i
 ·have HC:=aa hc;have HM:Hid (m=0):=by show m=0;omega
  go_enter Tryz.func153,Tryz.ntmps153
  go_wp2
  go_ret2
  have:=HM.out;exact⟨_,_,lh (by omega),λh=>by omega,rfl⟩
 ·go_enter Tryz.func153,Tryz.ntmps153
  go_wp2
  go_ret2
  exact⟨_,_,lh (by omega),λ_=>rfl,rfl⟩
theorem Tryz.xe(w:World):(zeroValue 67).run Tryz.prog w=.ok (.int .u64 0) w:=by kernel_rfl
def Be(n:Nat)(f:Nat->Nat)(i m:Int)(er:Int)(f':Nat->Nat):Prop:=
 (jT n i m/\er=0/\f'=aB f i.toNat m.toNat (λ_=>0))\/(¬ jT n i m/\er=2/\f'=f)
def xf(w:World)(ab aw n:Nat)(f:Nat->Nat)(c i m:Int)(e:Ending)(w':World):Prop:=
 ∃(er:Int) (f':Nat->Nat),e=.returned (.int .i64 er)/\Ar w' ab aw n f' c/\Fr [aw] w w'/\Be n f i m er f'
theorem pH{w:World}{ab aw n:Nat}{f:Nat->Nat}{c:Int}(h:Ar w ab aw n f c)(i m:Int)(hi1:i<=9223372036854775807) :
  Calls Tryz.prog 139 #[.pointer (some ⟨ab,0,none⟩),.int .i64 i,.int .i64 m] w (xf w ab aw n f c i m):=by
 by_cases hr:jT n i m
 ·obtain⟨h1,h2,h3⟩:=hr;obtain⟨I,rfl⟩:=Da h1;obtain⟨M,rfl⟩:=Da h2;have hfit:I+M<=n:=by omega
  have HR:=aa (Bd h hfit);have H:=aa h;have HE:=aa (pr (n:=n) (f:=f) (off:=I) (m:=M) (cs:=List.replicate M (.int .u64 0)) (g:=λ_=>0) (by simp) hfit (λj hj=>by simp[hj]));have HS:Hid ((gW n f).size=n):=fh _ _;clear h;go_enter Tryz.func139,Tryz.ntmps139
  go_wp2_with fail
  refine HR.out.mono ?_;rintro e w' ⟨A,cc,rfl,hA,rfl⟩;have HA:=aa hA;clear hA;go_wp2_with (with_reducible refine gi rfl _ 167 rfl 67 Tryz.underlying167 Tryz.xe rfl rfl A M cc rfl aw I (gW n f) 67 H.out.row HA.out (by rw[HS.out];exact hfit) ?_)
  intro w2 hb hf;go_wp2
  go_ret
  refine⟨0,_,rfl,⟨H.out.set.fr hf.out (by simpa using H.out.ne),?_,H.out.max,?_⟩,hf.out,.inl ⟨⟨h1,h2,h3⟩,rfl,rfl⟩⟩
  ·rw[Db,Db,<- HE.out];exact hb.out
  ·intro j;unfold aB;split
   ·show(0:Nat)<18446744073709551616;decide
   ·exact H.out.ok j
 ·have HR:=aa (zg h hi1 hr);have HI:=aa hr;have H:=aa h;clear h hr;go_enter Tryz.func139,Tryz.ntmps139
  go_wp2_with (go_at_call 153;refine HR.out.mono ?_;rintro e w' ⟨rfl,rfl⟩)
  go_ret
  exact⟨2,f,rfl,H.out,Fr.refl _ _,.inr ⟨HI.out,rfl,rfl⟩⟩
theorem kE{w:World}{ab aw n:Nat}{f:Nat->Nat}{c:Int}(h:Ar w ab aw n f c){i:Int}{k v:Nat}(hi:i=(k:Int))(hk:k<n)(hv:f k=v) :
  Calls Tryz.prog 87 #[.pointer (some ⟨ab,0,none⟩),.int .i64 i] w λe w'=>e=.returned (.tuple #[.int .u64 (v:Int),.int .i64 0])/\Ar w' ab aw n f (wrap64 (c+1))/\Fr [ab] w w':=by
 subst hi hv;refine(pG h (k:Int)).mono ?_;rintro e w' ⟨v,er,c',rfl,ha,hf,ht⟩;rcases ht with⟨_,_,rfl,rfl,rfl⟩|⟨h1,_⟩
 ·exact⟨by rw[Db],ha,hf⟩
 ·exact absurd ⟨by omega,by omega⟩ h1
theorem pI{w:World}{ab aw n:Nat}{f:Nat->Nat}{c:Int}(h:Ar w ab aw n f c){i y:Int}{k x:Nat}(hi:i=(k:Int))(hk:k<n)(hy:y=(x:Int))(hx:x<18446744073709551616) :
  Calls Tryz.prog 88 #[.pointer (some ⟨ab,0,none⟩),.int .i64 i,.int .u64 y] w λe w'=>e=.returned (.int .i64 0)/\Ar w' ab aw n (upd f k x) (wrap64 (c+1))/\Fr [ab,aw] w w':=by
 subst hi hy;refine(ut h (k:Int) x hx).mono ?_;rintro e w' ⟨er,f',c',rfl,ha,hf,ht⟩;rcases ht with⟨_,_,rfl,rfl,rfl⟩|⟨h1,_⟩
 ·exact⟨rfl,by rw[Db]at ha;exact ha,hf⟩
 ·exact absurd ⟨by omega,by omega⟩ h1
theorem zi{w:World}{ab aw n:Nat}{f:Nat->Nat}{c:Int}(h:Ar w ab aw n f c){i m:Int}{I M:Nat}(hi:i=(I:Int))(hm:m=(M:Int))(h1:I+M<=n) :
  Calls Tryz.prog 139 #[.pointer (some ⟨ab,0,none⟩),.int .i64 i,.int .i64 m] w λe w'=>e=.returned (.int .i64 0)/\Ar w' ab aw n (aB f I M (λ_=>0)) c/\Fr [aw] w w':=by
 subst hi hm;have hmax:=h.max;refine(pH h (I:Int) (M:Int) (by omega)).mono ?_;rintro e w' ⟨er,f',rfl,ha,hf,ht⟩;rcases ht with⟨_,rfl,rfl⟩|⟨h2,_⟩
 ·exact⟨rfl,by simpa using ha,hf⟩
 ·exact absurd ⟨by omega,by omega,by omega⟩ h2
end Go.Proofs.YtimlkjppaalfaaaGreatDoor
