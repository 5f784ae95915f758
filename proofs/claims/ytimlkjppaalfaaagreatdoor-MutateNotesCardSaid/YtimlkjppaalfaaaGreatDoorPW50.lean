/- Several texts joined (pack.py): Frame Card Oa. -/
import Derived.ProofKit
import Derived.OpenShut
import Derived.Carry
import Derived.Below
import Derived.Deep.Slices
import Derived.Deep.Fields
import Derived.ChangeSame
import Derived.Test.YtimlkjppaalfaaaGreatDoorPW00
import Derived.Test.YtimlkjppaalfaaaGreatDoorCards
import Derived.Test.YtimlkjppaalfaaaGreatDoorTie
import Derived.Test.YtimlkjppaalfaaaGreatDoorPW07
import Derived.WalkKit
import Derived.Deep.DeepHandedRow
import Derived.Lib.LaidTab
import Derived.Test.YtimlkjppaalfaaaGreatDoorPW47
set_option linter.unusedVariables false
set_option maxRecDepth 100000
namespace Go.Gl
open Go.ChangeShapes Go.WideShapes Go.ChangeAt Go.RowKit
theorem mv{H:Type}{enc:TypeId×Value->H}{P:Program}(hl:laidOutB P=true){W W':World}(hb:Below W.heap.size W W') :
  ∀(ts:List TypeId) (vs:List Value) (ds:List (DataW H)) (ps:List MemPlace),(∀t,t∈ts->P.readableRec t=true/\t<P.types.size) ->
   DataW.TrodAll enc P W 0 (λ_=>true) true ts vs ds ps->(∀x∈ps,x.block<W.heap.size)->DataW.TrodAll enc P W' 0 (λb=>decide (b<W.heap.size)) true ts vs ds ps:=by
 intro ts
 induction ts with
|nil=>
  intro vs ds ps _ h _;cases vs with
 |nil=>cases ds with
  |nil=>exact h
  |cons d ds=>exact h.elim
 |cons v vs=>exact h.elim
|cons t ts ih=>
  intro vs ds ps hr h hlt;cases vs with
 |nil=>exact h.elim
 |cons v vs=>cases ds with
  |nil=>exact h.elim
  |cons d ds=>
    obtain⟨p,q,h1,h2,rfl⟩:=h;obtain⟨r1,r2⟩:=hr t (by simp);exact⟨p,q,Below.trod hl r1 r2 h1 hb (λx hx=>hlt x (by simp[hx])),ih vs ds q (λu hu=>hr u (by simp[hu])) h2 (λx hx=>hlt x (by simp[hx])),rfl⟩
def Holds(P:Program)(k:FuncId)(args:Array Value)(W:World):Prop:=Calls P k args W λe W'=>e=.returned (.bool true)/\Below W.heap.size W W'
theorem vS{H:Type}{enc:TypeId×Value->H}{P:Program}{f:Func}{s:ChangeSpec}{k:FuncId}{tb:TypeId}(hv:s.vars=[])(hr:f.resultTypes=#[tb])(htb:P.underlying tb=some .bool)
  (hspec:∀ds:List (DataW H),ds.length=f.params.toList.length->s.fn H (ds++[])={ results:=[.lit (.bool true)],args:=ds,vars:=[] })
  (hl:laidOutB P=true) (hread:∀t,t∈f.params.toList->P.readableRec t=true/\t<P.types.size)
  {W:World}{args:Array Value}{ds gs:List (DataW H)}{before:List MemPlace} (hW:DataW.Whole enc P f.params.toList s.vars false W args.toList ds gs before) (hc:Holds P k args W) :
  Calls P k args W λe W'=>∃v,e=.returned v/\s.post enc P f false true false false W args v W':=by
 refine hc.mono λe W' ⟨he,hb⟩=>⟨_,he,?_⟩;have hW':=hW;obtain⟨p,q,hA,hV,rfl,hfz,hnd⟩:=hW;rw[hv]at hV;obtain⟨rfl,rfl⟩:=trodVars_none hV;have hlen:ds.length=f.params.toList.length:=by
  have:∀(ts:List TypeId) (vs:List Value) (ds:List (DataW H)) (ps:List MemPlace),DataW.TrodAll enc P W 0 (λ_=>true) true ts vs ds ps->ds.length=ts.length:=by
   intro ts
   induction ts with
  |nil=>intro vs ds ps h;cases vs <;> cases ds <;> first|rfl|exact h.elim
  |cons t ts ih=>
    intro vs ds ps h;cases vs <;> cases ds <;> first|exact h.elim|(obtain⟨p,q,_,h2,_⟩:=h;simp[ih _ _ _ h2])
  exact this _ _ _ _ hA
 have hlt:∀x∈p++[],x.block<W.heap.size:=λx hx=>by simpa using hW'.lt x hx
 refine⟨ds,[],p++[],[],p,[],hW',?_,?_,?_,hb.frame _,λh=>by cases h⟩
 ·rw[hspec ds hlen,hr];exact trodAll_cons_mk (shut_bool htb true) trodAll_mk0
 ·rw[hspec ds hlen];exact mv hl hb _ _ _ _ hread hA (λx hx=>hlt x (by simpa using hx))
 ·rw[hspec ds hlen,hv];exact rfl
theorem jn{n:Int}(h:(Lit.int .i64 n).wf=true):-9223372036854775808<=n/\n<=9223372036854775807:=by
 simpa[Lit.wf,IntKind.min,IntKind.max,IntKind.signed,IntKind.bits] using h
theorem tA{n:Int}(h:(Lit.int .u64 n).wf=true):0<=n/\n<18446744073709551616:=by
 have:0<=n/\n<=18446744073709551615:=by simpa[Lit.wf,IntKind.min,IntKind.max,IntKind.signed,IntKind.bits] using h
 omega
theorem AA{H:Type}{enc:TypeId×Value->H}{P:Program}{W:World}{t e:TypeId}{k:IntKind}{r:Reach}{b:Nat}{v:Value}{d:DataW H}{p:List MemPlace}
  (ht:P.underlying t=some (.slice e)) (he:P.underlying e=some (.int k)) (hc:P.cellsOf e=1) (hv:Value.okWide P W r b t v) (h:DataW.Trod enc P W 0 (λ_=>true) true t v d p) :
  ∃A n c,∃zs:List Int,v=.slice A n c/\n<=maxLen/\Sl W A n (λj=>.int k (zs.getD j 0))/\∀z∈zs,(Lit.int k z).wf=true:=by
 obtain⟨a0,len,cap,rfl⟩:=okWide_slice ht hv;obtain⟨fuel,hf⟩:=h;rcases open_ints ht he hc hf with⟨hcs,hx⟩|⟨a,len',cap',zs,hcs,_,hl,hm,hz,hx,hcell,hwz⟩
 ·simp only[Value.cells]at hcs;injection hcs with h1 _;injection h1 with h1 h2 h3;subst h1 h2 h3;exact⟨none,0,0,[],rfl,Nat.zero_le _,λh=>absurd h (by decide),λz hz=>by cases hz⟩
 ·simp only[Value.cells]at hcs;injection hcs with h1 _;injection h1 with h1 h2 h3;subst h1 h2 h3;simp only[if_true]at hz;refine⟨some a,len,cap,zs,rfl,by omega,λhn=>?_,hwz⟩;obtain⟨b,off,rfl,hat⟩:=ints_at hcell (by omega);refine⟨b,off,rfl,?_,λj hj=>hat j (by omega)⟩;have h0:=hat 0 (by omega);rcases Nat.lt_or_ge b W.heap.size with hl|hl
  ·exact hl
  ·simp[World.cell?,Array.getElem?_eq_none hl]at h0
open Go.Deep
section
variable {H:Type}{enc:TypeId×Value->H}{P:Program}{w:World}{base:Nat}{spare:Nat->Bool}{held:Bool}
theorem jP{t e:TypeId}{fs:Array Field}{fuel:Nat}{cs:List Value}{x:DataW H×List MemPlace}(ht:P.underlying t=some (.slice e))(he:P.underlying e=some (.struct fs))
  (hone:oneCellFields P fs=true) (hC:P.cellsOf e=fs.size) (h:DataW.trod enc P w base spare held fuel t cs=some x) :
  (cs=[.slice none 0 0]/\x=(.nil,[])) \/
  ∃(a:Addr) (len cap m:Nat) (D:Nat->DataW H) (Pl:Nat->List MemPlace),cs=[.slice (some a) len cap]/\base<=a.block/\len<=cap/\cap<=maxLen/\m=(if spare a.block then cap else len) /\
   x=(.slice ((List.range len).map D) ((List.range (m-len)).map λj=>D (len+j)),MemPlace.row a (m*fs.size)++(List.range m).flatMap Pl) /\
   ∀i,i<m->∃(ys:List (DataW H×List MemPlace)) (n:Nat),D i=.agg (ys.map (·.1))/\Pl i=ys.flatMap (·.2)/\ys.length=fs.size /\
    ∀(j:Nat) (f:Field),fs[j]?=some f->∃(v:Value) (y:DataW H×List MemPlace),w.cell? (a.add (i*fs.size+j))=some v/\ys[j]?=some y/\DataW.trod enc P w base spare held n f.type [v]=some y:=by
 rcases open_slice ht h with h0|⟨a,len,cap,m,n,D,Pl,hcs,hb,hl,hm,hmm,hx,hi⟩
 ·exact .inl h0
 ·refine .inr ⟨a,len,cap,m,D,Pl,hcs,hb,hl,hm,hmm,by rw[hC]at hx;exact hx,λi him=>?_⟩;obtain⟨cs',hc,ht'⟩:=hi i him;rw[hC]at hc;obtain⟨ys,n',hn',hy,hlen,hyl,hf⟩:=DataW.trod_struct he ht';obtain⟨_,hcl,hat⟩:=World.cells?_some hc;simp only[Prod.mk.injEq]at hy;refine⟨ys,n',hy.1,hy.2,hyl,λj f hj=>?_⟩;obtain⟨ho,hk⟩:=hone_of hone j f hj;have hjl:j<fs.size:=(Array.getElem?_eq_some_iff.1 hj).1;have hcell:=hat j hjl;have hv:cs'[j]?=some (cs'[j]'(by omega)):=List.getElem?_eq_getElem (by omega);have h1:=hf j f hj;rw[ho,hk]at h1;have hone':(cs'.drop j).take 1=[cs'[j]'(by omega)]:=by
   rw[List.drop_eq_getElem_cons (by omega)];rfl
  rw[hone']at h1;have hys:ys[j]?=some (ys[j]'(by omega)):=List.getElem?_eq_getElem (by omega);refine⟨_,_,?_,hys,h1.trans hys⟩;rw[<- Go.Deep.add_add,hcell,hv]
theorem mw{r:Reach}{b0:Nat}{t:TypeId}{fs:Array Field}{k:IntKind}{v:Value}{d:DataW H}{p:List MemPlace}(hs:P.underlying t=some (.struct fs))(hone:oneCellFields P fs=true)(hC:P.cellsOf t=fs.size)
  (hk:∀f∈fs.toList,P.underlying f.type=some (.int k)) (hv:Value.okWide P w r b0 t v) (h:DataW.Trod enc P w base spare held t v d p) :
  ∃zs:List Int,zs.length=fs.size/\v=.agg (zs.map (Value.int k)).toArray/\∀z∈zs,(Lit.int k z).wf=true:=by
 obtain⟨cs,rfl,hsz⟩:=okWide_struct hs hv;obtain⟨fuel,hf⟩:=h;obtain⟨xs,n,_,_,hl,hlen,hg⟩:=DataW.trod_struct hs hf;have key:∀j (hj:j<cs.size),∃z,cs[j]=.int k z/\(Lit.int k z).wf=true:=by
  intro j hj;have hjf:j<fs.size:=by omega
  have hfj:fs[j]?=some fs[j]:=Array.getElem?_eq_getElem hjf;obtain⟨ho,hc⟩:=hone_of hone j _ hfj;have h1:=hg j _ hfj;have e:(cs.toList.drop j).take 1=[cs[j]]:=by
   rw[List.drop_eq_getElem_cons (by simpa using hj)];rfl
  have hx:xs[j]?=some (xs[j]'(by omega)):=List.getElem?_eq_getElem (by omega);rw[ho,hc,show(Value.agg cs).cells.toList=cs.toList from rfl,e,hx]at h1;obtain⟨z,hz,_,hw⟩:=DataW.trod_int (hk _ (by simp)) h1;exact⟨z,by simpa using hz,hw⟩
 refine⟨cs.toList.map λv=>match v with|.int _ z=>z|_=>0,by simp;omega,?_,?_⟩
 ·congr 1
  apply Array.ext
  ·simp
  ·intro j h1 h2;obtain⟨z,hz,_⟩:=key j h1;simp[hz]
 ·intro z hz;simp only[List.mem_map]at hz;obtain⟨v,hv,rfl⟩:=hz;obtain⟨j,hj,rfl⟩:=List.getElem_of_mem hv;obtain⟨z,hz,hw⟩:=key j (by simpa using hj);simp only[Array.getElem_toList,hz];exact hw
end
end Go.Gl
namespace Go.Proofs.YtimlkjppaalfaaaGreatDoor
open Go.ChangeShapes Go.WideShapes Go.ChangeAt Go.RowKit Go.Gl
theorem own:ownKnob Tryz.prog.godebug=none:=by kernel_rfl
theorem CI:Tryz.prog.globalNamed "math/bits.deBruijn64tab"=some 0:=by kernel_rfl
theorem yM:(Tryz.prog.globals[0]?).map (·.type)=some 225:=by kernel_rfl
theorem yN:Tryz.prog.cellsOf 225=64:=by kernel_rfl
theorem vT:Tryz.prog.cellsOf 5=1:=by kernel_rfl
def pp:List Int:=Lib.deBruijn64tab.map λ(x:Nat)=>(x:Int)
theorem table{W:World}(h:laidMetH Tryz.prog [("math/bits.deBruijn64tab",Rows.laid_math_bits_deBruijn64tab)] W):Tab W:=by
 have ht:Lib.TabIs Tryz.prog W "math/bits.deBruijn64tab" .u8 pp:=
  Lib.tabIs_of_head (rest:=[]) CI yM Tryz.underlying225 Tryz.underlying5 vT yN h
 intro k hk;have:=ht.cell CI k (by show k<64;exact hk);rw[this]
 congr 2
 unfold pp;rw[List.getD_eq_getElem?_getD,List.getElem?_map,List.getD_eq_getElem?_getD];cases Lib.deBruijn64tab[k]? <;> rfl
theorem laidOut:laidOutB Tryz.prog=true:=by kernel_rfl
noncomputable def kg (os:Os):World:=
 { World.holding Tryz.prog os ⟨#[],#[],[]⟩with heap:=(World.holding Tryz.prog os ⟨#[],#[],[]⟩).heap.modify 0 fun
  |.cells _ t frozen=>.cells (pp.map λz=>Value.int .u8 z).toArray t frozen
  |o=>o }
open Go.RowKit Go.Gl Go.ChangeShapes Go.WideShapes Go.ChangeAt Go.Deep
theorem tB:∃fs:Array Field,Tryz.prog.underlying 23=some (.struct fs)/\oneCellFields Tryz.prog fs=true/\Tryz.prog.cellsOf 23=fs.size/\fs.size=14/\∀f∈fs.toList,Tryz.prog.underlying f.type=some (.int .i64):=
 ⟨_,Tryz.underlying23,by kernel_rfl,by kernel_rfl,by kernel_rfl,by
  intro f hf;simp at hf;rcases hf with rfl|rfl|rfl|rfl|rfl|rfl|rfl|rfl|rfl|rfl|rfl|rfl|rfl|rfl;all_goals exact Tryz.underlying3⟩
def lY(j:Nat):IntKind:=if j=4 then .u64 else .i64
theorem vU:∃fs:Array Field,Tryz.prog.underlying 69=some (.struct fs)/\oneCellFields Tryz.prog fs=true/\Tryz.prog.cellsOf 69=fs.size/\fs.size=5/\∀(j:Nat) f,fs[j]?=some f->Tryz.prog.underlying f.type=some (.int (lY j)):=
 ⟨_,Tryz.underlying69,by kernel_rfl,by kernel_rfl,by kernel_rfl,by
  intro j f hf
  match j,hf with
 |0,hf=>simp at hf;subst hf;exact Tryz.underlying66
 |1,hf=>simp at hf;subst hf;exact Tryz.underlying3
 |2,hf=>simp at hf;subst hf;exact Tryz.underlying3
 |3,hf=>simp at hf;subst hf;exact Tryz.underlying3
 |4,hf=>simp at hf;subst hf;exact Tryz.underlying67
 |j+5,hf=>simp at hf⟩
section
variable {H:Type}{enc:TypeId×Value->H}{W:World}
theorem vV{fuel:Nat}{cs:List Value}{x:DataW H×List MemPlace}(h:DataW.trod enc Tryz.prog W 0 (λ_=>true) true fuel 82 cs=some x) :
  ∃(A:Option Addr) (n c:Nat) (f:Nat->Po),cs=[.slice A n c]/\n<=c/\n<=maxLen/\jM W (.slice A n c) n f/\∀j,j<n->dH (f j)/\0<=(f j).v/\(f j).v<18446744073709551616:=by
 obtain⟨fs,e1,e2,e3,e4,e5⟩:=vU;rcases jP Tryz.underlying82 e1 e2 e3 h with⟨hcs,hx⟩|⟨a,len,cap,m,D,Pl,hcs,_,hl,hm,hmm,hx,hi⟩
 ·exact⟨none,0,0,λ_=>⟨0,0,0,0,0⟩,hcs,Nat.le_refl _,Nat.zero_le _,⟨none,0,rfl,λh=>absurd h (by decide)⟩,λj h=>absurd h (by omega)⟩
 ·simp only[if_true]at hmm;subst hmm;have each:∀i j,∃z:Int,i<m->j<fs.size->W.cell? (a.add (i*fs.size+j))=some (.int (lY j) z)/\(Lit.int (lY j) z).wf=true:=by
   intro i j;by_cases h0:i<m/\j<fs.size
   ·obtain⟨hi0,hj0⟩:=h0;obtain⟨ys,n,_,_,_,hf⟩:=hi i hi0;have hfj:fs[j]?=some fs[j]:=Array.getElem?_eq_getElem hj0;obtain⟨v0,y0,k0,_,t0⟩:=hf j _ hfj;obtain⟨z0,e0,_,w0⟩:=DataW.trod_int (e5 j _ hfj) t0;simp only[List.cons.injEq,and_true]at e0;subst e0;exact⟨z0,λ_ _=>⟨k0,w0⟩⟩
   ·exact⟨0,λh1 h2=>absurd ⟨h1,h2⟩ h0⟩
  obtain⟨g,hfun⟩:∃g:Nat->Nat->Int,∀i j,i<m->j<fs.size->W.cell? (a.add (i*fs.size+j))=some (.int (lY j) (g i j))/\(Lit.int (lY j) (g i j)).wf=true:=
   ⟨λi j=>Classical.choose (each i j),λi j=>Classical.choose_spec (each i j)⟩
  clear each;rw[e4]at hfun;refine⟨some a,len,m,λi=>⟨g i 0,g i 1,g i 2,g i 3,g i 4⟩,hcs,by omega,by omega,⟨some a,m,rfl,λhn=>?_⟩,λj hj=>?_⟩
  ·have h0:=(hfun 0 0 (by omega) (by decide)).1;obtain⟨b0,off,spot⟩:=a;have hspot:spot=none:=by
    have:=World.cell?_spot h0;simpa[Addr.add] using this
   subst hspot;have ea:∀q,Addr.add ⟨b0,off,none⟩ q=⟨b0,off+q,none⟩:=λq=>Go.WideShapes.add_plain _ _ _;refine⟨b0,off,rfl,?_,λi hi2=>?_⟩
   ·have:=af h0;simpa[Addr.add] using this
   ·have q0:=(hfun i 0 (by omega) (by decide)).1;have q1:=(hfun i 1 (by omega) (by decide)).1;have q2:=(hfun i 2 (by omega) (by decide)).1;have q3:=(hfun i 3 (by omega) (by decide)).1;have q4:=(hfun i 4 (by omega) (by decide)).1;rw[ea]at q0 q1 q2 q3 q4;exact⟨q0,q1,q2,q3,q4⟩
  ·have w1:=(hfun j 1 (by omega) (by decide)).2;have w2:=(hfun j 2 (by omega) (by decide)).2;have w4:=(hfun j 4 (by omega) (by decide)).2;exact⟨⟨jn w1,jn w2⟩,tA w4⟩
theorem vW{r:Reach}{b:Nat}{v:Value}{d:DataW H}{p:List MemPlace}(hv:Value.okWide Tryz.prog W r b 24 v)(h:DataW.Trod enc Tryz.prog W 0 (λ_=>true) true 24 v d p) :
  ∃(A:Option Addr) (n c:Nat) (zA:Nat->Option Addr) (zn zc:Nat->Nat) (f:Nat->Nat->Po),v=.slice A n c/\ky W A n zA zn zc f/\∀i j,i<n->j<zn i->dH (f i j)/\0<=(f i j).v/\(f i j).v<18446744073709551616:=by
 obtain⟨a0,len,cap,rfl⟩:=okWide_slice Tryz.underlying24 hv;obtain⟨fuel,hf⟩:=h;rcases open_slice1 Tryz.underlying24 (by kernel_rfl) hf with⟨hcs,hx⟩|⟨a,len',cap',m,n,V,D,Pl,hcs,_,hl,hm,hmm,hx,hi⟩
 ·simp only[Value.cells]at hcs;injection hcs with h1 _;injection h1 with h1 h2 h3;subst h1 h2 h3;exact⟨none,0,0,λ_=>none,λ_=>0,λ_=>0,λ_ _=>⟨0,0,0,0,0⟩,rfl,⟨λh=>absurd h (by decide),λi h=>absurd h (by omega),λi h=>absurd h (by omega)⟩,λi j h=>absurd h (by omega)⟩
 ·simp only[Value.cells]at hcs;injection hcs with h1 _;injection h1 with h1 h2 h3;subst h1 h2 h3;simp only[if_true]at hmm;subst hmm;have each:∀i,∃(A:Option Addr) (n c:Nat) (f:Nat->Po),i<m->W.cell? (a.add i)=some (.slice A n c)/\(n<=c/\n<=maxLen)/\jM W (.slice A n c) n f/\∀j,j<n->dH (f j)/\0<=(f j).v/\(f j).v<18446744073709551616:=by
   intro i;by_cases h0:i<m
   ·obtain⟨c0,t0⟩:=hi i h0;obtain⟨A,n,c,f,q1,q2,q3,q4,q5⟩:=vV t0;simp only[List.cons.injEq,and_true]at q1;exact⟨A,n,c,f,λ_=>⟨by rw[c0,q1],⟨q2,q3⟩,q4,q5⟩⟩
   ·exact⟨none,0,0,λ_=>⟨0,0,0,0,0⟩,λh=>absurd h h0⟩
  refine⟨some a,len,m,λi=>(each i).choose,λi=>(each i).choose_spec.choose,λi=>(each i).choose_spec.choose_spec.choose,λi=>(each i).choose_spec.choose_spec.choose_spec.choose,rfl,⟨λhn=>?_,λi hi2=>?_,λi hi2=>?_⟩,λi j hi2 hj=>?_⟩
  ·have h0:=((each 0).choose_spec.choose_spec.choose_spec.choose_spec (by omega)).1;obtain⟨b0,off,spot⟩:=a;have hspot:spot=none:=by
    have:=World.cell?_spot h0;simpa[Addr.add] using this
   subst hspot;refine⟨b0,off,rfl,?_,λi hi2=>?_⟩
   ·have:=af h0;simpa[Addr.add] using this
   ·have:=((each i).choose_spec.choose_spec.choose_spec.choose_spec (by omega)).1;exact(congrArg W.cell? (show(⟨b0,off+i,none⟩:Addr)=Addr.add ⟨b0,off,none⟩ i from (Go.WideShapes.add_plain _ _ _).symm)).trans this
  ·exact((each i).choose_spec.choose_spec.choose_spec.choose_spec (by omega)).2.1
  ·exact((each i).choose_spec.choose_spec.choose_spec.choose_spec (by omega)).2.2.1
  ·exact((each i).choose_spec.choose_spec.choose_spec.choose_spec (by omega)).2.2.2 j hj
end
end Go.Proofs.YtimlkjppaalfaaaGreatDoor
