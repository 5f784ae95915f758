/- Several texts joined (pack.py): Frame Wk Card. -/
import Derived.ProofKit
import Derived.OpenShut
import Derived.Carry
import Derived.Below
import Derived.Deep.Slices
import Derived.Deep.Fields
import Derived.ChangeSame
import Derived.Test.YteacgfeiedcdiaaGreatDoorPW00
import Derived.Test.YteacgfeiedcdiaaGreatDoorPW02
import Derived.Test.YteacgfeiedcdiaaGreatDoorCards
import Derived.Test.YteacgfeiedcdiaaGreatDoorTie
import Derived.Test.YteacgfeiedcdiaaGreatDoorPW09
import Derived.WalkKit
import Derived.Deep.DeepHandedRow
import Derived.Lib.LaidTab
namespace Go.Gl
set_option linter.unusedVariables false
open Go.ChangeShapes Go.WideShapes Go.ChangeAt Go.RowKit
theorem trodAll_stays{H:Type}{enc:TypeId×Value→H}{P:Program}(hl:laidOutB P=true){W W':World}(hb:Below W.heap.size W W') :
  ∀(ts:List TypeId) (vs:List Value) (ds:List (DataW H)) (ps:List MemPlace),(∀t,t∈ts→P.readableRec t=true∧t<P.types.size) →
   DataW.TrodAll enc P W 0 (fun _=>true) true ts vs ds ps→(∀x∈ps,x.block<W.heap.size)→DataW.TrodAll enc P W' 0 (fun b=>decide (b<W.heap.size)) true ts vs ds ps:=by
 intro ts
 induction ts with
 | nil=>
  intro vs ds ps _ h _
  cases vs with
  | nil=>cases ds with
   | nil=>exact h
   | cons d ds=>exact h.elim
  | cons v vs=>exact h.elim
 | cons t ts ih=>
  intro vs ds ps hr h hlt
  cases vs with
  | nil=>exact h.elim
  | cons v vs=>cases ds with
   | nil=>exact h.elim
   | cons d ds=>
    obtain⟨p,q,h1,h2,rfl⟩:=h
    obtain⟨r1,r2⟩:=hr t (by simp)
    exact⟨p,q,Below.trod hl r1 r2 h1 hb (fun x hx=>hlt x (by simp [hx])),ih vs ds q (fun u hu=>hr u (by simp [hu])) h2 (fun x hx=>hlt x (by simp [hx])),rfl⟩
def Holds(P:Program)(k:FuncId)(args:Array Value)(W:World):Prop:=Calls P k args W fun e W'=>e=.returned (.bool true)∧Below W.heap.size W W'
theorem law_close{H:Type}{enc:TypeId×Value→H}{P:Program}{f:Func}{s:ChangeSpec}{k:FuncId}{tb:TypeId}(hv:s.vars=[])(hr:f.resultTypes=#[tb])(htb:P.underlying tb=some .bool)
  (hspec:∀ds:List (DataW H),ds.length=f.params.toList.length→s.fn H (ds++[])={ results:=[.lit (.bool true)],args:=ds,vars:=[] })
  (hl:laidOutB P=true) (hread:∀t,t∈f.params.toList→P.readableRec t=true∧t<P.types.size)
  {W:World} {args:Array Value} {ds gs:List (DataW H)} {before:List MemPlace} (hW:DataW.Whole enc P f.params.toList s.vars false W args.toList ds gs before) (hc:Holds P k args W) :
  Calls P k args W fun e W'=>∃v,e=.returned v∧s.post enc P f false true false false W args v W':=by
 refine hc.mono fun e W' ⟨he,hb⟩=>⟨_,he,?_⟩
 have hW':=hW
 obtain⟨p,q,hA,hV,rfl,hfz,hnd⟩:=hW
 rw [hv]at hV
 obtain⟨rfl,rfl⟩:=trodVars_none hV
 have hlen:ds.length=f.params.toList.length:=by
  have:∀(ts:List TypeId) (vs:List Value) (ds:List (DataW H)) (ps:List MemPlace),DataW.TrodAll enc P W 0 (fun _=>true) true ts vs ds ps→ds.length=ts.length:=by
   intro ts
   induction ts with
   | nil=>intro vs ds ps h;cases vs <;> cases ds <;> first | rfl | exact h.elim
   | cons t ts ih=>
    intro vs ds ps h
    cases vs <;> cases ds <;> first | exact h.elim | (obtain⟨p,q,_,h2,_⟩:=h;simp [ih _ _ _ h2])
  exact this _ _ _ _ hA
 have hlt:∀x∈p++[],x.block<W.heap.size:=fun x hx=>by simpa using hW'.lt x hx
 refine⟨ds,[],p++[],[],p,[],hW',?_,?_,?_,hb.frame _,fun h=>by cases h⟩
 ·rw [hspec ds hlen,hr]
  exact trodAll_cons_mk (shut_bool htb true) trodAll_mk0
 ·rw [hspec ds hlen]
  exact trodAll_stays hl hb _ _ _ _ hread hA (fun x hx=>hlt x (by simpa using hx))
 ·rw [hspec ds hlen,hv]
  exact rfl
theorem u64_bounds{n:Int}(h:(Lit.int .u64 n).wf=true):0≤n∧n<18446744073709551616:=by
 have:0≤n∧n≤18446744073709551615:=by simpa [Lit.wf,IntKind.min,IntKind.max,IntKind.signed,IntKind.bits] using h
 omega
open Go.Deep
section
variable {H:Type}{enc:TypeId×Value→H}{P:Program}{w:World}{base:Nat}{spare:Nat→Bool}{held:Bool}
theorem open_slice_fields{t e:TypeId}{fs:Array Field}{fuel:Nat}{cs:List Value}{x:DataW H×List MemPlace}(ht:P.underlying t=some (.slice e))(he:P.underlying e=some (.struct fs))
  (hone:oneCellFields P fs=true) (hC:P.cellsOf e=fs.size) (h:DataW.trod enc P w base spare held fuel t cs=some x) :
  (cs=[.slice none 0 0]∧x=(.nil,[])) ∨
  ∃(a:Addr) (len cap m:Nat) (D:Nat→DataW H) (Pl:Nat→List MemPlace),cs=[.slice (some a) len cap]∧base≤a.block∧len≤cap∧cap≤maxLen∧m=(if spare a.block then cap else len) ∧
   x=(.slice ((List.range len).map D) ((List.range (m-len)).map fun j=>D (len+j)),MemPlace.row a (m*fs.size)++(List.range m).flatMap Pl) ∧
   ∀i,i<m→∃(ys:List (DataW H×List MemPlace)) (n:Nat),D i=.agg (ys.map (·.1))∧Pl i=ys.flatMap (·.2)∧ys.length=fs.size ∧
    ∀(j:Nat) (f:Field),fs[j]?=some f→∃(v:Value) (y:DataW H×List MemPlace),w.cell? (a.add (i*fs.size+j))=some v∧ys[j]?=some y∧DataW.trod enc P w base spare held n f.type [v]=some y:=by
 rcases open_slice ht h with h0 | ⟨a,len,cap,m,n,D,Pl,hcs,hb,hl,hm,hmm,hx,hi⟩
 ·exact .inl h0
 ·refine .inr ⟨a,len,cap,m,D,Pl,hcs,hb,hl,hm,hmm,by rw [hC]at hx;exact hx,fun i him=>?_⟩
  obtain⟨cs',hc,ht'⟩:=hi i him
  rw [hC]at hc
  obtain⟨ys,n',hn',hy,hlen,hyl,hf⟩:=DataW.trod_struct he ht'
  obtain⟨_,hcl,hat⟩:=World.cells?_some hc
  simp only [Prod.mk.injEq]at hy
  refine⟨ys,n',hy.1,hy.2,hyl,fun j f hj=>?_⟩
  obtain⟨ho,hk⟩:=hone_of hone j f hj
  have hjl:j<fs.size:=(Array.getElem?_eq_some_iff.1 hj).1
  have hcell:=hat j hjl
  have hv:cs'[j]?=some (cs'[j]'(by omega)):=List.getElem?_eq_getElem (by omega)
  have h1:=hf j f hj
  rw [ho,hk]at h1
  have hone':(cs'.drop j).take 1=[cs'[j]'(by omega)]:=by
   rw [List.drop_eq_getElem_cons (by omega)]
   rfl
  rw [hone']at h1
  have hys:ys[j]?=some (ys[j]'(by omega)):=List.getElem?_eq_getElem (by omega)
  refine⟨_,_,?_,hys,h1.trans hys⟩
  rw [← Go.Deep.add_add,hcell,hv]
end
open Go.ChangeShapes Go.WideShapes Go.ChangeAt Go.RowKit Go.Deep
def Recs(w:World)(A:Option Addr)(n k:Nat)(ks:Nat→IntKind)(f:Nat→Nat→Int):Prop:=
 0<n→∃b off,A=some ⟨b,off,none⟩∧b<w.heap.size∧∀i,i<n→∀j,j<k→w.cell? ⟨b,off+(i*k+j),none⟩=some (.int (ks j) (f i j))
section
variable {H:Type}{enc:TypeId×Value→H}{P:Program}{w:World}{base:Nat}{spare:Nat→Bool}{held:Bool}
theorem cells_kinds{t:TypeId}{fs:Array Field}{ks:Nat→IntKind}(hs:P.underlying t=some (.struct fs))(hone:oneCellFields P fs=true)(hC:P.cellsOf t=fs.size)
  (hk:∀(j:Nat) f,fs[j]?=some f→P.underlying f.type=some (.int (ks j))) {n:Nat} {cs:List Value} {y:DataW H×List MemPlace} (h:DataW.trod enc P w base spare held n t cs=some y) :
  cs.length=fs.size∧∀j,j<fs.size→∃z,cs[j]?=some (.int (ks j) z)∧(Lit.int (ks j) z).wf=true:=by
 obtain⟨xs,m,_,_,hl,hlen,hg⟩:=DataW.trod_struct hs h
 refine⟨by omega,fun j hj=>?_⟩
 have hfj:fs[j]?=some fs[j]:=Array.getElem?_eq_getElem hj
 obtain⟨ho,hc⟩:=hone_of hone j _ hfj
 have h1:=hg j _ hfj
 have hjc:j<cs.length:=by omega
 have e:(cs.drop j).take 1=[cs[j]]:=by
  rw [List.drop_eq_getElem_cons hjc];rfl
 have hx:xs[j]?=some (xs[j]'(by omega)):=List.getElem?_eq_getElem (by omega)
 rw [ho,hc,e,hx]at h1
 obtain⟨z,hz,_,hw⟩:=DataW.trod_int (hk j _ hfj) h1
 simp only [List.cons.injEq,and_true]at hz
 exact⟨z,by rw [List.getElem?_eq_getElem hjc,hz],hw⟩
end
end Go.Gl
namespace Go.Proofs.YteacgfeiedcdiaaGreatDoor
set_option linter.unusedVariables false
set_option maxRecDepth 100000
open Go.ChangeShapes Go.WideShapes Go.ChangeAt Go.RowKit Go.Deep Go.Gl
section
variable {H:Type}{enc:TypeId×Value→H}{P:Program}{W:World}
theorem trod_list{t e:TypeId}{q:IntKind}{fuel:Nat}{v:Value}{y:DataW H×List MemPlace}(ht:P.underlying t=some (.slice e))(he:P.underlying e=some (.int q))(hc:P.cellsOf e=1)
  (h:DataW.trod enc P W 0 (fun _=>true) true fuel t [v]=some y):∃A c,∃l:List Int,v=.slice A l.length c∧l.length≤9223372036854775807∧Sl W A l.length (fun j=>.int q (l.getD j 0))∧∀z,z∈l→(Lit.int q z).wf=true:=by
 rcases open_ints ht he hc h with⟨hcs,hx⟩ | ⟨a,len,cap,zs,hcs,_,hl,hm,hz,hx,hcell,hwz⟩
 ·injection hcs with h1 _
  subst h1
  exact⟨none,0,[],rfl,Nat.zero_le _,fun h=>absurd h (by decide),fun z hz=>by cases hz⟩
 ·injection hcs with h1 _
  subst h1
  simp only [if_true]at hz
  have hlen:(zs.take len).length=len:=by rw [List.length_take];omega
  refine⟨some a,cap,zs.take len,by rw [hlen],by rw [hlen];unfold maxLen at hm;omega,fun hn=>?_,fun z hz=>hwz z (List.mem_of_mem_take hz)⟩
  rw [hlen]at hn ⊢
  obtain⟨b,off,rfl,hat⟩:=ints_at hcell (by omega)
  have h0:=hat 0 (by omega)
  refine⟨b,off,rfl,lt_of_cell h0,fun j hj=>?_⟩
  have:=hat j (by omega)
  have e:(zs.take len).getD j 0=zs.getD j 0:=by
   rw [List.getD_eq_getElem?_getD,List.getD_eq_getElem?_getD,List.getElem?_take_of_lt hj]
  rw [this]
  show some (Value.int q (zs.getD j 0))=some (Value.int q ((zs.take len).getD j 0))
  rw [e]
theorem one_cell{cs:List Value}{j:Nat}(h:j<cs.length):(cs.drop j).take 1=[cs[j]]:=by
 rw [List.drop_eq_getElem_cons h];rfl
end
theorem thing_fields:∃f0 f1 f2:Field,Tryz.prog.underlying 62=some (.struct #[f0,f1,f2])∧oneCellFields Tryz.prog #[f0,f1,f2]=true∧Tryz.prog.cellsOf 62=3∧Tryz.prog.underlying f0.type=some (.int .i64)∧f1.type=31∧f2.type=60:=
 ⟨_,_,_,Tryz.underlying62,by kernel_rfl,by kernel_rfl,by kernel_rfl,rfl,rfl⟩
theorem plan_fields:∃f0 f1 f2:Field,Tryz.prog.underlying 27=some (.struct #[f0,f1,f2])∧f0.offset=0∧f1.offset=14∧f2.offset=15∧f0.type=23∧f1.type=24∧f2.type=25∧Tryz.prog.cellsOf 27=16∧Tryz.prog.cellsOf 23=14∧Tryz.prog.cellsOf 24=1∧Tryz.prog.cellsOf 25=1:=
 ⟨_,_,_,Tryz.underlying27,rfl,rfl,rfl,rfl,rfl,rfl,by kernel_rfl,by kernel_rfl,by kernel_rfl,by kernel_rfl⟩
theorem config_fields:∃fs:Array Field,Tryz.prog.underlying 23=some (.struct fs)∧oneCellFields Tryz.prog fs=true∧Tryz.prog.cellsOf 23=fs.size∧fs.size=14∧∀(j:Nat) f,fs[j]?=some f→Tryz.prog.underlying f.type=some (.int .i64):=
 ⟨_,Tryz.underlying23,by kernel_rfl,by kernel_rfl,by kernel_rfl,by
  intro j f hf
  have hm:=List.mem_of_getElem? ((Array.getElem?_toList ..).trans hf)
  simp at hm
  rcases hm with rfl | rfl | rfl | rfl | rfl | rfl | rfl | rfl | rfl | rfl | rfl | rfl | rfl | rfl
  all_goals exact Tryz.underlying3⟩
theorem open_plan{H:Type}{enc:TypeId×Value→H}{W:World}{r:Reach}{b:Nat}{v:Value}{d:DataW H}{pl:List MemPlace}
  (hv:Value.okWide Tryz.prog W r b 27 v) (h:DataW.Trod enc Tryz.prog W 0 (fun _=>true) true 27 v d pl):∃(Q:PA) (p:Pl),v=Q.val p∧PlAt W Q p:=by
 obtain⟨f0,f1,f2,hs,o0,o1,o2,y0,y1,y2,n16,n14,n1,n2⟩:=plan_fields
 obtain⟨cs,rfl,hsz⟩:=okWide_struct hs hv
 obtain⟨fuel,hf⟩:=h
 obtain⟨xs,m,_,_,hl,hlen,hg⟩:=DataW.trod_struct hs hf
 have hcl:cs.toList.length=16:=by simp;omega
 have g0:=hg 0 f0 rfl
 have g1:=hg 1 f1 rfl
 have g2:=hg 2 f2 rfl
 rw [show(Value.agg cs).cells.toList=cs.toList from rfl]at g0 g1 g2
 rw [o0,y0,n14]at g0
 rw [o1,y1,n1,one_cell (by omega)]at g1
 rw [o2,y2,n2,one_cell (by omega)]at g2
 have hx:∀j (hj:j<3),xs[j]?=some (xs[j]'(by simp at hlen;omega)):=fun j hj=>List.getElem?_eq_getElem _
 rw [hx 0 (by omega)]at g0
 rw [hx 1 (by omega)]at g1
 rw [hx 2 (by omega)]at g2
 obtain⟨fs,e1,e2,e3,e4,e5⟩:=config_fields
 obtain⟨_,hc⟩:=cells_kinds (ks:=fun _=>.i64) e1 e2 e3 e5 g0
 have hcf:∀j,j<14→∃z:Int,cs.toList[j]?=some (.int .i64 z):=fun j hj=>by
  obtain⟨z,hz,_⟩:=hc j (by omega)
  rw [List.getElem?_take_of_lt (by omega),List.getElem?_drop,Nat.zero_add]at hz
  exact⟨z,hz⟩
 have hcz:∃z:Nat→Int,∀j,j<14→cs.toList[j]?=some (.int .i64 (z j)):=
  ⟨fun j=>if hj:j<14 then Classical.choose (hcf j hj) else 0,fun j hj=>by
   simp only [hj,dif_pos]
   exact Classical.choose_spec (hcf j hj)⟩
 obtain⟨z,hz⟩:=hcz
 obtain⟨t0,t1,t2,u1,u2,u3,u4,u5,u6⟩:=thing_fields
 have hthings:∃(A:Option Addr) (n c tb tof:Nat) (T:Nat→PT) (rA dA:Nat→Option Addr) (rc dc:Nat→Nat),cs.toList[14]'(by omega)=.slice A n c∧n≤9223372036854775807∧(0<n→A=some ⟨tb,tof,none⟩) ∧
   ∀i,i<n→W.cell? ⟨tb,tof+i*3,none⟩=some (.int .i64 (T i).st)∧W.cell? ⟨tb,tof+i*3+1,none⟩=some (.slice (rA i) (T i).rf.length (rc i))∧W.cell? ⟨tb,tof+i*3+2,none⟩=some (.slice (dA i) (T i).dt.length (dc i)) ∧
    (T i).rf.length≤9223372036854775807∧(T i).dt.length≤9223372036854775807∧Sl W (rA i) (T i).rf.length (fun j=>.int .i64 ((T i).rf.getD j 0))∧Sl W (dA i) (T i).dt.length (fun j=>.int .u64 ((T i).dt.getD j 0))∧∀j,0≤(T i).dt.getD j 0∧(T i).dt.getD j 0<18446744073709551616:=by
  rcases open_slice_fields Tryz.underlying24 u1 u2 u3 g1 with⟨hcs,_⟩ | ⟨a,len,cap,m',D,Pl,hcs,_,hl',hm',hmm,_,hi⟩
  ·injection hcs with h1 _
   exact⟨none,0,0,0,0,fun _=>⟨0,[],[]⟩,fun _=>none,fun _=>none,fun _=>0,fun _=>0,h1,Nat.zero_le _,fun h=>absurd h (by decide),fun i hi=>absurd hi (by omega)⟩
  ·injection hcs with h1 _
   simp only [if_true]at hmm
   subst hmm
   have each:∀i,∃q:PT×(Option Addr×Nat)×(Option Addr×Nat),i<len→W.cell? (a.add (i*3))=some (.int .i64 q.1.st)∧W.cell? (a.add (i*3+1))=some (.slice q.2.1.1 q.1.rf.length q.2.1.2)∧W.cell? (a.add (i*3+2))=some (.slice q.2.2.1 q.1.dt.length q.2.2.2) ∧
     q.1.rf.length≤9223372036854775807∧q.1.dt.length≤9223372036854775807∧Sl W q.2.1.1 q.1.rf.length (fun j=>.int .i64 (q.1.rf.getD j 0))∧Sl W q.2.2.1 q.1.dt.length (fun j=>.int .u64 (q.1.dt.getD j 0))∧∀j,0≤q.1.dt.getD j 0∧q.1.dt.getD j 0<18446744073709551616:=fun i=>by
    by_cases hil:i<len
    ·obtain⟨ys,n',_,_,_,hf'⟩:=hi i (by omega)
     obtain⟨v0,w0,c0,_,r0⟩:=hf' 0 t0 rfl
     obtain⟨v1,w1,c1,_,r1⟩:=hf' 1 t1 rfl
     obtain⟨v2,w2,c2,_,r2⟩:=hf' 2 t2 rfl
     obtain⟨z0,e0,_,_⟩:=DataW.trod_int u4 r0
     simp only [List.cons.injEq,and_true]at e0
     subst e0
     rw [u5]at r1
     rw [u6]at r2
     obtain⟨A1,d1,l1,rfl,b1,s1,_⟩:=trod_list Tryz.underlying31 Tryz.underlying3 (by kernel_rfl) r1
     obtain⟨A2,d2,l2,rfl,b2,s2,x2⟩:=trod_list Tryz.underlying60 Tryz.underlying87 (by kernel_rfl) r2
     refine⟨⟨⟨z0,l1,l2⟩,⟨A1,d1⟩,⟨A2,d2⟩⟩,fun _=>⟨c0,c1,c2,b1,b2,s1,s2,fun j=>?_⟩⟩
     show 0≤l2.getD j 0∧l2.getD j 0<18446744073709551616
     rw [List.getD_eq_getElem?_getD]
     by_cases hj:j<l2.length
     ·rw [List.getElem?_eq_getElem hj]
      exact u64_bounds (x2 _ (List.getElem_mem hj))
     ·rw [List.getElem?_eq_none (by omega)]
      exact⟨by decide,by decide⟩
    ·exact⟨⟨⟨0,[],[]⟩,⟨none,0⟩,⟨none,0⟩⟩,fun h=>absurd h hil⟩
   obtain⟨f,hfun⟩:∃f:Nat→PT×(Option Addr×Nat)×(Option Addr×Nat),∀i,i<len→W.cell? (a.add (i*3))=some (.int .i64 (f i).1.st)∧W.cell? (a.add (i*3+1))=some (.slice (f i).2.1.1 (f i).1.rf.length (f i).2.1.2)∧W.cell? (a.add (i*3+2))=some (.slice (f i).2.2.1 (f i).1.dt.length (f i).2.2.2) ∧
     (f i).1.rf.length≤9223372036854775807∧(f i).1.dt.length≤9223372036854775807∧Sl W (f i).2.1.1 (f i).1.rf.length (fun j=>.int .i64 ((f i).1.rf.getD j 0))∧Sl W (f i).2.2.1 (f i).1.dt.length (fun j=>.int .u64 ((f i).1.dt.getD j 0))∧∀j,0≤(f i).1.dt.getD j 0∧(f i).1.dt.getD j 0<18446744073709551616:=
    ⟨fun i=>Classical.choose (each i),fun i=>Classical.choose_spec (each i)⟩
   clear each
   obtain⟨b0,off,spot⟩:=a
   refine⟨some ⟨b0,off,spot⟩,len,m',b0,off,fun i=>(f i).1,fun i=>(f i).2.1.1,fun i=>(f i).2.2.1,fun i=>(f i).2.1.2,fun i=>(f i).2.2.2,h1,by unfold maxLen at hm';omega,fun hn=>?_,fun i hil=>?_⟩
   ·have h0:=(hfun 0 hn).1
    have hspot:spot=none:=by
     have:=World.cell?_spot h0
     simpa [Addr.add] using this
    rw [hspot]
   ·obtain⟨q0,q1,q2,q3⟩:=hfun i hil
    have hspot:spot=none:=by
     have:=World.cell?_spot (hfun 0 (by omega)).1
     simpa [Addr.add] using this
    subst hspot
    rw [Go.WideShapes.add_plain]at q0 q1 q2
    exact⟨q0,q1,q2,q3⟩
 have hhands:∃(A:Option Addr) (n c hb ho:Nat) (Hs:Nat→List Int) (lA:Nat→Option Addr) (lc:Nat→Nat),cs.toList[15]'(by omega)=.slice A n c∧n≤9223372036854775807∧(0<n→A=some ⟨hb,ho,none⟩) ∧
   ∀i,i<n→W.cell? ⟨hb,ho+i,none⟩=some (.slice (lA i) (Hs i).length (lc i))∧(Hs i).length≤9223372036854775807∧Sl W (lA i) (Hs i).length (fun j=>.int .i64 ((Hs i).getD j 0)):=by
  rcases open_slice Tryz.underlying25 g2 with⟨hcs,_⟩ | ⟨a,len,cap,m',n',D,Pl,hcs,_,hl',hm',hmm,_,hi⟩
  ·injection hcs with h1 _
   exact⟨none,0,0,0,0,fun _=>[],fun _=>none,fun _=>0,h1,Nat.zero_le _,fun h=>absurd h (by decide),fun i hi=>absurd hi (by omega)⟩
  ·injection hcs with h1 _
   simp only [if_true]at hmm
   subst hmm
   have hone:Tryz.prog.cellsOf 31=1:=by kernel_rfl
   rw [hone]at hi
   have each:∀i,∃q:List Int×Option Addr×Nat,i<len→W.cell? (a.add i)=some (.slice q.2.1 q.1.length q.2.2)∧q.1.length≤9223372036854775807∧Sl W q.2.1 q.1.length (fun j=>.int .i64 (q.1.getD j 0)):=fun i=>by
    by_cases hil:i<len
    ·obtain⟨cs',hc',ht'⟩:=hi i (by omega)
     obtain⟨_,hcl',hat⟩:=World.cells?_some hc'
     match cs',hcl' with
     | [v0],_=>
      obtain⟨A1,d1,l1,rfl,b1,s1,_⟩:=trod_list Tryz.underlying31 Tryz.underlying3 (by kernel_rfl) ht'
      have h5:=hat 0 (by decide)
      rw [Go.Deep.add_add]at h5
      refine⟨⟨l1,A1,d1⟩,fun _=>⟨?_,b1,s1⟩⟩
      simpa using h5
    ·exact⟨⟨[],none,0⟩,fun h=>absurd h hil⟩
   obtain⟨f,hfun⟩:∃f:Nat→List Int×Option Addr×Nat,∀i,i<len→W.cell? (a.add i)=some (.slice (f i).2.1 (f i).1.length (f i).2.2)∧(f i).1.length≤9223372036854775807∧Sl W (f i).2.1 (f i).1.length (fun j=>.int .i64 ((f i).1.getD j 0)):=
    ⟨fun i=>Classical.choose (each i),fun i=>Classical.choose_spec (each i)⟩
   clear each
   obtain⟨b0,off,spot⟩:=a
   refine⟨some ⟨b0,off,spot⟩,len,m',b0,off,fun i=>(f i).1,fun i=>(f i).2.1,fun i=>(f i).2.2,h1,by unfold maxLen at hm';omega,fun hn=>?_,fun i hil=>?_⟩
   ·have h0:=(hfun 0 hn).1
    have hspot:spot=none:=by
     have:=World.cell?_spot h0
     simpa [Addr.add] using this
    rw [hspot]
   ·obtain⟨q0,q1,q2⟩:=hfun i hil
    have hspot:spot=none:=by
     have:=World.cell?_spot (hfun 0 (by omega)).1
     simpa [Addr.add] using this
    subst hspot
    rw [Go.WideShapes.add_plain]at q0
    exact⟨q0,q1,q2⟩
 obtain⟨A,n,c,tb,tof,T,rA,dA,rc,dc,k1,k2,k3,k4⟩:=hthings
 obtain⟨B,m2,c2,hb,hof,Hs,lA,lc,l1,l2,l3,l4⟩:=hhands
 refine⟨⟨tb,tof,c,A,rA,rc,dA,dc,hb,hof,c2,B,lA,lc⟩,⟨⟨z 0,z 1,z 2,z 3,z 4,z 5,z 6,z 7,z 8,z 9,z 10,z 11,z 12,z 13⟩,n,T,m2,Hs⟩,?_,?_⟩
 ·unfold PA.val
  congr 1
  have e14:cs.toList[14]?=some (.slice A n c):=by rw [List.getElem?_eq_getElem (by omega),k1]
  have e15:cs.toList[15]?=some (.slice B m2 c2):=by rw [List.getElem?_eq_getElem (by omega),l1]
  apply Array.toList_inj.1
  refine List.ext_getElem? fun j=>?_
  by_cases hj:j<16
  ·match j,hj with
   | 0,_=>exact hz 0 (by omega)
   | 1,_=>exact hz 1 (by omega)
   | 2,_=>exact hz 2 (by omega)
   | 3,_=>exact hz 3 (by omega)
   | 4,_=>exact hz 4 (by omega)
   | 5,_=>exact hz 5 (by omega)
   | 6,_=>exact hz 6 (by omega)
   | 7,_=>exact hz 7 (by omega)
   | 8,_=>exact hz 8 (by omega)
   | 9,_=>exact hz 9 (by omega)
   | 10,_=>exact hz 10 (by omega)
   | 11,_=>exact hz 11 (by omega)
   | 12,_=>exact hz 12 (by omega)
   | 13,_=>exact hz 13 (by omega)
   | 14,_=>exact e14
   | 15,_=>exact e15
   | q+16,hq=>exact absurd hq (by omega)
  ·rw [List.getElem?_eq_none (by omega),List.getElem?_eq_none (by simp;omega)]
 ·exact⟨k2,l2,k3,fun i hi=>(k4 i hi).1,fun i hi=>(k4 i hi).2.1,fun i hi=>(k4 i hi).2.2.1,fun i hi=>(k4 i hi).2.2.2.1,fun i hi=>(k4 i hi).2.2.2.2.1,fun i hi=>(k4 i hi).2.2.2.2.2.1,fun i hi=>(k4 i hi).2.2.2.2.2.2.1,fun i hi=>(k4 i hi).2.2.2.2.2.2.2,l3,fun i hi=>(l4 i hi).1,fun i hi=>(l4 i hi).2.1,fun i hi=>(l4 i hi).2.2⟩
open Go.ChangeShapes Go.WideShapes Go.ChangeAt Go.RowKit Go.Gl
theorem own:ownKnob Tryz.prog.godebug=none:=by kernel_rfl
theorem gTab:Tryz.prog.globalNamed "math/bits.deBruijn64tab"=some 0:=by kernel_rfl
theorem gTabType:(Tryz.prog.globals[0]?).map (·.type)=some 221:=by kernel_rfl
theorem cellsTab:Tryz.prog.cellsOf 221=64:=by kernel_rfl
theorem cellsByte:Tryz.prog.cellsOf 5=1:=by kernel_rfl
def tabInts:List Int:=Lib.deBruijn64tab.map fun (x:Nat)=>(x:Int)
theorem table{W:World}(h:laidMetH Tryz.prog [("math/bits.deBruijn64tab",Rows.laid_math_bits_deBruijn64tab)] W):Tab W:=by
 have ht:Lib.TabIs Tryz.prog W "math/bits.deBruijn64tab" .u8 tabInts:=
  Lib.tabIs_of_head (rest:=[]) gTab gTabType Tryz.underlying221 Tryz.underlying5 cellsByte cellsTab h
 intro k hk
 have:=ht.cell gTab k (by show k<64;exact hk)
 rw [this]
 congr 2
 unfold tabInts
 rw [List.getD_eq_getElem?_getD,List.getElem?_map,List.getD_eq_getElem?_getD]
 cases Lib.deBruijn64tab[k]? <;> rfl
theorem laidOut:laidOutB Tryz.prog=true:=by kernel_rfl
noncomputable def laidWorld (os:Os):World:=
 { World.holding Tryz.prog os ⟨#[],#[],[]⟩with heap:=(World.holding Tryz.prog os ⟨#[],#[],[]⟩).heap.modify 0 fun
   | .cells _ t frozen=>.cells (tabInts.map fun z=>Value.int .u8 z).toArray t frozen
   | o=>o }
end Go.Proofs.YteacgfeiedcdiaaGreatDoor
