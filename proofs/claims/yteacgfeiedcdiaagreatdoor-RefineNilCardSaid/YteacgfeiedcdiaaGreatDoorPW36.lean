/- Several texts joined (pack.py): Vp L14Br Tt Tu Tn. -/
import Derived.Test.YteacgfeiedcdiaaGreatDoorPW22
import Derived.Test.YteacgfeiedcdiaaGreatDoorPW25
import Derived.Test.YteacgfeiedcdiaaGreatDoorProg
import Derived.Test.YteacgfeiedcdiaaGreatDoorPW00
import Derived.WalkKit
import Derived.BigQuiet
import Derived.Test.YteacgfeiedcdiaaGreatDoorPW26
import Derived.Test.YteacgfeiedcdiaaGreatDoorPW28
import Derived.Test.YteacgfeiedcdiaaGreatDoorPW35
import Derived.Test.YteacgfeiedcdiaaGreatDoorPW34
import Derived.Test.YteacgfeiedcdiaaGreatDoorPW29
namespace Go.Proofs.YteacgfeiedcdiaaGreatDoor
set_option linter.unusedVariables false
set_option linter.unusedSimpArgs false
set_option maxRecDepth 100000
open Go.RowKit Go.Gl HS
def cfg14:Cfg:=⟨6,4,3,1,4,0,0,1,0,0,0,0,0,0⟩
def f14:Nat→Nat:=upd (updRow (fun _=>0) 0 3 (fun _=>0)) 0 (objW 3 1)
def h14:HS:=⟨cfg14.geo,64,4,256,f14,put1 (fun _=>0) 0 3,put1 (fun k=>((k*64:Nat):Int)) 0 3,1,fun _=>0,fun _=>0,setN (fun _=>[]) 0 [1]⟩
open Go.RowKit Go.Gl
theorem range_one:∀ {n i:Nat},i<n→(List.range n).filter (fun j=>j==i)=[i]:=by
 intro n
 induction n with
 | zero=>intro i h;omega
 | succ m ih=>
  intro i h
  rw [List.range_succ,List.filter_append]
  by_cases e:i=m
  ·subst e
   have h0:(List.range i).filter (fun j=>j==i)=[]:=List.filter_eq_nil_iff.2 fun j hj=>by have:=List.mem_range.1 hj;simp;omega
   rw [h0]
   simp
  ·rw [ih (by omega)]
   have h1:(m==i)=false:=by simp;omega
   simp [h1]
section
variable {p:Pl}{A:Nat→Nat}{n:Nat}{w d:Nat→Nat→Nat}{h:HS}{s k:Nat}
theorem Lay.left(l:Lay p A n w d h)(r:Int):∀T,h.leftL r T=[]:=fun T=>by
 induction T with
 | zero=>rfl
 | succ T ih=>
  unfold HS.leftL
  rw [ih,l.bx,l.be,if_neg (by omega)]
  rfl
theorem Lay.endOf(l:Lay p A n w d h)(r:Nat):h.endOf r=h.t r:=by unfold HS.endOf;rw [if_pos (l.left _ _)]
theorem Lay.objAt(l:Lay p A n w d h){i:Nat}(hi:i<n):ObjAt h (A i) (p.T i).sz (p.T i).rf.length:=by
 have h1:=l.alt hi
 have hz:=sz_pos (p.T i)
 have hzm:=l.zm i hi
 have hp:(p.T i).rf.length<(p.T i).sz:=by unfold PT.sz;omega
 have of:=of_objW (s:=(p.T i).sz) (p:=(p.T i).rf.length) ⟨hz,hzm⟩ hp
 have hat:=at_in (n:=h.n) (f:=h.f) (k:=A i) h1
 rw [l.hdr i hi,of]at hat
 have hin:=(l.top i hi (A i+(p.T i).sz-1) (by omega) (by omega)).1
 exact⟨h1,by rw [l.hdr i hi,of];exact hat.1.symm,hat.2.trans rfl,by rw [hat.1];rfl,by rw [hat.1];rfl,by rw [hat.1];rfl,hz,hzm,hp,by omega⟩
theorem Lay.row_none(l:Lay p A n w d h){r:Nat}(hs:h.s r=0∨h.s r=5):rowsOf A h.W n r=[]:=by
 refine List.eq_nil_iff_forall_not_mem.2 fun i hi=>?_
 obtain⟨h1,h2⟩:=rowsOf_mem.1 hi
 have h3:=l.st i h1
 have h4:=l.y i h1
 rw [h2]at h3
 omega
theorem Lay.row_big(l:Lay p A n w d h){r:Nat}(hr:r<h.R)(hs:h.s r=4):∃i,i<n∧A i=r*h.W∧(p.T i).st=4∧rowsOf A h.W n r=[i]:=by
 obtain⟨i,h1,h2,h3⟩:=l.hum r hr hs
 have hW:=l.W1
 refine⟨i,h1,h2,h3,?_⟩
 have hall:∀j,j<n→(A j / h.W==r)=(j==i):=fun j hj=>by
  by_cases e:j=i
  ·subst e
   have:A j / h.W=r:=by rw [h2];exact Nat.mul_div_cancel _ (by omega)
   simp [this]
  ·have hne:¬ A j / h.W=r:=fun e2=>by
    have h4:=l.st j hj
    rw [e2,hs]at h4
    have h5:=(l.big j hj h4.symm).1
    rw [e2]at h5
    have z1:=sz_pos (p.T j)
    have z2:=sz_pos (p.T i)
    exact e (l.dis j i hj h1 (A j) (Nat.le_refl _) (by omega) (by omega) (by omega))
   have h6:(A j / h.W==r)=false:=by simpa using hne
   have h7:(j==i)=false:=by simpa using e
   rw [h6,h7]
 unfold rowsOf
 have e1:(List.range n).filter (fun j=>A j / h.W==r)=(List.range n).filter (fun j=>j==i):=List.filter_congr fun j hj=>hall j (List.mem_range.1 hj)
 rw [e1]
 exact range_one h1
theorem Lay.rows(l:Lay p A n w d h)(ok:h.Ok s k){r:Nat}(hr:r<h.R):h.rowL (r:Int)=(rowsOf A h.W n r).map (fun i=>(A i:Int))∧h.rowE (r:Int)=0:=by
 have hW:=l.W1
 have hs:=ok.sok r hr
 have ht:=ok.tok r hr
 have hb:=ok.base_le hr
 unfold HS.rowL HS.rowE
 have hin:¬ ¬ (0≤(r:Int)∧(r:Int)<(h.R:Int)):=by omega
 rw [if_neg hin,if_neg hin,Int.toNat_natCast]
 by_cases h3:h.s r=1∨h.s r=2∨h.s r=3
 ·rw [if_pos h3,if_pos h3,l.endOf r]
  have hrow:=l.row r hr h3
  have ha:=hrow.ans (n:=h.n) (by omega)
  have e:(((h.t r).toNat:Nat):Int)=h.t r:=by omega
  rw [e]at ha
  exact ha
 ·rw [if_neg h3,if_neg h3]
  by_cases h4:h.s r=4
  ·rw [if_pos h4,if_pos h4]
   obtain⟨i,i1,i2,i3,i4⟩:=l.row_big hr h4
   have ho:=l.objAt i1
   have hE:=ho.objE
   have hV:=ho.objV
   rw [i2]at hE hV
   have hbig:h.bigE r=0:=by
    unfold HS.bigE
    rw [if_neg (by rw [hE];exact fun h=>h rfl),hV,if_pos]
    intro q q1 q2
    have h5:=(l.big i i1 i3).2 q q1 (by
     have q2:(q:Int)<h.g.spanOf ((p.T i).sz:Int):=q2
     have hz:=sz_pos (p.T i)
     unfold Geo.spanOf at q2
     rw [if_neg (by omega),ok.rw]at q2
     have hWp:(0:Int)<(h.W:Int):=by omega
     have h6:=Int.mul_lt_of_lt_ediv (a:=(q:Int)-1 ) (b:=(((p.T i).sz:Int)-1)) (c:=(h.W:Int)) hWp
     have h7:(q:Int)≤(((p.T i).sz:Int)-1) / (h.W:Int):=by omega
     have h8:=Int.mul_le_of_le_ediv hWp h7
     have h9:((q*h.W:Nat):Int)=(q:Int)*(h.W:Int):=Int.natCast_mul _ _
     omega)
    have e2:A i / h.W=r:=by rw [i2];exact Nat.mul_div_cancel _ (by omega)
    rw [e2]at h5
    unfold HS.stateOf
    rw [if_pos ⟨by omega,by omega⟩]
    have e3:((r:Int)+(q:Int)).toNat=r+q:=by omega
    rw [e3]
    exact h5.2
   rw [hbig,if_pos rfl,i4]
   exact⟨by simp [i2],rfl⟩
  ·rw [if_neg h4,if_neg h4,l.row_none (by omega)]
   exact⟨rfl,rfl⟩
theorem Lay.mem(l:Lay p A n w d h)(ok:h.Ok s k){a:Int}:a∈h.objL↔∃i,i<n∧a=(A i:Int):=by
 rw [mem_objL]
 constructor
 ·rintro⟨r,hr,h1,_⟩
  rw [(l.rows ok hr).1]at h1
  obtain⟨i,hi,rfl⟩:=List.mem_map.1 h1
  exact⟨i,(rowsOf_mem.1 hi).1,rfl⟩
 ·rintro⟨i,hi,rfl⟩
  refine⟨A i / h.W,l.rlt (l.alt hi),?_,(l.objAt hi).objE⟩
  rw [(l.rows ok (l.rlt (l.alt hi))).1]
  exact List.mem_map.2 ⟨i,rowsOf_mem.2 ⟨hi,rfl⟩,rfl⟩
theorem Lay.refs(l:Lay p A n w d h){i:Nat}(hi:i<n):h.refsAt (A i:Int)=(List.range (p.T i).rf.length).map fun j=>(w i j:Int):=by
 rw [(l.objAt hi).refs]
 refine List.map_congr_left fun j hj=>?_
 rw [l.ref i hi j (List.mem_range.1 hj)]
def Leads(A:Nat→Nat)(n:Nat)(v:Nat):Prop:=v=0∨∃q,q<n∧v=A q+1
theorem leads_lnk{A:Nat→Nat}{n:Nat}{r:Int}(h0:0≤r)(h1:r≤(n:Int)):Leads A n (lnk A r):=by
 unfold lnk
 by_cases e:r=0
 ·rw [if_pos e];exact .inl rfl
 ·rw [if_neg e];exact .inr ⟨r.toNat-1,by omega,rfl⟩
theorem Lay.known(l:Lay p A n w d h)(ok:h.Ok s k){v:Nat}:((v:Int)=0∨(v:Int)-1∈h.objL)↔Leads A n v:=by
 rw [l.mem ok]
 constructor
 ·rintro(h1 | ⟨q,hq,h1⟩)
  ·exact .inl (by omega)
  ·exact .inr ⟨q,hq,by omega⟩
 ·rintro(h1 | ⟨q,hq,h1⟩)
  ·exact .inl (by omega)
  ·exact .inr ⟨q,hq,by omega⟩
theorem Lay.sound(l:Lay p A n w d h)(ok:h.Ok s k):h.Sound↔(∀i,i<n→∀j,j<(p.T i).rf.length→Leads A n (w i j))∧∀t,t<h.T→∀r,r∈h.st t→Leads A n r.toNat:=by
 constructor
 ·intro hs
  refine⟨fun i hi j hj=>?_,fun t ht r hr=>?_⟩
  ·have h1:=hs.refs (A i:Int) ((l.mem ok).2 ⟨i,hi,rfl⟩)
   rw [l.refs hi]at h1
   exact(l.known ok).1 (h1 _ (List.mem_map.2 ⟨j,List.mem_range.2 hj,rfl⟩))
  ·have h1:=hs.stk t ht r hr
   have h2:=(ok.rok t ht r hr).1
   have e:((r.toNat:Nat):Int)=r:=by omega
   refine(l.known ok).1 ?_
   rw [e]
   exact h1
 ·rintro⟨h1,h2⟩
  refine⟨fun r hr=>(l.rows ok hr).2,fun a ha=>?_,fun t ht r hr=>?_⟩
  ·obtain⟨i,hi,rfl⟩:=(l.mem ok).1 ha
   rw [l.refs hi]
   intro r hr
   obtain⟨j,hj,rfl⟩:=List.mem_map.1 hr
   exact(l.known ok).2 (h1 i hi j (List.mem_range.1 hj))
  ·have h3:=(ok.rok t ht r hr).1
   have e:((r.toNat:Nat):Int)=r:=by omega
   have:=(l.known ok).2 (h2 t ht r hr)
   rw [e]at this
   exact this
end
theorem HE.looked{W w w':World}{L:HL}{X:HX}{h:HS}{x:HT}{s k:Nat}{E:Blks}(H:HE W w L X h x s k E)(hr:Hr w' L h s k)(hf:Fr [L.ab] w w'):HE W w' L X h x s k E:=by
 obtain⟨own,h1,h2⟩:=H
 obtain⟨k1,k2⟩:=h1.looked hr hf
 exact⟨own,k1,fun q hq=>⟨(k2.blk (h2 q hq).1 (h2 q hq).2.1).1,(h2 q hq).2⟩⟩
theorem into14(x:Int){n:Nat}(hn:0<n):∃I:Nat,(x.tmod (n:Int)+(n:Int)) % (n:Int)=(I:Int)∧-(n:Int)<x.tmod (n:Int)∧x.tmod (n:Int)<(n:Int)∧I<n:=by
 have h1:=Int.lt_tmod_of_pos x (show(0:Int)<(n:Int)by omega)
 have h2:=Int.tmod_lt_of_pos x (show(0:Int)<(n:Int)by omega)
 obtain⟨F,hF⟩:=Int.eq_ofNat_of_zero_le (Int.emod_nonneg (x.tmod (n:Int)+(n:Int)) (show(n:Int)≠0 by omega))
 have h3:=Int.emod_lt_of_pos (x.tmod (n:Int)+(n:Int)) (show(0:Int)<(n:Int)by omega)
 exact⟨F,hF,h1,h2,by have hF:(x.tmod (n:Int)+(n:Int)) % (n:Int)=(F:Int):=hF;omega⟩
open Classical in
noncomputable def goodB (A:Nat→Nat) (tv:Int) (j:Nat):Bool:=decide (tv=0∨∃m,m<j∧tv=(A m:Int)+1)
namespace HeapBroken
end HeapBroken
set_option linter.unusedVariables false
set_option linter.unusedSimpArgs false
set_option maxRecDepth 100000
open Go.RowKit Go.Gl HS
def OffsR(p:Pl)(A:Nat→Nat)(cw n:Nat)(O:Nat→Int):Prop:=∀c:Nat,¬ O c=0→∃i,i<n∧3≤(p.T i).st∧O c=(A i:Int)+1∧A i≤c*cw
theorem Trk.offs{p:Pl}{x0:HT}{R W:Nat}(h0:x0.O=fun _=>0)(hcw:1≤x0.cw):∀ {i:Nat} {s t o:Nat→Int} {A:Nat→Nat} {x:HT},Trk p x0 R W i s t o A x→x.cw=x0.cw∧OffsR p A x0.cw i x.O
 | 0,_,_,_,_,_,h=>by
  obtain⟨-,-,-,rfl⟩:=h
  exact⟨rfl,fun c hc=>absurd (by rw [h0]) hc⟩
 | i+1,_,_,_,A,x,h=>by
  obtain⟨s',t',o',A',x',a,h1,h2,rfl,rfl⟩:=h
  obtain⟨e1,e2⟩:=Trk.offs h0 hcw h1
  have old:∀c:Nat,¬ x'.O c=0→∃j,j<i+1∧3≤(p.T j).st∧x'.O c=(setA A' i a j:Int)+1∧setA A' i a j≤c*x0.cw:=fun c hc=>by
   obtain⟨j,j1,j2,j3,j4⟩:=e2 c hc
   have:setA A' i a j=A' j:=by unfold setA;rw [if_neg (by omega)]
   exact⟨j,by omega,j2,by rw [this];exact j3,by rw [this];exact j4⟩
  by_cases h3:3≤(p.T i).st
  ·rw [if_pos h3]
   refine⟨e1,fun c hc=>?_⟩
   show ∃j,j<i+1∧3≤(p.T j).st∧obj x'.cw x'.O a (p.T i).sz c=_∧_
   have hc:¬ obj x'.cw x'.O a (p.T i).sz c=0:=hc
   unfold obj put2 at hc ⊢
   rw [e1]at hc ⊢
   by_cases hin:cb x0.cw a≤c∧c<cb x0.cw (a+(p.T i).sz)
   ·rw [if_pos hin]
    have hai:setA A' i a i=a:=by unfold setA;rw [if_pos rfl]
    have:¬ c*x0.cw<a:=fun q=>by have:=(cb_lt (cw:=x0.cw) (a:=a) (k:=c) hcw).2 q;omega
    exact⟨i,by omega,h3,by rw [hai],by rw [hai];omega⟩
   ·rw [if_neg hin]at hc ⊢
    exact old c hc
  ·rw [if_neg h3]
   exact⟨e1,old⟩
theorem isRow_split{f:Nat→Nat}:∀ {l:List Int} {a b:Nat} {x:Nat},IsRow f a l b→(x:Int)∈l→∃l1 l2,l=l1++l2∧IsRow f a l1 x∧IsRow f x l2 b
 | [],_,_,_,_,hx=>by cases hx
 | y::l,a,b,x,r,hx=>by
  have r0:=r
  obtain⟨rfl,s,h1,h2,h3,h4,h5⟩:=r
  by_cases e:x=a
  ·subst e
   exact⟨[],(x:Int)::l,rfl,rfl,r0⟩
  ·have hx:(x:Int)∈l:=(List.mem_cons.1 hx).resolve_left (by omega)
   obtain⟨l1,l2,rfl,e1,e2⟩:=isRow_split h5 hx
   have hxb:=isRow_ge h5 _ hx
   exact⟨(a:Int)::l1,l2,rfl,⟨rfl,s,h1,h2,h3,by omega,e1⟩,e2⟩
theorem isRow_fit{f:Nat→Nat}:∀ {l:List Int} {a b:Nat} {x:Nat},IsRow f a l b→(x:Int)∈l→a≤x∧(x:Int)+(Hd.of ((f x:Nat):Int)).size≤(b:Int)
 | [],_,_,_,_,hx=>by cases hx
 | y::l,a,b,x,r,hx=>by
  obtain⟨rfl,s,h1,h2,h3,h4,h5⟩:=r
  rcases List.mem_cons.1 hx with e | hx
  ·obtain rfl:x=a:=by omega
   exact⟨Nat.le_refl _,by omega⟩
  ·obtain⟨k1,k2⟩:=isRow_fit h5 hx
   exact⟨by omega,k2⟩
theorem bigAt_of{s:Nat→Int}:∀(m:Nat) {q:Nat},s q=4→(∀j,1≤j→j≤m→s (q+j)=5)→bigAt s (q+m)=some q
 | 0,0,h,_=>by unfold bigAt;rw [if_pos h]
 | 0,q+1,h,_=>by
  show bigAt s (q+1)=_
  unfold bigAt
  rw [if_neg (by omega),if_pos h]
 | m+1,q,h,h5=>by
  show bigAt s (q+m+1)=_
  unfold bigAt
  rw [if_pos (show s (q+m+1)=5 from h5 (m+1) (by omega) (Nat.le_refl _))]
  exact bigAt_of m h (fun j j1 j2=>h5 j j1 (by omega))
section
variable {p:Pl}{A:Nat→Nat}{L:HL}{h:HS}{s k:Nat}{w d:Nat→Nat→Nat}{n:Nat}
theorem Lay.field(l:Lay p A n w d h)(ok:h.Ok s k){i j:Nat}(hi:i<n)(h3:3≤(p.T i).st)(hj:j<(p.T i).rf.length) :
  ((p.T i).st=3∧h.s ((A i+1+j) / h.W)=3∧A i / h.W=(A i+1+j) / h.W)∨((p.T i).st=4∧bigAt h.s ((A i+1+j) / h.W)=some (A i / h.W)∧A i=A i / h.W*h.W∧(h.s ((A i+1+j) / h.W)=4∨h.s ((A i+1+j) / h.W)=5)):=by
 have hW:=l.W1
 have hy:=l.y i hi
 have hst:=l.st i hi
 have o:=l.objAt hi
 have hps:=o.ps
 have hal:=l.alt hi
 have hR:=l.rlt hal
 by_cases e:(p.T i).st=3
 ·left
  rw [e]at hst
  have row:=l.row (A i / h.W) hR (.inr (.inr hst))
  have hm:(A i:Int)∈(rowsOf A h.W n (A i / h.W)).map fun i=>(A i:Int):=List.mem_map.2 ⟨i,rowsOf_mem.2 ⟨hi,rfl⟩,rfl⟩
  obtain⟨k1,k2⟩:=isRow_fit row hm
  have e1:=(at_in (n:=h.n) (f:=h.f) hal).1
  have e2:=o.size
  rw [e1]at e2
  have ht:=l.tok (A i / h.W) hR
  have er:(A i+1+j) / h.W=A i / h.W:=div_in hW (by omega) (by omega)
  exact⟨e,by rw [er];exact hst,er.symm⟩
 ·right
  have e4:(p.T i).st=4:=by omega
  obtain⟨b1,b2⟩:=l.big i hi e4
  rw [e4]at hst
  obtain⟨m,hm⟩:∃m,(A i+1+j) / h.W=A i / h.W+m:=by
   have:A i / h.W≤(A i+1+j) / h.W:=Nat.div_le_div_right (by omega)
   exact⟨(A i+1+j) / h.W-A i / h.W,by omega⟩
  have hd1:=Nat.div_mul_le_self (A i+1+j) h.W
  rw [hm,Nat.add_mul]at hd1
  have h5:∀q,1≤q→q≤m→h.s (A i / h.W+q)=5:=fun q q1 q2=>by
   have:=Nat.mul_le_mul_right h.W q2
   exact(b2 q q1 (by omega)).2
  refine⟨e4,by rw [hm];exact bigAt_of m hst h5,b1,?_⟩
  rw [hm]
  cases m with
  | zero=>exact .inl hst
  | succ m=>exact .inr (h5 (m+1) (by omega) (Nat.le_refl _))
set_option maxHeartbeats 1600000 in
theorem Laid.card_one(l:Laid p A L h)(ok:h.Ok s k){cw per c:Nat}(dm:GDims h.g h.W h.R cw per){O:Nat→Int}(hO:OffsR p A cw p.n O)(hc:c<h.R*per) :
  (∀m,h.askE m (h.begP O cw c)=0)∧∃H:Nat→Bool,EndsN h per h.n (h.begP O cw c,oneS per c fun _=>false) (oneS per c H) ∧
   ∀r,H r=true↔∃i j,i<p.n∧3≤(p.T i).st∧j<(p.T i).rf.length∧(A i+1+j) / cw=c∧h.LeadsTo (A i+1+j) r:=by
 have ly:=l.lay
 have hW:=ly.W1
 have hcw:=dm.c1
 have hfn:c*cw<h.n:=by
  rw [ok.nn,dm.wp,← Nat.mul_assoc]
  exact Nat.mul_lt_mul_of_pos_right hc (by omega)
 have hR:c*cw / h.W<h.R:=ly.rlt hfn
 have hcr:∀v,v / cw=c→v / h.W=c*cw / h.W:=fun v hv=>by
  have e1:c*cw / h.W=c / per:=by rw [dm.wp,Nat.mul_comm per cw,← Nat.div_div_eq_div_mul,Nat.mul_div_cancel _ (by omega)]
  rw [e1,dm.wp,Nat.mul_comm per cw,← Nat.div_div_eq_div_mul,hv]
 obtain⟨r,hr⟩:∃r,r=c*cw / h.W:=⟨_,rfl⟩
 rw [← hr]at hR hcr
 have fld:∀i j,i<p.n→3≤(p.T i).st→j<(p.T i).rf.length→(A i+1+j) / cw=c→((p.T i).st=3∧h.s r=3∧A i / h.W=r)∨((p.T i).st=4∧bigAt h.s r=some (A i / h.W)∧A i=A i / h.W*h.W∧(h.s r=4∨h.s r=5)):=fun i j hi h3 hj hv=>by
  have:=ly.field ok hi h3 hj
  rw [hcr _ hv]at this
  exact this
 have hend:h.endOf r=h.t r:=by unfold HS.endOf;rw [ly.left];simp
 have hthing:∀i,i<p.n→0≤(atH h.n h.f (A i:Int)).ptrs∧(A i:Int)+1+(atH h.n h.f (A i:Int)).ptrs≤(h.n:Int):=fun i hi=>by
  have o:=ly.objAt hi
  have:=o.ptrs
  have:=o.ps
  have:=o.fit
  omega
 have none0:(¬ ∃i j,i<p.n∧3≤(p.T i).st∧j<(p.T i).rf.length∧(A i+1+j) / cw=c)→∀q:Pla,q.more=false→(∀m,h.askE m q=0)∧∃H:Nat→Bool,EndsN h per h.n (q,oneS per c fun _=>false) (oneS per c H) ∧
   ∀r,H r=true↔∃i j,i<p.n∧3≤(p.T i).st∧j<(p.T i).rf.length∧(A i+1+j) / cw=c∧h.LeadsTo (A i+1+j) r:=fun hno q hq=>by
  refine⟨fun m=>?_,_,(EndsN.done hq).le (Nat.zero_le _),fun r=>⟨fun q=>(by cases q),fun ⟨i,j,a1,a2,a3,a4,_⟩=>absurd ⟨i,j,a1,a2,a3,a4⟩ hno⟩⟩
  cases m with
  | zero=>rfl
  | succ m=>
   unfold HS.askE
   unfold Pla.more at hq
   rw [if_neg (by
    have:=(Bool.or_eq_false_iff.1 hq).2
    exact of_decide_eq_false this)]
 unfold HS.begP
 rw [← hr]
 by_cases h3:h.s r=3
 ·rw [if_pos h3,hend]
  have row:=ly.row r hR (.inr (.inr h3))
  have htk:=ly.tok r hR
  have hb:(((h.t r).toNat:Nat):Int)=h.t r:=by omega
  have hbn:=ok.base_le hR
  have mem:∀a:Nat,(a:Int)∈(rowsOf A h.W p.n r).map (fun i=>(A i:Int))→∃i,i<p.n∧a=A i∧A i / h.W=r:=fun a ha=>by
   obtain⟨i,hi,e⟩:=List.mem_map.1 ha
   obtain⟨i1,i2⟩:=rowsOf_mem.1 hi
   exact⟨i,i1,by omega,i2⟩
  have st3:∀i,i<p.n→A i / h.W=r→(p.T i).st=3:=fun i hi e=>by
   have:=ly.st i hi
   rw [e,h3]at this
   exact this.symm
  by_cases hfe:((c*cw:Nat):Int)<h.t r
  ·rw [if_pos hfe]
   have start:∃(b:Nat) (l1 l2:List Int),h.firstH O c r=(b:Int)∧(rowsOf A h.W p.n r).map (fun i=>(A i:Int))=l1++l2∧IsRow h.f (r*h.W) l1 b∧IsRow h.f b l2 (h.t r).toNat∧(b≤c*cw∨l1=[]):=by
    unfold HS.firstH
    by_cases hf:¬ O c=0∧h.g.regionOf (O c-1)=(r:Int)
    ·rw [if_pos hf]
     obtain⟨i,i1,i2,i3,i4⟩:=hO c hf.1
     have e:O c-1=(A i:Int):=by omega
     have hrg:=hf.2
     rw [e]at hrg ⊢
     have hi:A i / h.W=r:=by
      unfold Geo.regionOf at hrg
      rw [if_pos ⟨by omega,by rw [ok.wd];have:=ly.alt i1;omega⟩,ok.rw,← Int.natCast_ediv]at hrg
      omega
     obtain⟨l1,l2,q1,q2,q3⟩:=isRow_split row (x:=A i) (List.mem_map.2 ⟨i,rowsOf_mem.2 ⟨i1,hi⟩,rfl⟩)
     exact⟨A i,l1,l2,rfl,q1,q2,q3,.inl i4⟩
    ·rw [if_neg hf]
     exact⟨r*h.W,[],_,rfl,rfl,rfl,row,.inr rfl⟩
   obtain⟨b,l1,l2,hb0,hl,r1,r2,hle⟩:=start
   rw [hb0]
   refine⟨fun m=>ask_row m l2 r2 (by omega) rfl rfl (by show min _ _≤_;omega),?_⟩
   obtain⟨H,e1,e2⟩:=row_one (c:=c) ok dm l2 (H:=fun _=>false) (fun x hx=>by
    have hx':x∈(rowsOf A h.W p.n r).map (fun i=>(A i:Int)):=by rw [hl];exact List.mem_append_right _ hx
    obtain⟨i,hi,e⟩:=List.mem_map.1 hx'
    obtain⟨i1,i2⟩:=rowsOf_mem.1 hi
    exact⟨A i,e.symm,hthing i i1⟩)
   refine⟨H,?_,fun r'=>(e2 r').trans ⟨fun q=>q.elim (fun q=>by cases q) fun ⟨a,v,a1,a2,a3,a4,a5⟩=>?_,fun ⟨i,j,a1,a2,a3,a4,a5⟩=>.inr ?_⟩⟩
   ·have:=EndsN.row (per:=per) (σ:=oneS per c fun _=>false) l2 (p:=⟨((c*cw:Nat):Int),((c*cw+cw:Nat):Int),0,0,(b:Int),min (h.t r) ((c*cw+cw:Nat):Int),false⟩) r2 (by omega) rfl rfl (Int.le_refl _) (by show min _ _≤_;omega) (by
     show min (h.t r) ((c*cw+cw:Nat):Int)=_∨((c*cw+cw:Nat):Int)≤min (h.t r) ((c*cw+cw:Nat):Int)
     omega)
    rw [← e1]
    exact this.le (by omega)
   ·have ha:(a:Int)∈(rowsOf A h.W p.n r).map (fun i=>(A i:Int)):=by rw [hl];exact List.mem_append_right _ a1
    obtain⟨i,i1,rfl,i2⟩:=mem a ha
    have hp:=(ly.objAt i1).ptrs
    refine⟨i,v-(A i+1),i1,by rw [st3 i i1 i2];decide,by omega,?_,?_⟩
    ·rw [show A i+1+(v-(A i+1))=v by omega];exact a4
    ·rw [show A i+1+(v-(A i+1))=v by omega];exact a5
   ·rcases fld i j a1 a2 a3 a4 with⟨f1,f2,f3⟩ | ⟨f1,f2,f3,f4⟩
    ·have hm:(A i:Int)∈l1++l2:=by rw [← hl];exact List.mem_map.2 ⟨i,rowsOf_mem.2 ⟨a1,f3⟩,rfl⟩
     have o:=ly.objAt a1
     have hp:=o.ptrs
     rcases List.mem_append.1 hm with hm | hm
     ·exfalso
      have hfit:=(isRow_fit r1 hm).2
      have e5:=(at_in (n:=h.n) (f:=h.f) (ly.alt a1)).1
      have e6:=o.size
      rw [e5]at e6
      have:=o.ps
      rcases hle with hle | rfl
      ·have:(A i+1+j) / cw<c:=by
        rw [Nat.div_lt_iff_lt_mul (by omega)]
        omega
       omega
      ·cases hm
     ·exact⟨A i,A i+1+j,hm,by omega,by omega,a4,a5⟩
    ·omega
  ·rw [if_neg hfe]
   refine none0 (fun ⟨i,j,a1,a2,a3,a4⟩=>?_) _ rfl
   rcases fld i j a1 a2 a3 a4 with⟨f1,f2,f3⟩ | ⟨f1,f2,f3,f4⟩
   ·have hm:(A i:Int)∈(rowsOf A h.W p.n r).map (fun i=>(A i:Int)):=List.mem_map.2 ⟨i,rowsOf_mem.2 ⟨a1,f3⟩,rfl⟩
    have hfit:=(isRow_fit row hm).2
    have o:=ly.objAt a1
    have e5:=(at_in (n:=h.n) (f:=h.f) (ly.alt a1)).1
    have e6:=o.size
    rw [e5]at e6
    have:=o.ps
    have hv:=Nat.div_mul_le_self (A i+1+j) cw
    rw [a4]at hv
    omega
   ·omega
 ·rw [if_neg h3]
  by_cases h45:h.s r=4∨h.s r=5
  ·rw [if_pos h45]
   cases hb:bigAt h.s r with
   | none=>
    refine none0 (fun ⟨i,j,a1,a2,a3,a4⟩=>?_) _ rfl
    rcases fld i j a1 a2 a3 a4 with⟨f1,f2,f3⟩ | ⟨f1,f2,f3,f4⟩
    ·exact h3 f2
    ·rw [hb]at f2;cases f2
   | some q=>
    obtain⟨q1,q2⟩:=bigAt_in hb
    obtain⟨i,i1,i2,i3⟩:=ly.hum q (by omega) q2
    have o:=ly.objAt i1
    rw [i2]at o
    obtain⟨-,e2,e3⟩:=EndsN.big (per:=per) (σ:=oneS per c fun _=>false) (p:=⟨((c*cw:Nat):Int),((c*cw+cw:Nat):Int),0,0,((q*h.W:Nat):Int),((q*h.W+1:Nat):Int),true⟩) o rfl (Int.le_refl _) rfl
    refine⟨e3,?_⟩
    have ht:=hthing i i1
    rw [i2]at ht
    obtain⟨H,e4,e5⟩:=objRem_one (c:=c) (H:=fun _=>false) ok dm ht.1 ht.2
    refine⟨H,by rw [← e4];exact e2.le (by have:=o.fit;omega),fun r'=>(e5 r').trans ⟨fun z=>z.elim (fun z=>by cases z) fun ⟨v,a2,a3,a4,a5⟩=>?_,fun ⟨i',j,a1,a2,a3,a4,a5⟩=>.inr ?_⟩⟩
    ·have hp:=o.ptrs
     refine⟨i,v-(q*h.W+1),i1,by omega,by omega,?_,?_⟩
     ·rw [i2,show q*h.W+1+(v-(q*h.W+1))=v by omega];exact a4
     ·rw [i2,show q*h.W+1+(v-(q*h.W+1))=v by omega];exact a5
    ·rcases fld i' j a1 a2 a3 a4 with⟨f1,f2,f3⟩ | ⟨f1,f2,f3,f4⟩
     ·exact absurd f2 h3
     ·rw [hb]at f2
      injection f2 with f2
      rw [← f2]at f3
      have hp:=(ly.objAt a1).ptrs
      rw [f3]at hp a4 a5
      exact⟨q*h.W+1+j,by omega,by omega,a4,a5⟩
  ·rw [if_neg h45]
   refine none0 (fun ⟨i,j,a1,a2,a3,a4⟩=>?_) _ rfl
   rcases fld i j a1 a2 a3 a4 with⟨f1,f2,f3⟩ | ⟨f1,f2,f3,f4⟩
   ·exact h3 f2
   ·exact h45 f4
end
section
variable {p:Pl}{A:Nat→Nat}{L:HL}{h:HS}{s k:Nat}
theorem Laid.leads(l:Laid p A L h)(ok:h.Ok s k)(hr:p.Right){i j r:Nat}(hi:i<p.n)(hj:j<(p.T i).rf.length) :
  h.LeadsTo (A i+1+j) r↔∃q:Nat,(p.T i).rf.getD j 0=(q:Int)+1∧q<p.n∧A q / h.W=r∧(A i+1+j) / h.W≠r:=by
 have hf:=l.lay.ref i hi j hj
 have hrf:=(hr.t i hi).rf ((p.T i).rf.getD j 0) (by rw [List.getD_eq_getElem?_getD,List.getElem?_eq_getElem hj];exact List.getElem_mem hj)
 unfold HS.LeadsTo
 rw [hf]
 unfold lnk
 by_cases e:(p.T i).rf.getD j 0=0
 ·rw [if_pos e,e]
  constructor
  ·rintro⟨t,e1,_⟩;omega
  ·rintro⟨q,e1,_⟩;omega
 ·rw [if_neg e]
  constructor
  ·rintro⟨t,e1,e2,e3,e4⟩
   exact⟨((p.T i).rf.getD j 0).toNat-1,by omega,by omega,by rw [show A (((p.T i).rf.getD j 0).toNat-1)=t by omega];exact e3,e4⟩
  ·rintro⟨q,e1,e2,e3,e4⟩
   have hq:((p.T i).rf.getD j 0).toNat-1=q:=by omega
   rw [hq]
   exact⟨A q,rfl,l.lay.alt e2,e3,e4⟩
theorem Laid.card_any(l:Laid p A L h)(ok:h.Ok s k){cw per c:Nat}(dm:GDims h.g h.W h.R cw per){O:Nat→Int}(hO:OffsR p A cw p.n O)(hc:c<h.R*per) :
  (∀m,h.askE m (h.begP O cw c)=0)∧∀σ:RS,∃τ,EndsN h per h.n (h.begP O cw c,σ) τ:=by
 have ly:=l.lay
 have hW:=ly.W1
 have hcw:=dm.c1
 have hfn:c*cw<h.n:=by
  rw [ok.nn,dm.wp,← Nat.mul_assoc]
  exact Nat.mul_lt_mul_of_pos_right hc (by omega)
 have hR:c*cw / h.W<h.R:=ly.rlt hfn
 obtain⟨r,hr⟩:∃r,r=c*cw / h.W:=⟨_,rfl⟩
 rw [← hr]at hR
 have hend:h.endOf r=h.t r:=by unfold HS.endOf;rw [ly.left];simp
 have none0:∀q:Pla,q.more=false→(∀m,h.askE m q=0)∧∀σ:RS,∃τ,EndsN h per h.n (q,σ) τ:=fun q hq=>by
  refine⟨fun m=>?_,fun σ=>⟨σ,(EndsN.done hq).le (Nat.zero_le _)⟩⟩
  cases m with
  | zero=>rfl
  | succ m=>
   unfold HS.askE
   unfold Pla.more at hq
   rw [if_neg (by
    have:=(Bool.or_eq_false_iff.1 hq).2
    exact of_decide_eq_false this)]
 unfold HS.begP
 rw [← hr]
 by_cases h3:h.s r=3
 ·rw [if_pos h3,hend]
  have row:=ly.row r hR (.inr (.inr h3))
  have htk:=ly.tok r hR
  have hbn:=ok.base_le hR
  by_cases hfe:((c*cw:Nat):Int)<h.t r
  ·rw [if_pos hfe]
   have start:∃(b:Nat) (l2:List Int),h.firstH O c r=(b:Int)∧IsRow h.f b l2 (h.t r).toNat:=by
    unfold HS.firstH
    by_cases hf:¬ O c=0∧h.g.regionOf (O c-1)=(r:Int)
    ·rw [if_pos hf]
     obtain⟨i,i1,i2,i3,i4⟩:=hO c hf.1
     have e:O c-1=(A i:Int):=by omega
     have hrg:=hf.2
     rw [e]at hrg ⊢
     have hi:A i / h.W=r:=by
      unfold Geo.regionOf at hrg
      rw [if_pos ⟨by omega,by rw [ok.wd];have:=ly.alt i1;omega⟩,ok.rw,← Int.natCast_ediv]at hrg
      omega
     obtain⟨l1,l2,q1,q2,q3⟩:=isRow_split row (x:=A i) (List.mem_map.2 ⟨i,rowsOf_mem.2 ⟨i1,hi⟩,rfl⟩)
     exact⟨A i,l2,rfl,q3⟩
    ·rw [if_neg hf]
     exact⟨r*h.W,_,rfl,row⟩
   obtain⟨b,l2,hb0,r2⟩:=start
   rw [hb0]
   refine⟨fun m=>ask_row m l2 r2 (by omega) rfl rfl (by show min _ _≤_;omega),fun σ=>⟨l2.foldl (objRem h per ((c*cw:Nat):Int) ((c*cw+cw:Nat):Int)) σ,?_⟩⟩
   exact(EndsN.row (per:=per) (σ:=σ) l2 (p:=⟨((c*cw:Nat):Int),((c*cw+cw:Nat):Int),0,0,(b:Int),min (h.t r) ((c*cw+cw:Nat):Int),false⟩) r2 (by omega) rfl rfl (Int.le_refl _) (by show min _ _≤_;omega) (by
     show min (h.t r) ((c*cw+cw:Nat):Int)=_∨((c*cw+cw:Nat):Int)≤min (h.t r) ((c*cw+cw:Nat):Int)
     omega)).le (by omega)
  ·rw [if_neg hfe]
   exact none0 _ rfl
 ·rw [if_neg h3]
  by_cases h45:h.s r=4∨h.s r=5
  ·rw [if_pos h45]
   cases hb:bigAt h.s r with
   | none=>exact none0 ⟨((c*cw:Nat):Int),((c*cw+cw:Nat):Int),0,0,0,0,false⟩ rfl
   | some q=>
    obtain⟨q1,q2⟩:=bigAt_in hb
    obtain⟨i,i1,i2,i3⟩:=ly.hum q (by omega) q2
    have o:=ly.objAt i1
    rw [i2]at o
    refine⟨(EndsN.big (per:=per) (σ:=oneS per c fun _=>false) (p:=⟨((c*cw:Nat):Int),((c*cw+cw:Nat):Int),0,0,((q*h.W:Nat):Int),((q*h.W+1:Nat):Int),true⟩) o rfl (Int.le_refl _) rfl).2.2,fun σ=>⟨objRem h per ((c*cw:Nat):Int) ((c*cw+cw:Nat):Int) σ ((q*h.W:Nat):Int),?_⟩⟩
    exact((EndsN.big (per:=per) (σ:=σ) (p:=⟨((c*cw:Nat):Int),((c*cw+cw:Nat):Int),0,0,((q*h.W:Nat):Int),((q*h.W+1:Nat):Int),true⟩) o rfl (Int.le_refl _) rfl).2.1).le (by have:=o.fit;omega)
  ·rw [if_neg h45]
   exact none0 _ rfl
theorem oneS_cards{per c n r:Nat}{H:Nat→Bool}(hc:c<n*per):hasN (oneS per c H) per r c=H r:=by
 unfold hasN oneS
 by_cases e:H r=true
 ·simp [e]
 ·simp [e]
theorem oneS_none{per c x r:Nat}{H:Nat→Bool}(hx:x≠c):hasN (oneS per c H) per r x=false:=by
 unfold hasN oneS
 simp [hx]
 split <;> simp
end
open Go.RowKit Go.Gl
section
variable {p:Pl}{x0 x:HT}{R W i:Nat}{s t o:Nat→Int}{A:Nat→Nat}
theorem room_claim{Y j z:Nat}(hY:Y≤3)(nf:NoFit W t o Y z)(lf:LowFree s R j):RoomR R W s t o z (Y:Int) (some (put1 s j (Y:Int),put1 t j (t j+(z:Int)),put1 o Y (j:Int),j*W)):=
 .inr ⟨by omega,Y,rfl,.inr ⟨nf,.inl ⟨j,lf,rfl⟩⟩⟩
theorem Trk.next(T:Trk p x0 R W i s t o A x){y:Int}{z:Nat}(hy:(p.T i).st=y)(hz:(p.T i).sz=z){s' t' o':Nat→Int}{a:Nat}(r:RoomR R W s t o z y (some (s',t',o',a))) :
  Trk p x0 R W (i+1) s' t' o' (setA A i a) (if 3≤y then { x with O:=obj x.cw x.O a z } else x):=
 ⟨s,t,o,A,x,a,T,by rw [hy,hz];exact r,rfl,by rw [hy,hz]⟩
theorem Trk.ok(T:Trk p x0 R W i s t o A x){y:Int}{z:Nat}(hy:(p.T i).st=y)(hz:(p.T i).sz=z){v:(Nat→Int)×(Nat→Int)×(Nat→Int)×Nat}(r:RoomR R W s t o z y (some v)){x':HT}{s' t' o':Nat→Int}{A':Nat→Nat}
  (T':Trk p x0 R W i s' t' o' A' x'):¬ RoomR R W s' t' o' (p.T i).sz (p.T i).st none:=fun hn=>by
 obtain⟨rfl,rfl,rfl,-,-⟩:=T.one T'
 rw [hy,hz]at hn
 cases r.one hn
theorem Trk.zero(p:Pl)(x0:HT)(R W:Nat)(A:Nat→Nat):Trk p x0 R W 0 (fun _=>0) (fun r=>((r*W:Nat):Int)) (fun _=>-1) A x0:=⟨rfl,rfl,rfl,rfl⟩
theorem trk_old_eden(h0:(p.T 0).st=3∧(p.T 0).sz=3)(h1:(p.T 1).st=1∧(p.T 1).sz=2) :
  (∀i x s t o A,i<2→Trk p x0 4 64 i s t o A x→¬ RoomR 4 64 s t o (p.T i).sz (p.T i).st none) ∧
  ∀x s t o A,Trk p x0 4 64 2 s t o A x→(s 0=3∧s 1=1∧s 2=0∧s 3=0)∧(t 0=3∧t 1=66∧t 2=128∧t 3=192)∧A 0=0∧A 1=64∧x={ x0 with O:=obj x0.cw x0.O 0 3 }:=by
 have T0:=Trk.zero p x0 4 64 (fun _=>0)
 have r0:RoomR 4 64 (fun _=>0) (fun r=>((r*64:Nat):Int)) (fun _=>-1) 3 ((3:Nat):Int) _:=room_claim (Y:=3) (j:=0) (by decide) (.inl rfl) ⟨by decide,rfl,fun j hj=>absurd hj (by omega)⟩
 have T1:=T0.next h0.1 h0.2 r0
 have r1:=room_claim (R:=4) (W:=64) (s:=put1 (fun _=>0) 0 ((3:Nat):Int)) (t:=put1 (fun r=>((r*64:Nat):Int)) 0 (((0*64:Nat):Int)+((3:Nat):Int))) (o:=put1 (fun _=>-1) 3 ((0:Nat):Int)) (Y:=1) (j:=1) (z:=2) (by decide) (.inl rfl)
  ⟨by decide,rfl,fun j hj=>by obtain rfl:j=0:=(by omega);decide⟩
 have T2:=T1.next h1.1 h1.2 r1
 refine⟨fun i x s t o A hi T=>?_,fun x s t o A T=>?_⟩
 ·have:i=0∨i=1:=by omega
  rcases this with rfl | rfl
  ·exact T0.ok h0.1 h0.2 r0 T
  ·exact T1.ok h1.1 h1.2 r1 T
 ·obtain⟨rfl,rfl,rfl,hA,rfl⟩:=T2.one T
  refine⟨⟨rfl,rfl,rfl,rfl⟩,⟨rfl,rfl,rfl,rfl⟩,?_,?_,?_⟩
  ·rw [← hA 0 (by decide)];rfl
  ·rw [← hA 1 (by decide)];rfl
  ·rw [if_neg (by decide),if_pos (by decide)]
end
end Go.Proofs.YteacgfeiedcdiaaGreatDoor
