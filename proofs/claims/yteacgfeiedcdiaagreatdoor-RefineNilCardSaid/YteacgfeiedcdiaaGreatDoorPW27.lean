/- Things laid in a heap, as numbers: what each placing and each store keeps. -/
import Derived.Test.YteacgfeiedcdiaaGreatDoorPW02
import Derived.Test.YteacgfeiedcdiaaGreatDoorPW10
import Derived.Test.YteacgfeiedcdiaaGreatDoorPW13
import Derived.Test.YteacgfeiedcdiaaGreatDoorPW26
import Derived.Deep.RegionHeld3
import Derived.Deep.CutRange
namespace Go.Proofs.YteacgfeiedcdiaaGreatDoor
set_option linter.unusedVariables false
set_option linter.unusedSimpArgs false
set_option maxRecDepth 100000
open Go.RowKit Go.Gl
theorem isRow_at{f f':Nat→Nat}{b:Nat}:∀ {l:List Int} {a:Nat},(∀x,x∈l→f' x.toNat=f x.toNat)→IsRow f a l b→IsRow f' a l b:=by
 intro l
 induction l with
 | nil=>intro a _ h;exact h
 | cons x l ih=>
  intro a hf h
  unfold IsRow at h ⊢
  obtain⟨hx,s,h1,h2,h3,h4,h5⟩:=h
  have e:f' a=f a:=by
   have:=hf x (by simp)
   rw [hx]at this
   simpa using this
  refine⟨hx,s,h1,?_,?_,h4,ih (fun y hy=>hf y (by simp [hy])) h5⟩
  ·rw [e];exact h2
  ·rw [e];exact h3
def rowsOf(A:Nat→Nat)(W k r:Nat):List Nat:=(List.range k).filter fun i=>A i / W==r
def setA(A:Nat→Nat)(k a:Nat):Nat→Nat:=fun i=>if i=k then a else A i
def set2(f:Nat→Nat→Nat)(i m v:Nat):Nat→Nat→Nat:=fun a b=>if a=i∧b=m then v else f a b
theorem rowsOf_mem{A:Nat→Nat}{W k r i:Nat}:i∈rowsOf A W k r↔i<k∧A i / W=r:=by
 unfold rowsOf
 simp
theorem rowsOf_set{A:Nat→Nat}{W k r a:Nat}:rowsOf (setA A k a) W (k+1) r=rowsOf A W k r++(if a / W=r then [k] else []):=by
 unfold rowsOf
 rw [List.range_succ,List.filter_append]
 congr 1
 ·refine List.filter_congr fun i hi=>?_
  have:i≠k:=by have:=List.mem_range.1 hi;omega
  simp [setA,this]
 ·by_cases e:a / W=r
  ·rw [if_pos e];simp [setA,e]
  ·rw [if_neg e];simp [setA,e]
structure Placed(h:HS)(s1 t1:Nat→Int)(a z:Nat)(y:Int):Prop where
 fit:a+z≤h.n
 new:∀u,a≤u→u<a+z→h.t (u / h.W)≤(u:Int)∧(u:Int)<t1 (u / h.W)
 mono:∀r,r<h.R→h.t r≤t1 r
 st:s1 (a / h.W)=y
 kept:∀r,r<h.R→r≠a / h.W→h.s r≠0→s1 r=h.s r∧t1 r=h.t r
 free:∀r,r<h.R→r≠a / h.W→h.s r=0→(s1 r=0∧t1 r=h.t r)∨s1 r=5
 ways:(y≠4∧(h.s (a / h.W)=y∨h.s (a / h.W)=0)∧h.t (a / h.W)=(a:Int)∧t1 (a / h.W)=((a+z:Nat):Int)) ∨
  (y=4∧h.s (a / h.W)=0∧a=a / h.W*h.W∧∀q,1≤q→q*h.W<z→a / h.W+q<h.R∧s1 (a / h.W+q)=5)
structure Lay(p:Pl)(A:Nat→Nat)(k:Nat)(w d:Nat→Nat→Nat)(h:HS):Prop where
 bx:h.bx=fun _=>0
 be:h.be=fun _=>0
 W1:1≤h.W
 nn:h.n=h.R*h.W
 tok:∀r,r<h.R→((r*h.W:Nat):Int)≤h.t r∧h.t r≤((r*h.W+h.W:Nat):Int)
 free:∀r,r<h.R→h.s r=0→h.t r=((r*h.W:Nat):Int)
 y:∀i,i<k→1≤(p.T i).st∧(p.T i).st≤4
 st:∀i,i<k→h.s (A i / h.W)=(p.T i).st
 row:∀r,r<h.R→(h.s r=1∨h.s r=2∨h.s r=3)→IsRow h.f (r*h.W) ((rowsOf A h.W k r).map fun i=>(A i:Int)) (h.t r).toNat
 big:∀i,i<k→(p.T i).st=4→A i=A i / h.W*h.W∧∀q,1≤q→q*h.W<(p.T i).sz→A i / h.W+q<h.R∧h.s (A i / h.W+q)=5
 hum:∀r,r<h.R→h.s r=4→∃i,i<k∧A i=r*h.W∧(p.T i).st=4
 top:∀i,i<k→∀u,A i≤u→u<A i+(p.T i).sz→u<h.n∧(u:Int)<h.t (u / h.W)
 dis:∀i j,i<k→j<k→∀u,A i≤u→u<A i+(p.T i).sz→A j≤u→u<A j+(p.T j).sz→i=j
 zm:∀i,i<k→(p.T i).sz≤1048576
 hdr:∀i,i<k→h.f (A i)=objW (p.T i).sz (p.T i).rf.length
 ref:∀i,i<k→∀j,j<(p.T i).rf.length→h.f (A i+1+j)=w i j
 dat:∀i,i<k→∀j,j<(p.T i).dt.length→h.f (A i+1+(p.T i).rf.length+j)=d i j
section
variable {p:Pl}{A:Nat→Nat}{k:Nat}{w d:Nat→Nat→Nat}{h:HS}{s1 t1:Nat→Int}{a:Nat}{y:Int}
theorem div_in{u r W:Nat}(hW:1≤W)(h1:r*W≤u)(h2:u<r*W+W):u / W=r:=by
 rw [Nat.div_eq_iff (by omega)]
 constructor
 ·exact h1
 ·have:r*W+W-1+1=r*W+W:=by omega
  omega
theorem Lay.rlt(l:Lay p A k w d h){u:Nat}(hu:u<h.n):u / h.W<h.R:=by
 rw [Nat.div_lt_iff_lt_mul l.W1,← l.nn]
 exact hu
theorem sz_pos(t:PT):1≤t.sz:=by unfold PT.sz;omega
theorem Lay.alt(l:Lay p A k w d h){i:Nat}(hi:i<k):A i<h.n:=(l.top i hi (A i) (Nat.le_refl _) (by have:=sz_pos (p.T i);omega)).1
theorem Lay.add(l:Lay p A k w d h){z:Nat}(hz:(p.T k).sz=z)(hzm:z≤1048576)(hy:(p.T k).st=y)(hy1:1≤y∧y≤4)(P:Placed h s1 t1 a z y)
  (htok:∀r,r<h.R→((r*h.W:Nat):Int)≤t1 r∧t1 r≤((r*h.W+h.W:Nat):Int)) :
  Lay p (setA A k a) (k+1) (fun i j=>if i=k then 0 else w i j) (fun i j=>if i=k then 0 else d i j) { h with s:=s1,t:=t1,f:=upd (updRow h.f a z (fun _=>0)) a (objW z (p.T k).rf.length) }:=by
 have hz1:1≤z:=by rw [← hz];exact sz_pos _
 have eA:∀i,i<k→setA A k a i=A i:=fun i hi=>by unfold setA;rw [if_neg (by omega)]
 have eK:setA A k a k=a:=by unfold setA;rw [if_pos rfl]
 have hW:=l.W1
 have hr0:a / h.W<h.R:=l.rlt (by have:=P.fit;omega)
 have far:∀i,i<k→∀u,A i≤u→u<A i+(p.T i).sz→¬ (a≤u∧u<a+z):=fun i hi u h1 h2 hu=>by
  have:=(l.top i hi u h1 h2).2
  have:=(P.new u hu.1 hu.2).1
  omega
 have hf:∀u,¬ (a≤u∧u<a+z)→upd (updRow h.f a z (fun _=>0)) a (objW z (p.T k).rf.length) u=h.f u:=fun u hu=>by
  unfold upd updRow
  rw [if_neg (by omega),if_neg (by omega)]
 have old:∀i,i<k→∀u,A i≤u→u<A i+(p.T i).sz→upd (updRow h.f a z (fun _=>0)) a (objW z (p.T k).rf.length) u=h.f u:=fun i hi u h1 h2=>hf u (far i hi u h1 h2)
 refine⟨l.bx,l.be,l.W1,l.nn,htok,?_,?_,?_,?_,?_,?_,?_,?_,?_,?_,?_,?_⟩
 ·intro r hr hs
  have hs:s1 r=0:=hs
  show t1 r=_
  by_cases e:r=a / h.W
  ·subst e;rw [P.st]at hs;omega
  ·by_cases e0:h.s r=0
   ·rcases P.free r hr e e0 with⟨_,h2⟩ | h2
    ·rw [h2];exact l.free r hr e0
    ·omega
   ·have:=(P.kept r hr e e0).1;omega
 ·intro i hi
  by_cases e:i=k
  ·subst e;rw [hy];exact hy1
  ·exact l.y i (by omega)
 ·intro i hi
  show s1 (setA A k a i / h.W)=_
  by_cases e:i=k
  ·subst e;rw [eK,hy];exact P.st
  ·have hik:i<k:=by omega
   rw [eA i hik]
   have h1:=l.st i hik
   have h2:=l.y i hik
   by_cases e0:A i / h.W=a / h.W
   ·rw [e0]at h1 ⊢
    rw [P.st]
    rcases P.ways with⟨_,h3,_⟩ | ⟨_,h3,_⟩ <;> omega
   ·rw [(P.kept _ (l.rlt (l.alt hik)) e0 (by omega)).1];exact h1
 ·intro r hr hs
  have hs:s1 r=1∨s1 r=2∨s1 r=3:=hs
  show IsRow _ (r*h.W) ((rowsOf (setA A k a) h.W (k+1) r).map fun i=>((setA A k a i:Nat):Int)) (t1 r).toNat
  have em:(rowsOf A h.W k r).map (fun i=>((setA A k a i:Nat):Int))=(rowsOf A h.W k r).map fun i=>(A i:Int):=
   List.map_congr_left fun i hi=>by rw [eA i (rowsOf_mem.1 hi).1]
  have hx:∀x,x∈((rowsOf A h.W k r).map fun i=>(A i:Int))→upd (updRow h.f a z (fun _=>0)) a (objW z (p.T k).rf.length) x.toNat=h.f x.toNat:=fun x hx=>by
   obtain⟨i,hi,rfl⟩:=List.mem_map.1 hx
   have hik:=(rowsOf_mem.1 hi).1
   exact old i hik _ (by simp) (by have:=sz_pos (p.T i);simp;omega)
  rw [rowsOf_set,List.map_append,em]
  by_cases e:r=a / h.W
  ·subst e
   rw [if_pos rfl]
   rw [P.st]at hs
   rcases P.ways with⟨_,h3,h4,h5⟩ | ⟨h3,_⟩
   ·rw [h5]
    have hb:IsRow (upd (updRow h.f a z (fun _=>0)) a (objW z (p.T k).rf.length)) (a / h.W*h.W) ((rowsOf A h.W k (a / h.W)).map fun i=>(A i:Int)) a:=by
     refine isRow_at hx ?_
     rcases h3 with h3 | h3
     ·have:=l.row _ hr (by rw [h3];exact hs)
      rw [h4]at this
      simpa using this
     ·have e0:rowsOf A h.W k (a / h.W)=[]:=by
       refine List.eq_nil_iff_forall_not_mem.2 fun i hi=>?_
       obtain⟨h6,h7⟩:=rowsOf_mem.1 hi
       have:=l.st i h6
       have:=l.y i h6
       rw [h7]at *
       omega
      rw [e0]
      have:=l.free _ hr h3
      show a / h.W*h.W=a
      omega
    have of:=of_objW (s:=z) (p:=(p.T k).rf.length) ⟨hz1,hzm⟩ (by rw [← hz];unfold PT.sz;omega)
    have e1:upd (updRow h.f a z (fun _=>0)) a (objW z (p.T k).rf.length) a=objW z (p.T k).rf.length:=by unfold upd;rw [if_pos rfl]
    have:=hb.snoc (s:=z) hz1 (by rw [e1,of];rfl) (by rw [e1,of];exact .inl rfl)
    have et:(((a+z:Nat):Int)).toNat=a+z:=Int.toNat_natCast _
    rw [et]
    simpa [eK] using this
   ·omega
  ·rw [if_neg (fun h=>e h.symm),List.map_nil,List.append_nil]
   by_cases e0:h.s r=0
   ·rcases P.free r hr e e0 with⟨h2,_⟩ | h2 <;> omega
   ·obtain⟨h2,h3⟩:=P.kept r hr e e0
    rw [h3]
    exact isRow_at hx (l.row r hr (by rw [← h2];exact hs))
 ·intro i hi h4
  show setA A k a i=setA A k a i / h.W*h.W∧∀q,1≤q→q*h.W<(p.T i).sz→setA A k a i / h.W+q<h.R∧s1 (setA A k a i / h.W+q)=5
  by_cases e:i=k
  ·subst e
   rw [eK]
   rcases P.ways with⟨h3,_⟩ | ⟨_,_,h5,h6⟩
   ·exact absurd (hy.symm.trans h4) h3
   ·refine⟨h5,fun q h7 h8=>h6 q h7 (by rwa [hz]at h8)⟩
  ·have hik:i<k:=by omega
   rw [eA i hik]
   obtain⟨h5,h6⟩:=l.big i hik h4
   refine⟨h5,fun q h7 h8=>?_⟩
   obtain⟨h9,h10⟩:=h6 q h7 h8
   refine⟨h9,?_⟩
   have hne:A i / h.W+q≠a / h.W:=fun e=>by
    rw [e]at h10
    rcases P.ways with⟨_,h3,_⟩ | ⟨_,h3,_⟩ <;> omega
   rw [(P.kept _ h9 hne (by omega)).1]
   exact h10
 ·intro r hr h4
  have h4:s1 r=4:=h4
  by_cases e:r=a / h.W
  ·subst e
   rw [P.st]at h4
   rcases P.ways with⟨h3,_⟩ | ⟨_,_,h5,_⟩
   ·exact absurd h4 h3
   ·exact⟨k,by omega,by rw [eK];exact h5,hy.trans h4⟩
  ·by_cases e0:h.s r=0
   ·rcases P.free r hr e e0 with⟨h2,_⟩ | h2 <;> omega
   ·obtain⟨i,h1,h2,h3⟩:=l.hum r hr ((P.kept r hr e e0).1.symm.trans h4)
    exact⟨i,by omega,by rw [eA i h1];exact h2,h3⟩
 ·intro i hi u h1 h2
  show u<h.n∧(u:Int)<t1 (u / h.W)
  by_cases e:i=k
  ·subst e
   rw [eK]at h1 h2
   rw [hz]at h2
   exact⟨by have:=P.fit;omega,(P.new u h1 h2).2⟩
  ·have hik:i<k:=by omega
   rw [eA i hik]at h1 h2
   obtain⟨h3,h4⟩:=l.top i hik u h1 h2
   exact⟨h3,Int.lt_of_lt_of_le h4 (P.mono _ (l.rlt h3))⟩
 ·intro i j hi hj u h1 h2 h3 h4
  by_cases e:i=k
  ·by_cases e':j=k
   ·omega
   ·have hjk:j<k:=by omega
    subst e
    rw [eK]at h1 h2
    rw [eA j hjk]at h3 h4
    exact absurd ⟨h1,by omega⟩ (far j hjk u h3 h4)
  ·have hik:i<k:=by omega
   rw [eA i hik]at h1 h2
   by_cases e':j=k
   ·subst e'
    rw [eK]at h3 h4
    exact absurd ⟨h3,by omega⟩ (far i hik u h1 h2)
   ·have hjk:j<k:=by omega
    rw [eA j hjk]at h3 h4
    exact l.dis i j hik hjk u h1 h2 h3 h4
 ·intro i hi
  by_cases e:i=k
  ·subst e;omega
  ·exact l.zm i (by omega)
 ·intro i hi
  show upd _ _ _ (setA A k a i)=_
  by_cases e:i=k
  ·subst e
   rw [eK,hz]
   unfold upd
   rw [if_pos rfl]
  ·have hik:i<k:=by omega
   rw [eA i hik,old i hik _ (Nat.le_refl _) (by have:=sz_pos (p.T i);omega)]
   exact l.hdr i hik
 ·intro i hi j hj
  show upd _ _ _ (setA A k a i+1+j)=_
  by_cases e:i=k
  ·subst e
   rw [eK,if_pos rfl]
   have:1+(p.T i).rf.length+(p.T i).dt.length=z:=hz
   unfold upd updRow
   rw [if_neg (by omega),if_pos (by omega)]
  ·have hik:i<k:=by omega
   have:(p.T i).sz=1+(p.T i).rf.length+(p.T i).dt.length:=rfl
   rw [eA i hik,if_neg e,old i hik _ (by omega) (by omega)]
   exact l.ref i hik j hj
 ·intro i hi j hj
  show upd _ _ _ (setA A k a i+1+(p.T i).rf.length+j)=_
  by_cases e:i=k
  ·subst e
   rw [eK,if_pos rfl]
   have:1+(p.T i).rf.length+(p.T i).dt.length=z:=hz
   unfold upd updRow
   rw [if_neg (by omega),if_pos (by omega)]
  ·have hik:i<k:=by omega
   have:(p.T i).sz=1+(p.T i).rf.length+(p.T i).dt.length:=rfl
   rw [eA i hik,if_neg e,old i hik _ (by omega) (by omega)]
   exact l.dat i hik j hj
theorem Lay.word(l:Lay p A k w d h){i m v:Nat}(hi:i<k)(hm:1+m<(p.T i).sz) :
  Lay p A k (fun a b=>if a=i∧b=m then v else w a b) (fun a b=>if a=i∧(p.T i).rf.length+b=m then v else d a b) { h with f:=upd h.f (A i+1+m) v }:=by
 have hne:∀j,j<k→∀u,A j≤u→u<A j+(p.T j).sz→(j≠i∨u≠A i+1+m)→upd h.f (A i+1+m) v u=h.f u:=fun j hj u h1 h2 h3=>by
  unfold upd
  rw [if_neg]
  intro e
  rcases h3 with h3 | h3
  ·exact h3 (l.dis j i hj hi u h1 h2 (by omega) (by omega))
  ·exact h3 e
 have hsz:∀j,(p.T j).sz=1+(p.T j).rf.length+(p.T j).dt.length:=fun _=>rfl
 refine⟨l.bx,l.be,l.W1,l.nn,l.tok,l.free,l.y,l.st,fun r hr hs=>isRow_at (fun x hx=>?_) (l.row r hr hs),l.big,l.hum,l.top,l.dis,l.zm,fun j hj=>?_,fun j hj b hb=>?_,fun j hj b hb=>?_⟩
 ·obtain⟨j,hj,rfl⟩:=List.mem_map.1 hx
  have hjk:=(rowsOf_mem.1 hj).1
  have:=sz_pos (p.T j)
  refine hne j hjk _ (by simp) (by simp;omega) ?_
  by_cases e:j=i
  ·subst e;right;simp;omega
  ·exact .inl e
 ·have:=sz_pos (p.T j)
  refine(hne j hj _ (Nat.le_refl _) (by omega) ?_).trans (l.hdr j hj)
  by_cases e:j=i
  ·subst e;right;omega
  ·exact .inl e
 ·show upd h.f (A i+1+m) v (A j+1+b)=_
  have:=hsz j
  by_cases e:j=i∧b=m
  ·obtain⟨rfl,rfl⟩:=e
   rw [if_pos ⟨rfl,rfl⟩]
   unfold upd
   rw [if_pos rfl]
  ·rw [if_neg e,hne j hj _ (by omega) (by omega)]
   ·exact l.ref j hj b hb
   ·by_cases e2:j=i
    ·subst e2;right;omega
    ·exact .inl e2
 ·show upd h.f (A i+1+m) v (A j+1+(p.T j).rf.length+b)=_
  have:=hsz j
  by_cases e:j=i∧(p.T i).rf.length+b=m
  ·obtain⟨rfl,rfl⟩:=e
   rw [if_pos ⟨rfl,rfl⟩]
   unfold upd
   rw [if_pos (by omega)]
  ·rw [if_neg e,hne j hj _ (by omega) (by omega)]
   ·exact l.dat j hj b hb
   ·by_cases e2:j=i
    ·subst e2;right;omega
    ·exact .inl e2
theorem Lay.same{w' d':Nat→Nat→Nat}(l:Lay p A k w d h)(hw:∀i,i<k→∀j,j<(p.T i).rf.length→w i j=w' i j)(hd:∀i,i<k→∀j,j<(p.T i).dt.length→d i j=d' i j):Lay p A k w' d' h:=
 ⟨l.bx,l.be,l.W1,l.nn,l.tok,l.free,l.y,l.st,l.row,l.big,l.hum,l.top,l.dis,l.zm,l.hdr,fun i hi j hj=>(l.ref i hi j hj).trans (hw i hi j hj),fun i hi j hj=>(l.dat i hi j hj).trans (hd i hi j hj)⟩
end
abbrev Blks:=List (Nat×TypeId×Array Value)
def HE(W w:World)(L:HL)(X:HX)(h:HS)(x:HT)(s k:Nat)(E:Blks):Prop:=
 ∃own,HpAt W w L X own h x s k∧∀q,q∈E→Blk w q.1 q.2.1 q.2.2∧own q.1=0∧W.heap.size≤q.1
section
variable {W w w':World}{L:HL}{X:HX}{h h':HS}{x x':HT}{s k:Nat}{E:Blks}
theorem HE.fr0(H:HE W w L X h x s k E)(hf:Fr [] w w'):HE W w' L X h x s k E:=by
 obtain⟨own,h1,h2⟩:=H
 exact⟨own,h1.fr0 hf,fun q hq=>⟨(h2 q hq).1.fr hf (by simp),(h2 q hq).2⟩⟩
theorem HE.blk(H:HE W w L X h x s k E){b:Nat}{t:TypeId}{cs:Array Value}(hq:(b,t,cs)∈E):Blk w b t cs:=by
 obtain⟨own,h1,h2⟩:=H
 exact(h2 _ hq).1
theorem HE.sub{E':Blks}(H:HE W w L X h x s k E)(hs:∀q,q∈E'→q∈E):HE W w L X h x s k E':=by
 obtain⟨own,h1,h2⟩:=H
 exact⟨own,h1,fun q hq=>h2 q (hs q hq)⟩
theorem HE.fr(H:HE W w L X h x s k E):Fr [] W w:=by
 obtain⟨own,h1,h2⟩:=H
 exact h1.fr
theorem HE.hr(H:HE W w L X h x s k E):Hr w L h s k:=by
 obtain⟨own,h1,h2⟩:=H
 exact h1.hr
theorem HE.new(H:HE W w L X h x s k E)(hf:Fr [] w w'){b:Nat}{t:TypeId}{cs:Array Value}(hb:Blk w' b t cs)(hb2:w.heap.size≤b):HE W w' L X h x s k ((b,t,cs)::E):=by
 obtain⟨own,h1,h2⟩:=H
 have hsz:=h1.fr.size
 have h0:own b=0:=by
  obtain⟨tg,FS,H,_⟩:=h1
  by_cases e:own b=0
  ·exact e
  ·have:=H.lt b e;omega
 refine⟨own,h1.fr0 hf,fun q hq=>?_⟩
 rcases List.mem_cons.1 hq with rfl | hq
 ·exact⟨hb,h0,by show W.heap.size≤b;omega⟩
 ·exact⟨(h2 q hq).1.fr hf (by simp),(h2 q hq).2⟩
theorem HE.alloc(H:HE W w L X h x s k E)(t:TypeId)(cs:Array Value):HE W (w.alloc (.cells cs t)) L X h x s k ((w.heap.size,t,cs)::E):=
 H.new ((Fr.refl _ _).alloc _) (Blk.new _ _ _) (Nat.le_refl _)
theorem HE.turn(hT:Tab W){b:Nat}{t:TypeId}{cs cs':Array Value}(H:HE W w L X h x s k ((b,t,cs)::E))(hf:Fr [b] w w')(hb:Blk w' b t cs')(hne:∀q,q∈E→q.1≠b):HE W w' L X h x s k ((b,t,cs')::E):=by
 obtain⟨own,h1,h2⟩:=H
 obtain⟨k1,k2,k3⟩:=h2 _ (List.mem_cons_self ..)
 have hlt:=hT.lt
 have k3:W.heap.size≤b:=k3
 refine⟨own,h1.other hf (fun y hy=>?_) (by simp;omega),fun q hq=>?_⟩
 ·simp at hy;subst hy;exact⟨k2,k3⟩
 ·rcases List.mem_cons.1 hq with rfl | hq
  ·exact⟨hb,k2,k3⟩
  ·exact⟨(h2 q (List.mem_cons_of_mem _ hq)).1.fr hf (by have:=hne q hq;simpa using this),(h2 q (List.mem_cons_of_mem _ hq)).2⟩
theorem HE.post{f:FuncId}{args:Array Value}{v:Value}(H:HE W w L X h x s k E)(hc:∀own,HpAt W w L X own h x s k→Calls Tryz.prog f args w (HpPost W w L X own h' x' s k v)) :
  Calls Tryz.prog f args w fun e w'=>e=.returned v∧HE W w' L X h' x' s k E:=by
 obtain⟨own,h1,h2⟩:=H
 refine(hc own h1).mono ?_
 rintro e w' ⟨own',rfl,g1,g2⟩
 refine⟨rfl,own',g1,fun q hq=>?_⟩
 obtain⟨k1,k2,k3⟩:=h2 q hq
 obtain⟨j1,j2⟩:=g2.blk k1 k2
 exact⟨j1,j2,k3⟩
theorem HE.ok(H:HE W w L X h x s k E):h.Ok s k:=H.hr.ok
theorem HE.size(H:HE W w L X h x s k E):W.heap.size≤w.heap.size:=H.fr.size
end
theorem placed_one{h:HS}{s k r a z:Nat}{y:Int}(ok:h.Ok s k)(hr:r<h.R)(hs:h.s r=y∨h.s r=0)(hy:y≠4)(ha:h.t r=(a:Int))(hz:1≤z)(hfit:a+z≤r*h.W+h.W) :
  Placed h (put1 h.s r y) (put1 h.t r (h.t r+(z:Int))) a z y∧∀q,q<h.R→((q*h.W:Nat):Int)≤put1 h.t r (h.t r+(z:Int)) q∧put1 h.t r (h.t r+(z:Int)) q≤((q*h.W+h.W:Nat):Int):=by
 have hW:1≤h.W:=by have:=ok.wpos;omega
 have h1:=ok.tok r hr
 have hd:∀u,a≤u→u<a+z→u / h.W=r:=fun u h2 h3=>div_in hW (by omega) (by omega)
 have hb:=ok.base_le hr
 have ea:a / h.W=r:=hd a (Nat.le_refl _) (by omega)
 refine⟨⟨by omega,fun u h2 h3=>?_,fun q hq=>?_,?_,fun q hq hne hs0=>?_,fun q hq hne hs0=>?_,.inl ⟨hy,?_,?_,?_⟩⟩,fun q hq=>?_⟩
 ·rw [hd u h2 h3];unfold put1;rw [if_pos rfl];omega
 ·unfold put1;split
  ·rename_i e;subst e;omega
  ·omega
 ·rw [ea];unfold put1;rw [if_pos rfl]
 ·rw [ea]at hne;unfold put1;rw [if_neg hne,if_neg hne];exact⟨rfl,rfl⟩
 ·rw [ea]at hne;unfold put1;rw [if_neg hne,if_neg hne];exact .inl ⟨hs0,rfl⟩
 ·rw [ea];exact hs
 ·rw [ea];exact ha
 ·rw [ea];unfold put1;rw [if_pos rfl,ha];omega
 ·unfold put1;split
  ·rename_i e;subst e;omega
  ·exact ok.tok q hq
theorem put1_same(f:Nat→Int)(r:Nat):put1 f r (f r)=f:=by
 funext j
 unfold put1
 split
 ·rename_i e;rw [e]
 ·rfl
theorem placed_run{h:HS}{s k f c z:Nat}(ok:h.Ok s k)(hfree:∀r,r<h.R→h.s r=0→h.t r=((r*h.W:Nat):Int))(hl:LowRun h.s h.R c f)(hc:1≤c)(hz1:(c-1)*h.W<z)(hz2:z≤c*h.W) :
  Placed h (put1 (put2 h.s f (f+c) fun _=>5) f 4) (put2 h.t f (f+c) (runTop h.W f z)) (f*h.W) z 4 ∧
   ∀q,q<h.R→((q*h.W:Nat):Int)≤put2 h.t f (f+c) (runTop h.W f z) q∧put2 h.t f (f+c) (runTop h.W f z) q≤((q*h.W+h.W:Nat):Int):=by
 have hW:1≤h.W:=by have:=ok.wpos;omega
 obtain⟨hfc,hfr,_⟩:=hl
 have nn:=ok.nn
 have m1:(f+c)*h.W≤h.R*h.W:=Nat.mul_le_mul_right _ hfc
 have m2:(f+c)*h.W=f*h.W+c*h.W:=Nat.add_mul _ _ _
 have ea:f*h.W / h.W=f:=Nat.mul_div_cancel _ (by omega)
 have base:∀q,f≤q→q<f+c→h.s q=0∧q*h.W<f*h.W+z:=fun q h1 h2=>by
  refine⟨hfr q h1 h2,?_⟩
  have m3:q*h.W≤(f+(c-1))*h.W:=Nat.mul_le_mul_right _ (by omega)
  rw [Nat.add_mul]at m3
  omega
 have tt:∀q,f≤q→q<f+c→put2 h.t f (f+c) (runTop h.W f z) q=runTop h.W f z q:=fun q h1 h2=>by unfold put2;rw [if_pos ⟨h1,h2⟩]
 have inn:∀u,f*h.W≤u→u<f*h.W+z→f≤u / h.W∧u / h.W<f+c:=fun u h1 h2=>by
  refine⟨(Nat.le_div_iff_mul_le (by omega)).2 h1,(Nat.div_lt_iff_lt_mul (by omega)).2 (by omega)⟩
 have dm:∀u,u / h.W*h.W≤u∧u<u / h.W*h.W+h.W:=fun u=>⟨Nat.div_mul_le_self _ _,Nat.lt_div_mul_add (by omega)⟩
 refine⟨⟨by omega,fun u h1 h2=>?_,fun q hq=>?_,?_,fun q hq hne hs0=>?_,fun q hq hne hs0=>?_,.inr ⟨rfl,?_,?_,fun q h1 h2=>?_⟩⟩,fun q hq=>?_⟩
 ·obtain⟨h3,h4⟩:=inn u h1 h2
  obtain⟨h5,h6⟩:=dm u
  rw [tt _ h3 h4,hfree _ (by omega) (base _ h3 h4).1]
  unfold runTop
  refine⟨by omega,?_⟩
  split <;> omega
 ·by_cases e:f≤q∧q<f+c
  ·obtain⟨h3,h4⟩:=base q e.1 e.2
   rw [tt q e.1 e.2,hfree q hq h3]
   unfold runTop
   split <;> omega
  ·unfold put2;rw [if_neg e];omega
 ·rw [ea];unfold put1;rw [if_pos rfl]
 ·rw [ea]at hne
  have e:¬ (f≤q∧q<f+c):=fun e=>hs0 (base q e.1 e.2).1
  unfold put1 put2;rw [if_neg hne,if_neg e,if_neg e];exact⟨rfl,rfl⟩
 ·rw [ea]at hne
  by_cases e:f≤q∧q<f+c
  ·right;unfold put1 put2;rw [if_neg hne,if_pos e]
  ·left;unfold put1 put2;rw [if_neg hne,if_neg e,if_neg e];exact⟨hs0,rfl⟩
 ·rw [ea];exact(base f (Nat.le_refl _) (by omega)).1
 ·rw [ea]
 ·rw [ea]
  have hqc:q<c:=by
   rcases Nat.lt_or_ge q c with hh | hh
   ·exact hh
   ·have:=Nat.mul_le_mul_right h.W hh;omega
  refine⟨by omega,?_⟩
  unfold put1 put2;rw [if_neg (by omega),if_pos (by omega)]
 ·by_cases e:f≤q∧q<f+c
  ·obtain⟨h3,h4⟩:=base q e.1 e.2
   rw [tt q e.1 e.2]
   unfold runTop
   split <;> omega
  ·unfold put2;rw [if_neg e];exact ok.tok q hq
def RmS(L:HL)(h:HS)(bx:Nat)(y:Int)(rA dA:Option Addr)(rn dn rc dc:Nat)(w':World):Prop:=w'.cell? ⟨L.hb,14,none⟩=some (.int .i64 h.g.words)∧w'.cell? ⟨L.hb,15,none⟩=some (.int .i64 h.g.rw)∧w'.cell? ⟨L.hb,16,none⟩=some (.int .i64 h.g.cw)∧w'.cell? ⟨L.hb,17,none⟩=some (.int .i64 h.g.regions)∧w'.cell? ⟨L.hb,18,none⟩=some (.int .i64 h.g.cards)∧w'.cell? ⟨L.hb,19,none⟩=some (.int .i64 h.g.max)∧w'.cell? ⟨L.hb,21,none⟩=some (.pointer (some ⟨L.tb,0,none⟩))∧w'.cell? ⟨bx,0,none⟩=some (.int .i64 y)∧w'.cell? ⟨bx,1,none⟩=some (.slice rA rn rc)∧w'.cell? ⟨bx,2,none⟩=some (.slice dA dn dc)
theorem HE.rms{W w:World}{L:HL}{X:HX}{h h':HS}{x:HT}{s k:Nat}{E:Blks}{bx:Nat}{y:Int}{rA dA:Option Addr}{rn dn rc dc:Nat}(hg:h'.g=h.g)
  (H:HE W w L X h' x s k ((bx,62,#[.int .i64 y,.slice rA rn rc,.slice dA dn dc])::E)):RmS L h bx y rA dA rn dn rc dc w:=by
 obtain⟨c0,c1,c2,c3,c4,c5⟩:=H.hr.geo
 have hb:=H.blk (List.mem_cons_self ..)
 rw [hg]at c0 c1 c2 c3 c4 c5
 exact⟨c0,c1,c2,c3,c4,c5,H.hr.cT,hb.cell 0,hb.cell 1,hb.cell 2⟩
def OpenOk(o:Nat→Int)(h:HS):Prop:=∀Y,1≤Y→Y≤3→o Y=-1∨∃r:Nat,r<h.R∧o Y=(r:Int)∧h.s r=(Y:Int)
def RoomP(W:World)(L:HL)(X:HX)(h:HS)(x:HT)(s k ob z:Nat)(y:Int)(E:Blks)(e:Ending)(w':World):Prop:=
 (∃(a:Nat) (s1 t1 o':Nat→Int),e=.returned (.tuple #[.int .i64 (a:Int),.bool true])∧Placed h s1 t1 a z y∧(∀q,q<h.R→((q*h.W:Nat):Int)≤t1 q∧t1 q≤((q*h.W+h.W:Nat):Int)) ∧
  HE W w' L X { h with s:=s1,t:=t1 } x s k ((ob,3,rowV .i64 4 o')::E)∧OpenOk o' { h with s:=s1,t:=t1 }) ∨
 (∃v h' o',e=.returned (.tuple #[v,.bool false])∧HE W w' L X h' x s k ((ob,3,rowV .i64 4 o')::E))
def NoFit(W:Nat)(t o:Nat→Int)(Y z:Nat):Prop:=o Y=-1∨∃r:Nat,o Y=(r:Int)∧¬ t r+(z:Int)≤((r*W+W:Nat):Int)
def RoomR(R W:Nat)(s t o:Nat→Int)(z:Nat)(y:Int)(v:Option ((Nat→Int)×(Nat→Int)×(Nat→Int)×Nat)):Prop:=
 (y=4∧∃c:Nat,(c:Int)=spanE W (z:Int)∧((∃f,LowRun s R c f∧v=some (put1 (put2 s f (f+c) fun _=>5) f 4,put2 t f (f+c) (runTop W f z),o,f*W))∨(NoRun s R c∧v=none))) ∨
 (y≠4∧∃Y:Nat,y=(Y:Int)∧((∃r a:Nat,o Y=(r:Int)∧t r=(a:Int)∧t r+(z:Int)≤((r*W+W:Nat):Int)∧v=some (s,put1 t r (t r+(z:Int)),o,a)) ∨
  (NoFit W t o Y z∧((∃j,LowFree s R j∧v=some (put1 s j (Y:Int),put1 t j (t j+(z:Int)),put1 o Y (j:Int),j*W))∨(NoneFree s R∧v=none)))))
theorem lowRun_no{s:Nat→Int}{n c f:Nat}(h:LowRun s n c f)(h2:NoRun s n c):False:=h2 f h.1 h.2.1
theorem lowFree_no{s:Nat→Int}{n j:Nat}(h:LowFree s n j)(h2:NoneFree s n):False:=h2 j h.1 h.2.1
theorem RoomR.one{R W:Nat}{s t o:Nat→Int}{z:Nat}{y:Int}{v v':Option ((Nat→Int)×(Nat→Int)×(Nat→Int)×Nat)}(h:RoomR R W s t o z y v)(h':RoomR R W s t o z y v'):v=v':=by
 rcases h with⟨h1,c,h2,h3⟩ | ⟨h1,Y,h2,h3⟩
 ·rcases h' with⟨k1,c',k2,k3⟩ | ⟨k1,_⟩
  ·obtain rfl:c=c':=by omega
   rcases h3 with⟨f,h4,h5⟩ | ⟨h4,h5⟩
   ·rcases k3 with⟨f',k4,k5⟩ | ⟨k4,k5⟩
    ·rw [h5,k5,h4.unique k4]
    ·exact(lowRun_no h4 k4).elim
   ·rcases k3 with⟨f',k4,k5⟩ | ⟨k4,k5⟩
    ·exact(lowRun_no k4 h4).elim
    ·rw [h5,k5]
  ·exact absurd h1 k1
 ·rcases h' with⟨k1,_⟩ | ⟨k1,Y',k2,k3⟩
  ·exact absurd k1 h1
  ·obtain rfl:Y=Y':=by omega
   rcases h3 with⟨r,a,h4,h5,h6,h7⟩ | ⟨h4,h5⟩
   ·rcases k3 with⟨r',a',k4,k5,k6,k7⟩ | ⟨k4,k5⟩
    ·obtain rfl:r=r':=by omega
     obtain rfl:a=a':=by omega
     rw [h7,k7]
    ·rcases k4 with k4 | ⟨r',k4,k6⟩
     ·omega
     ·obtain rfl:r=r':=by omega
      exact absurd h6 k6
   ·rcases k3 with⟨r',a',k4,k5',k6,k7⟩ | ⟨k4,k5⟩
    ·rcases h4 with h4 | ⟨r,h4,h6⟩
     ·omega
     ·obtain rfl:r=r':=by omega
      exact absurd k6 h6
    ·rcases h5 with⟨j,h6,h7⟩ | ⟨h6,h7⟩
     ·rcases k5 with⟨j',k6,k7⟩ | ⟨k6,k7⟩
      ·rw [h7,k7,h6.unique k6]
      ·exact(lowFree_no h6 k6).elim
     ·rcases k5 with⟨j',k6,k7⟩ | ⟨k6,k7⟩
      ·exact(lowFree_no k6 h6).elim
      ·rw [h7,k7]
def RoomX(W:World)(L:HL)(X:HX)(h:HS)(x:HT)(s k ob z:Nat)(o:Nat→Int)(y:Int)(E:Blks)(e:Ending)(w':World):Prop:=
 (∃(a:Nat) (s1 t1 o':Nat→Int),e=.returned (.tuple #[.int .i64 (a:Int),.bool true])∧Placed h s1 t1 a z y∧(∀q,q<h.R→((q*h.W:Nat):Int)≤t1 q∧t1 q≤((q*h.W+h.W:Nat):Int)) ∧
  HE W w' L X { h with s:=s1,t:=t1 } x s k ((ob,3,rowV .i64 4 o')::E)∧OpenOk o' { h with s:=s1,t:=t1 }∧RoomR h.R h.W h.s h.t o z y (some (s1,t1,o',a))) ∨
 (∃v h' o',e=.returned (.tuple #[v,.bool false])∧HE W w' L X h' x s k ((ob,3,rowV .i64 4 o')::E)∧RoomR h.R h.W h.s h.t o z y none)
theorem size_now{w:World}{rA dA:Option Addr}{rn dn rc dc:Nat}(y:Int){z:Nat}(hz:z=1+rn+dn)(hm:z≤1048576) :
  Calls Tryz.prog 31 #[.agg #[.int .i64 y,.slice rA rn rc,.slice dA dn dc]] w fun e w'=>e=.returned (.int .i64 (z:Int))∧Fr [] w w':=by
 refine(size14_any (A:=rA) (D:=dA) (c:=rc) (d:=dc) y (by omega) (by omega) w).mono ?_
 rintro e w' ⟨rfl,hf⟩
 exact⟨ret_int (by unfold wrap64;omega),hf⟩
set_option maxHeartbeats 1600000 in
theorem room_big{W w:World}{L:HL}{X:HX}{h:HS}{x:HT}{s k ob z:Nat}{E:Blks}{o:Nat→Int}{rA dA:Option Addr}{rn dn rc dc:Nat}(hT:Tab W)(H:HE W w L X h x s k ((ob,3,rowV .i64 4 o)::E))
  (hfree:∀r,r<h.R→h.s r=0→h.t r=((r*h.W:Nat):Int)) (ho:OpenOk o h) (hz:z=1+rn+dn) (hz1:1≤z) (hzm:z≤1048576) :
  Calls Tryz.prog 34 #[.pointer (some ⟨L.hb,0,none⟩),.slice (some ⟨ob,0,none⟩) 4 4,.agg #[.int .i64 4,.slice rA rn rc,.slice dA dn dc]] w (RoomX W L X h x s k ob z o 4 E):=by
 have ok:=H.ok
 have hW:1≤h.W:=by have:=ok.wpos;omega
 obtain⟨c,hc⟩:∃c:Nat,(c:Int)=spanE h.W (z:Int):=⟨(spanE h.W (z:Int)).toNat,by
  unfold spanE
  rw [if_neg (by omega)]
  have:=Int.ediv_nonneg (a:=(z:Int)-1) (b:=(h.W:Int)) (by omega) (by omega)
  omega⟩
 have hc1:1≤c:=by
  unfold spanE at hc
  rw [if_neg (by omega)]at hc
  have:=Int.ediv_nonneg (a:=(z:Int)-1) (b:=(h.W:Int)) (by omega) (by omega)
  omega
 obtain⟨hcz1,hcz2⟩:=(spanE_iff hW hc1 _).1 hc
 have hsp:h.g.spanOf (z:Int)=(c:Int):=by rw [hc];unfold Geo.spanOf spanE;rw [ok.rw]
 have hn1:(c-1)*h.W<z:=by
  have e:((c:Int)-1)=((c-1:Nat):Int):=by omega
  rw [e,← Int.natCast_mul]at hcz1
  omega
 have hn2:z≤c*h.W:=by rw [← Int.natCast_mul]at hcz2;omega
 have HSz:=hide (fun w=>size_now (w:=w) (rA:=rA) (dA:=dA) (rc:=rc) (dc:=dc) 4 hz hzm)
 have HSp:Hid (∀w,Tab w→Calls Tryz.prog 81 #[h.g.val,.int .i64 (z:Int)] w fun e w'=>e=.returned (.int .i64 (c:Int))∧Fr [] w w'):=fun w hT=>by have:=span_any h.g ok.geo (z:Int) (by omega) w hT;rw [hsp]at this;exact this
 have hcm:c≤1048576:=by
  have:=Nat.le_mul_of_pos_right (c-1) (show 0<h.W by omega)
  omega
 have HTW:=hide hT
 have hways:∃(V ER:Int) (s1 t1:Nat→Int),(∀E' w,HE W w L X h x s k E'→Calls Tryz.prog 80 #[.pointer (some ⟨L.tb,0,none⟩),.int .i64 (c:Int),.int .i64 (z:Int)] w fun e w'=>e=.returned (.tuple #[.int .i64 V,.int .i64 ER])∧HE W w' L X { h with s:=s1,t:=t1 } x s k E') ∧
   ((ER=0∧∃f:Nat,V=(f:Int)∧f<h.R∧Placed h s1 t1 (f*h.W) z 4∧(∀q,q<h.R→((q*h.W:Nat):Int)≤t1 q∧t1 q≤((q*h.W+h.W:Nat):Int))∧OpenOk o { h with s:=s1,t:=t1 }∧RoomR h.R h.W h.s h.t o z 4 (some (s1,t1,o,f*h.W)))∨(ER=6∧V=0∧RoomR h.R h.W h.s h.t o z 4 none)):=by
  rcases run_ways h.s h.R c hc1 with⟨f,hl⟩ | hl
  ·obtain⟨p1,p2⟩:=placed_run ok hfree hl hc1 hn1 hn2
   refine⟨f,0,_,_,fun E' w a=>a.post (fun own q=>q.run hc1 hn1 hn2 hl),.inl ⟨rfl,f,rfl,by have:=hl.1;omega,p1,p2,fun Y h1 h2=>?_,.inl ⟨rfl,c,hc,.inl ⟨f,hl,rfl⟩⟩⟩⟩
   rcases ho Y h1 h2 with h3 | ⟨r,h3,h4,h5⟩
   ·exact .inl h3
   ·refine .inr ⟨r,h3,h4,?_⟩
    have e:¬ (f≤r∧r<f+c):=fun e=>by have:=hl.2.1 r e.1 e.2;omega
    show put1 _ f 4 r=_
    unfold put1 put2
    rw [if_neg (by omega),if_neg e]
    exact h5
  ·refine⟨0,6,h.s,h.t,fun E' w a=>?_,.inr ⟨rfl,rfl,.inl ⟨rfl,c,hc,.inr ⟨hl,rfl⟩⟩⟩⟩
   obtain⟨own,q,hq⟩:=a
   refine(q.run_no hc1 (by omega) (by omega) ⟨hcz1,hcz2⟩ hl).mono ?_
   rintro e w' ⟨rfl,rfl⟩
   exact⟨rfl,own,q,hq⟩
 obtain⟨V,ER,s1,t1,hrun,hres⟩:=hways
 have HRun:=hide hrun
 have HRes:=hide hres
 have HA0:=hide (H.alloc 62 #[.int .i64 4,.slice rA rn rc,.slice dA dn dc])
 have hbs:=fun (w:World) (hT:Tab w)=>base_any h.g ok.geo V w hT
 obtain⟨BV,hBV⟩:∃BV,(if 0≤V∧V<h.g.regions then V*h.g.rw else 0)=BV:=⟨_,rfl⟩
 obtain⟨BE,hBE⟩:∃BE:Int,(if 0≤V∧V<h.g.regions then 0 else 2)=BE:=⟨_,rfl⟩
 rw [hBV,hBE]at hbs
 have HBs:=hide hbs
 have HBV:=hide hBV
 have HBE:=hide hBE
 have HRg:=hide (show h.g.regions=(h.R:Int)∧h.g.rw=(h.W:Int) from ⟨ok.rg,ok.rw⟩)
 have hER:ER=0∨ER=6:=by rcases hres with⟨h,_⟩ | ⟨h,_⟩ <;> omega
 clear hrun hres hbs hBV hBE hcz1 hcz2 hn1 hn2 hsp hc ok hT ho hfree hz hz1
 unfold Geo.val at HSp HBs
 have HT2:Hid (∀h' E' w,HE W w L X h' x s k E'→Tab w):=fun h' E' w a=>a.hr.tab
 go_enter Tryz.func34,Tryz.ntmps34
 go_wp2_with fail
 have hbx:=HA0.out.blk (List.mem_cons_self ..)
 generalize hw1:w.alloc _=w1
 rw [hw1]at HA0 hbx
 generalize w.heap.size=bx at *
 have b0:w1.cell? ⟨bx,0,none⟩=some (.int .i64 4):=hbx.cell 0
 go_wp2_with fail
 have HC:Hid (∀h' w',h'.g=h.g→HE W w' L X h' x s k ((bx,62,#[.int .i64 4,.slice rA rn rc,.slice dA dn dc])::(ob,3,rowV .i64 4 o)::E)→w'.cell? ⟨L.hb,14,none⟩=some (.int .i64 h.g.words)∧w'.cell? ⟨L.hb,15,none⟩=some (.int .i64 h.g.rw)∧w'.cell? ⟨L.hb,16,none⟩=some (.int .i64 h.g.cw)∧w'.cell? ⟨L.hb,17,none⟩=some (.int .i64 h.g.regions)∧w'.cell? ⟨L.hb,18,none⟩=some (.int .i64 h.g.cards)∧w'.cell? ⟨L.hb,19,none⟩=some (.int .i64 h.g.max)∧w'.cell? ⟨L.hb,21,none⟩=some (.pointer (some ⟨L.tb,0,none⟩))∧w'.cell? ⟨bx,0,none⟩=some (.int .i64 4)∧w'.cell? ⟨bx,1,none⟩=some (.slice rA rn rc)∧w'.cell? ⟨bx,2,none⟩=some (.slice dA dn dc)):=fun h' w' hg a=>by
  have:=HE.rms hg a
  unfold RmS at this
  exact this
 replace HA0:=hide (HA0.out.fr0 (Fr.refl _ _).drew)
 have K0:=HC.out _ _ rfl HA0.out
 clear b0 hbx hw1
 go_region_held3 (fun w'=>w'.cell? ⟨L.hb,14,none⟩=some (.int .i64 h.g.words)∧w'.cell? ⟨L.hb,15,none⟩=some (.int .i64 h.g.rw)∧w'.cell? ⟨L.hb,16,none⟩=some (.int .i64 h.g.cw)∧w'.cell? ⟨L.hb,17,none⟩=some (.int .i64 h.g.regions)∧w'.cell? ⟨L.hb,18,none⟩=some (.int .i64 h.g.cards)∧w'.cell? ⟨L.hb,19,none⟩=some (.int .i64 h.g.max)∧w'.cell? ⟨L.hb,21,none⟩=some (.pointer (some ⟨L.tb,0,none⟩))∧w'.cell? ⟨bx,0,none⟩=some (.int .i64 4)∧w'.cell? ⟨bx,1,none⟩=some (.slice rA rn rc)∧w'.cell? ⟨bx,2,none⟩=some (.slice dA dn dc))
  (first | with_reducible exact K0 | go_keep)
  (first | (go_at_call 31;refine(HSz.out _).mono ?_;rintro e w2 ⟨rfl,hf⟩;replace HA0:=hide (HA0.out.fr0 hf);have K0:=HC.out _ _ rfl HA0.out;clear hf) | (go_at_call 81;refine(HSp.out _ (HT2.out _ _ _ HA0.out)).mono ?_;rintro e w2 ⟨rfl,hf⟩;replace HA0:=hide (HA0.out.fr0 hf);have K0:=HC.out _ _ rfl HA0.out;clear hf) | (go_at_call 80;refine(HRun.out _ _ HA0.out).mono ?_;rintro e w2 ⟨rfl,hA⟩;have HA1:=hide hA;have K0:=HC.out { h with s:=s1,t:=t1 } _ rfl HA1.out;clear hA))
 all_goals
  obtain⟨c14,c15,c16,c17,c18,c19,-,-,-,-⟩:=K0
  go_wp2_with fail
  refine(HBs.out _ (HT2.out { h with s:=s1,t:=t1 } _ _ HA1.out)).mono ?_
  rintro e w3 ⟨rfl,hf⟩
  have HA2:=hide (HA1.out.fr0 hf)
  clear hf HA1 c14 c15 c16 c17 c18 c19
  rcases HRes.out with⟨rfl,f,rfl,hfR,hP,htok,hop,hRR⟩ | ⟨rfl,rfl,hRR⟩
  ·have e1:0≤(f:Int)∧(f:Int)<h.g.regions:=⟨by omega,by rw [HRg.out.1];omega⟩
   obtain rfl:BE=0:=by rw [← HBE.out,if_pos e1]
   obtain rfl:BV=((f*h.W:Nat):Int):=by rw [← HBV.out,if_pos e1,HRg.out.2,Int.natCast_mul]
   have HF:=hide (show RoomX W L X h x s k ob z o 4 E (.returned (.tuple #[.int .i64 ((f*h.W:Nat):Int),.bool true])) w3 from .inl ⟨f*h.W,s1,t1,o,rfl,hP,htok,HA2.out.sub (fun q hq=>List.mem_cons_of_mem _ hq),hop,hRR⟩)
   generalize f*h.W=a at *
   clear hP htok hop e1 hRR
   go_wp2_with fail
   go_ret2
   exact HF.out
  ·have HF:=hide (show ∀v,RoomX W L X h x s k ob z o 4 E (.returned (.tuple #[v,.bool false])) w3 from fun v=>.inr ⟨v,_,o,rfl,HA2.out.sub (fun q hq=>List.mem_cons_of_mem _ hq),hRR⟩)
   clear hRR
   go_wp2_with fail
   go_ret2
   exact HF.out _
end Go.Proofs.YteacgfeiedcdiaaGreatDoor
