/- Several texts joined (pack.py): Wd We Wg. -/
import Derived.Test.YtimlkjppaalfaaaGreatDoorPW17
import Derived.Test.YtimlkjppaalfaaaGreatDoorPW08
import Derived.Test.YtimlkjppaalfaaaGreatDoorPW19
import Derived.Deep.RegionHeld3
import Derived.Deep.CutRange
import Derived.Test.YtimlkjppaalfaaaGreatDoorPW01
set_option linter.unusedVariables false
set_option linter.unusedSimpArgs false
set_option maxRecDepth 100000
namespace Go.Proofs.YtimlkjppaalfaaaGreatDoor
open Go.RowKit Go.Gl
def rowsOf(A:Nat->Nat)(W k r:Nat):List Nat:=(List.range k).filter λi=>A i / W==r
def Ed(A:Nat->Nat)(k a:Nat):Nat->Nat:=λi=>if i=k then a else A i
def Ee(f:Nat->Nat->Nat)(i m v:Nat):Nat->Nat->Nat:=λa b=>if a=i/\b=m then v else f a b
structure Bt(h:HS)(s1 t1:Nat->Int)(a z:Nat)(y:Int):Prop where
 fit:a+z<=h.n
 new:∀u,a<=u->u<a+z->h.t (u / h.W)<=(u:Int)/\(u:Int)<t1 (u / h.W)
 mono:∀r,r<h.R->h.t r<=t1 r
 st:s1 (a / h.W)=y
 kept:∀r,r<h.R->r≠a / h.W->h.s r≠0->s1 r=h.s r/\t1 r=h.t r
 free:∀r,r<h.R->r≠a / h.W->h.s r=0->(s1 r=0/\t1 r=h.t r)\/s1 r=5
 ways:(y≠4/\(h.s (a / h.W)=y\/h.s (a / h.W)=0)/\h.t (a / h.W)=(a:Int)/\t1 (a / h.W)=((a+z:Nat):Int)) \/
  (y=4/\h.s (a / h.W)=0/\a=a / h.W*h.W/\∀q,1<=q->q*h.W<z->a / h.W+q<h.R/\s1 (a / h.W+q)=5)
structure Lay(p:Pl)(A:Nat->Nat)(k:Nat)(w d:Nat->Nat->Nat)(h:HS):Prop where
 bx:h.bx=λ_=>0
 be:h.be=λ_=>0
 W1:1<=h.W
 nn:h.n=h.R*h.W
 tok:∀r,r<h.R->((r*h.W:Nat):Int)<=h.t r/\h.t r<=((r*h.W+h.W:Nat):Int)
 free:∀r,r<h.R->h.s r=0->h.t r=((r*h.W:Nat):Int)
 y:∀i,i<k->1<=(p.T i).st/\(p.T i).st<=4
 st:∀i,i<k->h.s (A i / h.W)=(p.T i).st
 row:∀r,r<h.R->(h.s r=1\/h.s r=2\/h.s r=3)->Ao h.f (r*h.W) ((rowsOf A h.W k r).map λi=>(A i:Int)) (h.t r).toNat
 big:∀i,i<k->(p.T i).st=4->A i=A i / h.W*h.W/\∀q,1<=q->q*h.W<(p.T i).sz->A i / h.W+q<h.R/\h.s (A i / h.W+q)=5
 hum:∀r,r<h.R->h.s r=4->∃i,i<k/\A i=r*h.W/\(p.T i).st=4
 top:∀i,i<k->∀u,A i<=u->u<A i+(p.T i).sz->u<h.n/\(u:Int)<h.t (u / h.W)
 dis:∀i j,i<k->j<k->∀u,A i<=u->u<A i+(p.T i).sz->A j<=u->u<A j+(p.T j).sz->i=j
 zm:∀i,i<k->(p.T i).sz<=1048576
 hdr:∀i,i<k->h.f (A i)=aV (p.T i).sz (p.T i).rf.length
 ref:∀i,i<k->∀j,j<(p.T i).rf.length->h.f (A i+1+j)=w i j
 dat:∀i,i<k->∀j,j<(p.T i).dt.length->h.f (A i+1+(p.T i).rf.length+j)=d i j
section
variable {p:Pl}{A:Nat->Nat}{k:Nat}{w d:Nat->Nat->Nat}{h:HS}{s1 t1:Nat->Int}{a:Nat}{y:Int}
theorem Bv{u r W:Nat}(hW:1<=W)(h1:r*W<=u)(h2:u<r*W+W):u / W=r:=by
 rw[Nat.div_eq_iff (by omega)];constructor
 ·exact h1
 ·have:r*W+W-1+1=r*W+W:=by omega
  omega
end
abbrev aG:=List (Nat×TypeId×Array Value)
def HE(W w:World)(L:HL)(X:HX)(h:HS)(x:HT)(s k:Nat)(E:aG):Prop:=
 ∃own,cK W w L X own h x s k/\∀q,q∈E->Blk w q.1 q.2.1 q.2.2/\own q.1=0/\W.heap.size<=q.1
section
variable {W w w':World}{L:HL}{X:HX}{h h':HS}{x x':HT}{s k:Nat}{E:aG}
theorem HE.blk(H:HE W w L X h x s k E){b:Nat}{t:TypeId}{cs:Array Value}(hq:(b,t,cs)∈E):Blk w b t cs:=by
 obtain⟨own,h1,h2⟩:=H;exact(h2 _ hq).1
theorem HE.fr(H:HE W w L X h x s k E):Fr [] W w:=by
 obtain⟨own,h1,h2⟩:=H;exact h1.fr
theorem HE.hr(H:HE W w L X h x s k E):Hr w L h s k:=by
 obtain⟨own,h1,h2⟩:=H;exact h1.hr
theorem HE.ok(H:HE W w L X h x s k E):h.Ok s k:=H.hr.ok
end
def RmS(L:HL)(h:HS)(bx:Nat)(y:Int)(rA dA:Option Addr)(rn dn rc dc:Nat)(w':World):Prop:=w'.cell? ⟨L.hb,14,none⟩=some (.int .i64 h.g.words)/\w'.cell? ⟨L.hb,15,none⟩=some (.int .i64 h.g.rw)/\w'.cell? ⟨L.hb,16,none⟩=some (.int .i64 h.g.cw)/\w'.cell? ⟨L.hb,17,none⟩=some (.int .i64 h.g.regions)/\w'.cell? ⟨L.hb,18,none⟩=some (.int .i64 h.g.aE)/\w'.cell? ⟨L.hb,19,none⟩=some (.int .i64 h.g.max)/\w'.cell? ⟨L.hb,21,none⟩=some (.pointer (some ⟨L.tb,0,none⟩))/\w'.cell? ⟨bx,0,none⟩=some (.int .i64 y)/\w'.cell? ⟨bx,1,none⟩=some (.slice rA rn rc)/\w'.cell? ⟨bx,2,none⟩=some (.slice dA dn dc)
def Bw(o:Nat->Int)(h:HS):Prop:=∀Y,1<=Y->Y<=3->o Y=-1\/∃r:Nat,r<h.R/\o Y=(r:Int)/\h.s r=(Y:Int)
def DO(W:World)(L:HL)(X:HX)(h:HS)(x:HT)(s k ob z:Nat)(y:Int)(E:aG)(e:Ending)(w':World):Prop:=
 (∃(a:Nat) (s1 t1 o':Nat->Int),e=.returned (.tuple #[.int .i64 (a:Int),.bool true])/\Bt h s1 t1 a z y/\(∀q,q<h.R->((q*h.W:Nat):Int)<=t1 q/\t1 q<=((q*h.W+h.W:Nat):Int)) /\
  HE W w' L X { h with s:=s1,t:=t1 } x s k ((ob,3,cN .i64 4 o')::E)/\Bw o' { h with s:=s1,t:=t1 }) \/
 (∃v h' o',e=.returned (.tuple #[v,.bool false])/\HE W w' L X h' x s k ((ob,3,cN .i64 4 o')::E))
def Row(E:aG)(A:Option Addr)(c:Nat)(l:List Int):Prop:=
 l.length<=c/\c<=maxLen/\(0<c->∃g off cur,A=some ⟨g,off,none⟩/\(g,3,cur)∈E/\off+c<=cur.size/\(cur.toList.drop off).take l.length=zv l)
def places(A:Nat->Nat)(n:Nat):List Int:=(List.range n).map λi=>(A i:Int)
section
variable {W w w':World}{L:HL}{X:HX}{h:HS}{x:HT}{s k:Nat}{E E':aG}{A:Option Addr}{c:Nat}{l:List Int}
end
def lnk(A:Nat->Nat)(r:Int):Nat:=if r=0 then 0 else A (r.toNat-1)+1
section
variable {W w w':World}{L:HL}{X:HX}{h:HS}{x:HT}{s k:Nat}{E:aG}
theorem HE.dim(H:HE W w L X h x s k E):cI h.g h.W h.R x.cw x.per:=by
 obtain⟨own,⟨tg,FS,H,_⟩,_⟩:=H;exact H.dim
theorem HE.card(H:HE W w L X h x s k E)(a:Int):Calls Tryz.prog 11 #[.agg #[.int .i64 h.g.words,.int .i64 h.g.rw,.int .i64 h.g.cw,.int .i64 h.g.regions,.int .i64 h.g.aE,.int .i64 h.g.max],.int .i64 a] w λe w'=>e=.returned (.int .i64 (h.g.aY a))/\Fr [] w w':=pO h.g H.ok.geo a w H.hr.tab
end
def DP(W:World)(L:HL)(X:HX)(h:HS)(x:HT)(s k:Nat)(p:Pl)(A:Nat->Nat)(wd d:Nat->Nat->Nat)(i:Nat)(E:aG)(e:Ending)(w':World):Prop:=
 e=.returned (.bool true)/\∃f σ wd',HE W w' L X { h with f:=f } { x with σ:=σ } s k E/\Lay p A p.n wd' d { h with f:=f } /\
  (∀j,j<(p.T i).rf.length->wd' i j=lnk A ((p.T i).rf.getD j 0))/\∀i',i'≠i->∀j,wd' i' j=wd i' j
section
variable {W w w':World}{L:HL}{X:HX}{h:HS}{x:HT}{s k:Nat}{E Er R:aG}
end
def dta(p:Pl)(i j:Nat):Nat:=((p.T i).dt.getD j 0).toNat
structure Laid(p:Pl)(A:Nat->Nat)(L:HL)(h:HS):Prop where
 lay:Lay p A p.n (λi j=>lnk A ((p.T i).rf.getD j 0)) (dta p) h
 g:h.g=p.c.geo
 T:p.c.threads=(h.T:Int)
 B:p.c.roots=(L.B:Int)
 st:∀t,t<h.T->h.st t=if t<p.m then (p.H t).map λr=>(lnk A r:Int) else []
def Dr(W:World)(p:Pl)(e:Ending)(w':World):Prop:=
 (∃(L:HL) (X:HX) (h:HS) (x:HT) (s k:Nat) (A:Nat->Nat) (A0:Option Addr) (c:Nat) (E:aG),e=.returned (.tuple #[.agg #[.pointer (some ⟨L.hb,0,none⟩),.slice A0 p.n c],.bool true,.bool false])/\HE W w' L X h x s k E/\Row E A0 c (places A p.n)/\Laid p A L h) \/
 (e=.returned (.tuple #[.agg #[.pointer none,.slice none 0 0],.bool false,.bool false])/\Fr [] W w')
end Go.Proofs.YtimlkjppaalfaaaGreatDoor
