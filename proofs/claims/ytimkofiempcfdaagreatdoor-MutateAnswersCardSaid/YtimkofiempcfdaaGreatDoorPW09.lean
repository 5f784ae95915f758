/- Several texts joined (pack.py): Va. -/
import Derived.Test.YtimkofiempcfdaaGreatDoorPW03
import Derived.Test.YtimkofiempcfdaaGreatDoorPW02
import Derived.Test.YtimkofiempcfdaaGreatDoorPW04
import Derived.Test.YtimkofiempcfdaaGreatDoorPW05
import Derived.Test.YtimkofiempcfdaaGreatDoorPW07
import Derived.Test.YtimkofiempcfdaaGreatDoorPW08
import Derived.WalkKit
import Derived.BigQuiet
import Derived.Deep.CutRange
import Derived.Deep.RegionWith
set_option linter.unusedVariables false
set_option linter.unusedSimpArgs false
set_option maxHeartbeats 3200000
set_option maxRecDepth 100000
open List renaming mem_cons->D5
open Int renaming toNat_natCast->Ee
namespace Go.Proofs.YtimkofiempcfdaaGreatDoor
open Go.RowKit Go.Gl
structure HS where
 g:Geo
 W:Nat
 R:Nat
 n:Nat
 f:Nat->Nat
 s:Nat->Int
 t:Nat->Int
 T:Nat
 bx:Nat->Int
 be:Nat->Int
 st:Nat->List Int
namespace HS
variable (h:HS)
def bl(r:Int):Nat->List Int
|0=>[]
|k+1=>bl r k++(if h.bx k<h.be k/\h.g.az (h.bx k)=r then [h.bx k] else [])
def fH:List Int->Int
|[]=>0
|x::l=>l.foldl min x
def cP(k:Nat):Int:=if h.bl (k:Int) h.T=[] then h.t k else fH (h.bl (k:Int) h.T)
def aQ(r:Int):Int:=if 0<=r/\r<(h.R:Int) then h.s r.toNat else 0
noncomputable def aD (r:Int):Int:=if r=0 then 12 else if atE h.n h.f (r-1)≠0 then atE h.n h.f (r-1) else if (atH h.n h.f (r-1)).kind=1 then 0 else 30
noncomputable def bA (r:Int):Hd:=if h.aD r=0 then atH h.n h.f (r-1) else Hd.zero
def zr(k:Nat)(sp:Int):Prop:=∀i:Nat,1<=i->(i:Int)<sp->h.aQ ((k:Int)+(i:Int))=5
open Classical in
noncomputable def gG (k:Nat):Int:=if h.aD (((k*h.W:Nat):Int)+1)≠0 then h.aD (((k*h.W:Nat):Int)+1) else if h.zr k (h.g.bI (h.bA (((k*h.W:Nat):Int)+1)).size) then 0 else 30
noncomputable def fb (r:Int):Int:=
 if ¬ (0<=r/\r<(h.R:Int)) then 2
 else if h.s r.toNat=1\/h.s r.toNat=2\/h.s r.toNat=3 then bZ h.n h.f ((r.toNat*h.W:Nat):Int) (h.cP r.toNat)
 else if h.s r.toNat=4 then h.gG r.toNat else 0
noncomputable def gH (r:Int):List Int:=
 if ¬ (0<=r/\r<(h.R:Int)) then []
 else if h.s r.toNat=1\/h.s r.toNat=2\/h.s r.toNat=3 then bF h.n h.f ((r.toNat*h.W:Nat):Int) (h.cP r.toNat)
 else if h.s r.toNat=4 then (if h.gG r.toNat=0 then [((r.toNat*h.W:Nat):Int)] else []) else []
noncomputable def isObj (a:Int):Bool:=decide (h.aD (a+1)=0)
noncomputable def gI (k:Nat):List Int:=(h.gH (k:Int)).filter h.isObj
noncomputable def aU:List Int:=(List.range h.R).flatMap h.gI
noncomputable def bu (a:Int):List Int:=(ed h.n h.f a).map λ(i:Int)=>(h.f i.toNat:Int)
def nr(l:List Int)(o:List Int):Prop:=∀r,r∈l->r=0\/r-1∈o
structure Sound:Prop where
 rows:∀k,k<h.R->h.fb (k:Int)=0
 refs:∀a,a∈h.aU->nr (h.bu a) h.aU
 stk:∀i,i<h.T->nr (h.st i) h.aU
open Classical in
noncomputable def j7:Int:=if h.Sound then 0 else 30
open Classical in
noncomputable def gs:GS where
 st:=λi=>if i<h.T then h.st i else []
 done:=λ_=>0
 N:=h.n
 np:=λr=>if r-1∈h.aU then (atH h.n h.f (r-1)).aO.toNat else 0
 nw:=λr=>if r-1∈h.aU then ((atH h.n h.f (r-1)).size-1-(atH h.n h.f (r-1)).aO).toNat else 0
 ref:=λr j=>if r-1∈h.aU/\0<=j/\j<(atH h.n h.f (r-1)).aO then (h.f (r+j).toNat:Int) else 0
 dat:=λr j=>(h.f (r+(atH h.n h.f (r-1)).aO+j).toNat:Int)
structure Ok(s k:Nat):Prop where
 geo:h.g.Ok s k
 rw:h.g.rw=(h.W:Int)
 rg:h.g.regions=(h.R:Int)
 wd:h.g.words=(h.n:Int)
 nn:h.n=h.R*h.W
 fok:∀i,h.f i<18446744073709551616
 sok:∀i,i<h.R->0<=h.s i/\h.s i<=5
 tok:∀i,i<h.R->((i*h.W:Nat):Int)<=h.t i/\h.t i<=((i*h.W+h.W:Nat):Int)
 tm:h.T<=64
 bok:∀i,i<h.T->0<=h.bx i/\h.bx i<=h.be i/\h.be i<=4194304
 rok:∀i,i<h.T->∀r,r∈h.st i->0<=r/\r<18446744073709551616
 qj:∀i,i<h.T->(h.st i).length<=64
end HS
theorem jr{k R W:Nat}(h:k<R):k*W+W<=R*W:=by
 have:=Nat.mul_le_mul_right W (show k+1<=R by omega);rw[Nat.add_mul,Nat.one_mul]at this;exact this
theorem qk{f:Nat->Nat}{b:Nat}:∀(k a:Nat) {l:List Int},eD f b k a=some l->∀x,x∈l->∃i:Nat,x=(i:Int)/\a<=i/\i<b/\bY f i b
|0,a,l,h,x,hx=>by
  by_cases h1:a<b
  ·simp[eD,h1]at h
  ·rw[dk h1]at h;cases h;cases hx
|k+1,a,l,h,x,hx=>by
  by_cases h1:a<b
  ·by_cases h2:bY f a b
   ·have hz:=Hd.pS (f a);simp only[eD,if_pos h1,if_pos h2]at h;cases hr:eD f b k (a+(Hd.of (f a)).size.toNat)with
   |none=>rw[hr]at h;cases h
   |some l'=>
     rw[hr]at h;simp at h;subst h;rcases D5.1 hx with rfl|hx
     ·exact⟨a,rfl,Nat.le_refl _,h1,h2⟩
     ·obtain⟨i,e1,e2,e3,e4⟩:=qk k _ hr x hx;exact⟨i,e1,by omega,e3,e4⟩
   ·rw[kH h1 h2]at h;cases h
  ·rw[dk h1]at h;cases h;cases hx
theorem lE{n:Nat}{f:Nat->Nat}{a b x:Int}(h:x∈bF n f a b):∃i:Nat,x=(i:Int)/\a<=x/\x<b/\b<=(n:Int)/\bY f i b.toNat:=by
 unfold bF at h;split at h
 ·rename_i hb
  have hw:=iu n a b;obtain⟨A,B,rfl,rfl,h1,h2,_⟩:∃A B:Nat,a=(A:Int)/\b=(B:Int)/\A<=B/\B<=n/\gv n a b=0:=by
   rcases hw with h1|h1|h1|h1
   ·exact h1
   ·omega
   ·omega
   ·omega
  rw[Ee,Ee]at h;unfold da at h;cases hr:eD f B (B-A) A with
 |none=>rw[hr]at h;cases h
 |some l=>
   rw[hr]at h;obtain⟨i,e1,e2,e3,e4⟩:=qk _ _ hr x h;exact⟨i,e1,by omega,by omega,by omega,by rw[Ee];exact e4⟩
 ·cases h
namespace HS
variable {h:HS}{s k:Nat}
theorem Ok.dF(ok:h.Ok s k):h.n<=4194304:=by have:=ok.geo.pP;have:=ok.wd;omega
theorem Ok.cv(ok:h.Ok s k){r:Nat}(hr:r<h.R):r*h.W+h.W<=h.n:=by rw[ok.nn];exact jr hr
theorem Ok.iW(ok:h.Ok s k):64<=h.W:=by
 have h1:=ok.rw;have h2:=ok.geo.rw;have h3:=wP (a:=6) (b:=(s:Int)) (by have:=ok.geo.s6;omega);have:pw 6=64:=by decide
 omega
theorem gh{r:Int}(e:h.aD r=0):r≠0/\(0<=r-1/\r-1<(h.n:Int))/\(atH h.n h.f (r-1)).kind=1/\(atH h.n h.f (r-1)).bQ/\atE h.n h.f (r-1)=0/\h.bA r=atH h.n h.f (r-1):=by
 have e0:=e;unfold aD at e;split at e
 ·omega
 ·rename_i h0
  split at e
  ·rename_i h1;exact absurd e h1
  ·rename_i h1
   split at e
   ·rename_i h2
    rcases od h.n h.f (r-1)with⟨a1,_⟩|⟨a1,_⟩|⟨a1,a2,a3,a4⟩
    ·omega
    ·omega
    ·exact⟨h0,a2,h2,a4,a1,by unfold bA;rw[if_pos e0]⟩
   ·omega
theorem ns(h:HS)(r:Int):(h.aD r=12/\r=0)\/(r≠0/\h.aD r=2/\¬ (0<=r-1/\r-1<(h.n:Int)))\/(r≠0/\h.aD r=30)\/(r≠0/\h.aD r=0):=by
 unfold aD;by_cases h0:r=0
 ·rw[if_pos h0];exact .inl ⟨rfl,h0⟩
 rw[if_neg h0];rcases od h.n h.f (r-1)with⟨a1,a2,_⟩|⟨a1,_⟩|⟨a1,a2,a3,a4⟩
 ·rw[a1];exact .inr (.inl ⟨h0,rfl,a2⟩)
 ·rw[a1];exact .inr (.inr (.inl ⟨h0,rfl⟩))
 ·rw[a1];simp only[ne_eq,not_true_eq_false,if_false];split
  ·exact .inr (.inr (.inr ⟨h0,rfl⟩))
  ·exact .inr (.inr (.inl ⟨h0,rfl⟩))
end HS
open Go.RowKit Go.Gl
structure GIn(σ:GS):Prop where
 mem:∀t r,r∈σ.st t->0<=r/\r<=(σ.N:Int)
 ref:∀r j,0<=σ.ref r j/\σ.ref r j<=(σ.N:Int)
section
variable {T:Nat}{σ:GS}
theorem iP(ok:GIn σ):∀n r,r∈bfs σ T n->1<=r/\r<=(σ.N:Int)
|0,r,h=>by
  have h:r∈av [] (aP σ T):=h;rw[cp]at h;rcases h with h|⟨h,h0⟩
  ·cases h
  ·obtain⟨t,_,ht⟩:=fN.1 h;have:=ok.mem t r ht;omega
|n+1,r,h=>by
  rcases Nat.lt_or_ge n (bfs σ T n).length with hl|hl
  ·rw[dq σ T (List.getElem?_eq_getElem hl),cp]at h;rcases h with h|⟨h,h0⟩
   ·exact iP ok n r h
   ·obtain⟨j,_,rfl⟩:=jB.1 h;have:=ok.ref ((bfs σ T n)[n]'hl) j;omega
  ·rw[ey σ T hl]at h;exact iP ok n r h
theorem iA(ok:GIn σ)(n:Nat):(bfs σ T n).length<=σ.N:=lq _ _ (iK σ T n) (iP ok n)
theorem lF(ok:GIn σ){n:Nat}(h:(bfs σ T n).length<=n):order σ T=bfs σ T n:=by
 rcases Nat.le_total n σ.N with h1|h1
 ·exact fi σ T h1 h
 ·exact(fi σ T h1 (iA ok _)).symm
theorem si(ok:GIn σ)(n:Nat):bfs σ T n <+: order σ T:=by
 rcases Nat.le_total n σ.N with h1|h1
 ·exact tW σ T h1
 ·rw[fi σ T h1 (iA ok _)];exact List.prefix_refl _
theorem j8(ok:GIn σ){r:Int}(h:r∈order σ T):1<=r/\r<=(σ.N:Int):=iP ok _ r h
theorem xC(ok:GIn σ):(0:Int)∉order σ T:=λh=>by have:=j8 ok h;omega
theorem sj(ok:GIn σ):(order σ T).length<=σ.N:=iA ok _
end
theorem jE{α β:Type}{l:List α}{f g:α->List β}(h:∀x,x∈l->f x=g x):l.flatMap f=l.flatMap g:=by
 induction l with
|nil=>rfl
|cons a l ih=>rw[List.flatMap_cons,List.flatMap_cons,h a (by simp),ih (λx hx=>h x (by simp[hx]))]
namespace HS
variable {h:HS}{s k:Nat}
theorem qn{a:Int}:a∈h.aU↔∃k,k<h.R/\a∈h.gH (k:Int)/\h.aD (a+1)=0:=by
 unfold aU gI isObj;simp only[List.mem_flatMap,List.mem_range,List.mem_filter,decide_eq_true_eq]
theorem sk{r:Int}(e:h.aQ r=5):0<=r/\r<(h.R:Int):=by
 unfold aQ at e;split at e
 ·assumption
 ·omega
structure dN(h:HS)(i:Nat)(S P:Nat):Prop where
 lt:i<h.n
 hd:Hd.of (h.f i)=atH h.n h.f (i:Int)
 e:atE h.n h.f (i:Int)=0
 kind:(atH h.n h.f (i:Int)).kind=1
 size:(atH h.n h.f (i:Int)).size=(S:Int)
 aO:(atH h.n h.f (i:Int)).aO=(P:Int)
 pos:1<=S
 max:S<=1048576
 ps:P<S
 fit:i+S<=h.n
theorem tX{i:Nat}(e:h.aD ((i:Int)+1)=0):∃S P:Nat,i<h.n/\Hd.of (h.f i)=atH h.n h.f (i:Int)/\atE h.n h.f (i:Int)=0/\(atH h.n h.f (i:Int)).kind=1/\(atH h.n h.f (i:Int)).size=(S:Int)/\(atH h.n h.f (i:Int)).aO=(P:Int)/\1<=S/\S<=1048576/\P<S:=by
 obtain⟨_,h1,h2,h3,h4,_⟩:=gh e;rw[show((i:Int)+1-1)=(i:Int)by omega]at h1 h2 h3 h4;have hw:=h3.ways;have hi:i<h.n:=by omega
 have ha:=(pT (f:=h.f) hi).1;exact⟨(atH h.n h.f (i:Int)).size.toNat,(atH h.n h.f (i:Int)).aO.toNat,hi,ha.symm,h4,h2,by omega,by omega,by omega,by omega,by omega⟩
theorem Ok.iB(ok:h.Ok s k){a:Int}(ha:a∈h.aU):∃i S P:Nat,a=(i:Int)/\dN h i S P:=by
 obtain⟨r,hr,hl,he⟩:=qn.1 ha;unfold gH at hl;rw[if_neg (by omega),Ee]at hl;split at hl
 ·obtain⟨i,rfl,h1,h2,h3,h4⟩:=lE hl;obtain⟨S,P,k1,k2,k3,k4,k5,k6,k7,k8,k9⟩:=tX he;refine⟨i,S,P,rfl,⟨k1,k2,k3,k4,k5,k6,k7,k8,k9,?_⟩⟩;have:=h4.2;rw[k2,k5]at this;omega
 ·split at hl
  ·split at hl
   ·rename_i hb
    simp only[List.mem_singleton]at hl;subst hl;obtain⟨S,P,k1,k2,k3,k4,k5,k6,k7,k8,k9⟩:=tX he;refine⟨r*h.W,S,P,rfl,⟨k1,k2,k3,k4,k5,k6,k7,k8,k9,?_⟩⟩;unfold gG at hb;rw[if_neg (by rw[he];simp)]at hb;split at hb
    ·rename_i hc
     have hv:h.bA (((r*h.W:Nat):Int)+1)=atH h.n h.f ((r*h.W:Nat):Int):=by
      unfold bA;rw[if_pos he,show(((r*h.W:Nat):Int)+1-1)=((r*h.W:Nat):Int)by omega]
     rw[hv,k5]at hc;have hs:h.g.bI (S:Int)=(((S-1) / h.W:Nat):Int)+1:=by
      unfold Geo.bI;rw[if_neg (by omega),ok.rw,show(S:Int)-1=((S-1:Nat):Int)by omega,<- Int.natCast_ediv]
     rw[hs]at hc;have hw:=ok.iW;have hq:r+(S-1) / h.W<h.R:=by
      rcases Nat.eq_zero_or_pos ((S-1) / h.W)with h0|h0
      ·omega
      ·have:=sk (hc ((S-1) / h.W) h0 (by omega));omega
     have h1:(S-1) / h.W*h.W+h.W<=(h.R-r)*h.W:=jr (by omega);have h2:(h.R-r)*h.W=h.R*h.W-r*h.W:=Nat.sub_mul _ _ _;have h3:S-1<(S-1) / h.W*h.W+h.W:=by
      have:=Nat.div_add_mod (S-1) h.W;have h4:=Nat.mod_lt (S-1) (show 0<h.W by omega);rw[Nat.mul_comm]at this;omega
     have h5:=Nat.mul_le_mul_right h.W (show r<=h.R by omega);rw[ok.nn];omega
    ·omega
   ·cases hl
  ·cases hl
theorem dN.fields{i S P:Nat}(o:dN h i S P):ed h.n h.f (i:Int)=Go.Gl.refs i P/\fa h.n h.f (i:Int)=0:=by
 have hf:gw h.n h.f (i:Int):=⟨o.kind,by rw[o.size];have:=o.fit;omega⟩;have:=kT o.e hf;rw[o.aO,Ee,Ee]at this;exact this
theorem dN.refs{i S P:Nat}(o:dN h i S P):h.bu (i:Int)=(List.range P).map λ(j:Nat)=>(h.f (i+1+j):Int):=by
 unfold bu;rw[o.fields.1];unfold Go.Gl.refs;rw[List.map_map];apply List.map_congr_left;intro j _;show(h.f ((i:Int)+1+(j:Int)).toNat:Int)=_;rw[show((i:Int)+1+(j:Int)).toNat=i+1+j by omega]
theorem dN.aD{i S P:Nat}(o:dN h i S P):h.aD ((i:Int)+1)=0:=by
 unfold HS.aD;rw[if_neg (by omega),show((i:Int)+1-1)=(i:Int)by omega,o.e,o.kind];rfl
theorem dN.bA{i S P:Nat}(o:dN h i S P):h.bA ((i:Int)+1)=⟨1,S,P,(atH h.n h.f (i:Int)).age,0⟩:=by
 unfold HS.bA;rw[if_pos o.aD,show((i:Int)+1-1)=(i:Int)by omega];obtain⟨_,_,_,h3,_⟩:=gh o.aD;rw[show((i:Int)+1-1)=(i:Int)by omega]at h3;have hw:=h3.ways;have k1:=o.kind;have k2:=o.size;have k3:=o.aO;generalize atH h.n h.f (i:Int)=H at *;obtain⟨a,b,c,d,e⟩:=H;simp only at *;rw[Hd.mk.injEq];omega
theorem qo{i S P:Nat}(o:dN h i S P)(ha:(i:Int)∈h.aU):h.gs.np ((i:Int)+1)=P/\h.gs.nw ((i:Int)+1)=S-1-P:=by
 have e:(i:Int)+1-1=(i:Int):=by omega
 unfold gs;simp only[e,if_pos ha,o.aO,o.size];omega
theorem kJ{i S P:Nat}(o:dN h i S P)(ha:(i:Int)∈h.aU):kids h.gs ((i:Int)+1)=h.bu (i:Int):=by
 unfold kids;rw[(qo o ha).1,o.refs];apply List.map_congr_left;intro j hj;have hj:=List.mem_range.1 hj;have e:(i:Int)+1-1=(i:Int):=by omega
 show(if (i:Int)+1-1∈h.aU/\0<=(j:Int)/\(j:Int)<(atH h.n h.f ((i:Int)+1-1)).aO then (h.f ((i:Int)+1+(j:Int)).toNat:Int) else 0)=_;rw[e,if_pos ⟨ha,by omega,by rw[o.aO];omega⟩,show((i:Int)+1+(j:Int)).toNat=i+1+j by omega]
theorem qq{i S P:Nat}(o:dN h i S P)(ha:(i:Int)∈h.aU):bp h.gs ((i:Int)+1)=(List.range (S-1-P)).map λ(j:Nat)=>(h.f (i+1+P+j):Int):=by
 unfold bp;rw[(qo o ha).2];apply List.map_congr_left;intro j hj;have e:(i:Int)+1-1=(i:Int):=by omega
 show(h.f ((i:Int)+1+(atH h.n h.f ((i:Int)+1-1)).aO+(j:Int)).toNat:Int)=_;rw[e,o.aO,show((i:Int)+1+(P:Int)+(j:Int)).toNat=i+1+P+j by omega]
theorem nr.le{l o:List Int}{n:Nat}(hk:nr l o)(ho:∀a,a∈o->0<=a/\a<(n:Int)){r:Int}(hr:r∈l):0<=r/\r<=(n:Int):=by
 rcases hk r hr with rfl|h1
 ·omega
 ·have:=ho _ h1;omega
theorem Ok.ou(ok:h.Ok s k):∀a,a∈h.aU->0<=a/\a<(h.n:Int):=λa ha=>by
 obtain⟨i,S,P,rfl,o⟩:=ok.iB ha;have:=o.lt;omega
theorem As(ok:h.Ok s k)(hs:h.Sound):GIn h.gs:=by
 refine⟨λt r hr=>?_,λr j=>?_⟩
 ·have hr':r∈(if t<h.T then h.st t else []):=hr;split at hr'
  ·rename_i ht
   exact(hs.stk t ht).le ok.ou hr'
  ·cases hr'
 ·show 0<=(if r-1∈h.aU/\0<=j/\j<(atH h.n h.f (r-1)).aO then (h.f (r+j).toNat:Int) else 0)/\(if r-1∈h.aU/\0<=j/\j<(atH h.n h.f (r-1)).aO then (h.f (r+j).toNat:Int) else 0)<=(h.n:Int);split
  ·rename_i hc
   obtain⟨i,S,P,e,o⟩:=ok.iB hc.1;refine(hs.refs _ hc.1).le ok.ou ?_;rw[e,o.refs];rw[e,o.aO]at hc;refine List.mem_map.2 ⟨j.toNat,List.mem_range.2 (by omega),?_⟩;rw[show(r+j).toNat=i+1+j.toNat by omega]
  ·omega
theorem xD(ok:h.Ok s k)(hs:h.Sound):∀m r,r∈bfs h.gs h.T m->r-1∈h.aU:=λm r hr=>by
 have key:∀r,r∈bfs h.gs h.T m->r∈h.aU.map (·+1):=by
  intro r hr;refine fP (σ:=h.gs) (T:=h.T) (L:=h.aU.map (·+1)) (λx hx h0=>?_) (λx hx y hy h0=>?_) m r hr
  ·obtain⟨t,ht,hx⟩:=fN.1 hx;have hx':x∈(if t<h.T then h.st t else []):=hx;rw[if_pos ht]at hx';rcases hs.stk t ht x hx' with h1|h1
   ·exact absurd h1 h0
   ·exact List.mem_map.2 ⟨x-1,h1,by omega⟩
  ·obtain⟨a,ha,rfl⟩:=List.mem_map.1 hx;obtain⟨i,S,P,rfl,o⟩:=ok.iB ha;rw[kJ o ha]at hy;rcases hs.refs _ ha y hy with h1|h1
   ·exact absurd h1 h0
   ·exact List.mem_map.2 ⟨y-1,h1,by omega⟩
 obtain⟨a,ha,rfl⟩:=List.mem_map.1 (key r hr);rwa[show a+1-1=a by omega]
end HS
open Go.RowKit Go.Gl
structure HL where
 hb:Nat
 ab:Nat
 aw:Nat
 tb:Nat
 sb:Nat
 pb:Nat
 mb:Nat
 vo:Value
 vc:Value
 vq:Value
 vs:Value
 vm:Value
 cfg:Cfg
 m:Nat->Int
 rA:Option Addr
 rc:Nat
 rG:List Nat
 S:Nat->Nat
 bb:Nat
 B:Nat
def HL.cells(L:HL)(g:Geo)(T:Nat):Array Value:=
 #[.int .i64 L.cfg.shift,.int .i64 L.cfg.regions,.int .i64 L.cfg.aT,.int .i64 L.cfg.threads,.int .i64 L.cfg.roots,.int .i64 L.cfg.di,.int .i64 L.cfg.markers,.int .i64 L.cfg.bH,.int .i64 L.cfg.gS,.int .i64 L.cfg.queue,.int .i64 L.cfg.stack,.int .i64 L.cfg.gT,.int .i64 L.cfg.eY,.int .i64 L.cfg.fail,
  .int .i64 g.words,.int .i64 g.rw,.int .i64 g.cw,.int .i64 g.regions,.int .i64 g.aG,.int .i64 g.max,
  .pointer (some ⟨L.ab,0,none⟩),.pointer (some ⟨L.tb,0,none⟩),L.vo,L.vc,L.vq,L.vs,L.vm,.slice L.rA T L.rc,.slice (some ⟨L.bb,0,none⟩) T T]
def jF(S:Nat->Nat)(T:Nat):List Value:=(List.range T).map λi=>.pointer (some ⟨S i,0,none⟩)
theorem tY(S:Nat->Nat){T i:Nat}(h:i<T):(jF S T)[i]?=some (.pointer (some ⟨S i,0,none⟩)):=by simp[jF,h]
def eJ(T:Nat)(x y:Nat->Int):Array Value:=(dL (λi=>.int .i64 (x i)) (λi=>.int .i64 (y i)) T).toArray
structure Hr(w:World)(L:HL)(h:HS)(s k:Nat):Prop where
 st:Blk w L.hb 51 (L.cells h.g h.T)
 ar:∃c,Ar w L.ab L.aw h.n h.f c
 rg:Rg w L.tb L.sb L.pb L.mb h.W h.R h.s h.t L.m
 row:Lr w 83 L.rA h.T L.rc L.rG (jF L.S h.T)
 stk:∀i,i<h.T->∃F,HkP w (L.S i) F L.B (h.st i)
 buf:Blk w L.bb 236 (eJ h.T h.bx h.be)
 ok:h.Ok s k
 tab:Tab w
section
variable {w w':World}{L:HL}{h:HS}{s k:Nat}{F:List Nat}
theorem HkP.ab{l:List Int}{s k:Nat}(H:HkP w s F k l){b:Nat}{cs:Array Value}(hb:Blk w b 124 cs):∀g,g∈F->g∉[b]:=by
 obtain⟨A,c,G,H,rfl⟩:=H;intro g hg hx;simp only[List.mem_singleton]at hx;subst hx;rcases D5.1 hg with rfl|hg
 ·exact H.st.apart hb (by decide) rfl
 ·exact H.row.apart hb (by decide) hg
theorem Tab.ab(hT:Tab w){b:Nat}{t:TypeId}{A:Option Addr}{n c:Nat}{cs:Array Value}(hb:Blk w b t cs)(h0:cs[0]?=some (.slice A n c)):0∉[b]:=by
 intro hx;have hx:=List.mem_singleton.1 hx;have h1:=hT 0 (by decide);have h2:=hb.cell 0;rw[<- hx]at h2;rw[h2,h0]at h1;cases h1
theorem Hr.fr1(H:Hr w L h s k)(hf:Fr [L.ab] w w')(ha:∃c,Ar w' L.ab L.aw h.n h.f c):Hr w' L h s k:=by
 obtain⟨c,hc⟩:=H.ar;have ne:∀ {b:Nat}{t:TypeId}{cs:Array Value},Blk w b t cs->t≠124->b∉[L.ab]:=λhb ht hx=>by
  simp only[List.mem_singleton]at hx;exact hb.apart hc.set ht hx
 refine⟨H.st.fr hf (ne H.st (by decide)),ha,H.rg.fr hf (ne H.rg.set (by decide)) (ne H.rg.st (by decide)) (ne H.rg.fq (by decide)) (ne H.rg.gY (by decide)),H.row.fr hf (λg hg hx=>?_),λi hi=>?_,H.buf.fr hf (ne H.buf (by decide)),H.ok,H.tab.fr hf (H.tab.ab hc.set rfl)⟩
 ·simp only[List.mem_singleton]at hx;subst hx;exact H.row.apart hc.set (by decide) hg
 ·obtain⟨F,h1⟩:=H.stk i hi;exact⟨F,h1.fr hf (h1.ab hc.set)⟩
theorem Hr.fr0(H:Hr w L h s k)(hf:Fr [] w w'):Hr w' L h s k:=by
 obtain⟨c,hc⟩:=H.ar;exact H.fr1 (hf.mono (λx hx=>by cases hx)) ⟨c,hc.fr hf (by simp) (by simp)⟩
theorem Hr.geo(H:Hr w L h s k):w.cell? ⟨L.hb,14,none⟩=some (.int .i64 h.g.words)/\w.cell? ⟨L.hb,15,none⟩=some (.int .i64 h.g.rw)/\w.cell? ⟨L.hb,16,none⟩=some (.int .i64 h.g.cw)/\w.cell? ⟨L.hb,17,none⟩=some (.int .i64 h.g.regions)/\w.cell? ⟨L.hb,18,none⟩=some (.int .i64 h.g.aG)/\w.cell? ⟨L.hb,19,none⟩=some (.int .i64 h.g.max):=
 ⟨H.st.cell 14,H.st.cell 15,H.st.cell 16,H.st.cell 17,H.st.cell 18,H.st.cell 19⟩
theorem Hr.cA(H:Hr w L h s k):w.cell? ⟨L.hb,20,none⟩=some (.pointer (some ⟨L.ab,0,none⟩)):=H.st.cell 20
theorem Hr.cT(H:Hr w L h s k):w.cell? ⟨L.hb,21,none⟩=some (.pointer (some ⟨L.tb,0,none⟩)):=H.st.cell 21
theorem Hr.cR(H:Hr w L h s k):w.cell? ⟨L.hb,27,none⟩=some (.slice L.rA h.T L.rc):=H.st.cell 27
theorem Hr.cB(H:Hr w L h s k):w.cell? ⟨L.hb,28,none⟩=some (.slice (some ⟨L.bb,0,none⟩) h.T h.T):=H.st.cell 28
end
theorem Blk.BW{w:World}{g:Nat}{t:TypeId}{a b c d e:Value}(h:Blk w g t #[a,b,c,d,e])(u0 u1 u2 u3 u4:Value) :
  Blk (((((w.setCell ⟨g,0,none⟩ u0).setCell ⟨g,1,none⟩ u1).setCell ⟨g,2,none⟩ u2).setCell ⟨g,3,none⟩ u3).setCell ⟨g,4,none⟩ u4) g t #[u0,u1,u2,u3,u4]:=by
 have:=((((h.put 0 u0).put 1 u1).put 2 u2).put 3 u3).put 4 u4;simpa using this
def HrP(w:World)(L:HL)(h:HS)(s k:Nat)(v:Value)(e:Ending)(w':World):Prop:=e=.returned v/\Hr w' L h s k/\Fr [L.ab] w w'
theorem iZ{i:Nat}(hi:i<=4194304)(w:World):Calls Tryz.prog 76 #[.int .i64 (i:Int)] w λe w'=>e=.returned (.int .u64 ((i:Int)+1))/\w=w':=by
 have e1:IntKind.u64.wrap (i:Int)=(i:Int):=IntWalk.u64_in _ ⟨by omega,by omega⟩;have e2:IntKind.u64.wrap ((i:Int)+1)=(i:Int)+1:=IntWalk.u64_in _ ⟨by omega,by omega⟩;go_enter Tryz.func76,Tryz.ntmps76
 go_wp2
 go_ret
 exact⟨rfl,rfl⟩
theorem ku{r:Int}(h0:1<=r)(h1:r<=9223372036854775807)(w:World):Calls Tryz.prog 84 #[.int .u64 r] w λe w'=>e=.returned (.int .i64 (r-1))/\w=w':=by
 have e1:IntKind.u64.wrap (r-1)=r-1:=IntWalk.u64_in _ ⟨by omega,by omega⟩;have e2:IntKind.i64.wrap (r-1)=r-1:=IntWalk.i64_in _ ⟨by omega,by omega⟩;go_enter Tryz.func84,Tryz.ntmps84
 go_wp2
 go_ret
 exact⟨rfl,rfl⟩
section
variable {w:World}{L:HL}{h:HS}{s k:Nat}
theorem qs(H:Hr w L h s k){i:Nat}(hi:i<h.n):Calls Tryz.prog 85 #[.pointer (some ⟨L.hb,0,none⟩),.int .i64 (i:Int)] w (HrP w L h s k (.int .u64 (h.f i:Int))):=by
 have HH:=aa H;obtain⟨c,hc⟩:=H.ar;have c0:=H.cA;have HL:=aa (kI hc rfl hi rfl);clear H hc;generalize h.f i=x at *;go_enter Tryz.func85,Tryz.ntmps85
 go_wp2_with fail
 refine HL.out.mono ?_;rintro e w1 ⟨rfl,ha,hf⟩;have HA:=aa ha;have HF:=aa hf;clear ha hf;go_wp2_with fail
 go_ret
 exact⟨rfl,HH.out.fr1 HF.out ⟨_,HA.out⟩,HF.out⟩
theorem fX(H:Hr w L h s k){r:Int}(h0:0<=r)(h1:r<=9223372036854775807):Calls Tryz.prog 48 #[.pointer (some ⟨L.hb,0,none⟩),.int .u64 r] w (HrP w L h s k (.tuple #[(h.bA r).val,.int .i64 (h.aD r)])):=by
 have HH:=aa H;by_cases hr:r=0
 ·subst hr;have e1:h.aD 0=12:=by unfold HS.aD;rw[if_pos rfl]
  have e2:h.bA 0=Hd.zero:=by unfold HS.bA;rw[if_neg (by rw[e1];decide)]
  rw[e1,e2];clear H e1 e2;go_enter Tryz.func48,Tryz.ntmps48
  go_wp2_with fail
  refine bodyPost_ret (v:=.tuple #[.agg #[.int .i64 0,.int .i64 0,.int .i64 0,.int .i64 0,.int .i64 0],.int .i64 12]) (by simp[results,Tryz.results48,go_sem, *]) rfl ⟨rfl,HH.out.fr0 ((Fr.refl _ _).alloc _),(Fr.refl _ _).alloc _⟩
 ·obtain⟨c,hc⟩:=H.ar;have c0:=H.cA;have HX:=aa (λw'=>ku (r:=r) (by omega) h1 w');have HQ:Hid (L.ab<w.heap.size/\L.aw<w.heap.size/\L.hb<w.heap.size):=⟨hc.set.lt,hc.row.lt,H.st.lt⟩;have HT:Hid (∀w',Fr [] w w'->Calls Tryz.prog 93 #[.pointer (some ⟨L.ab,0,none⟩),.int .i64 (r-1)] w' (jZ w' L.ab L.aw h.n h.f (r-1))):=λw' hf=>ot (hc.fr hf (by simp) (by simp)) (r-1);have N0:L.hb<w.heap.size:=H.st.lt;unfold jZ at HT;have hr':(r==0)=false:=by simpa using hr
  have hway:(atE h.n h.f (r-1)≠0/\h.aD r=atE h.n h.f (r-1)/\h.bA r=Hd.zero)\/(atE h.n h.f (r-1)=0/\(atH h.n h.f (r-1)).kind≠1/\h.aD r=30/\h.bA r=Hd.zero)\/(atE h.n h.f (r-1)=0/\(atH h.n h.f (r-1)).kind=1/\h.aD r=0/\h.bA r=atH h.n h.f (r-1)):=by
   unfold HS.bA HS.aD;rw[if_neg hr];by_cases e1:atE h.n h.f (r-1)=0
   ·by_cases e2:(atH h.n h.f (r-1)).kind=1
    ·exact .inr (.inr ⟨e1,e2,by simp[e1,e2],by simp[e1,e2]⟩)
    ·exact .inr (.inl ⟨e1,e2,by simp[e1,e2],by simp[e1,e2]⟩)
   ·exact .inl ⟨e1,by simp[e1],by simp[e1]⟩
  clear H hc;generalize atH h.n h.f (r-1)=g at *;generalize atE h.n h.f (r-1)=E at *;generalize h.bA r=V at *;generalize h.aD r=U at *;obtain⟨K,sz,p,q,t⟩:=g;obtain⟨z,hz⟩:∃z:Obj,z=.cells #[.int .i64 0,.int .i64 0,.int .i64 0,.int .i64 0,.int .i64 0] 129:=⟨_,rfl⟩;have HT1:=aa (HT.out (w.alloc (.cells #[.int .i64 0,.int .i64 0,.int .i64 0,.int .i64 0,.int .i64 0] 129)).drew ((Fr.refl _ _).alloc _).drew);have HT2:=aa (HT.out ((w.alloc (.cells #[.int .i64 0,.int .i64 0,.int .i64 0,.int .i64 0,.int .i64 0] 129)).alloc (.cells #[.int .i64 0,.int .i64 0,.int .i64 0,.int .i64 0,.int .i64 0] 129)).drew (((Fr.refl _ _).alloc _).alloc _).drew);unfold Hd.val at HT1 HT2;simp only at hway HT1 HT2;have HB1:Hid (∀w',Fr [L.ab] (w.alloc (.cells #[.int .i64 0,.int .i64 0,.int .i64 0,.int .i64 0,.int .i64 0] 129)).drew w'->Blk w' w.heap.size 129 Hd.zero.cells):=λw' hf=>(Blk.drew (Blk.new w 129 Hd.zero.cells)).fr hf (by have:=HQ.out.1;simp;omega);have HB2:Hid (∀w',Fr [L.ab] ((w.alloc (.cells #[.int .i64 0,.int .i64 0,.int .i64 0,.int .i64 0,.int .i64 0] 129)).alloc (.cells #[.int .i64 0,.int .i64 0,.int .i64 0,.int .i64 0,.int .i64 0] 129)).drew w'->Blk w' w.heap.size 129 Hd.zero.cells/\Blk w' (w.heap.size+1) 129 Hd.zero.cells):=λw' hf=>
   ⟨(Blk.drew ((Blk.new w 129 Hd.zero.cells).alloc _)).fr hf (by have:=HQ.out.1;simp;omega),(Blk.drew (Blk.aV (w:=w.alloc (.cells #[.int .i64 0,.int .i64 0,.int .i64 0,.int .i64 0,.int .i64 0] 129)) 129 Hd.zero.cells (by simp))).fr hf (by have:=HQ.out.1;simp;omega)⟩
  clear hz;go_enter Tryz.func48,Tryz.ntmps48
  go_wp2_with fail
  go_cut [6,7] from 14 to 33 (λx y wc=>∃xb,x=.pointer (some ⟨xb,0,none⟩)/\y=.int .i64 E/\Blk wc xb 129 #[.int .i64 K,.int .i64 sz,.int .i64 p,.int .i64 q,.int .i64 t]/\Blk wc w.heap.size 129 Hd.zero.cells/\Hr wc L h s k/\Fr [L.ab] w wc)
  case first=>
   go_region_with (first|(go_at_call 84;refine(HX.out _).mono ?_;rintro e w' ⟨rfl,rfl⟩)|(go_at_call 93;first|((with_reducible refine Calls.mono HT1.out ?_);rintro e w1 ⟨c1,rfl,ha,hf⟩;have HA:=aa ha;have HFa:=aa hf;clear ha hf)|((with_reducible refine Calls.mono HT2.out ?_);rintro e w1 ⟨c1,rfl,ha,hf⟩;have HA:=aa ha;have HFb:=aa hf;obtain⟨⟨z0,z1,z2,z3,z4⟩,f0,f1,f2,f3,f4⟩:=Hd.cF (HB2.out _ hf).2;have N2:=(HB2.out _ hf).2.lt;clear ha hf)))
   all_goals
    go_wp2_with fail
    go_meet
   all_goals first|(have _x:=HFa;exact⟨_,rfl,rfl,Blk.new _ _ _,(HB1.out _ HFa.out).alloc _,HH.out.fr1 ((((Fr.refl [L.ab] w).alloc _).drew.af HFa.out).alloc _) ⟨_,HA.out.fr ((Fr.refl [] _).alloc _) (by simp) (by simp)⟩,(((Fr.refl [L.ab] w).alloc _).drew.af HFa.out).alloc _⟩)|(exact⟨_,rfl,rfl,Blk.BW (HB2.out _ HFb.out).2 _ _ _ _ _,(HB2.out _ HFb.out).1.fr (F:=[w.heap.size+1]) ((Fr.refl _ _).jz (.inl (by simp)) _ _ _ _ _) (by simp),HH.out.fr1 (((((Fr.refl [L.ab] w).alloc _).alloc _).drew.af HFb.out).jz (.inr (by omega)) _ _ _ _ _) ⟨_,HA.out.fr (F:=[w.heap.size+1]) ((Fr.refl _ _).jz (.inl (by simp)) _ _ _ _ _) (by have:=HQ.out.1;simp;omega) (by have:=HQ.out.2.1;simp;omega)⟩,((((Fr.refl [L.ab] w).alloc _).alloc _).drew.af HFb.out).jz (.inr (by omega)) _ _ _ _ _⟩)
  case rest=>
   obtain⟨xb,rfl,rfl,hx,hz,hH,hF⟩:=hcut;have x0:wc.cell? ⟨xb,0,none⟩=some (.int .i64 K):=hx.cell 0;have x1:wc.cell? ⟨xb,1,none⟩=some (.int .i64 sz):=hx.cell 1;have x2:wc.cell? ⟨xb,2,none⟩=some (.int .i64 p):=hx.cell 2;have x3:wc.cell? ⟨xb,3,none⟩=some (.int .i64 q):=hx.cell 3;have x4:wc.cell? ⟨xb,4,none⟩=some (.int .i64 t):=hx.cell 4;obtain⟨⟨z0,z1,z2,z3,z4⟩,f0,f1,f2,f3,f4⟩:=Hd.cF hz;have N2:=hz.lt;have HH2:=aa hH;have HF2:=aa hF;have HN2:Hid (∀v0 v1 v2 v3 v4,Hr (((((wc.setCell ⟨w.heap.size,0,none⟩ v0).setCell ⟨w.heap.size,1,none⟩ v1).setCell ⟨w.heap.size,2,none⟩ v2).setCell ⟨w.heap.size,3,none⟩ v3).setCell ⟨w.heap.size,4,none⟩ v4) L h s k/\Fr [L.ab] w (((((wc.setCell ⟨w.heap.size,0,none⟩ v0).setCell ⟨w.heap.size,1,none⟩ v1).setCell ⟨w.heap.size,2,none⟩ v2).setCell ⟨w.heap.size,3,none⟩ v3).setCell ⟨w.heap.size,4,none⟩ v4)):=λv0 v1 v2 v3 v4=>by
    obtain⟨c9,hc9⟩:=hH.ar;have hf:=hF.jz (.inr (Nat.le_refl _)) v0 v1 v2 v3 v4;exact⟨HH.out.fr1 hf ⟨c9,hc9.fr (F:=[w.heap.size]) ((Fr.refl _ _).jz (.inl (by simp)) _ _ _ _ _) (by have:=HQ.out.1;simp;omega) (by have:=HQ.out.2.1;simp;omega)⟩,hf⟩
   clear hx hz hH hF HB1 HB2 HT1 HT2 HT;rcases hway with⟨h3,rfl,rfl⟩|⟨rfl,h3,rfl,rfl⟩|⟨rfl,rfl,rfl,rfl⟩
   ·have h3':(U !=0)=true:=by simpa using h3
    go_wp2_with fail
    refine bodyPost_ret (v:=.tuple #[.agg #[.int .i64 0,.int .i64 0,.int .i64 0,.int .i64 0,.int .i64 0],.int .i64 U]) (by simp[results,Tryz.results48,go_sem, *]) rfl ⟨rfl,HN2.out _ _ _ _ _⟩
   ·have h3':(K !=1)=true:=by simpa using h3
    go_wp2_with fail
    refine bodyPost_ret (v:=.tuple #[.agg #[.int .i64 0,.int .i64 0,.int .i64 0,.int .i64 0,.int .i64 0],.int .i64 30]) (by simp[results,Tryz.results48,go_sem, *]) rfl ⟨rfl,HN2.out _ _ _ _ _⟩
   ·go_wp2_with fail
    refine bodyPost_ret (v:=.tuple #[.agg #[.int .i64 1,.int .i64 sz,.int .i64 p,.int .i64 q,.int .i64 t],.int .i64 0]) (by simp[results,Tryz.results48,go_sem, *]) rfl ⟨rfl,HN2.out _ _ _ _ _⟩
end
end Go.Proofs.YtimkofiempcfdaaGreatDoor
