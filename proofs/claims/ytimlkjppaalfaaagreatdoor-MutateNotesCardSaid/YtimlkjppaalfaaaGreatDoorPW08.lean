/- The heap as plain numbers: rows, objects, soundness, its graph. -/
import Derived.Test.YtimlkjppaalfaaaGreatDoorPW00
import Derived.Test.YtimlkjppaalfaaaGreatDoorPW01
import Derived.Test.YtimlkjppaalfaaaGreatDoorPW02
import Derived.Test.YtimlkjppaalfaaaGreatDoorPW03
import Derived.Test.YtimlkjppaalfaaaGreatDoorPW05
import Derived.Test.YtimlkjppaalfaaaGreatDoorPW06
import Derived.Test.YtimlkjppaalfaaaGreatDoorPW07
import Derived.WalkKit
import Derived.BigQuiet
import Derived.Deep.CutRange
import Derived.Deep.RegionWith
set_option linter.unusedVariables false
set_option linter.unusedSimpArgs false
set_option maxHeartbeats 3200000
set_option maxRecDepth 100000
open List renaming mem_cons->C1
open Int renaming toNat_natCast->Db
namespace Go.Proofs.YtimlkjppaalfaaaGreatDoor
open Go.RowKit Go.Gl
structure HS where
 g:Geo
 W:Nat
 R:Nat
 n:Nat
 f:Nat->Nat
 s:Nat->Int
 t:Nat->Int
 T:Nat
 bx:Nat->Int
 be:Nat->Int
 st:Nat->List Int
namespace HS
variable (h:HS)
def bz(r:Int):Nat->List Int
|0=>[]
|k+1=>bz r k++(if h.bx k<h.be k/\h.g.av (h.bx k)=r then [h.bx k] else [])
def f9:List Int->Int
|[]=>0
|x::l=>l.foldl min x
def cf(k:Nat):Int:=if h.bz (k:Int) h.T=[] then h.t k else f9 (h.bz (k:Int) h.T)
def aN(r:Int):Int:=if 0<=r/\r<(h.R:Int) then h.s r.toNat else 0
noncomputable def aD (r:Int):Int:=if r=0 then 12 else if atE h.n h.f (r-1)≠0 then atE h.n h.f (r-1) else if (atH h.n h.f (r-1)).kind=1 then 0 else 30
noncomputable def bj (r:Int):Hd:=if h.aD r=0 then atH h.n h.f (r-1) else Hd.zero
def zu(k:Nat)(sp:Int):Prop:=∀i:Nat,1<=i->(i:Int)<sp->h.aN ((k:Int)+(i:Int))=5
open Classical in
noncomputable def gx (k:Nat):Int:=if h.aD (((k*h.W:Nat):Int)+1)≠0 then h.aD (((k*h.W:Nat):Int)+1) else if h.zu k (h.g.bA (h.bj (((k*h.W:Nat):Int)+1)).size) then 0 else 30
noncomputable def eY (r:Int):Int:=
 if ¬ (0<=r/\r<(h.R:Int)) then 2
 else if h.s r.toNat=1\/h.s r.toNat=2\/h.s r.toNat=3 then co h.n h.f ((r.toNat*h.W:Nat):Int) (h.cf r.toNat)
 else if h.s r.toNat=4 then h.gx r.toNat else 0
noncomputable def dg (r:Int):List Int:=
 if ¬ (0<=r/\r<(h.R:Int)) then []
 else if h.s r.toNat=1\/h.s r.toNat=2\/h.s r.toNat=3 then bJ h.n h.f ((r.toNat*h.W:Nat):Int) (h.cf r.toNat)
 else if h.s r.toNat=4 then (if h.gx r.toNat=0 then [((r.toNat*h.W:Nat):Int)] else []) else []
noncomputable def isObj (a:Int):Bool:=decide (h.aD (a+1)=0)
noncomputable def gy (k:Nat):List Int:=(h.dg (k:Int)).filter h.isObj
noncomputable def br:List Int:=(List.range h.R).flatMap h.gy
noncomputable def cv (a:Int):List Int:=(bc h.n h.f a).map λ(i:Int)=>(h.f i.toNat:Int)
def tK(l:List Int)(o:List Int):Prop:=∀r,r∈l->r=0\/r-1∈o
structure Sound:Prop where
 rows:∀k,k<h.R->h.eY (k:Int)=0
 refs:∀a,a∈h.br->tK (h.cv a) h.br
 stk:∀i,i<h.T->tK (h.st i) h.br
open Classical in
noncomputable def jX:Int:=if h.Sound then 0 else 30
open Classical in
noncomputable def gs:GS where
 st:=λi=>if i<h.T then h.st i else []
 done:=λ_=>0
 N:=h.n
 np:=λr=>if r-1∈h.br then (atH h.n h.f (r-1)).aQ.toNat else 0
 nw:=λr=>if r-1∈h.br then ((atH h.n h.f (r-1)).size-1-(atH h.n h.f (r-1)).aQ).toNat else 0
 ref:=λr j=>if r-1∈h.br/\0<=j/\j<(atH h.n h.f (r-1)).aQ then (h.f (r+j).toNat:Int) else 0
 dat:=λr j=>(h.f (r+(atH h.n h.f (r-1)).aQ+j).toNat:Int)
structure Ok(s k:Nat):Prop where
 geo:h.g.Ok s k
 rw:h.g.rw=(h.W:Int)
 rg:h.g.regions=(h.R:Int)
 wd:h.g.words=(h.n:Int)
 nn:h.n=h.R*h.W
 fok:∀i,h.f i<18446744073709551616
 sok:∀i,i<h.R->0<=h.s i/\h.s i<=5
 tok:∀i,i<h.R->((i*h.W:Nat):Int)<=h.t i/\h.t i<=((i*h.W+h.W:Nat):Int)
 tm:h.T<=64
 bok:∀i,i<h.T->0<=h.bx i/\h.bx i<=h.be i/\h.be i<=4194304
 rok:∀i,i<h.T->∀r,r∈h.st i->0<=r/\r<18446744073709551616
 uC:∀i,i<h.T->(h.st i).length<=64
end HS
theorem jh{k R W:Nat}(h:k<R):k*W+W<=R*W:=by
 have:=Nat.mul_le_mul_right W (show k+1<=R by omega);rw[Nat.add_mul,Nat.one_mul]at this;exact this
theorem pT{f:Nat->Nat}{b:Nat}:∀(k a:Nat) {l:List Int},dt f b k a=some l->∀x,x∈l->∃i:Nat,x=(i:Int)/\a<=i/\i<b/\bY f i b
|0,a,l,h,x,hx=>by
  by_cases h1:a<b
  ·simp[dt,h1]at h
  ·rw[cF h1]at h;cases h;cases hx
|k+1,a,l,h,x,hx=>by
  by_cases h1:a<b
  ·by_cases h2:bY f a b
   ·have hz:=Hd.pt (f a);simp only[dt,if_pos h1,if_pos h2]at h;cases hr:dt f b k (a+(Hd.of (f a)).size.toNat)with
   |none=>rw[hr]at h;cases h
   |some l'=>
     rw[hr]at h;simp at h;subst h;rcases C1.1 hx with rfl|hx
     ·exact⟨a,rfl,Nat.le_refl _,h1,h2⟩
     ·obtain⟨i,e1,e2,e3,e4⟩:=pT k _ hr x hx;exact⟨i,e1,by omega,e3,e4⟩
   ·rw[jp h1 h2]at h;cases h
  ·rw[cF h1]at h;cases h;cases hx
theorem lp{n:Nat}{f:Nat->Nat}{a b x:Int}(h:x∈bJ n f a b):∃i:Nat,x=(i:Int)/\a<=x/\x<b/\b<=(n:Int)/\bY f i b.toNat:=by
 unfold bJ at h;split at h
 ·rename_i hb
  have hw:=gl n a b;obtain⟨A,B,rfl,rfl,h1,h2,_⟩:∃A B:Nat,a=(A:Int)/\b=(B:Int)/\A<=B/\B<=n/\gj n a b=0:=by
   rcases hw with h1|h1|h1|h1
   ·exact h1
   ·omega
   ·omega
   ·omega
  rw[Db,Db]at h;unfold cM at h;cases hr:dt f B (B-A) A with
 |none=>rw[hr]at h;cases h
 |some l=>
   rw[hr]at h;obtain⟨i,e1,e2,e3,e4⟩:=pT _ _ hr x h;exact⟨i,e1,by omega,by omega,by omega,by rw[Db];exact e4⟩
 ·cases h
namespace HS
variable {h:HS}{s k:Nat}
theorem Ok.dC(ok:h.Ok s k):h.n<=4194304:=by have:=ok.geo.nU;have:=ok.wd;omega
theorem Ok.bX(ok:h.Ok s k){r:Nat}(hr:r<h.R):r*h.W+h.W<=h.n:=by rw[ok.nn];exact jh hr
theorem Ok.ik(ok:h.Ok s k):64<=h.W:=by
 have h1:=ok.rw;have h2:=ok.geo.rw;have h3:=wF (a:=6) (b:=(s:Int)) (by have:=ok.geo.s6;omega);have:pw 6=64:=by decide
 omega
theorem ga{r:Int}(e:h.aD r=0):r≠0/\(0<=r-1/\r-1<(h.n:Int))/\(atH h.n h.f (r-1)).kind=1/\(atH h.n h.f (r-1)).bW/\atE h.n h.f (r-1)=0/\h.bj r=atH h.n h.f (r-1):=by
 have e0:=e;unfold aD at e;split at e
 ·omega
 ·rename_i h0
  split at e
  ·rename_i h1;exact absurd e h1
  ·rename_i h1
   split at e
   ·rename_i h2
    rcases gI h.n h.f (r-1)with⟨a1,_⟩|⟨a1,_⟩|⟨a1,a2,a3,a4⟩
    ·omega
    ·omega
    ·exact⟨h0,a2,h2,a4,a1,by unfold bj;rw[if_pos e0]⟩
   ·omega
theorem mX(h:HS)(r:Int):(h.aD r=12/\r=0)\/(r≠0/\h.aD r=2/\¬ (0<=r-1/\r-1<(h.n:Int)))\/(r≠0/\h.aD r=30)\/(r≠0/\h.aD r=0):=by
 unfold aD;by_cases h0:r=0
 ·rw[if_pos h0];exact .inl ⟨rfl,h0⟩
 rw[if_neg h0];rcases gI h.n h.f (r-1)with⟨a1,a2,_⟩|⟨a1,_⟩|⟨a1,a2,a3,a4⟩
 ·rw[a1];exact .inr (.inl ⟨h0,rfl,a2⟩)
 ·rw[a1];exact .inr (.inr (.inl ⟨h0,rfl⟩))
 ·rw[a1];simp only[ne_eq,not_true_eq_false,if_false];split
  ·exact .inr (.inr (.inr ⟨h0,rfl⟩))
  ·exact .inr (.inr (.inl ⟨h0,rfl⟩))
end HS
open Go.RowKit Go.Gl
namespace HS
variable {h:HS}{s k:Nat}
theorem xo{a:Int}:a∈h.br↔∃k,k<h.R/\a∈h.dg (k:Int)/\h.aD (a+1)=0:=by
 unfold br gy isObj;simp only[List.mem_flatMap,List.mem_range,List.mem_filter,decide_eq_true_eq]
theorem rN{r:Int}(e:h.aN r=5):0<=r/\r<(h.R:Int):=by
 unfold aN at e;split at e
 ·assumption
 ·omega
structure gz(h:HS)(i:Nat)(S P:Nat):Prop where
 lt:i<h.n
 hd:Hd.of (h.f i)=atH h.n h.f (i:Int)
 e:atE h.n h.f (i:Int)=0
 kind:(atH h.n h.f (i:Int)).kind=1
 size:(atH h.n h.f (i:Int)).size=(S:Int)
 aQ:(atH h.n h.f (i:Int)).aQ=(P:Int)
 pos:1<=S
 max:S<=1048576
 ps:P<S
 fit:i+S<=h.n
theorem tL{i:Nat}(e:h.aD ((i:Int)+1)=0):∃S P:Nat,i<h.n/\Hd.of (h.f i)=atH h.n h.f (i:Int)/\atE h.n h.f (i:Int)=0/\(atH h.n h.f (i:Int)).kind=1/\(atH h.n h.f (i:Int)).size=(S:Int)/\(atH h.n h.f (i:Int)).aQ=(P:Int)/\1<=S/\S<=1048576/\P<S:=by
 obtain⟨_,h1,h2,h3,h4,_⟩:=ga e;rw[show((i:Int)+1-1)=(i:Int)by omega]at h1 h2 h3 h4;have hw:=h3.ways;have hi:i<h.n:=by omega
 have ha:=(kM (f:=h.f) hi).1;exact⟨(atH h.n h.f (i:Int)).size.toNat,(atH h.n h.f (i:Int)).aQ.toNat,hi,ha.symm,h4,h2,by omega,by omega,by omega,by omega,by omega⟩
theorem Ok.lq(ok:h.Ok s k){a:Int}(ha:a∈h.br):∃i S P:Nat,a=(i:Int)/\gz h i S P:=by
 obtain⟨r,hr,hl,he⟩:=xo.1 ha;unfold dg at hl;rw[if_neg (by omega),Db]at hl;split at hl
 ·obtain⟨i,rfl,h1,h2,h3,h4⟩:=lp hl;obtain⟨S,P,k1,k2,k3,k4,k5,k6,k7,k8,k9⟩:=tL he;refine⟨i,S,P,rfl,⟨k1,k2,k3,k4,k5,k6,k7,k8,k9,?_⟩⟩;have:=h4.2;rw[k2,k5]at this;omega
 ·split at hl
  ·split at hl
   ·rename_i hb
    simp only[List.mem_singleton]at hl;subst hl;obtain⟨S,P,k1,k2,k3,k4,k5,k6,k7,k8,k9⟩:=tL he;refine⟨r*h.W,S,P,rfl,⟨k1,k2,k3,k4,k5,k6,k7,k8,k9,?_⟩⟩;unfold gx at hb;rw[if_neg (by rw[he];simp)]at hb;split at hb
    ·rename_i hc
     have hv:h.bj (((r*h.W:Nat):Int)+1)=atH h.n h.f ((r*h.W:Nat):Int):=by
      unfold bj;rw[if_pos he,show(((r*h.W:Nat):Int)+1-1)=((r*h.W:Nat):Int)by omega]
     rw[hv,k5]at hc;have hs:h.g.bA (S:Int)=(((S-1) / h.W:Nat):Int)+1:=by
      unfold Geo.bA;rw[if_neg (by omega),ok.rw,show(S:Int)-1=((S-1:Nat):Int)by omega,<- Int.natCast_ediv]
     rw[hs]at hc;have hw:=ok.ik;have hq:r+(S-1) / h.W<h.R:=by
      rcases Nat.eq_zero_or_pos ((S-1) / h.W)with h0|h0
      ·omega
      ·have:=rN (hc ((S-1) / h.W) h0 (by omega));omega
     have h1:(S-1) / h.W*h.W+h.W<=(h.R-r)*h.W:=jh (by omega);have h2:(h.R-r)*h.W=h.R*h.W-r*h.W:=Nat.sub_mul _ _ _;have h3:S-1<(S-1) / h.W*h.W+h.W:=by
      have:=Nat.div_add_mod (S-1) h.W;have h4:=Nat.mod_lt (S-1) (show 0<h.W by omega);rw[Nat.mul_comm]at this;omega
     have h5:=Nat.mul_le_mul_right h.W (show r<=h.R by omega);rw[ok.nn];omega
    ·omega
   ·cases hl
  ·cases hl
theorem gz.fields{i S P:Nat}(o:gz h i S P):bc h.n h.f (i:Int)=Go.Gl.refs i P/\du h.n h.f (i:Int)=0:=by
 have hf:fm h.n h.f (i:Int):=⟨o.kind,by rw[o.size];have:=o.fit;omega⟩;have:=iT o.e hf;rw[o.aQ,Db,Db]at this;exact this
theorem gz.refs{i S P:Nat}(o:gz h i S P):h.cv (i:Int)=(List.range P).map λ(j:Nat)=>(h.f (i+1+j):Int):=by
 unfold cv;rw[o.fields.1];unfold Go.Gl.refs;rw[List.map_map];apply List.map_congr_left;intro j _;show(h.f ((i:Int)+1+(j:Int)).toNat:Int)=_;rw[show((i:Int)+1+(j:Int)).toNat=i+1+j by omega]
theorem gz.aD{i S P:Nat}(o:gz h i S P):h.aD ((i:Int)+1)=0:=by
 unfold HS.aD;rw[if_neg (by omega),show((i:Int)+1-1)=(i:Int)by omega,o.e,o.kind];rfl
theorem gz.bj{i S P:Nat}(o:gz h i S P):h.bj ((i:Int)+1)=⟨1,S,P,(atH h.n h.f (i:Int)).age,0⟩:=by
 unfold HS.bj;rw[if_pos o.aD,show((i:Int)+1-1)=(i:Int)by omega];obtain⟨_,_,_,h3,_⟩:=ga o.aD;rw[show((i:Int)+1-1)=(i:Int)by omega]at h3;have hw:=h3.ways;have k1:=o.kind;have k2:=o.size;have k3:=o.aQ;generalize atH h.n h.f (i:Int)=H at *;obtain⟨a,b,c,d,e⟩:=H;simp only at *;rw[Hd.mk.injEq];omega
end HS
open Go.RowKit Go.Gl
structure HL where
 hb:Nat
 ab:Nat
 aw:Nat
 tb:Nat
 sb:Nat
 pb:Nat
 mb:Nat
 vo:Value
 vc:Value
 vq:Value
 vs:Value
 vm:Value
 cfg:Cfg
 m:Nat->Int
 rA:Option Addr
 rc:Nat
 rG:List Nat
 S:Nat->Nat
 bb:Nat
 B:Nat
def HL.cells(L:HL)(g:Geo)(T:Nat):Array Value:=
 #[.int .i64 L.cfg.shift,.int .i64 L.cfg.regions,.int .i64 L.cfg.aW,.int .i64 L.cfg.threads,.int .i64 L.cfg.roots,.int .i64 L.cfg.fo,.int .i64 L.cfg.markers,.int .i64 L.cfg.bP,.int .i64 L.cfg.iY,.int .i64 L.cfg.queue,.int .i64 L.cfg.stack,.int .i64 L.cfg.iZ,.int .i64 L.cfg.gJ,.int .i64 L.cfg.fail,
  .int .i64 g.words,.int .i64 g.rw,.int .i64 g.cw,.int .i64 g.regions,.int .i64 g.aF,.int .i64 g.max,
  .pointer (some ⟨L.ab,0,none⟩),.pointer (some ⟨L.tb,0,none⟩),L.vo,L.vc,L.vq,L.vs,L.vm,.slice L.rA T L.rc,.slice (some ⟨L.bb,0,none⟩) T T]
def jz(S:Nat->Nat)(T:Nat):List Value:=(List.range T).map λi=>.pointer (some ⟨S i,0,none⟩)
theorem zw(S:Nat->Nat){T i:Nat}(h:i<T):(jz S T)[i]?=some (.pointer (some ⟨S i,0,none⟩)):=by simp[jz,h]
def eK(T:Nat)(x y:Nat->Int):Array Value:=(dO (λi=>.int .i64 (x i)) (λi=>.int .i64 (y i)) T).toArray
structure Hr(w:World)(L:HL)(h:HS)(s k:Nat):Prop where
 st:Blk w L.hb 50 (L.cells h.g h.T)
 ar:∃c,Ar w L.ab L.aw h.n h.f c
 rg:Rg w L.tb L.sb L.pb L.mb h.W h.R h.s h.t L.m
 row:Lr w 75 L.rA h.T L.rc L.rG (jz L.S h.T)
 stk:∀i,i<h.T->∃F,HkP w (L.S i) F L.B (h.st i)
 buf:Blk w L.bb 215 (eK h.T h.bx h.be)
 ok:h.Ok s k
 tab:Tab w
section
variable {w w':World}{L:HL}{h:HS}{s k:Nat}{F:List Nat}
theorem HkP.ab{l:List Int}{s k:Nat}(H:HkP w s F k l){b:Nat}{cs:Array Value}(hb:Blk w b 173 cs):∀g,g∈F->g∉[b]:=by
 obtain⟨A,c,G,H,rfl⟩:=H;intro g hg hx;simp only[List.mem_singleton]at hx;subst hx;rcases C1.1 hg with rfl|hg
 ·exact H.st.apart hb (by decide) rfl
 ·exact H.row.apart hb (by decide) hg
theorem Tab.ab(hT:Tab w){b:Nat}{t:TypeId}{A:Option Addr}{n c:Nat}{cs:Array Value}(hb:Blk w b t cs)(h0:cs[0]?=some (.slice A n c)):0∉[b]:=by
 intro hx;have hx:=List.mem_singleton.1 hx;have h1:=hT 0 (by decide);have h2:=hb.cell 0;rw[<- hx]at h2;rw[h2,h0]at h1;cases h1
theorem Hr.fr1(H:Hr w L h s k)(hf:Fr [L.ab] w w')(ha:∃c,Ar w' L.ab L.aw h.n h.f c):Hr w' L h s k:=by
 obtain⟨c,hc⟩:=H.ar;have ne:∀ {b:Nat}{t:TypeId}{cs:Array Value},Blk w b t cs->t≠173->b∉[L.ab]:=λhb ht hx=>by
  simp only[List.mem_singleton]at hx;exact hb.apart hc.set ht hx
 refine⟨H.st.fr hf (ne H.st (by decide)),ha,H.rg.fr hf (ne H.rg.set (by decide)) (ne H.rg.st (by decide)) (ne H.rg.fx (by decide)) (ne H.rg.gL (by decide)),H.row.fr hf (λg hg hx=>?_),λi hi=>?_,H.buf.fr hf (ne H.buf (by decide)),H.ok,H.tab.fr hf (H.tab.ab hc.set rfl)⟩
 ·simp only[List.mem_singleton]at hx;subst hx;exact H.row.apart hc.set (by decide) hg
 ·obtain⟨F,h1⟩:=H.stk i hi;exact⟨F,h1.fr hf (h1.ab hc.set)⟩
theorem Hr.fr0(H:Hr w L h s k)(hf:Fr [] w w'):Hr w' L h s k:=by
 obtain⟨c,hc⟩:=H.ar;exact H.fr1 (hf.mono (λx hx=>by cases hx)) ⟨c,hc.fr hf (by simp) (by simp)⟩
theorem Hr.geo(H:Hr w L h s k):w.cell? ⟨L.hb,14,none⟩=some (.int .i64 h.g.words)/\w.cell? ⟨L.hb,15,none⟩=some (.int .i64 h.g.rw)/\w.cell? ⟨L.hb,16,none⟩=some (.int .i64 h.g.cw)/\w.cell? ⟨L.hb,17,none⟩=some (.int .i64 h.g.regions)/\w.cell? ⟨L.hb,18,none⟩=some (.int .i64 h.g.aF)/\w.cell? ⟨L.hb,19,none⟩=some (.int .i64 h.g.max):=
 ⟨H.st.cell 14,H.st.cell 15,H.st.cell 16,H.st.cell 17,H.st.cell 18,H.st.cell 19⟩
theorem Hr.cA(H:Hr w L h s k):w.cell? ⟨L.hb,20,none⟩=some (.pointer (some ⟨L.ab,0,none⟩)):=H.st.cell 20
theorem Hr.cT(H:Hr w L h s k):w.cell? ⟨L.hb,21,none⟩=some (.pointer (some ⟨L.tb,0,none⟩)):=H.st.cell 21
theorem Hr.cR(H:Hr w L h s k):w.cell? ⟨L.hb,27,none⟩=some (.slice L.rA h.T L.rc):=H.st.cell 27
theorem Hr.cB(H:Hr w L h s k):w.cell? ⟨L.hb,28,none⟩=some (.slice (some ⟨L.bb,0,none⟩) h.T h.T):=H.st.cell 28
end
theorem Blk.BY{w:World}{g:Nat}{t:TypeId}{a b c d e:Value}(h:Blk w g t #[a,b,c,d,e])(u0 u1 u2 u3 u4:Value) :
  Blk (((((w.setCell ⟨g,0,none⟩ u0).setCell ⟨g,1,none⟩ u1).setCell ⟨g,2,none⟩ u2).setCell ⟨g,3,none⟩ u3).setCell ⟨g,4,none⟩ u4) g t #[u0,u1,u2,u3,u4]:=by
 have:=((((h.put 0 u0).put 1 u1).put 2 u2).put 3 u3).put 4 u4;simpa using this
def HrP(w:World)(L:HL)(h:HS)(s k:Nat)(v:Value)(e:Ending)(w':World):Prop:=e=.returned v/\Hr w' L h s k/\Fr [L.ab] w w'
theorem gc{i:Nat}(hi:i<=4194304)(w:World):Calls Tryz.prog 61 #[.int .i64 (i:Int)] w λe w'=>e=.returned (.int .u64 ((i:Int)+1))/\w=w':=by
 have e1:IntKind.u64.wrap (i:Int)=(i:Int):=IntWalk.u64_in _ ⟨by omega,by omega⟩;have e2:IntKind.u64.wrap ((i:Int)+1)=(i:Int)+1:=IntWalk.u64_in _ ⟨by omega,by omega⟩;go_enter Tryz.func61,Tryz.ntmps61
 go_wp2
 go_ret
 exact⟨rfl,rfl⟩
theorem pU{r:Int}(h0:1<=r)(h1:r<=9223372036854775807)(w:World):Calls Tryz.prog 69 #[.int .u64 r] w λe w'=>e=.returned (.int .i64 (r-1))/\w=w':=by
 have e1:IntKind.u64.wrap (r-1)=r-1:=IntWalk.u64_in _ ⟨by omega,by omega⟩;have e2:IntKind.i64.wrap (r-1)=r-1:=IntWalk.i64_in _ ⟨by omega,by omega⟩;go_enter Tryz.func69,Tryz.ntmps69
 go_wp2
 go_ret
 exact⟨rfl,rfl⟩
section
variable {w:World}{L:HL}{h:HS}{s k:Nat}
theorem pV(H:Hr w L h s k){i:Nat}(hi:i<h.n):Calls Tryz.prog 70 #[.pointer (some ⟨L.hb,0,none⟩),.int .i64 (i:Int)] w (HrP w L h s k (.int .u64 (h.f i:Int))):=by
 have HH:=aa H;obtain⟨c,hc⟩:=H.ar;have c0:=H.cA;have HL:=aa (kE hc rfl hi rfl);clear H hc;generalize h.f i=x at *;go_enter Tryz.func70,Tryz.ntmps70
 go_wp2_with fail
 refine HL.out.mono ?_;rintro e w1 ⟨rfl,ha,hf⟩;have HA:=aa ha;have HF:=aa hf;clear ha hf;go_wp2_with fail
 go_ret
 exact⟨rfl,HH.out.fr1 HF.out ⟨_,HA.out⟩,HF.out⟩
theorem fW(H:Hr w L h s k){r:Int}(h0:0<=r)(h1:r<=9223372036854775807):Calls Tryz.prog 60 #[.pointer (some ⟨L.hb,0,none⟩),.int .u64 r] w (HrP w L h s k (.tuple #[(h.bj r).val,.int .i64 (h.aD r)])):=by
 have HH:=aa H;by_cases hr:r=0
 ·subst hr;have e1:h.aD 0=12:=by unfold HS.aD;rw[if_pos rfl]
  have e2:h.bj 0=Hd.zero:=by unfold HS.bj;rw[if_neg (by rw[e1];decide)]
  rw[e1,e2];clear H e1 e2;go_enter Tryz.func60,Tryz.ntmps60
  go_wp2_with fail
  refine bodyPost_ret (v:=.tuple #[.agg #[.int .i64 0,.int .i64 0,.int .i64 0,.int .i64 0,.int .i64 0],.int .i64 12]) (by simp[results,Tryz.results60,go_sem, *]) rfl ⟨rfl,HH.out.fr0 ((Fr.refl _ _).alloc _),(Fr.refl _ _).alloc _⟩
 ·obtain⟨c,hc⟩:=H.ar;have c0:=H.cA;have HX:=aa (λw'=>pU (r:=r) (by omega) h1 w');have HQ:Hid (L.ab<w.heap.size/\L.aw<w.heap.size/\L.hb<w.heap.size):=⟨hc.set.lt,hc.row.lt,H.st.lt⟩;have HT:Hid (∀w',Fr [] w w'->Calls Tryz.prog 109 #[.pointer (some ⟨L.ab,0,none⟩),.int .i64 (r-1)] w' (jV w' L.ab L.aw h.n h.f (r-1))):=λw' hf=>nY (hc.fr hf (by simp) (by simp)) (r-1);have N0:L.hb<w.heap.size:=H.st.lt;unfold jV at HT;have hr':(r==0)=false:=by simpa using hr
  have hway:(atE h.n h.f (r-1)≠0/\h.aD r=atE h.n h.f (r-1)/\h.bj r=Hd.zero)\/(atE h.n h.f (r-1)=0/\(atH h.n h.f (r-1)).kind≠1/\h.aD r=30/\h.bj r=Hd.zero)\/(atE h.n h.f (r-1)=0/\(atH h.n h.f (r-1)).kind=1/\h.aD r=0/\h.bj r=atH h.n h.f (r-1)):=by
   unfold HS.bj HS.aD;rw[if_neg hr];by_cases e1:atE h.n h.f (r-1)=0
   ·by_cases e2:(atH h.n h.f (r-1)).kind=1
    ·exact .inr (.inr ⟨e1,e2,by simp[e1,e2],by simp[e1,e2]⟩)
    ·exact .inr (.inl ⟨e1,e2,by simp[e1,e2],by simp[e1,e2]⟩)
   ·exact .inl ⟨e1,by simp[e1],by simp[e1]⟩
  clear H hc;generalize atH h.n h.f (r-1)=g at *;generalize atE h.n h.f (r-1)=E at *;generalize h.bj r=V at *;generalize h.aD r=U at *;obtain⟨K,sz,p,q,t⟩:=g;obtain⟨z,hz⟩:∃z:Obj,z=.cells #[.int .i64 0,.int .i64 0,.int .i64 0,.int .i64 0,.int .i64 0] 151:=⟨_,rfl⟩;have HT1:=aa (HT.out (w.alloc (.cells #[.int .i64 0,.int .i64 0,.int .i64 0,.int .i64 0,.int .i64 0] 151)).drew ((Fr.refl _ _).alloc _).drew);have HT2:=aa (HT.out ((w.alloc (.cells #[.int .i64 0,.int .i64 0,.int .i64 0,.int .i64 0,.int .i64 0] 151)).alloc (.cells #[.int .i64 0,.int .i64 0,.int .i64 0,.int .i64 0,.int .i64 0] 151)).drew (((Fr.refl _ _).alloc _).alloc _).drew);unfold Hd.val at HT1 HT2;simp only at hway HT1 HT2;have HB1:Hid (∀w',Fr [L.ab] (w.alloc (.cells #[.int .i64 0,.int .i64 0,.int .i64 0,.int .i64 0,.int .i64 0] 151)).drew w'->Blk w' w.heap.size 151 Hd.zero.cells):=λw' hf=>(Blk.drew (Blk.new w 151 Hd.zero.cells)).fr hf (by have:=HQ.out.1;simp;omega);have HB2:Hid (∀w',Fr [L.ab] ((w.alloc (.cells #[.int .i64 0,.int .i64 0,.int .i64 0,.int .i64 0,.int .i64 0] 151)).alloc (.cells #[.int .i64 0,.int .i64 0,.int .i64 0,.int .i64 0,.int .i64 0] 151)).drew w'->Blk w' w.heap.size 151 Hd.zero.cells/\Blk w' (w.heap.size+1) 151 Hd.zero.cells):=λw' hf=>
   ⟨(Blk.drew ((Blk.new w 151 Hd.zero.cells).alloc _)).fr hf (by have:=HQ.out.1;simp;omega),(Blk.drew (Blk.aX (w:=w.alloc (.cells #[.int .i64 0,.int .i64 0,.int .i64 0,.int .i64 0,.int .i64 0] 151)) 151 Hd.zero.cells (by simp))).fr hf (by have:=HQ.out.1;simp;omega)⟩
  clear hz;go_enter Tryz.func60,Tryz.ntmps60
  go_wp2_with fail
  go_cut [6,7] from 14 to 33 (λx y wc=>∃xb,x=.pointer (some ⟨xb,0,none⟩)/\y=.int .i64 E/\Blk wc xb 151 #[.int .i64 K,.int .i64 sz,.int .i64 p,.int .i64 q,.int .i64 t]/\Blk wc w.heap.size 151 Hd.zero.cells/\Hr wc L h s k/\Fr [L.ab] w wc)
  case first=>
   go_region_with (first|(go_at_call 69;refine(HX.out _).mono ?_;rintro e w' ⟨rfl,rfl⟩)|(go_at_call 109;first|((with_reducible refine Calls.mono HT1.out ?_);rintro e w1 ⟨c1,rfl,ha,hf⟩;have HA:=aa ha;have HFa:=aa hf;clear ha hf)|((with_reducible refine Calls.mono HT2.out ?_);rintro e w1 ⟨c1,rfl,ha,hf⟩;have HA:=aa ha;have HFb:=aa hf;obtain⟨⟨z0,z1,z2,z3,z4⟩,f0,f1,f2,f3,f4⟩:=Hd.cE (HB2.out _ hf).2;have N2:=(HB2.out _ hf).2.lt;clear ha hf)))
   all_goals
    go_wp2_with fail
    go_meet
   all_goals first|(have _x:=HFa;exact⟨_,rfl,rfl,Blk.new _ _ _,(HB1.out _ HFa.out).alloc _,HH.out.fr1 ((((Fr.refl [L.ab] w).alloc _).drew.ae HFa.out).alloc _) ⟨_,HA.out.fr ((Fr.refl [] _).alloc _) (by simp) (by simp)⟩,(((Fr.refl [L.ab] w).alloc _).drew.ae HFa.out).alloc _⟩)|(exact⟨_,rfl,rfl,Blk.BY (HB2.out _ HFb.out).2 _ _ _ _ _,(HB2.out _ HFb.out).1.fr (F:=[w.heap.size+1]) ((Fr.refl _ _).jq (.inl (by simp)) _ _ _ _ _) (by simp),HH.out.fr1 (((((Fr.refl [L.ab] w).alloc _).alloc _).drew.ae HFb.out).jq (.inr (by omega)) _ _ _ _ _) ⟨_,HA.out.fr (F:=[w.heap.size+1]) ((Fr.refl _ _).jq (.inl (by simp)) _ _ _ _ _) (by have:=HQ.out.1;simp;omega) (by have:=HQ.out.2.1;simp;omega)⟩,((((Fr.refl [L.ab] w).alloc _).alloc _).drew.ae HFb.out).jq (.inr (by omega)) _ _ _ _ _⟩)
  case rest=>
   obtain⟨xb,rfl,rfl,hx,hz,hH,hF⟩:=hcut;have x0:wc.cell? ⟨xb,0,none⟩=some (.int .i64 K):=hx.cell 0;have x1:wc.cell? ⟨xb,1,none⟩=some (.int .i64 sz):=hx.cell 1;have x2:wc.cell? ⟨xb,2,none⟩=some (.int .i64 p):=hx.cell 2;have x3:wc.cell? ⟨xb,3,none⟩=some (.int .i64 q):=hx.cell 3;have x4:wc.cell? ⟨xb,4,none⟩=some (.int .i64 t):=hx.cell 4;obtain⟨⟨z0,z1,z2,z3,z4⟩,f0,f1,f2,f3,f4⟩:=Hd.cE hz;have N2:=hz.lt;have HH2:=aa hH;have HF2:=aa hF;have HN2:Hid (∀v0 v1 v2 v3 v4,Hr (((((wc.setCell ⟨w.heap.size,0,none⟩ v0).setCell ⟨w.heap.size,1,none⟩ v1).setCell ⟨w.heap.size,2,none⟩ v2).setCell ⟨w.heap.size,3,none⟩ v3).setCell ⟨w.heap.size,4,none⟩ v4) L h s k/\Fr [L.ab] w (((((wc.setCell ⟨w.heap.size,0,none⟩ v0).setCell ⟨w.heap.size,1,none⟩ v1).setCell ⟨w.heap.size,2,none⟩ v2).setCell ⟨w.heap.size,3,none⟩ v3).setCell ⟨w.heap.size,4,none⟩ v4)):=λv0 v1 v2 v3 v4=>by
    obtain⟨c9,hc9⟩:=hH.ar;have hf:=hF.jq (.inr (Nat.le_refl _)) v0 v1 v2 v3 v4;exact⟨HH.out.fr1 hf ⟨c9,hc9.fr (F:=[w.heap.size]) ((Fr.refl _ _).jq (.inl (by simp)) _ _ _ _ _) (by have:=HQ.out.1;simp;omega) (by have:=HQ.out.2.1;simp;omega)⟩,hf⟩
   clear hx hz hH hF HB1 HB2 HT1 HT2 HT;rcases hway with⟨h3,rfl,rfl⟩|⟨rfl,h3,rfl,rfl⟩|⟨rfl,rfl,rfl,rfl⟩
   ·have h3':(U !=0)=true:=by simpa using h3
    go_wp2_with fail
    refine bodyPost_ret (v:=.tuple #[.agg #[.int .i64 0,.int .i64 0,.int .i64 0,.int .i64 0,.int .i64 0],.int .i64 U]) (by simp[results,Tryz.results60,go_sem, *]) rfl ⟨rfl,HN2.out _ _ _ _ _⟩
   ·have h3':(K !=1)=true:=by simpa using h3
    go_wp2_with fail
    refine bodyPost_ret (v:=.tuple #[.agg #[.int .i64 0,.int .i64 0,.int .i64 0,.int .i64 0,.int .i64 0],.int .i64 30]) (by simp[results,Tryz.results60,go_sem, *]) rfl ⟨rfl,HN2.out _ _ _ _ _⟩
   ·go_wp2_with fail
    refine bodyPost_ret (v:=.tuple #[.agg #[.int .i64 1,.int .i64 sz,.int .i64 p,.int .i64 q,.int .i64 t],.int .i64 0]) (by simp[results,Tryz.results60,go_sem, *]) rfl ⟨rfl,HN2.out _ _ _ _ _⟩
end
end Go.Proofs.YtimlkjppaalfaaaGreatDoor
