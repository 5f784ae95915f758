/- Several texts joined (pack.py): Sl Vl. -/
import Derived.Test.YtimkofiempcfdaaGreatDoorPW12
import Derived.Test.YtimkofiempcfdaaGreatDoorPW01
import Derived.Test.YtimkofiempcfdaaGreatDoorPW00
import Derived.Deep.RegionHeld3
import Derived.Deep.CutRange
import Derived.Test.YtimkofiempcfdaaGreatDoorPW09
import Derived.Test.YtimkofiempcfdaaGreatDoorPW10
import Derived.Test.YtimkofiempcfdaaGreatDoorPW02
import Derived.Test.YtimkofiempcfdaaGreatDoorPW08
set_option linter.unusedVariables false
set_option linter.unusedSimpArgs false
set_option maxRecDepth 100000
open Nat renaming le_trans->Eh
namespace Go.Proofs.YtimkofiempcfdaaGreatDoor
open Go.RowKit Go.Gl
def part(per s:Nat)(p:Nat->Bool)(k:Nat):List Int:=((List.range k).filter p).map λi=>((s*per+i:Nat):Int)
def CV(σ:RS)(per h s:Nat):List Int:=part per s (λi=>Bi σ per h (s*per+i)) per
def Cc(w:World)(G0:List Nat)(xs:List Int)(e:Ending)(w':World):Prop:=
 ∃A c G,e=.returned (.slice A xs.length c)/\Lr w' 3 A xs.length c G (zv xs)/\Fr G0 w w'/\∀g,g∈G->g∈G0\/w.heap.size<=g
def C8(per:Nat)(v:Value):Nat:=if intOf v<0 then 0 else per-(intOf v).toNat
section
variable {w:World}{tg:Tg}{sb kb sB hB fB per n:Nat}{σ:RS}{fk:Value->Option Value}{Vs Vh Vf:Nat->Value}
end
def DR(σ:RS)(n h:Nat):List Nat:=(List.range n).filter λs=>decide (σ.way h s≠0)
def DC(σ:RS)(per n h:Nat):List Int:=part (n*per) 0 (Bi σ per h) (n*per)
section
variable {w:World}{tg:Tg}{sb kb sB hB fB per n:Nat}{σ:RS}{fk:Value->Option Value}{Vs Vh Vf:Nat->Value}
end
def SAt(w:World)(tg:Tg)(sb per n:Nat)(σ:RS):Prop:=∃kb sB hB fB fk Vs Vh Vf,Rs w tg sb kb sB hB fB per n σ fk Vs Vh Vf
def Old(B:Nat)(tg:Tg):Prop:=∀b,b<B->(tg b).1=0
def Upd(w:World)(tg:Tg)(sb per n:Nat)(v:Value)(σ:RS)(e:Ending)(w':World):Prop:=
 ∃tg' F,e=.returned v/\SAt w' tg' sb per n σ/\Fr F w w'/\(∀b,b∈F->(tg b).1≠0)/\iC w tg tg'
section
variable {w w':World}{tg tg':Tg}{F:List Nat}{sb per n B:Nat}{σ:RS}
theorem SAt.fr(h:SAt w tg sb per n σ)(hf:Fr F w w')(hF:∀b,b∈F->(tg b).1=0):SAt w' tg sb per n σ:=by
 obtain⟨kb,sB,hB,fB,fk,Vs,Vh,Vf,h⟩:=h;exact⟨kb,sB,hB,fB,fk,Vs,Vh,Vf,h.fr hf hF⟩
theorem SAt.tok(h:SAt w tg sb per n σ):xG w tg:=by
 obtain⟨kb,sB,hB,fB,fk,Vs,Vh,Vf,h⟩:=h;exact h.tok
end
def DS(W w:World)(sb per n:Nat)(σ:RS):Prop:=Fr [] W w/\∃tg,SAt w tg sb per n σ/\Old W.heap.size tg
section
variable {W w w':World}{sb per n:Nat}{σ σ':RS}{v:Value}{e:Ending}
end
def C9:Geo:=⟨512,64,8,8,64,448⟩
def tau(k:Nat):RS:=⟨λa b=>if a=0/\b=1 then (if k<=8 then 0 else if k<=12 then 1 else 2) else 0,λa c=>decide (a=0/\8<=c/\c<k)⟩
structure cJ(g:Geo)(W R C P:Nat):Prop where
 rw:g.rw=(W:Int)
 cw:g.cw=(C:Int)
 rg:g.regions=(R:Int)
 wd:g.words=((R*W:Nat):Int)
 cd:g.aG=((R*P:Nat):Int)
 wp:W=P*C
 p1:1<=P
 c1:1<=C
 c8:8<=C
 r2:2<=R
 r3:R<=65536
 mx:R*W<=4194304
theorem xJ{g:Geo}{s k:Nat}(h:g.Ok s k):∃R,cJ g (2 ^ s) R (2 ^ k) (2 ^ (s-k)):=by
 obtain⟨R,hR⟩:=Int.eq_ofNat_of_zero_le h.wS;have hR:g.regions=(R:Int):=hR;have hk:=h.ks;have e1:2 ^ s=2 ^ (s-k)*2 ^ k:=by rw[<- Nat.pow_add];congr 1;omega
 have hw:g.words=((R*2 ^ s:Nat):Int):=by rw[h.words,hR,je,Int.natCast_mul]
 have h8:8<=2 ^ k:=Eh (show 8<=2 ^ 3 by decide) (Nat.pow_le_pow_right (by decide) h.k3);refine⟨R,⟨h.rw.trans (je s),h.cw.trans (je k),hR,hw,?_,e1,Nat.pos_of_ne_zero (by simp),by omega,h8,by have:=h.r2;omega,by have:=h.nZ;omega,by have:=h.pP;omega⟩⟩;have hc:=h.aG;rw[hw,e1,<- Nat.mul_assoc,je,Int.natCast_mul (R*2 ^ (s-k))]at hc;exact Int.eq_of_mul_eq_mul_right (by
                   have:0<2 ^ k:=by omega
                   omega) hc
section
variable {g:Geo}{W R cw per:Nat}
theorem cJ.pm(h:cJ g W R cw per):R*per<=4194304:=by
 have h1:=h.mx;rw[h.wp,<- Nat.mul_assoc]at h1;exact Eh (Nat.le_mul_of_pos_right _ h.c1) h1
theorem cJ.iW(h:cJ g W R cw per):1<=W:=by rw[h.wp];exact Nat.mul_pos h.p1 h.c1
theorem cJ.oB(h:cJ g W R cw per):cw*(R*per)=R*W:=by rw[h.wp,Nat.mul_comm cw,Nat.mul_assoc]
theorem cJ.cwm(h:cJ g W R cw per):cw<=4194304:=by
 have h1:=h.mx;rw[<- h.oB]at h1;exact Eh (Nat.le_mul_of_pos_right _ (Nat.mul_pos (by have:=h.r2;omega) h.p1)) h1
theorem cJ.Bp(h:cJ g W R cw per):qt g cw (R*per):=
 ⟨h.c1,by have:=h.cwm;omega,by rw[h.oB];exact h.mx,by rw[h.oB];exact h.wd,h.cw,h.cd⟩
theorem cJ.xK(h:cJ g W R cw per):sa g W R:=⟨by have:=h.r2;omega,h.r3,h.iW,h.mx,h.wd,h.rw,h.rg⟩
theorem cJ.Da(h:cJ g W R cw per):OkG g per R:=by
 have hd:Dim per R:=⟨by have:=h.r2;omega,h.r3,h.p1,h.pm⟩;have hc:=h.c1;have hr:=h.r2;refine⟨hd,h.rg,h.cd,?_,by rw[h.cw];omega,?_,?_,?_,?_,?_,?_,?_,?_⟩
 ·rw[h.rw,h.cw,h.wp,Int.tdiv_eq_ediv_of_nonneg (by omega),<- Int.natCast_ediv,Nat.mul_div_cancel _ (by omega)]
 ·rw[h.rg];omega
 ·rw[h.rg];have:=h.r3;omega
 ·rw[h.cw];omega
 ·rw[h.rw];have:=h.iW;omega
 ·rw[h.rw,h.rg];have h1:W<=4194304 / R:=(Nat.le_div_iff_mul_le (by omega)).2 (by rw[Nat.mul_comm];exact h.mx);have h2:(4194304:Int) / (R:Int)=((4194304 / R:Nat):Int):=by rw[Int.natCast_ediv];rfl
  rw[h2];omega
 ·rw[h.rw,h.cw,h.wp,<- Int.natCast_emod,Nat.mul_mod_left];rfl
 ·rw[h.wd,h.rg,h.rw,Int.natCast_mul]
 ·rw[h.cd,h.wd,h.cw,h.wp,<- Nat.mul_assoc,<- Int.natCast_ediv,Nat.mul_div_cancel _ (by omega)]
end
structure HX where
 ob:Nat
 oo:Nat
 cb:Nat
 cs:Nat
 cr:Nat
 qb:Nat
 qF:List Nat
 zb:Nat
 mb:Nat
 mr:Nat
structure HT where
 cw:Nat
 per:Nat
 O:Nat->Int
 C:List Nat
 qm:Nat
 qc:List Int
 ql:Nat->List Int
 σ:RS
 M:List Nat
structure Hw(w:World)(L:HL)(X:HX)(tg:Tg)(own:Nat->Nat)(FS:Nat->List Nat)(h:HS)(x:HT)(s k:Nat):Prop where
 st:Blk w L.hb 51 (L.cells h.g h.T)
 ar:∃c,Ar w L.ab L.aw h.n h.f c
 rg:Rg w L.tb L.sb L.pb L.mb h.W h.R h.s h.t L.m
 row:Lr w 83 L.rA h.T L.rc L.rG (jF L.S h.T)
 stk:∀i,i<h.T->HkP w (L.S i) (FS i) L.B (h.st i)
 buf:Blk w L.bb 236 (eJ h.T h.bx h.be)
 ok:h.Ok s k
 tab:Tab w
 dim:cJ h.g h.W h.R x.cw x.per
 of:Of w X.ob X.oo x.cw (h.R*x.per) x.O
 ct:Ct w X.cb X.cs X.cr (h.R*x.per) x.C
 qu:Qq w X.qb X.qF h.T x.qm x.qc x.ql
 se:SAt w tg X.zb x.per h.R x.σ
 ma:cU w X.mb X.mr h.n x.M
 vo:L.vo=.pointer (some ⟨X.ob,0,none⟩)
 vc:L.vc=.pointer (some ⟨X.cb,0,none⟩)
 vq:L.vq=.pointer (some ⟨X.qb,0,none⟩)
 vs:L.vs=.pointer (some ⟨X.zb,0,none⟩)
 vm:L.vm=.pointer (some ⟨X.mb,0,none⟩)
 o1:own L.hb=1/\own L.bb=1/\∀b,b∈L.rG->own b=1
 o2:own L.ab=2/\own L.aw=2
 o3:own L.tb=3/\own L.sb=3/\own L.pb=3/\own L.mb=3
 o4:own X.ob=4/\own X.oo=4
 o5:own X.cb=5/\own X.cs=5/\own X.cr=5
 o6:∀b,b∈X.qF->own b=6
 o7:∀b,(tg b).1≠0->own b=7
 o8:own X.mb=8/\own X.mr=8
 iX:∀i,i<h.T->∀b,b∈FS i->own b=100+i
 o0:own 0=0
 lt:∀b,own b≠0->b<w.heap.size
section
variable {w w':World}{L:HL}{X:HX}{tg:Tg}{own:Nat->Nat}{FS:Nat->List Nat}{h:HS}{x:HT}{s k:Nat}
theorem Hw.hr(H:Hw w L X tg own FS h x s k):Hr w L h s k:=⟨H.st,H.ar,H.rg,H.row,λi hi=>⟨FS i,H.stk i hi⟩,H.buf,H.ok,H.tab⟩
end
abbrev ptr(b:Nat):Value:=.pointer (some ⟨b,0,none⟩)
def bP(c:Cfg)(g:Geo)(T bb:Nat)(v0 v1 v2 v3 v4 v5 v6 vR:Value):Array Value:=
 #[.int .i64 c.shift,.int .i64 c.regions,.int .i64 c.aT,.int .i64 c.threads,.int .i64 c.roots,.int .i64 c.di,.int .i64 c.markers,.int .i64 c.bH,.int .i64 c.gS,.int .i64 c.queue,.int .i64 c.stack,.int .i64 c.gT,.int .i64 c.eY,.int .i64 c.fail,
  .int .i64 g.words,.int .i64 g.rw,.int .i64 g.cw,.int .i64 g.regions,.int .i64 g.aG,.int .i64 g.max,
  v0,v1,v2,v3,v4,v5,v6,vR,.slice (some ⟨bb,0,none⟩) T T]
structure fw(w:World)(cb gb hb bb T:Nat)(c:Cfg)(g:Geo)(cs:Array Value):Prop where
 c:Blk w cb 23 c.cells
 g:Blk w gb 40 g.cells
 h:Blk w hb 51 cs
 b:Blk w bb 236 (eJ T (λ_=>0) (λ_=>0))
 t:Tab w
 n:hb≠0
section
variable {w w':World}{cb gb hb bb T:Nat}{c:Cfg}{g:Geo}{cs:Array Value}{F:List Nat}
theorem fw.fr(h:fw w cb gb hb bb T c g cs)(hf:Fr F w w')(h1:cb∉F)(h2:gb∉F)(h3:hb∉F)(h4:bb∉F)(h5:0∉F):fw w' cb gb hb bb T c g cs:=⟨h.c.fr hf h1,h.g.fr hf h2,h.h.fr hf h3,h.b.fr hf h4,h.t.fr hf h5,h.n⟩
theorem fw.fr0(h:fw w cb gb hb bb T c g cs)(hf:Fr [] w w'):fw w' cb gb hb bb T c g cs:=h.fr hf (by simp) (by simp) (by simp) (by simp) (by simp)
theorem fw.put(h:fw w cb gb hb bb T c g cs)(k:Nat)(v:Value):fw (w.setCell ⟨hb,k,none⟩ v) cb gb hb bb T c g (cs.setIfInBounds k v):=by
 have hf:Fr [hb] w (w.setCell ⟨hb,k,none⟩ v):=(Fr.refl _ _).setCell (p:=⟨hb,k,none⟩) (.inl (by simp)) _;refine⟨h.c.fr hf ?_,h.g.fr hf ?_,h.h.put k v,h.b.fr hf ?_,h.t.fr hf (by simpa using h.n.symm),h.n⟩
 ·simpa using h.c.apart h.h (by decide)
 ·simpa using h.g.apart h.h (by decide)
 ·simpa using h.b.apart h.h (by decide)
end
structure sx(w0 w:World)(cb gb hb bb T:Nat)(c:Cfg)(g:Geo)(v0 v1 v2 v3 v4 v5 v6:Value)(B k:Nat)(rA:Option Addr)(rc:Nat)(rG:List Nat)(S:Nat->Nat)(FS:Nat->List Nat)(f:Nat->Nat):Prop where
 st:fw w cb gb hb bb T c g (bP c g T bb v0 v1 v2 v3 v4 v5 v6 (.slice rA k rc))
 row:Lr w 83 rA k rc rG (jF S k)
 stk:∀i,i<k->HkP w (S i) (FS i) B []
 oG:∀b,b∈rG->f b=1
 oF:∀i,i<k->∀b,b∈FS i->f b=100+i
 ofn:∀b,f b≠0->w0.heap.size<=b/\b<w.heap.size
 fr:Fr [hb] w0 w
 h0:hb<w0.heap.size
 n0:0<w0.heap.size
def bj{α:Type}(f:Nat->α)(k:Nat)(v:α):Nat->α:=λi=>if i=k then v else f i
theorem fc{α:Type}(f:Nat->α)(k:Nat)(v:α):bj f k v k=v:=if_pos rfl
theorem fe{α:Type}(f:Nat->α){k i:Nat}(v:α)(h:i≠k):bj f k v i=f i:=if_neg h
theorem vb(S:Nat->Nat)(k s:Nat):jF (bj S k s) (k+1)=jF S k++[ptr s]:=by
 unfold jF;rw[List.range_succ,List.map_append]
 congr 1
 ·refine List.map_congr_left λi hi=>?_;rw[fe _ _ (by have:=List.mem_range.1 hi;omega)]
 ·simp[fc]
theorem fw.begin{w:World}{cb gb hb bb T:Nat}{c:Cfg}{g:Geo}{v0 v1 v2 v3 v4 v5 v6:Value}{B:Nat}(h:fw w cb gb hb bb T c g (bP c g T bb v0 v1 v2 v3 v4 v5 v6 (.slice none 0 0))):sx w w cb gb hb bb T c g v0 v1 v2 v3 v4 v5 v6 B 0 none 0 [] (λ_=>0) (λ_=>[]) (λ_=>0):=
 ⟨h,Lr.nil _ _,λi hi=>absurd hi (by omega),λb hb=>(by cases hb),λi hi=>absurd hi (by omega),λb hb=>absurd rfl hb,Fr.refl _ _,h.h.lt,ae (h.t 0 (by decide))⟩
theorem sx.add{w0 w w1 w2:World}{cb gb hb bb T:Nat}{c:Cfg}{g:Geo}{v0 v1 v2 v3 v4 v5 v6:Value}{B k:Nat}{rA:Option Addr}{rc:Nat}{rG:List Nat}{S:Nat->Nat}{FS:Nat->List Nat}{f:Nat->Nat}
  (h:sx w0 w cb gb hb bb T c g v0 v1 v2 v3 v4 v5 v6 B k rA rc rG S FS f) {s:Nat}{F:List Nat} (hf1:Fr [] w w1) (hs:HkP w1 s F B []) (hn:∀x,x∈F->w.heap.size<=x) {o:Obj}{A':Option Addr}{c':Nat}{G':List Nat}
  (hr:Lr w2 83 A' (k+1) c' G' (jF S k++[ptr s])) (hf2:Fr rG (w1.alloc o) w2) (hG:∀x,x∈G'->x∈rG\/x=(w1.alloc o).heap.size) :
  ∃S' FS' f',sx w0 (w2.setCell ⟨hb,27,none⟩ (.slice A' (k+1) c')) cb gb hb bb T c g v0 v1 v2 v3 v4 v5 v6 B (k+1) A' c' G' S' FS' f':=by
 have hf3:Fr [hb] w2 (w2.setCell ⟨hb,27,none⟩ (.slice A' (k+1) c')):=(Fr.refl _ _).setCell (p:=⟨hb,27,none⟩) (.inl (by simp)) _;have hfa:Fr [] w (w1.alloc o):=hf1.alloc _;have s1:=hf1.size;have s2:=hf2.size;have s3:=hf3.size;have s0:=h.fr.size;have h0:=h.h0;have n0:=h.n0;simp at s2;have rlt:∀x,x∈rG->w0.heap.size<=x/\x<w.heap.size:=λx hx=>h.ofn x (by rw[h.oG x hx];decide);have st2:fw w2 cb gb hb bb T c g (bP c g T bb v0 v1 v2 v3 v4 v5 v6 (.slice rA k rc)):=
  (h.st.fr0 hfa).fr hf2 (h.row.apart h.st.c (by decide)) (h.row.apart h.st.g (by decide)) (h.row.apart h.st.h (by decide)) (h.row.apart h.st.b (by decide)) (λhx=>by have:=(rlt _ hx).1;omega)
 have Flt:=hs.lt;have e2:(w1.alloc o).heap.size=w1.heap.size+1:=by simp
 rw[e2]at hG;refine⟨bj S k s,bj FS k F,λx=>if x<w.heap.size then f x else if x∈F then 100+k else if x∈G' then 1 else 0,st2.put 27 _,?_,λi hi=>?_,λb hb'=>?_,λi hi b hb'=>?_,λb hb'=>?_,?_,h0,n0⟩
 ·rw[vb];refine hr.fr hf3 λx hx hx'=>?_;simp at hx';subst hx';rcases hG x hx with h1|h1
  ·have:=(rlt _ h1).1;omega
  ·omega
 ·by_cases e:i=k
  ·subst e;rw[fc,fc];refine(((hs.fr0 ((Fr.refl _ _).alloc o)).fr hf2 λx hx hx'=>?_)).fr hf3 λx hx hx'=>?_
   ·have:=hn x hx;have:=(rlt _ hx').2;omega
   ·simp at hx';have:=hn x hx;omega
  ·rw[fe _ _ e,fe _ _ e];have hi':i<k:=by omega
   refine(((h.stk i hi').fr0 hfa).fr hf2 λx hx hx'=>?_).fr hf3 λx hx hx'=>?_
   ·have h1:=h.oF i hi' x hx;rw[h.oG x hx']at h1;omega
   ·simp at hx';have:=(h.ofn x (by rw[h.oF i hi' x hx];omega)).1;omega
 ·rcases hG b hb' with h1|h1
  ·show(if b<w.heap.size then f b else _)=1;rw[if_pos (rlt b h1).2];exact h.oG b h1
  ·show(if b<w.heap.size then f b else if b∈F then 100+k else if b∈G' then 1 else 0)=1;rw[if_neg (by omega),if_neg (λhx=>by have:=Flt b hx;omega),if_pos hb']
 ·by_cases e:i=k
  ·subst e;rw[fc]at hb';show(if b<w.heap.size then f b else if b∈F then 100+i else if b∈G' then 1 else 0)=100+i;rw[if_neg (by have:=hn b hb';omega),if_pos hb']
  ·rw[fe _ _ e]at hb';have hi':i<k:=by omega
   have h1:=h.oF i hi' b hb';show(if b<w.heap.size then f b else if b∈F then 100+k else if b∈G' then 1 else 0)=100+i;rw[if_pos ((h.ofn b (by rw[h1];omega)).2)];exact h1
 ·have hb2:(if b<w.heap.size then f b else if b∈F then 100+k else if b∈G' then 1 else 0)≠0:=hb';by_cases e1:b<w.heap.size
  ·rw[if_pos e1]at hb2;have:=h.ofn b hb2;omega
  ·rw[if_neg e1]at hb2;by_cases e3:b∈F
   ·have:=Flt b e3;omega
   ·rw[if_neg e3]at hb2;by_cases e4:b∈G'
    ·have:=hr.lt b e4;omega
    ·rw[if_neg e4]at hb2;exact absurd rfl hb2
 ·exact((h.fr.trans hfa (λx hx=>by cases hx)).trans hf2 (λx hx=>.inr (rlt x hx).1)).af hf3
def HSn(g:Geo)(W R n T:Nat):HS:=⟨g,W,R,n,λ_=>0,λ_=>0,λk=>((k*W:Nat):Int),T,λ_=>0,λ_=>0,λ_=>[]⟩
def HTn(C P R qm nW:Nat):HT:=⟨C,P,λ_=>0,List.replicate ((R*P+63) / 64) 0,qm,[],λ_=>[],lG,List.replicate ((nW+63) / 64) 0⟩
theorem HSn.ok{g:Geo}{W R C P s k T:Nat}(h:g.Ok s k)(d:cJ g W R C P)(hT:T<=64):(HSn g W R (R*W) T).Ok s k:=
 ⟨h,d.rw,d.rg,d.wd,rfl,λi=>(by show(0:Nat)<18446744073709551616;decide),λi hi=>⟨(by show(0:Int)<=0;decide),(by show(0:Int)<=5;decide)⟩,λi hi=>⟨Int.le_refl _,(by show((i*W:Nat):Int)<=((i*W+W:Nat):Int);omega)⟩,hT,λi hi=>⟨Int.le_refl _,Int.le_refl _,(by show(0:Int)<=4194304;decide)⟩,λi hi r hr=>(by cases hr),λi hi=>(by show 0<=64;decide)⟩
def fI(a0 a1 a2 a3 a4 a5 a6 a7 a8:Nat)(f:Nat->Nat)(x:Nat):Nat:=
 if x<a0 then 0 else if x<a1 then 1 else if x<a2 then 2 else if x<a3 then 3 else if x<a4 then 4 else if x<a5 then 5 else if x<a6 then 6 else if x<a7 then 7 else if x<a8 then 8 else f x
section
variable {a0 a1 a2 a3 a4 a5 a6 a7 a8 x:Nat}{f:Nat->Nat}
theorem Av(h:a0<=x/\x<a1):fI a0 a1 a2 a3 a4 a5 a6 a7 a8 f x=1:=by unfold fI;rw[if_neg (by omega),if_pos (by omega)]
theorem Aw(m:a0<=a1)(h:a1<=x/\x<a2):fI a0 a1 a2 a3 a4 a5 a6 a7 a8 f x=2:=by unfold fI;rw[if_neg (by omega),if_neg (by omega),if_pos (by omega)]
theorem ud(m:a0<=a1/\a1<=a2)(h:a2<=x/\x<a3):fI a0 a1 a2 a3 a4 a5 a6 a7 a8 f x=3:=by unfold fI;rw[if_neg (by omega),if_neg (by omega),if_neg (by omega),if_pos (by omega)]
theorem Ax(m:a0<=a1/\a1<=a2/\a2<=a3)(h:a3<=x/\x<a4):fI a0 a1 a2 a3 a4 a5 a6 a7 a8 f x=4:=by unfold fI;rw[if_neg (by omega),if_neg (by omega),if_neg (by omega),if_neg (by omega),if_pos (by omega)]
theorem xL(m:a0<=a1/\a1<=a2/\a2<=a3/\a3<=a4)(h:a4<=x/\x<a5):fI a0 a1 a2 a3 a4 a5 a6 a7 a8 f x=5:=by unfold fI;rw[if_neg (by omega),if_neg (by omega),if_neg (by omega),if_neg (by omega),if_neg (by omega),if_pos (by omega)]
theorem Ce(m:a0<=a1/\a1<=a2/\a2<=a3/\a3<=a4/\a4<=a5)(h:a5<=x/\x<a6):fI a0 a1 a2 a3 a4 a5 a6 a7 a8 f x=6:=by unfold fI;rw[if_neg (by omega),if_neg (by omega),if_neg (by omega),if_neg (by omega),if_neg (by omega),if_neg (by omega),if_pos (by omega)]
theorem Cf(m:a0<=a1/\a1<=a2/\a2<=a3/\a3<=a4/\a4<=a5/\a5<=a6)(h:a6<=x/\x<a7):fI a0 a1 a2 a3 a4 a5 a6 a7 a8 f x=7:=by unfold fI;rw[if_neg (by omega),if_neg (by omega),if_neg (by omega),if_neg (by omega),if_neg (by omega),if_neg (by omega),if_neg (by omega),if_pos (by omega)]
theorem Ay(m:a0<=a1/\a1<=a2/\a2<=a3/\a3<=a4/\a4<=a5/\a5<=a6/\a6<=a7)(h:a7<=x/\x<a8):fI a0 a1 a2 a3 a4 a5 a6 a7 a8 f x=8:=by unfold fI;rw[if_neg (by omega),if_neg (by omega),if_neg (by omega),if_neg (by omega),if_neg (by omega),if_neg (by omega),if_neg (by omega),if_neg (by omega),if_pos (by omega)]
theorem Az(m:a0<=a1/\a1<=a2/\a2<=a3/\a3<=a4/\a4<=a5/\a5<=a6/\a6<=a7/\a7<=a8)(h:a8<=x):fI a0 a1 a2 a3 a4 a5 a6 a7 a8 f x=f x:=by unfold fI;rw[if_neg (by omega),if_neg (by omega),if_neg (by omega),if_neg (by omega),if_neg (by omega),if_neg (by omega),if_neg (by omega),if_neg (by omega),if_neg (by omega)]
theorem AA(h:fI a0 a1 a2 a3 a4 a5 a6 a7 a8 f x≠0):a0<=x/\(x<a1\/x<a2\/x<a3\/x<a4\/x<a5\/x<a6\/x<a7\/x<a8\/f x≠0):=by
 unfold fI at h;by_cases h0:x<a0
 ·rw[if_pos h0]at h;exact absurd rfl h
 refine⟨by omega,?_⟩;by_cases e:x<a1\/x<a2\/x<a3\/x<a4\/x<a5\/x<a6\/x<a7\/x<a8
 ·omega
 ·rw[if_neg (by omega),if_neg (by omega),if_neg (by omega),if_neg (by omega),if_neg (by omega),if_neg (by omega),if_neg (by omega),if_neg (by omega),if_neg (by omega)]at h;simp[h]
end
def kv(w:World)(c:Cfg)(g:Geo)(W R n T C P qm B s k:Nat)(e:Ending)(w':World):Prop:=
 ∃L X tg own FS,e=.returned (.tuple #[.pointer (some ⟨L.hb,0,none⟩),.int .i64 0])/\Hw w' L X tg own FS (HSn g W R n T) (HTn C P R qm n) s k/\Fr [] w w'/\(∀b,own b≠0->w.heap.size<=b)/\L.B=B/\L.cfg=c
theorem Br{w w3 w4 w5 w6 w7 w8 w9 w10 wr:World}{c:Cfg}{g:Geo}{W R C P nW nC T B qm s k cb gb hb bb ab aw tb sb pb mb ob oo kb ks kr qb zb mk mr:Nat}{qF:List Nat}{tg:Tg}
  {rA:Option Addr}{rc:Nat}{rG:List Nat}{S:Nat->Nat}{FS:Nat->List Nat}{f:Nat->Nat}
  (tab:Tab w) (dm:cJ g W R C P) (eC:nC=R*P) (ok:(HSn g W R nW T).Ok s k)
  (h0:fw w3 cb gb hb bb T c g (bP c g T bb (.pointer none) (.pointer none) (.pointer none) (.pointer none) (.pointer none) (.pointer none) (.pointer none) (.slice none 0 0))) (f0:Fr [] w w3) (m0:w.heap.size<=hb/\w.heap.size<=bb)
  (hA:Ar w4 ab aw nW (λ_=>0) 0) (fA:Fr [hb] w3 w4) (mA:w3.heap.size<=ab/\w3.heap.size<=aw)
  (hR:Rg w5 tb sb pb mb W R (λ_=>0) (λk=>((k*W:Nat):Int)) (λk=>((k*W:Nat):Int))) (fR:Fr [hb] w4 w5) (mR:w4.heap.size<=tb/\w4.heap.size<=sb/\w4.heap.size<=pb/\w4.heap.size<=mb)
  (hO:Of w6 ob oo C (R*P) (λ_=>0)) (fO:Fr [hb] w5 w6) (mO:w5.heap.size<=ob/\w5.heap.size<=oo)
  (hC:Ct w7 kb ks kr nC (List.replicate ((nC+63) / 64) 0)) (fC:Fr [hb] w6 w7) (mC:w6.heap.size<=kb/\w6.heap.size<=ks/\w6.heap.size<=kr)
  (hQ:Qq w8 qb qF T qm [] (λ_=>[])) (fQ:Fr [hb] w7 w8) (mQ:∀x,x∈qF->w7.heap.size<=x)
  (hS:SAt w9 tg zb P R lG) (fS:Fr [hb] w8 w9) (mS:∀b,b<w8.heap.size->(tg b).1=0)
  (hM:cU w10 mk mr nW (List.replicate ((nW+63) / 64) 0)) (fM:Fr [hb] w9 w10) (mM:w9.heap.size<=mk/\w9.heap.size<=mr)
  (hL:sx w10 wr cb gb hb bb T c g (ptr ab) (ptr tb) (ptr ob) (ptr kb) (ptr qb) (ptr zb) (ptr mk) B T rA rc rG S FS f) :
  kv w c g W R nW T C P qm B s k (.returned (.tuple #[ptr hb,.int .i64 0])) wr:=by
 subst eC;have h3:=h0.h.lt;have h3b:=h0.b.lt;have s0:=f0.size;have s3:=fA.size;have s4:=fR.size;have s5:=fO.size;have s6:=fC.size;have s7:=fQ.size;have s8:=fS.size;have s9:=fM.size;have s10:=hL.fr.size;have F9:Fr [hb] w9 wr:=fM.af hL.fr;have F8:Fr [hb] w8 wr:=fS.af F9;have F7:Fr [hb] w7 wr:=fQ.af F8;have F6:Fr [hb] w6 wr:=fC.af F7;have F5:Fr [hb] w5 wr:=fO.af F6;have F4:Fr [hb] w4 wr:=fR.af F5;have F3:Fr [hb] w3 wr:=fA.af F4;have nb:∀ {x:Nat},hb<x->x∉[hb]:=λhx h=>by simp at h;omega
 have eA:=hA.set.lt;have eA2:=hA.row.lt;have eR1:=hR.set.lt;have eR2:=hR.st.lt;have eR3:=hR.fq.lt;have eR4:=hR.gY.lt;have eO1:=hO.set.lt;have eO2:=hO.row.lt;have eC1:=hC.tab.lt;have eC2:=hC.set.set.lt;have eC3:=hC.set.row.lt;have eQ:=hQ.lt;have eS:∀b,(tg b).1≠0->w8.heap.size<=b/\b<w9.heap.size:=λb hb'=>⟨by
  rcases Nat.lt_or_ge b w8.heap.size with h1|h1
  ·exact absurd (mS b h1) hb'
  ·exact h1,hS.tok b hb'⟩
 have eM1:=hM.set.lt;have eM2:=hM.row.lt;have rlt:∀x,x∈rG->w10.heap.size<=x:=λx hx=>(hL.ofn x (by rw[hL.oG x hx];decide)).1;refine⟨⟨hb,ab,aw,tb,sb,pb,mb,ptr ob,ptr kb,ptr qb,ptr zb,ptr mk,c,λk=>((k*W:Nat):Int),rA,rc,rG,S,bb,B⟩,⟨ob,oo,kb,ks,kr,qb,qF,zb,mk,mr⟩,tg,
  fI w.heap.size w3.heap.size w4.heap.size w5.heap.size w6.heap.size w7.heap.size w8.heap.size w9.heap.size w10.heap.size f,FS,rfl,?_,?_,λb hb'=>(AA hb').1,rfl,rfl⟩
 ·refine⟨hL.st.h,⟨0,hA.fr F4 (nb (by omega)) (nb (by omega))⟩,hR.fr F5 (nb (by omega)) (nb (by omega)) (nb (by omega)) (nb (by omega)),hL.row,hL.stk,hL.st.b,ok,hL.st.t,dm,
   hO.fr F6 (nb (by omega)) (nb (by omega)),hC.fr F7 (nb (by omega)) (nb (by omega)) (nb (by omega)),hQ.fr F8 (λx hx=>nb (by have:=mQ x hx;omega)),hS.fr F9 (λb hb'=>by simp at hb';exact mS b (by omega)),hM.fr hL.fr (nb (by omega)) (nb (by omega)),
   rfl,rfl,rfl,rfl,rfl,⟨Av ⟨m0.1,h3⟩,Av ⟨m0.2,h3b⟩,λb hb'=>(Az (by omega) (rlt b hb')).trans (hL.oG b hb')⟩,⟨Aw (by omega) ⟨mA.1,eA⟩,Aw (by omega) ⟨mA.2,eA2⟩⟩,⟨ud (by omega) ⟨mR.1,eR1⟩,ud (by omega) ⟨mR.2.1,eR2⟩,ud (by omega) ⟨mR.2.2.1,eR3⟩,ud (by omega) ⟨mR.2.2.2,eR4⟩⟩,
   ⟨Ax (by omega) ⟨mO.1,eO1⟩,Ax (by omega) ⟨mO.2,eO2⟩⟩,⟨xL (by omega) ⟨mC.1,eC1⟩,xL (by omega) ⟨mC.2.1,eC2⟩,xL (by omega) ⟨mC.2.2,eC3⟩⟩,λb hb'=>Ce (by omega) ⟨mQ b hb',eQ b hb'⟩,λb hb'=>Cf (by omega) (eS b hb'),⟨Ay (by omega) ⟨mM.1,eM1⟩,Ay (by omega) ⟨mM.2,eM2⟩⟩,
   λi hi b hb'=>(Az (by omega) (hL.ofn b (by rw[hL.oF i hi b hb'];omega)).1).trans (hL.oF i hi b hb'),(by unfold fI;exact if_pos (ae (tab 0 (by decide)))),λb hb'=>?_⟩
  have h2:=(AA hb').2;by_cases e:f b=0
  ·omega
  ·exact(hL.ofn b e).2
 ·exact f0.trans F3 (λx hx=>by simp at hx;right;omega)
end Go.Proofs.YtimkofiempcfdaaGreatDoor
