/- Several texts joined (pack.py): Vr Rt4 Vt Wd We. -/
import Derived.Test.YtimkofiempcfdaaGreatDoorPW14
import Derived.Test.YtimkofiempcfdaaGreatDoorPW17
import Derived.Test.YtimkofiempcfdaaGreatDoorPW08
import Derived.Deep.RegionHeld3
import Derived.Test.YtimkofiempcfdaaGreatDoorPW03
import Derived.Test.YtimkofiempcfdaaGreatDoorPW09
import Derived.Test.YtimkofiempcfdaaGreatDoorPW10
import Derived.Deep.CutRange
set_option linter.unusedVariables false
set_option linter.unusedSimpArgs false
set_option maxHeartbeats 800000
set_option maxRecDepth 100000
open Nat renaming le_refl->Eg,lt_or_ge->Ej
namespace Go.Proofs.YtimkofiempcfdaaGreatDoor
open Go.RowKit Go.Gl
def cK(W w:World)(L:HL)(X:HX)(own:Nat->Nat)(h:HS)(x:HT)(s k:Nat):Prop:=
 ∃tg FS,Hw w L X tg own FS h x s k/\Fr [] W w/\∀b,own b≠0->W.heap.size<=b
def HKp(w:World)(own:Nat->Nat)(w':World)(own':Nat->Nat):Prop:=(∃F,Fr F w w'/\∀b,b∈F->own b≠0)/\∀b,b<w.heap.size->own' b=own b
def iE(W w:World)(L:HL)(X:HX)(own:Nat->Nat)(h:HS)(x:HT)(s k:Nat)(v:Value)(e:Ending)(w':World):Prop:=
 ∃own',e=.returned v/\cK W w' L X own' h x s k/\HKp w own w' own'
section
variable {W w w' w'':World}{L:HL}{X:HX}{own own' own'':Nat->Nat}{h:HS}{x:HT}{s k:Nat}{F:List Nat}
theorem HKp.blk(h:HKp w own w' own'){b:Nat}{t:TypeId}{cs:Array Value}(hb:Blk w b t cs)(h0:own b=0):Blk w' b t cs/\own' b=0:=by
 obtain⟨⟨F,f1,f2⟩,u⟩:=h;exact⟨hb.fr f1 (λhx=>f2 b hx h0),(u b hb.lt).trans h0⟩
theorem cK.hr(H:cK W w L X own h x s k):Hr w L h s k:=by
 obtain⟨tg,FS,H,_⟩:=H;exact H.hr
theorem cK.fr0(H:cK W w L X own h x s k)(hf:Fr [] w w'):cK W w' L X own h x s k:=by
 obtain⟨tg,FS,H,h1,h2⟩:=H;exact⟨tg,FS,H.fr0 hf,h1.af hf,h2⟩
theorem cK.other(H:cK W w L X own h x s k)(hf:Fr F w w')(hF:∀b,b∈F->own b=0/\W.heap.size<=b)(hg:0∉F):cK W w' L X own h x s k:=by
 obtain⟨tg,FS,H,h1,h2⟩:=H;have n:∀ {b d:Nat},own b=d->d≠0->b∉F:=λh1 h2 h3=>h2 (h1.symm.trans (hF _ h3).1);refine⟨tg,FS,⟨H.st.fr hf (n H.o1.1 (by decide)),?_,H.rg.fr hf (n H.o3.1 (by decide)) (n H.o3.2.1 (by decide)) (n H.o3.2.2.1 (by decide)) (n H.o3.2.2.2 (by decide)),H.row.fr hf (λg hg=>n (H.o1.2.2 g hg) (by decide)),λi hi=>(H.stk i hi).fr hf (λg hg=>n (H.iX i hi g hg) (by omega)),H.buf.fr hf (n H.o1.2.1 (by decide)),H.ok,H.tab.fr hf hg,H.dim,
  H.of.fr hf (n H.o4.1 (by decide)) (n H.o4.2 (by decide)),H.ct.fr hf (n H.o5.1 (by decide)) (n H.o5.2.1 (by decide)) (n H.o5.2.2 (by decide)),H.qu.fr hf (λg hg=>n (H.o6 g hg) (by decide)),H.se.fr hf (λb hb=>?_),H.ma.fr hf (n H.o8.1 (by decide)) (n H.o8.2 (by decide)),H.vo,H.vc,H.vq,H.vs,H.vm,H.o1,H.o2,H.o3,H.o4,H.o5,H.o6,H.o7,H.o8,H.iX,H.o0,λb hb=>Nat.lt_of_lt_of_le (H.lt b hb) hf.size⟩,h1.trans hf (λb hb=>.inr (hF b hb).2),h2⟩
 ·obtain⟨a,ha⟩:=H.ar;exact⟨a,ha.fr hf (n H.o2.1 (by decide)) (n H.o2.2 (by decide))⟩
 ·by_cases e2:(tg b).1=0
  ·exact e2
  ·exact absurd (hF b hb).1 (by rw[H.o7 b e2];decide)
theorem cK.Ci(H:cK W w L X own h x s k){y:Int}(hy:dr y){j:Nat}(hl:du h.s h.R j) :
  Calls Tryz.prog 178 #[.pointer (some ⟨L.tb,0,none⟩),.int .i64 y] w (iE W w L X own { h with s:=ak h.s j y } x s k (.tuple #[.int .i64 (j:Int),.int .i64 0])):=by
 obtain⟨tg,FS,H,h1,h2⟩:=H;refine(xA H.rg hy hl).mono ?_;rintro e w' ⟨rfl,hr,hf⟩;have hF:∀b,b∈[L.sb,L.pb,L.mb]->own b=3:=λb hb=>by
  simp at hb;rcases hb with rfl|rfl|rfl
  ·exact H.o3.2.1
  ·exact H.o3.2.2.1
  ·exact H.o3.2.2.2
 exact⟨own,rfl,⟨tg,FS,H.xK hf hF hr,h1.trans hf (λb hb=>.inr (h2 b (by rw[hF b hb];decide))),h2⟩,⟨_,hf,λb hb=>by rw[hF b hb];decide⟩,λ_ _=>rfl⟩
theorem cK.make(H:cK W w L X own h x s k){I S P:Nat}(hS:1<=S/\S<=1048576)(hP:P<S)(hn:I+S<=h.n) :
  Calls Tryz.prog 108 #[.pointer (some ⟨L.ab,0,none⟩),.int .i64 (I:Int),.int .i64 (S:Int),.int .i64 (P:Int)] w (iE W w L X own { h with f:=upd (aC h.f I S (λ_=>0)) I (aX S P) } x s k (.int .i64 0)):=by
 obtain⟨tg,FS,H,h1,h2⟩:=H;obtain⟨a,ha⟩:=H.ar;have hm:=yV h.f hS hP hn;refine(uR ha I S P (by have:=ha.max;omega)).mono ?_;rintro e w' ⟨c',rfl,hr,hf⟩;rw[hm.1];rw[hm.2]at hr;have hF:∀b,b∈[L.ab,L.aw]->own b=2:=λb hb=>by
  simp at hb;rcases hb with rfl|rfl
  ·exact H.o2.1
  ·exact H.o2.2
 exact⟨own,rfl,⟨tg,FS,H.xM hf hF hr,h1.trans hf (λb hb=>.inr (h2 b (by rw[hF b hb];decide))),h2⟩,⟨_,hf,λb hb=>by rw[hF b hb];decide⟩,λ_ _=>rfl⟩
theorem cK.push(H:cK W w L X own h x s k){i:Nat}(hi:i<h.T)(hB:L.B<=64)(hl:(h.st i).length<L.B){r:Int}(hr:0<=r/\r<18446744073709551616) :
  Calls Tryz.prog 111 #[.pointer (some ⟨L.S i,0,none⟩),.int .u64 r] w (iE W w L X own { h with st:=bj h.st i (h.st i++[r]) } x s k (.int .i64 0)):=by
 obtain⟨tg,FS,H,h1,h2⟩:=H;refine(mZ (H.stk i hi) (Nat.le_of_lt hl) hB r).mono ?_;rintro e w' ⟨F',rfl,hq,hf,hn⟩;have e1:aI L.B (h.st i) r=h.st i++[r]:=if_pos hl;have e2:ax L.B (h.st i)=0:=if_pos hl;rw[e2];rw[e1]at hq;obtain⟨own',k1,k2,k3⟩:=H.stack hi hf hq hn (by simp;omega) (λq hq=>by
  rcases List.mem_append.1 hq with h3|h3
  ·exact H.ok.rok i hi q h3
  ·simp at h3;subst h3;exact hr)
 have hF:∀b,b∈FS i->own b≠0:=λb hb=>by rw[H.iX i hi b hb];omega
 have hsz:=h1.size;refine⟨own',rfl,⟨tg,_,k1,h1.trans hf (λb hb=>.inr (h2 b (hF b hb))),λb hb=>?_⟩,⟨_,hf,hF⟩,k3⟩
 ·rcases k2 b hb with h3|h3
  ·exact h2 b h3
  ·omega
theorem cK.store(H:cK W w L X own h x s k){i y:Int}{j v:Nat}(hi:i=(j:Int))(hj:j<h.n)(hy:y=(v:Int))(hv:v<18446744073709551616) :
  Calls Tryz.prog 105 #[.pointer (some ⟨L.ab,0,none⟩),.int .i64 i,.int .u64 y] w (iE W w L X own { h with f:=upd h.f j v } x s k (.int .i64 0)):=by
 obtain⟨tg,FS,H,h1,h2⟩:=H;obtain⟨a,ha⟩:=H.ar;refine(p8 ha hi hj hy hv).mono ?_;rintro e w' ⟨rfl,hr,hf⟩;have hF:∀b,b∈[L.ab,L.aw]->own b=2:=λb hb=>by
  simp at hb;rcases hb with rfl|rfl
  ·exact H.o2.1
  ·exact H.o2.2
 exact⟨own,rfl,⟨tg,FS,H.xM hf hF hr,h1.trans hf (λb hb=>.inr (h2 b (by rw[hF b hb];decide))),h2⟩,⟨_,hf,λb hb=>by rw[hF b hb];decide⟩,λ_ _=>rfl⟩
theorem cK.looked(H:cK W w L X own h x s k)(hr:Hr w' L h s k)(hf:Fr [L.ab] w w'):cK W w' L X own h x s k/\HKp w own w' own:=by
 obtain⟨tg,FS,H,h1,h2⟩:=H;have hF:∀b,b∈[L.ab]->own b≠0:=λb hb=>by simp at hb;subst hb;rw[H.o2.1];decide
 exact⟨⟨tg,FS,H.looked hr hf,h1.trans hf (λb hb=>.inr (h2 b (hF b hb))),h2⟩,⟨_,hf,hF⟩,λ_ _=>rfl⟩
theorem cK.fr(H:cK W w L X own h x s k):Fr [] W w:=by
 obtain⟨tg,FS,H,h1,h2⟩:=H;exact h1
theorem kv.at{c:Cfg}{g:Geo}{W0 R n T C P qm B s k:Nat}{e:Ending}(hP:kv w c g W0 R n T C P qm B s k e w')(hW:Fr [] W w) :
  ∃L X own,e=.returned (.tuple #[.pointer (some ⟨L.hb,0,none⟩),.int .i64 0])/\cK W w' L X own (HSn g W0 R n T) (HTn C P R qm n) s k/\L.B=B/\L.cfg=c/\Fr [] w w'/\∀b,b<w.heap.size->own b=0:=by
 obtain⟨L,X,tg,own,FS,rfl,h1,h2,h3,h4,h5⟩:=hP;refine⟨L,X,own,rfl,⟨tg,FS,h1,hW.af h2,λb hb=>Nat.le_trans hW.size (h3 b hb)⟩,h4,h5,h2,λb hb=>?_⟩;by_cases e:own b=0
 ·exact e
 ·have:=h3 b e;omega
end
def bN(s:Nat->Int)(x:Int)(n:Nat):List Nat:=(List.range n).filter λj=>decide (s j=x)
theorem sF(s:Nat->Int)(x:Int)(n:Nat):bN s x (n+1)=bN s x n++if s n=x then [n] else []:=by
 unfold bN;rw[List.range_succ,List.filter_append];by_cases h:s n=x <;> simp[h]
theorem vk(s:Nat->Int)(x:Int)(n:Nat):(bN s x n).length<=n:=by
 unfold bN;exact Nat.le_trans (List.length_filter_le _ _) (by simp)
def vl(w:World)(l:List Nat)(e:Ending)(w':World):Prop:=∃v,e=.returned v/\w'.ownsRow w.heap.size 3 1 v l.length (pK l)/\Fr [] w w'
theorem vn{w:World}{tb sb pb mb W n:Nat}{s t m:Nat->Int}(h:Rg w tb sb pb mb W n s t m)(x:Int) :
  Calls Tryz.prog 75 #[.pointer (some ⟨tb,0,none⟩),.int .i64 x] w (vl w (bN s x n)):=by
 obtain⟨i0,hi,hz0,hz1,hz2⟩:=info_parts Tryz.ei;have H:=aa h;have c1:=h.c1;have hn:=h.dF;clear h;go_enter Tryz.func75,Tryz.ntmps75
 go_wp2_with fail
 go_loopw [5,15] (λv i wr=>∃k:Nat,i=.int .i64 k/\k<=n/\wr.ownsRow w.heap.size 3 1 v (bN s x k).length (pK (bN s x k))/\Fr [] w wr) (λ_ i _=>n-(intOf i).toNat)
 case atStart=>exact⟨0,rfl,Nat.zero_le _,World.ownsRow_nil _ _ _ _,Fr.refl _ _⟩
 case round=>
  obtain⟨k,rfl,hk,hown,hfr⟩:=hrel;have HO:=aa hown;have HF:=aa hfr;have HR:=aa (H.out.fr0 hfr);clear hown hfr;by_cases hlt:k<n
  ·have hlt':(k:Int)<(n:Int):=by omega
   have hc:=HR.out.cs hlt;have ht:=sF s x k;have hl:=vk s x k;by_cases hx:s k=x
   ·rw[if_pos hx]at ht;rw[hx]at hc;have HT:=aa ht;clear ht hx;go_wp2_with (at_builtin;refine wpList_append_own _ rfl _ _ 25 rfl w.heap.size 3 i0 (.int .i64 0) 1 8 Tryz.underlying25 hi hz0 hz1 hz2 rfl (by decide) _ _ _ rfl (HO.out.alloc _) ⟨_,0,none⟩ 1 1 [.int .i64 (k:Int)] rfl rfl (wL _ _ _) ?c2 ?c3 ?c4 ?c5 ?_)
    case c2=>intro u hu;simp at hu;subst hu;rfl
    case c3=>unfold maxLen;omega
    case c4=>omega
    case c5=>have:=HF.out.size;simp;omega
    intro v' w6 hown6 hgr6 _;have HV6:Hid (w6.ownsRow w.heap.size 3 1 v' (bN s x (k+1)).length (pK (bN s x (k+1)))):=by
     rw[HT.out,wK,List.length_append];exact hown6
    have HF6:Hid (Fr [] w w6):=mK (HF.out.alloc _) HO.out hgr6;clear hown6 hgr6;go_wp2
    go_roundw
    case rel=>exact⟨k+1,by go_num,by omega,HV6.out,HF6.out⟩
    case measure=>simp[intOf];omega
   ·rw[if_neg hx,List.append_nil]at ht;generalize hy:s k=y at hc hx;go_wp2_with fail
    go_roundw
    case rel=>exact⟨k+1,by go_num,by omega,by rw[ht];exact HO.out,HF.out⟩
    case measure=>simp[intOf];omega
  ·have hlt':¬ (k:Int)<(n:Int):=by omega
   obtain rfl:k=n:=by omega
   go_wp2_with fail
   go_ret
   exact⟨_,rfl,HO.out,HF.out⟩
def nI(W:Nat)(z:Int):Int:=if z<1 then 0 else (z-1) / (W:Int)+1
theorem nJ{W c:Nat}(hW:1<=W)(hc:1<=c)(z:Int):(c:Int)=nI W z↔((c:Int)-1)*(W:Int)<z/\z<=(c:Int)*(W:Int):=by
 unfold nI;have hWp:(0:Int)<(W:Int):=by omega
 have h1:=Int.le_ediv_iff_mul_le (a:=(c:Int)-1) (b:=z-1) hWp;have h2:=Int.ediv_lt_iff_lt_mul (a:=z-1) (b:=(c:Int)) hWp;have h3:0<=((c:Int)-1)*(W:Int):=Int.mul_nonneg (by omega) (by omega);split
 ·constructor
  ·intro h;omega
  ·intro h;omega
 ·constructor
  ·intro h;have a1:=h1.1 (by omega);have a2:=h2.1 (by omega);omega
  ·intro h;have a1:=h1.2 (by omega);have a2:=h2.2 (by omega);omega
theorem nK{w:World}{tb sb pb mb W n:Nat}{s t m:Nat->Int}(h:Rg w tb sb pb mb W n s t m)(hn1:1<=n){z:Int}(hz:z<=9223372036854775807) :
  Calls Tryz.prog 180 #[.pointer (some ⟨tb,0,none⟩),.int .i64 z] w λe w'=>e=.returned (.int .i64 (nI W z))/\w=w':=by
 have c0:=h.c0;have hW:=h.pos;have hWm:=h.pP (k:=0) (by omega);clear h;unfold nI;by_cases h1:z<1
 ·rw[if_pos h1];go_enter Tryz.func180,Tryz.ntmps180
  go_wp2
  go_ret
  exact⟨rfl,rfl⟩
 ·rw[if_neg h1];have e1:(z-1).tdiv (W:Int)=(z-1) / (W:Int):=Int.tdiv_eq_ediv_of_nonneg (by omega);have e2:0<=(z-1) / (W:Int):=Int.ediv_nonneg (by omega) (by omega);have e3:(z-1) / (W:Int)<=z-1:=Int.ediv_le_self _ (by omega);have E:=aa (And.intro e1 (And.intro e2 e3));have hw0:¬ (W:Int)=0:=by omega
  clear e1 e2 e3;go_enter Tryz.func180,Tryz.ntmps180
  go_wp2
  go_ret
  refine⟨bU ?_,rfl⟩;obtain⟨e1,e2,e3⟩:=E.out;first
  |(rw[IntWalk.wrap64_in (z-1) ⟨by omega,by omega⟩,e1,IntWalk.wrap64_in _ ⟨by omega,by omega⟩,IntWalk.wrap64_in _ ⟨by omega,by omega⟩])
  |(rw[e1,IntWalk.wrap64_in _ ⟨by omega,by omega⟩,IntWalk.wrap64_in _ ⟨by omega,by omega⟩])
  |(rw[e1,IntWalk.wrap64_in _ ⟨by omega,by omega⟩])
  |(rw[IntWalk.wrap64_in _ ⟨by omega,by omega⟩])
  |rfl
def iR(s:Nat->Int)(c f:Nat):Prop:=∀j,f<=j->j<f+c->s j=0
def eL(s:Nat->Int)(n c f:Nat):Prop:=f+c<=n/\iR s c f/\∀g,g<f->¬ iR s c g
def nL(s:Nat->Int)(n c:Nat):Prop:=∀f,f+c<=n->¬ iR s c f
theorem eL.unique{s:Nat->Int}{n c f g:Nat}(h:eL s n c f)(h':eL s n c g):f=g:=by
 rcases Nat.lt_trichotomy f g with hl|hl|hl
 ·exact absurd h.2.1 (h'.2.2 f hl)
 ·exact hl
 ·exact absurd h'.2.1 (h.2.2 g hl)
theorem xY(s:Nat->Int)(n c:Nat)(hc:1<=c):(∃f,eL s n c f)\/nL s n c:=by
 have key:∀k,(∃f,eL s n c f)\/∀f,f<k->f+c<=n->¬ iR s c f:=by
  intro k
  induction k with
 |zero=>exact .inr λf hf=>by omega
 |succ k ih=>
   rcases ih with ih|ih
   ·exact .inl ih
   ·by_cases h:k+c<=n/\iR s c k
    ·exact .inl ⟨k,h.1,h.2,λg hg=>ih g hg (by omega)⟩
    ·refine .inr λf hf hn hr=>?_;rcases Ej f k with hl|hl
     ·exact ih f hl hn hr
     ·obtain rfl:f=k:=by omega
      exact h ⟨hn,hr⟩
 rcases key (n+1)with h|h
 ·exact .inl h
 ·exact .inr λf hf=>h f (by omega) hf
def Cj(w:World)(s:Nat->Int)(n c:Nat)(e:Ending)(w':World):Prop:=
 ∃z:Int,e=.returned (.int .i64 z)/\w=w'/\((∃f:Nat,z=f/\eL s n c f)\/(z=-1/\nL s n c))
structure Met(s:Nat->Int)(c i a:Nat):Prop where
 le:a<=i
 lt:a<c
 free:∀j,i-a<=j->j<i->s j=0
 stop:a<i->s (i-a-1)≠0
 none:∀f,f+c<=i->¬ iR s c f
theorem Met.zero(s:Nat->Int){c:Nat}(hc:1<=c):Met s c 0 0:=⟨by omega,by omega,λj _ hj=>by omega,λh=>by omega,λf hf=>by omega⟩
theorem Met.taken{s:Nat->Int}{c i a:Nat}(h:Met s c i a)(hs:s i≠0):Met s c (i+1) 0:=
 ⟨by omega,by have:=h.lt;omega,λj hj hj2=>by omega,λ_=>by simpa using hs,λf hf hr=>by
  rcases Ej i (f+c)with hl|hl
  ·exact hs (hr i (by have:=h.lt;omega) hl)
  ·exact h.none f hl hr⟩
theorem Met.more{s:Nat->Int}{c i a:Nat}(h:Met s c i a)(hs:s i=0)(hc:a+1<c):Met s c (i+1) (a+1):=
 ⟨by have:=h.le;omega,hc,λj hj hj2=>by
  rcases Ej j i with hl|hl
  ·exact h.free j (by omega) hl
  ·obtain rfl:j=i:=by omega
   exact hs,λhlt=>by
  have:=h.stop (by omega);rwa[show i+1-(a+1)-1=i-a-1 by omega],λf hf hr=>by
  rcases Ej i (f+c)with hl|hl
  ·have h1:=h.le;exact h.stop (by omega) (hr _ (by omega) (by omega))
  ·exact h.none f hl hr⟩
theorem Met.found{s:Nat->Int}{c i a n:Nat}(h:Met s c i a)(hs:s i=0)(hc:a+1=c)(hn:i<n):eL s n c (i-a):=
 ⟨by have:=h.le;omega,λj hj hj2=>by
  have:=h.le;rcases Ej j i with hl|hl
  ·exact h.free j (by omega) hl
  ·obtain rfl:j=i:=by omega
   exact hs,λg hg hr=>h.none g (by have:=h.le;omega) hr⟩
theorem lL{w:World}{tb sb pb mb W n:Nat}{s t m:Nat->Int}(h:Rg w tb sb pb mb W n s t m){c:Nat}(hc:1<=c)(hcm:c<=9223372036854775807) :
  Calls Tryz.prog 181 #[.pointer (some ⟨tb,0,none⟩),.int .i64 (c:Int)] w (Cj w s n c):=by
 have H:=aa h;have c1:=h.c1;have hn:=h.dF;clear h;go_enter Tryz.func181,Tryz.ntmps181
 go_wp2_with fail
 go_loopw [5,13] (λa i wr=>∃k q:Nat,i=.int .i64 k/\a=.int .i64 q/\k<=n/\w=wr/\Met s c k q) (λ_ i _=>n-(intOf i).toNat)
 case atStart=>exact⟨0,0,rfl,rfl,Nat.zero_le _,rfl,Met.zero s hc⟩
 case round=>
  obtain⟨k,q,rfl,rfl,hk,rfl,hm⟩:=hrel;have HM:=aa hm;have hq:=hm.le;have hq2:=hm.lt;clear hm;by_cases hlt:k<n
  ·have hlt':(k:Int)<(n:Int):=by omega
   have hcell:=H.out.cs hlt;by_cases h0:s k=0
   ·have H0:=aa h0;rw[h0]at hcell;clear h0;by_cases hf:q+1=c
    ·have HE:=aa (HM.out.found H0.out hf hlt);subst hf;go_wp2_with fail
     go_ret
     have:=HE.out;refine⟨_,rfl,rfl,.inl ⟨k-q,?_,this⟩⟩
     push_cast
     omega
    ·have HE:=aa (HM.out.more H0.out (by omega));have hf':¬ (q:Int)+1=(c:Int):=by omega
     go_wp2_with fail
     go_roundw
     case rel=>exact⟨k+1,q+1,by go_num,by go_num,by omega,trivial,HE.out⟩
     case measure=>simp[intOf];omega
   ·have HE:=aa (HM.out.taken h0);generalize s k=x at hcell h0;go_wp2_with fail
    go_roundw
    case rel=>exact⟨k+1,0,by go_num,rfl,by omega,trivial,HE.out⟩
    case measure=>simp[intOf];omega
  ·have hlt':¬ (k:Int)<(n:Int):=by omega
   obtain rfl:k=n:=by omega
   go_wp2_with fail
   go_ret
   exact⟨_,rfl,rfl,.inr ⟨rfl,HM.out.none⟩⟩
def bG(W f z:Nat):Nat->Int:=λj=>if ((j*W+W:Nat):Int)<((f*W+z:Nat):Int) then ((j*W+W:Nat):Int) else ((f*W+z:Nat):Int)
theorem vp{W f z c j:Nat}(h1:(c-1)*W<z)(hj:f<=j)(hj2:j<f+c):((j*W:Nat):Int)<=bG W f z j/\bG W f z j<=((j*W+W:Nat):Int):=by
 have a1:(j-f)*W<=(c-1)*W:=Nat.mul_le_mul_right W (by omega);have a2:j*W=f*W+(j-f)*W:=by rw[<- Nat.add_mul];congr 1;omega
 unfold bG;split <;> omega
theorem Bw{w:World}{tb sb pb mb W n:Nat}{s t m:Nat->Int}(h:Rg w tb sb pb mb W n s t m){c f z:Nat}(hc:1<=c)(hz1:(c-1)*W<z)(hz2:z<=c*W)(hl:eL s n c f) :
  Calls Tryz.prog 175 #[.pointer (some ⟨tb,0,none⟩),.int .i64 (c:Int),.int .i64 (z:Int)] w
   (nj w tb sb pb mb W n (ak (bc s f (f+c) λ_=>5) f 4) (bc t f (f+c) (bG W f z)) m (.tuple #[.int .i64 (f:Int),.int .i64 0])):=by
 have hfc:=hl.1;have hn:=h.dF;have hW:=h.pos;have hzb:f*W+z<=4194304:=by
  have a1:(f+c)*W<=n*W:=Nat.mul_le_mul_right W hfc;have a2:=h.max;rw[Nat.add_mul]at a1;omega
 have hcs:(c:Int)=nI W (z:Int):=(nJ hW hc _).2 ⟨by
  have:((c-1:Nat):Int)=(c:Int)-1:=by omega
  rw[<- this,<- Int.natCast_mul];omega,by rw[<- Int.natCast_mul];omega⟩
 have HS:Hid (Calls Tryz.prog 180 #[.pointer (some ⟨tb,0,none⟩),.int .i64 (z:Int)] w λe w'=>e=.returned (.int .i64 (c:Int))/\w=w'):=by
  have:=nK h (by omega) (z:=(z:Int)) (by omega);rw[<- hcs]at this;exact this
 have HL:Hid (Calls Tryz.prog 181 #[.pointer (some ⟨tb,0,none⟩),.int .i64 (c:Int)] w λe w'=>e=.returned (.int .i64 (f:Int))/\w=w'):=(lL h hc (by omega)).mono λe w' ⟨x,he,hw,hx⟩=>by
  rcases hx with⟨f',rfl,hf'⟩|⟨_,hno⟩
  ·rw[he,hl.unique hf'];exact⟨rfl,hw⟩
  ·exact absurd hl.2.1 (hno f hfc)
 have HB:=aa (iO h (k:=f) (by omega));have H:=aa h;have HZ:=aa hz1;have HBE:Hid (∀j,f<=j->j<f+c->((j*W:Nat):Int)<=bG W f z j/\bG W f z j<=((j*W+W:Nat):Int)):=λj hj hj2=>vp hz1 hj hj2;have HT:Hid (∀j,bG W f z j=if ((j*W+W:Nat):Int)<((f*W+z:Nat):Int) then ((j*W+W:Nat):Int) else ((f*W+z:Nat):Int)):=λj=>rfl;unfold nj;clear h hl hz1 hz2 hcs;generalize bG W f z=rt at *;obtain⟨B,hB⟩:∃B,B=f*W:=⟨_,rfl⟩;rw[<- hB]at HB hzb HT;clear hB;go_enter Tryz.func175,Tryz.ntmps175
 go_wp2_with (first|(go_at_call 180;refine HS.out.mono ?_;rintro e w' ⟨rfl,rfl⟩)|(go_at_call 181;refine HL.out.mono ?_;rintro e w' ⟨rfl,rfl⟩)|(go_at_call 141;refine HB.out.mono ?_;rintro e w' ⟨rfl,rfl⟩))
 go_loopw [10] (λi wr=>∃j:Nat,i=.int .i64 (j:Nat)/\f<=j/\j<=f+c/\Rg wr tb sb pb mb W n (bc s f j λ_=>5) (bc t f j rt) m/\Fr [sb,pb,mb] w wr) (λi _=>f+c-(intOf i).toNat)
 case atStart=>exact⟨f,rfl,Eg _,by omega,by rw[iN (Eg _),iN (Eg _)];exact H.out,Fr.refl _ _⟩
 case round=>
  obtain⟨j,rfl,hj1,hj2,hr,hfr⟩:=hrel;have HR:=aa hr;have HF:=aa hfr;by_cases hlt:j<f+c
  ·have hlt':(j:Int)<(f:Int)+(c:Int):=by omega
   have hj:j<n:=by omega
   have hj':(j:Int)<(n:Int):=by omega
   have c1:=hr.c1;have cs:=hr.cs hj;have cz:=hr.st.frozen j;have HP:=aa (hr.xz j 5 (by decide));have es:=lD s (a:=f) (k:=j) 5 hj1 (λ_=>5) rfl;rw[es]at HP;clear hr hfr es;generalize (bc s f j λ_=>5) j=y at *;go_wp2_with fail
   have HF1:Hid (Fr [sb,pb,mb] w (wr.setCell ⟨sb,j,none⟩ (.int .i64 5))):=HF.out.setCell (p:=⟨sb,j,none⟩) (.inl (by simp)) _;generalize wr.setCell ⟨sb,j,none⟩ (.int .i64 5)=w1 at *;clear c1 cs cz;have HE:Hid (∀w',Rg w' tb sb pb mb W n (bc s f (j+1) λ_=>5) (bc t f j rt) m->Calls Tryz.prog 182 #[.pointer (some ⟨tb,0,none⟩),.int .i64 (j:Int)] w' λe w''=>e=.returned (.int .i64 ((j*W+W:Nat):Int))/\∃q,w''=w'.drewN q):=λw' h'=>xy h' hj;have c2:=HP.out.c2;have ct:=HP.out.ct hj;have cz:=HP.out.fq.frozen j;have hbe:=HBE.out j (by omega) (by omega);have hrt:=HT.out j;have HP2:=aa (HP.out.zk j (rt j) (λ_=>hbe));have es:=lD t (a:=f) (k:=j) (rt j) hj1 rt rfl;rw[es]at HP2;clear es hbe;have hE4:=HP.out.cv hj;generalize bc t f j rt j=T at *;generalize j*W+W=E at *;have HP1:=aa HP.out.drew;generalize rt j=R at *;have k2:(w1.setCell ⟨pb,j,none⟩ (.int .i64 R)).cell? ⟨tb,2,none⟩=some (.slice (some ⟨pb,0,none⟩) n n):=HP2.out.c2;rw[Int.natCast_add B z]at hrt;subst hrt;have hmin:min ((B:Int)+(z:Int)) (E:Int)=if (E:Int)<(B:Int)+(z:Int) then (E:Int) else (B:Int)+(z:Int):=by rw[Int.min_def];split <;> split <;> omega
   go_region_held3 (λw'=>w'.cell? ⟨tb,2,none⟩=some (.slice (some ⟨pb,0,none⟩) n n))
    (first|exact c2|exact k2|go_keep)
    (first|(go_at_call 182;refine(HE.out _ HP1.out).mono ?_;rintro e w' ⟨rfl,q,rfl⟩))
   go_wp2_with fail
   go_roundw
   case rel=>exact⟨j+1,by go_num,by omega,by omega,HP2.out.drewN _,(HF1.out.setCell (p:=⟨pb,j,none⟩) (.inl (by simp)) _).drewN _⟩
   case measure=>simp[intOf];omega
  ·have hlt':¬ (j:Int)<(f:Int)+(c:Int):=by omega
   obtain rfl:j=f+c:=by omega
   have hj:f<n:=by omega
   have hj':(f:Int)<(n:Int):=by omega
   have c1:=hr.c1;have cs:=hr.cs hj;have cz:=hr.st.frozen f;have HP:=aa (hr.xz f 4 (by decide));clear hr hfr;generalize (bc s f (f+c) λ_=>5) f=y at *;go_wp2_with fail
   go_ret2
   exact⟨rfl,HP.out,HF.out.setCell (p:=⟨sb,f,none⟩) (.inl (by simp)) _⟩
theorem xZ{w:World}{tb sb pb mb W n:Nat}{s t m:Nat->Int}(h:Rg w tb sb pb mb W n s t m)(hn1:1<=n){c:Nat}{z:Int}(hc:1<=c)(hcm:c<=9223372036854775807)(hzm:z<=9223372036854775807)(hz:((c:Int)-1)*(W:Int)<z/\z<=(c:Int)*(W:Int))(hl:nL s n c) :
  Calls Tryz.prog 175 #[.pointer (some ⟨tb,0,none⟩),.int .i64 (c:Int),.int .i64 z] w λe w'=>e=.returned (.tuple #[.int .i64 0,.int .i64 6])/\w=w':=by
 have hcs:(c:Int)=nI W z:=(nJ h.pos hc _).2 hz;have HS:Hid (Calls Tryz.prog 180 #[.pointer (some ⟨tb,0,none⟩),.int .i64 z] w λe w'=>e=.returned (.int .i64 (c:Int))/\w=w'):=by
  have:=nK h hn1 (z:=z) hzm;rw[<- hcs]at this;exact this
 have HL:Hid (Calls Tryz.prog 181 #[.pointer (some ⟨tb,0,none⟩),.int .i64 (c:Int)] w λe w'=>e=.returned (.int .i64 (-1))/\w=w'):=(lL h hc hcm).mono λe w' ⟨x,he,hw,hx⟩=>by
  rcases hx with⟨f',rfl,hf'⟩|⟨hx,hno⟩
  ·exact absurd hf'.2.1 (hl f' hf'.1)
  ·rw[he,hx];exact⟨rfl,hw⟩
 clear h hl hz hcs;go_enter Tryz.func175,Tryz.ntmps175
 go_wp2_with (first|(go_at_call 180;refine HS.out.mono ?_;rintro e w' ⟨rfl,rfl⟩)|(go_at_call 181;refine HL.out.mono ?_;rintro e w' ⟨rfl,rfl⟩))
 go_ret2
 exact⟨rfl,rfl⟩
section
variable {W w w' w'':World}{L:HL}{X:HX}{own own' own'':Nat->Nat}{h:HS}{x:HT}{s k:Nat}{F:List Nat}
theorem cK.run(H:cK W w L X own h x s k){c f z:Nat}(hc:1<=c)(hz1:(c-1)*h.W<z)(hz2:z<=c*h.W)(hl:eL h.s h.R c f) :
  Calls Tryz.prog 175 #[.pointer (some ⟨L.tb,0,none⟩),.int .i64 (c:Int),.int .i64 (z:Int)] w
   (iE W w L X own { h with s:=ak (bc h.s f (f+c) λ_=>5) f 4,t:=bc h.t f (f+c) (bG h.W f z) } x s k (.tuple #[.int .i64 (f:Int),.int .i64 0])):=by
 obtain⟨tg,FS,H,h1,h2⟩:=H;refine(Bw H.rg hc hz1 hz2 hl).mono ?_;rintro e w' ⟨rfl,hr,hf⟩;have hF:∀b,b∈[L.sb,L.pb,L.mb]->own b=3:=λb hb=>by
  simp at hb;rcases hb with rfl|rfl|rfl
  ·exact H.o3.2.1
  ·exact H.o3.2.2.1
  ·exact H.o3.2.2.2
 exact⟨own,rfl,⟨tg,FS,H.xK hf hF hr,h1.trans hf (λb hb=>.inr (h2 b (by rw[hF b hb];decide))),h2⟩,⟨_,hf,λb hb=>by rw[hF b hb];decide⟩,λ_ _=>rfl⟩
theorem cK.sH(H:cK W w L X own h x s k){c:Nat}{z:Int}(hc:1<=c)(hcm:c<=9223372036854775807)(hzm:z<=9223372036854775807)(hz:((c:Int)-1)*(h.W:Int)<z/\z<=(c:Int)*(h.W:Int))(hl:nL h.s h.R c) :
  Calls Tryz.prog 175 #[.pointer (some ⟨L.tb,0,none⟩),.int .i64 (c:Int),.int .i64 z] w λe w'=>e=.returned (.tuple #[.int .i64 0,.int .i64 6])/\w=w':=by
 obtain⟨tg,FS,H,h1,h2⟩:=H;exact xZ H.rg (by have:=H.dim.r2;omega) hc hcm hzm hz hl
theorem cK.oJ(H:cK W w L X own h x s k){a z:Nat}(hz:1<=z)(hm:a+z<=h.n) :
  Calls Tryz.prog 110 #[.pointer (some ⟨X.ob,0,none⟩),.int .i64 (a:Int),.int .i64 (z:Int)] w (iE W w L X own h { x with O:=obj x.cw x.O a z } s k (.int .i64 0)):=by
 obtain⟨tg,FS,H,h1,h2⟩:=H;refine(zx H.of hz (by rw[H.dim.oB];have:=H.ok.nn;omega)).mono ?_;rintro e w' ⟨rfl,hr,hf⟩;have hF:∀b,b∈[X.oo]->own b=4:=λb hb=>by
  simp at hb;subst hb;exact H.o4.2
 exact⟨own,rfl,⟨tg,FS,H.Bp hf hF hr,h1.trans hf (λb hb=>.inr (h2 b (by rw[hF b hb];decide))),h2⟩,⟨_,hf,λb hb=>by rw[hF b hb];decide⟩,λ_ _=>rfl⟩
end
def rowsOf(A:Nat->Nat)(W k r:Nat):List Nat:=(List.range k).filter λi=>A i / W==r
def DT(A:Nat->Nat)(k a:Nat):Nat->Nat:=λi=>if i=k then a else A i
def DU(f:Nat->Nat->Nat)(i m v:Nat):Nat->Nat->Nat:=λa b=>if a=i/\b=m then v else f a b
structure Bx(h:HS)(s1 t1:Nat->Int)(a z:Nat)(y:Int):Prop where
 fit:a+z<=h.n
 new:∀u,a<=u->u<a+z->h.t (u / h.W)<=(u:Int)/\(u:Int)<t1 (u / h.W)
 mono:∀r,r<h.R->h.t r<=t1 r
 st:s1 (a / h.W)=y
 kept:∀r,r<h.R->r≠a / h.W->h.s r≠0->s1 r=h.s r/\t1 r=h.t r
 free:∀r,r<h.R->r≠a / h.W->h.s r=0->(s1 r=0/\t1 r=h.t r)\/s1 r=5
 ways:(y≠4/\(h.s (a / h.W)=y\/h.s (a / h.W)=0)/\h.t (a / h.W)=(a:Int)/\t1 (a / h.W)=((a+z:Nat):Int)) \/
  (y=4/\h.s (a / h.W)=0/\a=a / h.W*h.W/\∀q,1<=q->q*h.W<z->a / h.W+q<h.R/\s1 (a / h.W+q)=5)
structure Lay(p:Pl)(A:Nat->Nat)(k:Nat)(w d:Nat->Nat->Nat)(h:HS):Prop where
 bx:h.bx=λ_=>0
 be:h.be=λ_=>0
 W1:1<=h.W
 nn:h.n=h.R*h.W
 tok:∀r,r<h.R->((r*h.W:Nat):Int)<=h.t r/\h.t r<=((r*h.W+h.W:Nat):Int)
 free:∀r,r<h.R->h.s r=0->h.t r=((r*h.W:Nat):Int)
 y:∀i,i<k->1<=(p.T i).st/\(p.T i).st<=4
 st:∀i,i<k->h.s (A i / h.W)=(p.T i).st
 row:∀r,r<h.R->(h.s r=1\/h.s r=2\/h.s r=3)->Aq h.f (r*h.W) ((rowsOf A h.W k r).map λi=>(A i:Int)) (h.t r).toNat
 big:∀i,i<k->(p.T i).st=4->A i=A i / h.W*h.W/\∀q,1<=q->q*h.W<(p.T i).sz->A i / h.W+q<h.R/\h.s (A i / h.W+q)=5
 hum:∀r,r<h.R->h.s r=4->∃i,i<k/\A i=r*h.W/\(p.T i).st=4
 top:∀i,i<k->∀u,A i<=u->u<A i+(p.T i).sz->u<h.n/\(u:Int)<h.t (u / h.W)
 dis:∀i j,i<k->j<k->∀u,A i<=u->u<A i+(p.T i).sz->A j<=u->u<A j+(p.T j).sz->i=j
 zm:∀i,i<k->(p.T i).sz<=1048576
 hdr:∀i,i<k->h.f (A i)=aX (p.T i).sz (p.T i).rf.length
 ref:∀i,i<k->∀j,j<(p.T i).rf.length->h.f (A i+1+j)=w i j
 dat:∀i,i<k->∀j,j<(p.T i).dt.length->h.f (A i+1+(p.T i).rf.length+j)=d i j
section
variable {p:Pl}{A:Nat->Nat}{k:Nat}{w d:Nat->Nat->Nat}{h:HS}{s1 t1:Nat->Int}{a:Nat}{y:Int}
theorem By{u r W:Nat}(hW:1<=W)(h1:r*W<=u)(h2:u<r*W+W):u / W=r:=by
 rw[Nat.div_eq_iff (by omega)];constructor
 ·exact h1
 ·have:r*W+W-1+1=r*W+W:=by omega
  omega
end
abbrev aK:=List (Nat×TypeId×Array Value)
def HE(W w:World)(L:HL)(X:HX)(h:HS)(x:HT)(s k:Nat)(E:aK):Prop:=
 ∃own,cK W w L X own h x s k/\∀q,q∈E->Blk w q.1 q.2.1 q.2.2/\own q.1=0/\W.heap.size<=q.1
section
variable {W w w':World}{L:HL}{X:HX}{h h':HS}{x x':HT}{s k:Nat}{E:aK}
theorem HE.blk(H:HE W w L X h x s k E){b:Nat}{t:TypeId}{cs:Array Value}(hq:(b,t,cs)∈E):Blk w b t cs:=by
 obtain⟨own,h1,h2⟩:=H;exact(h2 _ hq).1
theorem HE.fr(H:HE W w L X h x s k E):Fr [] W w:=by
 obtain⟨own,h1,h2⟩:=H;exact h1.fr
theorem HE.hr(H:HE W w L X h x s k E):Hr w L h s k:=by
 obtain⟨own,h1,h2⟩:=H;exact h1.hr
theorem HE.ok(H:HE W w L X h x s k E):h.Ok s k:=H.hr.ok
end
def RmS(L:HL)(h:HS)(bx:Nat)(y:Int)(rA dA:Option Addr)(rn dn rc dc:Nat)(w':World):Prop:=w'.cell? ⟨L.hb,14,none⟩=some (.int .i64 h.g.words)/\w'.cell? ⟨L.hb,15,none⟩=some (.int .i64 h.g.rw)/\w'.cell? ⟨L.hb,16,none⟩=some (.int .i64 h.g.cw)/\w'.cell? ⟨L.hb,17,none⟩=some (.int .i64 h.g.regions)/\w'.cell? ⟨L.hb,18,none⟩=some (.int .i64 h.g.aG)/\w'.cell? ⟨L.hb,19,none⟩=some (.int .i64 h.g.max)/\w'.cell? ⟨L.hb,21,none⟩=some (.pointer (some ⟨L.tb,0,none⟩))/\w'.cell? ⟨bx,0,none⟩=some (.int .i64 y)/\w'.cell? ⟨bx,1,none⟩=some (.slice rA rn rc)/\w'.cell? ⟨bx,2,none⟩=some (.slice dA dn dc)
def Bz(o:Nat->Int)(h:HS):Prop:=∀Y,1<=Y->Y<=3->o Y=-1\/∃r:Nat,r<h.R/\o Y=(r:Int)/\h.s r=(Y:Int)
def DD(W:World)(L:HL)(X:HX)(h:HS)(x:HT)(s k ob z:Nat)(y:Int)(E:aK)(e:Ending)(w':World):Prop:=
 (∃(a:Nat) (s1 t1 o':Nat->Int),e=.returned (.tuple #[.int .i64 (a:Int),.bool true])/\Bx h s1 t1 a z y/\(∀q,q<h.R->((q*h.W:Nat):Int)<=t1 q/\t1 q<=((q*h.W+h.W:Nat):Int)) /\
  HE W w' L X { h with s:=s1,t:=t1 } x s k ((ob,3,cO .i64 4 o')::E)/\Bz o' { h with s:=s1,t:=t1 }) \/
 (∃v h' o',e=.returned (.tuple #[v,.bool false])/\HE W w' L X h' x s k ((ob,3,cO .i64 4 o')::E))
def Row(E:aK)(A:Option Addr)(c:Nat)(l:List Int):Prop:=
 l.length<=c/\c<=maxLen/\(0<c->∃g off cur,A=some ⟨g,off,none⟩/\(g,3,cur)∈E/\off+c<=cur.size/\(cur.toList.drop off).take l.length=zv l)
def places(A:Nat->Nat)(n:Nat):List Int:=(List.range n).map λi=>(A i:Int)
section
variable {W w w':World}{L:HL}{X:HX}{h:HS}{x:HT}{s k:Nat}{E E':aK}{A:Option Addr}{c:Nat}{l:List Int}
end
def lnk(A:Nat->Nat)(r:Int):Nat:=if r=0 then 0 else A (r.toNat-1)+1
end Go.Proofs.YtimkofiempcfdaaGreatDoor
