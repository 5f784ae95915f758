/- Several texts joined (pack.py): Sl Rt4 Vx Vy Vya Vyb Vyc. -/
import Derived.Test.YtimlkjppaalfaaaGreatDoorPW14
import Derived.Test.YtimlkjppaalfaaaGreatDoorPW12
import Derived.Test.YtimlkjppaalfaaaGreatDoorPW07
import Derived.Deep.RegionHeld3
import Derived.Deep.CutRange
import Derived.Test.YtimlkjppaalfaaaGreatDoorPW06
import Derived.Test.YtimlkjppaalfaaaGreatDoorPW11
set_option linter.unusedVariables false
set_option linter.unusedSimpArgs false
set_option maxHeartbeats 3200000
set_option maxRecDepth 100000
open Nat renaming le_refl->Dd,zero_le->Df,lt_or_ge->Dg
namespace Go.Proofs.YtimlkjppaalfaaaGreatDoor
open Go.RowKit Go.Gl
def part(per s:Nat)(p:Nat->Bool)(k:Nat):List Int:=((List.range k).filter p).map λi=>((s*per+i:Nat):Int)
def SAt(w:World)(tg:Tg)(sb per n:Nat)(σ:RS):Prop:=∃kb sB hB fB fk Vs Vh Vf,Rs w tg sb kb sB hB fB per n σ fk Vs Vh Vf
section
variable {w w':World}{tg tg':Tg}{F:List Nat}{sb per n B:Nat}{σ:RS}
theorem SAt.fr(h:SAt w tg sb per n σ)(hf:Fr F w w')(hF:∀b,b∈F->(tg b).1=0):SAt w' tg sb per n σ:=by
 obtain⟨kb,sB,hB,fB,fk,Vs,Vh,Vf,h⟩:=h;exact⟨kb,sB,hB,fB,fk,Vs,Vh,Vf,h.fr hf hF⟩
theorem SAt.tok(h:SAt w tg sb per n σ):B3 w tg:=by
 obtain⟨kb,sB,hB,fB,fk,Vs,Vh,Vf,h⟩:=h;exact h.tok
theorem SAt.has(h:SAt w tg sb per n σ)(a c:Int)(wa:(Lit.int .i64 a).wf=true):Calls Tryz.prog 71 #[.pointer (some ⟨sb,0,none⟩),.int .i64 a,.int .i64 c] w λe w'=>e=.returned (.bool (gR σ per n a c))/\Fr [] w w':=by
 obtain⟨kb,sB,hB,fB,fk,Vs,Vh,Vf,h⟩:=h;exact xK h a c wa
end
def bn(s:Nat->Int)(x:Int)(n:Nat):List Nat:=(List.range n).filter λj=>decide (s j=x)
theorem sf(s:Nat->Int)(x:Int)(n:Nat):bn s x (n+1)=bn s x n++if s n=x then [n] else []:=by
 unfold bn;rw[List.range_succ,List.filter_append];by_cases h:s n=x <;> simp[h]
theorem ni(s:Nat->Int)(x:Int)(n:Nat):(bn s x n).length<=n:=by
 unfold bn;exact Nat.le_trans (List.length_filter_le _ _) (by simp)
theorem iH{s:Nat->Int}{x:Int}{n j:Nat}:j∈bn s x n↔j<n/\s j=x:=by simp[bn]
def nj(w:World)(l:List Nat)(e:Ending)(w':World):Prop:=∃v,e=.returned v/\w'.ownsRow w.heap.size 3 1 v l.length (jU l)/\Fr [] w w'
theorem nk{w:World}{tb sb pb mb W n:Nat}{s t m:Nat->Int}(h:Rg w tb sb pb mb W n s t m)(x:Int) :
  Calls Tryz.prog 59 #[.pointer (some ⟨tb,0,none⟩),.int .i64 x] w (nj w (bn s x n)):=by
 obtain⟨i0,hi,hz0,hz1,hz2⟩:=info_parts Tryz.ce;have H:=aa h;have c1:=h.c1;have hn:=h.dC;clear h;go_enter Tryz.func59,Tryz.ntmps59
 go_wp2_with fail
 go_loopw [5,15] (λv i wr=>∃k:Nat,i=.int .i64 k/\k<=n/\wr.ownsRow w.heap.size 3 1 v (bn s x k).length (jU (bn s x k))/\Fr [] w wr) (λ_ i _=>n-(intOf i).toNat)
 case atStart=>exact⟨0,rfl,Df _,World.ownsRow_nil _ _ _ _,Fr.refl _ _⟩
 case round=>
  obtain⟨k,rfl,hk,hown,hfr⟩:=hrel;have HO:=aa hown;have HF:=aa hfr;have HR:=aa (H.out.fr0 hfr);clear hown hfr;by_cases hlt:k<n
  ·have hlt':(k:Int)<(n:Int):=by omega
   have hc:=HR.out.cs hlt;have ht:=sf s x k;have hl:=ni s x k;by_cases hx:s k=x
   ·rw[if_pos hx]at ht;rw[hx]at hc;have HT:=aa ht;clear ht hx;go_wp2_with (at_builtin;refine wpList_append_own _ rfl _ _ 25 rfl w.heap.size 3 i0 (.int .i64 0) 1 8 Tryz.underlying25 hi hz0 hz1 hz2 rfl (by decide) _ _ _ rfl (HO.out.alloc _) ⟨_,0,none⟩ 1 1 [.int .i64 (k:Int)] rfl rfl (rp _ _ _) ?c2 ?c3 ?c4 ?c5 ?_)
    case c2=>intro u hu;simp at hu;subst hu;rfl
    case c3=>unfold maxLen;omega
    case c4=>omega
    case c5=>have:=HF.out.size;simp;omega
    intro v' w6 hown6 hgr6 _;have HV6:Hid (w6.ownsRow w.heap.size 3 1 v' (bn s x (k+1)).length (jU (bn s x (k+1)))):=by
     rw[HT.out,pK,List.length_append];exact hown6
    have HF6:Hid (Fr [] w w6):=jQ (HF.out.alloc _) HO.out hgr6;clear hown6 hgr6;go_wp2
    go_roundw
    case rel=>exact⟨k+1,by go_num,by omega,HV6.out,HF6.out⟩
    case measure=>simp[intOf];omega
   ·rw[if_neg hx,List.append_nil]at ht;generalize hy:s k=y at hc hx;go_wp2_with fail
    go_roundw
    case rel=>exact⟨k+1,by go_num,by omega,by rw[ht];exact HO.out,HF.out⟩
    case measure=>simp[intOf];omega
  ·have hlt':¬ (k:Int)<(n:Int):=by omega
   obtain rfl:k=n:=by omega
   go_wp2_with fail
   go_ret
   exact⟨_,rfl,HO.out,HF.out⟩
def nl(W:Nat)(z:Int):Int:=if z<1 then 0 else (z-1) / (W:Int)+1
theorem nm{W c:Nat}(hW:1<=W)(hc:1<=c)(z:Int):(c:Int)=nl W z↔((c:Int)-1)*(W:Int)<z/\z<=(c:Int)*(W:Int):=by
 unfold nl;have hWp:(0:Int)<(W:Int):=by omega
 have h1:=Int.le_ediv_iff_mul_le (a:=(c:Int)-1) (b:=z-1) hWp;have h2:=Int.ediv_lt_iff_lt_mul (a:=z-1) (b:=(c:Int)) hWp;have h3:0<=((c:Int)-1)*(W:Int):=Int.mul_nonneg (by omega) (by omega);split
 ·constructor
  ·intro h;omega
  ·intro h;omega
 ·constructor
  ·intro h;have a1:=h1.1 (by omega);have a2:=h2.1 (by omega);omega
  ·intro h;have a1:=h1.2 (by omega);have a2:=h2.2 (by omega);omega
theorem nr{w:World}{tb sb pb mb W n:Nat}{s t m:Nat->Int}(h:Rg w tb sb pb mb W n s t m)(hn1:1<=n){z:Int}(hz:z<=9223372036854775807) :
  Calls Tryz.prog 165 #[.pointer (some ⟨tb,0,none⟩),.int .i64 z] w λe w'=>e=.returned (.int .i64 (nl W z))/\w=w':=by
 have c0:=h.c0;have hW:=h.pos;have hWm:=h.nU (k:=0) (by omega);clear h;unfold nl;by_cases h1:z<1
 ·rw[if_pos h1];go_enter Tryz.func165,Tryz.ntmps165
  go_wp2
  go_ret
  exact⟨rfl,rfl⟩
 ·rw[if_neg h1];have e1:(z-1).tdiv (W:Int)=(z-1) / (W:Int):=Int.tdiv_eq_ediv_of_nonneg (by omega);have e2:0<=(z-1) / (W:Int):=Int.ediv_nonneg (by omega) (by omega);have e3:(z-1) / (W:Int)<=z-1:=Int.ediv_le_self _ (by omega);have E:=aa (And.intro e1 (And.intro e2 e3));have hw0:¬ (W:Int)=0:=by omega
  clear e1 e2 e3;go_enter Tryz.func165,Tryz.ntmps165
  go_wp2
  go_ret
  refine⟨bo ?_,rfl⟩;obtain⟨e1,e2,e3⟩:=E.out;first
  |(rw[IntWalk.wrap64_in (z-1) ⟨by omega,by omega⟩,e1,IntWalk.wrap64_in _ ⟨by omega,by omega⟩,IntWalk.wrap64_in _ ⟨by omega,by omega⟩])
  |(rw[e1,IntWalk.wrap64_in _ ⟨by omega,by omega⟩,IntWalk.wrap64_in _ ⟨by omega,by omega⟩])
  |(rw[e1,IntWalk.wrap64_in _ ⟨by omega,by omega⟩])
  |(rw[IntWalk.wrap64_in _ ⟨by omega,by omega⟩])
  |rfl
def iI(s:Nat->Int)(c f:Nat):Prop:=∀j,f<=j->j<f+c->s j=0
def eL(s:Nat->Int)(n c f:Nat):Prop:=f+c<=n/\iI s c f/\∀g,g<f->¬ iI s c g
def ns(s:Nat->Int)(n c:Nat):Prop:=∀f,f+c<=n->¬ iI s c f
theorem eL.unique{s:Nat->Int}{n c f g:Nat}(h:eL s n c f)(h':eL s n c g):f=g:=by
 rcases Nat.lt_trichotomy f g with hl|hl|hl
 ·exact absurd h.2.1 (h'.2.2 f hl)
 ·exact hl
 ·exact absurd h'.2.1 (h.2.2 g hl)
theorem xN(s:Nat->Int)(n c:Nat)(hc:1<=c):(∃f,eL s n c f)\/ns s n c:=by
 have key:∀k,(∃f,eL s n c f)\/∀f,f<k->f+c<=n->¬ iI s c f:=by
  intro k
  induction k with
 |zero=>exact .inr λf hf=>by omega
 |succ k ih=>
   rcases ih with ih|ih
   ·exact .inl ih
   ·by_cases h:k+c<=n/\iI s c k
    ·exact .inl ⟨k,h.1,h.2,λg hg=>ih g hg (by omega)⟩
    ·refine .inr λf hf hn hr=>?_;rcases Dg f k with hl|hl
     ·exact ih f hl hn hr
     ·obtain rfl:f=k:=by omega
      exact h ⟨hn,hr⟩
 rcases key (n+1)with h|h
 ·exact .inl h
 ·exact .inr λf hf=>h f (by omega) hf
def B8(w:World)(s:Nat->Int)(n c:Nat)(e:Ending)(w':World):Prop:=
 ∃z:Int,e=.returned (.int .i64 z)/\w=w'/\((∃f:Nat,z=f/\eL s n c f)\/(z=-1/\ns s n c))
structure Met(s:Nat->Int)(c i a:Nat):Prop where
 le:a<=i
 lt:a<c
 free:∀j,i-a<=j->j<i->s j=0
 stop:a<i->s (i-a-1)≠0
 none:∀f,f+c<=i->¬ iI s c f
theorem Met.zero(s:Nat->Int){c:Nat}(hc:1<=c):Met s c 0 0:=⟨by omega,by omega,λj _ hj=>by omega,λh=>by omega,λf hf=>by omega⟩
theorem Met.taken{s:Nat->Int}{c i a:Nat}(h:Met s c i a)(hs:s i≠0):Met s c (i+1) 0:=
 ⟨by omega,by have:=h.lt;omega,λj hj hj2=>by omega,λ_=>by simpa using hs,λf hf hr=>by
  rcases Dg i (f+c)with hl|hl
  ·exact hs (hr i (by have:=h.lt;omega) hl)
  ·exact h.none f hl hr⟩
theorem Met.more{s:Nat->Int}{c i a:Nat}(h:Met s c i a)(hs:s i=0)(hc:a+1<c):Met s c (i+1) (a+1):=
 ⟨by have:=h.le;omega,hc,λj hj hj2=>by
  rcases Dg j i with hl|hl
  ·exact h.free j (by omega) hl
  ·obtain rfl:j=i:=by omega
   exact hs,λhlt=>by
  have:=h.stop (by omega);rwa[show i+1-(a+1)-1=i-a-1 by omega],λf hf hr=>by
  rcases Dg i (f+c)with hl|hl
  ·have h1:=h.le;exact h.stop (by omega) (hr _ (by omega) (by omega))
  ·exact h.none f hl hr⟩
theorem Met.found{s:Nat->Int}{c i a n:Nat}(h:Met s c i a)(hs:s i=0)(hc:a+1=c)(hn:i<n):eL s n c (i-a):=
 ⟨by have:=h.le;omega,λj hj hj2=>by
  have:=h.le;rcases Dg j i with hl|hl
  ·exact h.free j (by omega) hl
  ·obtain rfl:j=i:=by omega
   exact hs,λg hg hr=>h.none g (by have:=h.le;omega) hr⟩
theorem lE{w:World}{tb sb pb mb W n:Nat}{s t m:Nat->Int}(h:Rg w tb sb pb mb W n s t m){c:Nat}(hc:1<=c)(hcm:c<=9223372036854775807) :
  Calls Tryz.prog 166 #[.pointer (some ⟨tb,0,none⟩),.int .i64 (c:Int)] w (B8 w s n c):=by
 have H:=aa h;have c1:=h.c1;have hn:=h.dC;clear h;go_enter Tryz.func166,Tryz.ntmps166
 go_wp2_with fail
 go_loopw [5,13] (λa i wr=>∃k q:Nat,i=.int .i64 k/\a=.int .i64 q/\k<=n/\w=wr/\Met s c k q) (λ_ i _=>n-(intOf i).toNat)
 case atStart=>exact⟨0,0,rfl,rfl,Df _,rfl,Met.zero s hc⟩
 case round=>
  obtain⟨k,q,rfl,rfl,hk,rfl,hm⟩:=hrel;have HM:=aa hm;have hq:=hm.le;have hq2:=hm.lt;clear hm;by_cases hlt:k<n
  ·have hlt':(k:Int)<(n:Int):=by omega
   have hcell:=H.out.cs hlt;by_cases h0:s k=0
   ·have H0:=aa h0;rw[h0]at hcell;clear h0;by_cases hf:q+1=c
    ·have HE:=aa (HM.out.found H0.out hf hlt);subst hf;go_wp2_with fail
     go_ret
     have:=HE.out;refine⟨_,rfl,rfl,.inl ⟨k-q,?_,this⟩⟩
     push_cast
     omega
    ·have HE:=aa (HM.out.more H0.out (by omega));have hf':¬ (q:Int)+1=(c:Int):=by omega
     go_wp2_with fail
     go_roundw
     case rel=>exact⟨k+1,q+1,by go_num,by go_num,by omega,trivial,HE.out⟩
     case measure=>simp[intOf];omega
   ·have HE:=aa (HM.out.taken h0);generalize s k=x at hcell h0;go_wp2_with fail
    go_roundw
    case rel=>exact⟨k+1,0,by go_num,rfl,by omega,trivial,HE.out⟩
    case measure=>simp[intOf];omega
  ·have hlt':¬ (k:Int)<(n:Int):=by omega
   obtain rfl:k=n:=by omega
   go_wp2_with fail
   go_ret
   exact⟨_,rfl,rfl,.inr ⟨rfl,HM.out.none⟩⟩
def bM(W f z:Nat):Nat->Int:=λj=>if ((j*W+W:Nat):Int)<((f*W+z:Nat):Int) then ((j*W+W:Nat):Int) else ((f*W+z:Nat):Int)
theorem uP{W f z c j:Nat}(h1:(c-1)*W<z)(hj:f<=j)(hj2:j<f+c):((j*W:Nat):Int)<=bM W f z j/\bM W f z j<=((j*W+W:Nat):Int):=by
 have a1:(j-f)*W<=(c-1)*W:=Nat.mul_le_mul_right W (by omega);have a2:j*W=f*W+(j-f)*W:=by rw[<- Nat.add_mul];congr 1;omega
 unfold bM;split <;> omega
theorem Bt{w:World}{tb sb pb mb W n:Nat}{s t m:Nat->Int}(h:Rg w tb sb pb mb W n s t m){c f z:Nat}(hc:1<=c)(hz1:(c-1)*W<z)(hz2:z<=c*W)(hl:eL s n c f) :
  Calls Tryz.prog 157 #[.pointer (some ⟨tb,0,none⟩),.int .i64 (c:Int),.int .i64 (z:Int)] w
   (mU w tb sb pb mb W n (ak (bg s f (f+c) λ_=>5) f 4) (bg t f (f+c) (bM W f z)) m (.tuple #[.int .i64 (f:Int),.int .i64 0])):=by
 have hfc:=hl.1;have hn:=h.dC;have hW:=h.pos;have hzb:f*W+z<=4194304:=by
  have a1:(f+c)*W<=n*W:=Nat.mul_le_mul_right W hfc;have a2:=h.max;rw[Nat.add_mul]at a1;omega
 have hcs:(c:Int)=nl W (z:Int):=(nm hW hc _).2 ⟨by
  have:((c-1:Nat):Int)=(c:Int)-1:=by omega
  rw[<- this,<- Int.natCast_mul];omega,by rw[<- Int.natCast_mul];omega⟩
 have HS:Hid (Calls Tryz.prog 165 #[.pointer (some ⟨tb,0,none⟩),.int .i64 (z:Int)] w λe w'=>e=.returned (.int .i64 (c:Int))/\w=w'):=by
  have:=nr h (by omega) (z:=(z:Int)) (by omega);rw[<- hcs]at this;exact this
 have HL:Hid (Calls Tryz.prog 166 #[.pointer (some ⟨tb,0,none⟩),.int .i64 (c:Int)] w λe w'=>e=.returned (.int .i64 (f:Int))/\w=w'):=(lE h hc (by omega)).mono λe w' ⟨x,he,hw,hx⟩=>by
  rcases hx with⟨f',rfl,hf'⟩|⟨_,hno⟩
  ·rw[he,hl.unique hf'];exact⟨rfl,hw⟩
  ·exact absurd hl.2.1 (hno f hfc)
 have HB:=aa (iE h (k:=f) (by omega));have H:=aa h;have HZ:=aa hz1;have HBE:Hid (∀j,f<=j->j<f+c->((j*W:Nat):Int)<=bM W f z j/\bM W f z j<=((j*W+W:Nat):Int)):=λj hj hj2=>uP hz1 hj hj2;have HT:Hid (∀j,bM W f z j=if ((j*W+W:Nat):Int)<((f*W+z:Nat):Int) then ((j*W+W:Nat):Int) else ((f*W+z:Nat):Int)):=λj=>rfl;unfold mU;clear h hl hz1 hz2 hcs;generalize bM W f z=rt at *;obtain⟨B,hB⟩:∃B,B=f*W:=⟨_,rfl⟩;rw[<- hB]at HB hzb HT;clear hB;go_enter Tryz.func157,Tryz.ntmps157
 go_wp2_with (first|(go_at_call 165;refine HS.out.mono ?_;rintro e w' ⟨rfl,rfl⟩)|(go_at_call 166;refine HL.out.mono ?_;rintro e w' ⟨rfl,rfl⟩)|(go_at_call 123;refine HB.out.mono ?_;rintro e w' ⟨rfl,rfl⟩))
 go_loopw [10] (λi wr=>∃j:Nat,i=.int .i64 (j:Nat)/\f<=j/\j<=f+c/\Rg wr tb sb pb mb W n (bg s f j λ_=>5) (bg t f j rt) m/\Fr [sb,pb,mb] w wr) (λi _=>f+c-(intOf i).toNat)
 case atStart=>exact⟨f,rfl,Dd _,by omega,by rw[iD (Dd _),iD (Dd _)];exact H.out,Fr.refl _ _⟩
 case round=>
  obtain⟨j,rfl,hj1,hj2,hr,hfr⟩:=hrel;have HR:=aa hr;have HF:=aa hfr;by_cases hlt:j<f+c
  ·have hlt':(j:Int)<(f:Int)+(c:Int):=by omega
   have hj:j<n:=by omega
   have hj':(j:Int)<(n:Int):=by omega
   have c1:=hr.c1;have cs:=hr.cs hj;have cz:=hr.st.frozen j;have HP:=aa (hr.xj j 5 (by decide));have es:=lj s (a:=f) (k:=j) 5 hj1 (λ_=>5) rfl;rw[es]at HP;clear hr hfr es;generalize (bg s f j λ_=>5) j=y at *;go_wp2_with fail
   have HF1:Hid (Fr [sb,pb,mb] w (wr.setCell ⟨sb,j,none⟩ (.int .i64 5))):=HF.out.setCell (p:=⟨sb,j,none⟩) (.inl (by simp)) _;generalize wr.setCell ⟨sb,j,none⟩ (.int .i64 5)=w1 at *;clear c1 cs cz;have HE:Hid (∀w',Rg w' tb sb pb mb W n (bg s f (j+1) λ_=>5) (bg t f j rt) m->Calls Tryz.prog 167 #[.pointer (some ⟨tb,0,none⟩),.int .i64 (j:Int)] w' λe w''=>e=.returned (.int .i64 ((j*W+W:Nat):Int))/\∃q,w''=w'.drewN q):=λw' h'=>xi h' hj;have c2:=HP.out.c2;have ct:=HP.out.ct hj;have cz:=HP.out.fx.frozen j;have hbe:=HBE.out j (by omega) (by omega);have hrt:=HT.out j;have HP2:=aa (HP.out.zk j (rt j) (λ_=>hbe));have es:=lj t (a:=f) (k:=j) (rt j) hj1 rt rfl;rw[es]at HP2;clear es hbe;have hE4:=HP.out.bX hj;generalize bg t f j rt j=T at *;generalize j*W+W=E at *;have HP1:=aa HP.out.drew;generalize rt j=R at *;have k2:(w1.setCell ⟨pb,j,none⟩ (.int .i64 R)).cell? ⟨tb,2,none⟩=some (.slice (some ⟨pb,0,none⟩) n n):=HP2.out.c2;rw[Int.natCast_add B z]at hrt;subst hrt;have hmin:min ((B:Int)+(z:Int)) (E:Int)=if (E:Int)<(B:Int)+(z:Int) then (E:Int) else (B:Int)+(z:Int):=by rw[Int.min_def];split <;> split <;> omega
   go_region_held3 (λw'=>w'.cell? ⟨tb,2,none⟩=some (.slice (some ⟨pb,0,none⟩) n n))
    (first|exact c2|exact k2|go_keep)
    (first|(go_at_call 167;refine(HE.out _ HP1.out).mono ?_;rintro e w' ⟨rfl,q,rfl⟩))
   go_wp2_with fail
   go_roundw
   case rel=>exact⟨j+1,by go_num,by omega,by omega,HP2.out.drewN _,(HF1.out.setCell (p:=⟨pb,j,none⟩) (.inl (by simp)) _).drewN _⟩
   case measure=>simp[intOf];omega
  ·have hlt':¬ (j:Int)<(f:Int)+(c:Int):=by omega
   obtain rfl:j=f+c:=by omega
   have hj:f<n:=by omega
   have hj':(f:Int)<(n:Int):=by omega
   have c1:=hr.c1;have cs:=hr.cs hj;have cz:=hr.st.frozen f;have HP:=aa (hr.xj f 4 (by decide));clear hr hfr;generalize (bg s f (f+c) λ_=>5) f=y at *;go_wp2_with fail
   go_ret2
   exact⟨rfl,HP.out,HF.out.setCell (p:=⟨sb,f,none⟩) (.inl (by simp)) _⟩
theorem xO{w:World}{tb sb pb mb W n:Nat}{s t m:Nat->Int}(h:Rg w tb sb pb mb W n s t m)(hn1:1<=n){c:Nat}{z:Int}(hc:1<=c)(hcm:c<=9223372036854775807)(hzm:z<=9223372036854775807)(hz:((c:Int)-1)*(W:Int)<z/\z<=(c:Int)*(W:Int))(hl:ns s n c) :
  Calls Tryz.prog 157 #[.pointer (some ⟨tb,0,none⟩),.int .i64 (c:Int),.int .i64 z] w λe w'=>e=.returned (.tuple #[.int .i64 0,.int .i64 6])/\w=w':=by
 have hcs:(c:Int)=nl W z:=(nm h.pos hc _).2 hz;have HS:Hid (Calls Tryz.prog 165 #[.pointer (some ⟨tb,0,none⟩),.int .i64 z] w λe w'=>e=.returned (.int .i64 (c:Int))/\w=w'):=by
  have:=nr h hn1 (z:=z) hzm;rw[<- hcs]at this;exact this
 have HL:Hid (Calls Tryz.prog 166 #[.pointer (some ⟨tb,0,none⟩),.int .i64 (c:Int)] w λe w'=>e=.returned (.int .i64 (-1))/\w=w'):=(lE h hc hcm).mono λe w' ⟨x,he,hw,hx⟩=>by
  rcases hx with⟨f',rfl,hf'⟩|⟨hx,hno⟩
  ·exact absurd hf'.2.1 (hl f' hf'.1)
  ·rw[he,hx];exact⟨rfl,hw⟩
 clear h hl hz hcs;go_enter Tryz.func157,Tryz.ntmps157
 go_wp2_with (first|(go_at_call 165;refine HS.out.mono ?_;rintro e w' ⟨rfl,rfl⟩)|(go_at_call 166;refine HL.out.mono ?_;rintro e w' ⟨rfl,rfl⟩))
 go_ret2
 exact⟨rfl,rfl⟩
namespace HS
variable (h:HS)
noncomputable def fD (r:Nat):Int:=h.g.bA (h.bj (((r*h.W:Nat):Int)+1)).size
noncomputable def bK (t:Int->Bool) (r:Nat):Int->Bool:=if (List.range (h.fD r).toNat).any (λi=>t ((r:Int)+(i:Int))) then λx=>decide (x=(r:Int))||t x else t
def gS(l:List Int):Int->Bool:=λx=>decide (0<=x/\x<(h.R:Int))&&decide (x∈l)
noncomputable def jF (l:List Int):Int->Bool:=(bn h.s 4 h.R).foldl h.bK (h.gS l)
def bu(a:Int):Int:=h.g.av (adr (h.f a.toNat:Int))
noncomputable def bL (σ:RS) (per:Nat) (t:Int->Bool) (a:Int):List Int:=(bc h.n h.f a).filter λx=>t (h.bu x)&&!gR σ per h.R (h.bu x) (h.g.aV x)
noncomputable def cH (σ:RS) (per:Nat) (t:Int->Bool) (r:Nat):List Int:=if t (r:Int)||!(decide (h.s r=3)||decide (h.s r=4)) then [] else (h.dg (r:Int)).flatMap (h.bL σ per t)
open Classical in
noncomputable def dQ (σ:RS) (per:Nat) (l:List Int):List Int:=if h.Sound then (List.range h.R).flatMap (h.cH σ per (h.jF l)) else []
theorem jG{t:Int->Bool}{r:Nat}{x:Int}(hx:t x=true):h.bK t r x=true:=by
 unfold bK;split
 ·simp[hx]
 ·exact hx
theorem jl{x:Int}:∀(l:List Nat) (t:Int->Bool),t x=true->l.foldl h.bK t x=true
|[],t,hx=>hx
|r::l,t,hx=>jl l _ (h.jG hx)
theorem uQ{l:List Int}{x:Int}(h0:0<=x)(h1:x<(h.R:Int))(hm:x∈l):h.jF l x=true:=
 h.jl _ _ (by simp[gS,h0,h1,hm])
theorem xP(σ:RS)(per:Nat){l:List Int}(hl:∀r:Nat,r<h.R->(r:Int)∈l):h.dQ σ per l=[]:=by
 unfold dQ;split
 ·rw[List.flatMap_eq_nil_iff];intro r hr;have hr':r<h.R:=by simpa using hr
  unfold cH;rw[h.uQ (by omega) (by omega) (hl r hr')];simp
 ·rfl
end HS
def dE(w:World)(mb:Nat)(t:Int->Bool):Prop:=
 ∃f,Mp Tryz.prog 3 w mb f/\(∀x v,f x=some v->v=.agg #[])/\∀r:Int,(Lit.int .i64 r).wf=true->(f (.int .i64 r)).isSome=t r
theorem dE.fr{w w':World}{mb:Nat}{t:Int->Bool}{F:List Nat}(h:dE w mb t)(hf:Fr F w w')(hb:mb∉F):dE w' mb t:=by
 obtain⟨f,h1,h2⟩:=h;exact⟨f,h1.fr hf hb,h2⟩
theorem dE.lt{w:World}{mb:Nat}{t:Int->Bool}(h:dE w mb t):mb<w.heap.size:=by
 obtain⟨f,h1,h2⟩:=h;exact h1.lt
theorem dE.new(w:World){b:Nat}(hb:w.heap.size=b):dE (w.alloc (.map #[] 0)) b (λ_=>false):=by
 subst hb;exact⟨_,Mp.made w,λx v e=>(by cases e),λr _=>rfl⟩
theorem dE.look{w:World}{mb:Nat}{t:Int->Bool}(h:dE w mb t){r:Int}(hw:(Lit.int .i64 r).wf=true) :
  (Instr.lookup 91 (.map (some mb)) (.int .i64 r) true).run Tryz.prog w=.ok (.tuple #[.agg #[],.bool (t r)]) w:=by
 obtain⟨f,k1,k2,k3⟩:=h;rw[k1.AB Tryz.tI Tryz.underlying91 (lu w) (tJ r hw),k3 r hw];have:(f (.int .i64 r)).getD (.agg #[])=.agg #[]:=by
  cases hf:f (.int .i64 r)with
 |none=>rfl
 |some v=>exact k2 _ _ hf
 rw[this]
theorem dE.add{w':World}{mb:Nat}{t:Int->Bool}{f:Value->Option Value}(h2:∀x v,f x=some v->v=.agg #[])(h3:∀r:Int,(Lit.int .i64 r).wf=true->(f (.int .i64 r)).isSome=t r){a:Int}
  (hm:Mp Tryz.prog 3 w' mb (upF f (.int .i64 a) (.agg #[]))):dE w' mb (λx=>decide (x=a)||t x):=by
 refine⟨_,hm,λx v hx=>?_,λr hr=>?_⟩
 ·by_cases e:x=.int .i64 a
  ·subst e;rw[ig]at hx;exact(Option.some.inj hx).symm
  ·rw[ii _ _ e]at hx;exact h2 x v hx
 ·by_cases e:r=a
  ·subst e;rw[ig];simp
  ·rw[ii _ _ (λe1=>e (by injection e1)),h3 r hr];simp[e]
open Go.RowKit Go.Gl
namespace HS
variable (h:HS)
def jm(t:Int->Bool)(r m:Nat):Int->Bool:=if (List.range m).any (λi=>t ((r:Int)+(i:Int))) then λx=>decide (x=(r:Int))||t x else t
theorem uR(t:Int->Bool)(r:Nat):jm t r 0=t:=by simp[jm]
theorem xQ(t:Int->Bool)(r:Nat):jm t r (h.fD r).toNat=h.bK t r:=rfl
theorem xR{t:Int->Bool}{r m:Nat}(e:jm t r m ((r:Int)+(m:Int))=true):jm t r (m+1)=λx=>decide (x=(r:Int))||jm t r m x:=by
 unfold jm at e ⊢;rw[List.range_succ,List.any_append];by_cases c:(List.range m).any (λi=>t ((r:Int)+(i:Int)))=true
 ·simp only[c,Bool.true_or,if_true]
  funext x
  cases decide (x=(r:Int)) <;> simp
 ·rw[if_neg c]at e ⊢;simp[e]
theorem zK{t:Int->Bool}{r m:Nat}(e:jm t r m ((r:Int)+(m:Int))=false):jm t r (m+1)=jm t r m:=by
 unfold jm at e ⊢;rw[List.range_succ,List.any_append];by_cases c:(List.range m).any (λi=>t ((r:Int)+(i:Int)))=true
 ·simp only[c,Bool.true_or,if_true]
 ·rw[if_neg c]at e ⊢;simp[e,c]
theorem xS:h.gS []=λ_=>false:=by funext x;simp[gS]
theorem zL{l:List Int}{a:Int}(ha:0<=a/\a<(h.R:Int)):h.gS (l++[a])=λx=>decide (x=a)||h.gS l x:=by
 funext x
 unfold gS;by_cases e:x=a
 ·subst e;simp[ha]
 ·simp[e]
theorem xT{l:List Int}{a:Int}(ha:¬ (0<=a/\a<(h.R:Int))):h.gS (l++[a])=h.gS l:=by
 funext x
 unfold gS;by_cases e:x=a
 ·subst e;simp[ha]
 ·simp[e]
theorem sg{l:List Nat}{m:Nat}(hm:m<l.length)(t:Int->Bool):(l.take (m+1)).foldl h.bK t=h.bK ((l.take m).foldl h.bK t) (l.getD m 0):=by
 have e:l.take (m+1)=l.take m++[l.getD m 0]:=by
  rw[List.take_add_one,List.getElem?_eq_getElem hm,List.getD_eq_getElem?_getD,List.getElem?_eq_getElem hm];rfl
 rw[e,List.foldl_append];rfl
end HS
structure im(W w:World)(L:HL)(h:HS)(s k mb:Nat)(t:Int->Bool):Prop where
 hr:Hr w L h s k
 fr:Fr [L.ab] W w
 kn:dE w mb t
 far:W.heap.size<=mb
theorem dE.ne{w:World}{mb b:Nat}{t:Int->Bool}{ty:TypeId}{cs:Array Value}(h:dE w mb t)(hb:Blk w b ty cs):mb≠b:=by
 obtain⟨f,k1,_⟩:=h;exact k1.df hb
theorem im.look{W w w':World}{L:HL}{h:HS}{s k mb:Nat}{t:Int->Bool}(a:im W w L h s k mb t)(hH:Hr w' L h s k)(hf:Fr [L.ab] w w'):im W w' L h s k mb t:=by
 obtain⟨c9,h9⟩:=a.hr.ar;refine⟨hH,a.fr.ae hf,a.kn.fr hf (λhx=>?_),a.far⟩;simp only[List.mem_singleton]at hx;exact a.kn.ne h9.set hx
theorem im.cY{W w w':World}{L:HL}{h:HS}{s k mb:Nat}{t:Int->Bool}(a:im W w L h s k mb t)(hf:Fr [] w w'):im W w' L h s k mb t:=
 a.look (a.hr.fr0 hf) (hf.mono (λx hx=>by cases hx))
theorem im.new{w:World}{L:HL}{h:HS}{s k:Nat}(H:Hr w L h s k):im w (w.alloc (.map #[] 0)) L h s k w.heap.size (λ_=>false):=
 ⟨H.fr0 ((Fr.refl _ _).alloc _),(Fr.refl _ _).alloc _,dE.new w rfl,Dd _⟩
theorem im.upd{W w:World}{L:HL}{h:HS}{s k mb:Nat}{t:Int->Bool}(H0:Hr W L h s k)(a:im W w L h s k mb t){x:Int}(hw:(Lit.int .i64 x).wf=true) :
  ∃w',(Instr.mapUpdate 91 (.map (some mb)) (.int .i64 x) (.agg #[])).run Tryz.prog w=.ok () w'/\im W w' L h s k mb (λy=>decide (y=x)||t y)/\Fr [mb] w w':=by
 obtain⟨f,k1,k2,k3⟩:=a.kn;obtain⟨w',hrun,hM,hF⟩:=k1.update (val:=.agg #[]) Tryz.tI Tryz.underlying91 (tJ x hw);have hW:=a.far;have hfw:Fr [L.ab] W w':=a.fr.trans hF (λy hy=>.inr (by simp at hy;rw[hy];exact hW));obtain⟨c9,h9⟩:=a.hr.ar;have e1:=a.kn.ne h9.set;have e2:=a.kn.ne h9.row;exact⟨w',hrun,⟨H0.fr1 hfw ⟨c9,h9.fr hF (by simpa using e1.symm) (by simpa using e2.symm)⟩,hfw,dE.add k2 k3 hM,hW⟩,hF⟩
open Go.RowKit Go.Gl
def Bv(w:World)(L:HL)(h:HS)(s k:Nat)(l:List Int)(e:Ending)(w':World):Prop:=
 ∃mb,e=.returned (.map (some mb))/\im w w' L h s k mb (h.jF l)
theorem uS{h:HS}{s k:Nat}(ok:h.Ok s k)(r:Nat):0<=h.fD r/\h.fD r<=1048576/\(h.bj (((r*h.W:Nat):Int)+1)).size<=1048576:=by
 unfold HS.fD;by_cases e:h.aD (((r*h.W:Nat):Int)+1)=0
 ·obtain⟨S,P,q,hv,hS1,hS2,hP⟩:=tM e;rw[hv];simp only;have hw:=ok.ik;unfold Geo.bA;rw[if_neg (by omega),ok.rw,show(S:Int)-1=((S-1:Nat):Int)by omega,<- Int.natCast_ediv];have:=Nat.div_le_self (S-1) h.W;generalize (S-1) / h.W=d at *;omega
 ·have hv:h.bj (((r*h.W:Nat):Int)+1)=Hd.zero:=by unfold HS.bj;rw[if_neg e]
  rw[hv];simp[Hd.zero,Geo.bA]
theorem sh{w:World}{L:HL}{h:HS}{s k:Nat}(H:Hr w L h s k){l:List Int}{A:Option Addr}{c:Nat}(hl:Sl w A l.length (λm=>.int .i64 (l.getD m 0)))(hll:l.length<=4611686018427387904)(hlw:∀m,m<l.length->(Lit.int .i64 (l.getD m 0)).wf=true) :
  Calls Tryz.prog 27 #[.pointer (some ⟨L.hb,0,none⟩),.slice A l.length c] w (Bv w L h s k l):=by
 have HH:=aa H;have HOK:=aa H.ok;have HGE:Hid (∀w',Hr w' L h s k->_):=λw' h'=>h'.geo;have HLB:=af H.geo.1;have hmm:=@run_makeMap Tryz.prog;have HSL:=aa hl;have HLW:=aa hlw;have HA0:=aa (im.new H);obtain⟨n,hn⟩:∃n,n=l.length:=⟨_,rfl⟩;have HN:=aa hn;rw[<- hn]at hll ⊢;clear hl hlw H hn;go_enter Tryz.func27,Tryz.ntmps27
 go_wp2_with fail
 clear hmm;have HF0:Hid (Fr [] w (w.alloc (.map #[] 0))):=(Fr.refl _ _).alloc _;have HMB:Hid (w.heap.size<=w.heap.size):=Dd _;generalize (w.alloc (.map #[] 0))=w0 at *;obtain⟨mb,hmb⟩:∃mb,mb=w.heap.size:=⟨_,rfl⟩;have HME:=aa hmb;rw[<- hmb]at HA0 ⊢;clear hmb;go_loopw [22] (λi wr=>∃m:Nat,i=.int .i64 m/\m<=n/\im w wr L h s k mb (h.gS (l.take m))/\Fr [] w wr) (λi _=>n-(intOf i).toNat)
 case atStart=>exact⟨0,rfl,Df _,by rw[List.take_zero,HS.xS];exact HA0.out,HF0.out⟩
 case round=>
  obtain⟨m,rfl,hm,ho,hf⟩:=hrel;have HO:=aa ho;have HF:=aa hf;clear ho hf HA0 HF0;by_cases hlt:m<n
  ·have hlt1:(m:Int)<(n:Int):=by omega
   have hml:m<l.length:=by have:=HN.out;omega
   obtain⟨b,off,rfl,hb0,hcl⟩:=HSL.out (by omega);have x0:wr.cell? ⟨b,off+m,none⟩=some (.int .i64 (l.getD m 0)):=(HF.out.cell (p:=⟨b,off+m,none⟩) hb0 (by simp)).trans (hcl m hml);obtain⟨g0,g1,g2,g3,g4,g5⟩:=HO.out.hr.geo;have HB:=aa (HO.out.hr.base (l.getD m 0) (Fr.refl [] wr));have HW:=aa (HLW.out m hml);have HTI:=HS.zL (h:=h) (l:=l.take m) (a:=l.getD m 0);have HTO:=HS.xT (h:=h) (l:=l.take m) (a:=l.getD m 0);rw[<- fj hml]at HTI HTO;generalize h.gS (l.take m)=t0 at *;generalize l.getD m 0=a at *;clear hcl;by_cases ha:0<=a/\a<(h.R:Int)
   ·rw[if_pos ha,if_pos ha]at HB;have HT:=aa (HTI ha);clear HTI HTO;go_wp2_with (go_at_call 58;refine HB.out.mono ?_;rintro e w2 ⟨rfl,hf2⟩;have a2:=HO.out.cY hf2;have HF2:=aa hf2;obtain⟨w3,hrun3,a3,hf3⟩:=a2.upd HH.out HW.out;have HA3:=aa a3;have HF3:=aa hf3;clear a2 a3 hf2 hf3)
    go_roundw
    case rel=>exact⟨m+1,by go_num,by omega,by rw[HT.out];exact HA3.out,(HF.out.ae HF2.out).trans HF3.out (λy hy=>.inr (by simp at hy;rw[hy,HME.out];exact Dd _))⟩
    case measure=>simp[intOf];omega
   ·rw[if_neg ha,if_neg ha]at HB;have HT:=aa (HTO ha);clear HTI HTO;go_wp2_with (go_at_call 58;refine HB.out.mono ?_;rintro e w2 ⟨rfl,hf2⟩;have HF2:=aa hf2;clear hf2)
    go_roundw
    case rel=>exact⟨m+1,by go_num,by omega,by rw[HT.out];exact HO.out.cY HF2.out,HF.out.ae HF2.out⟩
    case measure=>simp[intOf];omega
  ·obtain rfl:m=n:=by omega
   have HTL:Hid (h.gS (l.take m)=h.gS l):=by show _=_;rw[List.take_of_length_le];have:=HN.out;omega
   rw[HTL.out]at HO;have cT:=HO.out.hr.cT;have HRL:=aa (nk HO.out.hr.rg 4);have hLM:∀q,q<(bn h.s 4 h.R).length->(bn h.s 4 h.R).getD q 0<h.R:=λq hq=>(iH.1 (show(bn h.s 4 h.R).getD q 0∈bn h.s 4 h.R by rw[List.getD_eq_getElem?_getD,List.getElem?_eq_getElem hq];simp)).1;have HLM:=aa hLM;have hLL:=ni h.s 4 h.R;have hRb:h.R<=65536:=by have:=HOK.out.geo.jb;have:=HOK.out.rg;omega
   have HTK:Hid (h.jF l=(bn h.s 4 h.R).foldl h.bK (h.gS l)):=rfl;clear hLM;generalize h.gS l=t0 at *;obtain⟨ls,hls⟩:∃ls,ls=bn h.s 4 h.R:=⟨_,rfl⟩;rw[<- hls]at HRL HLM hLL HTK;clear hls;have HAB:Hid (L.ab<wr.heap.size/\mb<wr.heap.size):=by
    obtain⟨c9,h9⟩:=HO.out.hr.ar;exact⟨h9.set.lt,HO.out.kn.lt⟩
   obtain⟨n1,hn1⟩:∃n1,n1=ls.length:=⟨_,rfl⟩;have HN1:=aa hn1;unfold nj at HRL;rw[<- hn1]at HRL hLL;clear hn1;go_wp2_with (go_at_call 59;refine HRL.out.mono ?_;rintro e w1 ⟨v,rfl,hown,hf1⟩;obtain⟨A1,c1,G1,rfl,hl1,hG1⟩:=Lr.wI hown;have HL1:=aa hl1;have HG1:=aa hG1;have HF1:=aa hf1;have HO1:=aa (HO.out.cY hf1);clear hown hl1 hG1 hf1)
   go_loopw [47] (λi wr=>∃m:Nat,i=.int .i64 m/\m<=n1/\im w wr L h s k mb ((ls.take m).foldl h.bK t0)/\Fr [L.ab,mb] w1 wr) (λi _=>n1-(intOf i).toNat)
   case atStart=>exact⟨0,rfl,Df _,by rw[List.take_zero];exact HO1.out,Fr.refl _ _⟩
   case round=>
    obtain⟨q,rfl,hq,ho2,hf2⟩:=hrel;have HO2:=aa ho2;have HF2:=aa hf2;clear ho2 hf2;by_cases hlt2:q<n1
    ·have hlt3:(q:Int)<(n1:Int):=by omega
     have hql:q<ls.length:=by have:=HN1.out;omega
     have hrR:=HLM.out q hql;have HFO:=aa (HS.sg (h:=h) hql t0);obtain⟨b,off,rfl,hb0,hcl⟩:=(HL1.out.fr HF2.out (λg hg hx=>by
      have h1:=HG1.out g hg;have h2:=HAB.out;simp at hx;omega)).sl (by omega)
     have x0:wr.cell? ⟨b,off+q,none⟩=some (.int .i64 ((ls.getD q 0:Nat):Int)):=by
      rw[hcl q hlt2];simp[jU,hql]
     generalize (ls.take q).foldl h.bK t0=t1 at *;generalize ls.getD q 0=r at *;clear hcl;have hbl:=HOK.out.bX hrR;have hnm:=HOK.out.dC;obtain⟨hsp0,hsp1,hsz⟩:=uS HOK.out r;obtain⟨g0,g1,g2,g3,g4,g5⟩:=HO2.out.hr.geo;have HB:=aa (HO2.out.hr.base (r:Int) (Fr.refl [] wr));have hin:(0:Int)<=(r:Int)/\(r:Int)<(h.R:Int):=⟨by omega,by omega⟩;rw[if_pos hin,if_pos hin,<- Int.natCast_mul]at HB;have HRF:=aa (λw'=>gc (i:=r*h.W) (by omega) w');have HOB:Hid (∀w',Hr w' L h s k->Calls Tryz.prog 60 #[.pointer (some ⟨L.hb,0,none⟩),.int .u64 (((r*h.W:Nat):Int)+1)] w' (HrP w' L h s k (.tuple #[(h.bj (((r*h.W:Nat):Int)+1)).val,.int .i64 (h.aD (((r*h.W:Nat):Int)+1))]))):=λw' h'=>fW h' (by omega) (by omega);have HTN:=aa (HS.xQ h t1 r);have hSPE:h.fD r=h.g.bA (h.bj (((r*h.W:Nat):Int)+1)).size:=rfl;have HSP:Hid (∀w' w'',Hr w' L h s k->Fr [] w' w''->Calls Tryz.prog 62 #[.agg #[.int .i64 h.g.words,.int .i64 h.g.rw,.int .i64 h.g.cw,.int .i64 h.g.regions,.int .i64 h.g.aF,.int .i64 h.g.max],.int .i64 (h.bj (((r*h.W:Nat):Int)+1)).size] w'' λe w3=>e=.returned (.int .i64 (h.fD r))/\Fr [] w'' w3):=λw' w'' h' hf=>h'.span _ (by omega) hf;unfold HrP at HOB;generalize h.fD r=sp at *;clear hSPE;generalize h.aD (((r*h.W:Nat):Int)+1)=E at *;generalize h.bj (((r*h.W:Nat):Int)+1)=V at *;obtain⟨v0,v1,v2,v3,v4⟩:=V;unfold Hd.val at HOB;simp only at HOB HSP hsz;generalize r*h.W=a at *;go_wp2_with (first|(go_at_call 58;refine HB.out.mono ?_;rintro e w2 ⟨rfl,hf2⟩;have HO3:=aa (HO2.out.cY hf2);have HF3:=aa hf2;clear hf2)|(go_at_call 61;refine(HRF.out _).mono ?_;rintro e w' ⟨rfl,rfl⟩)|(go_at_call 60;refine(HOB.out _ HO3.out.hr).mono ?_;rintro e w3 ⟨rfl,hH3,hf3⟩;have HO4:=aa (HO3.out.look hH3 hf3);have HF4:=aa hf3;clear hH3 hf3))
     generalize hw4:w3.alloc (.cells #[.int .i64 v0,.int .i64 v1,.int .i64 v2,.int .i64 v3,.int .i64 v4] 151)=w4;have HB4:Hid (Blk w4 w3.heap.size 151 #[.int .i64 v0,.int .i64 v1,.int .i64 v2,.int .i64 v3,.int .i64 v4]):=hw4 ▸ Blk.new _ _ _;have HF5:Hid (Fr [] w3 w4):=hw4 ▸ (Fr.refl _ _).alloc _;clear hw4;have HO5:=aa (HO4.out.cY HF5.out);have S2:Hid (kK (Fr [] w4)):=λa b h1 h2=>h1.ae h2;have HH2:=aa HO5.out.hr;clear g0 g1 g2 g3 g4 g5;have g0:∀u:Cls (Fr [] w4),u.w.cell? ⟨L.hb,14,none⟩=some (.int .i64 h.g.words):=λu=>u.cell HH2.out.geo.1 (by simp);have g1:∀u:Cls (Fr [] w4),u.w.cell? ⟨L.hb,15,none⟩=some (.int .i64 h.g.rw):=λu=>u.cell HH2.out.geo.2.1 (by simp);have g2:∀u:Cls (Fr [] w4),u.w.cell? ⟨L.hb,16,none⟩=some (.int .i64 h.g.cw):=λu=>u.cell HH2.out.geo.2.2.1 (by simp);have g3:∀u:Cls (Fr [] w4),u.w.cell? ⟨L.hb,17,none⟩=some (.int .i64 h.g.regions):=λu=>u.cell HH2.out.geo.2.2.2.1 (by simp);have g4:∀u:Cls (Fr [] w4),u.w.cell? ⟨L.hb,18,none⟩=some (.int .i64 h.g.aF):=λu=>u.cell HH2.out.geo.2.2.2.2.1 (by simp);have g5:∀u:Cls (Fr [] w4),u.w.cell? ⟨L.hb,19,none⟩=some (.int .i64 h.g.max):=λu=>u.cell HH2.out.geo.2.2.2.2.2 (by simp);have x1:∀u:Cls (Fr [] w4),u.w.cell? ⟨w3.heap.size,1,none⟩=some (.int .i64 v1):=λu=>u.cell (HB4.out.cell 1) (by simp);have HSN:Hid (∀u:Cls (Fr [] w4),Calls Tryz.prog 62 #[.agg #[.int .i64 h.g.words,.int .i64 h.g.rw,.int .i64 h.g.cw,.int .i64 h.g.regions,.int .i64 h.g.aF,.int .i64 h.g.max],.int .i64 v1] u.w λe w3=>e=.returned (.int .i64 sp)/\∃u':Cls (Fr [] w4),w3=u'.w):=λu=>Cls.grow (HSP.out _ _ HH2.out u.ok);refine bV (Fr [] w4) (by kernel_rfl) (by kernel_rfl) (Cls.drew S2.out ⟨w4,Fr.refl _ _⟩) ?_
     repeat (go_big_quiet_step ((go_at_call 62;exact HSN.out _)))
     refine wpQuiet_nil ?_;rintro _ ⟨u1,rfl⟩;have HO6:=aa (HO5.out.cY u1.ok);have HF6:Hid (Fr [L.ab,mb] w1 u1.w):=(((HF2.out.aO HF3.out).ae (HF4.out.mono (λx hx=>by simp only[List.mem_singleton]at hx;subst hx;simp))).aO HF5.out).aO u1.ok;clear HB4 HSP HSN g0 g1 g2 g3 g4 g5 x1 HB;generalize u1.w=w5 at *;go_wp2_with fail
     go_loopw [74] (λi wr=>∃j:Nat,i=.int .i64 j/\(j:Int)<=sp/\im w wr L h s k mb (HS.jm t1 r j)/\Fr [L.ab,mb] w1 wr) (λi _=>sp.toNat-(intOf i).toNat)
     case atStart=>exact⟨0,rfl,hsp0,by rw[HS.uR];exact HO6.out,HF6.out⟩
     case round=>
      obtain⟨j,rfl,hj,ho7,hf7⟩:=hrel;have HO7:=aa ho7;have HF7:=aa hf7;clear ho7 hf7;by_cases hlt4:(j:Int)<sp
      ·have hw1:IntKind.i64.wrap ((r:Int)+(j:Int))=(r:Int)+(j:Int):=IntWalk.i64_in _ ⟨by omega,by omega⟩;have hwf:(Lit.int .i64 ((r:Int)+(j:Int))).wf=true:=fi ⟨by omega,by omega⟩;have hwr:(Lit.int .i64 (r:Int)).wf=true:=fi ⟨by omega,by omega⟩;have HW:=aa (And.intro hwf hwr);have hlook:=HO7.out.kn.look hwf;clear hwf hwr;by_cases e:HS.jm t1 r j ((r:Int)+(j:Int))=true
       ·rw[e]at hlook;have HTJ:=aa (HS.xR e);obtain⟨w8,hrun8,ha8,hf8⟩:=(HO7.out.cY ((Fr.refl [] wr).alloc (.cells #[] 95))).upd HH.out HW.out.2;have HO8:=aa ha8;have HF8:=aa hf8;clear ha8 hf8 e;go_wp2_with fail
        go_roundw
        case rel=>exact⟨j+1,by go_num,by omega,by rw[HTJ.out];exact HO8.out,(HF7.out.aO ((Fr.refl [] wr).alloc (.cells #[] 95))).ae (HF8.out.mono (λx hx=>by simp only[List.mem_singleton]at hx;subst hx;simp))⟩
        case measure=>simp[intOf];omega
       ·have e':HS.jm t1 r j ((r:Int)+(j:Int))=false:=by simpa using e
        rw[e']at hlook;have HTJ:=aa (HS.zK e');clear e e';go_wp2_with fail
        go_roundw
        case rel=>exact⟨j+1,by go_num,by omega,by rw[HTJ.out];exact HO7.out.cY ((Fr.refl [] wr).alloc (.cells #[] 95)),HF7.out.aO ((Fr.refl [] wr).alloc (.cells #[] 95))⟩
        case measure=>simp[intOf];omega
      ·obtain rfl:(j:Int)=sp:=by omega
       have HTZ:Hid (HS.jm t1 r j=h.bK t1 r):=by
        have:=HTN.out;rw[Int.toNat_natCast]at this;exact this
       rw[HTZ.out]at HO7;go_wp2_with fail
       go_roundw
       case rel=>exact⟨q+1,by go_num,by omega,by rw[HFO.out];exact HO7.out,HF7.out⟩
       case measure=>simp[intOf];omega
    ·obtain rfl:q=n1:=by omega
     have HO3:Hid (im w wr L h s k mb (h.jF l)):=by
      have:=HO2.out;rw[List.take_of_length_le (by have:=HN1.out;omega),<- HTK.out]at this;exact this
     go_wp2_with fail
     refine bodyPost_ret (v:=.map (some mb)) (by simp[results,Tryz.results27,go_sem, *]) rfl ?_;exact⟨mb,rfl,HO3.out⟩
theorem uT(x:Int)(w:World):Calls Tryz.prog 69 #[.int .u64 x] w λe w'=>e=.returned (.int .i64 (adr x))/\w=w':=by
 go_enter Tryz.func69,Tryz.ntmps69
 go_wp2
 go_ret
 exact⟨bo (by unfold adr;rw[IntWalk.i64_left]),rfl⟩
theorem Hr.card{w:World}{L:HL}{h:HS}{s k:Nat}(H:Hr w L h s k)(a:Int){w':World}(hf:Fr [] w w'):Calls Tryz.prog 11 #[.agg #[.int .i64 h.g.words,.int .i64 h.g.rw,.int .i64 h.g.cw,.int .i64 h.g.regions,.int .i64 h.g.aF,.int .i64 h.g.max],.int .i64 a] w' λe w''=>e=.returned (.int .i64 (h.g.aV a))/\Fr [] w' w'':=
 pR h.g H.ok.geo a w' (H.fr0 hf).tab
theorem si{h:HS}{s k:Nat}(ok:h.Ok s k){a x:Int}(hx:x∈bc h.n h.f a):∃i:Nat,x=(i:Int)/\i<h.n:=by
 unfold bc at hx;split at hx
 ·rename_i hc
  obtain⟨c1,c2,c3⟩:=hc;rcases gI h.n h.f a with⟨h1,_⟩|⟨h1,_⟩|⟨h1,h2,h3,h4⟩
  ·omega
  ·omega
  ·have:=h4.ways;unfold refs at hx;obtain⟨j,hj,rfl⟩:=List.mem_map.1 hx;rw[List.mem_range]at hj;exact⟨a.toNat+1+j,by omega,by omega⟩
 ·cases hx
theorem iW{h:HS}(a:Int):(bc h.n h.f a).length<=1048576:=by
 unfold bc;split
 ·rename_i hc
  obtain⟨c1,c2,c3⟩:=hc;rcases gI h.n h.f a with⟨h1,_⟩|⟨h1,_⟩|⟨h1,h2,h3,h4⟩
  ·omega
  ·omega
  ·have:=h4.ways;rw[ek];omega
 ·simp
structure LsI(L:HL)(h:HS)(B sb per:Nat)(σ:RS)(I:World->Prop):Prop where
 vs:L.vs=.pointer (some ⟨sb,0,none⟩)
 keep:∀a b F,I a->Fr F a b->(∀x,x∈F->x=L.ab\/B<=x)->I b
 has:∀a,I a->∀x c:Int,(Lit.int .i64 x).wf=true->Calls Tryz.prog 71 #[.pointer (some ⟨sb,0,none⟩),.int .i64 x,.int .i64 c] a λe b=>e=.returned (.bool (gR σ per h.R x c))/\Fr [] a b
structure gC(W:World)(I:World->Prop)(w:World)(L:HL)(h:HS)(s k mb:Nat)(t:Int->Bool)(acc:List Int)(A:Option Addr)(c:Nat)(G:List Nat):Prop where
 hr:Hr w L h s k
 kn:dE w mb t
 inv:I w
 lr:Lr w 3 A acc.length c G (zv acc)
 far:∀g,g∈G->W.heap.size<=g
 fr:Fr [L.ab] W w
theorem dE.off{w:World}{mb:Nat}{t:Int->Bool}{e:TypeId}{A:Option Addr}{n c:Nat}{G:List Nat}{xs:List Value}(h:dE w mb t)(hl:Lr w e A n c G xs):mb∉G:=λhg=>by
 obtain⟨f,k,_⟩:=h;rcases Nat.eq_zero_or_pos c with hc|hc
 ·rw[hl.zero hc]at hg;cases hg
 ·obtain⟨g,off,cur,_,q2,q3,_⟩:=hl.blk hc;rw[q2]at hg;simp at hg;exact k.df q3 hg
section
variable {sb per:Nat}{σ:RS}{I:World->Prop}{W w w':World}{L:HL}{h:HS}{s k mb:Nat}{t:Int->Bool}{acc:List Int}{A:Option Addr}{c:Nat}{G:List Nat}
theorem gC.look(LI:LsI L h W.heap.size sb per σ I)(a:gC W I w L h s k mb t acc A c G)(hH:Hr w' L h s k)(hf:Fr [L.ab] w w'):gC W I w' L h s k mb t acc A c G:=by
 obtain⟨c9,h9⟩:=a.hr.ar;refine⟨hH,a.kn.fr hf (λhx=>?_),LI.keep _ _ _ a.inv hf (λx hx=>.inl (by simpa using hx)),a.lr.fr hf (λg hg hx=>?_),a.far,a.fr.ae hf⟩
 ·simp only[List.mem_singleton]at hx;exact a.kn.ne h9.set hx
 ·simp only[List.mem_singleton]at hx;subst hx;exact a.lr.apart h9.set (by decide) hg
theorem gC.cY(LI:LsI L h W.heap.size sb per σ I)(a:gC W I w L h s k mb t acc A c G)(hf:Fr [] w w'):gC W I w' L h s k mb t acc A c G:=
 a.look LI (a.hr.fr0 hf) (hf.mono (λx hx=>by cases hx))
theorem gC.app(H0:Hr W L h s k)(LI:LsI L h W.heap.size sb per σ I)(a:gC W I w L h s k mb t acc A c G){A':Option Addr}{c':Nat}{G':List Nat}{x:Int}(hl:Lr w' 3 A' (acc.length+1) c' G' (zv acc++[.int .i64 x]))(hf:Fr G w w')(hG:∀g,g∈G'->g∈G\/w.heap.size<=g):gC W I w' L h s k mb t (acc++[x]) A' c' G':=by
 have hfw:Fr [L.ab] W w':=a.fr.trans hf (λy hy=>.inr (a.far y hy));obtain⟨c9,h9⟩:=a.hr.ar;refine⟨H0.fr1 hfw ⟨c9,h9.fr hf (a.lr.apart h9.set (by decide)) (a.lr.apart h9.row (by decide))⟩,a.kn.fr hf (a.kn.off a.lr),LI.keep _ _ _ a.inv hf (λy hy=>.inr (a.far y hy)),?_,λg hg=>?_,hfw⟩
 ·rw[List.length_append,gK];exact hl
 ·rcases hG g hg with h1|h1
  ·exact a.far g h1
  ·exact Nat.le_trans a.fr.size h1
end
end Go.Proofs.YtimlkjppaalfaaaGreatDoor
