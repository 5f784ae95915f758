/- Several texts joined (pack.py): Bn Geo Lr. -/
import Derived.Laws.BitsAllLaws
import Derived.Laws.Bits128
import Derived.Lib.TrailingZeros
import Derived.Test.YtimlkjppaalfaaaGreatDoorPW00
import Derived.IntWalk
import Derived.Deep.AppendSrc
import Derived.Deep.Upon
set_option linter.unusedVariables false
open Int renaming eq_ofNat_of_zero_le->Da
namespace Go.Gl
def cnt(p:Nat->Bool)(a:Nat):Nat->Nat
|0=>0
|n+1=>cnt p a n+(if p (a+n) then 1 else 0)
theorem kU(p:Nat->Bool)(a n:Nat):cnt p a n<=n:=by
 induction n with
|zero=>simp[cnt]
|succ n ih=>simp only[cnt];split <;> omega
theorem ix{p q:Nat->Bool}{a b n:Nat}(h:∀j,j<n->p (a+j)=q (b+j)):cnt p a n=cnt q b n:=by
 induction n with
|zero=>rfl
|succ n ih=>simp only[cnt];rw[ih (λj hj=>h j (by omega)),h n (by omega)]
theorem nR(p:Nat->Bool)(a m n:Nat):cnt p a (m+n)=cnt p a m+cnt p (a+m) n:=by
 induction n with
|zero=>rfl
|succ n ih=>rw[<- Nat.add_assoc];simp only[cnt];rw[ih,Nat.add_assoc a m n];omega
theorem px{p:Nat->Bool}{a n:Nat}(h:∀j,j<n->p (a+j)=false):cnt p a n=0:=by
 induction n with
|zero=>rfl
|succ n ih=>simp only[cnt];rw[ih (λj hj=>h j (by omega)),h n (by omega)];rfl
def pc(x:Nat):Nat:=cnt x.testBit 0 64
def rep(c:Nat):Nat->Nat
|0=>0
|n+1=>c+256*rep c n
def cV(g:Nat->Nat):Nat->Nat->Nat
|0,_=>0
|n+1,x=>g (x % 256)+256*cV g n (x / 256)
theorem jr(a q j:Nat)(ha:a<256):(a+256*q).testBit j=if j<8 then a.testBit j else q.testBit (j-8):=by
 rw[Nat.add_comm];exact Nat.testBit_two_pow_mul_add q (i:=8) ha j
theorem and_cons(a q c d:Nat)(ha:a<256)(hc:c<256):(a+256*q) &&& (c+256*d)=(a &&& c)+256*(q &&& d):=by
 have hac:a &&& c<256:=Nat.lt_of_le_of_lt Nat.and_le_left ha;apply Nat.eq_of_testBit_eq;intro j;rw[Nat.testBit_and,jr a q j ha,jr c d j hc,jr _ _ j hac,Nat.testBit_and,Nat.testBit_and];split <;> rfl
def g1(a:Nat):Nat:=(a / 2 &&& 85)+(a &&& 85)
def g2(a:Nat):Nat:=(a / 4 &&& 51)+(a &&& 51)
def g3(a:Nat):Nat:=(a / 16+a) % 16
def pcb(a:Nat):Nat:=cnt a.testBit 0 8
theorem yU:∀(a:Fin 256) (r:Fin 2),(a.val / 2+128*r.val) &&& 85=a.val / 2 &&& 85:=by decide +kernel
theorem yV:∀(a:Fin 256) (r:Fin 4),(a.val / 4+64*r.val) &&& 51=a.val / 4 &&& 51:=by decide +kernel
theorem kA:∀a:Fin 256,g3 (g2 (g1 a.val))=pcb a.val/\g2 (g1 a.val)<=68/\g2 (g1 a.val) % 16<=4/\g1 a.val<256/\pcb a.val<=8:=by decide +kernel
theorem BP(n:Nat):∀x,(x / 2 &&& rep 85 n)+(x &&& rep 85 n)=cV g1 n x:=by
 induction n with
|zero=>intro x;simp[rep,cV]
|succ n ih=>
  intro x;have hm:=yU ⟨x % 256,by omega⟩ ⟨x / 256 % 2,by omega⟩;simp only at hm;have e1:x / 2=(x % 256 / 2+128*(x / 256 % 2))+256*(x / 256 / 2):=by omega
  have e2:x &&& rep 85 (n+1)=(x % 256 &&& 85)+256*(x / 256 &&& rep 85 n):=by
   rw[rep,<- and_cons _ _ _ _ (by omega) (by omega)]
   congr 1;omega
  rw[e2,e1,rep,and_cons _ _ _ _ (by omega) (by omega),hm,cV,<- ih (x / 256),g1];omega
theorem BQ(n:Nat):∀x,(x / 4 &&& rep 51 n)+(x &&& rep 51 n)=cV g2 n x:=by
 induction n with
|zero=>intro x;simp[rep,cV]
|succ n ih=>
  intro x;have hm:=yV ⟨x % 256,by omega⟩ ⟨x / 256 % 4,by omega⟩;simp only at hm;have e1:x / 4=(x % 256 / 4+64*(x / 256 % 4))+256*(x / 256 / 4):=by omega
  have e2:x &&& rep 51 (n+1)=(x % 256 &&& 51)+256*(x / 256 &&& rep 51 n):=by
   rw[rep,<- and_cons _ _ _ _ (by omega) (by omega)]
   congr 1;omega
  rw[e2,e1,rep,and_cons _ _ _ _ (by omega) (by omega),hm,cV,<- ih (x / 256),g2];omega
theorem ug(g h:Nat->Nat)(hg:∀a,a<256->g a<256)(n:Nat):∀x,cV h n (cV g n x)=cV (λa=>h (g a)) n x:=by
 induction n with
|zero=>intro x;rfl
|succ n ih=>
  intro x;have hlt:=hg (x % 256) (by omega);simp only[cV];rw[show(g (x % 256)+256*cV g n (x / 256)) % 256=g (x % 256)by omega,show(g (x % 256)+256*cV g n (x / 256)) / 256=cV g n (x / 256)by omega,ih]
theorem qX(g h:Nat->Nat)(hg:∀a,a<256->g a=h a)(n:Nat):∀x,cV g n x=cV h n x:=by
 induction n with
|zero=>intro x;rfl
|succ n ih=>intro x;simp only[cV];rw[hg _ (by omega),ih]
theorem BR(u:Nat):u &&& 15=u % 16:=Nat.and_two_pow_sub_one_eq_mod u 4
theorem BS(g:Nat->Nat)(hg:∀a,a<256->g a<=68/\g a % 16<=4)(n:Nat):∀x,(cV g n x / 16+cV g n x) &&& rep 15 n=cV (λa=>g3 (g a)) n x:=by
 induction n with
|zero=>intro x;simp[rep,cV]
|succ n ih=>
  intro x;have ha:=hg (x % 256) (by omega);have hq:cV g n (x / 256) % 16<=4:=by
   cases n with
  |zero=>simp[cV]
  |succ n=>have:=hg (x / 256 % 256) (by omega);simp only[cV];omega
  have e:cV g (n+1) x / 16+cV g (n+1) x=(g (x % 256) / 16+g (x % 256)+16*(cV g n (x / 256) % 16))+256*(cV g n (x / 256) / 16+cV g n (x / 256)):=by
   simp only[cV];omega
  rw[e,rep,and_cons _ _ _ _ (by omega) (by omega),ih,cV,BR,g3];omega
theorem wm(n:Nat):∀x,cnt x.testBit 0 (8*n)=(match n with|0=>0|n+1=>pcb (x % 256)+cnt (x / 256).testBit 0 (8*n)):=by
 intro x;cases n with
|zero=>rfl
|succ n=>
  have hx:x=x % 256+256*(x / 256):=by omega
  rw[show 8*(n+1)=8+8*n by omega,nR]
  congr 1
  ·refine ix λj hj=>?_;simp only[Nat.zero_add]
   conv=>lhs;rw[hx]
   rw[jr _ _ _ (by omega),if_pos hj]
  ·refine ix λj hj=>?_;simp only[Nat.zero_add]
   conv=>lhs;rw[hx]
   rw[jr _ _ _ (by omega),if_neg (by omega),show 8+j-8=j by omega]
theorem CJ(x a b c d e f:Nat)(ha:a=(x / 2 &&& 6148914691236517205)+(x &&& 6148914691236517205))(hb:b=(a / 4 &&& 3689348814741910323)+(a &&& 3689348814741910323))
  (hc:c=(b / 16+b) &&& 1085102592571150095) (hd:d=c+c / 256) (he:e=d+d / 65536) (hf:f=e+e / 4294967296) :
  f % 128=pc x/\c<=578721382704613384:=by
 have r1:(6148914691236517205:Nat)=rep 85 8:=by decide +kernel
 have r2:(3689348814741910323:Nat)=rep 51 8:=by decide +kernel
 have r3:(1085102592571150095:Nat)=rep 15 8:=by decide +kernel
 rw[r1,BP]at ha;rw[r2,BQ,ha,ug _ _ (λa h=>(kA ⟨a,h⟩).2.2.2.1)]at hb;rw[r3,hb,BS _ (λa h=>⟨(kA ⟨a,h⟩).2.1,(kA ⟨a,h⟩).2.2.1⟩),qX _ pcb (λa h=>(kA ⟨a,h⟩).1)]at hc;have hp:pc x=pcb (x % 256)+(pcb (x / 256 % 256)+(pcb (x / 256 / 256 % 256)+(pcb (x / 256 / 256 / 256 % 256)+(pcb (x / 256 / 256 / 256 / 256 % 256)+(pcb (x / 256 / 256 / 256 / 256 / 256 % 256)+(pcb (x / 256 / 256 / 256 / 256 / 256 / 256 % 256)+pcb (x / 256 / 256 / 256 / 256 / 256 / 256 / 256 % 256))))))):=by
  unfold pc;rw[show 64=8*8 from rfl]
  iterate 8 (rw[wm];dsimp only)
  rfl
 simp only[cV,Nat.mul_zero,Nat.add_zero]at hc;rw[hp];have k0:=(kA ⟨x % 256,by omega⟩).2.2.2.2;have k1:=(kA ⟨x / 256 % 256,by omega⟩).2.2.2.2;have k2:=(kA ⟨x / 256 / 256 % 256,by omega⟩).2.2.2.2;have k3:=(kA ⟨x / 256 / 256 / 256 % 256,by omega⟩).2.2.2.2;have k4:=(kA ⟨x / 256 / 256 / 256 / 256 % 256,by omega⟩).2.2.2.2;have k5:=(kA ⟨x / 256 / 256 / 256 / 256 / 256 % 256,by omega⟩).2.2.2.2;have k6:=(kA ⟨x / 256 / 256 / 256 / 256 / 256 / 256 % 256,by omega⟩).2.2.2.2;have k7:=(kA ⟨x / 256 / 256 / 256 / 256 / 256 / 256 / 256 % 256,by omega⟩).2.2.2.2;simp only at k0 k1 k2 k3 k4 k5 k6 k7;generalize pcb (x % 256)=c0 at *;generalize pcb (x / 256 % 256)=c1 at *;generalize pcb (x / 256 / 256 % 256)=c2 at *;generalize pcb (x / 256 / 256 / 256 % 256)=c3 at *;generalize pcb (x / 256 / 256 / 256 / 256 % 256)=c4 at *;generalize pcb (x / 256 / 256 / 256 / 256 / 256 % 256)=c5 at *;generalize pcb (x / 256 / 256 / 256 / 256 / 256 / 256 % 256)=c6 at *;generalize pcb (x / 256 / 256 / 256 / 256 / 256 / 256 / 256 % 256)=c7 at *;clear hp ha hb r1 r2 r3;have hd':d=(c0+c1)+256*(c1+c2)+65536*(c2+c3)+16777216*(c3+c4)+4294967296*(c4+c5)+1099511627776*(c5+c6)+281474976710656*(c6+c7)+72057594037927936*c7:=by omega
 clear hd;refine⟨?_,by omega⟩;clear hc;have he':e=(c0+c1+c2+c3)+256*(c1+c2+c3+c4)+65536*(c2+c3+c4+c5)+16777216*(c3+c4+c5+c6)+4294967296*(c4+c5+c6+c7)+1099511627776*(c5+c6+c7)+281474976710656*(c6+c7)+72057594037927936*c7:=by omega
 clear he hd';have hq:e / 4294967296=(c4+c5+c6+c7)+256*(c5+c6+c7)+65536*(c6+c7)+16777216*c7:=by omega
 rw[hq]at hf;clear hq;have hf':f=(c0+c1+c2+c3+c4+c5+c6+c7)+128*(2*((c1+c2+c3+c4)+(c5+c6+c7))+512*((c2+c3+c4+c5)+(c6+c7))+131072*((c3+c4+c5+c6)+c7)+33554432*(c4+c5+c6+c7)+8589934592*(c5+c6+c7)+2199023255552*(c6+c7)+562949953421312*c7):=by omega
 clear hf he';omega
theorem uh(n:Int):bits .and .i64 n 63=n % 64:=by
 have h127:(BitVec.ofInt 64 63).toNat=2 ^ 6-1:=by decide
 have key:(BitVec.ofInt 64 n &&& BitVec.ofInt 64 63).toNat=(n % ((2 ^ 64:Nat):Int)).toNat % 2 ^ 6:=by
  rw[BitVec.toNat_and,BitVec.toNat_ofInt,h127,Nat.and_two_pow_sub_one_eq_mod]
 show IntKind.i64.wrap ((BitVec.ofInt 64 n &&& BitVec.ofInt 64 63).toNat:Nat)=n % 64;rw[key,IntKind.wrap_i64];omega
theorem hY{k:Nat}(h:k<64):2 ^ k<18446744073709551616:=Nat.pow_lt_pow_of_lt (a:=2) (n:=k) (m:=64) (by decide) h
def hi(s:Nat):Nat:=18446744073709551615*2 ^ s % 18446744073709551616
def lo(s:Nat):Nat:=18446744073709551615 / 2 ^ s
theorem pz(s:Nat):hi s<18446744073709551616:=Nat.mod_lt _ (by decide)
theorem wt(s:Nat):lo s<18446744073709551616:=Nat.lt_of_le_of_lt (Nat.div_le_self _ _) (by decide)
theorem wu(s j:Nat):(hi s).testBit j=(decide (s<=j)&&decide (j<64)):=by
 unfold hi;rw[show(18446744073709551616:Nat)=2 ^ 64 from rfl,Nat.testBit_mod_two_pow,Nat.testBit_mul_two_pow,show(18446744073709551615:Nat)=2 ^ 64-1 from rfl,Nat.testBit_two_pow_sub_one];by_cases h1:s<=j <;> by_cases h2:j<64 <;> simp[h1,h2];omega
theorem ww(s j:Nat):(lo s).testBit j=decide (j+s<64):=by
 unfold lo;rw[Nat.testBit_div_two_pow,show(18446744073709551615:Nat)=2 ^ 64-1 from rfl,Nat.testBit_two_pow_sub_one]
def kV(a f t:Int)(m:Nat):Prop:=m<18446744073709551616/\∀j:Nat,j<64->m.testBit j=decide (f<=a*64+j/\a*64+j<t)
theorem yW{a f t:Int}(ht:t<(a+1)*64):kV a f t (hi (f-a*64).toNat &&& lo ((a+1)*64-t).toNat):=
 ⟨Nat.lt_of_le_of_lt Nat.and_le_left (pz _),λj hj=>by
  rw[Nat.testBit_and,wu,ww];by_cases h1:f<=a*64+j <;> by_cases h2:a*64+j<t <;> simp[h1,h2,hj] <;> omega⟩
theorem AS{a f t:Int}(ht:(a+1)*64<=t):kV a f t (hi (f-a*64).toNat):=
 ⟨pz _,λj hj=>by
  rw[wu];by_cases h1:f<=a*64+j <;> simp[h1,hj] <;> omega⟩
theorem AT{a f t:Int}(hf:f<=a*64)(ht:t<(a+1)*64):kV a f t (lo ((a+1)*64-t).toNat):=
 ⟨wt _,λj hj=>by
  rw[ww];by_cases h2:a*64+j<t <;> simp[h2] <;> omega⟩
theorem wA{a f t:Int}(hf:f<=a*64)(ht:(a+1)*64<=t):kV a f t 18446744073709551615:=
 ⟨by decide,λj hj=>by
  rw[show(18446744073709551615:Nat)=2 ^ 64-1 from rfl,Nat.testBit_two_pow_sub_one];simp[hj];omega⟩
theorem wB(s:Nat):IntKind.u64.wrap (18446744073709551615*2 ^ s)=((hi s:Nat):Int):=by
 rw[IntKind.wrap_u64];unfold hi;simp
theorem wC(s:Nat):(18446744073709551615:Int) / 2 ^ s=((lo s:Nat):Int):=by
 unfold lo;simp
theorem ones_and(m:Nat)(h:m<18446744073709551616):18446744073709551615 &&& m=m:=by
 rw[Nat.and_comm,show(18446744073709551615:Nat)=2 ^ 64-1 from rfl,Nat.and_two_pow_sub_one_eq_mod];exact Nat.mod_eq_of_lt h
def bH(ws:List Nat)(i:Nat):Bool:=(ws.getD (i / 64) 0).testBit (i % 64)
def Words(ws:List Nat):Prop:=∀k,ws.getD k 0<18446744073709551616
theorem ui{ws:List Nat}(h:Words ws){k x:Nat}(hx:x<18446744073709551616):Words (ws.set k x):=by
 intro j;have hj:=h j;simp only[List.getD_eq_getElem?_getD,List.getElem?_set]at hj ⊢;split
 ·split <;> simp[hx]
 ·exact hj
theorem wD{ws:List Nat}{k x:Nat}(hk:k<ws.length)(i:Nat):bH (ws.set k x) i=if i / 64=k then x.testBit (i % 64) else bH ws i:=by
 unfold bH;simp only[List.getD_eq_getElem?_getD,List.getElem?_set];by_cases h:k=i / 64
 ·subst h;simp[hk]
 ·rw[if_neg h,if_neg (λe=>h e.symm)]
theorem qY{x i:Nat}:((x &&& 2 ^ i) !=0)=x.testBit i:=by
 rw[Nat.testBit,Nat.and_comm,Nat.shiftRight_eq_div_pow];rw[Nat.and_comm,nat_bit];have h2:x / 2 ^ i % 2=0\/x / 2 ^ i % 2=1:=by omega
 have hp:0<2 ^ i:=Nat.two_pow_pos _;have e:1 &&& (x / 2 ^ i)=x / 2 ^ i % 2:=by rw[Nat.and_comm];exact Nat.and_two_pow_sub_one_eq_mod _ 1
 rw[e];rcases h2 with h2|h2
 ·simp[h2]
 ·rw[h2];simp
theorem pB(x i j:Nat):(x ^^^ 2 ^ i).testBit j=if i=j then !(x.testBit j) else x.testBit j:=by
 rw[Nat.testBit_xor,Nat.testBit_two_pow];by_cases h:i=j <;> simp[h]
theorem js(x:Nat)(h0:0<x)(h:x<18446744073709551616):Lib.ctz 64 x<64/\x.testBit (Lib.ctz 64 x)=true/\∀j,j<Lib.ctz 64 x->x.testBit j=false:=by
 obtain⟨m,hm,hk⟩:=Lib.ctzFrom_spec 64 x h0 h;have hc:Lib.ctz 64 x=Lib.ctzFrom 64 x:=by unfold Lib.ctz;rw[if_neg (by omega)]
 rw[hc];generalize Lib.ctzFrom 64 x=k at *;refine⟨hk,?_,λj hj=>?_⟩
 ·rw[hm,Nat.mul_comm,Nat.testBit_mul_two_pow];simp
 ·rw[hm,Nat.mul_comm,Nat.testBit_mul_two_pow];simp;omega
theorem nS(x:Nat)(h0:0<x)(h:x<18446744073709551616)(j:Nat):(x &&& (x-1)).testBit j=(x.testBit j&&decide (j≠Lib.ctz 64 x)):=by
 obtain⟨m,hm,hk⟩:=Lib.ctzFrom_spec 64 x h0 h;have hc:Lib.ctz 64 x=Lib.ctzFrom 64 x:=by unfold Lib.ctz;rw[if_neg (by omega)]
 rw[hc];generalize Lib.ctzFrom 64 x=k at *;have hp:0<2 ^ k:=Nat.two_pow_pos _;have e:x-1=2 ^ k*(2*m)+(2 ^ k-1):=by
  rw[hm,Nat.mul_add];omega
 rw[Nat.testBit_and,e,Nat.testBit_two_pow_mul_add _ (by omega)]
 conv=>lhs;rw[hm]
 conv=>rhs;rw[hm]
 rw[Nat.mul_comm (2 ^ k) (2*m+1),Nat.testBit_mul_two_pow];by_cases h1:j<k
 ·simp[h1];omega
 ·by_cases h2:j=k
  ·subst h2;simp
  ·obtain⟨d,hd⟩:∃d,j-k=d+1:=⟨j-k-1,by omega⟩;rw[if_neg h1,hd,Nat.testBit_succ,Nat.testBit_succ];have a1:(2*m+1) / 2=m:=by omega
   have a2:2*m / 2=m:=by omega
   rw[a1,a2];have:k<=j:=by omega
   simp[h2,this]
open Go.RowKit Go.IntWalk
structure Cfg where
 (shift regions aW threads roots fo markers bP iY queue stack iZ gJ fail:Int)
structure Geo where
 (words rw cw regions aF max:Int)
def Cfg.val(c:Cfg):Value:=.agg #[.int .i64 c.shift,.int .i64 c.regions,.int .i64 c.aW,.int .i64 c.threads,.int .i64 c.roots,.int .i64 c.fo,.int .i64 c.markers,.int .i64 c.bP,.int .i64 c.iY,.int .i64 c.queue,.int .i64 c.stack,.int .i64 c.iZ,.int .i64 c.gJ,.int .i64 c.fail]
def Geo.val(g:Geo):Value:=.agg #[.int .i64 g.words,.int .i64 g.rw,.int .i64 g.cw,.int .i64 g.regions,.int .i64 g.aF,.int .i64 g.max]
def Geo.cells(g:Geo):Array Value:=#[.int .i64 g.words,.int .i64 g.rw,.int .i64 g.cw,.int .i64 g.regions,.int .i64 g.aF,.int .i64 g.max]
def Cfg.cells(c:Cfg):Array Value:=#[.int .i64 c.shift,.int .i64 c.regions,.int .i64 c.aW,.int .i64 c.threads,.int .i64 c.roots,.int .i64 c.fo,.int .i64 c.markers,.int .i64 c.bP,.int .i64 c.iY,.int .i64 c.queue,.int .i64 c.stack,.int .i64 c.iZ,.int .i64 c.gJ,.int .i64 c.fail]
structure gn(w:World)(b:Nat)(g:Geo):Prop where
 c0:w.cell? ⟨b,0,none⟩=some (.int .i64 g.words)
 c1:w.cell? ⟨b,1,none⟩=some (.int .i64 g.rw)
 c2:w.cell? ⟨b,2,none⟩=some (.int .i64 g.cw)
 c3:w.cell? ⟨b,3,none⟩=some (.int .i64 g.regions)
 c4:w.cell? ⟨b,4,none⟩=some (.int .i64 g.aF)
 c5:w.cell? ⟨b,5,none⟩=some (.int .i64 g.max)
theorem gn.of{w:World}{b:Nat}{t:TypeId}{g:Geo}(h:Blk w b t g.cells):gn w b g:=⟨h.cell 0,h.cell 1,h.cell 2,h.cell 3,h.cell 4,h.cell 5⟩
structure mD(w:World)(b:Nat)(c:Cfg):Prop where
 c0:w.cell? ⟨b,0,none⟩=some (.int .i64 c.shift)
 c1:w.cell? ⟨b,1,none⟩=some (.int .i64 c.regions)
 c2:w.cell? ⟨b,2,none⟩=some (.int .i64 c.aW)
 c3:w.cell? ⟨b,3,none⟩=some (.int .i64 c.threads)
 c4:w.cell? ⟨b,4,none⟩=some (.int .i64 c.roots)
 c5:w.cell? ⟨b,5,none⟩=some (.int .i64 c.fo)
 c6:w.cell? ⟨b,6,none⟩=some (.int .i64 c.markers)
 c7:w.cell? ⟨b,7,none⟩=some (.int .i64 c.bP)
 c8:w.cell? ⟨b,8,none⟩=some (.int .i64 c.iY)
 c9:w.cell? ⟨b,9,none⟩=some (.int .i64 c.queue)
 c10:w.cell? ⟨b,10,none⟩=some (.int .i64 c.stack)
 c11:w.cell? ⟨b,11,none⟩=some (.int .i64 c.iZ)
 c12:w.cell? ⟨b,12,none⟩=some (.int .i64 c.gJ)
 c13:w.cell? ⟨b,13,none⟩=some (.int .i64 c.fail)
theorem mD.of{w:World}{b:Nat}{t:TypeId}{c:Cfg}(h:Blk w b t c.cells):mD w b c:=⟨h.cell 0,h.cell 1,h.cell 2,h.cell 3,h.cell 4,h.cell 5,h.cell 6,h.cell 7,h.cell 8,h.cell 9,h.cell 10,h.cell 11,h.cell 12,h.cell 13⟩
def wiB(n lo hi:Int):Bool:=decide (lo<=n)&&decide (n<=hi)
theorem nT{n lo hi:Int}:wiB n lo hi=true↔lo<=n/\n<=hi:=by unfold wiB;simp
def pw(n:Int):Int:=((2 ^ n.toNat:Nat):Int)
theorem hZ(n:Int):0<pw n:=by unfold pw;exact Int.natCast_pos.2 (Nat.two_pow_pos _)
theorem ja(k:Nat):pw (k:Int)=((2 ^ k:Nat):Int):=rfl
theorem f7(k:Nat):(2:Int) ^ k=pw (k:Int):=by rw[ja,Int.natCast_pow];rfl
theorem wF{a b:Int}(h:a<=b):pw a<=pw b:=by unfold pw;exact Int.ofNat_le.2 (Nat.pow_le_pow_right (by decide) (by omega))
theorem AU{a b:Int}(ha:0<=a)(hb:0<=b):pw (a+b)=pw a*pw b:=by
 unfold pw;rw[Int.toNat_add ha hb,Nat.pow_add];push_cast;rfl
def jt(c:Cfg):Bool:=wiB c.shift 6 20&&(wiB c.regions 2 65536&&(decide (c.regions<=4194304 / pw c.shift)&&wiB c.aW 3 c.shift))
def ia(c:Cfg):Bool:=
 jt c&&(wiB c.threads 1 64&&(wiB c.roots 1 64&&(wiB c.fo 0 8&&(wiB c.markers 0 8&&(wiB c.bP 1 c.regions&&(wiB c.iY 0 7&&(wiB c.queue 0 65536&&(wiB c.stack 0 65536&&(wiB c.iZ 0 4194304&&(wiB c.gJ 0 100&&wiB c.fail 0 65536))))))))))
theorem kW{c:Cfg}:jt c=true↔(6<=c.shift/\c.shift<=20)/\(2<=c.regions/\c.regions<=65536)/\c.regions<=4194304 / pw c.shift/\3<=c.aW/\c.aW<=c.shift:=by
 unfold jt;simp only[Bool.and_eq_true,nT,decide_eq_true_eq]
theorem ju{c:Cfg}(h:ia c=true):jt c=true:=by
 unfold ia at h;rw[Bool.and_eq_true]at h;exact h.1
def Cfg.geo(c:Cfg):Geo:=⟨c.regions*pw c.shift,pw c.shift,pw c.aW,c.regions,c.regions*pw c.shift / pw c.aW,min 1048576 ((c.regions-1)*pw c.shift)⟩
def Geo.zero:Geo:=⟨0,0,0,0,0,0⟩
def Cfg.ans(c:Cfg):Geo:=if ia c=true then c.geo else Geo.zero
def Cfg.err(c:Cfg):Int:=if ia c=true then 0 else 20
structure Geo.Ok(g:Geo)(s k:Nat):Prop where
 s6:6<=s
 s20:s<=20
 k3:3<=k
 ks:k<=s
 rw:g.rw=pw s
 cw:g.cw=pw k
 r2:2<=g.regions
 jb:g.regions<=65536
 words:g.words=g.regions*pw s
 aF:g.aF*pw k=g.words
 nU:g.words<=4194304
 max:g.max=min 1048576 ((g.regions-1)*pw s)
theorem Geo.Ok.k20{g:Geo}{s k:Nat}(h:g.Ok s k):k<=20:=Nat.le_trans h.ks h.s20
theorem Geo.Ok.wG{g:Geo}{s k:Nat}(h:g.Ok s k){r:Int}(h0:0<=r)(h1:r<g.regions):0<=r*g.rw/\r*g.rw<=4194304:=by
 rw[h.rw];have hp:=hZ s;refine⟨Int.mul_nonneg h0 (Int.le_of_lt hp),Int.le_trans (Int.mul_le_mul_of_nonneg_right (Int.le_of_lt h1) (Int.le_of_lt hp)) ?_⟩;rw[<- h.words];exact h.nU
theorem Geo.Ok.wH{g:Geo}{s k:Nat}(h:g.Ok s k):0<=g.regions:=by have:=h.r2;omega
theorem Cfg.qZ{c:Cfg}(h:jt c=true):c.geo.Ok c.shift.toNat c.aW.toNat:=by
 obtain⟨⟨h1,h2⟩,⟨h3,h4⟩,h5,h6,h7⟩:=kW.1 h;have e1:((c.shift.toNat:Nat):Int)=c.shift:=Int.toNat_of_nonneg (by omega);have e2:((c.aW.toNat:Nat):Int)=c.aW:=Int.toNat_of_nonneg (by omega);refine⟨by omega,by omega,by omega,by omega,?_,?_,h3,h4,?_,?_,?_,?_⟩
 ·rw[e1];rfl
 ·rw[e2];rfl
 ·rw[e1];rfl
 ·rw[e2];show c.regions*pw c.shift / pw c.aW*pw c.aW=c.regions*pw c.shift;have:pw c.shift=pw (c.shift-c.aW)*pw c.aW:=by rw[<- AU (by omega) (by omega)];congr 1;omega
  refine Int.ediv_mul_cancel ?_;rw[this,<- Int.mul_assoc];exact Int.dvd_mul_left _ _
 ·show c.regions*pw c.shift<=4194304;have:=Int.mul_le_mul_of_nonneg_right h5 (Int.le_of_lt (hZ c.shift));exact Int.le_trans this (Int.ediv_mul_le _ (Int.ne_of_gt (hZ _)))
 ·rw[e1];rfl
theorem Cfg.BT{c:Cfg}{s k:Nat}(hl:jt c=true)(hs:c.shift=s)(hk:c.aW=k) :
  wrap64 (c.regions*2 ^ s)=c.regions*pw s/\wrap64 (2 ^ s)=pw s/\wrap64 (2 ^ k)=pw k/\wrap64 ((c.regions-1)*2 ^ s)=(c.regions-1)*pw s:=by
 have ok:=Cfg.qZ hl;have l:=kW.1 hl;rw[hs,hk]at ok;have hw:=ok.nU;rw[ok.words]at hw;have e:c.geo.regions=c.regions:=rfl;simp only[Int.toNat_natCast,e]at hw;have p1:=hZ (s:Int);have p2:=hZ (k:Int);have l1:pw (s:Int)<=pw 20:=wF (by omega);have l2:pw (k:Int)<=pw 20:=wF (by omega);have l3:pw 20=1048576:=by decide
 have h1:0<=c.regions*pw s:=Int.mul_nonneg (by omega) (by omega);have h2:0<=(c.regions-1)*pw s:=Int.mul_nonneg (by omega) (by omega);have h3:(c.regions-1)*pw s=c.regions*pw s-pw s:=by rw[Int.sub_mul,Int.one_mul]
 rw[f7,f7];exact⟨IntWalk.wrap64_in _ ⟨by omega,by omega⟩,IntWalk.wrap64_in _ ⟨by omega,by omega⟩,IntWalk.wrap64_in _ ⟨by omega,by omega⟩,IntWalk.wrap64_in _ ⟨by omega,by omega⟩⟩
theorem Cfg.yX{c:Cfg}{s k:Nat}(hl:jt c=true)(hs:c.shift=s)(hk:c.aW=k)(m:Int)(hm:m=if wrap64 ((c.regions-1)*2 ^ s)<1048576 then wrap64 ((c.regions-1)*2 ^ s) else 1048576) :
  (.agg #[.int .i64 (wrap64 (c.regions*2 ^ s)),.int .i64 (wrap64 (2 ^ s)),.int .i64 (wrap64 (2 ^ k)),.int .i64 c.regions,.int .i64 (wrap64 (c.regions*2 ^ s) / 2 ^ k),.int .i64 m]:Value)=c.geo.val:=by
 obtain⟨e1,e2,e3,e4⟩:=Cfg.BT hl hs hk;rw[e4]at hm;rw[e1,e2,e3,hm,f7,<- hs,<- hk];unfold Cfg.geo Geo.val;have:min 1048576 ((c.regions-1)*pw c.shift)=if (c.regions-1)*pw c.shift<1048576 then (c.regions-1)*pw c.shift else 1048576:=by
  split <;> omega
 rw[this]
def Geo.av(g:Geo)(a:Int):Int:=if 0<=a/\a<g.words then a / g.rw else -1
def Geo.aV(g:Geo)(a:Int):Int:=if 0<=a/\a<g.words then a / g.cw else -1
def Geo.dy(g:Geo)(a b:Int):Bool:=(decide (0<=a)&&decide (a<g.words))&&((decide (0<=b)&&decide (b<g.words))&&decide (a / g.rw≠b / g.rw))
def Geo.jS(g:Geo)(n:Int):Bool:=decide (g.rw / 2<n)
def Geo.bA(g:Geo)(n:Int):Int:=if n<1 then 0 else (n-1) / g.rw+1
theorem uj(A B s:Nat):((A ^^^ B) / 2 ^ s=0)↔A / 2 ^ s=B / 2 ^ s:=by
 rw[<- Nat.shiftRight_eq_div_pow,<- Nat.shiftRight_eq_div_pow,<- Nat.shiftRight_eq_div_pow,Nat.shiftRight_xor_distrib];refine⟨λh=>?_,λh=>by rw[h,Nat.xor_self]⟩;refine Nat.eq_of_testBit_eq λi=>?_;have:=congrArg (λx=>x.testBit i) h;simpa using this
theorem pC(a b:Nat)(ha:a<9223372036854775808)(hb:b<9223372036854775808):bits .xor .i64 (a:Int) (b:Int)=((a ^^^ b:Nat):Int):=by
 have hx:a ^^^ b<2 ^ 63:=Nat.xor_lt_two_pow (by omega) (by omega);have e:∀n:Nat,n<9223372036854775808->(BitVec.ofInt 64 (n:Int)).toNat=n:=λn hn=>by
  rw[BitVec.toNat_ofInt];omega
 show IntKind.i64.wrap ((BitVec.ofInt 64 (a:Int) ^^^ BitVec.ofInt 64 (b:Int)).toNat:Int)=_;rw[BitVec.toNat_xor,e a ha,e b hb,IntKind.wrap_i64];omega
theorem uk(a b:Int)(s:Nat)(a0:0<=a)(a1:a<9223372036854775808)(b0:0<=b)(b1:b<9223372036854775808) :
  (bits .xor .i64 a b / 2 ^ s !=0)=decide (a / pw s≠b / pw s):=by
 obtain⟨A,rfl⟩:=Da a0;obtain⟨B,rfl⟩:=Da b0;rw[pC A B (by omega) (by omega),f7,ja,<- Int.natCast_ediv,<- Int.natCast_ediv,<- Int.natCast_ediv];have h:=uj A B s;rw[Bool.eq_iff_iff,bne_iff_ne,decide_eq_true_eq,Ne,Ne,Int.natCast_eq_zero,Int.natCast_inj,h]
theorem yY(k:Nat)(h:k<64):Lib.ctz 64 (2 ^ k)=k:=by
 obtain⟨_,h2,_⟩:=js (2 ^ k) (Nat.two_pow_pos k) (hY h);rw[Nat.testBit_two_pow,decide_eq_true_eq]at h2;exact h2.symm
open Go.RowKit
structure Lr(w:World)(e:TypeId)(A:Option Addr)(n c:Nat)(G:List Nat)(xs:List Value):Prop where
 len:xs.length=n
 le:n<=c
 max:c<=maxLen
 zero:c=0->G=[]
 blk:0<c->∃g off cur,A=some ⟨g,off,none⟩/\G=[g]/\Blk w g e cur/\off+c<=cur.size/\(cur.toList.drop off).take n=xs
section
variable {w w':World}{e:TypeId}{A:Option Addr}{n c:Nat}{G F:List Nat}{xs:List Value}
theorem Lr.nil(w:World)(e:TypeId):Lr w e none 0 0 [] []:=⟨rfl,Nat.le_refl _,Nat.zero_le _,λ_=>rfl,λh=>absurd h (by decide)⟩
theorem Lr.fr(h:Lr w e A n c G xs)(hf:Fr F w w')(hd:∀g,g∈G->g∉F):Lr w' e A n c G xs:=
 ⟨h.len,h.le,h.max,h.zero,λhc=>by
  obtain⟨g,off,cur,h1,h2,h3,h4,h5⟩:=h.blk hc;exact⟨g,off,cur,h1,h2,h3.fr hf (hd g (by simp[h2])),h4,h5⟩⟩
theorem Lr.fr0(h:Lr w e A n c G xs)(hf:Fr [] w w'):Lr w' e A n c G xs:=h.fr hf (λ_ _=>by simp)
theorem Lr.alloc(h:Lr w e A n c G xs)(o:Obj):Lr (w.alloc o) e A n c G xs:=h.fr0 ((Fr.refl _ _).alloc o)
theorem Lr.form(h:Lr w e A n c G xs):(A=none/\c=0)\/∃a,A=some a:=by
 rcases Nat.eq_zero_or_pos c with h0|h0
 ·cases A with
 |none=>exact .inl ⟨rfl,h0⟩
 |some a=>exact .inr ⟨a,rfl⟩
 ·obtain⟨g,off,cur,h1,_⟩:=h.blk h0;exact .inr ⟨_,h1⟩
theorem Lr.lt(h:Lr w e A n c G xs):∀g,g∈G->g<w.heap.size:=by
 intro g hg;rcases Nat.eq_zero_or_pos c with h0|h0
 ·rw[h.zero h0]at hg;cases hg
 ·obtain⟨g',off,cur,h1,h2,h3,_⟩:=h.blk h0;rw[h2]at hg;simp at hg;exact hg ▸ h3.lt
theorem Lr.apart(h:Lr w e A n c G xs){g:Nat}{t:TypeId}{cs:Array Value}(hb:Blk w g t cs)(hne:e≠t):g∉G:=by
 intro hg;rcases Nat.eq_zero_or_pos c with h0|h0
 ·rw[h.zero h0]at hg;cases hg
 ·obtain⟨g',off,cur,h1,h2,h3,_⟩:=h.blk h0;rw[h2]at hg;simp at hg;exact Blk.apart h3 hb hne hg.symm
theorem Lr.pos(h:Lr w e A n c G xs)(hn:0<n):∃g off,A=some ⟨g,off,none⟩/\G=[g]/\g<w.heap.size/\(∀k,k<n->w.cell? ⟨g,off+k,none⟩=xs[k]?)/\(∀k,w.frozen? ⟨g,k,none⟩=false)/\∃cur,Blk w g e cur/\off+c<=cur.size:=by
 obtain⟨g,off,cur,h1,h2,h3,h4,h5⟩:=h.blk (by have:=h.le;omega);refine⟨g,off,h1,h2,h3.lt,λk hk=>?_,λk=>h3.frozen k,cur,h3,h4⟩;rw[h3.cell,<- h5,List.getElem?_take_of_lt hk,List.getElem?_drop,Array.getElem?_toList]
theorem Lr.sl(h:Lr w e A n c G xs):Sl w A n (λk=>xs.getD k undef):=λhn=>by
 obtain⟨g,off,h1,_,h2,h3,_⟩:=h.pos hn;refine⟨g,off,h1,h2,λk hk=>?_⟩;rw[h3 k hk];have:k<xs.length:=by rw[h.len];exact hk
 simp[this]
theorem Lr.read(h:Lr w e A n c G xs):0<n->∃ad,A=some ad/\∀j u,xs[j]?=some u->w.cell? (ad.add j)=some u:=λhn=>by
 obtain⟨g,off,h1,_,h2,h3,_⟩:=h.pos hn;refine⟨_,h1,λj u hu=>?_⟩;have hj:j<n:=by rw[<- h.len];exact(List.getElem?_eq_some_iff.1 hu).1
 rw[show(⟨g,off,none⟩:Addr).add j=⟨g,off+j,none⟩ from Go.WideShapes.add_plain _ _ _,h3 j hj,hu]
theorem Lr.cut(h:Lr w e A n c G xs)(k:Nat)(hk:k<=n):Lr w e (if c=k then A else A.map (·.add k)) (n-k) (c-k) (if c=k then [] else G) (xs.drop k):=by
 refine⟨by simp[h.len],by have:=h.le;omega,by have:=h.max;omega,λh0=>by rw[if_pos (by have:=h.le;omega)],λhc=>?_⟩;rw[if_neg (by omega),if_neg (by omega)];obtain⟨g,off,cur,h1,h2,h3,h4,h5⟩:=h.blk (by omega);refine⟨g,off+k,cur,?_,h2,h3,by omega,?_⟩
 ·rw[h1];simp[Go.WideShapes.add_plain]
 ·rw[<- h5,<- List.drop_drop,List.drop_take]
theorem Lr.keep(h:Lr w e A n c G xs)(k:Nat)(hk:k<=n):Lr w e A k c G (xs.take k):=by
 refine⟨by simp[h.len];omega,by have:=h.le;omega,h.max,h.zero,λhc=>?_⟩;obtain⟨g,off,cur,h1,h2,h3,h4,h5⟩:=h.blk hc;refine⟨g,off,cur,h1,h2,h3,h4,?_⟩;rw[<- h5,List.take_take]
 congr 1;omega
theorem Lr.put{g off k:Nat}(h:Lr w e (some ⟨g,off,none⟩) n c G xs)(hk:k<n)(u:Value):Lr (w.setCell ⟨g,off+k,none⟩ u) e (some ⟨g,off,none⟩) n c G (xs.set k u):=by
 refine⟨by simp[h.len],h.le,h.max,h.zero,λhc=>?_⟩;obtain⟨g',off',cur,h1,h2,h3,h4,h5⟩:=h.blk hc;have hle:=h.le;injection h1 with h1;injection h1 with h1 h1';subst h1 h1';refine⟨_,_,_,rfl,h2,h3.put (off+k) u,by simp;omega,?_⟩;rw[<- h5];apply List.ext_getElem?;intro j;rw[List.getElem?_take,List.getElem?_drop,Array.getElem?_toList,Array.getElem?_setIfInBounds,List.getElem?_set,List.getElem?_take,List.getElem?_drop,Array.getElem?_toList];by_cases hj:k=j
 ·subst hj;have h1:off+k<cur.size:=by omega
  simp[hk,h1];omega
 ·simp[hj]
theorem Lr.wI{base:Nat}{v:Value}(h:w.ownsRow base e 1 v n xs):∃A c G,v=.slice A n c/\Lr w e A n c G xs/\∀g,g∈G->base<=g:=by
 rcases nO h with⟨rfl,rfl,rfl⟩|⟨g,cap,cur,rfl,hb,h1,h2,h3,h4,h5,h6⟩
 ·exact⟨none,0,[],rfl,Lr.nil _ _,λ_ h=>by cases h⟩
 ·rcases Nat.eq_zero_or_pos cap with h0|h0
  ·refine⟨_,cap,[],rfl,⟨h6,h2,h3,λ_=>rfl,λh=>absurd h (by omega)⟩,λ_ h=>by cases h⟩
  ·exact⟨_,cap,[g],rfl,⟨h6,h2,h3,λh=>absurd h (by omega),λ_=>⟨g,0,cur,rfl,rfl,h1,by omega,by simpa using h5⟩⟩,λx hx=>by simp at hx;omega⟩
end
section
variable {P:Program}{w:World}
theorem f8(t ty e:TypeId)(i:TypeInfo)(z:Value)(bytes:Nat)(ht:P.underlying t=some (.slice e))(hi:P.info? e=some i)(hz:i.zero=some z)(hsize:i.size=1)(hby:i.bytes=bytes)(hzs:z.cells.size=1)
  {A:Option Addr}{n c:Nat}{G:List Nat}{xs:List Value} (h:Lr w e A n c G xs) {X:Option Addr}{m cx:Nat}{news:List Value} (hl:news.length=m)
  (hx:0<m->∃ad,X=some ad/\∀j u,news[j]?=some u->w.cell? (ad.add j)=some u) (h1:∀u∈news,u.oneCell'=true) (h63:n+m<=maxLen) (hb:(n+m)*bytes<=140737488355328) :
  ∃A' c' G' w',(Builtin.append_ #[t,t] ty #[.slice A n c,.slice X m cx]).run P w=.ok (.slice A' (n+m) c') w'/\Lr w' e A' (n+m) c' G' (xs++news)/\Fr G w w'/\(∀g,g∈G'->g∈G\/(g=w.heap.size/\0<m)):=by
 subst hby;rcases Nat.eq_zero_or_pos m with h0|hm
 ·subst h0;obtain rfl:news=[]:=List.eq_nil_of_length_eq_zero hl;refine⟨A,c,G,w,?_,by simpa using h,Fr.refl _ _,λg hg=>.inl hg⟩;cases X with
 |none=>exact run_append_nothing w t t ty e i ht hi A n c h.le _ (Src.ofNil w ht cx)
 |some a=>exact run_append_nothing w t t ty e i ht hi A n c h.le _ (Src.ofSlice w ht a 0 cx [] (by simp) (λj u hu=>by simp at hu) (λ_ hu=>by cases hu))
 ·obtain⟨ad,rfl,hn⟩:=hx hm;have hle:=h.le;by_cases hr:n+m<=c
  ·obtain⟨g,off,cur,rfl,rfl,hb,hsz,htk⟩:=h.blk (by omega);have hf:=run_firstCells_some (P:=P) w i.size m ad m cx news (by rw[hsize];omega) hn;have hst:=run_storeCells_at P g (off+n) e news 0 cur w hb (by omega) h1;simp only[Nat.add_zero]at hst;rw[hsize]at hf;refine⟨some ⟨g,off,none⟩,c,[g],w.setRow g (cur.toList.take (off+n)++news++cur.toList.drop (off+n+news.length)).toArray,?_,⟨by simp[h.len,hl],hr,h.max,λh=>absurd h (by omega),λ_=>⟨g,off,_,rfl,rfl,Blk.setRow hb _,?_,?_⟩⟩,Fr.setRow (by simp) _,λx hx=>.inl hx⟩
   ·simp[Builtin.append_,run_underlying ht,sizeOf,typeInfo,hi,Builtin.lenOf,hr,hsize,hf,Addr.add_lit,hst]
   ·simp;omega
   ·have e1:(cur.toList.take (off+n)).length=off+n:=by simp;omega
    rw[List.append_assoc,List.drop_append_of_le_length (by omega),List.take_append,List.take_of_length_le (by simp;omega)];have e2:((cur.toList.take (off+n)).drop off)=xs:=by
     rw[<- htk,List.drop_take];congr 1;omega
    rw[e2,h.len,show n+m-n=m by omega,List.take_append_of_le_length (by omega),List.take_of_length_le (by omega)]
  ·have hsmall:n+m<=9223372036854775807:=by simp only[maxLen]at h63;omega
   have hge:=grownCap_ge w (n+m) c e;have hcm:grownCap w (n+m) c e<=maxLen:=grownCap_le_maxLen w (n+m) c e h63;have hold:(Builtin.firstCells i.size n (.slice A n c)).run P w.drew=.ok xs.toArray w.drew:=by
    rcases Nat.eq_zero_or_pos n with hn0|hn0
    ·subst hn0;obtain rfl:xs=[]:=List.eq_nil_of_length_eq_zero h.len;cases A with
    |none=>exact run_firstCells_none w.drew i.size 0 0 c
    |some a=>exact run_firstCells_some w.drew i.size 0 a 0 c [] (by simp) (λj u hu=>by simp at hu)
    ·obtain⟨a,rfl,ha⟩:=h.read hn0;exact run_firstCells_some w.drew i.size n a n c xs (by rw[hsize,h.len];omega) (by simpa using ha)
   have hr:=run_append_grow_src (P:=P) w t t ty e i z ht hi hz A n c xs hold (.slice (some ad) m cx) m news (Src.ofSlice w ht ad m cx news (by rw[hsize];omega) hn h1) (by omega) (by omega) (growslice_fits (by omega) hb);refine⟨_,_,[w.heap.size],_,hr,⟨by simp[h.len,hl],hge,hcm,λh=>absurd h (by omega),λ_=>⟨w.heap.size,0,_,rfl,rfl,Blk.new w.drew _ _,?_,?_⟩⟩,((Fr.refl _ _).drew).alloc _,λx hx=>.inr ⟨by simpa using hx,hm⟩⟩
   ·simp[size_zeroCells,hzs,h.len,hl];omega
   ·simp only[Array.toList_append,List.drop_zero];rw[List.take_append_of_le_length (by simp[h.len,hl]),List.take_of_length_le (by simp[h.len,hl])]
theorem aS{ops:Array Oper}{rest:List Oper}{o:Oper}{a:Act}{Q:Exit->Act->World->Prop}(hgd:o.guard=none)(s x:Operand)(t:TypeId)
  (ho:o.op=.call { callee:=.builtin .append,args:=#[s,x],argTypes:=#[t,t] })
  (e:TypeId) (i:TypeInfo) (z:Value) (bytes:Nat) (ht:P.underlying t=some (.slice e)) (hi:P.info? e=some i) (hz:i.zero=some z) (hsize:i.size=1) (hby:i.bytes=bytes) (hzs:z.cells.size=1)
  {A:Option Addr}{n c:Nat}{G:List Nat}{xs:List Value} (hs:a.eval s=.slice A n c) (h:Lr w e A n c G xs) {X:Option Addr}{m cx:Nat}{news:List Value} (hxv:a.eval x=.slice X m cx) (hl:news.length=m)
  (hx:0<m->∃ad,X=some ad/\∀j u,news[j]?=some u->w.cell? (ad.add j)=some u) (h1:∀u∈news,u.oneCell'=true) (h63:n+m<=maxLen) (hb:(n+m)*bytes<=140737488355328)
  (hK:∀A' c' G' w',Hid (Lr w' e A' (n+m) c' G' (xs++news))->Hid (Fr G w w')->Hid (∀g,g∈G'->g∈G\/(g=w.heap.size/\0<m))->wpList P ops Q rest (a.put o.dst (.slice A' (n+m) c')) w'):wpList P ops Q (o::rest) a w:=by
 refine wpList_plain hgd λK hK'=>?_;obtain⟨A',c',G',w',hrun,r1,r2,r3⟩:=f8 (P:=P) t o.type e i z bytes ht hi hz hsize hby hzs h hl hx h1 h63 hb (cx:=cx);unfold Oper.wp;simp[execOp,ho,resolve,invoke,builtin,hs,hxv,hrun,Result.andThen];exact hK' _ _ (hK A' c' G' w' r1 r2 r3)
theorem nV{o:Oper}{a:Act}{K:Act->World->Prop}{Q:Exit->Act->World->Prop}(s x:Operand)(t:TypeId)
  (ho:o.op=.call { callee:=.builtin .append,args:=#[s,x],argTypes:=#[t,t] })
  (e:TypeId) (i:TypeInfo) (z:Value) (bytes:Nat) (ht:P.underlying t=some (.slice e)) (hi:P.info? e=some i) (hz:i.zero=some z) (hsize:i.size=1) (hby:i.bytes=bytes) (hzs:z.cells.size=1)
  {A:Option Addr}{n c:Nat}{G:List Nat}{xs:List Value} (hs:a.eval s=.slice A n c) (h:Lr w e A n c G xs) {X:Option Addr}{m cx:Nat}{news:List Value} (hxv:a.eval x=.slice X m cx) (hl:news.length=m)
  (hx:0<m->∃ad,X=some ad/\∀j u,news[j]?=some u->w.cell? (ad.add j)=some u) (h1:∀u∈news,u.oneCell'=true) (h63:n+m<=maxLen) (hb:(n+m)*bytes<=140737488355328)
  (hK:∀A' c' G' w',Hid (Lr w' e A' (n+m) c' G' (xs++news))->Hid (Fr G w w')->Hid (∀g,g∈G'->g∈G\/(g=w.heap.size/\0<m))->K (a.put o.dst (.slice A' (n+m) c')) w'):Oper.wp P o a w K Q:=by
 obtain⟨A',c',G',w',hrun,r1,r2,r3⟩:=f8 (P:=P) t o.type e i z bytes ht hi hz hsize hby hzs h hl hx h1 h63 hb (cx:=cx);unfold Oper.wp;simp[execOp,ho,resolve,invoke,builtin,hs,hxv,hrun,Result.andThen];exact hK A' c' G' w' r1 r2 r3
theorem fp{ops:Array Oper}{o:Oper}{a:Act}{K:Act->World->Prop}{Q:Exit->Act->World->Prop}{E:Prop}(hgd:o.guard=none)(s x:Operand)(t:TypeId)
  (ho:o.op=.call { callee:=.builtin .append,args:=#[s,x],argTypes:=#[t,t] })
  (e:TypeId) (i:TypeInfo) (z:Value) (bytes:Nat) (ht:P.underlying t=some (.slice e)) (hi:P.info? e=some i) (hz:i.zero=some z) (hsize:i.size=1) (hby:i.bytes=bytes) (hzs:z.cells.size=1)
  {A:Option Addr}{n c:Nat}{G:List Nat}{xs:List Value} (hs:a.eval s=.slice A n c) (h:Lr w e A n c G xs) {X:Option Addr}{m cx:Nat}{news:List Value} (hxv:a.eval x=.slice X m cx) (hl:news.length=m)
  (hx:0<m->∃ad,X=some ad/\∀j u,news[j]?=some u->w.cell? (ad.add j)=some u) (h1:∀u∈news,u.oneCell'=true) (h63:n+m<=maxLen) (hb:(n+m)*bytes<=140737488355328)
  (hK:∀A' c' G' w',Hid (Lr w' e A' (n+m) c' G' (xs++news))->Hid (Fr G w w')->Hid (∀g,g∈G'->g∈G\/(g=w.heap.size/\0<m))->K (a.put o.dst (.slice A' (n+m) c')) w') :
  if Region.wanted o (yielded ops a.tmps)=true then Oper.wp P o a w K Q else E:=by
 have hw:Region.wanted o (yielded ops a.tmps)=true:=by simp[Region.wanted,hgd]
 rw[if_pos hw];obtain⟨A',c',G',w',hrun,r1,r2,r3⟩:=f8 (P:=P) t o.type e i z bytes ht hi hz hsize hby hzs h hl hx h1 h63 hb (cx:=cx);unfold Oper.wp;simp[execOp,ho,resolve,invoke,builtin,hs,hxv,hrun,Result.andThen];exact hK A' c' G' w' r1 r2 r3
end
def zv(l:List Int):List Value:=l.map (Value.int .i64)
theorem q8(l:List Int):(zv l).length=l.length:=by simp[zv]
theorem gK(a b:List Int):zv (a++b)=zv a++zv b:=by simp[zv]
theorem yZ(l:List Int)(k:Nat):zv (l.take k)=(zv l).take k:=by simp[zv,List.map_take]
theorem za(l:List Int)(k:Nat):zv (l.drop k)=(zv l).drop k:=by simp[zv,List.map_drop]
theorem wJ(l:List Int):∀u∈zv l,u.oneCell'=true:=by
 intro u hu;obtain⟨x,_,rfl⟩:=List.mem_map.1 hu;rfl
theorem wK(l:List Int){k:Nat}(h:k<l.length):(zv l)[k]?=some (.int .i64 (l.getD k 0)):=by simp[zv,h]
theorem Lr.slz{w:World}{e:TypeId}{A:Option Addr}{n c:Nat}{G:List Nat}{l:List Int}(h:Lr w e A n c G (zv l)):Sl w A n (λk=>.int .i64 (l.getD k 0)):=λhn=>by
 obtain⟨g,off,h1,_,h2,h3,_⟩:=h.pos hn;refine⟨g,off,h1,h2,λk hk=>?_⟩;rw[h3 k hk,wK _ (by have:=h.len;rw[q8]at this;omega)]
theorem fq(w:World)(v:Value)(t:TypeId){b:Nat}(hb:w.heap.size=b)(w':World)(hf:Fr [] (w.alloc (.cells #[v] t)) w'):∃ad,some (⟨b,0,none⟩:Addr)=some ad/\∀j u,[v][j]?=some u->w'.cell? (ad.add j)=some u:=by
 subst hb;refine⟨_,rfl,λj u hj=>?_⟩;have hb:=(Blk.new w t #[v]).fr hf (by simp)
 match j,hj with
|0,hj=>
  simp only[List.getElem?_cons_zero,Option.some.injEq]at hj;subst hj;exact hb.cell 0
def aI(n:Nat)(f:Nat->Value):Array Value:=((List.range n).map f).toArray
def bC{α:Type}(f:Nat->α)(k:Nat)(v:α):Nat->α:=λj=>if j=k then v else f j
theorem cy{α:Type}(f:Nat->α)(k:Nat)(v:α):bC f k v k=v:=by simp[bC]
theorem da{α:Type}(f:Nat->α){k j:Nat}(v:α)(h:j≠k):bC f k v j=f j:=by simp[bC,h]
theorem dU(n:Nat)(f:Nat->Value):(aI n f).size=n:=by simp[aI]
theorem de{n:Nat}{f:Nat->Value}{k:Nat}(h:k<n):(aI n f)[k]?=some (f k):=by simp[aI,h]
theorem pD{n:Nat}{f:Nat->Value}{cs:Array Value}(hs:cs.size=n)(h:∀k,k<n->cs[k]?=some (f k)):cs=aI n f:=by
 apply Array.ext
 ·rw[hs,dU]
 ·intro i h1 h2;have a1:=h i (by omega);have a2:=de (f:=f) (show i<n by omega);rw[Array.getElem?_eq_getElem h1]at a1;rw[Array.getElem?_eq_getElem h2]at a2;exact Option.some.inj (a1.trans a2.symm)
theorem ib(n:Nat)(f:Nat->Value)(k:Nat)(v:Value):(aI n f).setIfInBounds k v=aI n (bC f k v):=by
 refine pD (by simp[dU]) λj hj=>?_;rw[Array.getElem?_setIfInBounds];unfold bC;by_cases h:k=j
 ·subst h;rw[if_pos rfl,if_pos (by rw[dU];exact hj),if_pos rfl]
 ·rw[if_neg h,if_neg (Ne.symm h),de hj]
theorem dV(n:Nat)(v:Value):aI n (λ_=>v)=(List.replicate n v).toArray:=by
 unfold aI
 congr 1
 apply List.ext_getElem <;> simp
structure Ls(ti ts:TypeId)(w:World)(tb n:Nat)(V:Nat->Value)(G:Nat->List Nat)(O:Nat->List Int):Prop where
 tab:Blk w tb ts (aI n V)
 own:∀i,i<n->∃A c,V i=.slice A (O i).length c/\Lr w ti A (O i).length c (G i) (zv (O i))
 apart:∀i j,i<n->j<n->i≠j->∀g,g∈G i->g∉G j
section
variable {ti ts:TypeId}{w w':World}{tb n:Nat}{V:Nat->Value}{G:Nat->List Nat}{O:Nat->List Int}{F:List Nat}
theorem Ls.fr(h:Ls ti ts w tb n V G O)(hf:Fr F w w')(h1:tb∉F)(h2:∀i,i<n->∀g,g∈G i->g∉F):Ls ti ts w' tb n V G O:=
 ⟨h.tab.fr hf h1,λi hi=>by
  obtain⟨A,c,e1,e2⟩:=h.own i hi;exact⟨A,c,e1,e2.fr hf (h2 i hi)⟩,h.apart⟩
theorem Ls.cw(h:Ls ti ts w tb n V G O){k:Nat}(hk:k<n):w.cell? ⟨tb,k,none⟩=some (V k):=by rw[h.tab.cell,de hk]
theorem Ls.far(h:Ls ti ts w tb n V G O)(hne:ti≠ts){k:Nat}(hk:k<n):tb∉G k:=by
 obtain⟨A,c,e1,e2⟩:=h.own k hk;exact e2.apart h.tab hne
theorem Ls.lt(h:Ls ti ts w tb n V G O){k:Nat}(hk:k<n):∀g,g∈G k->g<w.heap.size:=by
 obtain⟨A,c,e1,e2⟩:=h.own k hk;exact e2.lt
theorem Ls.put(h:Ls ti ts w tb n V G O)(hne:ti≠ts){k:Nat}(hk:k<n){A:Option Addr}{c:Nat}{G1:List Nat}{l:List Int}(hf:Fr (G k) w w')(hl:Lr w' ti A l.length c G1 (zv l))(hg:∀g,g∈G1->g∈G k\/w.heap.size<=g) :
  Ls ti ts (w'.setCell ⟨tb,k,none⟩ (.slice A l.length c)) tb n (bC V k (.slice A l.length c)) (bC G k G1) (bC O k l):=by
 have hF:Fr [tb] w' (w'.setCell ⟨tb,k,none⟩ (.slice A l.length c)):=(Fr.refl _ _).setCell (p:=⟨tb,k,none⟩) (.inl (by simp)) _;have ht:=h.tab.fr hf (h.far hne hk);refine⟨by have:=ht.put k (.slice A l.length c);rw[ib]at this;exact this,λi hi=>?_,λi j hi hj hij g hgi hgj=>?_⟩
 ·by_cases hik:i=k
  ·subst hik;rw[cy,cy,cy];refine⟨A,c,rfl,hl.fr hF λg hg1=>?_⟩;have:=hl.apart ht hne;intro h0;simp at h0;subst h0;exact this hg1
  ·rw[da _ _ hik,da _ _ hik,da _ _ hik];obtain⟨A',c',e1,e2⟩:=h.own i hi;refine⟨A',c',e1,(e2.fr hf (h.apart i k hi hk hik)).fr hF λg hg1=>?_⟩;have:=e2.apart h.tab hne;intro h0;simp at h0;subst h0;exact this hg1
 ·by_cases hik:i=k
  ·subst hik;rw[cy]at hgi;rw[da _ _ (λh=>hij h.symm)]at hgj;rcases hg g hgi with h1|h1
   ·exact h.apart i j hi hj hij g h1 hgj
   ·have:=h.lt hj g hgj;omega
  ·rw[da _ _ hik]at hgi;by_cases hjk:j=k
   ·subst hjk;rw[cy]at hgj;rcases hg g hgj with h1|h1
    ·exact h.apart i j hi hj hij g hgi h1
    ·have:=h.lt hi g hgi;omega
   ·rw[da _ _ hjk]at hgj;exact h.apart i j hi hj hij g hgi hgj
end
end Go.Gl
