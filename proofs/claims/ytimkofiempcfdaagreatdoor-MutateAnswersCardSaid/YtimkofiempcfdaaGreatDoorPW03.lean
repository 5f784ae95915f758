/- Several texts joined (pack.py): Wa Hd Lr. -/
import Derived.Test.YtimkofiempcfdaaGreatDoorPW00
import Derived.Test.YtimkofiempcfdaaGreatDoorPW02
import Derived.IntWalk
import Derived.Laws.BitsAllLaws
import Derived.Deep.AppendSrc
import Derived.Deep.Upon
set_option linter.unusedVariables false
set_option linter.unusedSimpArgs false
set_option maxRecDepth 100000
open Int renaming eq_ofNat_of_zero_le->Ed,toNat_natCast->Ee
namespace Go.Proofs.YtimkofiempcfdaaGreatDoor
open Go.RowKit Go.Gl
structure PT where
 st:Int
 rf:List Int
 dt:List Int
def PT.sz(t:PT):Nat:=1+t.rf.length+t.dt.length
structure Pl where
 c:Cfg
 n:Nat
 T:Nat->PT
 m:Nat
 H:Nat->List Int
structure PA where
 tb:Nat
 to:Nat
 tc:Nat
 tA:Option Addr
 rA:Nat->Option Addr
 rc:Nat->Nat
 dA:Nat->Option Addr
 dc:Nat->Nat
 hb:Nat
 ho:Nat
 hc:Nat
 hA:Option Addr
 lA:Nat->Option Addr
 lc:Nat->Nat
def PA.val(Q:PA)(p:Pl):Value:=.agg #[.int .i64 p.c.shift,.int .i64 p.c.regions,.int .i64 p.c.aT,.int .i64 p.c.threads,.int .i64 p.c.roots,.int .i64 p.c.di,.int .i64 p.c.markers,.int .i64 p.c.bH,.int .i64 p.c.gS,.int .i64 p.c.queue,.int .i64 p.c.stack,.int .i64 p.c.gT,.int .i64 p.c.eY,.int .i64 p.c.fail,.slice Q.tA p.n Q.tc,.slice Q.hA p.m Q.hc]
def PA.cells(Q:PA)(p:Pl):Array Value:=#[.int .i64 p.c.shift,.int .i64 p.c.regions,.int .i64 p.c.aT,.int .i64 p.c.threads,.int .i64 p.c.roots,.int .i64 p.c.di,.int .i64 p.c.markers,.int .i64 p.c.bH,.int .i64 p.c.gS,.int .i64 p.c.queue,.int .i64 p.c.stack,.int .i64 p.c.gT,.int .i64 p.c.eY,.int .i64 p.c.fail,.slice Q.tA p.n Q.tc,.slice Q.hA p.m Q.hc]
def PA.Du(Q:PA)(p:Pl)(i:Nat):Value:=.agg #[.int .i64 (p.T i).st,.slice (Q.rA i) (p.T i).rf.length (Q.rc i),.slice (Q.dA i) (p.T i).dt.length (Q.dc i)]
def PA.C0(Q:PA)(p:Pl)(i:Nat):Array Value:=#[.int .i64 (p.T i).st,.slice (Q.rA i) (p.T i).rf.length (Q.rc i),.slice (Q.dA i) (p.T i).dt.length (Q.dc i)]
structure DG(w:World)(Q:PA)(p:Pl):Prop where
 nm:p.n<=9223372036854775807
 mm:p.m<=9223372036854775807
 ta:0<p.n->Q.tA=some ⟨Q.tb,Q.to,none⟩
 t0:∀i,i<p.n->w.cell? ⟨Q.tb,Q.to+i*3,none⟩=some (.int .i64 (p.T i).st)
 t1:∀i,i<p.n->w.cell? ⟨Q.tb,Q.to+i*3+1,none⟩=some (.slice (Q.rA i) (p.T i).rf.length (Q.rc i))
 t2:∀i,i<p.n->w.cell? ⟨Q.tb,Q.to+i*3+2,none⟩=some (.slice (Q.dA i) (p.T i).dt.length (Q.dc i))
 rm:∀i,i<p.n->(p.T i).rf.length<=9223372036854775807
 dm:∀i,i<p.n->(p.T i).dt.length<=9223372036854775807
 rs:∀i,i<p.n->Sl w (Q.rA i) (p.T i).rf.length λj=>.int .i64 ((p.T i).rf.getD j 0)
 ds:∀i,i<p.n->Sl w (Q.dA i) (p.T i).dt.length λj=>.int .u64 ((p.T i).dt.getD j 0)
 dv:∀i,i<p.n->∀j,0<=(p.T i).dt.getD j 0/\(p.T i).dt.getD j 0<18446744073709551616
 ha:0<p.m->Q.hA=some ⟨Q.hb,Q.ho,none⟩
 h0:∀i,i<p.m->w.cell? ⟨Q.hb,Q.ho+i,none⟩=some (.slice (Q.lA i) (p.H i).length (Q.lc i))
 lm:∀i,i<p.m->(p.H i).length<=9223372036854775807
 ls:∀i,i<p.m->Sl w (Q.lA i) (p.H i).length λj=>.int .i64 ((p.H i).getD j 0)
section
variable {w w':World}{Q:PA}{p:Pl}
end
def rJ(l:List Int)(n:Nat):Prop:=∀r,r∈l->0<=r/\r<=(n:Int)
open Classical in
noncomputable def Dv (l:List Int) (n:Nat):Bool:=decide (rJ l n)
end Go.Proofs.YtimkofiempcfdaaGreatDoor
namespace Go.Gl
open Go.RowKit Go.IntWalk
structure Hd where
 (kind size aO age to:Int)
def Hd.val(h:Hd):Value:=.agg #[.int .i64 h.kind,.int .i64 h.size,.int .i64 h.aO,.int .i64 h.age,.int .i64 h.to]
def Hd.cells(h:Hd):Array Value:=#[.int .i64 h.kind,.int .i64 h.size,.int .i64 h.aO,.int .i64 h.age,.int .i64 h.to]
def Hd.zero:Hd:=⟨0,0,0,0,0⟩
def inB(n lo hi:Int):Bool:=decide (lo<=n)&&decide (n<=hi)
theorem gV{n lo hi:Int}:inB n lo hi=true↔lo<=n/\n<=hi:=by unfold inB;simp
theorem rK{n lo hi:Int}:inB n lo hi=false↔¬ (lo<=n/\n<=hi):=by rw[<- gV];simp
structure Hd.bQ(h:Hd):Prop where
 ways:(h.kind=0/\h.size=0/\h.aO=0/\h.age=0/\h.to=0) \/
  (h.kind=1/\(1<=h.size/\h.size<=1048576)/\(0<=h.aO/\h.aO<h.size)/\(0<=h.age/\h.age<=7)/\h.to=0) \/
  (h.kind=2/\(1<=h.size/\h.size<=1048576)/\h.aO=0/\h.age=0/\h.to=0) \/
  (h.kind=3/\(1<=h.size/\h.size<=1048576)/\h.aO=0/\h.age=0/\(0<=h.to/\h.to<4194304))
open Classical in
noncomputable def Hd.aY (h:Hd):Bool:=decide h.bQ
theorem Hd.bL{h:Hd}:h.aY=true↔h.bQ:=by unfold Hd.aY;simp
theorem Hd.uC{h:Hd}:h.aY=false↔¬ h.bQ:=by rw[<- Hd.bL];simp
def Hd.word(h:Hd):Int:=h.kind+4*h.size+8388608*(h.aO+h.to)+17592186044416*h.age
def Hd.split(w:Int):Hd:=
 ⟨w % 4,w / 4 % 2097152,if w % 4=1 then w / 8388608 % 2097152 else 0,if w % 4=1 then w / 17592186044416 % 8 else 0,if w % 4=3 then w / 8388608 % 4194304 else 0⟩
theorem Hd.bQ.back{h:Hd}(r:h.bQ):Hd.split h.word=h:=by
 obtain⟨k,s,p,a,t⟩:=h;have:=r.ways;simp only at this;unfold Hd.split Hd.word;simp only[Hd.mk.injEq];rcases this with⟨_,_,_,_,_⟩|⟨_,_,_,_,_⟩|⟨_,_,_,_,_⟩|⟨_,_,_,_,_⟩;all_goals
  have e:(k+4*s+8388608*(p+t)+17592186044416*a) % 4=k:=by omega
  rw[e];refine⟨rfl,by omega,?_,?_,?_⟩ <;> split <;> omega
noncomputable def Hd.of (w:Int):Hd:=if (Hd.split w).aY=true/\(Hd.split w).word=w then Hd.split w else Hd.zero
noncomputable def Hd.eP (w:Int):Int:=if (Hd.split w).aY=true/\(Hd.split w).word=w then 0 else 30
noncomputable def Hd.ans (h:Hd):Int:=if h.aY=true then h.word else 0
noncomputable def Hd.err (h:Hd):Int:=if h.aY=true then 0 else 3
theorem Hd.bQ.of{h:Hd}(r:h.bQ):Hd.of h.word=h/\Hd.eP h.word=0:=by
 unfold Hd.of Hd.eP;have e:=r.back;have hc:(Hd.split h.word).aY=true/\(Hd.split h.word).word=h.word:=by rw[e];exact⟨Hd.bL.2 r,rfl⟩
 rw[if_pos hc,if_pos hc];exact⟨e,rfl⟩
theorem Hd.yS(w:Int):(Hd.eP w=0/\(Hd.of w).bQ/\(Hd.of w).word=w)\/(Hd.eP w=30/\Hd.of w=Hd.zero):=by
 unfold Hd.of Hd.eP;by_cases hc:(Hd.split w).aY=true/\(Hd.split w).word=w
 ·rw[if_pos hc,if_pos hc];exact .inl ⟨rfl,Hd.bL.1 hc.1,hc.2⟩
 ·rw[if_neg hc,if_neg hc];exact .inr ⟨rfl,rfl⟩
structure kD(w:World)(b:Nat)(h:Hd):Prop where
 c0:w.cell? ⟨b,0,none⟩=some (.int .i64 h.kind)
 c1:w.cell? ⟨b,1,none⟩=some (.int .i64 h.size)
 c2:w.cell? ⟨b,2,none⟩=some (.int .i64 h.aO)
 c3:w.cell? ⟨b,3,none⟩=some (.int .i64 h.age)
 c4:w.cell? ⟨b,4,none⟩=some (.int .i64 h.to)
theorem kD.of{w:World}{b:Nat}{t:TypeId}{h:Hd}(hb:Blk w b t h.cells):kD w b h:=⟨hb.cell 0,hb.cell 1,hb.cell 2,hb.cell 3,hb.cell 4⟩
theorem kD.fr{w w':World}{b:Nat}{h:Hd}{F:List Nat}(hb:kD w b h)(hf:Fr F w w')(hF:b∉F):kD w' b h:=
 ⟨(hf.cell (ae hb.c0) hF).trans hb.c0,(hf.cell (ae hb.c1) hF).trans hb.c1,(hf.cell (ae hb.c2) hF).trans hb.c2,(hf.cell (ae hb.c3) hF).trans hb.c3,(hf.cell (ae hb.c4) hF).trans hb.c4⟩
theorem Hd.cF{w:World}{b:Nat}{t:TypeId}(h:Blk w b t Hd.zero.cells) :
  (w.cell? ⟨b,0,none⟩=some (.int .i64 0)/\w.cell? ⟨b,1,none⟩=some (.int .i64 0)/\w.cell? ⟨b,2,none⟩=some (.int .i64 0)/\w.cell? ⟨b,3,none⟩=some (.int .i64 0)/\w.cell? ⟨b,4,none⟩=some (.int .i64 0)) /\
  w.frozen? ⟨b,0,none⟩=false/\w.frozen? ⟨b,1,none⟩=false/\w.frozen? ⟨b,2,none⟩=false/\w.frozen? ⟨b,3,none⟩=false/\w.frozen? ⟨b,4,none⟩=false:=
 ⟨⟨h.cell 0,h.cell 1,h.cell 2,h.cell 3,h.cell 4⟩,h.frozen 0,h.frozen 1,h.frozen 2,h.frozen 3,h.frozen 4⟩
theorem uD(x s k:Nat)(hx:x<18446744073709551616)(hk:k<63) :
  wrap64 (bits BinOp.and IntKind.u64 ((x:Int) / 2 ^ s) (IntKind.u64.wrap (IntKind.u64.wrap (2 ^ k)-1)))=((x / 2 ^ s % 2 ^ k:Nat):Int):=by
 have hp:2 ^ k<9223372036854775808:=Nat.pow_lt_pow_of_lt (a:=2) (n:=k) (m:=63) (by decide) hk;have hp0:0<2 ^ k:=Nat.two_pow_pos _;have e0:(2:Int) ^ k=((2 ^ k:Nat):Int):=(Int.natCast_pow 2 _).symm;have e2:(x:Int) / 2 ^ s=((x / 2 ^ s:Nat):Int):=by push_cast;rfl
 have e1:IntKind.u64.wrap (IntKind.u64.wrap (2 ^ k)-1)=((2 ^ k-1:Nat):Int):=by
  rw[e0,IntKind.wrap_u64,IntKind.wrap_u64];generalize 2 ^ k=p at *;omega
 have h1:x / 2 ^ s<18446744073709551616:=Nat.lt_of_le_of_lt (Nat.div_le_self _ _) hx;rw[e1,e2,u64_and_nat _ _ h1 (by omega),Nat.and_two_pow_sub_one_eq_mod];have h2:x / 2 ^ s % 2 ^ k<2 ^ k:=Nat.mod_lt _ hp0;exact IntWalk.wrap64_in _ ⟨by omega,by omega⟩
theorem AQ{x y i:Nat}(hx:x<2 ^ i):x ||| 2 ^ i*y=x+2 ^ i*y:=by
 rw[Nat.or_comm,Nat.add_comm,Nat.two_pow_add_eq_or_of_lt hx]
theorem rL(i:Nat){x y:Nat}(hx:x<2 ^ i)(hi:2 ^ i<=18446744073709551616)(hy:2 ^ i*y<18446744073709551616) :
  bits .or .u64 (x:Int) ((2 ^ i*y:Nat):Int)=((x+2 ^ i*y:Nat):Int):=by
 rw[u64_or_nat _ _ (by omega) hy,AQ hx]
theorem gW(i:Nat){x y M:Int}(hM:M=((2 ^ i:Nat):Int))(x0:0<=x)(x1:x<M)(hm:M<=18446744073709551616)(y0:0<=y)(y1:y*M<18446744073709551616) :
  bits .or .u64 x (y*M)=x+y*M:=by
 obtain⟨X,rfl⟩:=Ed x0;obtain⟨Y,rfl⟩:=Ed y0;subst hM;have e:(Y:Int)*((2 ^ i:Nat):Int)=((2 ^ i*Y:Nat):Int):=by rw[Int.natCast_mul,Int.mul_comm]
 rw[e]at y1 ⊢;rw[rL i (by omega) (by omega) (by omega),Int.natCast_add]
theorem ir{x:Int}(x0:0<=x)(hx:x<18446744073709551616):bits .or .u64 x 0=x:=by
 obtain⟨X,rfl⟩:=Ed x0;have:=u64_or_nat X 0 (by omega) (by decide);simpa using this
theorem Hd.bQ.join{k s p a t:Int}(r:(Hd.mk k s p a t).bQ) :
  bits .or .u64 (bits .or .u64 (bits .or .u64 (bits .or .u64 k (s*4)) (p*8388608)) (a*17592186044416)) (t*8388608)=(Hd.mk k s p a t).word:=by
 have hw:=r.ways;simp only at hw;have hb:(0<=k/\k<=3)/\(0<=s/\s<=1048576)/\(0<=p/\p<1048576)/\(0<=a/\a<=7)/\(0<=t/\t<4194304)/\((p=0/\a=0)\/t=0):=by omega
 obtain⟨⟨k0,k1⟩,⟨s0,s1⟩,⟨p0,p1⟩,⟨a0,a1⟩,⟨t0,t1⟩,ht⟩:=hb;unfold Hd.word;simp only;rw[gW 2 (M:=4) (by decide) k0 (by omega) (by decide) s0 (by omega)];rcases ht with⟨rfl,rfl⟩|rfl
 ·rw[Int.zero_mul,Int.zero_mul,ir (x:=k+s*4) (by omega) (by omega),ir (x:=k+s*4) (by omega) (by omega),gW 23 (M:=8388608) (by decide) (by omega) (by omega) (by decide) t0 (by omega)];omega
 ·rw[gW 23 (M:=8388608) (by decide) (by omega) (by omega) (by decide) p0 (by omega),gW 44 (M:=17592186044416) (by decide) (by omega) (by omega) (by decide) a0 (by omega),Int.zero_mul,ir (by omega) (by omega)];omega
theorem xc{b:Bool}(h:¬ b=true):b=false:=by simpa using h
theorem Hd.ways(h:Hd) :
  (h.kind=0/\h.size=0/\h.aO=0/\h.age=0/\h.to=0/\Hid (h.aY=true))\/(h.kind=0/\¬ h.size=0/\Hid (h.aY=false))\/(h.kind=0/\h.size=0/\¬ h.aO=0/\Hid (h.aY=false))\/(h.kind=0/\h.size=0/\h.aO=0/\¬ h.age=0/\Hid (h.aY=false))\/(h.kind=0/\h.size=0/\h.aO=0/\h.age=0/\¬ h.to=0/\Hid (h.aY=false)) \/
  (h.kind=1/\inB h.size 1 1048576=true/\inB h.aO 0 (h.size-1)=true/\inB h.age 0 7=true/\h.to=0/\Hid (h.aY=true))\/(h.kind=1/\inB h.size 1 1048576=false/\Hid (h.aY=false))\/(h.kind=1/\inB h.size 1 1048576=true/\inB h.aO 0 (h.size-1)=false/\Hid (h.aY=false))\/(h.kind=1/\inB h.size 1 1048576=true/\inB h.aO 0 (h.size-1)=true/\inB h.age 0 7=false/\Hid (h.aY=false))\/(h.kind=1/\inB h.size 1 1048576=true/\inB h.aO 0 (h.size-1)=true/\inB h.age 0 7=true/\¬ h.to=0/\Hid (h.aY=false)) \/
  (h.kind=2/\inB h.size 1 1048576=true/\h.aO=0/\h.age=0/\h.to=0/\Hid (h.aY=true))\/(h.kind=2/\inB h.size 1 1048576=false/\Hid (h.aY=false))\/(h.kind=2/\inB h.size 1 1048576=true/\¬ h.aO=0/\Hid (h.aY=false))\/(h.kind=2/\inB h.size 1 1048576=true/\h.aO=0/\¬ h.age=0/\Hid (h.aY=false))\/(h.kind=2/\inB h.size 1 1048576=true/\h.aO=0/\h.age=0/\¬ h.to=0/\Hid (h.aY=false)) \/
  (h.kind=3/\inB h.size 1 1048576=true/\inB h.to 0 4194303=true/\h.aO=0/\h.age=0/\Hid (h.aY=true))\/(h.kind=3/\inB h.size 1 1048576=false/\Hid (h.aY=false))\/(h.kind=3/\inB h.size 1 1048576=true/\inB h.to 0 4194303=false/\Hid (h.aY=false))\/(h.kind=3/\inB h.size 1 1048576=true/\inB h.to 0 4194303=true/\¬ h.aO=0/\Hid (h.aY=false))\/(h.kind=3/\inB h.size 1 1048576=true/\inB h.to 0 4194303=true/\h.aO=0/\¬ h.age=0/\Hid (h.aY=false)) \/
  (¬ h.kind=0/\¬ h.kind=1/\¬ h.kind=2/\¬ h.kind=3/\Hid (h.aY=false)):=by
 unfold Hid;have H:h.bQ↔_:=⟨λr=>r.ways,λr=>⟨r⟩⟩;simp only[Hd.bL,Hd.uC];by_cases k0:h.kind=0
 ·simp only[k0,true_and,not_true,false_and,or_false,show ¬ (0:Int)=1 by decide,show ¬ (0:Int)=2 by decide,show ¬ (0:Int)=3 by decide]at H ⊢;rw[H];clear H;omega
 ·by_cases k1:h.kind=1
  ·simp only[k1,true_and,not_true,false_and,or_false,false_or,show ¬ (1:Int)=0 by decide,show ¬ (1:Int)=2 by decide,show ¬ (1:Int)=3 by decide,gV,rK]at H ⊢;rw[H];clear H;omega
  ·by_cases k2:h.kind=2
   ·simp only[k2,true_and,not_true,false_and,or_false,false_or,show ¬ (2:Int)=0 by decide,show ¬ (2:Int)=1 by decide,show ¬ (2:Int)=3 by decide,gV,rK]at H ⊢;rw[H];clear H;omega
   ·by_cases k3:h.kind=3
    ·simp only[k3,true_and,not_true,false_and,false_or,show ¬ (3:Int)=0 by decide,show ¬ (3:Int)=1 by decide,show ¬ (3:Int)=2 by decide,gV,rK]at H ⊢;rw[H];clear H;omega
    ·simp only[k0,k1,k2,k3,false_and,or_false,false_or,not_false_eq_true,true_and]at H ⊢;exact λh=>H.1 h
open Go.RowKit
theorem Hd.pS(w:Int):(Hd.eP w=30/\Hd.of w=Hd.zero)\/(Hd.eP w=0/\Hd.of w=Hd.zero)\/(Hd.eP w=0/\¬ (Hd.of w).kind=0/\(Hd.of w).bQ):=by
 rcases Hd.yS w with⟨h1,r,h2⟩|⟨h1,h2⟩
 ·by_cases hk:(Hd.of w).kind=0
  ·refine .inr (.inl ⟨h1,?_⟩);have hw:=r.ways;generalize Hd.of w=h at *;obtain⟨k,s,p,a,t⟩:=h;simp only at hk hw;unfold Hd.zero;rw[Hd.mk.injEq];omega
  ·exact .inr (.inr ⟨h1,hk,r⟩)
 ·exact .inl ⟨h1,h2⟩
noncomputable def atH (n:Nat) (f:Nat->Nat) (i:Int):Hd:=if 0<=i/\i<(n:Int) then Hd.of (f i.toNat) else Hd.zero
noncomputable def atE (n:Nat) (f:Nat->Nat) (i:Int):Int:=if 0<=i/\i<(n:Int) then (if (Hd.of (f i.toNat)).kind=0 then 30 else 0) else 2
theorem pT{n:Nat}{f:Nat->Nat}{k:Nat}(hk:k<n):atH n f (k:Int)=Hd.of (f k)/\atE n f (k:Int)=if (Hd.of (f k)).kind=0 then 30 else 0:=by
 unfold atH atE;rw[if_pos (by omega),if_pos (by omega),Ee];exact⟨rfl,rfl⟩
theorem tR(n:Nat)(f:Nat->Nat)(i:Int) :
  (∃k:Nat,i=(k:Int)/\k<n/\Hd.eP (f k)=30/\Hd.of (f k)=Hd.zero/\atH n f i=Hd.zero/\atE n f i=30) \/
  (∃k:Nat,i=(k:Int)/\k<n/\Hd.eP (f k)=0/\Hd.of (f k)=Hd.zero/\atH n f i=Hd.zero/\atE n f i=30) \/
  (∃k:Nat,i=(k:Int)/\k<n/\Hd.eP (f k)=0/\¬ (Hd.of (f k)).kind=0/\(Hd.of (f k)).bQ/\atH n f i=Hd.of (f k)/\atE n f i=0) \/
  (¬ (0<=i/\i<(n:Int))/\atH n f i=Hd.zero/\atE n f i=2):=by
 by_cases hi:0<=i/\i<(n:Int)
 ·obtain⟨k,rfl⟩:=Ed hi.1;have hk:k<n:=by omega
  obtain⟨e1,e2⟩:=pT (f:=f) hk;rcases Hd.pS (f k)with⟨h1,h2⟩|⟨h1,h2⟩|⟨h1,h2,h3⟩
  ·exact .inl ⟨k,rfl,hk,h1,h2,by rw[e1,h2],by rw[e2,h2];rfl⟩
  ·exact .inr (.inl ⟨k,rfl,hk,h1,h2,by rw[e1,h2],by rw[e2,h2];rfl⟩)
  ·exact .inr (.inr (.inl ⟨k,rfl,hk,h1,h2,h3,e1,by rw[e2,if_neg h2]⟩))
 ·exact .inr (.inr (.inr ⟨hi,by unfold atH;rw[if_neg hi],by unfold atE;rw[if_neg hi]⟩))
theorem od(n:Nat)(f:Nat->Nat)(i:Int) :
  (atE n f i=2/\¬ (0<=i/\i<(n:Int))/\atH n f i=Hd.zero)\/(atE n f i=30/\(0<=i/\i<(n:Int))/\atH n f i=Hd.zero)\/(atE n f i=0/\(0<=i/\i<(n:Int))/\¬ (atH n f i).kind=0/\(atH n f i).bQ):=by
 rcases tR n f i with⟨k,rfl,hk,h1,h2,h3,h4⟩|⟨k,rfl,hk,h1,h2,h3,h4⟩|⟨k,rfl,hk,h1,h2,h3,h4,h5⟩|⟨hi,h1,h2⟩
 ·exact .inr (.inl ⟨h4,by omega,h3⟩)
 ·exact .inr (.inl ⟨h4,by omega,h3⟩)
 ·exact .inr (.inr ⟨h5,by omega,by rw[h4];exact h2,by rw[h4];exact h3⟩)
 ·exact .inl ⟨h2,hi,h1⟩
def gv(n:Nat)(a b:Int):Int:=if 0<=a/\a<=b/\b<=(n:Int) then 0 else 2
theorem iu(n:Nat)(a b:Int):(∃A B:Nat,a=(A:Int)/\b=(B:Int)/\A<=B/\B<=n/\gv n a b=0)\/(a<0/\gv n a b=2)\/(0<=a/\b<a/\gv n a b=2)\/(0<=a/\a<=b/\(n:Int)<b/\gv n a b=2):=by
 unfold gv;by_cases h:0<=a/\a<=b/\b<=(n:Int)
 ·rw[if_pos h];exact .inl ⟨a.toNat,b.toNat,by omega,by omega,by omega,by omega,rfl⟩
 ·rw[if_neg h];omega
def bY(f:Nat->Nat)(a b:Nat):Prop:=((Hd.of (f a)).kind=1\/(Hd.of (f a)).kind=2)/\(Hd.of (f a)).size<=(b:Int)-(a:Int)
open Classical in
noncomputable def eD (f:Nat->Nat) (b:Nat):Nat->Nat->Option (List Int)
|0,a=>if a<b then none else some []
|k+1,a=>if a<b then (if bY f a b then (eD f b k (a+(Hd.of (f a)).size.toNat)).map ((a:Int)::·) else none) else some []
theorem dk{f:Nat->Nat}{b k a:Nat}(h:¬ a<b):eD f b k a=some []:=by
 cases k <;> simp[eD,h]
theorem kH{f:Nat->Nat}{b k a:Nat}(h:a<b)(hs:¬ bY f a b):eD f b k a=none:=by
 cases k <;> simp[eD,h,hs]
theorem tS{f:Nat->Nat}{b k a s:Nat}(h:a<b)(hs:bY f a b)(e:(Hd.of (f a)).size=(s:Int)):eD f b (k+1) a=(eD f b k (a+s)).map ((a:Int)::·):=by
 simp only[eD,if_pos h,if_pos hs,e,Ee]
noncomputable def da (f:Nat->Nat) (a b:Nat):Option (List Int):=eD f b (b-a) a
noncomputable def bF (n:Nat) (f:Nat->Nat) (a b:Int):List Int:=if gv n a b=0 then (da f a.toNat b.toNat).getD [] else []
noncomputable def bZ (n:Nat) (f:Nat->Nat) (a b:Int):Int:=if gv n a b=0 then (match da f a.toNat b.toNat with|some _=>0|none=>30) else 2
theorem kS{n:Nat}{f:Nat->Nat}{a b:Int}(h:gv n a b=2):bF n f a b=[]/\bZ n f a b=2:=by
 unfold bF bZ;rw[h];exact⟨rfl,rfl⟩
theorem ko{n:Nat}{f:Nat->Nat}{A B:Nat}{l:List Int}(h:gv n A B=0)(hs:da f A B=some l):bF n f A B=l/\bZ n f A B=0:=by
 unfold bF bZ;rw[h,Ee,Ee,hs];exact⟨rfl,rfl⟩
theorem pU{n:Nat}{f:Nat->Nat}{A B:Nat}(h:gv n A B=0)(hs:da f A B=none):bF n f A B=[]/\bZ n f A B=30:=by
 unfold bF bZ;rw[h,Ee,Ee,hs];exact⟨rfl,rfl⟩
structure iv(f:Nat->Nat)(O:Option (List Int))(b A:Nat)(acc:List Int):Prop where
 le:A<=b
 len:acc.length<=A
 eq:∃k,b-A<=k/\O=(eD f b k A).map (acc++·)
theorem iv.start(f:Nat->Nat){a b:Nat}(h:a<=b):iv f (da f a b) b a []:=⟨h,Nat.zero_le _,b-a,Nat.le_refl _,by simp[da]⟩
theorem iv.done{f:Nat->Nat}{O:Option (List Int)}{b A:Nat}{acc:List Int}(g:iv f O b A acc)(h:¬ A<b):O=some acc:=by
 obtain⟨k,_,e⟩:=g.eq;rw[e,dk h];simp
theorem iv.broken{f:Nat->Nat}{O:Option (List Int)}{b A:Nat}{acc:List Int}(g:iv f O b A acc)(h:A<b)(hs:¬ bY f A b):O=none:=by
 obtain⟨k,_,e⟩:=g.eq;rw[e,kH h hs];rfl
theorem iv.next{f:Nat->Nat}{O:Option (List Int)}{b A s:Nat}{acc:List Int}(g:iv f O b A acc)(h:A<b)(hs:bY f A b)(e:(Hd.of (f A)).size=(s:Int))(hs1:1<=s):iv f O b (A+s) (acc++[(A:Int)]):=by
 obtain⟨k,hk,eq⟩:=g.eq;have:=hs.2;refine⟨by omega,by have:=g.len;simp;omega,?_⟩
 match k,hk with
|0,hk=>omega
|k+1,hk=>
  refine⟨k,by omega,?_⟩;rw[eq,tS h hs e,Option.map_map]
  congr 1
  funext l
  simp
def refs(a p:Nat):List Int:=(List.range p).map λ(j:Nat)=>(a:Int)+1+(j:Int)
theorem jy(a p:Nat):(refs a p).length=p:=by simp[refs]
theorem tT{a p j:Nat}(h:j<p):(refs a p).getD j 0=(a:Int)+1+(j:Int):=by simp[refs,h]
def gw(n:Nat)(f:Nat->Nat)(i:Int):Prop:=(atH n f i).kind=1/\(atH n f i).size<=(n:Int)-i
open Classical in
noncomputable def ed (n:Nat) (f:Nat->Nat) (i:Int):List Int:=if atE n f i=0/\gw n f i then refs i.toNat (atH n f i).aO.toNat else []
open Classical in
noncomputable def fa (n:Nat) (f:Nat->Nat) (i:Int):Int:=if atE n f i=0 then (if gw n f i then 0 else 30) else atE n f i
theorem rM{n:Nat}{f:Nat->Nat}{i:Int}(h:¬ atE n f i=0):ed n f i=[]/\fa n f i=atE n f i:=by
 unfold ed fa;rw[if_neg (λx=>h x.1),if_neg h];exact⟨rfl,rfl⟩
theorem uE{n:Nat}{f:Nat->Nat}{i:Int}(h:atE n f i=0)(h2:¬ gw n f i):ed n f i=[]/\fa n f i=30:=by
 unfold ed fa;rw[if_neg (λx=>h2 x.2),if_pos h,if_neg h2];exact⟨rfl,rfl⟩
theorem kT{n:Nat}{f:Nat->Nat}{i:Int}(h:atE n f i=0)(h2:gw n f i):ed n f i=refs i.toNat (atH n f i).aO.toNat/\fa n f i=0:=by
 unfold ed fa;rw[if_pos ⟨h,h2⟩,if_pos h,if_pos h2];exact⟨rfl,rfl⟩
def iw(size aO:Int):Hd:=⟨1,size,aO,0,0⟩
def ek(size:Int):Hd:=⟨2,size,0,0,0⟩
theorem jg{size aO:Int}:(iw size aO).bQ↔(1<=size/\size<=1048576)/\0<=aO/\aO<size:=by
 refine⟨λr=>?_,λh=>⟨?_⟩⟩
 ·have:=r.ways;unfold iw at this;simp only at this;omega
 ·unfold iw;exact .inr (.inl ⟨rfl,h.1,h.2,(by simp only;omega),rfl⟩)
def BP(s:Nat):Nat:=2+4*s
def aX(s p:Nat):Nat:=1+4*s+8388608*p
theorem mU(s p:Nat):(iw (s:Int) (p:Int)).word=((aX s p:Nat):Int):=by unfold iw Hd.word aX;simp only;omega
theorem oe{s p:Nat}(h:1<=s/\s<=1048576)(hp:p<s):Hd.of ((aX s p:Nat):Int)=iw s p:=by
 have:=(jg (size:=(s:Int)) (aO:=(p:Int)).2 (by omega)).of.1;rw[mU]at this;exact this
def jh(n:Nat)(i:Int)(size:Int):Prop:=0<=i/\0<=size/\i+size<=(n:Int)
open Classical in
noncomputable def kU (n:Nat) (i size aO:Int):Int:=if (iw size aO).bQ then (if jh n i size then 0 else 2) else 3
open Classical in
noncomputable def kV (n:Nat) (f:Nat->Nat) (i size aO:Int):Nat->Nat:=
 if (iw size aO).bQ/\jh n i size then upd (aC f i.toNat size.toNat (λ_=>0)) i.toNat (aX size.toNat aO.toNat) else f
theorem uF(n:Nat)(f:Nat->Nat)(i size aO:Int) :
  (¬ (iw size aO).bQ/\kU n i size aO=3/\kV n f i size aO=f) \/
  ((iw size aO).bQ/\¬ jh n i size/\kU n i size aO=2/\kV n f i size aO=f) \/
  (∃I S P:Nat,i=(I:Int)/\size=(S:Int)/\aO=(P:Int)/\(1<=S/\S<=1048576)/\P<S/\I+S<=n/\(iw size aO).bQ/\(iw size aO).word=((aX S P:Nat):Int)/\kU n i size aO=0/\kV n f i size aO=upd (aC f I S (λ_=>0)) I (aX S P)):=by
 unfold kU kV;by_cases h1:(iw size aO).bQ
 ·by_cases h2:jh n i size
  ·refine .inr (.inr ⟨i.toNat,size.toNat,aO.toNat,?_⟩);have h3:=jg.1 h1;have h4:=h2;unfold jh at h4;have a1:i=(i.toNat:Int):=by omega
   have a2:size=(size.toNat:Int):=by omega
   have a3:aO=(aO.toNat:Int):=by omega
   refine⟨a1,a2,a3,by omega,by omega,by omega,h1,?_,by rw[if_pos h1,if_pos h2],by rw[if_pos ⟨h1,h2⟩]⟩;rw[<- mU,<- a2,<- a3]
  ·exact .inr (.inl ⟨h1,h2,by rw[if_pos h1,if_neg h2],by rw[if_neg (λx=>h2 x.2)]⟩)
 ·exact .inl ⟨h1,by rw[if_neg h1],by rw[if_neg (λx=>h1 x.1)]⟩
theorem yT{S P:Nat}(h:S<=1048576)(hp:P<S):aX S P<18446744073709551616:=by unfold aX;omega
def xd:Nat->(Nat->Nat)->Nat->Nat->(Nat->Nat)
|0,f,_,_=>f
|k+1,f,a,b=>if a<b then xd k (upd f a (BP (min (b-a) 1048576))) (a+min (b-a) 1048576) b else f
def Aq(f:Nat->Nat):Nat->List Int->Nat->Prop
|a,[],b=>a=b
|a,x::l,b=>x=(a:Int)/\∃s:Nat,1<=s/\(Hd.of (f a)).size=(s:Int)/\((Hd.of (f a)).kind=1\/(Hd.of (f a)).kind=2)/\a+s<=b/\Aq f (a+s) l b
theorem yU{n A B:Nat}(h1:A<=B)(h2:B<=n):gv n (A:Int) (B:Int)=0:=by
 unfold gv;rw[if_pos (by omega)]
theorem xe{f:Nat->Nat}{b:Nat}:∀ {k a:Nat}{l:List Int},eD f b k a=some l->l.length<=k:=by
 intro k
 induction k with
|zero=>
  intro a l h;by_cases hab:a<b
  ·simp[eD,hab]at h
  ·rw[dk hab]at h;injection h with h;subst h;simp
|succ k ih=>
  intro a l h;by_cases hab:a<b
  ·by_cases hs:bY f a b
   ·simp only[eD,if_pos hab,if_pos hs]at h;cases hr:eD f b k (a+(Hd.of (f a)).size.toNat)with
   |none=>rw[hr]at h;cases h
   |some l'=>
     rw[hr]at h;injection h with h;subst h;have:=ih hr;simp;omega
   ·rw[kH hab hs]at h;cases h
  ·rw[dk hab]at h;injection h with h;subst h;simp
theorem kW(n:Nat)(f:Nat->Nat)(a b:Int):(bF n f a b).length<=n:=by
 unfold bF;by_cases h:gv n a b=0
 ·rw[if_pos h];cases hr:da f a.toNat b.toNat with
 |none=>simp
 |some l=>
   have:=xe hr;have hb:b<=(n:Int):=by
    rcases iu n a b with⟨_,_,h1,h2,h3,h4,_⟩|h1|h1|h1 <;> omega
   simp;omega
 ·rw[if_neg h];simp
theorem yV{n I S P:Nat}(f:Nat->Nat)(hS:1<=S/\S<=1048576)(hP:P<S)(hn:I+S<=n):kU n I S P=0/\kV n f I S P=upd (aC f I S (λ_=>0)) I (aX S P):=by
 have r:(iw (S:Int) (P:Int)).bQ:=jg.2 (by omega);have m:jh n (I:Int) (S:Int):=by unfold jh;omega
 unfold kU kV;rw[if_pos r,if_pos m,if_pos ⟨r,m⟩];exact⟨rfl,rfl⟩
structure CL(F f:Nat->Nat)(b A:Nat):Prop where
 le:A<=b
 eq:∃k,b-A<=k/\F=xd k f A b
def Dw(n:Nat)(f:Nat->Nat)(a b:Int):Nat->Nat:=if gv n a b=0 then xd (b.toNat-a.toNat) f a.toNat b.toNat else f
def ji(l:List Int):List Value:=l.map (Value.int .i64)
theorem xf(a b:List Int):ji (a++b)=ji a++ji b:=by simp[ji]
def kX(n:Nat)(f:Nat->Int):Array Value:=((List.range n).map λ(k:Nat)=>Value.int .i64 (f k)).toArray
def yW(f:Nat->Int)(k:Nat)(x:Int):Nat->Int:=λj=>if j=k then x else f j
theorem jT(n:Nat)(f:Nat->Int):(kX n f).size=n:=by simp[kX]
theorem og{n:Nat}{f:Nat->Int}{k:Nat}(h:k<n):(kX n f)[k]?=some (.int .i64 (f k)):=by
 unfold kX;simp[h]
theorem kY{n:Nat}{f:Nat->Int}{cs:Array Value}(hs:cs.size=n)(h:∀k,k<n->cs[k]?=some (.int .i64 (f k))):cs=kX n f:=by
 apply Array.ext
 ·rw[hs,jT]
 ·intro i h1 h2;have a1:=h i (by omega);have a2:=og (f:=f) (show i<n by omega);rw[Array.getElem?_eq_getElem h1]at a1;rw[Array.getElem?_eq_getElem h2]at a2;exact Option.some.inj (a1.trans a2.symm)
theorem xg(n:Nat)(f:Nat->Int)(k:Nat)(x:Int):(kX n f).setIfInBounds k (.int .i64 x)=kX n (yW f k x):=by
 refine kY (by simp[jT]) λj hj=>?_;rw[Array.getElem?_setIfInBounds];unfold yW;by_cases h:k=j
 ·subst h;rw[if_pos rfl,if_pos (by rw[jT];exact hj),if_pos rfl]
 ·rw[if_neg h,if_neg (Ne.symm h),og hj]
theorem uG(n:Nat):(List.replicate n (Value.int .i64 0)).toArray=kX n (λ_=>0):=kY (by simp) λk hk=>by simp[hk]
theorem uH{l:List Int}{g:Nat->Int}(h:∀j,j<l.length->g j=l.getD j 0):kX l.length g=(ji l).toArray:=by
 refine(kY (by simp[ji]) λk hk=>?_).symm;rw[h k hk];simp[ji,hk]
theorem Fr.jz{F:List Nat}{a b:World}(h:Fr F a b){g:Nat}(hg:g∈F\/a.heap.size<=g)(u0 u1 u2 u3 u4:Value) :
  Fr F a (((((b.setCell ⟨g,0,none⟩ u0).setCell ⟨g,1,none⟩ u1).setCell ⟨g,2,none⟩ u2).setCell ⟨g,3,none⟩ u3).setCell ⟨g,4,none⟩ u4):=
 ((((h.setCell (p:=⟨g,0,none⟩) hg u0).setCell (p:=⟨g,1,none⟩) hg u1).setCell (p:=⟨g,2,none⟩) hg u2).setCell (p:=⟨g,3,none⟩) hg u3).setCell (p:=⟨g,4,none⟩) hg u4
def Own(base:Nat)(w:World)(A:Option Addr)(l:List Int):Prop:=
 0<l.length->∃b off,A=some ⟨b,off,none⟩/\base<=b/\b<w.heap.size/\∀k,k<l.length->w.cell? ⟨b,off+k,none⟩=some (.int .i64 (l.getD k 0))
theorem Own.nil(base:Nat)(w:World)(A:Option Addr):Own base w A []:=λh=>absurd h (by decide)
theorem Own.fr{F:List Nat}{base:Nat}{w w':World}{A:Option Addr}{l:List Int}(h:Own base w A l)(hf:Fr F w w')(hF:∀x,x∈F->x<base\/w.heap.size<=x):Own base w' A l:=λhn=>by
 obtain⟨b,off,h1,h2,h3,h4⟩:=h hn;refine⟨b,off,h1,h2,Nat.lt_of_lt_of_le h3 hf.size,λk hk=>(hf.cell (p:=⟨b,off+k,none⟩) h3 (λhx=>?_)).trans (h4 k hk)⟩;have:=hF _ hx;simp only at this;omega
theorem Own.low{base base':Nat}{w:World}{A:Option Addr}{l:List Int}(h:Own base w A l)(hb:base'<=base):Own base' w A l:=λhn=>by
 obtain⟨b,off,h1,h2,h3⟩:=h hn;exact⟨b,off,h1,by omega,h3⟩
theorem Own.row{w:World}{base:Nat}{e:TypeId}{v:Value}{l:List Int}(h:w.ownsRow base e 1 v l.length (ji l)):∃A c,v=.slice A l.length c/\Own base w A l:=by
 rcases tM h with⟨rfl,h0,_⟩|⟨g,cap,cur,rfl,hb0,hb,h1,_,h2,h3,h4⟩
 ·obtain rfl:l=[]:=List.eq_nil_of_length_eq_zero h0;exact⟨none,0,rfl,Own.nil _ _ _⟩
 ·refine⟨_,_,rfl,λ_=>⟨g,0,rfl,hb0,hb.lt,λk hk=>?_⟩⟩;rw[hb.cell,Nat.zero_add,<- Array.getElem?_toList];have e1:(cur.toList.take l.length)[k]?=(ji l)[k]?:=by rw[h3]
  rw[List.getElem?_take_of_lt hk]at e1;rw[e1];simp[ji,hk]
theorem Own.blk{w:World}{base g:Nat}{e:TypeId}{l:List Int}(h:Blk w g e (ji l).toArray)(hb:base<=g):Own base w (some ⟨g,0,none⟩) l:=λ_=>
 ⟨g,0,rfl,hb,h.lt,λk hk=>by
  rw[h.cell,Nat.zero_add];simp[ji,hk]⟩
structure DH(f f':Nat->Nat)(a s:Nat):Prop where
 low:∀j,j<a->f' j=f j
 high:∀j,a+s<=j->f' j=f j
structure Lr(w:World)(e:TypeId)(A:Option Addr)(n c:Nat)(G:List Nat)(xs:List Value):Prop where
 len:xs.length=n
 le:n<=c
 max:c<=maxLen
 zero:c=0->G=[]
 blk:0<c->∃g off cur,A=some ⟨g,off,none⟩/\G=[g]/\Blk w g e cur/\off+c<=cur.size/\(cur.toList.drop off).take n=xs
section
variable {w w':World}{e:TypeId}{A:Option Addr}{n c:Nat}{G F:List Nat}{xs:List Value}
theorem Lr.nil(w:World)(e:TypeId):Lr w e none 0 0 [] []:=⟨rfl,Nat.le_refl _,Nat.zero_le _,λ_=>rfl,λh=>absurd h (by decide)⟩
theorem Lr.fr(h:Lr w e A n c G xs)(hf:Fr F w w')(hd:∀g,g∈G->g∉F):Lr w' e A n c G xs:=
 ⟨h.len,h.le,h.max,h.zero,λhc=>by
  obtain⟨g,off,cur,h1,h2,h3,h4,h5⟩:=h.blk hc;exact⟨g,off,cur,h1,h2,h3.fr hf (hd g (by simp[h2])),h4,h5⟩⟩
theorem Lr.fr0(h:Lr w e A n c G xs)(hf:Fr [] w w'):Lr w' e A n c G xs:=h.fr hf (λ_ _=>by simp)
theorem Lr.alloc(h:Lr w e A n c G xs)(o:Obj):Lr (w.alloc o) e A n c G xs:=h.fr0 ((Fr.refl _ _).alloc o)
theorem Lr.form(h:Lr w e A n c G xs):(A=none/\c=0)\/∃a,A=some a:=by
 rcases Nat.eq_zero_or_pos c with h0|h0
 ·cases A with
 |none=>exact .inl ⟨rfl,h0⟩
 |some a=>exact .inr ⟨a,rfl⟩
 ·obtain⟨g,off,cur,h1,_⟩:=h.blk h0;exact .inr ⟨_,h1⟩
theorem Lr.lt(h:Lr w e A n c G xs):∀g,g∈G->g<w.heap.size:=by
 intro g hg;rcases Nat.eq_zero_or_pos c with h0|h0
 ·rw[h.zero h0]at hg;cases hg
 ·obtain⟨g',off,cur,h1,h2,h3,_⟩:=h.blk h0;rw[h2]at hg;simp at hg;exact hg ▸ h3.lt
theorem Lr.apart(h:Lr w e A n c G xs){g:Nat}{t:TypeId}{cs:Array Value}(hb:Blk w g t cs)(hne:e≠t):g∉G:=by
 intro hg;rcases Nat.eq_zero_or_pos c with h0|h0
 ·rw[h.zero h0]at hg;cases hg
 ·obtain⟨g',off,cur,h1,h2,h3,_⟩:=h.blk h0;rw[h2]at hg;simp at hg;exact Blk.apart h3 hb hne hg.symm
theorem Lr.pos(h:Lr w e A n c G xs)(hn:0<n):∃g off,A=some ⟨g,off,none⟩/\G=[g]/\g<w.heap.size/\(∀k,k<n->w.cell? ⟨g,off+k,none⟩=xs[k]?)/\(∀k,w.frozen? ⟨g,k,none⟩=false)/\∃cur,Blk w g e cur/\off+c<=cur.size:=by
 obtain⟨g,off,cur,h1,h2,h3,h4,h5⟩:=h.blk (by have:=h.le;omega);refine⟨g,off,h1,h2,h3.lt,λk hk=>?_,λk=>h3.frozen k,cur,h3,h4⟩;rw[h3.cell,<- h5,List.getElem?_take_of_lt hk,List.getElem?_drop,Array.getElem?_toList]
theorem Lr.read(h:Lr w e A n c G xs):0<n->∃ad,A=some ad/\∀j u,xs[j]?=some u->w.cell? (ad.add j)=some u:=λhn=>by
 obtain⟨g,off,h1,_,h2,h3,_⟩:=h.pos hn;refine⟨_,h1,λj u hu=>?_⟩;have hj:j<n:=by rw[<- h.len];exact(List.getElem?_eq_some_iff.1 hu).1
 rw[show(⟨g,off,none⟩:Addr).add j=⟨g,off+j,none⟩ from Go.WideShapes.add_plain _ _ _,h3 j hj,hu]
theorem Lr.cut(h:Lr w e A n c G xs)(k:Nat)(hk:k<=n):Lr w e (if c=k then A else A.map (·.add k)) (n-k) (c-k) (if c=k then [] else G) (xs.drop k):=by
 refine⟨by simp[h.len],by have:=h.le;omega,by have:=h.max;omega,λh0=>by rw[if_pos (by have:=h.le;omega)],λhc=>?_⟩;rw[if_neg (by omega),if_neg (by omega)];obtain⟨g,off,cur,h1,h2,h3,h4,h5⟩:=h.blk (by omega);refine⟨g,off+k,cur,?_,h2,h3,by omega,?_⟩
 ·rw[h1];simp[Go.WideShapes.add_plain]
 ·rw[<- h5,<- List.drop_drop,List.drop_take]
theorem Lr.keep(h:Lr w e A n c G xs)(k:Nat)(hk:k<=n):Lr w e A k c G (xs.take k):=by
 refine⟨by simp[h.len];omega,by have:=h.le;omega,h.max,h.zero,λhc=>?_⟩;obtain⟨g,off,cur,h1,h2,h3,h4,h5⟩:=h.blk hc;refine⟨g,off,cur,h1,h2,h3,h4,?_⟩;rw[<- h5,List.take_take]
 congr 1;omega
theorem Lr.put{g off k:Nat}(h:Lr w e (some ⟨g,off,none⟩) n c G xs)(hk:k<n)(u:Value):Lr (w.setCell ⟨g,off+k,none⟩ u) e (some ⟨g,off,none⟩) n c G (xs.set k u):=by
 refine⟨by simp[h.len],h.le,h.max,h.zero,λhc=>?_⟩;obtain⟨g',off',cur,h1,h2,h3,h4,h5⟩:=h.blk hc;have hle:=h.le;injection h1 with h1;injection h1 with h1 h1';subst h1 h1';refine⟨_,_,_,rfl,h2,h3.put (off+k) u,by simp;omega,?_⟩;rw[<- h5];apply List.ext_getElem?;intro j;rw[List.getElem?_take,List.getElem?_drop,Array.getElem?_toList,Array.getElem?_setIfInBounds,List.getElem?_set,List.getElem?_take,List.getElem?_drop,Array.getElem?_toList];by_cases hj:k=j
 ·subst hj;have h1:off+k<cur.size:=by omega
  simp[hk,h1];omega
 ·simp[hj]
end
section
variable {P:Program}{w:World}
theorem iY(t ty e:TypeId)(i:TypeInfo)(z:Value)(bytes:Nat)(ht:P.underlying t=some (.slice e))(hi:P.info? e=some i)(hz:i.zero=some z)(hsize:i.size=1)(hby:i.bytes=bytes)(hzs:z.cells.size=1)
  {A:Option Addr}{n c:Nat}{G:List Nat}{xs:List Value} (h:Lr w e A n c G xs) {X:Option Addr}{m cx:Nat}{news:List Value} (hl:news.length=m)
  (hx:0<m->∃ad,X=some ad/\∀j u,news[j]?=some u->w.cell? (ad.add j)=some u) (h1:∀u∈news,u.oneCell'=true) (h63:n+m<=maxLen) (hb:(n+m)*bytes<=140737488355328) :
  ∃A' c' G' w',(Builtin.append_ #[t,t] ty #[.slice A n c,.slice X m cx]).run P w=.ok (.slice A' (n+m) c') w'/\Lr w' e A' (n+m) c' G' (xs++news)/\Fr G w w'/\(∀g,g∈G'->g∈G\/(g=w.heap.size/\0<m)):=by
 subst hby;rcases Nat.eq_zero_or_pos m with h0|hm
 ·subst h0;obtain rfl:news=[]:=List.eq_nil_of_length_eq_zero hl;refine⟨A,c,G,w,?_,by simpa using h,Fr.refl _ _,λg hg=>.inl hg⟩;cases X with
 |none=>exact run_append_nothing w t t ty e i ht hi A n c h.le _ (Src.ofNil w ht cx)
 |some a=>exact run_append_nothing w t t ty e i ht hi A n c h.le _ (Src.ofSlice w ht a 0 cx [] (by simp) (λj u hu=>by simp at hu) (λ_ hu=>by cases hu))
 ·obtain⟨ad,rfl,hn⟩:=hx hm;have hle:=h.le;by_cases hr:n+m<=c
  ·obtain⟨g,off,cur,rfl,rfl,hb,hsz,htk⟩:=h.blk (by omega);have hf:=run_firstCells_some (P:=P) w i.size m ad m cx news (by rw[hsize];omega) hn;have hst:=run_storeCells_at P g (off+n) e news 0 cur w hb (by omega) h1;simp only[Nat.add_zero]at hst;rw[hsize]at hf;refine⟨some ⟨g,off,none⟩,c,[g],w.setRow g (cur.toList.take (off+n)++news++cur.toList.drop (off+n+news.length)).toArray,?_,⟨by simp[h.len,hl],hr,h.max,λh=>absurd h (by omega),λ_=>⟨g,off,_,rfl,rfl,Blk.setRow hb _,?_,?_⟩⟩,Fr.setRow (by simp) _,λx hx=>.inl hx⟩
   ·simp[Builtin.append_,run_underlying ht,sizeOf,typeInfo,hi,Builtin.lenOf,hr,hsize,hf,Addr.add_lit,hst]
   ·simp;omega
   ·have e1:(cur.toList.take (off+n)).length=off+n:=by simp;omega
    rw[List.append_assoc,List.drop_append_of_le_length (by omega),List.take_append,List.take_of_length_le (by simp;omega)];have e2:((cur.toList.take (off+n)).drop off)=xs:=by
     rw[<- htk,List.drop_take];congr 1;omega
    rw[e2,h.len,show n+m-n=m by omega,List.take_append_of_le_length (by omega),List.take_of_length_le (by omega)]
  ·have hsmall:n+m<=9223372036854775807:=by simp only[maxLen]at h63;omega
   have hge:=grownCap_ge w (n+m) c e;have hcm:grownCap w (n+m) c e<=maxLen:=grownCap_le_maxLen w (n+m) c e h63;have hold:(Builtin.firstCells i.size n (.slice A n c)).run P w.drew=.ok xs.toArray w.drew:=by
    rcases Nat.eq_zero_or_pos n with hn0|hn0
    ·subst hn0;obtain rfl:xs=[]:=List.eq_nil_of_length_eq_zero h.len;cases A with
    |none=>exact run_firstCells_none w.drew i.size 0 0 c
    |some a=>exact run_firstCells_some w.drew i.size 0 a 0 c [] (by simp) (λj u hu=>by simp at hu)
    ·obtain⟨a,rfl,ha⟩:=h.read hn0;exact run_firstCells_some w.drew i.size n a n c xs (by rw[hsize,h.len];omega) (by simpa using ha)
   have hr:=run_append_grow_src (P:=P) w t t ty e i z ht hi hz A n c xs hold (.slice (some ad) m cx) m news (Src.ofSlice w ht ad m cx news (by rw[hsize];omega) hn h1) (by omega) (by omega) (growslice_fits (by omega) hb);refine⟨_,_,[w.heap.size],_,hr,⟨by simp[h.len,hl],hge,hcm,λh=>absurd h (by omega),λ_=>⟨w.heap.size,0,_,rfl,rfl,Blk.new w.drew _ _,?_,?_⟩⟩,((Fr.refl _ _).drew).alloc _,λx hx=>.inr ⟨by simpa using hx,hm⟩⟩
   ·simp[size_zeroCells,hzs,h.len,hl];omega
   ·simp only[Array.toList_append,List.drop_zero];rw[List.take_append_of_le_length (by simp[h.len,hl]),List.take_of_length_le (by simp[h.len,hl])]
theorem aF{ops:Array Oper}{rest:List Oper}{o:Oper}{a:Act}{Q:Exit->Act->World->Prop}(hgd:o.guard=none)(s x:Operand)(t:TypeId)
  (ho:o.op=.call { callee:=.builtin .append,args:=#[s,x],argTypes:=#[t,t] })
  (e:TypeId) (i:TypeInfo) (z:Value) (bytes:Nat) (ht:P.underlying t=some (.slice e)) (hi:P.info? e=some i) (hz:i.zero=some z) (hsize:i.size=1) (hby:i.bytes=bytes) (hzs:z.cells.size=1)
  {A:Option Addr}{n c:Nat}{G:List Nat}{xs:List Value} (hs:a.eval s=.slice A n c) (h:Lr w e A n c G xs) {X:Option Addr}{m cx:Nat}{news:List Value} (hxv:a.eval x=.slice X m cx) (hl:news.length=m)
  (hx:0<m->∃ad,X=some ad/\∀j u,news[j]?=some u->w.cell? (ad.add j)=some u) (h1:∀u∈news,u.oneCell'=true) (h63:n+m<=maxLen) (hb:(n+m)*bytes<=140737488355328)
  (hK:∀A' c' G' w',Hid (Lr w' e A' (n+m) c' G' (xs++news))->Hid (Fr G w w')->Hid (∀g,g∈G'->g∈G\/(g=w.heap.size/\0<m))->wpList P ops Q rest (a.put o.dst (.slice A' (n+m) c')) w'):wpList P ops Q (o::rest) a w:=by
 refine wpList_plain hgd λK hK'=>?_;obtain⟨A',c',G',w',hrun,r1,r2,r3⟩:=iY (P:=P) t o.type e i z bytes ht hi hz hsize hby hzs h hl hx h1 h63 hb (cx:=cx);unfold Oper.wp;simp[execOp,ho,resolve,invoke,builtin,hs,hxv,hrun,Result.andThen];exact hK' _ _ (hK A' c' G' w' r1 r2 r3)
theorem fj{ops:Array Oper}{o:Oper}{a:Act}{K:Act->World->Prop}{Q:Exit->Act->World->Prop}{E:Prop}(hgd:o.guard=none)(s x:Operand)(t:TypeId)
  (ho:o.op=.call { callee:=.builtin .append,args:=#[s,x],argTypes:=#[t,t] })
  (e:TypeId) (i:TypeInfo) (z:Value) (bytes:Nat) (ht:P.underlying t=some (.slice e)) (hi:P.info? e=some i) (hz:i.zero=some z) (hsize:i.size=1) (hby:i.bytes=bytes) (hzs:z.cells.size=1)
  {A:Option Addr}{n c:Nat}{G:List Nat}{xs:List Value} (hs:a.eval s=.slice A n c) (h:Lr w e A n c G xs) {X:Option Addr}{m cx:Nat}{news:List Value} (hxv:a.eval x=.slice X m cx) (hl:news.length=m)
  (hx:0<m->∃ad,X=some ad/\∀j u,news[j]?=some u->w.cell? (ad.add j)=some u) (h1:∀u∈news,u.oneCell'=true) (h63:n+m<=maxLen) (hb:(n+m)*bytes<=140737488355328)
  (hK:∀A' c' G' w',Hid (Lr w' e A' (n+m) c' G' (xs++news))->Hid (Fr G w w')->Hid (∀g,g∈G'->g∈G\/(g=w.heap.size/\0<m))->K (a.put o.dst (.slice A' (n+m) c')) w') :
  if Region.wanted o (yielded ops a.tmps)=true then Oper.wp P o a w K Q else E:=by
 have hw:Region.wanted o (yielded ops a.tmps)=true:=by simp[Region.wanted,hgd]
 rw[if_pos hw];obtain⟨A',c',G',w',hrun,r1,r2,r3⟩:=iY (P:=P) t o.type e i z bytes ht hi hz hsize hby hzs h hl hx h1 h63 hb (cx:=cx);unfold Oper.wp;simp[execOp,ho,resolve,invoke,builtin,hs,hxv,hrun,Result.andThen];exact hK A' c' G' w' r1 r2 r3
end
def zv(l:List Int):List Value:=l.map (Value.int .i64)
theorem AR(l:List Int):(zv l).length=l.length:=by simp[zv]
theorem jU(a b:List Int):zv (a++b)=zv a++zv b:=by simp[zv]
theorem yX(l:List Int)(k:Nat):zv (l.take k)=(zv l).take k:=by simp[zv,List.map_take]
theorem yY(l:List Int)(k:Nat):zv (l.drop k)=(zv l).drop k:=by simp[zv,List.map_drop]
theorem AS(l:List Int):∀u∈zv l,u.oneCell'=true:=by
 intro u hu;obtain⟨x,_,rfl⟩:=List.mem_map.1 hu;rfl
theorem rN(l:List Int){k:Nat}(h:k<l.length):(zv l)[k]?=some (.int .i64 (l.getD k 0)):=by simp[zv,h]
theorem Lr.slz{w:World}{e:TypeId}{A:Option Addr}{n c:Nat}{G:List Nat}{l:List Int}(h:Lr w e A n c G (zv l)):Sl w A n (λk=>.int .i64 (l.getD k 0)):=λhn=>by
 obtain⟨g,off,h1,_,h2,h3,_⟩:=h.pos hn;refine⟨g,off,h1,h2,λk hk=>?_⟩;rw[h3 k hk,rN _ (by have:=h.len;rw[AR]at this;omega)]
theorem cG(w:World)(v:Value)(t:TypeId){b:Nat}(hb:w.heap.size=b)(w':World)(hf:Fr [] (w.alloc (.cells #[v] t)) w'):∃ad,some (⟨b,0,none⟩:Addr)=some ad/\∀j u,[v][j]?=some u->w'.cell? (ad.add j)=some u:=by
 subst hb;refine⟨_,rfl,λj u hj=>?_⟩;have hb:=(Blk.new w t #[v]).fr hf (by simp)
 match j,hj with
|0,hj=>
  simp only[List.getElem?_cons_zero,Option.some.injEq]at hj;subst hj;exact hb.cell 0
def aJ(n:Nat)(f:Nat->Value):Array Value:=((List.range n).map f).toArray
def bz{α:Type}(f:Nat->α)(k:Nat)(v:α):Nat->α:=λj=>if j=k then v else f j
theorem cf{α:Type}(f:Nat->α)(k:Nat)(v:α):bz f k v k=v:=by simp[bz]
theorem cN{α:Type}(f:Nat->α){k j:Nat}(v:α)(h:j≠k):bz f k v j=f j:=by simp[bz,h]
theorem gx(n:Nat)(f:Nat->Value):(aJ n f).size=n:=by simp[aJ]
theorem cg{n:Nat}{f:Nat->Value}{k:Nat}(h:k<n):(aJ n f)[k]?=some (f k):=by simp[aJ,h]
theorem pV{n:Nat}{f:Nat->Value}{cs:Array Value}(hs:cs.size=n)(h:∀k,k<n->cs[k]?=some (f k)):cs=aJ n f:=by
 apply Array.ext
 ·rw[hs,gx]
 ·intro i h1 h2;have a1:=h i (by omega);have a2:=cg (f:=f) (show i<n by omega);rw[Array.getElem?_eq_getElem h1]at a1;rw[Array.getElem?_eq_getElem h2]at a2;exact Option.some.inj (a1.trans a2.symm)
theorem gy(n:Nat)(f:Nat->Value)(k:Nat)(v:Value):(aJ n f).setIfInBounds k v=aJ n (bz f k v):=by
 refine pV (by simp[gx]) λj hj=>?_;rw[Array.getElem?_setIfInBounds];unfold bz;by_cases h:k=j
 ·subst h;rw[if_pos rfl,if_pos (by rw[gx];exact hj),if_pos rfl]
 ·rw[if_neg h,if_neg (Ne.symm h),cg hj]
theorem fl(n:Nat)(v:Value):aJ n (λ_=>v)=(List.replicate n v).toArray:=by
 unfold aJ
 congr 1
 apply List.ext_getElem <;> simp
structure Ls(ti ts:TypeId)(w:World)(tb n:Nat)(V:Nat->Value)(G:Nat->List Nat)(O:Nat->List Int):Prop where
 tab:Blk w tb ts (aJ n V)
 own:∀i,i<n->∃A c,V i=.slice A (O i).length c/\Lr w ti A (O i).length c (G i) (zv (O i))
 apart:∀i j,i<n->j<n->i≠j->∀g,g∈G i->g∉G j
section
variable {ti ts:TypeId}{w w':World}{tb n:Nat}{V:Nat->Value}{G:Nat->List Nat}{O:Nat->List Int}{F:List Nat}
theorem Ls.fr(h:Ls ti ts w tb n V G O)(hf:Fr F w w')(h1:tb∉F)(h2:∀i,i<n->∀g,g∈G i->g∉F):Ls ti ts w' tb n V G O:=
 ⟨h.tab.fr hf h1,λi hi=>by
  obtain⟨A,c,e1,e2⟩:=h.own i hi;exact⟨A,c,e1,e2.fr hf (h2 i hi)⟩,h.apart⟩
theorem Ls.cw(h:Ls ti ts w tb n V G O){k:Nat}(hk:k<n):w.cell? ⟨tb,k,none⟩=some (V k):=by rw[h.tab.cell,cg hk]
theorem Ls.far(h:Ls ti ts w tb n V G O)(hne:ti≠ts){k:Nat}(hk:k<n):tb∉G k:=by
 obtain⟨A,c,e1,e2⟩:=h.own k hk;exact e2.apart h.tab hne
theorem Ls.lt(h:Ls ti ts w tb n V G O){k:Nat}(hk:k<n):∀g,g∈G k->g<w.heap.size:=by
 obtain⟨A,c,e1,e2⟩:=h.own k hk;exact e2.lt
theorem Ls.put(h:Ls ti ts w tb n V G O)(hne:ti≠ts){k:Nat}(hk:k<n){A:Option Addr}{c:Nat}{G1:List Nat}{l:List Int}(hf:Fr (G k) w w')(hl:Lr w' ti A l.length c G1 (zv l))(hg:∀g,g∈G1->g∈G k\/w.heap.size<=g) :
  Ls ti ts (w'.setCell ⟨tb,k,none⟩ (.slice A l.length c)) tb n (bz V k (.slice A l.length c)) (bz G k G1) (bz O k l):=by
 have hF:Fr [tb] w' (w'.setCell ⟨tb,k,none⟩ (.slice A l.length c)):=(Fr.refl _ _).setCell (p:=⟨tb,k,none⟩) (.inl (by simp)) _;have ht:=h.tab.fr hf (h.far hne hk);refine⟨by have:=ht.put k (.slice A l.length c);rw[gy]at this;exact this,λi hi=>?_,λi j hi hj hij g hgi hgj=>?_⟩
 ·by_cases hik:i=k
  ·subst hik;rw[cf,cf,cf];refine⟨A,c,rfl,hl.fr hF λg hg1=>?_⟩;have:=hl.apart ht hne;intro h0;simp at h0;subst h0;exact this hg1
  ·rw[cN _ _ hik,cN _ _ hik,cN _ _ hik];obtain⟨A',c',e1,e2⟩:=h.own i hi;refine⟨A',c',e1,(e2.fr hf (h.apart i k hi hk hik)).fr hF λg hg1=>?_⟩;have:=e2.apart h.tab hne;intro h0;simp at h0;subst h0;exact this hg1
 ·by_cases hik:i=k
  ·subst hik;rw[cf]at hgi;rw[cN _ _ (λh=>hij h.symm)]at hgj;rcases hg g hgi with h1|h1
   ·exact h.apart i j hi hj hij g h1 hgj
   ·have:=h.lt hj g hgj;omega
  ·rw[cN _ _ hik]at hgi;by_cases hjk:j=k
   ·subst hjk;rw[cf]at hgj;rcases hg g hgj with h1|h1
    ·exact h.apart i j hi hj hij g hgi h1
    ·have:=h.lt hi g hgi;omega
   ·rw[cN _ _ hjk]at hgj;exact h.apart i j hi hj hij g hgi hgj
end
end Go.Gl
