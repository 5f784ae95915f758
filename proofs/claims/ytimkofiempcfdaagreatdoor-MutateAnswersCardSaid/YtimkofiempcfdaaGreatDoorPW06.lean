/- Several texts joined (pack.py): H1. -/
import Derived.Test.YtimkofiempcfdaaGreatDoorProg
import Derived.Test.YtimkofiempcfdaaGreatDoorPW03
import Derived.WalkKit
import Derived.BigQuiet
set_option linter.unusedVariables false
set_option maxHeartbeats 3200000
open Nat renaming le_refl->Eg
namespace Go.Proofs.YtimkofiempcfdaaGreatDoor
open Go.RowKit Go.Gl
theorem fU(n lo hi:Int)(w:World):Calls Tryz.prog 174 #[.int .i64 n,.int .i64 lo,.int .i64 hi] w λe w'=>e=.returned (.bool (inB n lo hi))/\w=w':=by
 go_enter Tryz.func174,Tryz.ntmps174
 go_wp2
 all_goals
  go_ret
  exact⟨aW (by unfold inB;first|(simp[*];done)|(simp;omega)),rfl⟩
theorem p9(n:Int)(w:World):Calls Tryz.prog 173 #[.int .i64 n] w λe w'=>e=.returned (.bool (inB n 1 1048576))/\w=w':=by
 go_enter Tryz.func173,Tryz.ntmps173
 go_wp2_with (go_at_call 174;refine(fU _ _ _ _).mono ?_;rintro e w' ⟨rfl,rfl⟩)
 go_ret
 exact⟨rfl,rfl⟩
theorem gE(x:Nat)(hx:x<18446744073709551616)(s k:Nat)(hs:s<64)(hk:k<63)(w:World) :
  Calls Tryz.prog 172 #[.int .u64 (x:Int),.int .u64 (s:Int),.int .u64 (k:Int)] w λe w'=>e=.returned (.int .i64 ((x / 2 ^ s % 2 ^ k:Nat):Int))/\w=w':=by
 go_enter Tryz.func172,Tryz.ntmps172
 go_wp2
 go_ret
 exact⟨bU (uD x s k hx hk),rfl⟩
theorem ng(h:Hd)(r:h.bQ)(w:World):Calls Tryz.prog 162 #[h.val] w λe w'=>e=.returned (.int .u64 h.word)/\Fr [] w w':=by
 obtain⟨k,s,p,a,t⟩:=h;have hw:=r.ways;have hb:(0<=k/\k<=3)/\(0<=s/\s<=1048576)/\(0<=p/\p<1048576)/\(0<=a/\a<=7)/\(0<=t/\t<4194304):=by simp only at hw;omega
 obtain⟨⟨k0,k1⟩,⟨s0,s1⟩,⟨p0,p1⟩,⟨a0,a1⟩,t0,t1⟩:=hb;have R:=aa r;clear hw r;unfold Hd.val;go_enter Tryz.func162,Tryz.ntmps162
 go_wp2
 go_ret
 exact⟨bU R.out.join,(Fr.refl _ _).alloc _⟩
theorem jD(h:Hd)(w:World):Calls Tryz.prog 161 #[h.val] w λe w'=>e=.returned (.bool h.aY)/\Fr [] w w':=by
 have hs:=p9 h.size;have hp:=fU h.aO 0 (h.size-1);have ha:=fU h.age 0 7;have ht:=fU h.to 0 4194303;have hw:=h.ways;obtain⟨k,s,p,a,t⟩:=h;simp only at hs hp ha ht hw;unfold Hd.val;simp only;rcases hw with⟨rfl,rfl,rfl,rfl,rfl,HR⟩|⟨rfl,h1,HR⟩|⟨rfl,rfl,h1,HR⟩|⟨rfl,rfl,rfl,h1,HR⟩|⟨rfl,rfl,rfl,rfl,h1,HR⟩|hw
 iterate 5
  ·clear hs hp ha ht;go_enter Tryz.func161,Tryz.ntmps161
   go_wp2
   go_ret
   exact⟨aW (by first|(rw[HR.out];done)|(rw[HR.out];simpa using h1)),(Fr.refl _ _).alloc _⟩
 rcases hw with⟨rfl,e1,e2,e3,rfl,HR⟩|⟨rfl,e1,HR⟩|⟨rfl,e1,e2,HR⟩|⟨rfl,e1,e2,e3,HR⟩|⟨rfl,e1,e2,e3,h1,HR⟩|hw
 iterate 5
  ·have b1:=gV (n:=s) (lo:=1) (hi:=1048576);simp only[e1,true_iff,false_iff,Bool.false_eq_true]at b1;rw[e1]at hs;try rw[e2]at hp
   try rw[e3]at ha
   have HS:=aa hs;have HP:=aa hp;have HA:=aa ha;clear hs hp ha ht e1;try clear e2
   try clear e3
   go_enter Tryz.func161,Tryz.ntmps161
   go_wp2_with (first|(go_at_call 173;refine(HS.out _).mono ?_;rintro e w' ⟨rfl,rfl⟩)|(go_at_call 174;(first|(with_reducible refine(HP.out _).mono ?_)|(with_reducible refine(HA.out _).mono ?_));rintro e w' ⟨rfl,rfl⟩))
   go_ret
   exact⟨aW (by first|(rw[HR.out];done)|(rw[HR.out];simpa using h1)),(Fr.refl _ _).alloc _⟩
 rcases hw with⟨rfl,e1,rfl,rfl,rfl,HR⟩|⟨rfl,e1,HR⟩|⟨rfl,e1,e2,HR⟩|⟨rfl,e1,rfl,e3,HR⟩|⟨rfl,e1,rfl,rfl,h1,HR⟩|hw
 iterate 5
  ·have b1:=gV (n:=s) (lo:=1) (hi:=1048576);simp only[e1,true_iff,false_iff,Bool.false_eq_true]at b1;rw[e1]at hs;have HS:=aa hs;clear hs hp ha ht e1;go_enter Tryz.func161,Tryz.ntmps161
   go_wp2_with (first|(go_at_call 173;refine(HS.out _).mono ?_;rintro e w' ⟨rfl,rfl⟩))
   go_ret
   exact⟨aW (by first|(rw[HR.out];done)|(rw[HR.out];simpa using h1)),(Fr.refl _ _).alloc _⟩
 rcases hw with⟨rfl,e1,e2,rfl,rfl,HR⟩|⟨rfl,e1,HR⟩|⟨rfl,e1,e2,HR⟩|⟨rfl,e1,e2,h1,HR⟩|⟨rfl,e1,e2,rfl,h1,HR⟩|⟨h0,h1,h2,h3,HR⟩
 iterate 5
  ·have b1:=gV (n:=s) (lo:=1) (hi:=1048576);simp only[e1,true_iff,false_iff,Bool.false_eq_true]at b1;rw[e1]at hs;try rw[e2]at ht
   have HS:=aa hs;have HT:=aa ht;clear hs hp ha ht e1;try clear e2
   go_enter Tryz.func161,Tryz.ntmps161
   go_wp2_with (first|(go_at_call 173;refine(HS.out _).mono ?_;rintro e w' ⟨rfl,rfl⟩)|(go_at_call 174;(with_reducible refine(HT.out _).mono ?_);rintro e w' ⟨rfl,rfl⟩))
   go_ret
   exact⟨aW (by first|(rw[HR.out];done)|(rw[HR.out];simpa using h1)),(Fr.refl _ _).alloc _⟩
 clear hs hp ha ht;go_enter Tryz.func161,Tryz.ntmps161
 go_wp2_with fail
 go_ret
 exact⟨aW (by first|(rw[HR.out];done)|(rw[HR.out];simpa using h1)),(Fr.refl _ _).alloc _⟩
theorem Ba(x:Nat)(hx:x<18446744073709551616) :
  (∀w,Calls Tryz.prog 172 #[.int .u64 (x:Int),.int .u64 0,.int .u64 2] w λe w'=>e=.returned (.int .i64 ((x:Int) % 4))/\w=w') /\
  (∀w,Calls Tryz.prog 172 #[.int .u64 (x:Int),.int .u64 2,.int .u64 21] w λe w'=>e=.returned (.int .i64 ((x:Int) / 4 % 2097152))/\w=w') /\
  (∀w,Calls Tryz.prog 172 #[.int .u64 (x:Int),.int .u64 23,.int .u64 21] w λe w'=>e=.returned (.int .i64 ((x:Int) / 8388608 % 2097152))/\w=w') /\
  (∀w,Calls Tryz.prog 172 #[.int .u64 (x:Int),.int .u64 44,.int .u64 3] w λe w'=>e=.returned (.int .i64 ((x:Int) / 17592186044416 % 8))/\w=w') /\
  (∀w,Calls Tryz.prog 172 #[.int .u64 (x:Int),.int .u64 23,.int .u64 22] w λe w'=>e=.returned (.int .i64 ((x:Int) / 8388608 % 4194304))/\w=w'):=by
 refine⟨λw=>?_,λw=>?_,λw=>?_,λw=>?_,λw=>?_⟩
 ·have:=gE x hx 0 2 (by decide) (by decide) w;rw[show((x / 2 ^ 0 % 2 ^ 2:Nat):Int)=(x:Int) % 4 by omega]at this;exact this
 ·have:=gE x hx 2 21 (by decide) (by decide) w;rw[show((x / 2 ^ 2 % 2 ^ 21:Nat):Int)=(x:Int) / 4 % 2097152 by omega]at this;exact this
 ·have:=gE x hx 23 21 (by decide) (by decide) w;rw[show((x / 2 ^ 23 % 2 ^ 21:Nat):Int)=(x:Int) / 8388608 % 2097152 by omega]at this;exact this
 ·have:=gE x hx 44 3 (by decide) (by decide) w;rw[show((x / 2 ^ 44 % 2 ^ 3:Nat):Int)=(x:Int) / 17592186044416 % 8 by omega]at this;exact this
 ·have:=gE x hx 23 22 (by decide) (by decide) w;rw[show((x / 2 ^ 23 % 2 ^ 22:Nat):Int)=(x:Int) / 8388608 % 4194304 by omega]at this;exact this
theorem rT(x:Nat)(hx:x<18446744073709551616)(w:World) :
  Calls Tryz.prog 160 #[.int .u64 (x:Int)] w λe w'=>e=.returned (Hd.split x).val/\Fr [] w w':=by
 obtain⟨p0,p1,p2,p3,p4⟩:=Ba x hx;have hways:((x:Int) % 4=1/\Hid (Hd.split x=⟨1,(x:Int) / 4 % 2097152,(x:Int) / 8388608 % 2097152,(x:Int) / 17592186044416 % 8,0⟩))\/((x:Int) % 4=3/\Hid (Hd.split x=⟨3,(x:Int) / 4 % 2097152,0,0,(x:Int) / 8388608 % 4194304⟩)) \/
   (∃k,(x:Int) % 4=k/\¬ k=1/\¬ k=3/\Hid (Hd.split x=⟨k,(x:Int) / 4 % 2097152,0,0,0⟩)):=by
  unfold Hid Hd.split;by_cases h1:(x:Int) % 4=1
  ·exact .inl ⟨h1,by rw[if_pos h1,if_pos h1,if_neg (by omega),h1]⟩
  ·by_cases h3:(x:Int) % 4=3
   ·exact .inr (.inl ⟨h3,by rw[if_neg h1,if_neg h1,if_pos h3,h3]⟩)
   ·exact .inr (.inr ⟨_,rfl,h1,h3,by rw[if_neg h1,if_neg h1,if_neg h3]⟩)
 generalize (x:Int) / 4 % 2097152=s at *;generalize (x:Int) / 8388608 % 2097152=p at *;generalize (x:Int) / 17592186044416 % 8=a at *;generalize (x:Int) / 8388608 % 4194304=t at *;rcases hways with⟨h1,HR⟩|⟨h1,HR⟩|⟨k,h1,n1,n3,HR⟩;all_goals
  rw[h1]at p0;have P0:=aa p0;have P1:=aa p1;have P2:=aa p2;have P3:=aa p3;have P4:=aa p4;clear p0 p1 p2 p3 p4 h1;go_enter Tryz.func160,Tryz.ntmps160
  go_wp2_with (go_at_call 172;(first|(with_reducible refine(P0.out _).mono ?_)|(with_reducible refine(P1.out _).mono ?_)|(with_reducible refine(P2.out _).mono ?_)|(with_reducible refine(P3.out _).mono ?_)|(with_reducible refine(P4.out _).mono ?_));rintro e w' ⟨rfl,rfl⟩)
 ·refine bodyPost_ret (v:=.agg #[.int .i64 1,.int .i64 s,.int .i64 p,.int .i64 a,.int .i64 0]) (by simp[results,Tryz.results160,go_sem]) rfl ⟨?_,?_⟩
  ·rw[HR.out];rfl
  ·exact((Fr.refl _ _).alloc _).alloc _
 ·refine bodyPost_ret (v:=.agg #[.int .i64 3,.int .i64 s,.int .i64 0,.int .i64 0,.int .i64 t]) (by simp[results,Tryz.results160,go_sem]) rfl ⟨?_,?_⟩
  ·rw[HR.out];rfl
  ·exact((Fr.refl _ _).alloc _).alloc _
 ·refine bodyPost_ret (v:=.agg #[.int .i64 k,.int .i64 s,.int .i64 0,.int .i64 0,.int .i64 0]) (by simp[results,Tryz.results160,go_sem]) rfl ⟨?_,?_⟩
  ·rw[HR.out];rfl
  ·exact((Fr.refl _ _).alloc _).alloc _
theorem nh(h:Hd)(w:World):Calls Tryz.prog 154 #[h.val] w λe w'=>e=.returned (.tuple #[.int .u64 h.ans,.int .i64 h.err])/\Fr [] w w':=by
 have hi:=jD h;by_cases hr:h.aY=true
 ·rw[hr]at hi;have HI:=aa hi;have HJ:=aa (ng h (Hd.bL.1 hr));have HE:Hid (h.ans=h.word/\h.err=0):=by unfold Hd.ans Hd.err;rw[if_pos hr,if_pos hr];exact⟨rfl,rfl⟩
  clear hi hr;generalize h.word=x at *;have hb:∀w:World,Blk (w.alloc (.cells h.cells 129)) w.heap.size 129 h.cells:=λw=>Blk.new _ _ _;have HB:=aa hb;clear hb;unfold Hd.val;go_enter Tryz.func154,Tryz.ntmps154
  go_wp2_with fail
  refine(HI.out _).mono ?_;rintro e w1 ⟨rfl,hf⟩;obtain⟨c0,c1,c2,c3,c4⟩:=kD.of ((HB.out w).fr hf (by simp));have HF:=aa hf;clear hf;go_wp2_with fail
  refine(HJ.out _).mono ?_;rintro e w2 ⟨rfl,hf2⟩;have HF2:=aa hf2;clear hf2;go_wp2_with fail
  go_ret2
  exact⟨kL HE.out.1.symm HE.out.2.symm,(((Fr.refl _ _).alloc _).af HF.out).af HF2.out⟩
 ·rw[xc hr]at hi;have HI:=aa hi;have HE:Hid (h.ans=0/\h.err=3):=by unfold Hd.ans Hd.err;rw[if_neg hr,if_neg hr];exact⟨rfl,rfl⟩
  clear hi hr;unfold Hd.val;go_enter Tryz.func154,Tryz.ntmps154
  go_wp2_with fail
  refine(HI.out _).mono ?_;rintro e w1 ⟨rfl,hf⟩;have HF:=aa hf;clear hf;go_wp2_with fail
  go_ret2
  exact⟨kL HE.out.1.symm HE.out.2.symm,((Fr.refl _ _).alloc _).af HF.out⟩
theorem Bb(x:Int):(∃y,(Hd.split x).bQ/\(Hd.split x).aY=true/\(Hd.split x).word=y/\Hid (y=x)/\Hid (Hd.of x=Hd.split x/\Hd.eP x=0)) \/
  (∃y,(Hd.split x).bQ/\(Hd.split x).aY=true/\(Hd.split x).word=y/\Hid (¬ y=x)/\Hid (Hd.of x=Hd.zero/\Hd.eP x=30))\/((Hd.split x).aY=false/\Hid (Hd.of x=Hd.zero/\Hd.eP x=30)):=by
 unfold Hid Hd.of Hd.eP;by_cases h1:(Hd.split x).aY=true
 ·by_cases h2:(Hd.split x).word=x
  ·exact .inl ⟨_,Hd.bL.1 h1,h1,rfl,h2,by rw[if_pos ⟨h1,h2⟩,if_pos ⟨h1,h2⟩];exact⟨rfl,rfl⟩⟩
  ·exact .inr (.inl ⟨_,Hd.bL.1 h1,h1,rfl,h2,by rw[if_neg (λh=>h2 h.2),if_neg (λh=>h2 h.2)];exact⟨rfl,rfl⟩⟩)
 ·exact .inr (.inr ⟨xc h1,by rw[if_neg (λh=>h1 h.1),if_neg (λh=>h1 h.1)];exact⟨rfl,rfl⟩⟩)
theorem kt(x:Nat)(hx:x<18446744073709551616)(w:World) :
  Calls Tryz.prog 140 #[.int .u64 (x:Int)] w λe w'=>e=.returned (.tuple #[(Hd.of x).val,.int .i64 (Hd.eP x)])/\Fr [] w w':=by
 have hs:=rT x hx;have hways:=Bb x;generalize Hd.split x=h at *;have hi:=jD h;have hj:=ng h;have hB:∀(w:World) (n:Nat),w.heap.size=n->Blk (w.alloc (.cells h.cells 129)) n 129 h.cells:=λw n hn=>Blk.aV _ _ hn;rcases hways with⟨y,r,h1,h2,h3,HE⟩|⟨y,r,h1,h2,h3,HE⟩|⟨h1,HE⟩
 ·rw[h1]at hi;have HI:=aa hi;have HJ:=aa (hj r);rw[h2]at HJ;have HS:=aa hs;have HB:=aa hB;clear hi hj h1 h2 hs hB r;obtain rfl:=h3.out;clear h3;go_enter Tryz.func140,Tryz.ntmps140
  go_wp2_with fail
  refine(HS.out _).mono ?_;rintro e w1 ⟨rfl,hf1⟩;have HF1:=aa hf1;unfold Hd.val;have HZ:=aa ((Blk.new w 129 Hd.zero.cells).fr hf1 (by simp));have HL:Hid (w.heap.size<w1.heap.size):=by have:=hf1.size;simp at this;unfold Hid;omega
  clear hf1;go_wp2_with fail
  refine(HI.out _).mono ?_;rintro e w2 ⟨rfl,hf2⟩;obtain⟨c0,c1,c2,c3,c4⟩:=kD.of ((HB.out w1 _ rfl).fr hf2 (by simp));have HF2:=aa hf2;clear hf2;go_wp2_with fail
  refine(HJ.out _).mono ?_;rintro e w3 ⟨rfl,hf3⟩;obtain⟨d0,d1,d2,d3,d4⟩:=(kD.fr ⟨c0,c1,c2,c3,c4⟩ hf3 (by simp));obtain⟨⟨z0,z1,z2,z3,z4⟩,f0,f1,f2,f3,f4⟩:=Hd.cF (((HZ.out.alloc _).fr HF2.out (by simp)).fr hf3 (by simp));have HF3:=aa hf3;clear hf3 c0 c1 c2 c3 c4;go_wp2_with fail
  refine bodyPost_ret (v:=.tuple #[.agg #[.int .i64 h.kind,.int .i64 h.size,.int .i64 h.aO,.int .i64 h.age,.int .i64 h.to],.int .i64 0]) (by simp[results,Tryz.results140,go_sem, *]) rfl ⟨?_,?_⟩
  ·rw[HE.out.1,HE.out.2];rfl
  ·iterate 5 (refine Fr.setCell ?_ (.inr (Eg _)) _)
   exact(((((Fr.refl _ _).alloc _).af HF1.out).alloc _).af HF2.out).af HF3.out
 ·rw[h1]at hi;have HI:=aa hi;have HJ:=aa (hj r);rw[h2]at HJ;have HS:=aa hs;have HB:=aa hB;clear hi hj h1 h2 hs hB r;have n3:=h3.out;clear h3;go_enter Tryz.func140,Tryz.ntmps140
  go_wp2_with fail
  refine(HS.out _).mono ?_;rintro e w1 ⟨rfl,hf1⟩;have HF1:=aa hf1;unfold Hd.val;have HZ:=aa ((Blk.new w 129 Hd.zero.cells).fr hf1 (by simp));have HL:Hid (w.heap.size<w1.heap.size):=by have:=hf1.size;simp at this;unfold Hid;omega
  clear hf1;go_wp2_with fail
  refine(HI.out _).mono ?_;rintro e w2 ⟨rfl,hf2⟩;obtain⟨c0,c1,c2,c3,c4⟩:=kD.of ((HB.out w1 _ rfl).fr hf2 (by simp));have HF2:=aa hf2;clear hf2;go_wp2_with fail
  refine(HJ.out _).mono ?_;rintro e w3 ⟨rfl,hf3⟩;obtain⟨d0,d1,d2,d3,d4⟩:=(kD.fr ⟨c0,c1,c2,c3,c4⟩ hf3 (by simp));obtain⟨⟨z0,z1,z2,z3,z4⟩,f0,f1,f2,f3,f4⟩:=Hd.cF (((HZ.out.alloc _).fr HF2.out (by simp)).fr hf3 (by simp));have HF3:=aa hf3;clear hf3 c0 c1 c2 c3 c4;go_wp2_with fail
  refine bodyPost_ret (v:=.tuple #[.agg #[.int .i64 0,.int .i64 0,.int .i64 0,.int .i64 0,.int .i64 0],.int .i64 30]) (by simp[results,Tryz.results140,go_sem, *]) rfl ⟨?_,?_⟩
  ·rw[HE.out.1,HE.out.2];rfl
  ·iterate 5 (refine Fr.setCell ?_ (.inr (Eg _)) _)
   exact(((((Fr.refl _ _).alloc _).af HF1.out).alloc _).af HF2.out).af HF3.out
 ·rw[h1]at hi;have HI:=aa hi;have HS:=aa hs;have HB:=aa hB;clear hi hj h1 hs hB;go_enter Tryz.func140,Tryz.ntmps140
  go_wp2_with fail
  refine(HS.out _).mono ?_;rintro e w1 ⟨rfl,hf1⟩;have HF1:=aa hf1;unfold Hd.val;have HZ:=aa ((Blk.new w 129 Hd.zero.cells).fr hf1 (by simp));have HL:Hid (w.heap.size<w1.heap.size):=by have:=hf1.size;simp at this;unfold Hid;omega
  clear hf1;go_wp2_with fail
  refine(HI.out _).mono ?_;rintro e w2 ⟨rfl,hf2⟩;obtain⟨⟨z0,z1,z2,z3,z4⟩,f0,f1,f2,f3,f4⟩:=Hd.cF ((HZ.out.alloc _).fr hf2 (by simp));have HF2:=aa hf2;clear hf2;go_wp2_with fail
  refine bodyPost_ret (v:=.tuple #[.agg #[.int .i64 0,.int .i64 0,.int .i64 0,.int .i64 0,.int .i64 0],.int .i64 30]) (by simp[results,Tryz.results140,go_sem, *]) rfl ⟨?_,?_⟩
  ·rw[HE.out.1,HE.out.2];rfl
  ·iterate 5 (refine Fr.setCell ?_ (.inr (Eg _)) _)
   exact(((((Fr.refl _ _).alloc _).af HF1.out).alloc _).af HF2.out)
end Go.Proofs.YtimkofiempcfdaaGreatDoor
