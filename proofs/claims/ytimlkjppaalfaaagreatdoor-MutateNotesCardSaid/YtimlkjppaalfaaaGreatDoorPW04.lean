/- The package head: what each of its calls answers. -/
import Derived.Test.YtimlkjppaalfaaaGreatDoorProg
import Derived.Test.YtimlkjppaalfaaaGreatDoorPW00
import Derived.WalkKit
import Derived.BigQuiet
set_option linter.unusedVariables false
set_option maxHeartbeats 3200000
open Nat renaming le_refl->Dd
namespace Go.Proofs.YtimlkjppaalfaaaGreatDoor
open Go.RowKit Go.Gl
theorem fU(n lo hi:Int)(w:World):Calls Tryz.prog 163 #[.int .i64 n,.int .i64 lo,.int .i64 hi] w λe w'=>e=.returned (.bool (inB n lo hi))/\w=w':=by
 go_enter Tryz.func163,Tryz.ntmps163
 go_wp2
 all_goals
  go_ret
  exact⟨bd (by unfold inB;first|(simp[*];done)|(simp;omega)),rfl⟩
theorem pJ(n:Int)(w:World):Calls Tryz.prog 162 #[.int .i64 n] w λe w'=>e=.returned (.bool (inB n 1 1048576))/\w=w':=by
 go_enter Tryz.func162,Tryz.ntmps162
 go_wp2_with (go_at_call 163;refine(fU _ _ _ _).mono ?_;rintro e w' ⟨rfl,rfl⟩)
 go_ret
 exact⟨rfl,rfl⟩
theorem gv(x:Nat)(hx:x<18446744073709551616)(s k:Nat)(hs:s<64)(hk:k<63)(w:World) :
  Calls Tryz.prog 164 #[.int .u64 (x:Int),.int .u64 (s:Int),.int .u64 (k:Int)] w λe w'=>e=.returned (.int .i64 ((x / 2 ^ s % 2 ^ k:Nat):Int))/\w=w':=by
 go_enter Tryz.func164,Tryz.ntmps164
 go_wp2
 go_ret
 exact⟨bo (uc x s k hx hk),rfl⟩
theorem mN(h:Hd)(r:h.bW)(w:World):Calls Tryz.prog 152 #[h.val] w λe w'=>e=.returned (.int .u64 h.word)/\Fr [] w w':=by
 obtain⟨k,s,p,a,t⟩:=h;have hw:=r.ways;have hb:(0<=k/\k<=3)/\(0<=s/\s<=1048576)/\(0<=p/\p<1048576)/\(0<=a/\a<=7)/\(0<=t/\t<4194304):=by simp only at hw;omega
 obtain⟨⟨k0,k1⟩,⟨s0,s1⟩,⟨p0,p1⟩,⟨a0,a1⟩,t0,t1⟩:=hb;have R:=aa r;clear hw r;unfold Hd.val;go_enter Tryz.func152,Tryz.ntmps152
 go_wp2
 go_ret
 exact⟨bo R.out.join,(Fr.refl _ _).alloc _⟩
theorem jy(h:Hd)(w:World):Calls Tryz.prog 151 #[h.val] w λe w'=>e=.returned (.bool h.aZ)/\Fr [] w w':=by
 have hs:=pJ h.size;have hp:=fU h.aQ 0 (h.size-1);have ha:=fU h.age 0 7;have ht:=fU h.to 0 4194303;have hw:=h.ways;obtain⟨k,s,p,a,t⟩:=h;simp only at hs hp ha ht hw;unfold Hd.val;simp only;rcases hw with⟨rfl,rfl,rfl,rfl,rfl,HR⟩|⟨rfl,h1,HR⟩|⟨rfl,rfl,h1,HR⟩|⟨rfl,rfl,rfl,h1,HR⟩|⟨rfl,rfl,rfl,rfl,h1,HR⟩|hw
 iterate 5
  ·clear hs hp ha ht;go_enter Tryz.func151,Tryz.ntmps151
   go_wp2
   go_ret
   exact⟨bd (by first|(rw[HR.out];done)|(rw[HR.out];simpa using h1)),(Fr.refl _ _).alloc _⟩
 rcases hw with⟨rfl,e1,e2,e3,rfl,HR⟩|⟨rfl,e1,HR⟩|⟨rfl,e1,e2,HR⟩|⟨rfl,e1,e2,e3,HR⟩|⟨rfl,e1,e2,e3,h1,HR⟩|hw
 iterate 5
  ·have b1:=gG (n:=s) (lo:=1) (hi:=1048576);simp only[e1,true_iff,false_iff,Bool.false_eq_true]at b1;rw[e1]at hs;try rw[e2]at hp
   try rw[e3]at ha
   have HS:=aa hs;have HP:=aa hp;have HA:=aa ha;clear hs hp ha ht e1;try clear e2
   try clear e3
   go_enter Tryz.func151,Tryz.ntmps151
   go_wp2_with (first|(go_at_call 162;refine(HS.out _).mono ?_;rintro e w' ⟨rfl,rfl⟩)|(go_at_call 163;(first|(with_reducible refine(HP.out _).mono ?_)|(with_reducible refine(HA.out _).mono ?_));rintro e w' ⟨rfl,rfl⟩))
   go_ret
   exact⟨bd (by first|(rw[HR.out];done)|(rw[HR.out];simpa using h1)),(Fr.refl _ _).alloc _⟩
 rcases hw with⟨rfl,e1,rfl,rfl,rfl,HR⟩|⟨rfl,e1,HR⟩|⟨rfl,e1,e2,HR⟩|⟨rfl,e1,rfl,e3,HR⟩|⟨rfl,e1,rfl,rfl,h1,HR⟩|hw
 iterate 5
  ·have b1:=gG (n:=s) (lo:=1) (hi:=1048576);simp only[e1,true_iff,false_iff,Bool.false_eq_true]at b1;rw[e1]at hs;have HS:=aa hs;clear hs hp ha ht e1;go_enter Tryz.func151,Tryz.ntmps151
   go_wp2_with (first|(go_at_call 162;refine(HS.out _).mono ?_;rintro e w' ⟨rfl,rfl⟩))
   go_ret
   exact⟨bd (by first|(rw[HR.out];done)|(rw[HR.out];simpa using h1)),(Fr.refl _ _).alloc _⟩
 rcases hw with⟨rfl,e1,e2,rfl,rfl,HR⟩|⟨rfl,e1,HR⟩|⟨rfl,e1,e2,HR⟩|⟨rfl,e1,e2,h1,HR⟩|⟨rfl,e1,e2,rfl,h1,HR⟩|⟨h0,h1,h2,h3,HR⟩
 iterate 5
  ·have b1:=gG (n:=s) (lo:=1) (hi:=1048576);simp only[e1,true_iff,false_iff,Bool.false_eq_true]at b1;rw[e1]at hs;try rw[e2]at ht
   have HS:=aa hs;have HT:=aa ht;clear hs hp ha ht e1;try clear e2
   go_enter Tryz.func151,Tryz.ntmps151
   go_wp2_with (first|(go_at_call 162;refine(HS.out _).mono ?_;rintro e w' ⟨rfl,rfl⟩)|(go_at_call 163;(with_reducible refine(HT.out _).mono ?_);rintro e w' ⟨rfl,rfl⟩))
   go_ret
   exact⟨bd (by first|(rw[HR.out];done)|(rw[HR.out];simpa using h1)),(Fr.refl _ _).alloc _⟩
 clear hs hp ha ht;go_enter Tryz.func151,Tryz.ntmps151
 go_wp2_with fail
 go_ret
 exact⟨bd (by first|(rw[HR.out];done)|(rw[HR.out];simpa using h1)),(Fr.refl _ _).alloc _⟩
theorem Bf(x:Nat)(hx:x<18446744073709551616) :
  (∀w,Calls Tryz.prog 164 #[.int .u64 (x:Int),.int .u64 0,.int .u64 2] w λe w'=>e=.returned (.int .i64 ((x:Int) % 4))/\w=w') /\
  (∀w,Calls Tryz.prog 164 #[.int .u64 (x:Int),.int .u64 2,.int .u64 21] w λe w'=>e=.returned (.int .i64 ((x:Int) / 4 % 2097152))/\w=w') /\
  (∀w,Calls Tryz.prog 164 #[.int .u64 (x:Int),.int .u64 23,.int .u64 21] w λe w'=>e=.returned (.int .i64 ((x:Int) / 8388608 % 2097152))/\w=w') /\
  (∀w,Calls Tryz.prog 164 #[.int .u64 (x:Int),.int .u64 44,.int .u64 3] w λe w'=>e=.returned (.int .i64 ((x:Int) / 17592186044416 % 8))/\w=w') /\
  (∀w,Calls Tryz.prog 164 #[.int .u64 (x:Int),.int .u64 23,.int .u64 22] w λe w'=>e=.returned (.int .i64 ((x:Int) / 8388608 % 4194304))/\w=w'):=by
 refine⟨λw=>?_,λw=>?_,λw=>?_,λw=>?_,λw=>?_⟩
 ·have:=gv x hx 0 2 (by decide) (by decide) w;rw[show((x / 2 ^ 0 % 2 ^ 2:Nat):Int)=(x:Int) % 4 by omega]at this;exact this
 ·have:=gv x hx 2 21 (by decide) (by decide) w;rw[show((x / 2 ^ 2 % 2 ^ 21:Nat):Int)=(x:Int) / 4 % 2097152 by omega]at this;exact this
 ·have:=gv x hx 23 21 (by decide) (by decide) w;rw[show((x / 2 ^ 23 % 2 ^ 21:Nat):Int)=(x:Int) / 8388608 % 2097152 by omega]at this;exact this
 ·have:=gv x hx 44 3 (by decide) (by decide) w;rw[show((x / 2 ^ 44 % 2 ^ 3:Nat):Int)=(x:Int) / 17592186044416 % 8 by omega]at this;exact this
 ·have:=gv x hx 23 22 (by decide) (by decide) w;rw[show((x / 2 ^ 23 % 2 ^ 22:Nat):Int)=(x:Int) / 8388608 % 4194304 by omega]at this;exact this
theorem rj(x:Nat)(hx:x<18446744073709551616)(w:World) :
  Calls Tryz.prog 156 #[.int .u64 (x:Int)] w λe w'=>e=.returned (Hd.split x).val/\Fr [] w w':=by
 obtain⟨p0,p1,p2,p3,p4⟩:=Bf x hx;have hways:((x:Int) % 4=1/\Hid (Hd.split x=⟨1,(x:Int) / 4 % 2097152,(x:Int) / 8388608 % 2097152,(x:Int) / 17592186044416 % 8,0⟩))\/((x:Int) % 4=3/\Hid (Hd.split x=⟨3,(x:Int) / 4 % 2097152,0,0,(x:Int) / 8388608 % 4194304⟩)) \/
   (∃k,(x:Int) % 4=k/\¬ k=1/\¬ k=3/\Hid (Hd.split x=⟨k,(x:Int) / 4 % 2097152,0,0,0⟩)):=by
  unfold Hid Hd.split;by_cases h1:(x:Int) % 4=1
  ·exact .inl ⟨h1,by rw[if_pos h1,if_pos h1,if_neg (by omega),h1]⟩
  ·by_cases h3:(x:Int) % 4=3
   ·exact .inr (.inl ⟨h3,by rw[if_neg h1,if_neg h1,if_pos h3,h3]⟩)
   ·exact .inr (.inr ⟨_,rfl,h1,h3,by rw[if_neg h1,if_neg h1,if_neg h3]⟩)
 generalize (x:Int) / 4 % 2097152=s at *;generalize (x:Int) / 8388608 % 2097152=p at *;generalize (x:Int) / 17592186044416 % 8=a at *;generalize (x:Int) / 8388608 % 4194304=t at *;rcases hways with⟨h1,HR⟩|⟨h1,HR⟩|⟨k,h1,n1,n3,HR⟩;all_goals
  rw[h1]at p0;have P0:=aa p0;have P1:=aa p1;have P2:=aa p2;have P3:=aa p3;have P4:=aa p4;clear p0 p1 p2 p3 p4 h1;go_enter Tryz.func156,Tryz.ntmps156
  go_wp2_with (go_at_call 164;(first|(with_reducible refine(P0.out _).mono ?_)|(with_reducible refine(P1.out _).mono ?_)|(with_reducible refine(P2.out _).mono ?_)|(with_reducible refine(P3.out _).mono ?_)|(with_reducible refine(P4.out _).mono ?_));rintro e w' ⟨rfl,rfl⟩)
 ·refine bodyPost_ret (v:=.agg #[.int .i64 1,.int .i64 s,.int .i64 p,.int .i64 a,.int .i64 0]) (by simp[results,Tryz.results156,go_sem]) rfl ⟨?_,?_⟩
  ·rw[HR.out];rfl
  ·exact((Fr.refl _ _).alloc _).alloc _
 ·refine bodyPost_ret (v:=.agg #[.int .i64 3,.int .i64 s,.int .i64 0,.int .i64 0,.int .i64 t]) (by simp[results,Tryz.results156,go_sem]) rfl ⟨?_,?_⟩
  ·rw[HR.out];rfl
  ·exact((Fr.refl _ _).alloc _).alloc _
 ·refine bodyPost_ret (v:=.agg #[.int .i64 k,.int .i64 s,.int .i64 0,.int .i64 0,.int .i64 0]) (by simp[results,Tryz.results156,go_sem]) rfl ⟨?_,?_⟩
  ·rw[HR.out];rfl
  ·exact((Fr.refl _ _).alloc _).alloc _
theorem mP(h:Hd)(w:World):Calls Tryz.prog 138 #[h.val] w λe w'=>e=.returned (.tuple #[.int .u64 h.ans,.int .i64 h.err])/\Fr [] w w':=by
 have hi:=jy h;by_cases hr:h.aZ=true
 ·rw[hr]at hi;have HI:=aa hi;have HJ:=aa (mN h (Hd.bO.1 hr));have HE:Hid (h.ans=h.word/\h.err=0):=by unfold Hd.ans Hd.err;rw[if_pos hr,if_pos hr];exact⟨rfl,rfl⟩
  clear hi hr;generalize h.word=x at *;have hb:∀w:World,Blk (w.alloc (.cells h.cells 151)) w.heap.size 151 h.cells:=λw=>Blk.new _ _ _;have HB:=aa hb;clear hb;unfold Hd.val;go_enter Tryz.func138,Tryz.ntmps138
  go_wp2_with fail
  refine(HI.out _).mono ?_;rintro e w1 ⟨rfl,hf⟩;obtain⟨c0,c1,c2,c3,c4⟩:=kz.of ((HB.out w).fr hf (by simp));have HF:=aa hf;clear hf;go_wp2_with fail
  refine(HJ.out _).mono ?_;rintro e w2 ⟨rfl,hf2⟩;have HF2:=aa hf2;clear hf2;go_wp2_with fail
  go_ret2
  exact⟨kL HE.out.1.symm HE.out.2.symm,(((Fr.refl _ _).alloc _).ae HF.out).ae HF2.out⟩
 ·rw[we hr]at hi;have HI:=aa hi;have HE:Hid (h.ans=0/\h.err=3):=by unfold Hd.ans Hd.err;rw[if_neg hr,if_neg hr];exact⟨rfl,rfl⟩
  clear hi hr;unfold Hd.val;go_enter Tryz.func138,Tryz.ntmps138
  go_wp2_with fail
  refine(HI.out _).mono ?_;rintro e w1 ⟨rfl,hf⟩;have HF:=aa hf;clear hf;go_wp2_with fail
  go_ret2
  exact⟨kL HE.out.1.symm HE.out.2.symm,((Fr.refl _ _).alloc _).ae HF.out⟩
theorem Bg(x:Int):(∃y,(Hd.split x).bW/\(Hd.split x).aZ=true/\(Hd.split x).word=y/\Hid (y=x)/\Hid (Hd.of x=Hd.split x/\Hd.eM x=0)) \/
  (∃y,(Hd.split x).bW/\(Hd.split x).aZ=true/\(Hd.split x).word=y/\Hid (¬ y=x)/\Hid (Hd.of x=Hd.zero/\Hd.eM x=30))\/((Hd.split x).aZ=false/\Hid (Hd.of x=Hd.zero/\Hd.eM x=30)):=by
 unfold Hid Hd.of Hd.eM;by_cases h1:(Hd.split x).aZ=true
 ·by_cases h2:(Hd.split x).word=x
  ·exact .inl ⟨_,Hd.bO.1 h1,h1,rfl,h2,by rw[if_pos ⟨h1,h2⟩,if_pos ⟨h1,h2⟩];exact⟨rfl,rfl⟩⟩
  ·exact .inr (.inl ⟨_,Hd.bO.1 h1,h1,rfl,h2,by rw[if_neg (λh=>h2 h.2),if_neg (λh=>h2 h.2)];exact⟨rfl,rfl⟩⟩)
 ·exact .inr (.inr ⟨we h1,by rw[if_neg (λh=>h1 h.1),if_neg (λh=>h1 h.1)];exact⟨rfl,rfl⟩⟩)
theorem km(x:Nat)(hx:x<18446744073709551616)(w:World) :
  Calls Tryz.prog 143 #[.int .u64 (x:Int)] w λe w'=>e=.returned (.tuple #[(Hd.of x).val,.int .i64 (Hd.eM x)])/\Fr [] w w':=by
 have hs:=rj x hx;have hways:=Bg x;generalize Hd.split x=h at *;have hi:=jy h;have hj:=mN h;have hB:∀(w:World) (n:Nat),w.heap.size=n->Blk (w.alloc (.cells h.cells 151)) n 151 h.cells:=λw n hn=>Blk.aX _ _ hn;rcases hways with⟨y,r,h1,h2,h3,HE⟩|⟨y,r,h1,h2,h3,HE⟩|⟨h1,HE⟩
 ·rw[h1]at hi;have HI:=aa hi;have HJ:=aa (hj r);rw[h2]at HJ;have HS:=aa hs;have HB:=aa hB;clear hi hj h1 h2 hs hB r;obtain rfl:=h3.out;clear h3;go_enter Tryz.func143,Tryz.ntmps143
  go_wp2_with fail
  refine(HS.out _).mono ?_;rintro e w1 ⟨rfl,hf1⟩;have HF1:=aa hf1;unfold Hd.val;have HZ:=aa ((Blk.new w 151 Hd.zero.cells).fr hf1 (by simp));have HL:Hid (w.heap.size<w1.heap.size):=by have:=hf1.size;simp at this;unfold Hid;omega
  clear hf1;go_wp2_with fail
  refine(HI.out _).mono ?_;rintro e w2 ⟨rfl,hf2⟩;obtain⟨c0,c1,c2,c3,c4⟩:=kz.of ((HB.out w1 _ rfl).fr hf2 (by simp));have HF2:=aa hf2;clear hf2;go_wp2_with fail
  refine(HJ.out _).mono ?_;rintro e w3 ⟨rfl,hf3⟩;obtain⟨d0,d1,d2,d3,d4⟩:=(kz.fr ⟨c0,c1,c2,c3,c4⟩ hf3 (by simp));obtain⟨⟨z0,z1,z2,z3,z4⟩,f0,f1,f2,f3,f4⟩:=Hd.cE (((HZ.out.alloc _).fr HF2.out (by simp)).fr hf3 (by simp));have HF3:=aa hf3;clear hf3 c0 c1 c2 c3 c4;go_wp2_with fail
  refine bodyPost_ret (v:=.tuple #[.agg #[.int .i64 h.kind,.int .i64 h.size,.int .i64 h.aQ,.int .i64 h.age,.int .i64 h.to],.int .i64 0]) (by simp[results,Tryz.results143,go_sem, *]) rfl ⟨?_,?_⟩
  ·rw[HE.out.1,HE.out.2];rfl
  ·iterate 5 (refine Fr.setCell ?_ (.inr (Dd _)) _)
   exact(((((Fr.refl _ _).alloc _).ae HF1.out).alloc _).ae HF2.out).ae HF3.out
 ·rw[h1]at hi;have HI:=aa hi;have HJ:=aa (hj r);rw[h2]at HJ;have HS:=aa hs;have HB:=aa hB;clear hi hj h1 h2 hs hB r;have n3:=h3.out;clear h3;go_enter Tryz.func143,Tryz.ntmps143
  go_wp2_with fail
  refine(HS.out _).mono ?_;rintro e w1 ⟨rfl,hf1⟩;have HF1:=aa hf1;unfold Hd.val;have HZ:=aa ((Blk.new w 151 Hd.zero.cells).fr hf1 (by simp));have HL:Hid (w.heap.size<w1.heap.size):=by have:=hf1.size;simp at this;unfold Hid;omega
  clear hf1;go_wp2_with fail
  refine(HI.out _).mono ?_;rintro e w2 ⟨rfl,hf2⟩;obtain⟨c0,c1,c2,c3,c4⟩:=kz.of ((HB.out w1 _ rfl).fr hf2 (by simp));have HF2:=aa hf2;clear hf2;go_wp2_with fail
  refine(HJ.out _).mono ?_;rintro e w3 ⟨rfl,hf3⟩;obtain⟨d0,d1,d2,d3,d4⟩:=(kz.fr ⟨c0,c1,c2,c3,c4⟩ hf3 (by simp));obtain⟨⟨z0,z1,z2,z3,z4⟩,f0,f1,f2,f3,f4⟩:=Hd.cE (((HZ.out.alloc _).fr HF2.out (by simp)).fr hf3 (by simp));have HF3:=aa hf3;clear hf3 c0 c1 c2 c3 c4;go_wp2_with fail
  refine bodyPost_ret (v:=.tuple #[.agg #[.int .i64 0,.int .i64 0,.int .i64 0,.int .i64 0,.int .i64 0],.int .i64 30]) (by simp[results,Tryz.results143,go_sem, *]) rfl ⟨?_,?_⟩
  ·rw[HE.out.1,HE.out.2];rfl
  ·iterate 5 (refine Fr.setCell ?_ (.inr (Dd _)) _)
   exact(((((Fr.refl _ _).alloc _).ae HF1.out).alloc _).ae HF2.out).ae HF3.out
 ·rw[h1]at hi;have HI:=aa hi;have HS:=aa hs;have HB:=aa hB;clear hi hj h1 hs hB;go_enter Tryz.func143,Tryz.ntmps143
  go_wp2_with fail
  refine(HS.out _).mono ?_;rintro e w1 ⟨rfl,hf1⟩;have HF1:=aa hf1;unfold Hd.val;have HZ:=aa ((Blk.new w 151 Hd.zero.cells).fr hf1 (by simp));have HL:Hid (w.heap.size<w1.heap.size):=by have:=hf1.size;simp at this;unfold Hid;omega
  clear hf1;go_wp2_with fail
  refine(HI.out _).mono ?_;rintro e w2 ⟨rfl,hf2⟩;obtain⟨⟨z0,z1,z2,z3,z4⟩,f0,f1,f2,f3,f4⟩:=Hd.cE ((HZ.out.alloc _).fr hf2 (by simp));have HF2:=aa hf2;clear hf2;go_wp2_with fail
  refine bodyPost_ret (v:=.tuple #[.agg #[.int .i64 0,.int .i64 0,.int .i64 0,.int .i64 0,.int .i64 0],.int .i64 30]) (by simp[results,Tryz.results143,go_sem, *]) rfl ⟨?_,?_⟩
  ·rw[HE.out.1,HE.out.2];rfl
  ·iterate 5 (refine Fr.setCell ?_ (.inr (Dd _)) _)
   exact(((((Fr.refl _ _).alloc _).ae HF1.out).alloc _).ae HF2.out)
end Go.Proofs.YtimlkjppaalfaaaGreatDoor
