/- Several texts joined (pack.py): Geo G Cd R2 R2c Cn. -/
import Derived.Test.YtimkofiempcfdaaGreatDoorPW00
import Derived.IntWalk
import Derived.Test.YtimkofiempcfdaaGreatDoorPW01
import Derived.Deep.RegionHeld3
set_option linter.unusedVariables false
set_option maxHeartbeats 1600000
set_option maxRecDepth 100000
open Int renaming eq_ofNat_of_zero_le->Ed
namespace Go.Gl
open Go.RowKit Go.IntWalk
structure Cfg where
 (shift regions aT threads roots di markers bH gS queue stack gT eY fail:Int)
structure Geo where
 (words rw cw regions aG max:Int)
def Cfg.val(c:Cfg):Value:=.agg #[.int .i64 c.shift,.int .i64 c.regions,.int .i64 c.aT,.int .i64 c.threads,.int .i64 c.roots,.int .i64 c.di,.int .i64 c.markers,.int .i64 c.bH,.int .i64 c.gS,.int .i64 c.queue,.int .i64 c.stack,.int .i64 c.gT,.int .i64 c.eY,.int .i64 c.fail]
def Geo.val(g:Geo):Value:=.agg #[.int .i64 g.words,.int .i64 g.rw,.int .i64 g.cw,.int .i64 g.regions,.int .i64 g.aG,.int .i64 g.max]
def Geo.cells(g:Geo):Array Value:=#[.int .i64 g.words,.int .i64 g.rw,.int .i64 g.cw,.int .i64 g.regions,.int .i64 g.aG,.int .i64 g.max]
def Cfg.cells(c:Cfg):Array Value:=#[.int .i64 c.shift,.int .i64 c.regions,.int .i64 c.aT,.int .i64 c.threads,.int .i64 c.roots,.int .i64 c.di,.int .i64 c.markers,.int .i64 c.bH,.int .i64 c.gS,.int .i64 c.queue,.int .i64 c.stack,.int .i64 c.gT,.int .i64 c.eY,.int .i64 c.fail]
structure gu(w:World)(b:Nat)(g:Geo):Prop where
 c0:w.cell? ⟨b,0,none⟩=some (.int .i64 g.words)
 c1:w.cell? ⟨b,1,none⟩=some (.int .i64 g.rw)
 c2:w.cell? ⟨b,2,none⟩=some (.int .i64 g.cw)
 c3:w.cell? ⟨b,3,none⟩=some (.int .i64 g.regions)
 c4:w.cell? ⟨b,4,none⟩=some (.int .i64 g.aG)
 c5:w.cell? ⟨b,5,none⟩=some (.int .i64 g.max)
theorem gu.of{w:World}{b:Nat}{t:TypeId}{g:Geo}(h:Blk w b t g.cells):gu w b g:=⟨h.cell 0,h.cell 1,h.cell 2,h.cell 3,h.cell 4,h.cell 5⟩
structure mT(w:World)(b:Nat)(c:Cfg):Prop where
 c0:w.cell? ⟨b,0,none⟩=some (.int .i64 c.shift)
 c1:w.cell? ⟨b,1,none⟩=some (.int .i64 c.regions)
 c2:w.cell? ⟨b,2,none⟩=some (.int .i64 c.aT)
 c3:w.cell? ⟨b,3,none⟩=some (.int .i64 c.threads)
 c4:w.cell? ⟨b,4,none⟩=some (.int .i64 c.roots)
 c5:w.cell? ⟨b,5,none⟩=some (.int .i64 c.di)
 c6:w.cell? ⟨b,6,none⟩=some (.int .i64 c.markers)
 c7:w.cell? ⟨b,7,none⟩=some (.int .i64 c.bH)
 c8:w.cell? ⟨b,8,none⟩=some (.int .i64 c.gS)
 c9:w.cell? ⟨b,9,none⟩=some (.int .i64 c.queue)
 c10:w.cell? ⟨b,10,none⟩=some (.int .i64 c.stack)
 c11:w.cell? ⟨b,11,none⟩=some (.int .i64 c.gT)
 c12:w.cell? ⟨b,12,none⟩=some (.int .i64 c.eY)
 c13:w.cell? ⟨b,13,none⟩=some (.int .i64 c.fail)
theorem mT.of{w:World}{b:Nat}{t:TypeId}{c:Cfg}(h:Blk w b t c.cells):mT w b c:=⟨h.cell 0,h.cell 1,h.cell 2,h.cell 3,h.cell 4,h.cell 5,h.cell 6,h.cell 7,h.cell 8,h.cell 9,h.cell 10,h.cell 11,h.cell 12,h.cell 13⟩
def wiB(n lo hi:Int):Bool:=decide (lo<=n)&&decide (n<=hi)
theorem nY{n lo hi:Int}:wiB n lo hi=true↔lo<=n/\n<=hi:=by unfold wiB;simp
def pw(n:Int):Int:=((2 ^ n.toNat:Nat):Int)
theorem iq(n:Int):0<pw n:=by unfold pw;exact Int.natCast_pos.2 (Nat.two_pow_pos _)
theorem je(k:Nat):pw (k:Int)=((2 ^ k:Nat):Int):=rfl
theorem gg(k:Nat):(2:Int) ^ k=pw (k:Int):=by rw[je,Int.natCast_pow];rfl
theorem wP{a b:Int}(h:a<=b):pw a<=pw b:=by unfold pw;exact Int.ofNat_le.2 (Nat.pow_le_pow_right (by decide) (by omega))
theorem AN{a b:Int}(ha:0<=a)(hb:0<=b):pw (a+b)=pw a*pw b:=by
 unfold pw;rw[Int.toNat_add ha hb,Nat.pow_add];push_cast;rfl
def jv(c:Cfg):Bool:=wiB c.shift 6 20&&(wiB c.regions 2 65536&&(decide (c.regions<=4194304 / pw c.shift)&&wiB c.aT 3 c.shift))
def ig(c:Cfg):Bool:=
 jv c&&(wiB c.threads 1 64&&(wiB c.roots 1 64&&(wiB c.di 0 8&&(wiB c.markers 0 8&&(wiB c.bH 1 c.regions&&(wiB c.gS 0 7&&(wiB c.queue 0 65536&&(wiB c.stack 0 65536&&(wiB c.gT 0 4194304&&(wiB c.eY 0 100&&wiB c.fail 0 65536))))))))))
theorem kP{c:Cfg}:jv c=true↔(6<=c.shift/\c.shift<=20)/\(2<=c.regions/\c.regions<=65536)/\c.regions<=4194304 / pw c.shift/\3<=c.aT/\c.aT<=c.shift:=by
 unfold jv;simp only[Bool.and_eq_true,nY,decide_eq_true_eq]
theorem jw{c:Cfg}(h:ig c=true):jv c=true:=by
 unfold ig at h;rw[Bool.and_eq_true]at h;exact h.1
def Cfg.geo(c:Cfg):Geo:=⟨c.regions*pw c.shift,pw c.shift,pw c.aT,c.regions,c.regions*pw c.shift / pw c.aT,min 1048576 ((c.regions-1)*pw c.shift)⟩
def Geo.zero:Geo:=⟨0,0,0,0,0,0⟩
def Cfg.ans(c:Cfg):Geo:=if ig c=true then c.geo else Geo.zero
def Cfg.err(c:Cfg):Int:=if ig c=true then 0 else 20
structure Geo.Ok(g:Geo)(s k:Nat):Prop where
 s6:6<=s
 s20:s<=20
 k3:3<=k
 ks:k<=s
 rw:g.rw=pw s
 cw:g.cw=pw k
 r2:2<=g.regions
 nZ:g.regions<=65536
 words:g.words=g.regions*pw s
 aG:g.aG*pw k=g.words
 pP:g.words<=4194304
 max:g.max=min 1048576 ((g.regions-1)*pw s)
theorem Geo.Ok.k20{g:Geo}{s k:Nat}(h:g.Ok s k):k<=20:=Nat.le_trans h.ks h.s20
theorem Geo.Ok.wQ{g:Geo}{s k:Nat}(h:g.Ok s k){r:Int}(h0:0<=r)(h1:r<g.regions):0<=r*g.rw/\r*g.rw<=4194304:=by
 rw[h.rw];have hp:=iq s;refine⟨Int.mul_nonneg h0 (Int.le_of_lt hp),Int.le_trans (Int.mul_le_mul_of_nonneg_right (Int.le_of_lt h1) (Int.le_of_lt hp)) ?_⟩;rw[<- h.words];exact h.pP
theorem Geo.Ok.wS{g:Geo}{s k:Nat}(h:g.Ok s k):0<=g.regions:=by have:=h.r2;omega
theorem Cfg.rD{c:Cfg}(h:jv c=true):c.geo.Ok c.shift.toNat c.aT.toNat:=by
 obtain⟨⟨h1,h2⟩,⟨h3,h4⟩,h5,h6,h7⟩:=kP.1 h;have e1:((c.shift.toNat:Nat):Int)=c.shift:=Int.toNat_of_nonneg (by omega);have e2:((c.aT.toNat:Nat):Int)=c.aT:=Int.toNat_of_nonneg (by omega);refine⟨by omega,by omega,by omega,by omega,?_,?_,h3,h4,?_,?_,?_,?_⟩
 ·rw[e1];rfl
 ·rw[e2];rfl
 ·rw[e1];rfl
 ·rw[e2];show c.regions*pw c.shift / pw c.aT*pw c.aT=c.regions*pw c.shift;have:pw c.shift=pw (c.shift-c.aT)*pw c.aT:=by rw[<- AN (by omega) (by omega)];congr 1;omega
  refine Int.ediv_mul_cancel ?_;rw[this,<- Int.mul_assoc];exact Int.dvd_mul_left _ _
 ·show c.regions*pw c.shift<=4194304;have:=Int.mul_le_mul_of_nonneg_right h5 (Int.le_of_lt (iq c.shift));exact Int.le_trans this (Int.ediv_mul_le _ (Int.ne_of_gt (iq _)))
 ·rw[e1];rfl
theorem Cfg.BO{c:Cfg}{s k:Nat}(hl:jv c=true)(hs:c.shift=s)(hk:c.aT=k) :
  wrap64 (c.regions*2 ^ s)=c.regions*pw s/\wrap64 (2 ^ s)=pw s/\wrap64 (2 ^ k)=pw k/\wrap64 ((c.regions-1)*2 ^ s)=(c.regions-1)*pw s:=by
 have ok:=Cfg.rD hl;have l:=kP.1 hl;rw[hs,hk]at ok;have hw:=ok.pP;rw[ok.words]at hw;have e:c.geo.regions=c.regions:=rfl;simp only[Int.toNat_natCast,e]at hw;have p1:=iq (s:Int);have p2:=iq (k:Int);have l1:pw (s:Int)<=pw 20:=wP (by omega);have l2:pw (k:Int)<=pw 20:=wP (by omega);have l3:pw 20=1048576:=by decide
 have h1:0<=c.regions*pw s:=Int.mul_nonneg (by omega) (by omega);have h2:0<=(c.regions-1)*pw s:=Int.mul_nonneg (by omega) (by omega);have h3:(c.regions-1)*pw s=c.regions*pw s-pw s:=by rw[Int.sub_mul,Int.one_mul]
 rw[gg,gg];exact⟨IntWalk.wrap64_in _ ⟨by omega,by omega⟩,IntWalk.wrap64_in _ ⟨by omega,by omega⟩,IntWalk.wrap64_in _ ⟨by omega,by omega⟩,IntWalk.wrap64_in _ ⟨by omega,by omega⟩⟩
theorem Cfg.yP{c:Cfg}{s k:Nat}(hl:jv c=true)(hs:c.shift=s)(hk:c.aT=k)(m:Int)(hm:m=if wrap64 ((c.regions-1)*2 ^ s)<1048576 then wrap64 ((c.regions-1)*2 ^ s) else 1048576) :
  (.agg #[.int .i64 (wrap64 (c.regions*2 ^ s)),.int .i64 (wrap64 (2 ^ s)),.int .i64 (wrap64 (2 ^ k)),.int .i64 c.regions,.int .i64 (wrap64 (c.regions*2 ^ s) / 2 ^ k),.int .i64 m]:Value)=c.geo.val:=by
 obtain⟨e1,e2,e3,e4⟩:=Cfg.BO hl hs hk;rw[e4]at hm;rw[e1,e2,e3,hm,gg,<- hs,<- hk];unfold Cfg.geo Geo.val;have:min 1048576 ((c.regions-1)*pw c.shift)=if (c.regions-1)*pw c.shift<1048576 then (c.regions-1)*pw c.shift else 1048576:=by
  split <;> omega
 rw[this]
def Geo.az(g:Geo)(a:Int):Int:=if 0<=a/\a<g.words then a / g.rw else -1
def Geo.bV(g:Geo)(a:Int):Int:=if 0<=a/\a<g.words then a / g.cw else -1
def Geo.dQ(g:Geo)(a b:Int):Bool:=(decide (0<=a)&&decide (a<g.words))&&((decide (0<=b)&&decide (b<g.words))&&decide (a / g.rw≠b / g.rw))
def Geo.jx(g:Geo)(n:Int):Bool:=decide (g.rw / 2<n)
def Geo.bI(g:Geo)(n:Int):Int:=if n<1 then 0 else (n-1) / g.rw+1
theorem uy(A B s:Nat):((A ^^^ B) / 2 ^ s=0)↔A / 2 ^ s=B / 2 ^ s:=by
 rw[<- Nat.shiftRight_eq_div_pow,<- Nat.shiftRight_eq_div_pow,<- Nat.shiftRight_eq_div_pow,Nat.shiftRight_xor_distrib];refine⟨λh=>?_,λh=>by rw[h,Nat.xor_self]⟩;refine Nat.eq_of_testBit_eq λi=>?_;have:=congrArg (λx=>x.testBit i) h;simpa using this
theorem pQ(a b:Nat)(ha:a<9223372036854775808)(hb:b<9223372036854775808):bits .xor .i64 (a:Int) (b:Int)=((a ^^^ b:Nat):Int):=by
 have hx:a ^^^ b<2 ^ 63:=Nat.xor_lt_two_pow (by omega) (by omega);have e:∀n:Nat,n<9223372036854775808->(BitVec.ofInt 64 (n:Int)).toNat=n:=λn hn=>by
  rw[BitVec.toNat_ofInt];omega
 show IntKind.i64.wrap ((BitVec.ofInt 64 (a:Int) ^^^ BitVec.ofInt 64 (b:Int)).toNat:Int)=_;rw[BitVec.toNat_xor,e a ha,e b hb,IntKind.wrap_i64];omega
theorem uz(a b:Int)(s:Nat)(a0:0<=a)(a1:a<9223372036854775808)(b0:0<=b)(b1:b<9223372036854775808) :
  (bits .xor .i64 a b / 2 ^ s !=0)=decide (a / pw s≠b / pw s):=by
 obtain⟨A,rfl⟩:=Ed a0;obtain⟨B,rfl⟩:=Ed b0;rw[pQ A B (by omega) (by omega),gg,je,<- Int.natCast_ediv,<- Int.natCast_ediv,<- Int.natCast_ediv];have h:=uy A B s;rw[Bool.eq_iff_iff,bne_iff_ne,decide_eq_true_eq,Ne,Ne,Int.natCast_eq_zero,Int.natCast_inj,h]
theorem yQ(k:Nat)(h:k<64):Lib.ctz 64 (2 ^ k)=k:=by
 obtain⟨_,h2,_⟩:=nX (2 ^ k) (Nat.two_pow_pos k) (im h);rw[Nat.testBit_two_pow,decide_eq_true_eq]at h2;exact h2.symm
end Go.Gl
namespace Go.Proofs.YtimkofiempcfdaaGreatDoor
open Go.RowKit Go.Gl
theorem jf(n lo hi:Int)(w:World):Calls Tryz.prog 116 #[.int .i64 n,.int .i64 lo,.int .i64 hi] w λe w'=>e=.returned (.bool (wiB n lo hi))/\w=w':=by
 go_enter Tryz.func116,Tryz.ntmps116
 go_wp2
 all_goals
  go_ret
  exact⟨aW (by unfold wiB;first|(simp[*];done)|(simp;omega)),rfl⟩
theorem ej(k:Nat)(hk:k<63)(w:World)(hT:Tab w):Calls Tryz.prog 44 #[.int .i64 (pw k)] w λe w'=>e=.returned (.int .u64 (k:Int))/\w=w':=by
 rw[je];have hc:=yQ k (by omega);have h1:2 ^ k<9223372036854775808:=Nat.pow_lt_pow_of_lt (a:=2) (n:=k) (m:=63) (by decide) hk;have h0:0<2 ^ k:=Nat.two_pow_pos k;have ht:=wJ (2 ^ k) (by omega) h0 w hT;rw[hc]at ht;generalize 2 ^ k=x at *;have HT:=aa ht;clear ht hc hT;go_enter Tryz.func44,Tryz.ntmps44
 go_wp2_with fail
 refine HT.out.mono ?_;rintro e w' ⟨rfl,rfl⟩;go_wp2_with fail
 go_ret
 exact⟨rfl,rfl⟩
theorem dR(g:Geo)(a:Int)(w:World):Calls Tryz.prog 43 #[g.val,.int .i64 a] w λe w'=>e=.returned (.bool (decide (0<=a)&&decide (a<g.words)))/\Fr [] w w':=by
 unfold Geo.val;go_enter Tryz.func43,Tryz.ntmps43
 go_wp2
 all_goals
  go_ret
  exact⟨aW (by first|(simp[*];done)|(simp;omega)),(Fr.refl _ _).alloc _⟩
theorem rE(g:Geo){s k:Nat}(ok:g.Ok s k)(a:Int)(w:World)(hT:Tab w) :
  Calls Tryz.prog 83 #[g.val,.int .i64 a] w λe w'=>e=.returned (.int .i64 (g.az a))/\Fr [] w w':=by
 have HT:=aa hT;have hsz:=ok.s20;have HR:=aa ok.rw;clear hT;by_cases h:0<=a/\a<g.words
 ·have HV:Hid (a / g.rw=g.az a):=by unfold Geo.az;rw[if_pos h];exact rfl
  obtain⟨h0,h1⟩:=h;have hw:=dR g a;rw[decide_eq_true h0,decide_eq_true h1]at hw;have HW:=aa hw;clear hw ok;unfold Geo.val;go_enter Tryz.func83,Tryz.ntmps83
  go_wp2_with fail
  refine(HW.out _).mono ?_;rintro e w1 ⟨rfl,hf⟩;have hg:=gu.of ((Blk.new w 40 g.cells).fr hf (by simp));have HT1:=aa ((HT.out.alloc _).fr hf (by simp));have c1:=hg.c1;rw[HR.out]at c1;have HF:=aa hf;clear hf hg;go_wp2_with fail
  refine(ej s (by omega) _ HT1.out).mono ?_;rintro e w' ⟨rfl,rfl⟩;go_wp2_with fail
  go_ret
  exact⟨bU (by rw[<- HV.out,HR.out,gg]),((Fr.refl _ _).alloc _).af HF.out⟩
 ·have HV:Hid (-1=g.az a):=by unfold Geo.az;rw[if_neg h];exact rfl
  have hw:=dR g a;have hb:(decide (0<=a)&&decide (a<g.words))=false:=by
   rw[Bool.and_eq_false_iff,decide_eq_false_iff_not,decide_eq_false_iff_not];omega
  rw[hb]at hw;have HW:=aa hw;clear hw ok hb h;unfold Geo.val;go_enter Tryz.func83,Tryz.ntmps83
  go_wp2_with fail
  refine(HW.out _).mono ?_;rintro e w1 ⟨rfl,hf⟩;have HF:=aa hf;clear hf;go_wp2_with fail
  go_ret
  exact⟨bU HV.out,((Fr.refl _ _).alloc _).af HF.out⟩
theorem wT(g:Geo){s k:Nat}(ok:g.Ok s k)(a:Int)(w:World)(hT:Tab w) :
  Calls Tryz.prog 16 #[g.val,.int .i64 a] w λe w'=>e=.returned (.int .i64 (g.bV a))/\Fr [] w w':=by
 have HT:=aa hT;have hsz:=ok.k20;have HR:=aa ok.cw;clear hT;by_cases h:0<=a/\a<g.words
 ·have HV:Hid (a / g.cw=g.bV a):=by unfold Geo.bV;rw[if_pos h];exact rfl
  obtain⟨h0,h1⟩:=h;have hw:=dR g a;rw[decide_eq_true h0,decide_eq_true h1]at hw;have HW:=aa hw;clear hw ok;unfold Geo.val;go_enter Tryz.func16,Tryz.ntmps16
  go_wp2_with fail
  refine(HW.out _).mono ?_;rintro e w1 ⟨rfl,hf⟩;have hg:=gu.of ((Blk.new w 40 g.cells).fr hf (by simp));have HT1:=aa ((HT.out.alloc _).fr hf (by simp));have c1:=hg.c2;rw[HR.out]at c1;have HF:=aa hf;clear hf hg;go_wp2_with fail
  refine(ej k (by omega) _ HT1.out).mono ?_;rintro e w' ⟨rfl,rfl⟩;go_wp2_with fail
  go_ret
  exact⟨bU (by rw[<- HV.out,HR.out,gg]),((Fr.refl _ _).alloc _).af HF.out⟩
 ·have HV:Hid (-1=g.bV a):=by unfold Geo.bV;rw[if_neg h];exact rfl
  have hw:=dR g a;have hb:(decide (0<=a)&&decide (a<g.words))=false:=by
   rw[Bool.and_eq_false_iff,decide_eq_false_iff_not,decide_eq_false_iff_not];omega
  rw[hb]at hw;have HW:=aa hw;clear hw ok hb h;unfold Geo.val;go_enter Tryz.func16,Tryz.ntmps16
  go_wp2_with fail
  refine(HW.out _).mono ?_;rintro e w1 ⟨rfl,hf⟩;have HF:=aa hf;clear hf;go_wp2_with fail
  go_ret
  exact⟨bU HV.out,((Fr.refl _ _).alloc _).af HF.out⟩
theorem wU(g:Geo){s k:Nat}(ok:g.Ok s k)(a:Int)(w:World)(hT:Tab w) :
  Calls Tryz.prog 74 #[g.val,.int .i64 a] w λe w'=>e=.returned (.tuple #[.int .i64 (if 0<=a/\a<g.regions then a*g.rw else 0),.int .i64 (if 0<=a/\a<g.regions then 0 else 2)])/\Fr [] w w':=by
 have HT:=aa hT;have hsz:=ok.s20;have HR:=aa ok.rw;clear hT;by_cases h:0<=a/\a<g.regions
 ·have hm:=ok.wQ h.1 h.2;rw[if_pos h,if_pos h];obtain⟨h0,h1⟩:=h;have HM:=aa hm;clear hm ok;unfold Geo.val;go_enter Tryz.func74,Tryz.ntmps74
  go_wp2_with fail
  rw[HR.out];refine(ej s (by omega) _ (HT.out.alloc _)).mono ?_;rintro e w' ⟨rfl,rfl⟩;go_wp2_with fail
  go_ret2
  exact⟨kL (by rw[gg,<- HR.out];exact IntWalk.wrap64_in _ ⟨by have:=HM.out;omega,by have:=HM.out;omega⟩) rfl,(Fr.refl _ _).alloc _⟩
 ·rw[if_neg h,if_neg h];clear ok;by_cases h0:a<0
  ·unfold Geo.val;go_enter Tryz.func74,Tryz.ntmps74
   go_wp2_with fail
   go_ret2
   exact⟨kL rfl rfl,(Fr.refl _ _).alloc _⟩
  ·have h1:g.regions<=a:=by omega
   unfold Geo.val;go_enter Tryz.func74,Tryz.ntmps74
   go_wp2_with fail
   go_ret2
   exact⟨kL rfl rfl,(Fr.refl _ _).alloc _⟩
theorem gU(g:Geo)(n:Int)(w:World)(h0:0<=g.rw):Calls Tryz.prog 109 #[g.val,.int .i64 n] w λe w'=>e=.returned (.bool (g.jx n))/\Fr [] w w':=by
 unfold Geo.val Geo.jx;go_enter Tryz.func109,Tryz.ntmps109
 go_wp2
 go_ret
 exact⟨rfl,(Fr.refl _ _).alloc _⟩
theorem pR(g:Geo){s k:Nat}(ok:g.Ok s k)(n:Int)(hn:n<=9223372036854775807)(w:World)(hT:Tab w) :
  Calls Tryz.prog 77 #[g.val,.int .i64 n] w λe w'=>e=.returned (.int .i64 (g.bI n))/\Fr [] w w':=by
 have HT:=aa hT;have hsz:=ok.s20;have HR:=aa ok.rw;clear hT;by_cases h:n<1
 ·have HV:Hid (0=g.bI n):=by unfold Geo.bI;rw[if_pos h];exact rfl
  clear ok;unfold Geo.val;go_enter Tryz.func77,Tryz.ntmps77
  go_wp2_with fail
  go_ret
  exact⟨bU HV.out,(Fr.refl _ _).alloc _⟩
 ·have HV:Hid ((n-1) / g.rw+1=g.bI n):=by unfold Geo.bI;rw[if_neg h];exact rfl
  have hq:0<=(n-1) / 2 ^ s/\(n-1) / 2 ^ s<=n-1:=by
   rw[gg];exact⟨Int.ediv_nonneg (by omega) (Int.le_of_lt (iq _)),Int.ediv_le_self _ (by omega)⟩
  clear ok;unfold Geo.val;go_enter Tryz.func77,Tryz.ntmps77
  go_wp2_with fail
  rw[HR.out];refine(ej s (by omega) _ (HT.out.alloc _)).mono ?_;rintro e w' ⟨rfl,rfl⟩;go_wp2_with fail
  go_ret
  exact⟨bU (by rw[<- HV.out,HR.out,gg]),(Fr.refl _ _).alloc _⟩
theorem uA(g:Geo){s k:Nat}(ok:g.Ok s k)(a b:Int)(w:World)(hT:Tab w) :
  Calls Tryz.prog 152 #[g.val,.int .i64 a,.int .i64 b] w λe w'=>e=.returned (.bool (g.dQ a b))/\Fr [] w w':=by
 have HT:=aa hT;have hsz:=ok.s20;have HR:=aa ok.rw;have HM:=aa ok.pP;clear hT;have hwa:=dR g a;have hwb:=dR g b;by_cases ha:(decide (0<=a)&&decide (a<g.words))=true
 ·by_cases hb:(decide (0<=b)&&decide (b<g.words))=true
  ·rw[ha]at hwa;rw[hb]at hwb;have HA:=aa hwa;have HB:=aa hwb;have HV:Hid (g.dQ a b=decide (a / g.rw≠b / g.rw)):=by unfold Geo.dQ;rw[ha,hb];rfl
   simp only[Bool.and_eq_true,decide_eq_true_eq]at ha hb;obtain⟨a0,a1⟩:=ha;obtain⟨b0,b1⟩:=hb;clear hwa hwb ok;unfold Geo.val;go_enter Tryz.func152,Tryz.ntmps152
   go_wp2_with fail
   refine(HA.out _).mono ?_;rintro e w1 ⟨rfl,hf⟩;have hg:=gu.of ((Blk.new w 40 g.cells).fr hf (by simp));have HT1:=aa ((HT.out.alloc _).fr hf (by simp));have HF:Hid (Fr [] w w1):=((Fr.refl _ _).alloc _).af hf;obtain⟨c0,c1,c2,c3,c4,c5⟩:=hg;go_wp2_with fail
   refine(HB.out _).mono ?_;rintro e w2 ⟨rfl,hf2⟩;have c1':=(hf2.cell (p:=⟨w.heap.size,1,none⟩) (ae c1) (by simp)).trans c1;have HT2:=aa (HT1.out.fr hf2 (by simp));have HF2:Hid (Fr [] w w2):=HF.out.af hf2;clear hf2 hf c0 c1 c2 c3 c4 c5;rw[HR.out]at c1';go_wp2_with fail
   refine(ej s (by omega) _ HT2.out).mono ?_;rintro e w' ⟨rfl,rfl⟩;go_wp2_with fail
   go_ret
   refine⟨aW ?_,HF2.out⟩;have:=HM.out;rw[HV.out,HR.out,<- uz a b s a0 (by omega) b0 (by omega)]
  ·have hb':(decide (0<=b)&&decide (b<g.words))=false:=by simpa using hb
   rw[ha]at hwa;rw[hb']at hwb;have HA:=aa hwa;have HB:=aa hwb;have HV:Hid (g.dQ a b=false):=by unfold Geo.dQ;rw[ha,hb'];rfl
   clear hwa hwb ok ha hb hb';unfold Geo.val;go_enter Tryz.func152,Tryz.ntmps152
   go_wp2_with fail
   refine(HA.out _).mono ?_;rintro e w1 ⟨rfl,hf⟩;have hg:=gu.of ((Blk.new w 40 g.cells).fr hf (by simp));have HF:Hid (Fr [] w w1):=((Fr.refl _ _).alloc _).af hf;obtain⟨c0,c1,c2,c3,c4,c5⟩:=hg;clear hf;go_wp2_with fail
   refine(HB.out _).mono ?_;rintro e w2 ⟨rfl,hf2⟩;have HF2:Hid (Fr [] w w2):=HF.out.af hf2;clear hf2 c0 c1 c2 c3 c4 c5;go_wp2_with fail
   go_ret
   exact⟨aW HV.out.symm,HF2.out⟩
 ·have ha':(decide (0<=a)&&decide (a<g.words))=false:=by simpa using ha
  rw[ha']at hwa;have HA:=aa hwa;have HV:Hid (g.dQ a b=false):=by unfold Geo.dQ;rw[ha'];rfl
  clear hwa hwb ok ha ha';unfold Geo.val;go_enter Tryz.func152,Tryz.ntmps152
  go_wp2_with fail
  refine(HA.out _).mono ?_;rintro e w1 ⟨rfl,hf⟩;have HF:Hid (Fr [] w w1):=((Fr.refl _ _).alloc _).af hf;clear hf;go_wp2_with fail
  go_ret
  exact⟨aW HV.out.symm,HF.out⟩
theorem rF(c:Cfg)(w:World):Calls Tryz.prog 115 #[c.val] w λe w'=>e=.returned (.bool (jv c))/\Fr [] w w':=by
 by_cases h1:wiB c.shift 6 20=true
 ·have hs:=nY.1 h1;obtain⟨s1,s2⟩:=hs;obtain⟨s,hs⟩:=Ed (show 0<=c.shift by omega);have HV:Hid (jv c=(wiB c.regions 2 65536&&(decide (c.regions<=4194304 / pw s)&&wiB c.aT 3 c.shift))):=by unfold jv;rw[h1,hs];rfl
  rw[hs]at HV h1 s1 s2;unfold Cfg.val;rw[hs];clear hs;go_enter Tryz.func115,Tryz.ntmps115
  go_wp2_with (go_at_call 116;refine(jf _ _ _ _).mono ?_;rintro e w' ⟨rfl,rfl⟩)
  all_goals
   go_ret
   refine⟨aW ?_,(Fr.refl _ _).alloc _⟩;rw[HV.out,<- gg]
  all_goals first
  |(simp[*];done)
  |(have hlt:=Int.not_le.2 ‹4194304 / 2 ^ s<c.regions›;simp[*])
 ·have h1':wiB c.shift 6 20=false:=by simpa using h1
  have HV:Hid (jv c=false):=by unfold jv;rw[h1'];rfl
  clear h1;unfold Cfg.val;go_enter Tryz.func115,Tryz.ntmps115
  go_wp2_with (go_at_call 116;refine(jf _ _ _ _).mono ?_;rintro e w' ⟨rfl,rfl⟩)
  go_ret
  exact⟨aW HV.out.symm,(Fr.refl _ _).alloc _⟩
theorem uB(c:Cfg)(w:World):Calls Tryz.prog 63 #[c.val] w λe w'=>e=.returned (.bool (ig c))/\Fr [] w w':=by
 have hl:=rF c;by_cases h1:jv c=true
 ·rw[h1]at hl;have HL:=aa hl;have HV:Hid (ig c=(wiB c.threads 1 64&&(wiB c.roots 1 64&&(wiB c.di 0 8&&(wiB c.markers 0 8&&(wiB c.bH 1 c.regions&&(wiB c.gS 0 7&&(wiB c.queue 0 65536&&(wiB c.stack 0 65536&&(wiB c.gT 0 4194304&&(wiB c.eY 0 100&&wiB c.fail 0 65536))))))))))):=by unfold ig;rw[h1];rfl
  clear hl h1;unfold Cfg.val;go_enter Tryz.func63,Tryz.ntmps63
  go_wp2_with fail
  refine(HL.out _).mono ?_;rintro e w1 ⟨rfl,hf⟩;have hg:=mT.of ((Blk.new w 23 c.cells).fr hf (by simp));have HF:Hid (Fr [] w w1):=((Fr.refl _ _).alloc _).af hf;clear hf;obtain⟨-,d1,-,d3,d4,d5,d6,d7,d8,d9,d10,d11,d12,d13⟩:=hg;go_wp2_with (go_at_call 116;refine(jf _ _ _ _).mono ?_;rintro e w' ⟨rfl,rfl⟩)
  all_goals
   go_ret
   refine⟨aW ?_,HF.out⟩;rw[HV.out];clear d1 d3 d4 d5 d6 d7 d8 d9 d10 d11 d12 d13;simp[*]
 ·have h1':jv c=false:=by simpa using h1
  have HV:Hid (ig c=false):=by unfold ig;rw[h1'];rfl
  rw[h1']at hl;have HL:=aa hl;clear hl h1 h1';unfold Cfg.val;go_enter Tryz.func63,Tryz.ntmps63
  go_wp2_with fail
  refine(HL.out _).mono ?_;rintro e w1 ⟨rfl,hf⟩;have HF:Hid (Fr [] w w1):=((Fr.refl _ _).alloc _).af hf;clear hf;go_wp2_with fail
  go_ret
  exact⟨aW HV.out.symm,HF.out⟩
theorem kQ(c:Cfg)(w:World):Calls Tryz.prog 28 #[c.val] w λe w'=>e=.returned (.tuple #[c.ans.val,.int .i64 c.err])/\Fr [] w w':=by
 have hl:=uB c;by_cases h1:ig c=true
 ·rw[h1]at hl;have HL:=aa hl;have ok:=Cfg.rD (jw h1);have hlie:=kP.1 (jw h1);obtain⟨⟨s1,s2⟩,⟨r1,r2⟩,r3,k1,k2⟩:=hlie;obtain⟨s,hs⟩:=Ed (show 0<=c.shift by omega);obtain⟨k,hk⟩:=Ed (show 0<=c.aT by omega);have HG:=aa (Cfg.yP (jw h1) hs hk);clear ok r3;rw[hs]at s1 s2 k2;rw[hk]at k1 k2;have HE:Hid (c.ans=c.geo/\c.err=0):=by unfold Cfg.ans Cfg.err;rw[if_pos h1,if_pos h1];exact⟨rfl,rfl⟩
  clear hl h1;unfold Cfg.val;go_enter Tryz.func28,Tryz.ntmps28
  go_wp2_with fail
  rw[<- hs,<- hk];refine(HL.out _).mono ?_;rintro e w1 ⟨rfl,hf⟩;have hc1:=((Blk.new w 23 c.cells).alloc (.cells Geo.zero.cells 40)).fr hf (by simp);have hb:Blk w1 (w.heap.size+1) 40 Geo.zero.cells:=(Blk.aV (w:=w.alloc (.cells c.cells 23)) 40 Geo.zero.cells (by simp)).fr hf (by simp);obtain⟨g0,g1,g2,-,-,-,-,-,-,-,-,-,-,-⟩:=mT.of hc1;have HF:=aa hf;obtain⟨c0,c1,c2,c3,c4,c5⟩:=gu.of hb;have f0:=hb.frozen 0;have f1:=hb.frozen 1;have f2:=hb.frozen 2;have f3:=hb.frozen 3;have f4:=hb.frozen 4;have f5:=hb.frozen 5;rw[hs]at g0;rw[hk]at g2;clear hf hb hc1;go_wp2_with fail
  go_quiet (fail)
  go_wp2_with fail
  ·refine bodyPost_ret (v:=.tuple #[.agg #[.int .i64 (wrap64 (c.regions*2 ^ s)),.int .i64 (wrap64 (2 ^ s)),.int .i64 (wrap64 (2 ^ k)),.int .i64 c.regions,.int .i64 (wrap64 (c.regions*2 ^ s) / 2 ^ k),.int .i64 (wrap64 ((c.regions-1)*2 ^ s))],.int .i64 0]) (by simp[results,Tryz.results28,go_sem, *]) rfl ⟨?_,?_⟩
   ·rw[HE.out.1,HE.out.2,HG.out _ (by rw[if_pos ‹_›])]
   ·repeat (refine Fr.setCell ?_ (.inr (Nat.le_succ _)) _)
    exact((((Fr.refl _ _).alloc _).alloc _).af HF.out).drewN _
  ·refine bodyPost_ret (v:=.tuple #[.agg #[.int .i64 (wrap64 (c.regions*2 ^ s)),.int .i64 (wrap64 (2 ^ s)),.int .i64 (wrap64 (2 ^ k)),.int .i64 c.regions,.int .i64 (wrap64 (c.regions*2 ^ s) / 2 ^ k),.int .i64 1048576],.int .i64 0]) (by simp[results,Tryz.results28,go_sem, *]) rfl ⟨?_,?_⟩
   ·rw[HE.out.1,HE.out.2,HG.out 1048576 (by rw[if_neg (by omega)])]
   ·repeat (refine Fr.setCell ?_ (.inr (Nat.le_succ _)) _)
    exact((((Fr.refl _ _).alloc _).alloc _).af HF.out).drewN _
 ·have h1':ig c=false:=by simpa using h1
  rw[h1']at hl;have HL:=aa hl;have HE:Hid (c.ans=Geo.zero/\c.err=20):=by unfold Cfg.ans Cfg.err;rw[if_neg h1,if_neg h1];exact⟨rfl,rfl⟩
  clear hl h1 h1';unfold Cfg.val;go_enter Tryz.func28,Tryz.ntmps28
  go_wp2_with fail
  refine(HL.out _).mono ?_;rintro e w1 ⟨rfl,hf⟩;have hb:Blk w1 (w.heap.size+1) 40 Geo.zero.cells:=(Blk.aV (w:=w.alloc (.cells c.cells 23)) 40 Geo.zero.cells (by simp)).fr hf (by simp);have HF:=aa hf;have HB:=aa hb;obtain⟨c0,c1,c2,c3,c4,c5⟩:=gu.of hb;have f0:=hb.frozen 0;have f1:=hb.frozen 1;have f2:=hb.frozen 2;have f3:=hb.frozen 3;have f4:=hb.frozen 4;have f5:=hb.frozen 5;clear hf hb;go_wp2_with fail
  refine bodyPost_ret (v:=.tuple #[.agg #[.int .i64 0,.int .i64 0,.int .i64 0,.int .i64 0,.int .i64 0,.int .i64 0],.int .i64 20]) (by simp[results,Tryz.results28,go_sem, *]) rfl ⟨?_,?_⟩
  ·rw[HE.out.1,HE.out.2];rfl
  ·repeat (refine Fr.setCell ?_ (.inr (Nat.le_succ _)) _)
   exact(((Fr.refl _ _).alloc _).alloc _).af HF.out
structure Ct(w:World)(tb bs bw n:Nat)(ws:List Nat):Prop where
 tab:Blk w tb 193 #[.pointer (some ⟨bs,0,none⟩)]
 set:cU w bs bw n ws
section
variable {w w':World}{tb bs bw n:Nat}{ws:List Nat}{F:List Nat}
theorem Ct.fr(h:Ct w tb bs bw n ws)(hf:Fr F w w')(h0:tb∉F)(h1:bs∉F)(h2:bw∉F):Ct w' tb bs bw n ws:=⟨h.tab.fr hf h0,h.set.fr hf h1 h2⟩
theorem Ct.c0(h:Ct w tb bs bw n ws):w.cell? ⟨tb,0,none⟩=some (.pointer (some ⟨bs,0,none⟩)):=by rw[h.tab.cell];rfl
theorem Ct.ne(h:Ct w tb bs bw n ws):tb≠bw:=h.tab.apart h.set.row (by decide)
end
def AO(w:World)(tb bs bw n:Nat)(ws:List Nat)(i:Int)(on:Bool)(e:Ending)(w':World):Prop:=
 ∃c er ws',e=.returned (.tuple #[.bool c,.int .i64 er])/\Ct w' tb bs bw n ws'/\Fr [bw] w w'/\Turned ws n i on c er ws'
theorem wV{w:World}{tb bs bw n:Nat}{ws:List Nat}(h:Ct w tb bs bw n ws):Calls Tryz.prog 41 #[.pointer (some ⟨tb,0,none⟩)] w λe w'=>e=.returned (.pointer (some ⟨bs,0,none⟩))/\w=w':=by
 have c0:=h.c0;clear h;go_enter Tryz.func41,Tryz.ntmps41
 go_wp2
 go_ret
 exact⟨rfl,rfl⟩
theorem rH{w:World}{tb bs bw n:Nat}{ws:List Nat}(h:Ct w tb bs bw n ws)(i:Int) :
  Calls Tryz.prog 113 #[.pointer (some ⟨tb,0,none⟩),.int .i64 i] w (AO w tb bs bw n ws i true):=by
 have HS:=aa (wV h);have HP:=aa (yN h.set i);have HB:=aa h.tab;have HN:=aa h.ne;clear h;go_enter Tryz.func113,Tryz.ntmps113
 go_wp2_with (first|(go_at_call 41;refine HS.out.mono ?_;rintro e w' ⟨rfl,rfl⟩)|(go_at_call 157;refine HP.out.mono ?_;rintro e w' ⟨c,er,ws',rfl,hb,hf,ht⟩))
 go_ret2
 exact⟨c,er,ws',rfl,⟨HB.out.fr hf (by have:=HN.out;simp;exact this),hb⟩,hf,ht⟩
def Ap(w:World)(n:Nat)(e:Ending)(w':World):Prop:=
 ∃tb bs bw,e=.returned (.tuple #[.pointer (some ⟨tb,0,none⟩),.int .i64 0])/\Ct w' tb bs bw n (List.replicate ((n+63) / 64) 0)/\Fr [] w w'/\w.heap.size<=tb/\w.heap.size<=bs/\w.heap.size<=bw
theorem wW(g:Geo)(n:Nat)(hn:n<=4194304)(hg:g.aG=(n:Int))(w:World):Calls Tryz.prog 53 #[g.val] w (Ap w n):=by
 have HN:=aa (pO n hn);obtain⟨a,b,c,d,m,f⟩:=g;obtain rfl:m=(n:Int):=hg;unfold Geo.val;go_enter Tryz.func53,Tryz.ntmps53
 go_wp2_with fail
 refine(HN.out _).mono ?_;rintro e w1 ⟨bs,bw,rfl,hs,hf,h1,h2⟩;have HS:=aa hs;have HF:Hid (Fr [] w w1):=((Fr.refl _ _).alloc _).af hf;have H1:Hid (w.heap.size<=bs/\w.heap.size<=bw):=by simp at h1 h2;exact⟨by omega,by omega⟩
 clear hs hf h1 h2;go_wp2_with fail
 go_ret2
 exact⟨w1.heap.size,bs,bw,rfl,⟨Blk.new _ _ _,HS.out.fr ((Fr.refl [] w1).alloc _) (by simp) (by simp)⟩,HF.out.alloc _,HF.out.size,H1.out.1,H1.out.2⟩
def adr(to:Int):Int:=IntKind.i64.wrap (IntKind.u64.wrap (to-1))
theorem AP{to:Int}(h1:1<=to)(h2:to<=9223372036854775808):adr to=to-1:=by
 unfold adr;rw[IntKind.wrap_u64,Int.emod_eq_of_lt (by omega) (by omega)];exact IntWalk.i64_in _ ⟨by omega,by omega⟩
theorem tQ{to:Int}(h0:0<=to)(h1:to<=18446744073709551615)(h:to=0\/9223372036854775808<to):adr to<0:=by
 unfold adr;have:IntKind.u64.wrap (to-1)=if to=0 then 18446744073709551615 else to-1:=by
  rw[IntKind.wrap_u64];split
  ·subst_vars;rfl
  ·exact Int.emod_eq_of_lt (by omega) (by omega)
 rw[this];have hw:∀x:Int,9223372036854775808<=x->x<=18446744073709551615->IntKind.i64.wrap x=x-18446744073709551616:=by
  intro x hx hy;rw[IntKind.wrap_i64];omega
 split
 ·rw[hw _ (by decide) (by decide)];decide
 ·rw[hw _ (by omega) (by omega)];omega
theorem oa(to:Int)(w:World):Calls Tryz.prog 153 #[.int .u64 to] w λe w'=>e=.returned (.int .i64 (adr to))/\w=w':=by
 go_enter Tryz.func153,Tryz.ntmps153
 go_wp2
 go_ret
 exact⟨bU (by unfold adr;rw[IntWalk.i64_left]),rfl⟩
def rI(s:Int):Bool:=s==1||s==2
def cE(g:Geo)(s field to:Int):Bool:=!rI s&&g.dQ field (adr to)
theorem wX{g:Geo}{a b:Int}(h:b<0\/g.words<=b):g.dQ a b=false:=by
 unfold Geo.dQ;rcases h with h|h
 ·rw[show decide (0<=b)=false by simp;omega];simp
 ·rw[show decide (b<g.words)=false by simp;omega];simp
theorem kR{g:Geo}{s field to:Int}(h:s=1\/s=2):cE g s field to=false:=by
 unfold cE rI;rcases h with rfl|rfl <;> simp
theorem yR{g:Geo}{s field to:Int}(hw:g.words<=4194304)(h0:0<=to)(h1:to<=18446744073709551615)(h:to=0\/4194304<to):cE g s field to=false:=by
 unfold cE;rw[wX,Bool.and_false];rcases h with rfl|h
 ·exact .inl (tQ (by omega) (by omega) (.inl rfl))
 ·by_cases h2:to<=9223372036854775808
  ·rw[AP (by omega) h2];exact .inr (by omega)
  ·exact .inl (tQ (by omega) (by omega) (.inr (by omega)))
theorem wY{g:Geo}{s field to:Int}(h1:s≠1)(h2:s≠2):cE g s field to=g.dQ field (adr to):=by
 unfold cE rI;rw[show(s==1)=false by simpa using h1,show(s==2)=false by simpa using h2];simp
theorem wZ(g:Geo){s k:Nat}(ok:g.Ok s k)(st field to:Int)(w:World)(hT:Tab w) :
  Calls Tryz.prog 107 #[g.val,.int .i64 st,.int .i64 field,.int .u64 to] w λe w'=>e=.returned (.bool (cE g st field to))/\Fr [] w w':=by
 have HX:=aa (λw' (h:Tab w')=>uA g ok field (adr to) w' h);have HA:=aa (oa to);have HT:=aa hT;clear hT ok;have hways:((st==1)=true/\Hid (cE g st field to=false))\/((st==1)=false/\(st==2)=true/\Hid (cE g st field to=false))\/((st==1)=false/\(st==2)=false/\Hid (cE g st field to=g.dQ field (adr to))):=by
  by_cases h1:st=1
  ·exact .inl ⟨by simpa using h1,kR (.inl h1)⟩
  ·by_cases h2:st=2
   ·exact .inr (.inl ⟨by simpa using h1,by simpa using h2,kR (.inr h2)⟩)
   ·exact .inr (.inr ⟨by simpa using h1,by simpa using h2,wY h1 h2⟩)
 generalize adr to=ad at *;rcases hways with⟨h1,HV⟩|⟨h1,h2,HV⟩|⟨h1,h2,HV⟩;all_goals
  rw[HV.out];clear HV;generalize g.dQ field ad=cr at *;have HX':Hid (∀w',Tab w'->Calls Tryz.prog 152 #[.agg #[.int .i64 g.words,.int .i64 g.rw,.int .i64 g.cw,.int .i64 g.regions,.int .i64 g.aG,.int .i64 g.max],.int .i64 field,.int .i64 ad] w' λe w''=>e=.returned (.bool cr)/\Fr [] w' w''):=HX;unfold Geo.val;go_enter Tryz.func107,Tryz.ntmps107
  go_wp2_with fail
  generalize hw1:w.alloc _=w1;have hb:gu w1 w.heap.size g:=hw1 ▸ gu.of (Blk.new w 40 g.cells);have F0:Hid (Fr [] w w1):=hw1 ▸ (Fr.refl _ _).alloc _;have T0:Hid (∀u:Cls (Fr [] w1),Tab u.w):=λu=>(HT.out.fr F0.out (by simp)).fr u.ok (by simp);have c0:∀u:Cls (Fr [] w1),u.w.cell? ⟨w.heap.size,0,none⟩=some (.int .i64 g.words):=λu=>u.cell hb.c0 (by simp);have c1:∀u:Cls (Fr [] w1),u.w.cell? ⟨w.heap.size,1,none⟩=some (.int .i64 g.rw):=λu=>u.cell hb.c1 (by simp);have c2:∀u:Cls (Fr [] w1),u.w.cell? ⟨w.heap.size,2,none⟩=some (.int .i64 g.cw):=λu=>u.cell hb.c2 (by simp);have c3:∀u:Cls (Fr [] w1),u.w.cell? ⟨w.heap.size,3,none⟩=some (.int .i64 g.regions):=λu=>u.cell hb.c3 (by simp);have c4:∀u:Cls (Fr [] w1),u.w.cell? ⟨w.heap.size,4,none⟩=some (.int .i64 g.aG):=λu=>u.cell hb.c4 (by simp);have c5:∀u:Cls (Fr [] w1),u.w.cell? ⟨w.heap.size,5,none⟩=some (.int .i64 g.max):=λu=>u.cell hb.c5 (by simp);clear hw1 hb HX;refine gf (Fr [] w1) (by kernel_rfl) (by kernel_rfl) (Fr.refl _ _).drew ?_
  repeat (go_big_quiet_step ((first|(go_at_call 153;exact(HA.out _).mono λe w'' ⟨he,hw⟩=>⟨he,_,hw.symm⟩)|(go_at_call 152;exact Cls.grow (HX'.out _ (T0.out _))))))
  refine wpQuiet_nil ?_;rintro _ ⟨u,rfl⟩;go_wp2_with fail
  go_ret
  exact⟨rfl,F0.out.af u.ok⟩
end Go.Proofs.YtimkofiempcfdaaGreatDoor
