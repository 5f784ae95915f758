/- Several texts joined (pack.py): Rt Bu. -/
import Derived.Test.YtimlkjppaalfaaaGreatDoorProg
import Derived.Test.YtimlkjppaalfaaaGreatDoorPW05
import Derived.Test.YtimlkjppaalfaaaGreatDoorPW01
import Derived.WalkKit
import Derived.BigQuiet
import Derived.Deep.RegionHeld3
import Derived.Deep.CutRange
import Derived.Test.YtimlkjppaalfaaaGreatDoorPW00
set_option linter.unusedVariables false
set_option maxHeartbeats 800000
set_option maxRecDepth 100000
open Nat renaming le_trans->De
namespace Go.Proofs.YtimlkjppaalfaaaGreatDoor
open Go.RowKit Go.Gl
def dB(x:Int):Prop:=x=1\/x=2\/x=3
instance (x:Int):Decidable (dB x):=by unfold dB;infer_instance
structure Rg(w:World)(tb sb pb mb W n:Nat)(s t m:Nat->Int):Prop where
 set:Blk w tb 158 #[.int .i64 (W:Int),.slice (some ⟨sb,0,none⟩) n n,.slice (some ⟨pb,0,none⟩) n n,.slice (some ⟨mb,0,none⟩) n n]
 st:Blk w sb 93 (cX .i64 n s)
 fx:Blk w pb 3 (cX .i64 n t)
 gL:Blk w mb 3 (cX .i64 n m)
 pm:pb≠mb
 pos:1<=W
 max:n*W<=4194304
 sok:∀k,k<n->0<=s k/\s k<=5
 tok:∀k,k<n->((k*W:Nat):Int)<=t k/\t k<=((k*W+W:Nat):Int)
 mok:∀k,k<n->((k*W:Nat):Int)<=m k/\m k<=((k*W+W:Nat):Int)
section
variable {w w':World}{tb sb pb mb W n:Nat}{s t m:Nat->Int}{F:List Nat}
theorem Rg.fr(h:Rg w tb sb pb mb W n s t m)(hf:Fr F w w')(h1:tb∉F)(h2:sb∉F)(h3:pb∉F)(h4:mb∉F):Rg w' tb sb pb mb W n s t m:=⟨h.set.fr hf h1,h.st.fr hf h2,h.fx.fr hf h3,h.gL.fr hf h4,h.pm,h.pos,h.max,h.sok,h.tok,h.mok⟩
theorem Rg.fr0(h:Rg w tb sb pb mb W n s t m)(hf:Fr [] w w'):Rg w' tb sb pb mb W n s t m:=h.fr hf (by simp) (by simp) (by simp) (by simp)
theorem Rg.drewN(h:Rg w tb sb pb mb W n s t m)(k:Nat):Rg (w.drewN k) tb sb pb mb W n s t m:=⟨h.set,h.st,h.fx,h.gL,h.pm,h.pos,h.max,h.sok,h.tok,h.mok⟩
theorem Rg.drew(h:Rg w tb sb pb mb W n s t m):Rg w.drew tb sb pb mb W n s t m:=⟨h.set,h.st,h.fx,h.gL,h.pm,h.pos,h.max,h.sok,h.tok,h.mok⟩
theorem Rg.c0(h:Rg w tb sb pb mb W n s t m):w.cell? ⟨tb,0,none⟩=some (.int .i64 (W:Int)):=by rw[h.set.cell];rfl
theorem Rg.c1(h:Rg w tb sb pb mb W n s t m):w.cell? ⟨tb,1,none⟩=some (.slice (some ⟨sb,0,none⟩) n n):=by rw[h.set.cell];rfl
theorem Rg.c2(h:Rg w tb sb pb mb W n s t m):w.cell? ⟨tb,2,none⟩=some (.slice (some ⟨pb,0,none⟩) n n):=by rw[h.set.cell];rfl
theorem Rg.cs(h:Rg w tb sb pb mb W n s t m){k:Nat}(hk:k<n):w.cell? ⟨sb,k,none⟩=some (.int .i64 (s k)):=by rw[h.st.cell,ej hk]
theorem Rg.ct(h:Rg w tb sb pb mb W n s t m){k:Nat}(hk:k<n):w.cell? ⟨pb,k,none⟩=some (.int .i64 (t k)):=by rw[h.fx.cell,ej hk]
theorem Rg.ts(h:Rg w tb sb pb mb W n s t m):tb≠sb:=h.set.apart h.st (by decide)
theorem Rg.tp(h:Rg w tb sb pb mb W n s t m):tb≠pb:=h.set.apart h.fx (by decide)
theorem Rg.sp(h:Rg w tb sb pb mb W n s t m):sb≠pb:=h.st.apart h.fx (by decide)
theorem Rg.sm(h:Rg w tb sb pb mb W n s t m):sb≠mb:=h.st.apart h.gL (by decide)
theorem Rg.dC(h:Rg w tb sb pb mb W n s t m):n<=4194304:=De (Nat.le_mul_of_pos_right n h.pos) h.max
theorem Rg.bX(h:Rg w tb sb pb mb W n s t m){k:Nat}(hk:k<n):k*W+W<=4194304:=by
 have h1:(k+1)*W<=n*W:=Nat.mul_le_mul_right W hk;have h2:=h.max;rw[Nat.add_mul,Nat.one_mul]at h1;omega
theorem Rg.nU(h:Rg w tb sb pb mb W n s t m){k:Nat}(hk:k<n):W<=4194304:=by have:=h.bX hk;omega
end
theorem ry{w:World}{tb sb pb mb W n:Nat}{s t m:Nat->Int}(h:Rg w tb sb pb mb W n s t m){k:Nat}(hk:k<n) :
  Calls Tryz.prog 63 #[.pointer (some ⟨tb,0,none⟩),.int .i64 (k:Int)] w λe w'=>e=.returned (.bool true)/\w=w':=by
 have c1:=h.c1;have hn:=h.dC;have hk':(k:Int)<(n:Int):=by omega
 clear h;go_enter Tryz.func63,Tryz.ntmps63
 go_wp2
 go_ret
 exact⟨rfl,rfl⟩
theorem zj{w:World}{tb sb pb mb W n:Nat}{s t m:Nat->Int}(h:Rg w tb sb pb mb W n s t m){r:Int}(hr:¬ (0<=r/\r<(n:Int))) :
  Calls Tryz.prog 63 #[.pointer (some ⟨tb,0,none⟩),.int .i64 r] w λe w'=>e=.returned (.bool false)/\w=w':=by
 have c1:=h.c1;have hn:=h.dC;clear h;by_cases c0:r<0
 ·clear hr;go_enter Tryz.func63,Tryz.ntmps63
  go_wp2
  go_ret
  exact⟨rfl,rfl⟩
 ·have c2:(n:Int)<=r:=by omega
  clear hr;go_enter Tryz.func63,Tryz.ntmps63
  go_wp2
  go_ret
  exact⟨bd (by simp;omega),rfl⟩
theorem jW{w:World}{tb W k:Nat}(c0:w.cell? ⟨tb,0,none⟩=some (.int .i64 (W:Int)))(hb:k*W<=4194304) :
  Calls Tryz.prog 123 #[.pointer (some ⟨tb,0,none⟩),.int .i64 (k:Int)] w λe w'=>e=.returned (.int .i64 ((k*W:Nat):Int))/\w=w':=by
 have HB:=aa hb;clear hb;go_enter Tryz.func123,Tryz.ntmps123
 go_wp2
 go_ret
 refine⟨bo ?_,rfl⟩;have:=HB.out;rw[<- Int.natCast_mul,IntWalk.wrap64_in _ ⟨by omega,by omega⟩]
theorem iE{w:World}{tb sb pb mb W n:Nat}{s t m:Nat->Int}(h:Rg w tb sb pb mb W n s t m){k:Nat}(hk:k<n) :
  Calls Tryz.prog 123 #[.pointer (some ⟨tb,0,none⟩),.int .i64 (k:Int)] w λe w'=>e=.returned (.int .i64 ((k*W:Nat):Int))/\w=w':=
 jW h.c0 (by have:=h.bX hk;omega)
theorem xi{w:World}{tb sb pb mb W n:Nat}{s t m:Nat->Int}(h:Rg w tb sb pb mb W n s t m){k:Nat}(hk:k<n) :
  Calls Tryz.prog 167 #[.pointer (some ⟨tb,0,none⟩),.int .i64 (k:Int)] w λe w'=>e=.returned (.int .i64 ((k*W+W:Nat):Int))/\∃q,w'=w.drewN q:=by
 have c0:=h.c0;have hb:=aa (h.bX hk);have HB:Hid (∀q,Calls Tryz.prog 123 #[.pointer (some ⟨tb,0,none⟩),.int .i64 (k:Int)] (w.drewN q) λe w'=>e=.returned (.int .i64 ((k*W:Nat):Int))/\∃m,w'=(w.drewN q).drewN m):=λq=>(iE (h.drewN q) hk).mono λe w' ⟨he,hw⟩=>⟨he,0,hw.symm⟩;have hw:=aa (Int.natCast_add (k*W) W);clear h;generalize k*W=x at *;go_enter Tryz.func167,Tryz.ntmps167
 go_wp2_with fail
 go_quiet ((go_at_call 123;exact Calls.quiet_of (HB.out _)))
 go_wp2
 go_ret
 refine⟨bo ?_,_,rfl⟩;have:=hb.out;rw[hw.out,IntWalk.wrap64_in _ ⟨by omega,by omega⟩]
theorem jf{x:Int}(hx:dB x)(w:World):Calls Tryz.prog 168 #[.int .i64 x] w λe w'=>e=.returned (.bool true)/\w=w':=by
 rcases hx with rfl|rfl|rfl;all_goals
  go_enter Tryz.func168,Tryz.ntmps168
  go_wp2
  go_ret
  exact⟨rfl,rfl⟩
theorem pO{w:World}{tb sb pb mb W n:Nat}{s t m:Nat->Int}(h:Rg w tb sb pb mb W n s t m){k:Nat}(hk:k<n) :
  Calls Tryz.prog 28 #[.pointer (some ⟨tb,0,none⟩),.int .i64 (k:Int)] w λe w'=>e=.returned (.int .i64 (s k))/\w=w':=by
 have H:=aa (ry h hk);have c1:=h.c1;have cr:=h.cs hk;have hn:=h.dC;have hk':(k:Int)<(n:Int):=by omega
 generalize s k=x at *;clear h;go_enter Tryz.func28,Tryz.ntmps28
 go_wp2_with (go_at_call 63;refine H.out.mono ?_;rintro e w' ⟨rfl,rfl⟩)
 go_ret
 exact⟨rfl,rfl⟩
theorem uw{w:World}{tb sb pb mb W n:Nat}{s t m:Nat->Int}(h:Rg w tb sb pb mb W n s t m){r:Int}(hr:¬ (0<=r/\r<(n:Int))) :
  Calls Tryz.prog 28 #[.pointer (some ⟨tb,0,none⟩),.int .i64 r] w λe w'=>e=.returned (.int .i64 0)/\w=w':=by
 have H:=aa (zj h hr);clear h hr;go_enter Tryz.func28,Tryz.ntmps28
 go_wp2_with (go_at_call 63;refine H.out.mono ?_;rintro e w' ⟨rfl,rfl⟩)
 go_ret
 exact⟨rfl,rfl⟩
theorem Bh{w:World}{tb sb pb mb W n:Nat}{s t m:Nat->Int}(h:Rg w tb sb pb mb W n s t m){k:Nat}(hk:k<n) :
  Calls Tryz.prog 113 #[.pointer (some ⟨tb,0,none⟩),.int .i64 (k:Int)] w λe w'=>e=.returned (.int .i64 (t k))/\w=w':=by
 have H:=aa (ry h hk);have c1:=h.c2;have cr:=h.ct hk;have hn:=h.dC;have hk':(k:Int)<(n:Int):=by omega
 generalize t k=x at *;clear h;go_enter Tryz.func113,Tryz.ntmps113
 go_wp2_with (go_at_call 63;refine H.out.mono ?_;rintro e w' ⟨rfl,rfl⟩)
 go_ret
 exact⟨rfl,rfl⟩
section
variable {w w':World}{tb sb pb mb W n:Nat}{s t m:Nat->Int}{F:List Nat}
theorem pP{f:Nat->Int}{k n:Nat}{x:Int}{p:Nat->Int->Prop}(h:∀j,j<n->p j (f j))(hx:k<n->p k x):∀j,j<n->p j (ak f k x j):=λj hj=>by
 unfold ak;split
 ·next e=>subst e;exact hx hj
 ·exact h j hj
theorem Rg.xj(h:Rg w tb sb pb mb W n s t m)(k:Nat)(x:Int)(hx:0<=x/\x<=5):Rg (w.setCell ⟨sb,k,none⟩ (.int .i64 x)) tb sb pb mb W n (ak s k x) t m:=
 ⟨h.set.far (p:=⟨sb,k,none⟩) h.ts _,h.st.putRow k x,h.fx.far (p:=⟨sb,k,none⟩) h.sp.symm _,h.gL.far (p:=⟨sb,k,none⟩) h.sm.symm _,h.pm,h.pos,h.max,pP (p:=λ_ x=>0<=x/\x<=5) h.sok (λ_=>hx),h.tok,h.mok⟩
theorem Rg.zk(h:Rg w tb sb pb mb W n s t m)(k:Nat)(x:Int)(hx:k<n->((k*W:Nat):Int)<=x/\x<=((k*W+W:Nat):Int)):Rg (w.setCell ⟨pb,k,none⟩ (.int .i64 x)) tb sb pb mb W n s (ak t k x) m:=
 ⟨h.set.far (p:=⟨pb,k,none⟩) h.tp _,h.st.far (p:=⟨pb,k,none⟩) h.sp _,h.fx.putRow k x,h.gL.far (p:=⟨pb,k,none⟩) h.pm.symm _,h.pm,h.pos,h.max,h.sok,pP (p:=λj x=>((j*W:Nat):Int)<=x/\x<=((j*W+W:Nat):Int)) h.tok hx,h.mok⟩
end
theorem lj(f:Nat->Int){a k:Nat}(x:Int)(h:a<=k)(g:Nat->Int)(hx:x=g k):ak (bg f a k g) k x=bg f a (k+1) g:=by
 funext j
 unfold ak bg;by_cases h1:j=k
 ·subst h1;rw[if_pos rfl,if_pos (by omega),hx]
 ·rw[if_neg h1];by_cases h2:a<=j/\j<k
  ·rw[if_pos h2,if_pos (by omega)]
  ·rw[if_neg h2,if_neg (by omega)]
def dD(s:Nat->Int)(n k:Nat):Prop:=k<n/\s k=0/\∀j,j<k->s j≠0
def gw(s:Nat->Int)(n:Nat):Prop:=∀j,j<n->s j≠0
theorem dD.unique{s:Nat->Int}{n k k':Nat}(h:dD s n k)(h':dD s n k'):k=k':=by
 rcases Nat.lt_trichotomy k k' with hl|hl|hl
 ·exact absurd h.2.1 (h'.2.2 k hl)
 ·exact hl
 ·exact absurd h'.2.1 (h.2.2 k' hl)
theorem ux(s:Nat->Int)(n:Nat):(∃k,dD s n k)\/gw s n:=by
 induction n with
|zero=>exact .inr λj hj=>by omega
|succ n ih=>
  rcases ih with⟨k,h1,h2,h3⟩|ih
  ·exact .inl ⟨k,by omega,h2,h3⟩
  ·by_cases h:s n=0
   ·exact .inl ⟨n,by omega,h,ih⟩
   ·refine .inr λj hj=>?_;rcases Nat.lt_or_ge j n with hl|hl
    ·exact ih j hl
    ·obtain rfl:j=n:=by omega
     exact h
def mU(w:World)(tb sb pb mb W n:Nat)(s' t' m':Nat->Int)(v:Value)(e:Ending)(w':World):Prop:=
 e=.returned v/\Rg w' tb sb pb mb W n s' t' m'/\Fr [sb,pb,mb] w w'
def BV(w:World)(s:Nat->Int)(n:Nat)(e:Ending)(w':World):Prop:=
 ∃z:Int,e=.returned (.int .i64 z)/\w=w'/\((∃k:Nat,z=k/\dD s n k)\/(z=-1/\gw s n))
theorem mV{w:World}{tb sb pb mb W n:Nat}{s t m:Nat->Int}(h:Rg w tb sb pb mb W n s t m) :
  Calls Tryz.prog 169 #[.slice (some ⟨sb,0,none⟩) n n,.int .i64 0] w (BV w s n):=by
 have H:=aa h;have hn:=h.dC;clear h;go_enter Tryz.func169,Tryz.ntmps169
 go_wp2_with fail
 go_loopw [8] (λi wr=>∃k:Nat,i=.int .i64 k/\k<=n/\w=wr/\∀j,j<k->s j≠0) (λi _=>n-(intOf i).toNat)
 case atStart=>exact⟨0,rfl,Nat.zero_le _,rfl,λj hj=>by omega⟩
 case round=>
  obtain⟨k,rfl,hk,rfl,hno⟩:=hrel;have HN:=aa hno;clear hno;by_cases hlt:k<n
  ·have hlt':(k:Int)<(n:Int):=by omega
   have hc:=H.out.cs hlt;by_cases h0:s k=0
   ·rw[h0]at hc;have H0:=aa h0;clear h0;go_wp2_with fail
    go_ret
    exact⟨_,rfl,rfl,.inl ⟨k,rfl,hlt,H0.out,HN.out⟩⟩
   ·have H0:=aa h0;generalize s k=x at hc h0;have h0':¬ 0=x:=λh=>h0 h.symm;go_wp2_with fail
    go_roundw
    case rel=>
     refine⟨k+1,by go_num,by omega,trivial,λj hj=>?_⟩;rcases Nat.lt_or_ge j k with hl|hl
     ·exact HN.out j hl
     ·obtain rfl:j=k:=by omega
      exact H0.out
    case measure=>simp[intOf];omega
  ·have hlt':¬ (k:Int)<(n:Int):=by omega
   obtain rfl:k=n:=by omega
   go_wp2_with fail
   go_ret
   exact⟨_,rfl,rfl,.inr ⟨rfl,HN.out⟩⟩
theorem xk{w:World}{tb sb pb mb W n:Nat}{s t m:Nat->Int}(h:Rg w tb sb pb mb W n s t m){x:Int}(hx:dB x){k:Nat}(hl:dD s n k) :
  Calls Tryz.prog 160 #[.pointer (some ⟨tb,0,none⟩),.int .i64 x] w (mU w tb sb pb mb W n (ak s k x) t m (.tuple #[.int .i64 (k:Int),.int .i64 0])):=by
 have HI:Hid (Calls Tryz.prog 169 #[.slice (some ⟨sb,0,none⟩) n n,.int .i64 0] w λe w'=>e=.returned (.int .i64 (k:Int))/\w=w'):=(mV h).mono λe w' ⟨z,he,hw,hz⟩=>by
  rcases hz with⟨k',rfl,hk'⟩|⟨_,hno⟩
  ·rw[he,hl.unique hk'];exact⟨rfl,hw⟩
  ·exact absurd hl.2.1 (hno k hl.1)
 have HF:=aa (jf hx);have hk:=hl.1;have hk':(k:Int)<(n:Int):=by omega
 have hn:=h.dC;have c1:=h.c1;have cr:=h.cs hk;have cz:=h.st.frozen k;have HP:Hid (Rg (w.setCell ⟨sb,k,none⟩ (.int .i64 x)) tb sb pb mb W n (ak s k x) t m):=h.xj k x (by rcases hx with rfl|rfl|rfl <;> decide);rw[hl.2.1]at cr;unfold mU;clear h hl hx;go_enter Tryz.func160,Tryz.ntmps160
 go_wp2_with (first|(go_at_call 168;refine(HF.out _).mono ?_;rintro e w' ⟨rfl,rfl⟩)|(go_at_call 169;refine HI.out.mono ?_;rintro e w' ⟨rfl,rfl⟩))
 go_ret2
 exact⟨rfl,HP.out,(Fr.refl _ _).setCell (p:=⟨sb,k,none⟩) (.inl (by simp)) _⟩
theorem rC{w:World}{tb sb pb mb W n:Nat}{s t m:Nat->Int}(h:Rg w tb sb pb mb W n s t m){x:Int}(hx:dB x)(hl:gw s n) :
  Calls Tryz.prog 160 #[.pointer (some ⟨tb,0,none⟩),.int .i64 x] w λe w'=>e=.returned (.tuple #[.int .i64 0,.int .i64 6])/\w=w':=by
 have HI:Hid (Calls Tryz.prog 169 #[.slice (some ⟨sb,0,none⟩) n n,.int .i64 0] w λe w'=>e=.returned (.int .i64 (-1))/\w=w'):=(mV h).mono λe w' ⟨z,he,hw,hz⟩=>by
  rcases hz with⟨k',rfl,hk'⟩|⟨hz,hno⟩
  ·exact absurd hk'.2.1 (hl k' hk'.1)
  ·rw[he,hz];exact⟨rfl,hw⟩
 have HF:=aa (jf hx);have hn:=h.dC;have c1:=h.c1;clear h hl hx;go_enter Tryz.func160,Tryz.ntmps160
 go_wp2_with (first|(go_at_call 168;refine(HF.out _).mono ?_;rintro e w' ⟨rfl,rfl⟩)|(go_at_call 169;refine HI.out.mono ?_;rintro e w' ⟨rfl,rfl⟩))
 go_ret2
 exact⟨rfl,rfl⟩
theorem uy{w:World}{tb sb pb mb W n:Nat}{s t m:Nat->Int}(h:Rg w tb sb pb mb W n s t m){k:Nat}(hk:k<n)(hx:dB (s k)){c:Int}(hc1:((k*W:Nat):Int)<=c)(hc2:c<=((k*W+W:Nat):Int)) :
  Calls Tryz.prog 159 #[.pointer (some ⟨tb,0,none⟩),.int .i64 (k:Int),.int .i64 c] w (mU w tb sb pb mb W n s (ak t k c) m (.int .i64 0)):=by
 have HF:=aa (jf hx);have HH:=aa (ry h hk);have HB:=aa (iE h hk);have HE:=aa (xi h hk);have hk':(k:Int)<(n:Int):=by omega
 have hn:=h.dC;have c1:=h.c1;have c2:=h.c2;have cr:=h.cs hk;have ct:=h.ct hk;have cz:=h.fx.frozen k;have HP:=aa (h.zk k c (λ_=>⟨hc1,hc2⟩));unfold mU;clear h hx;generalize k*W+W=E at *;generalize k*W=B at *;generalize s k=y at *;generalize t k=T at *;go_enter Tryz.func159,Tryz.ntmps159
 go_wp2_with (first|(go_at_call 63;refine HH.out.mono ?_;rintro e w' ⟨rfl,rfl⟩)|(go_at_call 168;refine(HF.out _).mono ?_;rintro e w' ⟨rfl,rfl⟩)|(go_at_call 123;refine HB.out.mono ?_;rintro e w' ⟨rfl,rfl⟩)|(go_at_call 167;refine HE.out.mono ?_;rintro e w' ⟨rfl,q,rfl⟩))
 go_ret
 exact⟨rfl,HP.out.drewN _,((Fr.refl _ _).setCell (p:=⟨pb,k,none⟩) (.inl (by simp)) _).drewN _⟩
structure Rg0(w:World)(tb sb pb mb W n:Nat)(s t m:Nat->Int):Prop where
 set:Blk w tb 158 #[.int .i64 (W:Int),.slice (some ⟨sb,0,none⟩) n n,.slice (some ⟨pb,0,none⟩) n n,.slice (some ⟨mb,0,none⟩) n n]
 st:Blk w sb 93 (cX .i64 n s)
 fx:Blk w pb 3 (cX .i64 n t)
 gL:Blk w mb 3 (cX .i64 n m)
 pm:pb≠mb
 pos:1<=W
 max:n*W<=4194304
section
variable {w w':World}{tb sb pb mb W n:Nat}{s t m:Nat->Int}{F:List Nat}
theorem Rg0.drew(h:Rg0 w tb sb pb mb W n s t m):Rg0 w.drew tb sb pb mb W n s t m:=⟨h.set,h.st,h.fx,h.gL,h.pm,h.pos,h.max⟩
theorem Rg0.c0(h:Rg0 w tb sb pb mb W n s t m):w.cell? ⟨tb,0,none⟩=some (.int .i64 (W:Int)):=by rw[h.set.cell];rfl
theorem Rg0.c1(h:Rg0 w tb sb pb mb W n s t m):w.cell? ⟨tb,1,none⟩=some (.slice (some ⟨sb,0,none⟩) n n):=by rw[h.set.cell];rfl
theorem Rg0.c2(h:Rg0 w tb sb pb mb W n s t m):w.cell? ⟨tb,2,none⟩=some (.slice (some ⟨pb,0,none⟩) n n):=by rw[h.set.cell];rfl
theorem Rg0.c3(h:Rg0 w tb sb pb mb W n s t m):w.cell? ⟨tb,3,none⟩=some (.slice (some ⟨mb,0,none⟩) n n):=by rw[h.set.cell];rfl
theorem Rg0.cs(h:Rg0 w tb sb pb mb W n s t m){k:Nat}(hk:k<n):w.cell? ⟨sb,k,none⟩=some (.int .i64 (s k)):=by rw[h.st.cell,ej hk]
theorem Rg0.ct(h:Rg0 w tb sb pb mb W n s t m){k:Nat}(hk:k<n):w.cell? ⟨pb,k,none⟩=some (.int .i64 (t k)):=by rw[h.fx.cell,ej hk]
theorem Rg0.cm(h:Rg0 w tb sb pb mb W n s t m){k:Nat}(hk:k<n):w.cell? ⟨mb,k,none⟩=some (.int .i64 (m k)):=by rw[h.gL.cell,ej hk]
theorem Rg0.dC(h:Rg0 w tb sb pb mb W n s t m):n<=4194304:=De (Nat.le_mul_of_pos_right n h.pos) h.max
theorem Rg0.bX(h:Rg0 w tb sb pb mb W n s t m){k:Nat}(hk:k<n):k*W<=4194304:=De (Nat.mul_le_mul_right W (by omega)) h.max
theorem Rg0.xj(h:Rg0 w tb sb pb mb W n s t m)(k:Nat)(x:Int):Rg0 (w.setCell ⟨sb,k,none⟩ (.int .i64 x)) tb sb pb mb W n (ak s k x) t m:=
 ⟨h.set.far (p:=⟨sb,k,none⟩) (h.set.apart h.st (by decide)) _,h.st.putRow k x,h.fx.far (p:=⟨sb,k,none⟩) (h.fx.apart h.st (by decide)) _,h.gL.far (p:=⟨sb,k,none⟩) (h.gL.apart h.st (by decide)) _,h.pm,h.pos,h.max⟩
theorem Rg0.zk(h:Rg0 w tb sb pb mb W n s t m)(k:Nat)(x:Int):Rg0 (w.setCell ⟨pb,k,none⟩ (.int .i64 x)) tb sb pb mb W n s (ak t k x) m:=
 ⟨h.set.far (p:=⟨pb,k,none⟩) (h.set.apart h.fx (by decide)) _,h.st.far (p:=⟨pb,k,none⟩) (h.st.apart h.fx (by decide)) _,h.fx.putRow k x,h.gL.far (p:=⟨pb,k,none⟩) h.pm.symm _,h.pm,h.pos,h.max⟩
theorem Rg0.CL(h:Rg0 w tb sb pb mb W n s t m)(k:Nat)(x:Int):Rg0 (w.setCell ⟨mb,k,none⟩ (.int .i64 x)) tb sb pb mb W n s t (ak m k x):=
 ⟨h.set.far (p:=⟨mb,k,none⟩) (h.set.apart h.gL (by decide)) _,h.st.far (p:=⟨mb,k,none⟩) (h.st.apart h.gL (by decide)) _,h.fx.far (p:=⟨mb,k,none⟩) h.pm _,h.gL.putRow k x,h.pm,h.pos,h.max⟩
end
def rD(w:World)(tb sb pb mb W n:Nat)(s' t' m':Nat->Int)(v:Value)(e:Ending)(w':World):Prop:=
 e=.returned v/\Rg0 w' tb sb pb mb W n s' t' m'/\Fr [sb,pb,mb] w w'
theorem Bi{w:World}{tb sb pb mb W n:Nat}{s t m:Nat->Int}(h:Rg0 w tb sb pb mb W n s t m){k:Nat}(hk:k<n) :
  Calls Tryz.prog 78 #[.pointer (some ⟨tb,0,none⟩),.int .i64 (k:Int)] w (rD w tb sb pb mb W n (ak s k 0) (ak t k ((k*W:Nat):Int)) (ak m k ((k*W:Nat):Int)) (.tuple #[])):=by
 have hk':(k:Int)<(n:Int):=by omega
 have hn:=h.dC;have c1:=h.c1;have cs:=h.cs hk;have cz:=h.st.frozen k;have HP:=aa (h.xj k 0);obtain⟨B,hB⟩:∃B,B=k*W:=⟨_,rfl⟩;have EB:=aa hB;rw[<- hB];clear hB;unfold rD;clear h;generalize ak s k 0=s' at *;generalize s k=y at *;go_enter Tryz.func78,Tryz.ntmps78
 go_wp2_with fail
 have HF1:Hid (Fr [sb,pb,mb] w (w.setCell ⟨sb,k,none⟩ (.int .i64 0))):=(Fr.refl _ _).setCell (p:=⟨sb,k,none⟩) (.inl (by simp)) _;generalize w.setCell ⟨sb,k,none⟩ (.int .i64 0)=w1 at *;clear c1 cs cz;have H1:=HP.out.drew;have HB1:=aa (jW H1.c0 (H1.bX hk));rw[<- EB.out]at HB1;have c2:=HP.out.c2;have ct:=HP.out.ct hk;have cz:=HP.out.fx.frozen k;have HP2:=aa (HP.out.zk k (B:Int));clear H1;generalize t k=T at *;refine bF 9 (by kernel_rfl) (by kernel_rfl) ?_;simp only[List.take_succ_cons,List.take_zero,List.drop_succ_cons,List.drop_zero]
 repeat still_step
 still_call (iS HB1.out)
 repeat still_step
 refine wpStill_nil ?_;go_wp2_with fail
 have HF2:Hid (Fr [sb,pb,mb] w ((w1.setCell ⟨pb,k,none⟩ (.int .i64 (B:Int))).drew)):=(HF1.out.setCell (p:=⟨pb,k,none⟩) (.inl (by simp)) _).drew;have HP2':=aa HP2.out.drew;generalize (w1.setCell ⟨pb,k,none⟩ (.int .i64 (B:Int))).drew=w2 at *;clear c2 ct cz;have H2:=HP2'.out.drew;have HB2:=aa (jW H2.c0 (H2.bX hk));rw[<- EB.out]at HB2;have c3:=HP2'.out.c3;have cm:=HP2'.out.cm hk;have cz:=HP2'.out.gL.frozen k;have HP3:=aa (HP2'.out.CL k (B:Int));clear H2;generalize m k=M at *;refine bF 9 (by kernel_rfl) (by kernel_rfl) ?_;simp only[List.take_succ_cons,List.take_zero,List.drop_succ_cons,List.drop_zero]
 repeat still_step
 still_call (iS HB2.out)
 repeat still_step
 refine wpStill_nil ?_;go_wp2
 go_end0
 exact⟨rfl,HP3.out.drew,(HF2.out.setCell (p:=⟨mb,k,none⟩) (.inl (by simp)) _).drew⟩
structure rE(g:Geo)(W n:Nat):Prop where
 CY:1<=n
 dC:n<=65536
 pos:1<=W
 max:n*W<=4194304
 words:g.words=((n*W:Nat):Int)
 rw:g.rw=(W:Int)
 regions:g.regions=(n:Int)
theorem zo(g:Geo){W n:Nat}(ok:rE g W n)(w:World):Calls Tryz.prog 77 #[g.val] w λe w'=>e=.returned (.bool true)/\Fr [] w w':=by
 obtain⟨Wd,rw',C,R,N,M⟩:=g;obtain⟨h1,h2,h3,h4,h5,h6,h7⟩:=ok;simp only at h5 h6 h7;have e1:(W:Int)<=4194304 / (n:Int):=by
  rw[Int.le_ediv_iff_mul_le (by omega),Int.mul_comm,<- Int.natCast_mul];omega
 have e2:Wd=R*rw':=by rw[h5,h6,h7,Int.natCast_mul]
 rw[<- h6,<- h7]at e1;have hR:1<=R/\R<=65536:=by omega
 obtain⟨hR1,hR2⟩:=hR;have hr:1<=rw':=by omega
 have hWd:0<=Wd/\Wd<=4194304:=by omega
 have e3:wrap64 (R*rw')=Wd:=by rw[<- e2];exact IntWalk.wrap64_in Wd ⟨by omega,by omega⟩
 obtain⟨hW1,hW2⟩:=hWd;clear h1 h2 h3 h4 h5 h6 h7 e2;have e4:(4194304:Int).tdiv R=4194304 / R:=Int.tdiv_eq_ediv_of_nonneg (by decide);have e5:0<=4194304 / R:=Int.ediv_nonneg (by decide) (by omega);have e6:4194304 / R<=4194304:=Int.ediv_le_self _ (by decide);generalize 4194304 / R=Q at *;have hR0:¬ R=0:=by omega
 unfold Geo.val;go_enter Tryz.func77,Tryz.ntmps77
 go_wp2_with fail
 go_quiet (fail)
 go_wp2
 go_ret
 exact⟨rfl,((Fr.refl _ _).alloc _).drewN _⟩
theorem Tryz.rF:(Tryz.prog.info? 93).map (λi=>(i.zero,i.size,i.bytes))=some (some (.int .i64 0),1,8):=by kernel_rfl
theorem pQ{P:Program}{t e:TypeId}{i:TypeInfo}(ht:P.underlying t=some (.slice e))(hi:P.info? e=some i)(hz:i.zero=some (.int .i64 0))(h1:i.size=1)(h8:i.bytes=8){n:Nat}(hn:n<=4194304)(w:World) :
  (Instr.makeSlice t (.int .i64 (n:Int)) (.int .i64 (n:Int))).run P w=.ok (.slice (some ⟨w.heap.size,0,none⟩) n n) (w.alloc (.cells (cX .i64 n λ_=>0) e)):=by
 have hr:=run_make (P:=P) w t e i (.int .i64 0) ht hi hz .i64 .i64 n n (by omega) (Int.le_refl _) (by rw[h8];omega) (by omega);simp only[Int.toNat_natCast]at hr;rw[hr,h1,Nat.mul_one]
 congr 3
 rw[je,<- cU (.int .i64 0) rfl n,Array.toArray_toList]
section
variable (w:World)(t:TypeId)(cs:Array Value)(o1 o2 o3 o4:Obj)
theorem rH:Blk ((((w.alloc (.cells cs t)).alloc o2).alloc o3).alloc o4).drew w.heap.size t cs:=((((Blk.new w t cs).alloc o2).alloc o3).alloc o4).drew
theorem rI:Blk ((((w.alloc o1).alloc (.cells cs t)).alloc o3).alloc o4).drew (w.heap.size+1) t cs:=(((Blk.aX (w:=w.alloc o1) t cs (by simp)).alloc o3).alloc o4).drew
theorem rJ:Blk ((((w.alloc o1).alloc o2).alloc (.cells cs t)).alloc o4).drew (w.heap.size+1+1) t cs:=((Blk.aX (w:=(w.alloc o1).alloc o2) t cs (by simp)).alloc o4).drew
theorem Bj:Blk ((((w.alloc o1).alloc o2).alloc o3).alloc (.cells cs t)).drew (w.heap.size+1+1+1) t cs:=(Blk.aX (w:=((w.alloc o1).alloc o2).alloc o3) t cs (by simp)).drew
end
def BW(w1:World)(W n:Nat)(p:Value)(w':World):Prop:=
 ∃tb sb pb mb,p=.pointer (some ⟨tb,0,none⟩)/\Rg0 w' tb sb pb mb W n (λ_=>0) (λ_=>0) (λ_=>0)/\Fr [] w1 w'/\w1.heap.size<=tb/\w1.heap.size<=sb/\w1.heap.size<=pb/\w1.heap.size<=mb
def BX(w:World)(W n:Nat)(e:Ending)(w':World):Prop:=
 ∃tb sb pb mb,e=.returned (.tuple #[.pointer (some ⟨tb,0,none⟩),.int .i64 0])/\Rg w' tb sb pb mb W n (λ_=>0) (λk=>((k*W:Nat):Int)) (λk=>((k*W:Nat):Int))/\Fr [] w w'/\w.heap.size<=tb/\w.heap.size<=sb/\w.heap.size<=pb/\w.heap.size<=mb
theorem zq(g:Geo){W n:Nat}(ok:rE g W n)(w:World):Calls Tryz.prog 38 #[g.val] w (BX w W n):=by
 have hm:=zo g ok;obtain⟨i0,hi,hz0,hz1,hz2⟩:=info_parts Tryz.rF;obtain⟨j0,hj,hj0,hj1,hj2⟩:=info_parts Tryz.ce;have HOk:=aa ok;have hn:=ok.dC;obtain⟨Wd,rw',C,R,N,M⟩:=g;obtain rfl:rw'=(W:Int):=ok.rw;obtain rfl:R=(n:Int):=ok.regions;have HM:=aa hm;unfold Geo.val;clear ok hm;go_enter Tryz.func38,Tryz.ntmps38
 go_wp2_with fail
 refine(HM.out _).mono ?_;rintro e w1 ⟨rfl,hf⟩;have hg:=gn.of ((Blk.new w 39 (Geo.cells ⟨Wd,(W:Int),C,(n:Int),N,M⟩)).fr hf (by simp));have g1:=hg.c1;have g3:=hg.c3;have HF:Hid (Fr [] w w1):=((Fr.refl _ _).alloc _).ae hf;clear hf hg;go_wp2_with fail
 have hmk1:∀w',(Instr.makeSlice 156 (.int .i64 (n:Int)) (.int .i64 (n:Int))).run Tryz.prog w'=.ok (.slice (some ⟨w'.heap.size,0,none⟩) n n) (w'.alloc (.cells (cX .i64 n λ_=>0) 93)):=pQ Tryz.underlying156 hi hz0 hz1 hz2 (by omega);have hmk2:∀w',(Instr.makeSlice 25 (.int .i64 (n:Int)) (.int .i64 (n:Int))).run Tryz.prog w'=.ok (.slice (some ⟨w'.heap.size,0,none⟩) n n) (w'.alloc (.cells (cX .i64 n λ_=>0) 3)):=pQ Tryz.underlying25 hj hj0 hj1 hj2 (by omega);have K:∀w2,Fr [] w1 w2->w2.cell? ⟨w.heap.size,1,none⟩=some (.int .i64 (W:Int))/\w2.cell? ⟨w.heap.size,3,none⟩=some (.int .i64 (n:Int)):=λw2 hf=>⟨(hf.cell (af g1) (by simp)).trans g1,(hf.cell (af g3) (by simp)).trans g3⟩;have K0:=K _ (Fr.refl [] w1).drew;have K1:=λo1=>K _ ((Fr.refl [] w1).alloc o1).drew;have K2:=λo1 o2=>K _ (((Fr.refl [] w1).alloc o1).alloc o2).drew;have K3:=λo1 o2 o3=>K _ ((((Fr.refl [] w1).alloc o1).alloc o2).alloc o3).drew;have K4:=λo1 o2 o3 o4=>K _ (((((Fr.refl [] w1).alloc o1).alloc o2).alloc o3).alloc o4).drew;have HK:=aa K0;clear K;go_cut [4] from 9 to 21 (λp w'=>BW w1 W n p w')
 case first=>
  go_region_held3 (λw'=>w'.cell? ⟨w.heap.size,1,none⟩=some (.int .i64 (W:Int))/\w'.cell? ⟨w.heap.size,3,none⟩=some (.int .i64 (n:Int)))
   (first|with_reducible exact K0|with_reducible exact K1 _|with_reducible exact K2 _ _|with_reducible exact K3 _ _ _|with_reducible exact K4 _ _ _ _)
   (first|fail)
  all_goals
   go_wp2_with fail
   go_meet
   case rel=>
    refine⟨_,_,_,_,rfl,⟨Bj _ _ _ _ _ _,?c1,?c2,?c3,?c4,HOk.out.pos,HOk.out.max⟩,((((((Fr.refl [] w1).alloc _).alloc _).alloc _).alloc _).drew),by omega,by omega,by omega,by omega⟩;case c1=>first|with_reducible exact rH _ _ _ _ _ _|with_reducible exact rI _ _ _ _ _ _|with_reducible exact rJ _ _ _ _ _ _
    case c2=>first|with_reducible exact rH _ _ _ _ _ _|with_reducible exact rI _ _ _ _ _ _|with_reducible exact rJ _ _ _ _ _ _
    case c3=>first|with_reducible exact rH _ _ _ _ _ _|with_reducible exact rI _ _ _ _ _ _|with_reducible exact rJ _ _ _ _ _ _
    case c4=>omega
 case rest=>
  obtain⟨tb,sb,pb,mb,rfl,hr,hf,l1,l2,l3,l4⟩:=hcut;have HR:=aa hr;have HF1:Hid (Fr [] w wc):=HF.out.ae hf;have HL:Hid (w.heap.size<=tb/\w.heap.size<=sb/\w.heap.size<=pb/\w.heap.size<=mb):=by have:=HF.out.size;exact⟨by omega,by omega,by omega,by omega⟩
  have c1:=hr.c1;clear hr hf l1 l2 l3 l4 hmk1 hmk2 K0 K1 K2 K3 K4 g1 g3 HK;have hn4:n<=4194304:=by omega
  go_wp2_with fail
  go_loopw [27] (λi wr=>∃k:Nat,i=.int .i64 k/\k<=n/\Rg0 wr tb sb pb mb W n (λ_=>0) (bg (λ_=>0) 0 k λj=>((j*W:Nat):Int)) (bg (λ_=>0) 0 k λj=>((j*W:Nat):Int))/\Fr [] w wr) (λi _=>n-(intOf i).toNat)
  case atStart=>exact⟨0,rfl,Nat.zero_le _,by rw[iD (Nat.le_refl _)];exact HR.out,HF1.out⟩
  case round=>
   obtain⟨k,rfl,hk,hr,hfr⟩:=hrel;have HR2:=aa hr;have HF2:=aa hfr;by_cases hlt:k<n
   ·have hlt':(k:Int)<(n:Int):=by omega
    have HE:=aa (Bi hr hlt);unfold rD at HE;rw[lj (λ_=>0) (a:=0) (k:=k) ((k*W:Nat):Int) (by omega) (λj=>((j*W:Nat):Int)) rfl,show ak (λ_=>(0:Int)) k 0=λ_=>0 from by funext j;unfold ak;split <;> rfl]at HE;clear hr hfr;go_wp2_with fail
    refine HE.out.mono ?_;rintro e w4 ⟨rfl,hr4,hf4⟩;have HR4:=aa hr4;have HF4:Hid (Fr [] w w4):=HF2.out.trans hf4 (λx hx=>by have:=HL.out;simp at hx;omega);clear hr4 hf4;go_wp2_with fail
    go_roundw
    case rel=>exact⟨k+1,by go_num,by omega,HR4.out,HF4.out⟩
    case measure=>simp[intOf];omega
   ·have hlt':¬ (k:Int)<(n:Int):=by omega
    obtain rfl:k=n:=by omega
    clear hr hfr;go_wp2_with fail
    go_ret2
    have h:=HR2.out;have hrow:cX .i64 k (bg (λ_=>0) 0 k λj=>((j*W:Nat):Int))=cX .i64 k λj=>((j*W:Nat):Int):=rx λj hj=>by unfold bg;rw[if_pos (by omega)]
    refine⟨tb,sb,pb,mb,rfl,⟨h.set,h.st,?_,?_,h.pm,h.pos,h.max,λ_ _=>by decide,λj hj=>by omega,λj hj=>by omega⟩,HF2.out,HL.out⟩
    ·rw[<- hrow];exact h.fx
    ·rw[<- hrow];exact h.gL
structure Bu(w:World)(g:Nat)(t:TypeId)(x y:Int):Prop where
 blk:Blk w g t #[.int .i64 x,.int .i64 y]
 low:0<=x
 ord:x<=y
 max:y<=4194304
section
variable {w w':World}{g:Nat}{t:TypeId}{x y:Int}{F:List Nat}
theorem Bu.c0(h:Bu w g t x y):w.cell? ⟨g,0,none⟩=some (.int .i64 x):=by rw[h.blk.cell];rfl
theorem Bu.c1(h:Bu w g t x y):w.cell? ⟨g,1,none⟩=some (.int .i64 y):=by rw[h.blk.cell];rfl
theorem Bu.made(w:World)(t:TypeId){x y:Int}(h0:0<=x)(h1:x<=y)(h2:y<=4194304):Bu (w.alloc (.cells #[.int .i64 x,.int .i64 y] t)) w.heap.size t x y:=⟨Blk.new _ _ _,h0,h1,h2⟩
end
def nuX(a b:Int):Int:=if 0<=a/\a<b/\b<=4194304 then a else 0
def nuY(a b:Int):Int:=if 0<=a/\a<b/\b<=4194304 then b else 0
def nuE(a b:Int):Int:=if 0<=a/\a<=b/\b<=4194304 then 0 else 2
theorem zr(a b:Int):(a<0/\Hid (nuX a b=0/\nuY a b=0/\nuE a b=2))\/(¬ a<0/\b<a/\Hid (nuX a b=0/\nuY a b=0/\nuE a b=2))\/(¬ a<0/\¬ b<a/\4194304<b/\Hid (nuX a b=0/\nuY a b=0/\nuE a b=2)) \/
  (¬ a<0/\¬ b<a/\¬ 4194304<b/\a=b/\Hid (nuX a b=0/\nuY a b=0/\nuE a b=0))\/(¬ a<0/\¬ b<a/\¬ 4194304<b/\¬ a=b/\Hid (nuX a b=a/\nuY a b=b/\nuE a b=0)):=by
 unfold Hid nuX nuY nuE;by_cases h1:a<0
 ·refine .inl ⟨h1,?_⟩;rw[if_neg (by omega),if_neg (by omega),if_neg (by omega)];exact⟨rfl,rfl,rfl⟩
 by_cases h2:b<a
 ·refine .inr (.inl ⟨h1,h2,?_⟩);rw[if_neg (by omega),if_neg (by omega),if_neg (by omega)];exact⟨rfl,rfl,rfl⟩
 by_cases h3:4194304<b
 ·refine .inr (.inr (.inl ⟨h1,h2,h3,?_⟩));rw[if_neg (by omega),if_neg (by omega),if_neg (by omega)];exact⟨rfl,rfl,rfl⟩
 by_cases h4:a=b
 ·refine .inr (.inr (.inr (.inl ⟨h1,h2,h3,h4,?_⟩)));rw[if_neg (by omega),if_neg (by omega),if_pos (by omega)];exact⟨rfl,rfl,rfl⟩
 ·refine .inr (.inr (.inr (.inr ⟨h1,h2,h3,h4,?_⟩)));rw[if_pos (by omega),if_pos (by omega),if_pos (by omega)];exact⟨rfl,rfl,rfl⟩
def nuV(a b:Int):Value:=.tuple #[.agg #[.int .i64 (nuX a b),.int .i64 (nuY a b)],.int .i64 (nuE a b)]
theorem xl(a b:Int)(w:World):Calls Tryz.prog 161 #[.int .i64 a,.int .i64 b] w λe w'=>e=.returned (nuV a b)/\Fr [] w w':=by
 unfold nuV;rcases zr a b with⟨c1,hv⟩|⟨c1,c2,hv⟩|⟨c1,c2,c3,hv⟩|⟨c1,c2,c3,rfl,hv⟩|⟨c1,c2,c3,c4,hv⟩;all_goals
  rw[hv.out.1,hv.out.2.1,hv.out.2.2];clear hv;go_enter Tryz.func161,Tryz.ntmps161
  go_wp2
 ·refine bodyPost_ret (v:=.tuple #[.agg #[.int .i64 0,.int .i64 0],.int .i64 2]) (by simp[results,Tryz.results161,go_sem, *]) rfl ⟨rfl,(Fr.refl _ _).alloc _⟩
 ·refine bodyPost_ret (v:=.tuple #[.agg #[.int .i64 0,.int .i64 0],.int .i64 2]) (by simp[results,Tryz.results161,go_sem, *]) rfl ⟨rfl,(Fr.refl _ _).alloc _⟩
 ·refine bodyPost_ret (v:=.tuple #[.agg #[.int .i64 0,.int .i64 0],.int .i64 2]) (by simp[results,Tryz.results161,go_sem, *]) rfl ⟨rfl,(Fr.refl _ _).alloc _⟩
 ·refine bodyPost_ret (v:=.tuple #[.agg #[.int .i64 0,.int .i64 0],.int .i64 0]) (by simp[results,Tryz.results161,go_sem, *]) rfl ⟨rfl,(Fr.refl _ _).alloc _⟩
 ·refine bodyPost_ret (v:=.tuple #[.agg #[.int .i64 a,.int .i64 b],.int .i64 0]) (by simp[results,Tryz.results161,go_sem, *]) rfl ⟨rfl,(Fr.refl _ _).alloc _⟩
theorem uz{w:World}{g:Nat}{x y:Int}(h:Bu w g 215 x y):Calls Tryz.prog 112 #[.pointer (some ⟨g,0,none⟩)] w λe w'=>e=.returned (.tuple #[.int .i64 x,.int .i64 y])/\∃k,w'=w.drewN k:=by
 have c0:=h.c0;have c1:=h.c1;clear h;go_enter Tryz.func112,Tryz.ntmps112
 go_wp2_with fail
 go_quiet (fail)
 go_wp2
 go_ret2
 exact⟨rfl,_,rfl⟩
end Go.Proofs.YtimlkjppaalfaaaGreatDoor
