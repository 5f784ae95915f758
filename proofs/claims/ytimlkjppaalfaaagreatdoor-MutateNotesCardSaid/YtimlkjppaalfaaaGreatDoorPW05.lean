/- Several texts joined (pack.py): Nm P1 Rn. -/
import Derived.Test.YtimlkjppaalfaaaGreatDoorProg
import Derived.Test.YtimlkjppaalfaaaGreatDoorPW00
import Derived.WalkKit
import Derived.BigQuiet
import Derived.Test.YtimlkjppaalfaaaGreatDoorPW03
import Derived.Test.YtimlkjppaalfaaaGreatDoorPW04
set_option linter.unusedVariables false
set_option maxHeartbeats 3200000
set_option maxRecDepth 100000
open Int renaming toNat_natCast->Db
open Nat renaming le_refl->Dd
namespace Go.Proofs.YtimlkjppaalfaaaGreatDoor
open Go.RowKit Go.Gl
theorem Tryz.ce:(Tryz.prog.info? 3).map (λi=>(i.zero,i.size,i.bytes))=some (some (.int .i64 0),1,8):=by kernel_rfl
def jU(l:List Nat):List Value:=l.map λ(x:Nat)=>.int .i64 (x:Int)
theorem pK(a b:List Nat):jU (a++b)=jU a++jU b:=by simp[jU]
theorem rp(w:World)(v:Value)(t:TypeId):∀(j:Nat) u,[v][j]?=some u->(w.alloc (.cells #[v] t)).cell? (Addr.add ⟨w.heap.size,0,none⟩ j)=some u:=by
 intro j u hj
 match j,hj with
|0,hj=>
  simp only[List.getElem?_cons_zero,Option.some.injEq]at hj;subst hj;have:=(Blk.new w t #[v]).cell 0;exact this
def ints(l:List Nat):List Int:=l.map λ(x:Nat)=>(x:Int)
theorem pL{w:World}{ab aw n:Nat}{f:Nat->Nat}{c:Int}(h:Ar w ab aw n f c)(a b:Int) :
  Calls Tryz.prog 110 #[.pointer (some ⟨ab,0,none⟩),.int .i64 a,.int .i64 b] w λe w'=>e=.returned (.int .i64 (gj n a b))/\w=w':=by
 have HL:=aa (ld h);have HW:=aa (gl n a b);clear h;rcases HW.out with⟨A,B,rfl,rfl,h1,h2,he⟩|⟨h1,he⟩|⟨h1,h2,he⟩|⟨h1,h2,h3,he⟩
 ·rw[he];clear he;have c1:¬ ((B:Int)<(A:Int)):=by omega
  have c2:¬ ((n:Int)<(B:Int)):=by omega
  go_enter Tryz.func110,Tryz.ntmps110
  go_wp2_with (go_at_call 115;refine HL.out.mono ?_;rintro e w' ⟨rfl,rfl⟩)
  go_ret
  exact⟨rfl,rfl⟩
 all_goals
  rw[he];clear he;go_enter Tryz.func110,Tryz.ntmps110
  go_wp2_with (go_at_call 115;refine HL.out.mono ?_;rintro e w' ⟨rfl,rfl⟩)
  go_ret
  exact⟨rfl,rfl⟩
def jd(k:Int):Bool:=decide (k=1)||decide (k=2)
theorem rq(h:Hd)(w:World):Calls Tryz.prog 111 #[h.val] w λe w'=>e=.returned (.bool (jd h.kind))/\Fr [] w w':=by
 obtain⟨k,s,p,a,t⟩:=h;unfold Hd.val;by_cases h1:k=1
 ·subst h1;go_enter Tryz.func111,Tryz.ntmps111
  go_wp2
  go_ret
  exact⟨rfl,(Fr.refl _ _).alloc _⟩
 ·by_cases h2:k=2
  ·subst h2;go_enter Tryz.func111,Tryz.ntmps111
   go_wp2
   go_ret
   exact⟨rfl,(Fr.refl _ _).alloc _⟩
  ·have HE:Hid (false=jd k):=by show _=_;unfold jd;simp[h1,h2]
   go_enter Tryz.func111,Tryz.ntmps111
   go_wp2
   go_ret
   exact⟨bd (by rw[<- HE.out];simp;omega),(Fr.refl _ _).alloc _⟩
def jV(w:World)(ab aw n:Nat)(f:Nat->Nat)(i:Int)(e:Ending)(w':World):Prop:=
 ∃c',e=.returned (.tuple #[(atH n f i).val,.int .i64 (atE n f i)])/\Ar w' ab aw n f c'/\Fr [ab] w w'
theorem nY{w:World}{ab aw n:Nat}{f:Nat->Nat}{c:Int}(h:Ar w ab aw n f c)(i:Int) :
  Calls Tryz.prog 109 #[.pointer (some ⟨ab,0,none⟩),.int .i64 i] w (jV w ab aw n f i):=by
 have HA:Hid (Ar (w.alloc (.cells Hd.zero.cells 151)) ab aw n f c):=h.fr ((Fr.refl [] _).alloc _) (by simp) (by simp);have q1:=h.set.lt;have HQ:Hid (ab<w.heap.size/\aw<w.heap.size):=⟨q1,h.row.lt⟩;clear q1;unfold jV;rcases tD n f i with⟨k,rfl,hk,h1,h2,h3,h4⟩|⟨k,rfl,hk,h1,h2,h3,h4⟩|⟨k,rfl,hk,h1,h2,h3,h4,h5⟩|⟨hi,h1,h2⟩
 iterate 2
  ·obtain⟨x,hx⟩:∃x,f k=x:=⟨_,rfl⟩;have HU:=aa (km x (by rw[<- hx];exact h.ok k));have HL:=aa (kE HA.out rfl hk hx);rw[hx]at h1 h2;rw[h1,h2]at HU;rw[h3,h4];clear h h1 h2 h3 h4 hx;go_enter Tryz.func109,Tryz.ntmps109
   go_wp2_with fail
   refine HL.out.mono ?_;rintro e w1 ⟨rfl,ha1,hf1⟩;have HA1:=aa ha1;have HF1:=aa hf1;clear ha1 hf1;go_wp2_with fail
   refine(HU.out _).mono ?_;rintro e w2 ⟨rfl,hf2⟩;have HF2:=aa hf2;obtain⟨⟨z0,z1,z2,z3,z4⟩,f0,f1,f2,f3,f4⟩:=Hd.cE (((Blk.new w 151 Hd.zero.cells).fr HF1.out (by simp;exact Nat.ne_of_gt HQ.out.1)).fr hf2 (by simp));have N0:w.heap.size<w2.heap.size:=af z0;clear hf2;unfold Hd.val Hd.zero;go_wp2_with fail
   refine bodyPost_ret (v:=.tuple #[.agg #[.int .i64 0,.int .i64 0,.int .i64 0,.int .i64 0,.int .i64 0],.int .i64 30]) (by simp[results,Tryz.results109,go_sem, *]) rfl ⟨wrap64 (c+1),rfl,?_,?_⟩
   ·have:=HQ.out;exact HA1.out.fr (F:=[w.heap.size]) (((HF2.out.mono (λx hx=>by cases hx)).jq (.inl (by simp)) _ _ _ _ _).alloc _) (by simp;omega) (by simp;omega)
   ·exact((((((Fr.refl [ab] w).alloc _).ae HF1.out).aO HF2.out).jq (.inr (Dd _)) _ _ _ _ _).alloc _)
 ·obtain⟨x,hx⟩:∃x,f k=x:=⟨_,rfl⟩;have HU:=aa (km x (by rw[<- hx];exact h.ok k));have HL:=aa (kE HA.out rfl hk hx);rw[hx]at h1 h2 h3 h4;rw[h1]at HU;rw[h4,h5];generalize Hd.of (x:Int)=g at *;clear h h1 h3 h4 h5 hx;go_enter Tryz.func109,Tryz.ntmps109
  go_wp2_with fail
  refine HL.out.mono ?_;rintro e w1 ⟨rfl,ha1,hf1⟩;have HA1:=aa ha1;have HF1:=aa hf1;clear ha1 hf1;go_wp2_with fail
  refine(HU.out _).mono ?_;rintro e w2 ⟨rfl,hf2⟩;have HF2:=aa hf2;obtain⟨⟨z0,z1,z2,z3,z4⟩,f0,f1,f2,f3,f4⟩:=Hd.cE (((Blk.new w 151 Hd.zero.cells).fr HF1.out (by simp;exact Nat.ne_of_gt HQ.out.1)).fr hf2 (by simp));have N0:w.heap.size<w2.heap.size:=af z0;clear hf2;obtain⟨K,s,p,a,t⟩:=g;simp only at h2;unfold Hd.val;go_wp2_with fail
  refine bodyPost_ret (v:=.tuple #[.agg #[.int .i64 K,.int .i64 s,.int .i64 p,.int .i64 a,.int .i64 t],.int .i64 0]) (by simp[results,Tryz.results109,go_sem, *]) rfl ⟨wrap64 (c+1),rfl,?_,?_⟩
  ·have:=HQ.out;exact HA1.out.fr (F:=[w.heap.size]) (((HF2.out.mono (λx hx=>by cases hx)).jq (.inl (by simp)) _ _ _ _ _).alloc _) (by simp;omega) (by simp;omega)
  ·exact((((((Fr.refl [ab] w).alloc _).ae HF1.out).aO HF2.out).jq (.inr (Dd _)) _ _ _ _ _).alloc _)
 ·have HL:=aa (pG HA.out i);rw[h1,h2];have HI:=aa hi;clear h h1 h2 hi;go_enter Tryz.func109,Tryz.ntmps109
  go_wp2_with fail
  refine HL.out.mono ?_;rintro e w1 ⟨v,er,c',rfl,ha1,hf1,ht⟩;have HA1:=aa ha1;have HF1:=aa hf1;obtain⟨rfl,rfl,rfl⟩:v=0/\er=2/\c'=c:=by
   rcases ht with⟨a1,a2,_⟩|⟨_,a1,a2,a3⟩
   ·exact absurd ⟨a1,a2⟩ HI.out
   ·exact⟨a1,a2,a3⟩
  obtain⟨⟨z0,z1,z2,z3,z4⟩,f0,f1,f2,f3,f4⟩:=Hd.cE ((Blk.new w 151 Hd.zero.cells).fr hf1 (by simp;exact Nat.ne_of_gt HQ.out.1));clear ha1 hf1 ht;go_wp2_with fail
  refine bodyPost_ret (v:=.tuple #[.agg #[.int .i64 0,.int .i64 0,.int .i64 0,.int .i64 0,.int .i64 0],.int .i64 2]) (by simp[results,Tryz.results109,go_sem, *]) rfl ⟨c',rfl,?_,?_⟩
  ·have:=HQ.out;exact HA1.out.fr (F:=[w.heap.size]) ((Fr.refl _ _).jq (.inl (by simp)) _ _ _ _ _) (by simp;omega) (by simp;omega)
  ·exact(((Fr.refl [ab] w).alloc _).ae HF1.out).jq (.inr (Dd _)) _ _ _ _ _
def mT(w:World)(ab aw n:Nat)(er:Int)(f':Nat->Nat)(e:Ending)(w':World):Prop:=
 ∃c',e=.returned (.int .i64 er)/\Ar w' ab aw n f' c'/\Fr [ab,aw] w w'
theorem li{h:Hd}(r:h.bW)(w:World):Calls Tryz.prog 138 #[h.val] w λe w'=>e=.returned (.tuple #[.int .u64 h.word,.int .i64 0])/\Fr [] w w':=by
 have:=mP h w;unfold Hd.ans Hd.err at this;rw[if_pos (Hd.bO.2 r),if_pos (Hd.bO.2 r)]at this;exact this
theorem ru{h:Hd}(r:¬ h.bW)(w:World):Calls Tryz.prog 138 #[h.val] w λe w'=>e=.returned (.tuple #[.int .u64 0,.int .i64 3])/\Fr [] w w':=by
 have:=mP h w;unfold Hd.ans Hd.err at this;rw[if_neg (λx=>r (Hd.bO.1 x)),if_neg (λx=>r (Hd.bO.1 x))]at this;exact this
theorem uu{w:World}{ab aw n:Nat}{f:Nat->Nat}{c:Int}(h:Ar w ab aw n f c)(i s p:Int)(hi:i<=9223372036854775807) :
  Calls Tryz.prog 92 #[.pointer (some ⟨ab,0,none⟩),.int .i64 i,.int .i64 s,.int .i64 p] w (mT w ab aw n (kP n i s p) (kQ n f i s p)):=by
 have H:=aa h;have HI:=aa hi;have hw:=ud n f i s p;clear h;unfold mT;rcases hw with⟨r,h1,h2⟩|⟨r,hr,h1,h2⟩|⟨I,S,P,rfl,rfl,rfl,hS,hP,hIS,r,hword,h1,h2⟩
 ·rw[h1,h2];have HP:=aa (ru r);unfold hU Hd.val at HP;clear h1 h2 r hi;go_enter Tryz.func92,Tryz.ntmps92
  go_wp2_with fail
  refine(HP.out _).mono ?_;rintro e w1 ⟨rfl,hf1⟩;have HF1:=aa hf1;clear hf1;go_wp2_with fail
  go_ret
  exact⟨c,rfl,H.out.fr HF1.out (by simp) (by simp),HF1.out.mono (λx hx=>by cases hx)⟩
 ·rw[h1,h2];have HP:=aa (li r);unfold hU Hd.val at HP;generalize Hd.word _=x at HP;have HR:Hid (¬ jT n i s):=hr;clear h1 h2 r hr hi;go_enter Tryz.func92,Tryz.ntmps92
  go_wp2_with fail
  refine(HP.out _).mono ?_;rintro e w1 ⟨rfl,hf1⟩;have HF1:=aa hf1;clear hf1;go_wp2_with fail
  refine(pH (H.out.fr HF1.out (by simp) (by simp)) i s HI.out).mono ?_;rintro e w2 ⟨er,f2,rfl,ha2,hf2,ht2⟩;obtain⟨rfl,rfl⟩:er=2/\f2=f:=by
   rcases ht2 with⟨a1,_⟩|⟨_,a2,a3⟩
   ·exact absurd a1 HR.out
   ·exact⟨a2,a3⟩
  have HA2:=aa ha2;have HF2:=aa hf2;clear ha2 hf2 ht2;go_wp2_with fail
  go_ret
  exact⟨c,rfl,HA2.out,(HF1.out.mono (λx hx=>by cases hx)).trans HF2.out (λx hx=>by simp at hx;simp[hx])⟩
 ·rw[h1,h2];have HP:=aa (li r);rw[hword]at HP;unfold hU Hd.val at HP;have HX:Hid (aY S P<18446744073709551616):=yQ hS.2 hP;generalize aY S P=x at *;have HN:Hid (I+S<=n/\I<n):=⟨hIS,by omega⟩;clear h1 h2 r hword hi hS hP hIS;go_enter Tryz.func92,Tryz.ntmps92
  go_wp2_with fail
  refine(HP.out _).mono ?_;rintro e w1 ⟨rfl,hf1⟩;have HF1:=aa hf1;clear hf1;go_wp2_with fail
  refine(zi (H.out.fr HF1.out (by simp) (by simp)) rfl rfl HN.out.1).mono ?_;rintro e w2 ⟨rfl,ha2,hf2⟩;have HA2:=aa ha2;have HF2:=aa hf2;clear ha2 hf2;go_wp2_with fail
  refine(pI HA2.out rfl HN.out.2 rfl HX.out).mono ?_;rintro e w3 ⟨rfl,ha3,hf3⟩;have HA3:=aa ha3;have HF3:=aa hf3;clear ha3 hf3;go_wp2_with fail
  go_ret
  exact⟨_,rfl,HA3.out,((HF1.out.mono (G:=[ab,aw]) (λx hx=>by cases hx)).trans HF2.out (λx hx=>by simp at hx;simp[hx])).ae HF3.out⟩
def ei(w:World)(ab aw n:Nat)(f:Nat->Nat)(l:List Int)(er:Int)(e:Ending)(w':World):Prop:=
 ∃(A:Option Addr) (cap:Nat) (c':Int),e=.returned (.tuple #[.slice A l.length cap,.int .i64 er])/\Own w.heap.size w' A l/\Ar w' ab aw n f c'/\Fr [ab] w w'
theorem pM{w:World}{ab aw n:Nat}{f:Nat->Nat}{c:Int}(h:Ar w ab aw n f c)(a b:Int) :
  Calls Tryz.prog 64 #[.pointer (some ⟨ab,0,none⟩),.int .i64 a,.int .i64 b] w (ei w ab aw n f (bJ n f a b) (co n f a b)):=by
 have H:=aa h;have HB:=aa (pL h a b);have hmax:=h.max;have hout:gj n a b=2\/∃A B:Nat,a=(A:Int)/\b=(B:Int)/\A<=B/\B<=n/\gj n a b=0:=by
  rcases gl n a b with h1|h1|h1|h1
  ·exact .inr h1
  ·exact .inl h1.2
  ·exact .inl h1.2.2
  ·exact .inl h1.2.2.2
 obtain⟨i0,hi,hz0,hz1,hz2⟩:=info_parts Tryz.ce;have HQ:Hid (ab<w.heap.size/\aw<w.heap.size):=⟨h.set.lt,h.row.lt⟩;clear h;unfold ei;rcases hout with he|⟨A,B,rfl,rfl,hAB,hBn,he⟩
 ·rw[he]at HB;rw[(kN he).1,(kN he).2];clear he;go_enter Tryz.func64,Tryz.ntmps64
  go_wp2_with (go_at_call 110;refine HB.out.mono ?_;rintro e w' ⟨rfl,rfl⟩)
  go_ret2
  exact⟨_,_,c,rfl,Own.nil _ _ _,H.out,Fr.refl _ _⟩
 ·have HSm:Hid (∀l,cM f A B=some l->bJ n f A B=l/\co n f A B=0):=λl hl=>kh he hl;have HNo:Hid (cM f A B=none->bJ n f A B=[]/\co n f A B=30):=λhl=>pu he hl;rw[he]at HB;have HG:=aa (hJ.start f hAB);generalize bJ n f A B=L at *;generalize co n f A B=E at *;generalize cM f A B=O at *;clear he;go_enter Tryz.func64,Tryz.ntmps64
  go_wp2_with (go_at_call 110;refine HB.out.mono ?_;rintro e w' ⟨rfl,rfl⟩)
  go_loopw [1,9] (λi v wr=>∃(k:Nat) (acc:List Int) (c1:Int),i=.int .i64 k/\hJ f O B k acc/\wr.ownsRow w.heap.size 3 1 v acc.length (iX acc)/\Ar wr ab aw n f c1/\Fr [ab] w wr) (λi _ _=>B-(intOf i).toNat)
  case atStart=>exact⟨A,[],c,rfl,HG.out,World.ownsRow_nil _ _ _ _,H.out,Fr.refl _ _⟩
  case round=>
   obtain⟨k,acc,c1,rfl,hg,hown,ha,hf⟩:=hrel;have HG1:=aa hg;have HO1:=aa hown;have HA1:=aa ha;have HF1:=aa hf;clear hg hown ha hf;have hkB:=HG1.out.le;have hacc:=HG1.out.len;by_cases hlt:k<B
   ·have hlt':(k:Int)<(B:Int):=by omega
    have hkn:k<n:=by omega
    obtain⟨ea,ee⟩:=kM (f:=f) hkn;have HC:=aa (nY HA1.out (k:Int));have hstep:bY f k B↔((Hd.of (f k)).kind=1\/(Hd.of (f k)).kind=2)/\(Hd.of (f k)).size<=(B:Int)-(k:Int):=Iff.rfl;have hnext:=λ(hs:bY f k B) (s:Nat) (e:(Hd.of (f k)).size=(s:Int)) (h1:1<=s)=>HG1.out.next hlt hs e h1;have hbad:=λ(hs:¬ bY f k B)=>HG1.out.broken hlt hs;have hcase:=gI n f (k:Int);unfold jV at HC;rw[ea,ee]at HC hcase;generalize Hd.of (f k)=g at *;have HNext:=aa hnext;have HBad:=aa hbad;clear hnext hbad ea ee;obtain⟨K,s,p,q,t⟩:=g;simp only at hstep HC hcase HNext;have HI:=aa (rq ⟨K,s,p,q,t⟩);unfold Hd.val at HI HC;simp only at HI HC;have hway:(K=0/\¬ bY f k B)\/(¬ K=0/\jd K=false/\¬ bY f k B)\/(¬ K=0/\jd K=true/\(B:Int)-(k:Int)<s/\¬ bY f k B)\/(¬ K=0/\jd K=true/\∃S:Nat,s=(S:Int)/\(S:Int)<=(B:Int)-(k:Int)/\1<=S/\bY f k B):=by
     rw[hstep];unfold jd;by_cases h0:K=0
     ·exact .inl ⟨h0,by omega⟩
     ·refine .inr ?_;by_cases h1:K=1\/K=2
      ·have hb:(decide (K=1)||decide (K=2))=true:=by simpa using h1
       rw[hb];refine .inr ?_;have hr:1<=s:=by
        rcases hcase with⟨_,x,_⟩|⟨h30,_⟩|⟨_,_,_,r⟩
        ·omega
        ·rw[if_neg h0]at h30;omega
        ·have:=r.ways;simp only at this;omega
       by_cases h2:(B:Int)-(k:Int)<s
       ·exact .inl ⟨h0,rfl,h2,by omega⟩
       ·exact .inr ⟨h0,rfl,s.toNat,by omega,by omega,by omega,h1,by omega⟩
      ·have hb:(decide (K=1)||decide (K=2))=false:=by simpa using h1
       rw[hb];exact .inl ⟨h0,rfl,by omega⟩
    clear hstep hcase;rcases hway with⟨rfl,hns⟩|⟨h0,hb,hns⟩|⟨h0,hb,hs,hns⟩|⟨h0,hb,S,rfl,hs,hs1,hst⟩
    ·rw[if_pos rfl]at HC;have HR:=aa (HNo.out (HBad.out hns));clear hns;go_wp2_with fail
     refine HC.out.mono ?_;rintro e w2 ⟨c2,rfl,ha2,hf2⟩;have HA2:=aa ha2;have HF2:=aa hf2;clear ha2 hf2;go_wp2_with fail
     go_ret2
     rw[HR.out.1,HR.out.2];exact⟨_,_,c2,rfl,Own.nil _ _ _,HA2.out.fr ((Fr.refl [] _).alloc _) (by simp) (by simp),(HF1.out.ae HF2.out).alloc _⟩
    ·rw[if_neg h0]at HC;rw[hb]at HI;have HR:=aa (HNo.out (HBad.out hns));clear hns hb;go_wp2_with fail
     refine HC.out.mono ?_;rintro e w2 ⟨c2,rfl,ha2,hf2⟩;have HA2:=aa ha2;have HF2:=aa hf2;clear ha2 hf2;go_wp2_with fail
     refine(HI.out _).mono ?_;rintro e w3 ⟨rfl,hf3⟩;have HF3:=aa hf3;clear hf3;go_wp2_with fail
     go_ret2
     rw[HR.out.1,HR.out.2];exact⟨_,_,c2,rfl,Own.nil _ _ _,HA2.out.fr (((Fr.refl [] _).alloc _).ae HF3.out) (by simp) (by simp),((HF1.out.ae HF2.out).alloc _).aO HF3.out⟩
    ·rw[if_neg h0]at HC;rw[hb]at HI;have HR:=aa (HNo.out (HBad.out hns));clear hns hb;go_wp2_with fail
     refine HC.out.mono ?_;rintro e w2 ⟨c2,rfl,ha2,hf2⟩;have HA2:=aa ha2;have HF2:=aa hf2;clear ha2 hf2;go_wp2_with fail
     refine(HI.out _).mono ?_;rintro e w3 ⟨rfl,hf3⟩;obtain⟨d0,d1,d2,d3,d4⟩:=kz.of (h:=⟨K,s,p,q,t⟩) ((Blk.new w2 151 _).fr hf3 (by simp));simp only at d0 d1 d2 d3 d4;have HF3:=aa hf3;clear hf3;go_wp2_with fail
     go_ret2
     rw[HR.out.1,HR.out.2];exact⟨_,_,c2,rfl,Own.nil _ _ _,HA2.out.fr (((Fr.refl [] _).alloc _).ae HF3.out) (by simp) (by simp),((HF1.out.ae HF2.out).alloc _).aO HF3.out⟩
    ·rw[if_neg h0]at HC;rw[hb]at HI;have HR:=aa (HNext.out hst S rfl hs1);have HM:Hid (k+S<=B):=by show k+S<=B;omega
     clear hst hb;go_wp2_with fail
     refine HC.out.mono ?_;rintro e w2 ⟨c2,rfl,ha2,hf2⟩;have HA2:=aa ha2;have HF2:=aa hf2;clear ha2 hf2;go_wp2_with fail
     refine(HI.out _).mono ?_;rintro e w3 ⟨rfl,hf3⟩;obtain⟨d0,d1,d2,d3,d4⟩:=kz.of (h:=⟨K,(S:Int),p,q,t⟩) ((Blk.new w2 151 _).fr hf3 (by simp));simp only at d0 d1 d2 d3 d4;have HF3:=aa hf3;have HB3:=aa ((Blk.new w2 151 #[.int .i64 K,.int .i64 (S:Int),.int .i64 p,.int .i64 q,.int .i64 t]).fr hf3 (by simp));clear hf3;have HO3:=aa (dS HO1.out ((HF2.out.alloc _).aO HF3.out) (λg hg=>by simpa using vX HO1.out HA1.out.set (by decide) g hg));have hac:acc.length+1<=4194305:=by omega
     go_wp2_with (at_builtin;refine wpList_append_own _ rfl _ _ 25 rfl w.heap.size 3 i0 (.int .i64 0) 1 8 Tryz.underlying25 hi hz0 hz1 hz2 rfl (by decide) _ _ _ rfl (HO3.out.alloc _) ⟨_,0,none⟩ 1 1 [.int .i64 (k:Int)] rfl rfl (rp _ _ _) ?c2 ?c3 ?c4 ?c5 ?_)
     case c2=>intro u hu;simp at hu;subst hu;rfl
     case c3=>unfold maxLen;omega
     case c4=>omega
     case c5=>have:=HF1.out.size;have:=HF2.out.size;have:=HF3.out.size;simp at *;omega
     intro v' w4 hown4 hgr4 _;have HO4:Hid (w4.ownsRow w.heap.size 3 1 v' (acc++[(k:Int)]).length (iX (acc++[(k:Int)]))):=by
      rw[wj,List.length_append];exact hown4
     have HF4:Hid (Fr [ab] w w4):=jQ ((((HF1.out.ae HF2.out).alloc _).aO HF3.out).alloc _) HO3.out hgr4;have HA4:=aa ((HA2.out.fr ((((Fr.refl [] _).alloc _).ae HF3.out).alloc _) (by simp) (by simp)).fr (gY hgr4) (tC HO3.out HQ.out.1) (tC HO3.out HQ.out.2));have e0:w4.cell? ⟨w2.heap.size,1,none⟩=some (.int .i64 (S:Int)):=
      ((HB3.out.alloc _).fr (gY hgr4) (λhx=>vX HO3.out HB3.out (by decide) _ (by simpa using hx) rfl)).cell 1
     clear hown4 hgr4;go_wp2_with fail
     go_roundw
     case rel=>exact⟨k+S,_,_,by go_num,HR.out,HO4.out,HA4.out,HF4.out⟩
     case measure=>simp[intOf];omega
   ·have HR:=aa (HSm.out _ (HG1.out.done hlt));obtain⟨A9,c9,rfl,ho9⟩:=Own.row HO1.out;have HO9:=aa ho9;clear ho9;go_wp2_with fail
    go_ret2
    rw[HR.out.1,HR.out.2];exact⟨_,_,c1,rfl,HO9.out,HA1.out,HF1.out⟩
theorem ko{w:World}{ab aw n:Nat}{f:Nat->Nat}{c:Int}(h:Ar w ab aw n f c)(i:Int) :
  Calls Tryz.prog 67 #[.pointer (some ⟨ab,0,none⟩),.int .i64 i] w (ei w ab aw n f (bc n f i) (du n f i)):=by
 have H:=aa h;have hmax:=h.max;have HQ:Hid (ab<w.heap.size/\aw<w.heap.size):=⟨h.set.lt,h.row.lt⟩;have HC:=aa (nY h i);unfold jV at HC;obtain⟨i0,hi,hz0,hz1,hz2⟩:=info_parts Tryz.ce;have hway:(¬ atE n f i=0)\/(atE n f i=0/\¬ (atH n f i).kind=1)\/(atE n f i=0/\(atH n f i).kind=1/\(0<=i/\i<(n:Int))/\(n:Int)-i<(atH n f i).size) \/
   (atE n f i=0/\(atH n f i).kind=1/\∃I S P:Nat,i=(I:Int)/\I<n/\(atH n f i).size=(S:Int)/\(atH n f i).aQ=(P:Int)/\P<S/\I+S<=n):=by
  rcases gI n f i with⟨h1,_⟩|⟨h1,_⟩|⟨h1,h2,h3,h4⟩
  ·exact .inl (by omega)
  ·exact .inl (by omega)
  ·refine .inr ?_;by_cases hk:(atH n f i).kind=1
   ·by_cases hs:(n:Int)-i<(atH n f i).size
    ·exact .inr (.inl ⟨h1,hk,h2,hs⟩)
    ·have:=h4.ways;exact .inr (.inr ⟨h1,hk,i.toNat,(atH n f i).size.toNat,(atH n f i).aQ.toNat,by omega,by omega,by omega,by omega,by omega,by omega⟩)
   ·exact .inl ⟨h1,hk⟩
 have hbad:=kO (n:=n) (f:=f) (i:=i);have hno:=my (n:=n) (f:=f) (i:=i);have hyes:=iT (n:=n) (f:=f) (i:=i);unfold fm at hno hyes;clear h;unfold ei;generalize atH n f i=g at *;generalize atE n f i=E at *;generalize bc n f i=L at *;generalize du n f i=R at *;obtain⟨K,s,p,q,t⟩:=g;simp only at hway hno hyes HC;unfold Hd.val at HC;simp only at HC;rcases hway with h1|⟨rfl,h1⟩|⟨rfl,rfl,hin,h1⟩|⟨rfl,rfl,I,S,P,rfl,hI,rfl,rfl,hP,hS⟩
 ·obtain⟨rfl,rfl⟩:=hbad h1;clear hno hyes;go_enter Tryz.func67,Tryz.ntmps67
  go_wp2_with fail
  refine HC.out.mono ?_;rintro e w2 ⟨c2,rfl,ha2,hf2⟩;have HA2:=aa ha2;have HF2:=aa hf2;clear ha2 hf2;go_wp2_with fail
  go_ret2
  exact⟨_,_,c2,rfl,Own.nil _ _ _,HA2.out.fr ((Fr.refl [] _).alloc _) (by simp) (by simp),HF2.out.alloc _⟩
 ·obtain⟨rfl,rfl⟩:=hno rfl (by omega);clear hbad hyes hno;go_enter Tryz.func67,Tryz.ntmps67
  go_wp2_with fail
  refine HC.out.mono ?_;rintro e w2 ⟨c2,rfl,ha2,hf2⟩;have HA2:=aa ha2;have HF2:=aa hf2;clear ha2 hf2;go_wp2_with fail
  go_quiet (fail)
  go_wp2_with fail
  go_ret2
  exact⟨_,_,c2,rfl,Own.nil _ _ _,(HA2.out.fr ((Fr.refl [] _).alloc _) (by simp) (by simp)).drewN _,(HF2.out.alloc _).drewN _⟩
 ·obtain⟨rfl,rfl⟩:=hno rfl (by omega);clear hbad hyes hno;go_enter Tryz.func67,Tryz.ntmps67
  go_wp2_with fail
  refine HC.out.mono ?_;rintro e w2 ⟨c2,rfl,ha2,hf2⟩;have HA2:=aa ha2;have HF2:=aa hf2;have HA3:=aa (ha2.fr ((Fr.refl [] _).alloc (.cells #[.int .i64 1,.int .i64 s,.int .i64 p,.int .i64 q,.int .i64 t] 151)) (by simp) (by simp));clear ha2 hf2;have D:Hid (∀m,Calls Tryz.prog 115 #[.pointer (some ⟨ab,0,none⟩)] ((w2.alloc (.cells #[.int .i64 1,.int .i64 s,.int .i64 p,.int .i64 q,.int .i64 t] 151)).drewN m) λe w'=>e=.returned (.int .i64 (n:Int))/\∃k,w'=((w2.alloc (.cells #[.int .i64 1,.int .i64 s,.int .i64 p,.int .i64 q,.int .i64 t] 151)).drewN m).drewN k):=
   λm=>(ld (HA3.out.drewN m)).mono λe w' ⟨he,hw⟩=>⟨he,0,hw.symm⟩
  go_wp2_with fail
  go_quiet ((go_at_call 115;exact Calls.quiet_of (D.out _)))
  go_wp2_with fail
  go_ret2
  exact⟨_,_,c2,rfl,Own.nil _ _ _,HA3.out.drewN _,(HF2.out.alloc _).drewN _⟩
 ·obtain⟨rfl,rfl⟩:=hyes rfl (by omega);clear hbad hyes hno;rw[Db,Db];go_enter Tryz.func67,Tryz.ntmps67
  go_wp2_with fail
  refine HC.out.mono ?_;rintro e w2 ⟨c2,rfl,ha2,hf2⟩;have HA2:=aa ha2;have HF2:=aa hf2;have HA3:=aa (ha2.fr ((Fr.refl [] _).alloc (.cells #[.int .i64 1,.int .i64 (S:Int),.int .i64 (P:Int),.int .i64 q,.int .i64 t] 151)) (by simp) (by simp));clear ha2 hf2;have D:Hid (∀m,Calls Tryz.prog 115 #[.pointer (some ⟨ab,0,none⟩)] ((w2.alloc (.cells #[.int .i64 1,.int .i64 (S:Int),.int .i64 (P:Int),.int .i64 q,.int .i64 t] 151)).drewN m) λe w'=>e=.returned (.int .i64 (n:Int))/\∃k,w'=((w2.alloc (.cells #[.int .i64 1,.int .i64 (S:Int),.int .i64 (P:Int),.int .i64 q,.int .i64 t] 151)).drewN m).drewN k):=
   λm=>(ld (HA3.out.drewN m)).mono λe w' ⟨he,hw⟩=>⟨he,0,hw.symm⟩
  go_wp2_with fail
  go_quiet ((go_at_call 115;exact Calls.quiet_of (D.out _)))
  go_wp2_with (at_make;refine wpList_make_full _ rfl _ _ 25 rfl w.heap.size 3 i0 (.int .i64 0) 1 Tryz.underlying25 hi hz0 hz1 _ _ _ _ P rfl rfl rfl rfl (by rw[hz2];omega) (by unfold maxLen;omega) ?c4 ?_)
  case c4=>have:=HF2.out.size;simp;omega
  intro w3 hown hgr;rw[show(madeCells #[Value.int .i64 0] P).toList=List.replicate P (.int .i64 0) from cU (.int .i64 0) rfl P]at hown;have HB3:=aa (gh hown);rw[ue]at HB3;have HF3:Hid (Fr [] (w2.alloc (.cells #[.int .i64 1,.int .i64 (S:Int),.int .i64 (P:Int),.int .i64 q,.int .i64 t] 151)) w3):=((Fr.refl _ _).drewN _).grown hgr (λ_ hk=>by cases hk);have HA4:=aa (HA3.out.fr HF3.out (by simp) (by simp));have HL2:Hid (w.heap.size<=w2.heap.size+1/\ab<w2.heap.size/\aw<w2.heap.size):=⟨by have:=HF2.out.size;omega,HA2.out.set.lt,HA2.out.row.lt⟩;have HF4:Hid (Fr [ab] w w3):=(HF2.out.alloc _).aO HF3.out;clear hown hgr;go_wp2_with fail
  go_loopw [36] (λi wr=>∃(k:Nat) (g:Nat->Int),i=.int .i64 k/\k<=P/\(∀j,j<k->g j=(I:Int)+1+(j:Int))/\Blk wr (w2.heap.size+1) 3 (kS P g)/\Fr [w2.heap.size+1] w3 wr) (λi _=>P-(intOf i).toNat)
  case atStart=>exact⟨0,_,rfl,Nat.zero_le _,λj hj=>absurd hj (by omega),HB3.out,Fr.refl _ _⟩
  case round=>
   obtain⟨k,g,rfl,hk,hg,hb,hf⟩:=hrel;have HG:=aa hg;have HB:=aa hb;have HF:=aa hf;have hz:=hb.frozen k;clear hg hb hf;by_cases hlt:k<P
   ·have hlt':(k:Int)<(P:Int):=by omega
    have hcell:wr.cell? ⟨w2.heap.size+1,k,none⟩=some (.int .i64 (g k)):=by rw[HB.out.cell,nQ hlt]
    have HN:=aa (HB.out.put k (.int .i64 ((I:Int)+1+(k:Int))));rw[wk]at HN;have HG2:Hid (∀j,j<k+1->yT g k ((I:Int)+1+(k:Int)) j=(I:Int)+1+(j:Int)):=λj hj=>by
     unfold yT;by_cases h:j=k
     ·rw[if_pos h,h]
     ·rw[if_neg h];exact HG.out j (by omega)
    go_wp2_with fail
    exact⟨⟨k+1,_,by go_num,by omega,HG2.out,HN.out,HF.out.setCell (p:=⟨w2.heap.size+1,k,none⟩) (.inl (by simp)) _⟩,by simp[intOf];omega⟩
   ·have hke:k=P:=by omega
    subst hke;have HE:Hid (kS k g=(iX (refs I k)).toArray):=by
     have:=uf (l:=refs I k) (g:=g) (λj hj=>by rw[ek]at hj;rw[HG.out j hj,tF hj]);rw[ek]at this;exact this
    go_wp2_with fail
    go_ret2
    have hb5:=HB.out;rw[HE.out]at hb5;have hl2:=HL2.out;refine⟨some ⟨w2.heap.size+1,0,none⟩,k,c2,by rw[ek];rfl,Own.blk hb5 hl2.1,HA4.out.fr HF.out (by simp;omega) (by simp;omega),HF4.out.trans HF.out (λx hx=>?_)⟩;simp at hx;subst hx;exact .inr hl2.1
end Go.Proofs.YtimlkjppaalfaaaGreatDoor
namespace Go.Gl
open Go.RowKit
def cX(q:IntKind)(n:Nat)(f:Nat->Int):Array Value:=((List.range n).map λk=>Value.int q (f k)).toArray
def ak(f:Nat->Int)(k:Nat)(x:Int):Nat->Int:=λj=>if j=k then x else f j
def bg(f:Nat->Int)(a b:Nat)(g:Nat->Int):Nat->Int:=λj=>if a<=j/\j<b then g j else f j
theorem iC(q:IntKind)(n:Nat)(f:Nat->Int):(cX q n f).size=n:=by simp[cX]
theorem xg(q:IntKind)(n:Nat)(f:Nat->Int)(k:Nat):(cX q n f)[k]?=if k<n then some (.int q (f k)) else none:=by
 unfold cX;by_cases h:k<n
 ·simp[h]
 ·simp[h]
theorem ej{q:IntKind}{n:Nat}{f:Nat->Int}{k:Nat}(h:k<n):(cX q n f)[k]?=some (.int q (f k)):=by rw[xg,if_pos h]
theorem pN{q:IntKind}{n:Nat}{f:Nat->Int}{cs:Array Value}(hs:cs.size=n)(h:∀k,k<n->cs[k]?=some (.int q (f k))):cs=cX q n f:=by
 apply Array.ext
 ·rw[hs,iC]
 ·intro i h1 h2;have a1:=h i (by omega);have a2:=ej (q:=q) (f:=f) (show i<n by omega);rw[Array.getElem?_eq_getElem h1]at a1;rw[Array.getElem?_eq_getElem h2]at a2;exact Option.some.inj (a1.trans a2.symm)
theorem rx{q:IntKind}{n:Nat}{f g:Nat->Int}(h:∀k,k<n->f k=g k):cX q n f=cX q n g:=
 pN (iC _ _ _) λk hk=>by rw[ej hk,h k hk]
theorem xh(q:IntKind)(n:Nat)(f:Nat->Int)(k:Nat)(x:Int):(cX q n f).setIfInBounds k (.int q x)=cX q n (ak f k x):=by
 refine pN (by simp[iC]) λj hj=>?_;rw[Array.getElem?_setIfInBounds];unfold ak;by_cases h:k=j
 ·subst h;rw[if_pos rfl,if_pos (by rw[iC];exact hj),if_pos rfl]
 ·rw[if_neg h,if_neg (Ne.symm h),ej hj]
theorem je(q:IntKind)(n:Nat)(x:Int):cX q n (λ_=>x)=(List.replicate n (Value.int q x)).toArray:=by
 unfold cX
 congr 1
 apply List.ext_getElem <;> simp
theorem iD{f g:Nat->Int}{a b:Nat}(h:b<=a):bg f a b g=f:=by
 funext j
 unfold bg;rw[if_neg (by omega)]
theorem uv{f:Nat->Int}{a k:Nat}{x:Int}(h:a<=k):ak (bg f a k λ_=>x) k x=bg f a (k+1) λ_=>x:=by
 funext j
 unfold ak bg;by_cases h1:j=k
 ·rw[if_pos h1,if_pos (by omega)]
 ·rw[if_neg h1];by_cases h2:a<=j/\j<k
  ·rw[if_pos h2,if_pos (by omega)]
  ·rw[if_neg h2,if_neg (by omega)]
theorem Blk.putRow{w:World}{g:Nat}{t:TypeId}{q:IntKind}{n:Nat}{f:Nat->Int}(h:Blk w g t (cX q n f))(k:Nat)(x:Int):Blk (w.setCell ⟨g,k,none⟩ (.int q x)) g t (cX q n (ak f k x)):=by
 have:=h.put k (.int q x);rw[xh]at this;exact this
end Go.Gl
