/- Several texts joined (pack.py): Vye Vyf Wa R2b R2n Wb Of. -/
import Derived.Test.YtimlkjppaalfaaaGreatDoorPW16
import Derived.Test.YtimlkjppaalfaaaGreatDoorPW05
import Derived.Test.YtimlkjppaalfaaaGreatDoorPW01
import Derived.Test.YtimlkjppaalfaaaGreatDoorPW12
import Derived.Deep.RegionHeld3
import Derived.Deep.CutRange
import Derived.Test.YtimlkjppaalfaaaGreatDoorProg
import Derived.Test.YtimlkjppaalfaaaGreatDoorPW07
import Derived.WalkKit
import Derived.BigQuiet
set_option linter.unusedVariables false
set_option linter.unusedSimpArgs false
set_option maxHeartbeats 6400000
set_option maxRecDepth 100000
open Nat renaming le_trans->De,zero_le->Df,lt_or_ge->Dg
namespace Go.Proofs.YtimlkjppaalfaaaGreatDoor
open Go.RowKit Go.Gl
theorem uU{n:Nat}{f:Nat->Nat}{a:Nat}(ha:a<n)(h1:1<=(Hd.of ((f a:Nat):Int)).size):(bc n f (a:Int)).length<=(Hd.of ((f a:Nat):Int)).size.toNat:=by
 unfold bc;split
 ·rename_i hc
  obtain⟨c1,c2⟩:=hc;have e1:=(kM (f:=f) ha).1;rcases gI n f (a:Int)with⟨h1,_⟩|⟨h1,_⟩|⟨h1,h2,h3,h4⟩
  ·omega
  ·omega
  ·have:=h4.ways;rw[ek];rw[e1]at this ⊢;omega
 ·simp
theorem qn{n:Nat}{f:Nat->Nat}{b:Nat}(hb:b<=n):∀ {k a:Nat}{l:List Int},dt f b k a=some l->(l.flatMap (bc n f)).length<=b-a:=by
 intro k
 induction k with
|zero=>
  intro a l h;by_cases hab:a<b
  ·simp[dt,hab]at h
  ·rw[cF hab]at h;injection h with h;subst h;simp
|succ k ih=>
  intro a l h;by_cases hab:a<b
  ·by_cases hs:bY f a b
   ·simp only[dt,if_pos hab,if_pos hs]at h;cases hr:dt f b k (a+(Hd.of (f a)).size.toNat)with
   |none=>rw[hr]at h;cases h
   |some l'=>
     rw[hr]at h;injection h with h;subst h;have h1:=ih hr;have h2:=hs.2;rw[List.flatMap_cons,List.length_append];by_cases h0:1<=(Hd.of ((f a:Nat):Int)).size
     ·have h3:=uU (f:=f) (show a<n by omega) h0;omega
     ·have h3:(bc n f (a:Int)).length=0:=by
       unfold bc;split
       ·rename_i hc
        obtain⟨c1,c2⟩:=hc;have e1:=(kM (f:=f) (show a<n by omega)).1;rcases gI n f (a:Int)with⟨h1,_⟩|⟨h1,_⟩|⟨h1,h2,h3,h4⟩
        ·omega
        ·omega
        ·have:=h4.ways;rw[ek];rw[e1]at this ⊢;omega
       ·rfl
      omega
   ·rw[jp hab hs]at h;cases h
  ·rw[cF hab]at h;injection h with h;subst h;simp
theorem sk{h:HS}{s k:Nat}(ok:h.Ok s k)(a:Int):((h.dg a).flatMap (bc h.n h.f)).length<=4194304:=by
 have hn:=ok.dC;rcases gA h a with⟨_,_,e⟩|⟨r,rfl,hr,⟨_,_,e⟩|⟨_,_,e⟩|⟨_,_,_,_,_,e⟩⟩
 ·rw[e];simp
 ·rw[e];unfold bJ;by_cases hb:gj h.n ((r*h.W:Nat):Int) (h.cf r)=0
  ·rw[if_pos hb];cases hr:cM h.f ((r*h.W:Nat):Int).toNat (h.cf r).toNat with
  |none=>simp
  |some l=>
    have hb:h.cf r<=(h.n:Int):=by
     rcases gl h.n ((r*h.W:Nat):Int) (h.cf r)with⟨_,_,h1,h2,h3,h4,_⟩|h1|h1|h1 <;> omega
    have:=qn (n:=h.n) (f:=h.f) (b:=(h.cf r).toNat) (by omega) hr;show(l.flatMap _).length<=_;omega
  ·rw[if_neg hb];simp
 ·rw[e];split
  ·have:=iW (h:=h) ((r*h.W:Nat):Int);rw[List.flatMap_cons,List.flatMap_nil,List.append_nil];exact De this (by decide)
  ·simp
 ·rw[e];simp
theorem kp{α:Type}(f g:α->List Int)(hfg:∀a,(f a).length<=(g a).length):∀l:List α,(l.flatMap f).length<=(l.flatMap g).length
|[]=>by simp
|a::l=>by
  rw[List.flatMap_cons,List.flatMap_cons,List.length_append,List.length_append];have:=hfg a;have:=kp f g hfg l;omega
theorem uV{α:Type}(f:α->List Int)(l:List α)(m:Nat):((l.take m).flatMap f).length<=(l.flatMap f).length:=by
 have e:l.flatMap f=(l.take m).flatMap f++(l.drop m).flatMap f:=by rw[<- List.flatMap_append,List.take_append_drop]
 rw[e,List.length_append];omega
theorem ny{h:HS}{s k:Nat}(ok:h.Ok s k)(σ:RS)(per:Nat)(t:Int->Bool)(a:Int)(m:Nat):(((h.dg a).take m).flatMap (h.bL σ per t)).length<=4194304:=by
 have h1:=uV (h.bL σ per t) (h.dg a) m;have h2:=kp (h.bL σ per t) (bc h.n h.f) (λx=>by unfold HS.bL;exact List.length_filter_le _ _) (h.dg a);have h3:=sk ok a;omega
theorem xU{h:HS}{s k:Nat}(ok:h.Ok s k)(σ:RS)(per:Nat)(t:Int->Bool)(r:Nat):(h.cH σ per t r).length<=4194304:=by
 unfold HS.cH;split
 ·simp
 ·have:=ny ok σ per t (r:Int) (h.dg (r:Int)).length;rw[List.take_length]at this;exact this
def B9(W:World)(I:World->Prop)(L:HL)(h:HS)(s k:Nat)(l:List Int)(e:Ending)(w':World):Prop:=
 ∃A c G,e=.returned (.slice A l.length c)/\Lr w' 3 A l.length c G (zv l)/\(∀g,g∈G->W.heap.size<=g)/\Hr w' L h s k/\Fr [L.ab] W w'/\I w'
section
variable {sb per:Nat}{σ:RS}{I:World->Prop}{w:World}{L:HL}{h:HS}{s k:Nat}
theorem uW(H:Hr w L h s k)(LI:LsI L h w.heap.size sb per σ I)(hI:I w){l:List Int}{A:Option Addr}{c:Nat}(hl:Sl w A l.length (λm=>.int .i64 (l.getD m 0)))(hll:l.length<=4611686018427387904)(hlw:∀m,m<l.length->(Lit.int .i64 (l.getD m 0)).wf=true)(hab:0<l.length->∀b off,A=some ⟨b,off,none⟩->b≠L.ab) :
  Calls Tryz.prog 9 #[.pointer (some ⟨L.hb,0,none⟩),.slice A l.length c] w (B9 w I L h s k (h.dQ σ per l)):=by
 have HH:=aa H;have HOK:=aa H.ok;have HI:=aa LI;have HI0:=aa hI;have HC:=aa (rQ H);unfold HrP at HC;have HKeep:Hid (∀a b,I a->Fr [L.ab] a b->I b):=λa b h1 h2=>LI.keep a b _ h1 h2 (λx hx=>.inl (by simpa using hx));have HT:Hid (∀w1,Hr w1 L h s k->Fr [L.ab] w w1->Calls Tryz.prog 27 #[.pointer (some ⟨L.hb,0,none⟩),.slice A l.length c] w1 (Bv w1 L h s k l)):=λw1 h1 hf=>sh h1 (λhp=>by
  obtain⟨b,off,e1,e2,e3⟩:=hl hp;obtain⟨c9,h9⟩:=H.ar;refine⟨b,off,e1,Nat.lt_of_lt_of_le e2 hf.size,λm hm=>?_⟩;have hz:=e3 m hm;refine(hf.cell (p:=⟨b,off+m,none⟩) e2 (λhx=>?_)).trans hz;simp at hx;exact hab hp b off e1 hx) hll hlw
 obtain⟨ln,hln⟩:∃ln,ln=l.length:=⟨_,rfl⟩;rw[<- hln]at HT ⊢;clear hln hl hll hlw hab;by_cases hS:h.Sound
 ·rw[m7 hS]at HC;have HLL:Hid (h.dQ σ per l=(List.range h.R).flatMap (h.cH σ per (h.jF l))):=by show _=_;unfold HS.dQ;rw[if_pos hS]
  obtain⟨t,ht⟩:∃t,t=h.jF l:=⟨_,rfl⟩;have HTT:=aa ht;rw[<- ht]at HLL;unfold Bv at HT;rw[<- ht]at HT;clear ht H LI hI hS;have hRb:h.R<=65536:=by have:=HOK.out.geo.jb;have:=HOK.out.rg;omega
  go_enter Tryz.func9,Tryz.ntmps9
  go_wp2_with (go_at_call 26;refine HC.out.mono ?_;rintro e w1 ⟨rfl,hH1,hf1⟩;have HH1:=aa hH1;have HF1:=aa hf1;have HTC:=aa (HT.out w1 hH1 hf1);clear hH1 hf1)
  refine HTC.out.mono ?_;rintro e w2 ⟨mb,rfl,hk⟩;have HA0:Hid (gC w I w2 L h s k mb t [] none 0 []):=⟨hk.hr,hk.kn,HKeep.out _ _ HI0.out (HF1.out.ae hk.fr),Lr.nil _ _,λg hg=>(by cases hg),HF1.out.ae hk.fr⟩;have g3:w2.cell? ⟨L.hb,17,none⟩=some (.int .i64 (h.R:Int)):=by rw[hk.hr.geo.2.2.2.1,hk.hr.ok.rg]
  clear hk HTC HT HC HH1 HF1;go_wp2_with fail
  go_loopw [6,26] (λv i wr=>∃j:Nat,∃A c G,i=.int .i64 j/\j<=h.R/\v=.slice A ((List.range j).flatMap (h.cH σ per t)).length c/\gC w I wr L h s k mb t ((List.range j).flatMap (h.cH σ per t)) A c G/\((List.range j).flatMap (h.cH σ per t)).length<=j*4194304) (λ_ i _=>h.R-(intOf i).toNat)
  case atStart=>exact⟨0,none,0,[],rfl,Df _,by simp,by simpa using HA0.out,by simp⟩
  case round=>
   obtain⟨j,A0,c0,G0,rfl,hj,rfl,ho,hlen⟩:=hrel;obtain⟨wo,hwo⟩:∃wo,wo=wr:=⟨_,rfl⟩;subst hwo;have HO:=aa ho;have HLEN:=aa hlen;clear ho hlen HA0 g3;by_cases hlt:j<h.R
   ·have hlt1:(j:Int)<(h.R:Int):=by omega
    have HFL:Hid ((List.range (j+1)).flatMap (h.cH σ per t)=(List.range j).flatMap (h.cH σ per t)++h.cH σ per t j):=by
     show _=_;rw[List.range_succ,List.flatMap_append];simp
    have HKL:=aa (xU HOK.out σ per t j);have HKD:Hid (h.cH σ per t j=if t (j:Int)||!(decide (h.s j=3)||decide (h.s j=4)) then [] else (h.dg (j:Int)).flatMap (h.bL σ per t)):=rfl;have HAL:=aa (ny HOK.out σ per t (j:Int));have HST:=aa (λw' (h':Hr w' L h s k)=>ji h' (j:Int));have hse:h.aN (j:Int)=h.s j:=by unfold HS.aN;rw[if_pos ⟨by omega,by omega⟩,Int.toNat_natCast]
    rw[hse]at HST;clear hse;have HROW:=aa (λw' (h':Hr w' L h s k)=>pY h' (j:Int));unfold HrL at HROW;have HRM:=aa (λm (hm:m<(h.dg (j:Int)).length)=>p8 HOK.out (a:=(j:Int)) (x:=(h.dg (j:Int)).getD m 0) (by simp[hm]));have HRLn:=lw HOK.out (j:Int);have hnm:=HOK.out.dC;have cT:=HO.out.hr.cT;have hwx:(Lit.int .i64 (j:Int)).wf=true:=fi ⟨by omega,by omega⟩;have hlook:=HO.out.kn.look hwx;clear hwx;obtain⟨ac,hac⟩:∃ac,ac=(List.range j).flatMap (h.cH σ per t):=⟨_,rfl⟩;rw[<- hac]at HO HLEN HFL ⊢;clear hac;obtain⟨an,han⟩:∃an,an=ac.length:=⟨_,rfl⟩;have HAN:=aa han;rw[<- han];clear han;have hway:(Hid (h.cH σ per t j=[])/\(t (j:Int)=true\/(t (j:Int)=false/\(h.s j !=3)=true/\(h.s j !=4)=true)))\/(Hid (h.cH σ per t j=(h.dg (j:Int)).flatMap (h.bL σ per t))/\t (j:Int)=false/\(h.s j=3\/h.s j=4)):=by
     have:=HKD.out;cases e:t (j:Int)with
    |true=>rw[e]at this;exact .inl ⟨(by show _=_;simpa using this),.inl rfl⟩
    |false=>
      rw[e]at this;by_cases e3:h.s j=3
      ·exact .inr ⟨(by show _=_;simpa[e3] using this),rfl,.inl e3⟩
      ·by_cases e4:h.s j=4
       ·exact .inr ⟨(by show _=_;simpa[e4] using this),rfl,.inr e4⟩
       ·exact .inl ⟨(by show _=_;simpa[e3,e4] using this),.inr ⟨rfl,by simpa using e3,by simpa using e4⟩⟩
    clear HKD;generalize h.cH σ per t j=lk at *;generalize h.s j=st at *;rcases hway with⟨HK0,hw⟩|⟨HK1,ht,hw⟩
    ·have HRel:Hid (∀w',Fr [] wo w'->∃j':Nat,∃A c G,(Value.int .i64 ((j:Int)+1))=.int .i64 j'/\j'<=h.R/\(Value.slice A0 an c0)=.slice A ((List.range j').flatMap (h.cH σ per t)).length c/\gC w I w' L h s k mb t ((List.range j').flatMap (h.cH σ per t)) A c G/\((List.range j').flatMap (h.cH σ per t)).length<=j'*4194304):=λw' hf=>by
      refine⟨j+1,A0,c0,G0,rfl,by omega,?_,?_,?_⟩
      ·rw[HFL.out,HK0.out,List.append_nil,HAN.out]
      ·rw[HFL.out,HK0.out,List.append_nil];exact HO.out.cY HI.out hf
      ·rw[HFL.out,HK0.out,List.append_nil];exact De HLEN.out (Nat.mul_le_mul_right _ (Nat.le_succ j))
     rcases hw with ht|⟨ht,h3,h4⟩;all_goals
      rw[ht]at hlook;go_wp2_with (go_at_call 28;refine(HST.out _ HO.out.hr).mono ?_;rintro e w' ⟨rfl,rfl⟩)
      exact⟨HRel.out _ ((Fr.refl _ _).alloc _),by simp[intOf];omega⟩
    ·rw[ht]at hlook;clear HKL;generalize hrl:h.dg (j:Int)=rl at *;clear hrl;obtain⟨n,hn⟩:∃n,n=rl.length:=⟨_,rfl⟩;have HN:=aa hn;rw[<- hn]at HROW HRLn;clear hn;have HNX:Hid (∀w3 (v:Value) (A:Option Addr) (c:Nat) (G:List Nat),v=.slice A (ac++rl.flatMap (h.bL σ per t)).length c->gC w I w3 L h s k mb t (ac++rl.flatMap (h.bL σ per t)) A c G->∃j':Nat,∃A c G,(Value.int .i64 ((j:Int)+1))=.int .i64 j'/\j'<=h.R/\v=.slice A ((List.range j').flatMap (h.cH σ per t)).length c/\gC w I w3 L h s k mb t ((List.range j').flatMap (h.cH σ per t)) A c G/\((List.range j').flatMap (h.cH σ per t)).length<=j'*4194304):=λw3 v A c G e1 e2=>by
      refine⟨j+1,A,c,G,rfl,by omega,by rw[HFL.out,HK1.out];exact e1,by rw[HFL.out,HK1.out];exact e2,?_⟩;rw[HFL.out,HK1.out,List.length_append];have h1:=HLEN.out;have h2:=HAL.out rl.length;rw[List.take_length]at h2;omega
     have HDone:True:=trivial;rcases hw with rfl|rfl;all_goals
      have HQ:Hid (L.ab<wo.heap.size):=by
       obtain⟨c9,h9⟩:=HO.out.hr.ar;exact h9.set.lt
      go_wp2_with (go_at_call 28;refine(HST.out _ HO.out.hr).mono ?_;rintro e w' ⟨rfl,rfl⟩)
      generalize hwq:wo.alloc _=wq;have HFQ:Hid (Fr [] wo wq):=hwq ▸ (Fr.refl _ _).alloc _;clear hwq;have HAQ:=aa (HO.out.cY HI.out HFQ.out);go_wp2_with fail
      refine(HROW.out _ HAQ.out.hr).mono ?_;rintro e w3 ⟨A1,cap1,rfl,ho1,hH1,hf1⟩;have HO1:=aa (ho1.low HFQ.out.size);have HA1:=aa (HAQ.out.look HI.out hH1 hf1);have HS3:Hid (wo.heap.size<=w3.heap.size):=De HFQ.out.size hf1.size;clear ho1 hH1 hf1 HAQ HFQ;go_wp2_with fail
      go_loopw [6,58] (λv i wr=>∃m:Nat,∃A c G,i=.int .i64 m/\m<=n/\v=.slice A (ac++(rl.take m).flatMap (h.bL σ per t)).length c/\gC w I wr L h s k mb t (ac++(rl.take m).flatMap (h.bL σ per t)) A c G/\(∀g,g∈G->g<wo.heap.size\/w3.heap.size<=g)/\jj wo.heap.size w3 wr) (λ_ i _=>n-(intOf i).toNat)
      case atStart=>exact⟨0,A0,c0,G0,rfl,Df _,by rw[List.take_zero,List.flatMap_nil,List.append_nil,HAN.out],by rw[List.take_zero,List.flatMap_nil,List.append_nil];exact HA1.out,λg hg=>.inl (HO.out.lr.lt g hg),jj.refl _ _⟩
      case round=>
       obtain⟨m,A2,c2,G2,rfl,hm,rfl,ho2,hg2,hk2⟩:=hrel;have HO2:=aa ho2;have HG2:=aa hg2;have HK2:=aa hk2;clear ho2 hg2 hk2 HA1;by_cases hltm:m<n
       ·have hltm1:(m:Int)<(n:Int):=by omega
        have hln:m<rl.length:=by have:=HN.out;omega
        obtain⟨b,off,rfl,hb0,hb1,hcl⟩:=(HK2.out.own HO1.out) (by omega);have x0:wr.cell? ⟨b,off+m,none⟩=some (.int .i64 (rl.getD m 0)):=hcl m hln;have HTK:Hid ((rl.take (m+1)).flatMap (h.bL σ per t)=(rl.take m).flatMap (h.bL σ per t)++h.bL σ per t (rl.getD m 0)):=by
         show _=_;rw[fj hln,List.flatMap_append];simp
        have HLB:Hid ((ac++(rl.take m).flatMap (h.bL σ per t)).length<=1099511627776):=by
         show _<=_;have h1:=HLEN.out;have h2:=HAL.out m;rw[List.length_append];have h3:j*4194304<=65536*4194304:=Nat.mul_le_mul_right _ (by omega);omega
        have HLS:=aa (sj HH.out HI.out HO2.out HLB.out (rl.getD m 0));generalize rl.getD m 0=x at *;obtain⟨ax,hax⟩:∃ax,ax=ac++(rl.take m).flatMap (h.bL σ per t):=⟨_,rfl⟩;have HAX:=aa hax;rw[<- hax]at HLS HO2 ⊢;obtain⟨axn,haxn⟩:∃axn,axn=ax.length:=⟨_,rfl⟩;rw[<- haxn]at HLS ⊢;clear hax haxn hcl hb0 hb1 HLB;go_wp2_with fail
        refine HLS.out.mono ?_;rintro e w4 ⟨A4,c4,G4,rfl,ha4,hg4,F4,hf4,hF4⟩;have HZ:Hid (ax++h.bL σ per t x=ac++(rl.take (m+1)).flatMap (h.bL σ per t)):=by
         show _=_;rw[HTK.out,HAX.out,List.append_assoc]
        have HA4:Hid (gC w I w4 L h s k mb t (ac++(rl.take (m+1)).flatMap (h.bL σ per t)) A4 c4 G4):=by rw[<- HZ.out];exact ha4
        have HSZ:Hid (w3.heap.size<=wr.heap.size):=by
         obtain⟨F,k1,_⟩:=HK2.out;exact k1.size
        have HG4:Hid (∀g,g∈G4->g<wo.heap.size\/w3.heap.size<=g):=λg hg=>(hg4 g hg).elim (HG2.out g) (λe=>.inr (De HSZ.out e));have HK4:Hid (jj wo.heap.size w3 w4):=HK2.out.step hf4 (λy hy=>by
         rcases hF4 y hy with e|e|e
         ·rw[e];exact .inl HQ.out
         ·exact HG2.out y e
         ·exact .inr (De HSZ.out e))
        rw[HZ.out];clear ha4 hg4 hf4 hF4 HLS x0;generalize hzn:(ac++(rl.take (m+1)).flatMap (h.bL σ per t)).length=zn;have HZN:=aa hzn;clear hzn;go_wp2_with fail
        go_roundw
        case rel=>exact⟨m+1,A4,c4,G4,by go_num,by omega,by rw[HZN.out],HA4.out,HG4.out,HK4.out⟩
        case measure=>simp[intOf];omega
       ·obtain rfl:m=n:=by omega
        have HTL:Hid (rl.take m=rl):=by show _=_;rw[List.take_of_length_le];have:=HN.out;omega
        have HX:=aa (HNX.out wr (.slice A2 (ac++(rl.take m).flatMap (h.bL σ per t)).length c2) A2 c2 G2 (by rw[HTL.out]) (by have:=HO2.out;rw[HTL.out]at this;exact this));clear HO2 HNX;generalize (ac++(rl.take m).flatMap (h.bL σ per t)).length=zn at *;go_wp2_with fail
        go_roundw
        case rel=>exact HX.out
        case measure=>simp[intOf];omega
   ·obtain rfl:j=h.R:=by omega
    rw[<- HLL.out]at HO ⊢;generalize h.dQ σ per l=z at *;go_wp2_with fail
    go_ret
    exact⟨A0,c0,G0,rfl,HO.out.lr,HO.out.far,HO.out.hr,HO.out.fr,HO.out.inv⟩
 ·rw[gN hS]at HC;have HLL:Hid (h.dQ σ per l=[]):=by show _=_;unfold HS.dQ;rw[if_neg hS]
  rw[HLL.out];clear H LI hI hS;go_enter Tryz.func9,Tryz.ntmps9
  go_wp2_with (go_at_call 26;refine HC.out.mono ?_;rintro e w1 ⟨rfl,hH1,hf1⟩;have HH1:=aa hH1;have HF1:=aa hf1;clear hH1 hf1)
  go_ret
  exact⟨none,0,[],rfl,Lr.nil _ _,λg hg=>(by cases hg),HH1.out,HF1.out,HKeep.out _ _ HI0.out HF1.out⟩
end
def oS(cw:Nat):Nat:=Lib.ctz 64 cw
def oD(cw:Nat):Nat:=cw / 2 ^ oS cw
theorem AD{cw:Nat}(h:1<=cw)(hm:cw<9223372036854775808):oS cw<63:=by
 obtain⟨h1,h2,_⟩:=js cw h (by omega);have:=Nat.ge_two_pow_of_testBit h2;rcases Dg (oS cw) 63 with hl|hl
 ·exact hl
 ·have h3:2 ^ 63<=2 ^ oS cw:=Nat.pow_le_pow_right (by decide) hl;unfold oS at h3;omega
theorem Bw{cw:Nat}(h:1<=cw)(hm:cw<9223372036854775808):2 ^ oS cw*oD cw=cw/\1<=oD cw:=by
 obtain⟨m,hm',hk⟩:=Lib.ctzFrom_spec 64 cw h (by omega);have hc:oS cw=Lib.ctzFrom 64 cw:=by unfold oS Lib.ctz;rw[if_neg (by omega)]
 unfold oD;rw[hc];generalize Lib.ctzFrom 64 cw=k at *;have hp:0<2 ^ k:=Nat.two_pow_pos k;have e:cw / 2 ^ k=2*m+1:=by rw[hm',Nat.mul_comm,Nat.mul_div_cancel _ hp]
 rw[e];exact⟨hm'.symm,by omega⟩
def cb(cw a:Nat):Nat:=if a=0 then 0 else (a-1) / cw+1
theorem xV{cw a k:Nat}(h:1<=cw):k<cb cw a↔k*cw<a:=by
 unfold cb;split
 ·omega
 ·rw[Nat.lt_succ_iff,Nat.le_div_iff_mul_le (by omega)];omega
theorem AE{cw a n:Nat}(h:1<=cw)(ha:a<=cw*n):cb cw a<=n:=by
 rcases Dg n (cb cw a)with hl|hl
 ·rw[xV h,Nat.mul_comm]at hl;omega
 ·exact hl
theorem tV{cw a b:Nat}(h:1<=cw)(hab:a<=b):cb cw a<=cb cw b:=by
 rcases Dg (cb cw b) (cb cw a)with hl|hl
 ·rw[xV h]at hl;have:=(not_congr (xV (k:=cb cw b) (a:=b) h)).1 (by omega);omega
 ·exact hl
structure Of(w:World)(tb rb cw n:Nat)(f:Nat->Int):Prop where
 set:Blk w tb 178 #[.int .i64 ((cw*n:Nat):Int),.int .u64 ((oS cw:Nat):Int),.int .i64 ((oD cw:Nat):Int),.slice (some ⟨rb,0,none⟩) n n]
 row:Blk w rb 226 (cX .u32 n f)
 pos:1<=cw
 cwm:cw<9223372036854775808
 max:cw*n<=4194304
 ok:∀k,0<=f k/\f k<=4194304
section
variable {w w':World}{tb rb cw n:Nat}{f:Nat->Int}{F:List Nat}
theorem Of.fr(h:Of w tb rb cw n f)(hf:Fr F w w')(h1:tb∉F)(h2:rb∉F):Of w' tb rb cw n f:=⟨h.set.fr hf h1,h.row.fr hf h2,h.pos,h.cwm,h.max,h.ok⟩
theorem Of.drewN(h:Of w tb rb cw n f)(k:Nat):Of (w.drewN k) tb rb cw n f:=⟨h.set,h.row,h.pos,h.cwm,h.max,h.ok⟩
theorem Of.c0(h:Of w tb rb cw n f):w.cell? ⟨tb,0,none⟩=some (.int .i64 ((cw*n:Nat):Int)):=by rw[h.set.cell];rfl
theorem Of.c1(h:Of w tb rb cw n f):w.cell? ⟨tb,1,none⟩=some (.int .u64 ((oS cw:Nat):Int)):=by rw[h.set.cell];rfl
theorem Of.c2(h:Of w tb rb cw n f):w.cell? ⟨tb,2,none⟩=some (.int .i64 ((oD cw:Nat):Int)):=by rw[h.set.cell];rfl
theorem Of.c3(h:Of w tb rb cw n f):w.cell? ⟨tb,3,none⟩=some (.slice (some ⟨rb,0,none⟩) n n):=by rw[h.set.cell];rfl
theorem Of.cr(h:Of w tb rb cw n f){k:Nat}(hk:k<n):w.cell? ⟨rb,k,none⟩=some (.int .u32 (f k)):=by rw[h.row.cell,ej hk]
theorem Of.ne(h:Of w tb rb cw n f):tb≠rb:=h.set.apart h.row (by decide)
theorem Of.dC(h:Of w tb rb cw n f):n<=4194304:=De (Nat.le_mul_of_pos_left n h.pos) h.max
end
theorem nz{w:World}{tb rb cw n:Nat}{f:Nat->Int}(h:Of w tb rb cw n f)(a:Nat)(ha:a<=cw*n) :
  Calls Tryz.prog 154 #[.pointer (some ⟨tb,0,none⟩),.int .i64 (a:Int)] w λe w'=>e=.returned (.int .i64 ((cb cw a:Nat):Int))/\∃k,w'=w.drewN k:=by
 have c1:=h.c1;have c2:=h.c2;have hs:=AD h.pos h.cwm;obtain⟨hd,hd1⟩:=Bw h.pos h.cwm;have hmax:=h.max;have ha':a<=4194304:=by omega
 by_cases h0:a=0
 ·subst h0;clear h hd hs hd1 c1 c2 ha hmax;go_enter Tryz.func154,Tryz.ntmps154
  go_wp2
  go_ret
  exact⟨rfl,0,rfl⟩
 ·obtain⟨b,rfl⟩:∃b,a=b+1:=⟨a-1,by omega⟩;have HV:Hid ((b:Int) / 2 ^ oS cw / (oD cw:Int)=((b / cw:Nat):Int)):=by
   show _=_;rw[show(2:Int) ^ oS cw=((2 ^ oS cw:Nat):Int) from (Int.natCast_pow 2 _).symm,<- Int.natCast_ediv,<- Int.natCast_ediv,Nat.div_div_eq_div_mul,hd]
  have HB:Hid (cb cw (b+1)=b / cw+1):=by unfold cb;rfl
  have HL:Hid (b / cw<=4194304):=De (Nat.div_le_self _ _) (by omega);generalize oS cw=s at *;generalize oD cw=d at *;clear h hd ha hmax;go_enter Tryz.func154,Tryz.ntmps154
  go_wp2_with fail
  go_quiet (fail)
  go_wp2
  go_ret
  refine⟨bo ?_,_,rfl⟩;have h1:=HL.out;rw[HB.out,Int.tdiv_eq_ediv_of_nonneg (Int.ediv_nonneg (Int.natCast_nonneg _) (Int.le_of_lt (Int.pow_pos (by decide)))),HV.out];generalize b / cw=q at *;rw[IntWalk.wrap64_in (q:Int) ⟨by omega,by omega⟩,IntWalk.wrap64_in _ ⟨by omega,by omega⟩];rfl
def zM(w:World)(rb i m:Nat)(e:Ending)(w':World):Prop:=
 ∃A c,e=.returned (.slice A m c)/\(0<m->A=some ⟨rb,i,none⟩)/\∃k,w'=w.drewN k
theorem nA{A:Option Addr}{c L m:Nat}(h:L=m):Ending.returned (.slice A L c)=.returned (.slice A m c):=by rw[h]
theorem l6{w:World}{tb rb cw n:Nat}{f:Nat->Int}(h:Of w tb rb cw n f)(a b:Nat)(hab:a<=b)(hb:b<=cw*n) :
  Calls Tryz.prog 140 #[.pointer (some ⟨tb,0,none⟩),.int .i64 (a:Int),.int .i64 (b:Int)] w (zM w rb (cb cw a) (cb cw b-cb cw a)):=by
 have c3:=h.c3;have hx:=tV h.pos hab;have hy:=AE h.pos hb;have hn:=h.dC;have HA:Hid (∀k,Calls Tryz.prog 154 #[.pointer (some ⟨tb,0,none⟩),.int .i64 (a:Int)] (w.drewN k) λe w'=>e=.returned (.int .i64 ((cb cw a:Nat):Int))/\∃m,w'=(w.drewN k).drewN m):=
  λk=>nz (h.drewN k) a (De hab hb)
 have HB:Hid (∀k,Calls Tryz.prog 154 #[.pointer (some ⟨tb,0,none⟩),.int .i64 (b:Int)] (w.drewN k) λe w'=>e=.returned (.int .i64 ((cb cw b:Nat):Int))/\∃m,w'=(w.drewN k).drewN m):=
  λk=>nz (h.drewN k) b hb
 generalize cb cw a=x at *;generalize cb cw b=y at *;clear h hb hab;by_cases hc:n=x
 ·have HC:=aa hc;have HM:Hid (y-x=0):=by show y-x=0;omega
  go_enter Tryz.func140,Tryz.ntmps140
  go_wp2_with fail
  go_quiet ((go_at_call 154;first|(with_reducible exact Calls.quiet_of (HA.out _))|(with_reducible exact Calls.quiet_of (HB.out _))))
  go_wp2
  go_ret
  exact⟨_,_,nA rfl,λh=>absurd HM.out (by omega),nq,rfl⟩
 ·go_enter Tryz.func140,Tryz.ntmps140
  go_wp2_with fail
  go_quiet ((go_at_call 154;first|(with_reducible exact Calls.quiet_of (HA.out _))|(with_reducible exact Calls.quiet_of (HB.out _))))
  go_wp2
  go_ret
  exact⟨_,_,nA rfl,λ_=>rfl,nq,rfl⟩
def obj(cw:Nat)(f:Nat->Int)(a s:Nat):Nat->Int:=bg f (cb cw a) (cb cw (a+s)) λ_=>(a:Int)+1
def Ca(w:World)(tb rb cw n:Nat)(f':Nat->Int)(e:Ending)(w':World):Prop:=
 e=.returned (.int .i64 0)/\Of w' tb rb cw n f'/\Fr [rb] w w'
theorem Of.Bx{w w':World}{tb rb cw n:Nat}{f f':Nat->Int}(h:Of w tb rb cw n f)(hf:Fr [rb] w w')(hb:Blk w' rb 226 (cX .u32 n f'))(hok:∀k,0<=f' k/\f' k<=4194304):Of w' tb rb cw n f':=
 ⟨h.set.fr hf (by simpa using h.ne),hb,h.pos,h.cwm,h.max,hok⟩
theorem zN{f g:Nat->Int}{a b:Nat}(h:∀k,0<=f k/\f k<=4194304)(hg:∀k,a<=k->k<b->0<=g k/\g k<=4194304):∀k,0<=bg f a b g k/\bg f a b g k<=4194304:=λk=>by
 unfold bg;split
 ·exact hg k (by omega) (by omega)
 ·exact h k
theorem zO{w:World}{tb rb cw n:Nat}{f:Nat->Int}(h:Of w tb rb cw n f){a s:Nat}(hs:1<=s)(hm:a+s<=cw*n) :
  Calls Tryz.prog 94 #[.pointer (some ⟨tb,0,none⟩),.int .i64 (a:Int),.int .i64 (s:Int)] w (Ca w tb rb cw n (obj cw f a s)):=by
 have c0:=h.c0;have hmax:=h.max;have hn:=h.dC;have HB:=aa (l6 h a (a+s) (by omega) hm);have hxy:=tV (a:=a) (b:=a+s) h.pos (by omega);have hyn:=AE h.pos hm;have H:=aa h;unfold obj;have ha4:a<4194304:=by omega
 generalize cb cw a=x at *;generalize cb cw (a+s)=y at *;have hm':(s:Int)<=((cw*n:Nat):Int)-(a:Int):=by omega
 generalize cw*n=m at *;unfold Ca;clear h hm;go_enter Tryz.func94,Tryz.ntmps94
 go_wp2_with fail
 rw[show(a:Int)+(s:Int)=((a+s:Nat):Int) from (Int.natCast_add a s).symm];refine HB.out.mono ?_;rintro e w1 ⟨A,c,rfl,hA,k1,rfl⟩;have HA:=aa hA;clear hA;go_wp2_with fail
 go_loopw [39] (λi wr=>∃k:Nat,i=.int .i64 k/\k<=y-x/\Of wr tb rb cw n (bg f x (x+k) λ_=>(a:Int)+1)/\Fr [rb] w wr) (λi _=>(y-x)-(intOf i).toNat)
 case atStart=>exact⟨0,rfl,Df _,by rw[Nat.add_zero,iD (Nat.le_refl _)];exact H.out.drewN _,(Fr.refl _ _).drewN _⟩
 case round=>
  obtain⟨k,rfl,hk,ho,hfr⟩:=hrel;have HO:=aa ho;have HF:=aa hfr;by_cases hlt:k<y-x
  ·obtain rfl:=HA.out (by omega);have hc:=ho.cr (k:=x+k) (by omega);have hz:=ho.row.frozen (x+k);have HP:=aa (ho.row.putRow (x+k) ((a:Int)+1));have HG:Hid (Fr [rb] wr (wr.setCell ⟨rb,x+k,none⟩ (.int .u32 ((a:Int)+1)))):=(Fr.refl _ _).setCell (p:=⟨rb,x+k,none⟩) (.inl (by simp)) _;have hlt':(k:Int)<((y-x:Nat):Int):=by omega
   clear ho hfr;generalize bg f x (x+k) (λ_=>(a:Int)+1) (x+k)=old at *;go_wp2_with fail
   go_roundw
   case rel=>
    refine⟨k+1,by go_num,by omega,HO.out.Bx HG.out ?_ ?_,HF.out.ae HG.out⟩
    ·rw[<- Nat.add_assoc,<- uv (by omega)];exact HP.out
    ·exact zN H.out.ok (λ_ _ _=>by omega)
   case measure=>simp[intOf];omega
  ·have hlt':¬ (k:Int)<((y-x:Nat):Int):=by omega
   obtain rfl:k=y-x:=by omega
   clear ho hfr;go_wp2_with fail
   go_ret
   refine⟨rfl,?_,HF.out⟩;have:=HO.out;rw[show x+(y-x)=y by omega]at this;exact this
structure qo(g:Geo)(cw n:Nat):Prop where
 pos:1<=cw
 cwm:cw<9223372036854775808
 max:cw*n<=4194304
 words:g.words=((cw*n:Nat):Int)
 cw:g.cw=(cw:Int)
 aF:g.aF=(n:Int)
theorem qo.rem{cw n:Nat}(h:1<=cw):((cw*n:Nat):Int) % (cw:Int)=0/\(n:Int)=((cw*n:Nat):Int) / (cw:Int):=by
 constructor
 ·rw[<- Int.natCast_emod,Nat.mul_mod_right];rfl
 ·rw[<- Int.natCast_ediv,Nat.mul_div_cancel_left _ (by omega)]
theorem zP(g:Geo){cw n:Nat}(ok:qo g cw n)(w:World):Calls Tryz.prog 79 #[g.val] w λe w'=>e=.returned (.bool true)/\Fr [] w w':=by
 obtain⟨W,rw',C,R,N,M⟩:=g;obtain⟨h1,h2,h3,h4,h5,h6⟩:=ok;simp only at h4 h5 h6;obtain⟨h7,h8⟩:=qo.rem (n:=n) h1;rw[<- h4,<- h5]at h7 h8;rw[<- h6]at h8;have hW:0<=W/\W<=4194304:=by omega
 obtain⟨hW1,hW2⟩:=hW;have hC:1<=C/\C<=9223372036854775807:=by omega
 obtain⟨hC1,hC2⟩:=hC;clear h1 h2 h3 h4 h5 h6;unfold Geo.val;go_enter Tryz.func79,Tryz.ntmps79
 go_wp2_with fail
 go_quiet (fail)
 go_wp2
 go_ret
 exact⟨rfl,((Fr.refl _ _).alloc _).drewN _⟩
theorem Tryz.uX:(Tryz.prog.info? 226).map (λi=>(i.zero,i.size,i.bytes))=some (some (.int .u32 0),1,4):=by kernel_rfl
def Cb(w:World)(cw n:Nat)(e:Ending)(w':World):Prop:=
 ∃tb rb,e=.returned (.tuple #[.pointer (some ⟨tb,0,none⟩),.int .i64 0])/\Of w' tb rb cw n (λ_=>0)/\Fr [] w w'/\w.heap.size<=tb/\w.heap.size<=rb
theorem zQ(g:Geo){cw n:Nat}(ok:qo g cw n)(w:World)(hT:Tab w):Calls Tryz.prog 39 #[g.val] w (Cb w cw n):=by
 have hm:=zP g ok;obtain⟨i0,hi,hz0,hz1,hz2⟩:=info_parts Tryz.uX;have HOk:=aa ok;have HT:=aa hT;have hs:=AD ok.pos ok.cwm;have hc1:=ok.pos;have hc2:=ok.cwm;have hn:n<=4194304:=De (Nat.le_mul_of_pos_left n ok.pos) ok.max;have HD:Hid ((cw:Int) / 2 ^ oS cw=((oD cw:Nat):Int)):=by
  show _=_;unfold oD;rw[show(2:Int) ^ oS cw=((2 ^ oS cw:Nat):Int) from (Int.natCast_pow 2 _).symm,<- Int.natCast_ediv]
 have HZ:Hid (∀w',Tab w'->Calls Tryz.prog 74 #[.int .u64 (cw:Int)] w' λe w''=>e=.returned (.int .i64 ((oS cw:Nat):Int))/\w'=w''):=λw' hT'=>rK cw (by omega) (by omega) w' hT';obtain⟨W,rw',C,R,N,M⟩:=g;have h4:W=((cw*n:Nat):Int):=ok.words;obtain rfl:C=(cw:Int):=ok.cw;obtain rfl:N=(n:Int):=ok.aF;have HW:=aa h4;have HM:=aa hm;unfold Geo.val;have HS:Hid (oS cw=oS cw):=rfl;generalize hsd:oS cw=s at *;have HSD:=aa hsd;clear hT ok hm h4 HS hsd;go_enter Tryz.func39,Tryz.ntmps39
 go_wp2_with fail
 refine(HM.out _).mono ?_;rintro e w1 ⟨rfl,hf⟩;have hg:=gn.of ((Blk.new w 39 (Geo.cells ⟨W,rw',(cw:Int),R,(n:Int),M⟩)).fr hf (by simp));have HT1:=aa ((HT.out.alloc _).fr hf (by simp));have g0:=hg.c0;have g2:=hg.c2;have g4:=hg.c4;have HF:Hid (Fr [] w w1):=((Fr.refl _ _).alloc _).ae hf;clear hf hg;go_wp2_with fail
 refine(HZ.out _ HT1.out).mono ?_;rintro e w' ⟨rfl,rfl⟩;go_wp2_with fail
 obtain⟨w2,hrun,r1,r2⟩:=run_make_full (P:=Tryz.prog) w1.drew w1.heap.size 176 226 i0 (.int .u32 0) 1 Tryz.underlying176 hi hz0 hz1 .i64 .i64 n (by rw[hz2];omega) (by unfold maxLen;omega) (Nat.le_refl _);have HO:=aa r1;have HG:=aa r2;have k0:w2.cell? ⟨w.heap.size,0,none⟩=some (.int .i64 W):=(((Fr.refl [] w1).drew.grown r2 (λ_ hk=>by cases hk)).cell (af g0) (by simp)).trans g0;have k2:w2.cell? ⟨w.heap.size,2,none⟩=some (.int .i64 (cw:Int)):=(((Fr.refl [] w1).drew.grown r2 (λ_ hk=>by cases hk)).cell (af g2) (by simp)).trans g2;have k4:w2.cell? ⟨w.heap.size,4,none⟩=some (.int .i64 (n:Int)):=(((Fr.refl [] w1).drew.grown r2 (λ_ hk=>by cases hk)).cell (af g4) (by simp)).trans g4;have N0:=World.new_ne w2 _ k0;clear r1 r2;go_region_held3 (λw'=>w'.cell? ⟨w.heap.size,0,none⟩=some (.int .i64 W)/\w'.cell? ⟨w.heap.size,2,none⟩=some (.int .i64 (cw:Int))/\w'.cell? ⟨w.heap.size,4,none⟩=some (.int .i64 (n:Int)))
  (first|exact⟨g0,g2,g4⟩|exact⟨k0,k2,k4⟩|go_keep)
  (first|fail)
 go_wp2
 go_ret2
 have hown:=HO.out;rw[Nat.mul_one,cU _ rfl]at hown;have hb:=gh hown;have HG2:Fr [] w1 w2:=((Fr.refl _ w1).drew).grown HG.out (λ_ hk=>by cases hk);refine⟨w2.heap.size,w1.heap.size,rfl,⟨?_,?_,HOk.out.pos,HOk.out.cwm,HOk.out.max,λ_=>by decide⟩,HF.out.ae (HG2.alloc _),De HF.out.size HG2.size,HF.out.size⟩
 ·rw[<- HW.out,HSD.out,<- HD.out];exact Blk.new _ _ _
 ·rw[je];exact hb.alloc _
end Go.Proofs.YtimlkjppaalfaaaGreatDoor
