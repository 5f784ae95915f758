/- Several texts joined (pack.py): Qu Vl. -/
import Derived.Test.YtimlkjppaalfaaaGreatDoorPW01
import Derived.Test.YtimlkjppaalfaaaGreatDoorPW05
import Derived.WalkKit
import Derived.BigQuiet
import Derived.Lib.AppendZerosOnto
import Derived.Test.YtimlkjppaalfaaaGreatDoorPW08
import Derived.Test.YtimlkjppaalfaaaGreatDoorPW17
import Derived.Test.YtimlkjppaalfaaaGreatDoorPW12
import Derived.Test.YtimlkjppaalfaaaGreatDoorPW06
import Derived.Test.YtimlkjppaalfaaaGreatDoorPW15
set_option linter.unusedVariables false
set_option linter.unusedSimpArgs false
set_option maxHeartbeats 1600000
set_option maxRecDepth 100000
open Nat renaming le_refl->Dd,le_trans->De,zero_le->Df
namespace Go.Gl
open Go.RowKit
def bi(L:Nat->List Int):Nat->List Int
|0=>[]
|n+1=>bi L n++L n
theorem nB{L:Nat->List Int}:∀ {n:Nat},(∀i,i<n->L i=[])->bi L n=[]
|0,_=>rfl
|n+1,h=>by
  unfold bi;rw[nB (λi hi=>h i (by omega)),h n (by omega)];rfl
theorem tW{L:Nat->List Int}{b:Nat}:∀ {n:Nat},(∀i,i<n->(L i).length<=b)->(bi L n).length<=n*b
|0,_=>by simp[bi]
|n+1,h=>by
  have h1:=tW (λi hi=>h i (by omega)) (n:=n) (b:=b);have h2:=h n (by omega);unfold bi;rw[List.length_append,Nat.succ_mul];omega
theorem iJ{L:Nat->List Int}{j:Nat}:∀ {n:Nat},j<=n->(bi L j).length<=(bi L n).length
|0,h=>by
       obtain rfl:j=0:=by omega
       exact Dd _
|n+1,h=>by
  rcases Nat.lt_or_ge j (n+1)with h1|h1
  ·have:=iJ (L:=L) (j:=j) (n:=n) (by omega);simp only[bi,List.length_append];omega
  ·obtain rfl:j=n+1:=by omega
   exact Dd _
theorem Sl.src{w:World}{A:Option Addr}{l:List Int}(h:Sl w A l.length (λk=>.int .i64 (l.getD k 0))):0<l.length->∃ad,A=some ad/\∀j u,(zv l)[j]?=some u->w.cell? (ad.add j)=some u:=λhn=>by
 obtain⟨b,off,rfl,_,hc⟩:=h hn;refine⟨_,rfl,λj u hu=>?_⟩;have hj:j<l.length:=by have:=(List.getElem?_eq_some_iff.1 hu).1;rwa[q8]at this
 rw[show(⟨b,off,none⟩:Addr).add j=⟨b,off+j,none⟩ from Go.WideShapes.add_plain _ _ _,hc j hj,<- wK l hj,hu]
structure Qc(ti ts tq:TypeId)(lay:Value->Value->Array Value)(w:World)(q tb n:Nat)(A:Option Addr)(c:Nat)(C:List Int)(G0:List Nat)(V:Nat->Value)(G:Nat->List Nat)(O:Nat->List Int):Prop where
 st:Blk w q tq (lay (.slice A C.length c) (.slice (some ⟨tb,0,none⟩) n n))
 com:Lr w ti A C.length c G0 (zv C)
 ls:Ls ti ts w tb n V G O
 d0:∀i,i<n->∀g,g∈G i->g∉G0
def dY(q tb n:Nat)(G0:List Nat)(G:Nat->List Nat):List Nat:=q::tb::(G0++(List.range n).flatMap G)
theorem aR{q tb n:Nat}{G0:List Nat}{G:Nat->List Nat}{x:Nat}:x∈dY q tb n G0 G↔x=q\/x=tb\/x∈G0\/∃i,i<n/\x∈G i:=by
 simp[dY,List.mem_flatMap]
section
variable {ti ts tq:TypeId}{lay:Value->Value->Array Value}{w w':World}{q tb n:Nat}{A:Option Addr}{c:Nat}{C:List Int}{G0:List Nat}{V:Nat->Value}{G:Nat->List Nat}{O:Nat->List Int}{F:List Nat}
theorem Qc.fr(h:Qc ti ts tq lay w q tb n A c C G0 V G O)(hf:Fr F w w')(hd:∀x,x∈dY q tb n G0 G->x∉F):Qc ti ts tq lay w' q tb n A c C G0 V G O:=
 ⟨h.st.fr hf (hd q (aR.2 (.inl rfl))),h.com.fr hf (λg hg=>hd g (aR.2 (.inr (.inr (.inl hg))))),h.ls.fr hf (hd tb (aR.2 (.inr (.inl rfl)))) (λi hi g hg=>hd g (aR.2 (.inr (.inr (.inr ⟨i,hi,hg⟩))))),h.d0⟩
theorem Qc.fr0(h:Qc ti ts tq lay w q tb n A c C G0 V G O)(hf:Fr [] w w'):Qc ti ts tq lay w' q tb n A c C G0 V G O:=h.fr hf (λ_ _=>by simp)
theorem Qc.lt(h:Qc ti ts tq lay w q tb n A c C G0 V G O):∀x,x∈dY q tb n G0 G->x<w.heap.size:=by
 intro x hx;rcases aR.1 hx with rfl|rfl|hx|⟨i,hi,hx⟩
 ·exact h.st.lt
 ·exact h.ls.tab.lt
 ·exact h.com.lt x hx
 ·exact h.ls.lt hi x hx
theorem Qc.tX(h:Qc ti ts tq lay w q tb n A c C G0 V G O)(h1:ti≠ts)(h2:ti≠tq)(h3:ts≠tq){k:Nat}(hk:k<n){A1:Option Addr}{c1:Nat}{G1:List Nat}{l:List Int}(hf:Fr (G k) w w')(hl:Lr w' ti A1 l.length c1 G1 (zv l))(hg:∀g,g∈G1->g∈G k\/w.heap.size<=g) :
  Qc ti ts tq lay (w'.setCell ⟨tb,k,none⟩ (.slice A1 l.length c1)) q tb n A c C G0 (bC V k (.slice A1 l.length c1)) (bC G k G1) (bC O k l):=by
 have hne:tb≠q:=h.ls.tab.apart h.st h3;have hq:q∉G k:=by
  obtain⟨A',c',_,e2⟩:=h.ls.own k hk;exact e2.apart h.st h2
 have hF:Fr [tb] w' (w'.setCell ⟨tb,k,none⟩ (.slice A1 l.length c1)):=(Fr.refl _ _).setCell (p:=⟨tb,k,none⟩) (.inl (by simp)) _;refine⟨(h.st.fr hf hq).fr hF (by simpa using hne.symm),(h.com.fr hf (λg hg hgk=>h.d0 k hk g hgk hg)).fr hF (λg hg=>?_),h.ls.put h1 hk hf hl hg,λi hi g hgi=>?_⟩
 ·have:=h.com.apart h.ls.tab h1;intro h0;simp at h0;subst h0;exact this hg
 ·by_cases hik:i=k
  ·subst hik;rw[cy]at hgi;rcases hg g hgi with h4|h4
   ·exact h.d0 i hi g h4
   ·intro h5;have:=h.com.lt g h5;omega
  ·rw[da _ _ hik]at hgi;exact h.d0 i hi g hgi
theorem Qc.dS(h:Qc ti ts tq lay w q tb n A c C G0 V G O){k:Nat}(hk:k<n)(hf:Fr (G k) w w')(v:Value):Fr (dY q tb n G0 G) w (w'.setCell ⟨tb,k,none⟩ v):=
 (hf.mono (λx hx=>.inl (aR.2 (.inr (.inr (.inr ⟨k,hk,hx⟩)))))).setCell (p:=⟨tb,k,none⟩) (.inl (aR.2 (.inr (.inl rfl)))) v
theorem Qc.qq{k:Nat}{G1:List Nat}(hk:k<n){B:Nat}(hg:∀g,g∈G1->g∈G k\/B<=g):∀x,x∈dY q tb n G0 (bC G k G1)->x∈dY q tb n G0 G\/B<=x:=by
 intro x hx;rcases aR.1 hx with rfl|rfl|hx|⟨i,hi,hx⟩
 ·exact .inl (aR.2 (.inl rfl))
 ·exact .inl (aR.2 (.inr (.inl rfl)))
 ·exact .inl (aR.2 (.inr (.inr (.inl hx))))
 ·by_cases hik:i=k
  ·subst hik;rw[cy]at hx;rcases hg x hx with h|h
   ·exact .inl (aR.2 (.inr (.inr (.inr ⟨i,hi,h⟩))))
   ·exact .inr h
  ·rw[da _ _ hik]at hx;exact .inl (aR.2 (.inr (.inr (.inr ⟨i,hi,hx⟩))))
theorem Qc.zR(h:Qc ti ts tq lay w q tb n A c C G0 V G O)(h1:ti≠ts)(h2:ti≠tq){k:Nat}(hk:k<n):∀g,g∈G k->g∉dY q tb n G0 (bC G k []):=by
 intro g hg hx;obtain⟨A',c',_,e2⟩:=h.ls.own k hk;rcases aR.1 hx with rfl|rfl|hx|⟨i,hi,hx⟩
 ·exact e2.apart h.st h2 hg
 ·exact e2.apart h.ls.tab h1 hg
 ·exact h.d0 k hk g hg hx
 ·by_cases hik:i=k
  ·subst hik;rw[cy]at hx;cases hx
  ·rw[da _ _ hik]at hx;exact h.ls.apart k i hk hi (Ne.symm hik) g hg hx
theorem Qc.tY(h:Qc ti ts tq lay w q tb n A c C G0 V G O)(h1:ti≠ts)(h2:ti≠tq)(h3:ts≠tq){ci:Nat}(hci:∀a b u,(lay a b).setIfInBounds ci u=lay u b){A1:Option Addr}{c1:Nat}{G1:List Nat}{l:List Int}(hf:Fr G0 w w')(hl:Lr w' ti A1 l.length c1 G1 (zv l))(hg:∀g,g∈G1->g∈G0\/w.heap.size<=g) :
  Qc ti ts tq lay (w'.setCell ⟨q,ci,none⟩ (.slice A1 l.length c1)) q tb n A1 c1 l G1 V G O:=by
 have hne:tb≠q:=h.ls.tab.apart h.st h3;have hq:q∉G0:=h.com.apart h.st h2;have ht:tb∉G0:=h.com.apart h.ls.tab h1;have hF:Fr [q] w' (w'.setCell ⟨q,ci,none⟩ (.slice A1 l.length c1)):=(Fr.refl _ _).setCell (p:=⟨q,ci,none⟩) (.inl (by simp)) _;have hst:=h.st.fr hf hq;have hls:=h.ls.fr hf ht (λi hi g hgi=>h.d0 i hi g hgi);refine⟨?_,hl.fr hF (λg hg=>?_),hls.fr hF (by simpa using hne) (λi hi g hg=>?_),λi hi g hgi hg1=>?_⟩
 ·have:=hst.put ci (.slice A1 l.length c1);rw[hci]at this;exact this
 ·have:=hl.apart hst h2;intro h0;simp at h0;subst h0;exact this hg
 ·obtain⟨A',c',_,e2⟩:=hls.own i hi;have:=e2.apart hst h2;intro h0;simp at h0;subst h0;exact this hg
 ·rcases hg g hg1 with h4|h4
  ·exact h.d0 i hi g hgi h4
  ·have:=h.ls.lt hi g hgi;omega
theorem Qc.By(h:Qc ti ts tq lay w q tb n A c C G0 V G O)(hf:Fr G0 w w')(ci:Nat)(v:Value):Fr (dY q tb n G0 G) w (w'.setCell ⟨q,ci,none⟩ v):=
 (hf.mono (λx hx=>.inl (aR.2 (.inr (.inr (.inl hx)))))).setCell (p:=⟨q,ci,none⟩) (.inl (aR.2 (.inl rfl))) v
theorem Qc.xW{G1:List Nat}{B:Nat}(hg:∀g,g∈G1->g∈G0\/B<=g):∀x,x∈dY q tb n G1 G->x∈dY q tb n G0 G\/B<=x:=by
 intro x hx;rcases aR.1 hx with rfl|rfl|hx|hx
 ·exact .inl (aR.2 (.inl rfl))
 ·exact .inl (aR.2 (.inr (.inl rfl)))
 ·rcases hg x hx with h|h
  ·exact .inl (aR.2 (.inr (.inr (.inl h))))
  ·exact .inr h
 ·exact .inl (aR.2 (.inr (.inr (.inr hx))))
theorem Qc.clear(h:Qc ti ts tq lay w q tb n A c C G0 V G O)(h1:ti≠ts)(h3:ts≠tq)(hb:Blk w' tb ts (aI n λ_=>.slice none 0 0))(hf:Fr [tb] w w') :
  Qc ti ts tq lay w' q tb n A c C G0 (λ_=>.slice none 0 0) (λ_=>[]) (λ_=>[]):=
 ⟨h.st.fr hf (by simpa using (h.ls.tab.apart h.st h3).symm),h.com.fr hf (λg hg h0=>by
  simp at h0;subst h0;exact h.com.apart h.ls.tab h1 hg),⟨hb,λi hi=>⟨none,0,rfl,Lr.nil _ _⟩,λi j _ _ _ g hg=>by cases hg⟩,λi hi g hg=>by cases hg⟩
def Qs(ti ts tq:TypeId)(lay:Value->Value->Array Value)(w:World)(q:Nat)(F:List Nat)(n:Nat)(C:List Int)(O:Nat->List Int):Prop:=
 ∃tb A c G0 V G,Qc ti ts tq lay w q tb n A c C G0 V G O/\F=dY q tb n G0 G
theorem Qs.fr{F':List Nat}(h:Qs ti ts tq lay w q F n C O)(hf:Fr F' w w')(hd:∀x,x∈F->x∉F'):Qs ti ts tq lay w' q F n C O:=by
 obtain⟨tb,A,c,G0,V,G,h,rfl⟩:=h;exact⟨tb,A,c,G0,V,G,h.fr hf hd,rfl⟩
theorem Qs.lt(h:Qs ti ts tq lay w q F n C O):∀x,x∈F->x<w.heap.size:=by
 obtain⟨tb,A,c,G0,V,G,h,rfl⟩:=h;exact h.lt
end
end Go.Gl
namespace Go.Proofs.YtimlkjppaalfaaaGreatDoor
open Go.RowKit Go.Gl
def xX(w:World)(e:Ending)(w':World):Prop:=∃A c G,e=.returned (.slice A 0 c)/\Lr w' 3 A 0 c G []/\Fr [] w w'/\∀g,g∈G->w.heap.size<=g
theorem uY(n:Nat)(hn:n<=17592186044416)(w:World):Calls Tryz.prog 75 #[.slice none 0 0,.int .i64 n] w (xX w):=by
 obtain⟨i0,hi,hz0,hz1,hz2⟩:=info_parts Tryz.ce;rcases Nat.eq_zero_or_pos n with h0|h0
 ·subst h0;go_enter Tryz.func75,Tryz.ntmps75
  go_wp2
  go_ret
  exact⟨none,0,[],rfl,Lr.nil _ _,Fr.refl _ _,λ_ h=>by cases h⟩
 ·have hneg:¬ ((n:Int)<0):=by omega
  have hpos:(n:Int)>0:=by omega
  have hGn:n<=grownCap w n 0 3:=grownCap_ge w _ _ _;have hG63:grownCap w n 0 3<=maxLen:=grownCap_le_maxLen w n 0 3 (by unfold maxLen;omega);have hrz:∀ty,(Builtin.append_ #[25,3] ty #[.slice none 0 0,.int .i64 (n:Int)]).run Tryz.prog w=.ok (.slice (some ⟨w.heap.size,0,none⟩) n (grownCap w n 0 3)) (w.drew.alloc (.cells (Builtin.zeroCells (Value.int .i64 0).cells n++Builtin.zeroCells (Value.int .i64 0).cells (grownCap w n 0 3-n)) 3)):=λty=>
   Lib.run_append_nil_zeros w 25 3 ty 3 i0 (.int .i64 0) .i64 .i64 Tryz.underlying25 Tryz.underlying3 hi hz0 n h0 (by rw[hz1];decide) (by omega) (by rw[hz2];omega)
  obtain⟨M,hM⟩:∃M,M=grownCap w n 0 3:=⟨_,rfl⟩;rw[<- hM]at hrz hGn hG63;have HM:=aa hG63;have HL:Hid (Lr (w.drew.alloc (.cells (Builtin.zeroCells (Value.int .i64 0).cells n++Builtin.zeroCells (Value.int .i64 0).cells (M-n)) 3)) 3 (some ⟨w.heap.size,0,none⟩) 0 M [w.heap.size] []):=
   ⟨rfl,Df _,hG63,λh=>absurd h (by omega),λ_=>⟨_,0,_,rfl,rfl,Blk.new w.drew _ _,by simp[size_zeroCells,Value.cells];omega,by simp⟩⟩
  unfold maxLen at hG63;clear hM;go_enter Tryz.func75,Tryz.ntmps75
  go_wp2_with (at_builtin;refine Lib.wpList_append_run _ rfl _ _ _ _ rfl _ _ rfl rfl _ _ (hrz _) ?_)
  all_goals
   go_ret
   exact⟨_,_,_,rfl,HL.out,((Fr.refl _ _).drew).alloc _,λg hg=>by simp at hg;omega⟩
def kI(w:World)(l:List Int)(e:Ending)(w':World):Prop:=∃A c G,e=.returned (.slice A l.length c)/\Lr w' 3 A l.length c G (zv l)/\Fr [] w w'/\∀g,g∈G->w.heap.size<=g
theorem lF{w:World}{ab k kc:Nat}{A:Nat->Option Addr}{c:Nat->Nat}{L:Nat->List Int}(hk:k<=4611686018427387904)(hrow:∀j,j<k->w.cell? ⟨ab,j,none⟩=some (.slice (A j) (L j).length (c j)))
  (hsl:∀j,j<k->Sl w (A j) (L j).length (λi=>.int .i64 ((L j).getD i 0))) (hb:(bi L k).length<=17592186044416) :
  Calls Tryz.prog 35 #[.slice (some ⟨ab,0,none⟩) k kc] w (kI w (bi L k)):=by
 obtain⟨i0,hi,hz0,hz1,hz2⟩:=info_parts Tryz.ce;have HR:=aa hrow;have HS:=aa hsl;have HB:=aa hb;clear hrow hsl hb;go_enter Tryz.func35,Tryz.ntmps35
 go_wp2
 go_loop [3,11] (λs i=>∃j:Nat,i=.int .i64 j/\j<=k/\s=.int .i64 (((bi L j).length:Nat):Int)) (λ_ i=>k-(intOf i).toNat)
 case atStart=>exact⟨0,rfl,Df _,rfl⟩
 case round=>
  obtain⟨j,rfl,hj,rfl⟩:=hrel;have hm:=De (iJ (L:=L) hj) HB.out;by_cases hlt:j<k
  ·have hlt1:(j:Int)<(k:Int):=by omega
   have hc:=HR.out j hlt;have hm1:=De (iJ (L:=L) (show j+1<=k from hlt)) HB.out;have HE:Hid ((bi L (j+1)).length=(bi L j).length+(L j).length):=by show _=_;simp[bi]
   rw[HE.out]at hm1;have HE0:Hid (Value.int .i64 (((bi L (j+1)).length:Nat):Int)=.int .i64 (((bi L j).length:Int)+((L j).length:Int))):=by show _=_;rw[HE.out];go_num
   clear HE;generalize hS:(bi L (j+1)).length=s1 at *;have ES:=aa hS;clear hS;generalize (bi L j).length=s0 at *;generalize (L j).length=l0 at *;have hneg:¬ ((s0:Int)+(l0:Int)<0):=by omega
   go_wp2
   go_round
   case rel=>exact⟨j+1,by go_num,by omega,by rw[ES.out];exact HE0.out.symm⟩
   case measure=>simp[intOf];omega
  ·obtain rfl:k=j:=by omega
   go_wp2_with fail
   refine(uY _ HB.out _).mono ?_;rintro e w1 ⟨A1,c1,G1,rfl,hl,hf,hg⟩;have HL:Hid (Lr w1 3 A1 0 c1 G1 (zv (bi L 0))):=hl;have HF:=aa hf;have HG:=aa hg;clear hl hf hg;go_wp2_with fail
   go_loopw [6,27] (λv i wr=>∃(j:Nat) (A2:Option Addr) (c2:Nat) (G2:List Nat),i=.int .i64 j/\j<=k/\v=.slice A2 (bi L j).length c2/\Lr wr 3 A2 (bi L j).length c2 G2 (zv (bi L j))/\Fr [] w wr/\∀g,g∈G2->w.heap.size<=g) (λ_ i _=>k-(intOf i).toNat)
   case atStart=>exact⟨0,_,_,_,rfl,Df _,rfl,HL.out,HF.out,HG.out⟩
   case round=>
    obtain⟨j,A2,c2,G2,rfl,hj2,rfl,hl,hf,hg⟩:=hrel;have HL2:=aa hl;have HF2:=aa hf;have HG2:=aa hg;clear hl hf hg;by_cases hlt:j<k
    ·have hlt1:(j:Int)<(k:Int):=by omega
     have hc:=(HF2.out.cell (p:=⟨ab,j,none⟩) (af (HR.out j hlt)) (by simp)).trans (HR.out j hlt);have hm1:=De (iJ (L:=L) (show j+1<=k from hlt)) HB.out;have HE:Hid ((bi L (j+1)).length=(bi L j).length+(L j).length/\zv (bi L (j+1))=zv (bi L j)++zv (L j)):=by
      refine⟨?_,?_⟩
      ·simp[bi]
      ·simp[bi,gK]
     rw[HE.out.1]at hm1;have HX:=aa (((HS.out j hlt).fr HF2.out (λx hx=>by cases hx)).src);have HN:Hid ((zv (L j)).length=(L j).length/\∀u∈zv (L j),u.oneCell'=true):=⟨q8 _,wJ _⟩;have HM1:=aa hm1;clear hm1;go_wp2_with (first|(at_builtin;go_loud (refine aS rfl _ _ 25 rfl 3 i0 (.int .i64 0) 8 Tryz.underlying25 hi hz0 hz1 hz2 rfl rfl HL2.out rfl HN.out.1 HX.out HN.out.2 (by have:=HM1.out;unfold maxLen;omega) (by have:=HM1.out;omega) ?_;intro A3 c3 G3 w3 HL3 HF3 HG3)))
     have HL4:Hid (Lr w3 3 A3 (bi L (j+1)).length c3 G3 (zv (bi L (j+1)))):=by
      show Lr _ _ _ _ _ _ _;rw[HE.out.1,HE.out.2];exact HL3.out
     have HF4:Hid (Fr [] w w3):=HF2.out.trans HF3.out (λx hx=>.inr (HG2.out x hx));have HG4:Hid (∀g,g∈G3->w.heap.size<=g):=λg hg=>by
      rcases HG3.out g hg with h|⟨h,_⟩
      ·exact HG2.out g h
      ·have:=HF2.out.size;omega
     go_roundw
     case rel=>exact⟨j+1,A3,c3,G3,by go_num,by omega,by rw[HE.out.1],HL4.out,HF4.out,HG4.out⟩
     case measure=>simp[intOf];omega
    ·obtain rfl:k=j:=by omega
     go_wp2_with fail
     go_ret
     exact⟨A2,c2,G2,rfl,HL2.out,HF2.out,HG2.out⟩
theorem Tryz.nD:(Tryz.prog.info? 25).map (λi=>(i.zero,i.size,i.bytes))=some (some (.slice none 0 0),1,24):=by kernel_rfl
def Cc(B:Nat):Value->Value->Array Value:=λa b=>#[a,.int .i64 (B:Int),b]
abbrev Qq(w:World)(q:Nat)(F:List Nat)(n B:Nat)(C:List Int)(O:Nat->List Int):Prop:=Qs 3 25 106 (Cc B) w q F n C O
abbrev Qk(w:World)(q tb n B:Nat)(A:Option Addr)(c:Nat)(C:List Int)(G0:List Nat)(V:Nat->Value)(G:Nat->List Nat)(O:Nat->List Int):Prop:=Qc 3 25 106 (Cc B) w q tb n A c C G0 V G O
structure QOk(n B:Nat)(C:List Int)(O:Nat->List Int):Prop where
 n1:1<=n
 n2:n<=64
 b:B<=65536
 c:C.length<=B
 o:∀i,i<n->(O i).length<=3
theorem QOk.cat{n B:Nat}{C:List Int}{O:Nat->List Int}(h:QOk n B C O):(bi O n).length<=192:=by
 have:=tW h.o;have:=h.n2;omega
section
variable {w:World}{q tb n B:Nat}{A:Option Addr}{c:Nat}{C:List Int}{G0:List Nat}{V:Nat->Value}{G:Nat->List Nat}{O:Nat->List Int}{F:List Nat}
theorem Qk.c0(h:Qk w q tb n B A c C G0 V G O):w.cell? ⟨q,0,none⟩=some (.slice A C.length c):=by rw[h.st.cell];rfl
theorem Qk.c1(h:Qk w q tb n B A c C G0 V G O):w.cell? ⟨q,1,none⟩=some (.int .i64 (B:Int)):=by rw[h.st.cell];rfl
theorem Qk.c2(h:Qk w q tb n B A c C G0 V G O):w.cell? ⟨q,2,none⟩=some (.slice (some ⟨tb,0,none⟩) n n):=by rw[h.st.cell];rfl
theorem Qk.cw(h:Qk w q tb n B A c C G0 V G O){k:Nat}(hk:k<n):w.cell? ⟨tb,k,none⟩=some (V k):=h.ls.cw hk
end
def Ce(n B:Nat)(w:World)(e:Ending)(w':World):Prop:=
 ∃q F,e=.returned (.tuple #[.pointer (some ⟨q,0,none⟩),.int .i64 0])/\Qq w' q F n B [] (λ_=>[])/\Fr [] w w'/\∀x,x∈F->w.heap.size<=x
theorem zS(n B:Nat)(h1:1<=n)(h2:n<=64)(h3:B<=65536)(w:World):Calls Tryz.prog 41 #[.int .i64 (n:Int),.int .i64 (B:Int)] w (Ce n B w):=by
 obtain⟨i0,hi,hz0,hz1,hz2⟩:=info_parts Tryz.nD;have g1:¬ ((n:Int)<1):=by omega
 have g2:¬ ((n:Int)>64):=by omega
 have g3:¬ ((B:Int)<0):=by omega
 have g4:¬ ((B:Int)>65536):=by omega
 go_enter Tryz.func41,Tryz.ntmps41
 go_wp2_with (first|(at_make;refine wpList_make_full _ rfl _ _ 104 rfl w.heap.size 25 i0 (.slice none 0 0) 1 Tryz.underlying104 hi hz0 hz1 _ _ _ _ n rfl rfl rfl rfl (by rw[hz2];omega) (by unfold maxLen;omega) (Dd _) ?_;intro w1 hown hgr;have HO:=aa hown;have HG:=aa hgr;clear hown hgr))
 go_ret2
 have hown:=HO.out;rw[Nat.mul_one,cU _ rfl]at hown;have hb:=gh hown;have HF:Fr [] w w1:=(Fr.refl [] w).grown HG.out (λ_ hk=>by cases hk);refine⟨w1.heap.size,_,rfl,⟨w.heap.size,none,0,[],λ_=>.slice none 0 0,λ_=>[],⟨Blk.new _ _ _,Lr.nil _ _,⟨?_,λi hi=>⟨none,0,rfl,Lr.nil _ _⟩,λi j _ _ _ g hg=>by cases hg⟩,λi hi g hg=>by cases hg⟩,rfl⟩,HF.alloc _,λx hx=>?_⟩
 ·rw[dV];exact hb.alloc _
 ·rcases aR.1 hx with rfl|rfl|hx|⟨i,_,hx⟩
  ·exact HF.size
  ·exact Dd _
  ·cases hx
  ·cases hx
structure cI(g:Geo)(W R C P:Nat):Prop where
 rw:g.rw=(W:Int)
 cw:g.cw=(C:Int)
 rg:g.regions=(R:Int)
 wd:g.words=((R*W:Nat):Int)
 cd:g.aF=((R*P:Nat):Int)
 wp:W=P*C
 p1:1<=P
 c1:1<=C
 c8:8<=C
 r2:2<=R
 r3:R<=65536
 mx:R*W<=4194304
theorem xY{g:Geo}{s k:Nat}(h:g.Ok s k):∃R,cI g (2 ^ s) R (2 ^ k) (2 ^ (s-k)):=by
 obtain⟨R,hR⟩:=Int.eq_ofNat_of_zero_le h.wH;have hR:g.regions=(R:Int):=hR;have hk:=h.ks;have e1:2 ^ s=2 ^ (s-k)*2 ^ k:=by rw[<- Nat.pow_add];congr 1;omega
 have hw:g.words=((R*2 ^ s:Nat):Int):=by rw[h.words,hR,ja,Int.natCast_mul]
 have h8:8<=2 ^ k:=De (show 8<=2 ^ 3 by decide) (Nat.pow_le_pow_right (by decide) h.k3);refine⟨R,⟨h.rw.trans (ja s),h.cw.trans (ja k),hR,hw,?_,e1,Nat.pos_of_ne_zero (by simp),by omega,h8,by have:=h.r2;omega,by have:=h.jb;omega,by have:=h.nU;omega⟩⟩;have hc:=h.aF;rw[hw,e1,<- Nat.mul_assoc,ja,Int.natCast_mul (R*2 ^ (s-k))]at hc;exact Int.eq_of_mul_eq_mul_right (by
                   have:0<2 ^ k:=by omega
                   omega) hc
section
variable {g:Geo}{W R cw per:Nat}
theorem cI.pm(h:cI g W R cw per):R*per<=4194304:=by
 have h1:=h.mx;rw[h.wp,<- Nat.mul_assoc]at h1;exact De (Nat.le_mul_of_pos_right _ h.c1) h1
theorem cI.ik(h:cI g W R cw per):1<=W:=by rw[h.wp];exact Nat.mul_pos h.p1 h.c1
theorem cI.oi(h:cI g W R cw per):cw*(R*per)=R*W:=by rw[h.wp,Nat.mul_comm cw,Nat.mul_assoc]
theorem cI.cwm(h:cI g W R cw per):cw<=4194304:=by
 have h1:=h.mx;rw[<- h.oi]at h1;exact De (Nat.le_mul_of_pos_right _ (Nat.mul_pos (by have:=h.r2;omega) h.p1)) h1
theorem cI.Bz(h:cI g W R cw per):qo g cw (R*per):=
 ⟨h.c1,by have:=h.cwm;omega,by rw[h.oi];exact h.mx,by rw[h.oi];exact h.wd,h.cw,h.cd⟩
theorem cI.xZ(h:cI g W R cw per):rE g W R:=⟨by have:=h.r2;omega,h.r3,h.ik,h.mx,h.wd,h.rw,h.rg⟩
theorem cI.CM(h:cI g W R cw per):OkG g per R:=by
 have hd:Dim per R:=⟨by have:=h.r2;omega,h.r3,h.p1,h.pm⟩;have hc:=h.c1;have hr:=h.r2;refine⟨hd,h.rg,h.cd,?_,by rw[h.cw];omega,?_,?_,?_,?_,?_,?_,?_,?_⟩
 ·rw[h.rw,h.cw,h.wp,Int.tdiv_eq_ediv_of_nonneg (by omega),<- Int.natCast_ediv,Nat.mul_div_cancel _ (by omega)]
 ·rw[h.rg];omega
 ·rw[h.rg];have:=h.r3;omega
 ·rw[h.cw];omega
 ·rw[h.rw];have:=h.ik;omega
 ·rw[h.rw,h.rg];have h1:W<=4194304 / R:=(Nat.le_div_iff_mul_le (by omega)).2 (by rw[Nat.mul_comm];exact h.mx);have h2:(4194304:Int) / (R:Int)=((4194304 / R:Nat):Int):=by rw[Int.natCast_ediv];rfl
  rw[h2];omega
 ·rw[h.rw,h.cw,h.wp,<- Int.natCast_emod,Nat.mul_mod_left];rfl
 ·rw[h.wd,h.rg,h.rw,Int.natCast_mul]
 ·rw[h.cd,h.wd,h.cw,h.wp,<- Nat.mul_assoc,<- Int.natCast_ediv,Nat.mul_div_cancel _ (by omega)]
end
structure HX where
 ob:Nat
 oo:Nat
 cb:Nat
 cs:Nat
 cr:Nat
 qb:Nat
 qF:List Nat
 zb:Nat
 mb:Nat
 mr:Nat
structure HT where
 cw:Nat
 per:Nat
 O:Nat->Int
 C:List Nat
 qm:Nat
 qc:List Int
 ql:Nat->List Int
 σ:RS
 M:List Nat
structure Hw(w:World)(L:HL)(X:HX)(tg:Tg)(own:Nat->Nat)(FS:Nat->List Nat)(h:HS)(x:HT)(s k:Nat):Prop where
 st:Blk w L.hb 50 (L.cells h.g h.T)
 ar:∃c,Ar w L.ab L.aw h.n h.f c
 rg:Rg w L.tb L.sb L.pb L.mb h.W h.R h.s h.t L.m
 row:Lr w 75 L.rA h.T L.rc L.rG (jz L.S h.T)
 stk:∀i,i<h.T->HkP w (L.S i) (FS i) L.B (h.st i)
 buf:Blk w L.bb 215 (eK h.T h.bx h.be)
 ok:h.Ok s k
 tab:Tab w
 dim:cI h.g h.W h.R x.cw x.per
 of:Of w X.ob X.oo x.cw (h.R*x.per) x.O
 ct:Ct w X.cb X.cs X.cr (h.R*x.per) x.C
 qu:Qq w X.qb X.qF h.T x.qm x.qc x.ql
 se:SAt w tg X.zb x.per h.R x.σ
 ma:ch w X.mb X.mr h.n x.M
 vo:L.vo=.pointer (some ⟨X.ob,0,none⟩)
 vc:L.vc=.pointer (some ⟨X.cb,0,none⟩)
 vq:L.vq=.pointer (some ⟨X.qb,0,none⟩)
 vs:L.vs=.pointer (some ⟨X.zb,0,none⟩)
 vm:L.vm=.pointer (some ⟨X.mb,0,none⟩)
 o1:own L.hb=1/\own L.bb=1/\∀b,b∈L.rG->own b=1
 o2:own L.ab=2/\own L.aw=2
 o3:own L.tb=3/\own L.sb=3/\own L.pb=3/\own L.mb=3
 o4:own X.ob=4/\own X.oo=4
 o5:own X.cb=5/\own X.cs=5/\own X.cr=5
 o6:∀b,b∈X.qF->own b=6
 o7:∀b,(tg b).1≠0->own b=7
 o8:own X.mb=8/\own X.mr=8
 io:∀i,i<h.T->∀b,b∈FS i->own b=100+i
 o0:own 0=0
 lt:∀b,own b≠0->b<w.heap.size
section
variable {w w':World}{L:HL}{X:HX}{tg:Tg}{own:Nat->Nat}{FS:Nat->List Nat}{h:HS}{x:HT}{s k:Nat}
theorem Hw.hr(H:Hw w L X tg own FS h x s k):Hr w L h s k:=⟨H.st,H.ar,H.rg,H.row,λi hi=>⟨FS i,H.stk i hi⟩,H.buf,H.ok,H.tab⟩
end
abbrev ptr(b:Nat):Value:=.pointer (some ⟨b,0,none⟩)
def bT(c:Cfg)(g:Geo)(T bb:Nat)(v0 v1 v2 v3 v4 v5 v6 vR:Value):Array Value:=
 #[.int .i64 c.shift,.int .i64 c.regions,.int .i64 c.aW,.int .i64 c.threads,.int .i64 c.roots,.int .i64 c.fo,.int .i64 c.markers,.int .i64 c.bP,.int .i64 c.iY,.int .i64 c.queue,.int .i64 c.stack,.int .i64 c.iZ,.int .i64 c.gJ,.int .i64 c.fail,
  .int .i64 g.words,.int .i64 g.rw,.int .i64 g.cw,.int .i64 g.regions,.int .i64 g.aF,.int .i64 g.max,
  v0,v1,v2,v3,v4,v5,v6,vR,.slice (some ⟨bb,0,none⟩) T T]
structure fF(w:World)(cb gb hb bb T:Nat)(c:Cfg)(g:Geo)(cs:Array Value):Prop where
 c:Blk w cb 23 c.cells
 g:Blk w gb 39 g.cells
 h:Blk w hb 50 cs
 b:Blk w bb 215 (eK T (λ_=>0) (λ_=>0))
 t:Tab w
 n:hb≠0
section
variable {w w':World}{cb gb hb bb T:Nat}{c:Cfg}{g:Geo}{cs:Array Value}{F:List Nat}
theorem fF.fr(h:fF w cb gb hb bb T c g cs)(hf:Fr F w w')(h1:cb∉F)(h2:gb∉F)(h3:hb∉F)(h4:bb∉F)(h5:0∉F):fF w' cb gb hb bb T c g cs:=⟨h.c.fr hf h1,h.g.fr hf h2,h.h.fr hf h3,h.b.fr hf h4,h.t.fr hf h5,h.n⟩
theorem fF.fr0(h:fF w cb gb hb bb T c g cs)(hf:Fr [] w w'):fF w' cb gb hb bb T c g cs:=h.fr hf (by simp) (by simp) (by simp) (by simp) (by simp)
theorem fF.put(h:fF w cb gb hb bb T c g cs)(k:Nat)(v:Value):fF (w.setCell ⟨hb,k,none⟩ v) cb gb hb bb T c g (cs.setIfInBounds k v):=by
 have hf:Fr [hb] w (w.setCell ⟨hb,k,none⟩ v):=(Fr.refl _ _).setCell (p:=⟨hb,k,none⟩) (.inl (by simp)) _;refine⟨h.c.fr hf ?_,h.g.fr hf ?_,h.h.put k v,h.b.fr hf ?_,h.t.fr hf (by simpa using h.n.symm),h.n⟩
 ·simpa using h.c.apart h.h (by decide)
 ·simpa using h.g.apart h.h (by decide)
 ·simpa using h.b.apart h.h (by decide)
end
structure so(w0 w:World)(cb gb hb bb T:Nat)(c:Cfg)(g:Geo)(v0 v1 v2 v3 v4 v5 v6:Value)(B k:Nat)(rA:Option Addr)(rc:Nat)(rG:List Nat)(S:Nat->Nat)(FS:Nat->List Nat)(f:Nat->Nat):Prop where
 st:fF w cb gb hb bb T c g (bT c g T bb v0 v1 v2 v3 v4 v5 v6 (.slice rA k rc))
 row:Lr w 75 rA k rc rG (jz S k)
 stk:∀i,i<k->HkP w (S i) (FS i) B []
 oG:∀b,b∈rG->f b=1
 oF:∀i,i<k->∀b,b∈FS i->f b=100+i
 ofn:∀b,f b≠0->w0.heap.size<=b/\b<w.heap.size
 fr:Fr [hb] w0 w
 h0:hb<w0.heap.size
 n0:0<w0.heap.size
def bk{α:Type}(f:Nat->α)(k:Nat)(v:α):Nat->α:=λi=>if i=k then v else f i
theorem fa{α:Type}(f:Nat->α)(k:Nat)(v:α):bk f k v k=v:=if_pos rfl
theorem fb{α:Type}(f:Nat->α){k i:Nat}(v:α)(h:i≠k):bk f k v i=f i:=if_neg h
theorem uZ(S:Nat->Nat)(k s:Nat):jz (bk S k s) (k+1)=jz S k++[ptr s]:=by
 unfold jz;rw[List.range_succ,List.map_append]
 congr 1
 ·refine List.map_congr_left λi hi=>?_;rw[fb _ _ (by have:=List.mem_range.1 hi;omega)]
 ·simp[fa]
theorem fF.begin{w:World}{cb gb hb bb T:Nat}{c:Cfg}{g:Geo}{v0 v1 v2 v3 v4 v5 v6:Value}{B:Nat}(h:fF w cb gb hb bb T c g (bT c g T bb v0 v1 v2 v3 v4 v5 v6 (.slice none 0 0))):so w w cb gb hb bb T c g v0 v1 v2 v3 v4 v5 v6 B 0 none 0 [] (λ_=>0) (λ_=>[]) (λ_=>0):=
 ⟨h,Lr.nil _ _,λi hi=>absurd hi (by omega),λb hb=>(by cases hb),λi hi=>absurd hi (by omega),λb hb=>absurd rfl hb,Fr.refl _ _,h.h.lt,af (h.t 0 (by decide))⟩
theorem so.add{w0 w w1 w2:World}{cb gb hb bb T:Nat}{c:Cfg}{g:Geo}{v0 v1 v2 v3 v4 v5 v6:Value}{B k:Nat}{rA:Option Addr}{rc:Nat}{rG:List Nat}{S:Nat->Nat}{FS:Nat->List Nat}{f:Nat->Nat}
  (h:so w0 w cb gb hb bb T c g v0 v1 v2 v3 v4 v5 v6 B k rA rc rG S FS f) {s:Nat}{F:List Nat} (hf1:Fr [] w w1) (hs:HkP w1 s F B []) (hn:∀x,x∈F->w.heap.size<=x) {o:Obj}{A':Option Addr}{c':Nat}{G':List Nat}
  (hr:Lr w2 75 A' (k+1) c' G' (jz S k++[ptr s])) (hf2:Fr rG (w1.alloc o) w2) (hG:∀x,x∈G'->x∈rG\/x=(w1.alloc o).heap.size) :
  ∃S' FS' f',so w0 (w2.setCell ⟨hb,27,none⟩ (.slice A' (k+1) c')) cb gb hb bb T c g v0 v1 v2 v3 v4 v5 v6 B (k+1) A' c' G' S' FS' f':=by
 have hf3:Fr [hb] w2 (w2.setCell ⟨hb,27,none⟩ (.slice A' (k+1) c')):=(Fr.refl _ _).setCell (p:=⟨hb,27,none⟩) (.inl (by simp)) _;have hfa:Fr [] w (w1.alloc o):=hf1.alloc _;have s1:=hf1.size;have s2:=hf2.size;have s3:=hf3.size;have s0:=h.fr.size;have h0:=h.h0;have n0:=h.n0;simp at s2;have rlt:∀x,x∈rG->w0.heap.size<=x/\x<w.heap.size:=λx hx=>h.ofn x (by rw[h.oG x hx];decide);have st2:fF w2 cb gb hb bb T c g (bT c g T bb v0 v1 v2 v3 v4 v5 v6 (.slice rA k rc)):=
  (h.st.fr0 hfa).fr hf2 (h.row.apart h.st.c (by decide)) (h.row.apart h.st.g (by decide)) (h.row.apart h.st.h (by decide)) (h.row.apart h.st.b (by decide)) (λhx=>by have:=(rlt _ hx).1;omega)
 have Flt:=hs.lt;have e2:(w1.alloc o).heap.size=w1.heap.size+1:=by simp
 rw[e2]at hG;refine⟨bk S k s,bk FS k F,λx=>if x<w.heap.size then f x else if x∈F then 100+k else if x∈G' then 1 else 0,st2.put 27 _,?_,λi hi=>?_,λb hb'=>?_,λi hi b hb'=>?_,λb hb'=>?_,?_,h0,n0⟩
 ·rw[uZ];refine hr.fr hf3 λx hx hx'=>?_;simp at hx';subst hx';rcases hG x hx with h1|h1
  ·have:=(rlt _ h1).1;omega
  ·omega
 ·by_cases e:i=k
  ·subst e;rw[fa,fa];refine(((hs.fr0 ((Fr.refl _ _).alloc o)).fr hf2 λx hx hx'=>?_)).fr hf3 λx hx hx'=>?_
   ·have:=hn x hx;have:=(rlt _ hx').2;omega
   ·simp at hx';have:=hn x hx;omega
  ·rw[fb _ _ e,fb _ _ e];have hi':i<k:=by omega
   refine(((h.stk i hi').fr0 hfa).fr hf2 λx hx hx'=>?_).fr hf3 λx hx hx'=>?_
   ·have h1:=h.oF i hi' x hx;rw[h.oG x hx']at h1;omega
   ·simp at hx';have:=(h.ofn x (by rw[h.oF i hi' x hx];omega)).1;omega
 ·rcases hG b hb' with h1|h1
  ·show(if b<w.heap.size then f b else _)=1;rw[if_pos (rlt b h1).2];exact h.oG b h1
  ·show(if b<w.heap.size then f b else if b∈F then 100+k else if b∈G' then 1 else 0)=1;rw[if_neg (by omega),if_neg (λhx=>by have:=Flt b hx;omega),if_pos hb']
 ·by_cases e:i=k
  ·subst e;rw[fa]at hb';show(if b<w.heap.size then f b else if b∈F then 100+i else if b∈G' then 1 else 0)=100+i;rw[if_neg (by have:=hn b hb';omega),if_pos hb']
  ·rw[fb _ _ e]at hb';have hi':i<k:=by omega
   have h1:=h.oF i hi' b hb';show(if b<w.heap.size then f b else if b∈F then 100+k else if b∈G' then 1 else 0)=100+i;rw[if_pos ((h.ofn b (by rw[h1];omega)).2)];exact h1
 ·have hb2:(if b<w.heap.size then f b else if b∈F then 100+k else if b∈G' then 1 else 0)≠0:=hb';by_cases e1:b<w.heap.size
  ·rw[if_pos e1]at hb2;have:=h.ofn b hb2;omega
  ·rw[if_neg e1]at hb2;by_cases e3:b∈F
   ·have:=Flt b e3;omega
   ·rw[if_neg e3]at hb2;by_cases e4:b∈G'
    ·have:=hr.lt b e4;omega
    ·rw[if_neg e4]at hb2;exact absurd rfl hb2
 ·exact((h.fr.trans hfa (λx hx=>by cases hx)).trans hf2 (λx hx=>.inr (rlt x hx).1)).ae hf3
def HSn(g:Geo)(W R n T:Nat):HS:=⟨g,W,R,n,λ_=>0,λ_=>0,λk=>((k*W:Nat):Int),T,λ_=>0,λ_=>0,λ_=>[]⟩
def HTn(C P R qm nW:Nat):HT:=⟨C,P,λ_=>0,List.replicate ((R*P+63) / 64) 0,qm,[],λ_=>[],lD,List.replicate ((nW+63) / 64) 0⟩
theorem HSn.ok{g:Geo}{W R C P s k T:Nat}(h:g.Ok s k)(d:cI g W R C P)(hT:T<=64):(HSn g W R (R*W) T).Ok s k:=
 ⟨h,d.rw,d.rg,d.wd,rfl,λi=>(by show(0:Nat)<18446744073709551616;decide),λi hi=>⟨(by show(0:Int)<=0;decide),(by show(0:Int)<=5;decide)⟩,λi hi=>⟨Int.le_refl _,(by show((i*W:Nat):Int)<=((i*W+W:Nat):Int);omega)⟩,hT,λi hi=>⟨Int.le_refl _,Int.le_refl _,(by show(0:Int)<=4194304;decide)⟩,λi hi r hr=>(by cases hr),λi hi=>(by show 0<=64;decide)⟩
def fK(a0 a1 a2 a3 a4 a5 a6 a7 a8:Nat)(f:Nat->Nat)(x:Nat):Nat:=
 if x<a0 then 0 else if x<a1 then 1 else if x<a2 then 2 else if x<a3 then 3 else if x<a4 then 4 else if x<a5 then 5 else if x<a6 then 6 else if x<a7 then 7 else if x<a8 then 8 else f x
section
variable {a0 a1 a2 a3 a4 a5 a6 a7 a8 x:Nat}{f:Nat->Nat}
theorem AF(h:a0<=x/\x<a1):fK a0 a1 a2 a3 a4 a5 a6 a7 a8 f x=1:=by unfold fK;rw[if_neg (by omega),if_pos (by omega)]
theorem AG(m:a0<=a1)(h:a1<=x/\x<a2):fK a0 a1 a2 a3 a4 a5 a6 a7 a8 f x=2:=by unfold fK;rw[if_neg (by omega),if_neg (by omega),if_pos (by omega)]
theorem tZ(m:a0<=a1/\a1<=a2)(h:a2<=x/\x<a3):fK a0 a1 a2 a3 a4 a5 a6 a7 a8 f x=3:=by unfold fK;rw[if_neg (by omega),if_neg (by omega),if_neg (by omega),if_pos (by omega)]
theorem AH(m:a0<=a1/\a1<=a2/\a2<=a3)(h:a3<=x/\x<a4):fK a0 a1 a2 a3 a4 a5 a6 a7 a8 f x=4:=by unfold fK;rw[if_neg (by omega),if_neg (by omega),if_neg (by omega),if_neg (by omega),if_pos (by omega)]
theorem x5(m:a0<=a1/\a1<=a2/\a2<=a3/\a3<=a4)(h:a4<=x/\x<a5):fK a0 a1 a2 a3 a4 a5 a6 a7 a8 f x=5:=by unfold fK;rw[if_neg (by omega),if_neg (by omega),if_neg (by omega),if_neg (by omega),if_neg (by omega),if_pos (by omega)]
theorem Cf(m:a0<=a1/\a1<=a2/\a2<=a3/\a3<=a4/\a4<=a5)(h:a5<=x/\x<a6):fK a0 a1 a2 a3 a4 a5 a6 a7 a8 f x=6:=by unfold fK;rw[if_neg (by omega),if_neg (by omega),if_neg (by omega),if_neg (by omega),if_neg (by omega),if_neg (by omega),if_pos (by omega)]
theorem Cg(m:a0<=a1/\a1<=a2/\a2<=a3/\a3<=a4/\a4<=a5/\a5<=a6)(h:a6<=x/\x<a7):fK a0 a1 a2 a3 a4 a5 a6 a7 a8 f x=7:=by unfold fK;rw[if_neg (by omega),if_neg (by omega),if_neg (by omega),if_neg (by omega),if_neg (by omega),if_neg (by omega),if_neg (by omega),if_pos (by omega)]
theorem AI(m:a0<=a1/\a1<=a2/\a2<=a3/\a3<=a4/\a4<=a5/\a5<=a6/\a6<=a7)(h:a7<=x/\x<a8):fK a0 a1 a2 a3 a4 a5 a6 a7 a8 f x=8:=by unfold fK;rw[if_neg (by omega),if_neg (by omega),if_neg (by omega),if_neg (by omega),if_neg (by omega),if_neg (by omega),if_neg (by omega),if_neg (by omega),if_pos (by omega)]
theorem AJ(m:a0<=a1/\a1<=a2/\a2<=a3/\a3<=a4/\a4<=a5/\a5<=a6/\a6<=a7/\a7<=a8)(h:a8<=x):fK a0 a1 a2 a3 a4 a5 a6 a7 a8 f x=f x:=by unfold fK;rw[if_neg (by omega),if_neg (by omega),if_neg (by omega),if_neg (by omega),if_neg (by omega),if_neg (by omega),if_neg (by omega),if_neg (by omega),if_neg (by omega)]
theorem AK(h:fK a0 a1 a2 a3 a4 a5 a6 a7 a8 f x≠0):a0<=x/\(x<a1\/x<a2\/x<a3\/x<a4\/x<a5\/x<a6\/x<a7\/x<a8\/f x≠0):=by
 unfold fK at h;by_cases h0:x<a0
 ·rw[if_pos h0]at h;exact absurd rfl h
 refine⟨by omega,?_⟩;by_cases e:x<a1\/x<a2\/x<a3\/x<a4\/x<a5\/x<a6\/x<a7\/x<a8
 ·omega
 ·rw[if_neg (by omega),if_neg (by omega),if_neg (by omega),if_neg (by omega),if_neg (by omega),if_neg (by omega),if_neg (by omega),if_neg (by omega),if_neg (by omega)]at h;simp[h]
end
def kq(w:World)(c:Cfg)(g:Geo)(W R n T C P qm B s k:Nat)(e:Ending)(w':World):Prop:=
 ∃L X tg own FS,e=.returned (.tuple #[.pointer (some ⟨L.hb,0,none⟩),.int .i64 0])/\Hw w' L X tg own FS (HSn g W R n T) (HTn C P R qm n) s k/\Fr [] w w'/\(∀b,own b≠0->w.heap.size<=b)/\L.B=B/\L.cfg=c
theorem BA{w w3 w4 w5 w6 w7 w8 w9 w10 wr:World}{c:Cfg}{g:Geo}{W R C P nW nC T B qm s k cb gb hb bb ab aw tb sb pb mb ob oo kb ks kr qb zb mk mr:Nat}{qF:List Nat}{tg:Tg}
  {rA:Option Addr}{rc:Nat}{rG:List Nat}{S:Nat->Nat}{FS:Nat->List Nat}{f:Nat->Nat}
  (tab:Tab w) (dm:cI g W R C P) (eC:nC=R*P) (ok:(HSn g W R nW T).Ok s k)
  (h0:fF w3 cb gb hb bb T c g (bT c g T bb (.pointer none) (.pointer none) (.pointer none) (.pointer none) (.pointer none) (.pointer none) (.pointer none) (.slice none 0 0))) (f0:Fr [] w w3) (m0:w.heap.size<=hb/\w.heap.size<=bb)
  (hA:Ar w4 ab aw nW (λ_=>0) 0) (fA:Fr [hb] w3 w4) (mA:w3.heap.size<=ab/\w3.heap.size<=aw)
  (hR:Rg w5 tb sb pb mb W R (λ_=>0) (λk=>((k*W:Nat):Int)) (λk=>((k*W:Nat):Int))) (fR:Fr [hb] w4 w5) (mR:w4.heap.size<=tb/\w4.heap.size<=sb/\w4.heap.size<=pb/\w4.heap.size<=mb)
  (hO:Of w6 ob oo C (R*P) (λ_=>0)) (fO:Fr [hb] w5 w6) (mO:w5.heap.size<=ob/\w5.heap.size<=oo)
  (hC:Ct w7 kb ks kr nC (List.replicate ((nC+63) / 64) 0)) (fC:Fr [hb] w6 w7) (mC:w6.heap.size<=kb/\w6.heap.size<=ks/\w6.heap.size<=kr)
  (hQ:Qq w8 qb qF T qm [] (λ_=>[])) (fQ:Fr [hb] w7 w8) (mQ:∀x,x∈qF->w7.heap.size<=x)
  (hS:SAt w9 tg zb P R lD) (fS:Fr [hb] w8 w9) (mS:∀b,b<w8.heap.size->(tg b).1=0)
  (hM:ch w10 mk mr nW (List.replicate ((nW+63) / 64) 0)) (fM:Fr [hb] w9 w10) (mM:w9.heap.size<=mk/\w9.heap.size<=mr)
  (hL:so w10 wr cb gb hb bb T c g (ptr ab) (ptr tb) (ptr ob) (ptr kb) (ptr qb) (ptr zb) (ptr mk) B T rA rc rG S FS f) :
  kq w c g W R nW T C P qm B s k (.returned (.tuple #[ptr hb,.int .i64 0])) wr:=by
 subst eC;have h3:=h0.h.lt;have h3b:=h0.b.lt;have s0:=f0.size;have s3:=fA.size;have s4:=fR.size;have s5:=fO.size;have s6:=fC.size;have s7:=fQ.size;have s8:=fS.size;have s9:=fM.size;have s10:=hL.fr.size;have F9:Fr [hb] w9 wr:=fM.ae hL.fr;have F8:Fr [hb] w8 wr:=fS.ae F9;have F7:Fr [hb] w7 wr:=fQ.ae F8;have F6:Fr [hb] w6 wr:=fC.ae F7;have F5:Fr [hb] w5 wr:=fO.ae F6;have F4:Fr [hb] w4 wr:=fR.ae F5;have F3:Fr [hb] w3 wr:=fA.ae F4;have nb:∀ {x:Nat},hb<x->x∉[hb]:=λhx h=>by simp at h;omega
 have eA:=hA.set.lt;have eA2:=hA.row.lt;have eR1:=hR.set.lt;have eR2:=hR.st.lt;have eR3:=hR.fx.lt;have eR4:=hR.gL.lt;have eO1:=hO.set.lt;have eO2:=hO.row.lt;have eC1:=hC.tab.lt;have eC2:=hC.set.set.lt;have eC3:=hC.set.row.lt;have eQ:=hQ.lt;have eS:∀b,(tg b).1≠0->w8.heap.size<=b/\b<w9.heap.size:=λb hb'=>⟨by
  rcases Nat.lt_or_ge b w8.heap.size with h1|h1
  ·exact absurd (mS b h1) hb'
  ·exact h1,hS.tok b hb'⟩
 have eM1:=hM.set.lt;have eM2:=hM.row.lt;have rlt:∀x,x∈rG->w10.heap.size<=x:=λx hx=>(hL.ofn x (by rw[hL.oG x hx];decide)).1;refine⟨⟨hb,ab,aw,tb,sb,pb,mb,ptr ob,ptr kb,ptr qb,ptr zb,ptr mk,c,λk=>((k*W:Nat):Int),rA,rc,rG,S,bb,B⟩,⟨ob,oo,kb,ks,kr,qb,qF,zb,mk,mr⟩,tg,
  fK w.heap.size w3.heap.size w4.heap.size w5.heap.size w6.heap.size w7.heap.size w8.heap.size w9.heap.size w10.heap.size f,FS,rfl,?_,?_,λb hb'=>(AK hb').1,rfl,rfl⟩
 ·refine⟨hL.st.h,⟨0,hA.fr F4 (nb (by omega)) (nb (by omega))⟩,hR.fr F5 (nb (by omega)) (nb (by omega)) (nb (by omega)) (nb (by omega)),hL.row,hL.stk,hL.st.b,ok,hL.st.t,dm,
   hO.fr F6 (nb (by omega)) (nb (by omega)),hC.fr F7 (nb (by omega)) (nb (by omega)) (nb (by omega)),hQ.fr F8 (λx hx=>nb (by have:=mQ x hx;omega)),hS.fr F9 (λb hb'=>by simp at hb';exact mS b (by omega)),hM.fr hL.fr (nb (by omega)) (nb (by omega)),
   rfl,rfl,rfl,rfl,rfl,⟨AF ⟨m0.1,h3⟩,AF ⟨m0.2,h3b⟩,λb hb'=>(AJ (by omega) (rlt b hb')).trans (hL.oG b hb')⟩,⟨AG (by omega) ⟨mA.1,eA⟩,AG (by omega) ⟨mA.2,eA2⟩⟩,⟨tZ (by omega) ⟨mR.1,eR1⟩,tZ (by omega) ⟨mR.2.1,eR2⟩,tZ (by omega) ⟨mR.2.2.1,eR3⟩,tZ (by omega) ⟨mR.2.2.2,eR4⟩⟩,
   ⟨AH (by omega) ⟨mO.1,eO1⟩,AH (by omega) ⟨mO.2,eO2⟩⟩,⟨x5 (by omega) ⟨mC.1,eC1⟩,x5 (by omega) ⟨mC.2.1,eC2⟩,x5 (by omega) ⟨mC.2.2,eC3⟩⟩,λb hb'=>Cf (by omega) ⟨mQ b hb',eQ b hb'⟩,λb hb'=>Cg (by omega) (eS b hb'),⟨AI (by omega) ⟨mM.1,eM1⟩,AI (by omega) ⟨mM.2,eM2⟩⟩,
   λi hi b hb'=>(AJ (by omega) (hL.ofn b (by rw[hL.oF i hi b hb'];omega)).1).trans (hL.oF i hi b hb'),(by unfold fK;exact if_pos (af (tab 0 (by decide)))),λb hb'=>?_⟩
  have h2:=(AK hb').2;by_cases e:f b=0
  ·omega
  ·exact(hL.ofn b e).2
 ·exact f0.trans F3 (λx hx=>by simp at hx;right;omega)
end Go.Proofs.YtimlkjppaalfaaaGreatDoor
