/- Several texts joined (pack.py): B1. -/
import Derived.Test.YtimkofiempcfdaaGreatDoorProg
import Derived.Test.YtimkofiempcfdaaGreatDoorPW00
import Derived.WalkKit
import Derived.BigQuiet
import Derived.Deep.RegionHeld3
set_option linter.unusedVariables false
set_option maxRecDepth 100000
open Int renaming eq_ofNat_of_zero_le->Ed,toNat_natCast->Ee
namespace Go.Proofs.YtimkofiempcfdaaGreatDoor
open Go.RowKit Go.Gl
theorem kM(n:Int)(h0:-9223372036854775808<=n)(h1:n<=4611686018427387904)(w:World) :
  Calls Tryz.prog 99 #[.int .i64 n] w λe w'=>e=.returned (.int .i64 ((n+63) / 64))/\w=w':=by
 go_enter Tryz.func99,Tryz.ntmps99
 go_wp2
 go_ret
 exact⟨rfl,rfl⟩
theorem wM(I:Nat):IntKind.u64.wrap (2 ^ min (IntKind.u64.wrap (bits BinOp.and IntKind.i64 I 63)).toNat 64)=((2 ^ (I % 64):Nat):Int):=by
 rw[uv,IntKind.wrap_u64,IntKind.wrap_u64];have e1:((I:Int) % 64 % 18446744073709551616).toNat=I % 64:=by omega
 rw[e1,Nat.min_eq_left (by omega)];have:=im (show I % 64<64 by omega);rw[show(2:Int) ^ (I % 64)=((2 ^ (I % 64):Nat):Int) from (Int.natCast_pow 2 _).symm];exact Int.emod_eq_of_lt (Int.natCast_nonneg _) (Int.ofNat_lt.2 this)
theorem mL(I:Nat)(w:World) :
  Calls Tryz.prog 88 #[.int .i64 (I:Int)] w λe w'=>e=.returned (.int .u64 ((2 ^ (I % 64):Nat):Int))/\w=w':=by
 have H':=aa (wM I);go_enter Tryz.func88,Tryz.ntmps88
 go_wp2
 go_ret
 exact⟨bU H'.out,rfl⟩
def msk(a f t:Int):Nat:=
 if a*64<f then (if t<(a+1)*64 then hi (f-a*64).toNat &&& lo ((a+1)*64-t).toNat else hi (f-a*64).toNat)
 else if t<(a+1)*64 then lo ((a+1)*64-t).toNat else 18446744073709551615
def wv(ws:List Nat):Array Value:=(ws.map λ(x:Nat)=>Value.int .u64 (x:Int)).toArray
theorem BL(ws:List Nat)(k:Nat)(h:k<ws.length):(wv ws)[k]?=some (.int .u64 ((ws.getD k 0:Nat):Int)):=by
 simp[wv,h]
theorem AJ(ws:List Nat)(k x:Nat):(wv ws).setIfInBounds k (.int .u64 (x:Int))=wv (ws.set k x):=by
 simp[wv]
structure cU(w:World)(bs bw n:Nat)(ws:List Nat):Prop where
 set:Blk w bs 195 #[.int .i64 (n:Int),.slice (some ⟨bw,0,none⟩) ws.length ws.length]
 row:Blk w bw 64 (wv ws)
 len:ws.length=(n+63) / 64
 max:n<=4194304
 ok:Words ws
 top:∀i,n<=i->bC ws i=false
section
variable {w w':World}{bs bw n:Nat}{ws:List Nat}{F:List Nat}
theorem cU.fr(h:cU w bs bw n ws)(hf:Fr F w w')(h1:bs∉F)(h2:bw∉F):cU w' bs bw n ws:=
 ⟨h.set.fr hf h1,h.row.fr hf h2,h.len,h.max,h.ok,h.top⟩
theorem cU.drewN(h:cU w bs bw n ws)(k:Nat):cU (w.drewN k) bs bw n ws:=⟨h.set,h.row,h.len,h.max,h.ok,h.top⟩
theorem cU.c0(h:cU w bs bw n ws):w.cell? ⟨bs,0,none⟩=some (.int .i64 (n:Int)):=by rw[h.set.cell];rfl
theorem cU.c1(h:cU w bs bw n ws):w.cell? ⟨bs,1,none⟩=some (.slice (some ⟨bw,0,none⟩) ws.length ws.length):=by rw[h.set.cell];rfl
theorem cU.cw(h:cU w bs bw n ws){k:Nat}(hk:k<ws.length):w.cell? ⟨bw,k,none⟩=some (.int .u64 ((ws.getD k 0:Nat):Int)):=by rw[h.row.cell,BL _ _ hk]
theorem cU.ne(h:cU w bs bw n ws):bs≠bw:=h.set.apart h.row (by decide)
end
def kN(ws:List Nat)(i:Int):Bool:=decide (0<=i)&&bC ws i.toNat
theorem AK(m:Nat):((m:Int) !=0)=(m !=0):=by cases m <;> rfl
theorem pL(x k:Nat)(hx:x<18446744073709551616)(hk:k<64):bits .and .u64 (x:Int) ((2:Int) ^ k)=((x &&& 2 ^ k:Nat):Int):=by
 have:=u64_and_nat x (2 ^ k) hx (im hk);rw[Int.natCast_pow]at this;exact this
theorem pM(x k:Nat)(hx:x<18446744073709551616)(hk:k<64):bits .xor .u64 (x:Int) ((2:Int) ^ k)=((x ^^^ 2 ^ k:Nat):Int):=by
 have:=u64_xor_nat x (2 ^ k) hx (im hk);rw[Int.natCast_pow]at this;exact this
def kO(n:Nat)(i:Int):Bool:=decide (0<=i/\i<(n:Int))
theorem kG{w:World}{bs bw n:Nat}{ws:List Nat}(h:cU w bs bw n ws)(i:Int) :
  Calls Tryz.prog 87 #[.pointer (some ⟨bs,0,none⟩),.int .i64 i] w λe w'=>e=.returned (.bool (kO n i))/\w=w':=by
 have h0:=h.c0;clear h;go_enter Tryz.func87,Tryz.ntmps87
 go_wp2
 all_goals go_ret
 ·rename_i hi
  refine⟨aW ?_,rfl⟩;simp[kO,hi]
 ·rename_i hi
  refine⟨aW ?_,rfl⟩;simp[kO];omega
theorem tO{w:World}{bs bw n:Nat}{ws:List Nat}(h:cU w bs bw n ws)(i:Int) :
  Calls Tryz.prog 42 #[.pointer (some ⟨bs,0,none⟩),.int .i64 i] w λe w'=>e=.returned (.bool (kN ws i))/\∃k,w'=w.drewN k:=by
 by_cases hi:0<=i/\i<(n:Int)
 ·obtain⟨hi0,hi1⟩:=hi;obtain⟨I,rfl⟩:=Ed hi0;have hlen:=h.len;have hmax:=h.max;have hk:I / 64<ws.length:=by omega
  have h1:=h.c1;have hw:=h.cw hk;have hx:=h.ok (I / 64);have hm:∀W,cU W bs bw n ws->Calls Tryz.prog 87 #[.pointer (some ⟨bs,0,none⟩),.int .i64 (I:Int)] W λe w'=>e=.returned (.bool true)/\W=w':=by
   intro W hW;have:=kG hW (I:Int);rw[show kO n (I:Int)=true by simp[kO];omega]at this;exact this
  have hin:kN ws (I:Int)=((ws.getD (I / 64) 0 &&& 2 ^ (I % 64)) !=0):=by
   rw[rC];simp[kN,bC]
  rw[hin];generalize ws.getD (I / 64) 0=x at *;have HM:=aa hm;have HS:=aa h;clear hm h hin hlen;have e1:=aa (pL x (I % 64) hx (by omega));go_enter Tryz.func42,Tryz.ntmps42
  go_wp2_with fail
  go_quiet ((first|(go_at_call 87;exact aB (HM.out _ (HS.out.drewN _)))|(go_at_call 88;exact aB (mL _ _))))
  go_wp2
  go_ret
  refine⟨aW ?_,_,rfl⟩;rw[e1.out];exact AK _
 ·have hout:kN ws i=false:=by
   unfold kN;by_cases h0:0<=i
   ·simp[h0,h.top i.toNat (by omega)]
   ·simp[h0]
  rw[hout];have hm:∀W,cU W bs bw n ws->Calls Tryz.prog 87 #[.pointer (some ⟨bs,0,none⟩),.int .i64 i] W λe w'=>e=.returned (.bool false)/\W=w':=by
   intro W hW;have:=kG hW i;rw[show kO n i=false by simp only[kO,decide_eq_false_iff_not];exact hi]at this;exact this
  have HM:=aa hm;have HS:=aa h;clear hm h hout hi;go_enter Tryz.func42,Tryz.ntmps42
  go_wp2_with fail
  go_quiet ((go_at_call 87;exact aB (HM.out _ (HS.out.drewN _))))
  go_wp2
  go_ret
  exact⟨rfl,_,rfl⟩
def Turned(ws:List Nat)(n:Nat)(i:Int)(on c:Bool)(er:Int)(ws':List Nat):Prop:=
 (0<=i/\i<(n:Int)/\er=0/\c=(bC ws i.toNat !=on)/\∀j:Nat,bC ws' j=if j=i.toNat then on else bC ws j) \/
 (¬ (0<=i/\i<(n:Int))/\er=2/\c=false/\ws'=ws)
def pN(w:World)(bs bw n:Nat)(ws:List Nat)(i:Int)(on:Bool)(e:Ending)(w':World):Prop:=
 ∃c er ws',e=.returned (.tuple #[.bool c,.int .i64 er])/\cU w' bs bw n ws'/\Fr [bw] w w'/\Turned ws n i on c er ws'
theorem mN{ws:List Nat}{n I:Nat}{on:Bool}(hI:I<n)(hl:ws.length=(n+63) / 64)(hc:(bC ws I==on)=false)(j:Nat) :
  bC (ws.set (I / 64) (ws.getD (I / 64) 0 ^^^ 2 ^ (I % 64))) j=if j=I then on else bC ws j:=by
 rw[wH (by omega)];have hon:(!(bC ws I))=on:=by revert hc;cases bC ws I <;> cases on <;> simp
 by_cases hj:j / 64=I / 64
 ·rw[if_pos hj,pJ];by_cases hm:I % 64=j % 64
  ·have:j=I:=by omega
   subst this;rw[if_pos rfl,if_pos rfl,<- hon];rfl
  ·rw[if_neg hm,if_neg (by rintro rfl;exact hm rfl)];unfold bC;rw[hj]
 ·rw[if_neg hj,if_neg (by rintro rfl;exact hj rfl)]
theorem ux{w:World}{bs bw n:Nat}{ws:List Nat}(h:cU w bs bw n ws){I:Nat}{on:Bool}(hI:I<n)(hc:(bC ws I==on)=false) :
  cU (w.setCell ⟨bw,I / 64,none⟩ (.int .u64 ((ws.getD (I / 64) 0 ^^^ 2 ^ (I % 64):Nat):Int))) bs bw n (ws.set (I / 64) (ws.getD (I / 64) 0 ^^^ 2 ^ (I % 64))):=by
 refine⟨?_,?_,?_,h.max,uw h.ok ?_,λj hj=>?_⟩
 ·rw[List.length_set];exact h.set.far (p:=⟨bw,I / 64,none⟩) h.ne _
 ·have:=h.row.put (I / 64) (.int .u64 ((ws.getD (I / 64) 0 ^^^ 2 ^ (I % 64):Nat):Int));rw[AJ]at this;exact this
 ·rw[List.length_set];exact h.len
 ·exact Nat.xor_lt_two_pow (n:=64) (h.ok _) (im (by omega))
 ·rw[mN hI h.len hc,if_neg (by omega)];exact h.top j hj
theorem wN{w:World}{bs bw n:Nat}{ws:List Nat}(h:cU w bs bw n ws)(i:Int)(on:Bool) :
  Calls Tryz.prog 171 #[.pointer (some ⟨bs,0,none⟩),.int .i64 i,.bool on] w (pN w bs bw n ws i on):=by
 by_cases hi:0<=i/\i<(n:Int)
 ·obtain⟨hi0,hi1⟩:=hi;obtain⟨I,rfl⟩:=Ed hi0;have hlen:=h.len;have hmax:=h.max;have hk:I / 64<ws.length:=by omega
  have hI':I<n:=by omega
  have hm:=aa (kG h (I:Int));have hb:kO n (I:Int)=true:=by simp[kO];omega
  have hin:kN ws (I:Int)=bC ws I:=by simp[kN]
  by_cases hc:(bC ws I==on)=true
  ·have HS:=aa h;clear h hlen;go_enter Tryz.func171,Tryz.ntmps171
   go_wp2_with (first|(go_at_call 87;refine(hm.out).mono ?_;rintro e w' ⟨rfl,rfl⟩)|(go_at_call 42;refine(tO HS.out _).mono ?_;rintro e w' ⟨rfl,nq,rfl⟩))
   go_ret2
   have hc':bC ws I=on:=by simpa using hc
   refine⟨false,0,ws,rfl,HS.out.drewN _,(Fr.refl _ _).drewN _,.inl ⟨hi0,hi1,rfl,?_,λj=>?_⟩⟩
   ·rw[Ee,hc'];simp
   ·rw[Ee];split
    ·rename_i hj;rw[hj,hc']
    ·rfl
  ·have hcf:(bC ws I==on)=false:=by simpa using hc
   have HB:=aa (ux (w:=w) h hI' hcf);have HS:=aa h;have h1:=h.c1;have hw:=h.cw hk;have hx:=h.ok (I / 64);have hfz:=h.row.frozen (I / 64);have HT:=aa (mN hI' hlen hcf);generalize hX:ws.getD (I / 64) 0=x at *;have e1:=aa (pM x (I % 64) hx (by omega));clear h hlen hc hX;go_enter Tryz.func171,Tryz.ntmps171
   go_wp2_with (first|(go_at_call 87;refine(hm.out).mono ?_;rintro e w' ⟨rfl,rfl⟩)|(go_at_call 42;refine(tO HS.out _).mono ?_;rintro e w' ⟨rfl,nq,rfl⟩))
   have hb1:(0:Int)<=(I:Int) / 64:=by omega
   have hb2:(I:Int) / 64<(ws.length:Int):=by omega
   have hb3:((I:Int) / 64).toNat=I / 64:=by omega
   refine br 12 (by kernel_rfl) (by kernel_rfl) ?_;simp only[List.take_succ_cons,List.take_zero,List.drop_succ_cons,List.drop_zero]
   repeat still_step
   still_call (jd (mL _ _))
   repeat still_step
   refine wpStill_nil ?_;go_wp2
   go_ret2
   rw[e1.out];exact⟨true,0,_,rfl,(HB.out).drewN _,((Fr.refl _ _).setCell (p:=⟨bw,I / 64,none⟩) (.inl (by simp)) _).drewN _,.inl ⟨hi0,hi1,rfl,by rw[Ee];simpa using hcf,by rw[Ee];exact HT.out⟩⟩
 ·have hm:=aa (kG h i);have hb:kO n i=false:=by simp only[kO,decide_eq_false_iff_not];exact hi
  have HS:=aa h;have HI:=aa hi;clear h hi;go_enter Tryz.func171,Tryz.ntmps171
  go_wp2_with (first|(go_at_call 87;refine(hm.out).mono ?_;rintro e w' ⟨rfl,rfl⟩))
  go_ret2
  exact⟨false,2,ws,rfl,HS.out,Fr.refl _ _,.inr ⟨HI.out,rfl,rfl,rfl⟩⟩
theorem yN{w:World}{bs bw n:Nat}{ws:List Nat}(h:cU w bs bw n ws)(i:Int) :
  Calls Tryz.prog 157 #[.pointer (some ⟨bs,0,none⟩),.int .i64 i] w (pN w bs bw n ws i true):=by
 have H:=aa h;clear h;go_enter Tryz.func157,Tryz.ntmps157
 go_wp2_with (go_at_call 171;refine(wN H.out i true).mono ?_;rintro e w' ⟨c,er,ws',rfl,hb,hf,ht⟩)
 go_ret2
 exact⟨c,er,ws',rfl,hb,hf,ht⟩
def AM(ws:List Nat)(i r:Int):Prop:=
 (r=-1/\∀j:Nat,i<=j->bC ws j=false)\/∃R:Nat,r=(R:Int)/\i<=R/\bC ws R=true/\∀j:Nat,i<=j->j<R->bC ws j=false
def BM(ws:List Nat)(i:Int)(w:World)(e:Ending)(w':World):Prop:=∃r:Int,e=.returned (.int .i64 r)/\w=w'/\AM ws i r
def CJ(ws:List Nat)(F A X:Nat):Prop:=
 A<ws.length/\X<18446744073709551616/\(∀j,j<64->X.testBit j=(bC ws (A*64+j)&&decide (F<=A*64+j)))/\(∀j,F<=j->j<A*64->bC ws j=false)/\F<A*64+64
def CY(ws:List Nat)(f t:Int):Nat:=cnt (λj=>bC ws j&&decide (f<=(j:Int)/\(j:Int)<t)) 0 (ws.length*64)
def Ds(ws:List Nat)(f t:Int)(A:Nat):Nat:=cnt (λj=>bC ws j&&decide (f<=(j:Int)/\(j:Int)<t)) 0 (A*64)
def BJ(ws:List Nat)(f t:Int)(w:World)(e:Ending)(w':World):Prop:=e=.returned (.int .i64 ((CY ws f t:Nat):Int))/\∃k,w'=w.drewN k
def yO(ws:List Nat)(n:Nat)(f t:Int)(on:Bool)(er:Int)(ws':List Nat):Prop:=
 (0<=f/\f<=t/\t<=(n:Int)/\er=0/\∀j:Nat,bC ws' j=if f<=(j:Int)/\(j:Int)<t then on else bC ws j) \/
 (¬ (0<=f/\f<=t/\t<=(n:Int))/\er=2/\ws'=ws)
def BN(w:World)(bs bw n:Nat)(ws:List Nat)(f t:Int)(on:Bool)(e:Ending)(w':World):Prop:=
 ∃er ws',e=.returned (.int .i64 er)/\cU w' bs bw n ws'/\Fr [bw] w w'/\yO ws n f t on er ws'
def CZ(ws:List Nat)(f t:Int)(on:Bool)(A:Nat)(ws':List Nat):Prop:=
 ∀j:Nat,bC ws' j=if f<=(j:Int)/\(j:Int)<t/\j<A*64 then on else bC ws j
def Dt(on:Bool)(x m:Nat):Nat:=if on then x ||| m else x &&& (18446744073709551615-m)
theorem mP(L i:Nat):bC (List.replicate L 0) i=false:=by
 unfold bC;rw[List.getD_eq_getElem?_getD,List.getElem?_replicate];split <;> exact Nat.zero_testBit _
theorem Tryz.wO:(Tryz.prog.info? 64).map (λi=>(i.zero,i.size,i.bytes))=some (some (.int .u64 0),1,8):=by kernel_rfl
def tP(w:World)(n:Nat)(e:Ending)(w':World):Prop:=
 ∃bs bw,e=.returned (.tuple #[.pointer (some ⟨bs,0,none⟩),.int .i64 0])/\cU w' bs bw n (List.replicate ((n+63) / 64) 0)/\Fr [] w w'/\w.heap.size<=bs/\w.heap.size<=bw
theorem pO(n:Nat)(h:n<=4194304)(w:World):Calls Tryz.prog 56 #[.int .i64 (n:Int)] w (tP w n):=by
 obtain⟨i0,hi,hz0,hz1,hz2⟩:=info_parts Tryz.wO;have hL:((n:Int)+63) / 64=((n+63) / 64:Nat):=by omega
 have hL2:(n+63) / 64<=65536:=by omega
 have hL3:=aa hL;clear hL;go_enter Tryz.func56,Tryz.ntmps56
 go_wp2_with (first|(go_at_call 99;refine(kM _ (by omega) (by omega) _).mono ?_;rintro e w' ⟨rfl,rfl⟩)|(at_make;refine wpList_make_full _ rfl _ _ 96 rfl w.heap.size 64 i0 (.int .u64 0) 1 Tryz.underlying96 hi hz0 hz1 _ _ _ _ ((n+63) / 64) rfl rfl hL3.out hL3.out (by rw[hz2];omega) (by unfold maxLen;omega) (Nat.le_refl _) ?_;intro w1 hown hgr;have HO:=aa hown;have HG:=aa hgr;clear hown hgr))
 go_ret2
 have hown:=HO.out;rw[Nat.mul_one,cY _ rfl]at hown;have hb:=gq hown;have hlt:=hb.lt;refine⟨w1.heap.size,w.heap.size,rfl,⟨?_,?_,by simp,h,?_,?_⟩,((Fr.refl _ _).grown HG.out (λ_ hk=>by cases hk)).alloc _,HG.out.size,Nat.le_refl _⟩
 ·rw[List.length_replicate];exact Blk.new _ _ _
 ·have:wv (List.replicate ((n+63) / 64) 0)=(List.replicate ((n+63) / 64) (Value.int .u64 0)).toArray:=by simp[wv]
  rw[this];exact hb.alloc _
 ·intro k;rw[List.getD_eq_getElem?_getD,List.getElem?_replicate];split <;> decide
 ·intro i _;exact mP _ _
def below(ws:List Nat)(b:Nat):List Nat:=(List.range b).filter (bC ws)
def CK(ws:List Nat)(A X p:Nat):Prop:=p<=64/\X<18446744073709551616/\∀j,j<64->X.testBit j=(bC ws (A*64+j)&&decide (p<=j))
def BK(w:World)(l:List Nat)(e:Ending)(w':World):Prop:=∃v,e=.returned v/\w'.ownsRow w.heap.size 3 1 v l.length (pK l)/\Fr [] w w'
end Go.Proofs.YtimkofiempcfdaaGreatDoor
