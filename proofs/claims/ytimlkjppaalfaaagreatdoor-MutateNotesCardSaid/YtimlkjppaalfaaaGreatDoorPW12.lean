/- Several texts joined (pack.py): B1 Cd R2 R2c Cn. -/
import Derived.Test.YtimlkjppaalfaaaGreatDoorProg
import Derived.Test.YtimlkjppaalfaaaGreatDoorPW00
import Derived.Test.YtimlkjppaalfaaaGreatDoorPW07
import Derived.WalkKit
import Derived.BigQuiet
import Derived.Deep.RegionHeld3
import Derived.Test.YtimlkjppaalfaaaGreatDoorPW05
set_option linter.unusedVariables false
set_option maxHeartbeats 1600000
set_option maxRecDepth 100000
open Int renaming eq_ofNat_of_zero_le->Da,toNat_natCast->Db
open Nat renaming le_refl->Dd
namespace Go.Proofs.YtimlkjppaalfaaaGreatDoor
open Go.RowKit Go.Gl
theorem bD(n:Int)(h0:-9223372036854775808<=n)(h1:n<=4611686018427387904)(w:World) :
  Calls Tryz.prog 81 #[.int .i64 n] w λe w'=>e=.returned (.int .i64 ((n+63) / 64))/\w=w':=by
 go_enter Tryz.func81,Tryz.ntmps81
 go_wp2
 go_ret
 exact⟨rfl,rfl⟩
theorem xw(I:Nat):IntKind.u64.wrap (2 ^ min (IntKind.u64.wrap (bits BinOp.and IntKind.i64 I 63)).toNat 64)=((2 ^ (I % 64):Nat):Int):=by
 rw[uh,IntKind.wrap_u64,IntKind.wrap_u64];have e1:((I:Int) % 64 % 18446744073709551616).toNat=I % 64:=by omega
 rw[e1,Nat.min_eq_left (by omega)];have:=hY (show I % 64<64 by omega);rw[show(2:Int) ^ (I % 64)=((2 ^ (I % 64):Nat):Int) from (Int.natCast_pow 2 _).symm];exact Int.emod_eq_of_lt (Int.natCast_nonneg _) (Int.ofNat_lt.2 this)
theorem m8(I:Nat)(w:World) :
  Calls Tryz.prog 73 #[.int .i64 (I:Int)] w λe w'=>e=.returned (.int .u64 ((2 ^ (I % 64):Nat):Int))/\w=w':=by
 have H':=aa (xw I);go_enter Tryz.func73,Tryz.ntmps73
 go_wp2
 go_ret
 exact⟨bo H'.out,rfl⟩
def msk(a f t:Int):Nat:=
 if a*64<f then (if t<(a+1)*64 then hi (f-a*64).toNat &&& lo ((a+1)*64-t).toNat else hi (f-a*64).toNat)
 else if t<(a+1)*64 then lo ((a+1)*64-t).toNat else 18446744073709551615
theorem lx(a f t:Int):kV a f t (msk a f t):=by
 unfold msk;split
 ·split
  ·exact yW (by assumption)
  ·exact AS (by omega)
 ·split
  ·exact AT (by omega) (by assumption)
  ·exact wA (by omega) (by omega)
theorem gO(m:Nat)(h:m<18446744073709551616):bits .and .u64 18446744073709551615 (m:Int)=(m:Int):=by
 have:=u64_and_nat 18446744073709551615 m (by decide) h;rw[ones_and m h]at this;exact this
theorem fX(a f t:Int)(h0:0<=a)(h1:a<=65536)(_hf0:-9223372036854775808<=f)(hf:f<a*64+64)(_ht1:t<=4611686018427387904)(ht:a*64<t)(w:World) :
  Calls Tryz.prog 122 #[.int .i64 a,.int .i64 f,.int .i64 t] w λe w'=>e=.returned (.int .u64 ((msk a f t:Nat):Int))/\w=w':=by
 by_cases c1:a*64<f <;> by_cases c2:t<(a+1)*64;all_goals
  go_enter Tryz.func122,Tryz.ntmps122
  go_wp2
  go_ret
  refine⟨bo ?_,rfl⟩;unfold msk
 ·rw[if_pos c1,if_pos c2,wB,wC,gO _ (pz _),u64_and_nat _ _ (pz _) (wt _)]
 ·rw[if_pos c1,if_neg (by omega),wB,gO _ (pz _)]
 ·rw[if_neg (by omega),if_pos c2,wC,gO _ (wt _)]
 ·rw[if_neg (by omega),if_neg (by omega)];rfl
theorem iF(a b:Nat)(h:a+b<18446744073709551616):IntKind.u64.wrap ((a:Int)+(b:Int))=((a+b:Nat):Int):=by
 rw[IntKind.wrap_u64];omega
theorem xy(x:Nat)(hx:x<18446744073709551616):∃A B C D E F:Nat,
  IntKind.u64.wrap (bits BinOp.and IntKind.u64 (↑x / 2) 6148914691236517205+bits BinOp.and IntKind.u64 (↑x) 6148914691236517205)=(A:Int) /\
  IntKind.u64.wrap (bits BinOp.and IntKind.u64 (↑A / 4) 3689348814741910323+bits BinOp.and IntKind.u64 (↑A) 3689348814741910323)=(B:Int) /\
  bits BinOp.and IntKind.u64 (IntKind.u64.wrap (↑B / 16+↑B)) 1085102592571150095=(C:Int) /\
  IntKind.u64.wrap (↑C+↑C / 256)=(D:Int)/\IntKind.u64.wrap (↑D+↑D / 65536)=(E:Int)/\IntKind.u64.wrap (↑E+↑E / 4294967296)=(F:Int) /\
  bits BinOp.and IntKind.i64 (wrap64 ↑F) 127=((pc x:Nat):Int):=by
 obtain⟨hs,hc⟩:=CJ x _ _ _ _ _ _ rfl rfl rfl rfl rfl rfl;have a1:x / 2 &&& 6148914691236517205<=6148914691236517205:=Nat.and_le_right;have a2:x &&& 6148914691236517205<=6148914691236517205:=Nat.and_le_right;obtain⟨A,hA⟩:∃A,A=(x / 2 &&& 6148914691236517205)+(x &&& 6148914691236517205):=⟨_,rfl⟩;have eA:IntKind.u64.wrap (bits BinOp.and IntKind.u64 (↑x / 2) 6148914691236517205+bits BinOp.and IntKind.u64 (↑x) 6148914691236517205)=(A:Int):=by
  have e1:=u64_and_nat (x / 2) 6148914691236517205 (by omega) (by decide);have e2:=u64_and_nat x 6148914691236517205 hx (by decide);rw[Int.natCast_ediv]at e1
  erw [e1,e2,iF _ _ (by omega),hA]
 rw[<- hA]at hs hc;have b1:A / 4 &&& 3689348814741910323<=3689348814741910323:=Nat.and_le_right;have b2:A &&& 3689348814741910323<=3689348814741910323:=Nat.and_le_right;obtain⟨B,hB⟩:∃B,B=(A / 4 &&& 3689348814741910323)+(A &&& 3689348814741910323):=⟨_,rfl⟩;have eB:IntKind.u64.wrap (bits BinOp.and IntKind.u64 (↑A / 4) 3689348814741910323+bits BinOp.and IntKind.u64 (↑A) 3689348814741910323)=(B:Int):=by
  have e1:=u64_and_nat (A / 4) 3689348814741910323 (by omega) (by decide);have e2:=u64_and_nat A 3689348814741910323 (by omega) (by decide);rw[Int.natCast_ediv]at e1
  erw [e1,e2,iF _ _ (by omega),hB]
 rw[<- hB]at hs hc;obtain⟨C,hC⟩:∃C,C=(B / 16+B) &&& 1085102592571150095:=⟨_,rfl⟩;have eC:bits BinOp.and IntKind.u64 (IntKind.u64.wrap (↑B / 16+↑B)) 1085102592571150095=(C:Int):=by
  have e1:=iF (B / 16) B (by omega);rw[Int.natCast_ediv]at e1;have e2:=u64_and_nat (B / 16+B) 1085102592571150095 (by omega) (by decide)
  erw [e1,e2,hC]
 rw[<- hC]at hs hc;refine⟨A,B,C,C+C / 256,C+C / 256+(C+C / 256) / 65536,C+C / 256+(C+C / 256) / 65536+(C+C / 256+(C+C / 256) / 65536) / 4294967296,eA,eB,eC,?_,?_,?_,?_⟩
 ·exact iF C (C / 256) (by omega)
 ·exact iF (C+C / 256) ((C+C / 256) / 65536) (by omega)
 ·exact iF _ (_ / 4294967296) (by omega)
 ·rw[IntWalk.wrap64_in _ ⟨by omega,by omega⟩,i64_and127,<- hs];rfl
theorem jA(x:Nat)(hx:x<18446744073709551616)(w:World) :
  Calls Tryz.prog 121 #[.int .u64 (x:Int)] w λe w'=>e=.returned (.int .i64 ((pc x:Nat):Int))/\w=w':=by
 obtain⟨A,B,C,D,E,F,h1,h2,h3,h4,h5,h6,h7⟩:=xy x hx;have H1:=aa h1;have H2:=aa h2;have H3:=aa h3;have H4:=aa h4;have H5:=aa h5;have H6:=aa h6;have H7:=aa h7;clear h1 h2 h3 h4 h5 h6 h7;go_enter Tryz.func121,Tryz.ntmps121
 go_wp2
 go_ret
 exact⟨bo (by rw[H1.out,H2.out,H3.out,H4.out,H5.out,H6.out,H7.out]),rfl⟩
def wv(ws:List Nat):Array Value:=(ws.map λ(x:Nat)=>Value.int .u64 (x:Int)).toArray
theorem B0(ws:List Nat)(k:Nat)(h:k<ws.length):(wv ws)[k]?=some (.int .u64 ((ws.getD k 0:Nat):Int)):=by
 simp[wv,h]
theorem Bl(ws:List Nat)(k x:Nat):(wv ws).setIfInBounds k (.int .u64 (x:Int))=wv (ws.set k x):=by
 simp[wv]
structure ch(w:World)(bs bw n:Nat)(ws:List Nat):Prop where
 set:Blk w bs 169 #[.int .i64 (n:Int),.slice (some ⟨bw,0,none⟩) ws.length ws.length]
 row:Blk w bw 67 (wv ws)
 len:ws.length=(n+63) / 64
 max:n<=4194304
 ok:Words ws
 top:∀i,n<=i->bH ws i=false
section
variable {w w':World}{bs bw n:Nat}{ws:List Nat}{F:List Nat}
theorem ch.fr(h:ch w bs bw n ws)(hf:Fr F w w')(h1:bs∉F)(h2:bw∉F):ch w' bs bw n ws:=
 ⟨h.set.fr hf h1,h.row.fr hf h2,h.len,h.max,h.ok,h.top⟩
theorem ch.drewN(h:ch w bs bw n ws)(k:Nat):ch (w.drewN k) bs bw n ws:=⟨h.set,h.row,h.len,h.max,h.ok,h.top⟩
theorem ch.c0(h:ch w bs bw n ws):w.cell? ⟨bs,0,none⟩=some (.int .i64 (n:Int)):=by rw[h.set.cell];rfl
theorem ch.c1(h:ch w bs bw n ws):w.cell? ⟨bs,1,none⟩=some (.slice (some ⟨bw,0,none⟩) ws.length ws.length):=by rw[h.set.cell];rfl
theorem ch.cw(h:ch w bs bw n ws){k:Nat}(hk:k<ws.length):w.cell? ⟨bw,k,none⟩=some (.int .u64 ((ws.getD k 0:Nat):Int)):=by rw[h.row.cell,B0 _ _ hk]
theorem ch.ne(h:ch w bs bw n ws):bs≠bw:=h.set.apart h.row (by decide)
end
def fY(ws:List Nat)(i:Int):Bool:=decide (0<=i)&&bH ws i.toNat
theorem Bm(m:Nat):((m:Int) !=0)=(m !=0):=by cases m <;> rfl
theorem qa(x k:Nat)(hx:x<18446744073709551616)(hk:k<64):bits .and .u64 (x:Int) ((2:Int) ^ k)=((x &&& 2 ^ k:Nat):Int):=by
 have:=u64_and_nat x (2 ^ k) hx (hY hk);rw[Int.natCast_pow]at this;exact this
theorem qd(x k:Nat)(hx:x<18446744073709551616)(hk:k<64):bits .xor .u64 (x:Int) ((2:Int) ^ k)=((x ^^^ 2 ^ k:Nat):Int):=by
 have:=u64_xor_nat x (2 ^ k) hx (hY hk);rw[Int.natCast_pow]at this;exact this
def ly(n:Nat)(i:Int):Bool:=decide (0<=i/\i<(n:Int))
theorem kF{w:World}{bs bw n:Nat}{ws:List Nat}(h:ch w bs bw n ws)(i:Int) :
  Calls Tryz.prog 72 #[.pointer (some ⟨bs,0,none⟩),.int .i64 i] w λe w'=>e=.returned (.bool (ly n i))/\w=w':=by
 have h0:=h.c0;clear h;go_enter Tryz.func72,Tryz.ntmps72
 go_wp2
 all_goals go_ret
 ·rename_i hi
  refine⟨bd ?_,rfl⟩;simp[ly,hi]
 ·rename_i hi
  refine⟨bd ?_,rfl⟩;simp[ly];omega
theorem kG{w:World}{bs bw n:Nat}{ws:List Nat}(h:ch w bs bw n ws)(i:Int) :
  Calls Tryz.prog 32 #[.pointer (some ⟨bs,0,none⟩),.int .i64 i] w λe w'=>e=.returned (.bool (fY ws i))/\∃k,w'=w.drewN k:=by
 by_cases hi:0<=i/\i<(n:Int)
 ·obtain⟨hi0,hi1⟩:=hi;obtain⟨I,rfl⟩:=Da hi0;have hlen:=h.len;have hmax:=h.max;have hk:I / 64<ws.length:=by omega
  have h1:=h.c1;have hw:=h.cw hk;have hx:=h.ok (I / 64);have hm:∀W,ch W bs bw n ws->Calls Tryz.prog 72 #[.pointer (some ⟨bs,0,none⟩),.int .i64 (I:Int)] W λe w'=>e=.returned (.bool true)/\W=w':=by
   intro W hW;have:=kF hW (I:Int);rw[show ly n (I:Int)=true by simp[ly];omega]at this;exact this
  have hin:fY ws (I:Int)=((ws.getD (I / 64) 0 &&& 2 ^ (I % 64)) !=0):=by
   rw[qY];simp[fY,bH]
  rw[hin];generalize ws.getD (I / 64) 0=x at *;have HM:=aa hm;have HS:=aa h;clear hm h hin hlen;have e1:=aa (qa x (I % 64) hx (by omega));go_enter Tryz.func32,Tryz.ntmps32
  go_wp2_with fail
  go_quiet ((first|(go_at_call 72;exact aC (HM.out _ (HS.out.drewN _)))|(go_at_call 73;exact aC (m8 _ _))))
  go_wp2
  go_ret
  refine⟨bd ?_,_,rfl⟩;rw[e1.out];exact Bm _
 ·have hout:fY ws i=false:=by
   unfold fY;by_cases h0:0<=i
   ·simp[h0,h.top i.toNat (by omega)]
   ·simp[h0]
  rw[hout];have hm:∀W,ch W bs bw n ws->Calls Tryz.prog 72 #[.pointer (some ⟨bs,0,none⟩),.int .i64 i] W λe w'=>e=.returned (.bool false)/\W=w':=by
   intro W hW;have:=kF hW i;rw[show ly n i=false by simp only[ly,decide_eq_false_iff_not];exact hi]at this;exact this
  have HM:=aa hm;have HS:=aa h;clear hm h hout hi;go_enter Tryz.func32,Tryz.ntmps32
  go_wp2_with fail
  go_quiet ((go_at_call 72;exact aC (HM.out _ (HS.out.drewN _))))
  go_wp2
  go_ret
  exact⟨rfl,_,rfl⟩
def Turned(ws:List Nat)(n:Nat)(i:Int)(on c:Bool)(er:Int)(ws':List Nat):Prop:=
 (0<=i/\i<(n:Int)/\er=0/\c=(bH ws i.toNat !=on)/\∀j:Nat,bH ws' j=if j=i.toNat then on else bH ws j) \/
 (¬ (0<=i/\i<(n:Int))/\er=2/\c=false/\ws'=ws)
def qe(w:World)(bs bw n:Nat)(ws:List Nat)(i:Int)(on:Bool)(e:Ending)(w':World):Prop:=
 ∃c er ws',e=.returned (.tuple #[.bool c,.int .i64 er])/\ch w' bs bw n ws'/\Fr [bw] w w'/\Turned ws n i on c er ws'
theorem m9{ws:List Nat}{n I:Nat}{on:Bool}(hI:I<n)(hl:ws.length=(n+63) / 64)(hc:(bH ws I==on)=false)(j:Nat) :
  bH (ws.set (I / 64) (ws.getD (I / 64) 0 ^^^ 2 ^ (I % 64))) j=if j=I then on else bH ws j:=by
 rw[wD (by omega)];have hon:(!(bH ws I))=on:=by revert hc;cases bH ws I <;> cases on <;> simp
 by_cases hj:j / 64=I / 64
 ·rw[if_pos hj,pB];by_cases hm:I % 64=j % 64
  ·have:j=I:=by omega
   subst this;rw[if_pos rfl,if_pos rfl,<- hon];rfl
  ·rw[if_neg hm,if_neg (by rintro rfl;exact hm rfl)];unfold bH;rw[hj]
 ·rw[if_neg hj,if_neg (by rintro rfl;exact hj rfl)]
theorem uG{w:World}{bs bw n:Nat}{ws:List Nat}(h:ch w bs bw n ws){I:Nat}{on:Bool}(hI:I<n)(hc:(bH ws I==on)=false) :
  ch (w.setCell ⟨bw,I / 64,none⟩ (.int .u64 ((ws.getD (I / 64) 0 ^^^ 2 ^ (I % 64):Nat):Int))) bs bw n (ws.set (I / 64) (ws.getD (I / 64) 0 ^^^ 2 ^ (I % 64))):=by
 refine⟨?_,?_,?_,h.max,ui h.ok ?_,λj hj=>?_⟩
 ·rw[List.length_set];exact h.set.far (p:=⟨bw,I / 64,none⟩) h.ne _
 ·have:=h.row.put (I / 64) (.int .u64 ((ws.getD (I / 64) 0 ^^^ 2 ^ (I % 64):Nat):Int));rw[Bl]at this;exact this
 ·rw[List.length_set];exact h.len
 ·exact Nat.xor_lt_two_pow (n:=64) (h.ok _) (hY (by omega))
 ·rw[m9 hI h.len hc,if_neg (by omega)];exact h.top j hj
theorem xz{w:World}{bs bw n:Nat}{ws:List Nat}(h:ch w bs bw n ws)(i:Int)(on:Bool) :
  Calls Tryz.prog 155 #[.pointer (some ⟨bs,0,none⟩),.int .i64 i,.bool on] w (qe w bs bw n ws i on):=by
 by_cases hi:0<=i/\i<(n:Int)
 ·obtain⟨hi0,hi1⟩:=hi;obtain⟨I,rfl⟩:=Da hi0;have hlen:=h.len;have hmax:=h.max;have hk:I / 64<ws.length:=by omega
  have hI':I<n:=by omega
  have hm:=aa (kF h (I:Int));have hb:ly n (I:Int)=true:=by simp[ly];omega
  have hin:fY ws (I:Int)=bH ws I:=by simp[fY]
  by_cases hc:(bH ws I==on)=true
  ·have HS:=aa h;clear h hlen;go_enter Tryz.func155,Tryz.ntmps155
   go_wp2_with (first|(go_at_call 72;refine(hm.out).mono ?_;rintro e w' ⟨rfl,rfl⟩)|(go_at_call 32;refine(kG HS.out _).mono ?_;rintro e w' ⟨rfl,nq,rfl⟩))
   go_ret2
   have hc':bH ws I=on:=by simpa using hc
   refine⟨false,0,ws,rfl,HS.out.drewN _,(Fr.refl _ _).drewN _,.inl ⟨hi0,hi1,rfl,?_,λj=>?_⟩⟩
   ·rw[Db,hc'];simp
   ·rw[Db];split
    ·rename_i hj;rw[hj,hc']
    ·rfl
  ·have hcf:(bH ws I==on)=false:=by simpa using hc
   have HB:=aa (uG (w:=w) h hI' hcf);have HS:=aa h;have h1:=h.c1;have hw:=h.cw hk;have hx:=h.ok (I / 64);have hfz:=h.row.frozen (I / 64);have HT:=aa (m9 hI' hlen hcf);generalize hX:ws.getD (I / 64) 0=x at *;have e1:=aa (qd x (I % 64) hx (by omega));clear h hlen hc hX;go_enter Tryz.func155,Tryz.ntmps155
   go_wp2_with (first|(go_at_call 72;refine(hm.out).mono ?_;rintro e w' ⟨rfl,rfl⟩)|(go_at_call 32;refine(kG HS.out _).mono ?_;rintro e w' ⟨rfl,nq,rfl⟩))
   have hb1:(0:Int)<=(I:Int) / 64:=by omega
   have hb2:(I:Int) / 64<(ws.length:Int):=by omega
   have hb3:((I:Int) / 64).toNat=I / 64:=by omega
   refine bF 12 (by kernel_rfl) (by kernel_rfl) ?_;simp only[List.take_succ_cons,List.take_zero,List.drop_succ_cons,List.drop_zero]
   repeat still_step
   still_call (iS (m8 _ _))
   repeat still_step
   refine wpStill_nil ?_;go_wp2
   go_ret2
   rw[e1.out];exact⟨true,0,_,rfl,(HB.out).drewN _,((Fr.refl _ _).setCell (p:=⟨bw,I / 64,none⟩) (.inl (by simp)) _).drewN _,.inl ⟨hi0,hi1,rfl,by rw[Db];simpa using hcf,by rw[Db];exact HT.out⟩⟩
 ·have hm:=aa (kF h i);have hb:ly n i=false:=by simp only[ly,decide_eq_false_iff_not];exact hi
  have HS:=aa h;have HI:=aa hi;clear h hi;go_enter Tryz.func155,Tryz.ntmps155
  go_wp2_with (first|(go_at_call 72;refine(hm.out).mono ?_;rintro e w' ⟨rfl,rfl⟩))
  go_ret2
  exact⟨false,2,ws,rfl,HS.out,Fr.refl _ _,.inr ⟨HI.out,rfl,rfl,rfl⟩⟩
theorem zz{w:World}{bs bw n:Nat}{ws:List Nat}(h:ch w bs bw n ws)(i:Int) :
  Calls Tryz.prog 141 #[.pointer (some ⟨bs,0,none⟩),.int .i64 i] w (qe w bs bw n ws i true):=by
 have H:=aa h;clear h;go_enter Tryz.func141,Tryz.ntmps141
 go_wp2_with (go_at_call 155;refine(xz H.out i true).mono ?_;rintro e w' ⟨c,er,ws',rfl,hb,hf,ht⟩)
 go_ret2
 exact⟨c,er,ws',rfl,hb,hf,ht⟩
theorem kH{w:World}{bs bw n:Nat}{ws:List Nat}(h:ch w bs bw n ws):Calls Tryz.prog 120 #[.pointer (some ⟨bs,0,none⟩)] w λe w'=>e=.returned (.int .i64 (n:Int))/\w=w':=by
 have h0:=h.c0;clear h;go_enter Tryz.func120,Tryz.ntmps120
 go_wp2
 go_ret
 exact⟨rfl,rfl⟩
theorem tQ(ws:List Nat)(A j:Nat)(hj:j<64):bH ws (A*64+j)=(ws.getD A 0).testBit j:=by
 unfold bH;rw[show(A*64+j) / 64=A by omega,show(A*64+j) % 64=j by omega]
def rR(ws:List Nat)(f t:Int):Nat:=cnt (λj=>bH ws j&&decide (f<=(j:Int)/\(j:Int)<t)) 0 (ws.length*64)
def bQ(ws:List Nat)(f t:Int)(A:Nat):Nat:=cnt (λj=>bH ws j&&decide (f<=(j:Int)/\(j:Int)<t)) 0 (A*64)
theorem jB(ws:List Nat)(f t:Int)(A:Nat):bQ ws f t (A+1)=bQ ws f t A+pc (ws.getD A 0 &&& msk A f t):=by
 unfold bQ;rw[show(A+1)*64=A*64+64 by omega,nR]
 congr 1
 refine ix λj hj=>?_;rw[Nat.testBit_and,Nat.zero_add,Nat.zero_add,(lx A f t).2 j hj,tQ _ _ _ hj]
 congr 1
theorem gP{ws:List Nat}{f t:Int}{A:Nat}(h:(A:Int)*64<=f\/t<=0):bQ ws f t A=0:=by
 refine px λj hj=>?_;rw[Nat.zero_add,Bool.and_eq_false_iff];right;rw[decide_eq_false_iff_not];omega
theorem jY{ws:List Nat}{f t:Int}{A d:Nat}(h:∀j:Nat,A*64<=j->bH ws j=false\/t<=j):bQ ws f t (A+d)=bQ ws f t A:=by
 unfold bQ;rw[show(A+d)*64=A*64+d*64 by omega,nR,px (a:=0+A*64) (n:=d*64)]
 ·rfl
 ·intro j hj;rcases h (0+A*64+j) (by omega)with h|h
  ·rw[h];rfl
  ·rw[Bool.and_eq_false_iff];right;rw[decide_eq_false_iff_not];omega
theorem qf{ws:List Nat}{j:Nat}(h:ws.length*64<=j):bH ws j=false:=by
 unfold bH;rw[List.getD_eq_getElem?_getD,List.getElem?_eq_none (by omega)];exact Nat.zero_testBit _
theorem iG{ws:List Nat}{f t:Int}{A:Nat}(h:t<=(A:Int)*64):bQ ws f t A=rR ws f t:=by
 show _=bQ ws f t ws.length;rcases Nat.le_total A ws.length with hA|hA
 ·obtain⟨d,hd⟩:∃d,ws.length=A+d:=⟨ws.length-A,by omega⟩;rw[hd];exact(jY λj hj=>.inr (by omega)).symm
 ·obtain⟨d,hd⟩:∃d,A=ws.length+d:=⟨A-ws.length,by omega⟩;rw[hd];exact jY λj hj=>.inl (qf hj)
theorem cO(ws:List Nat)(f t:Int)(A:Nat):bQ ws f t A<=ws.length*64:=by
 rcases Nat.le_total A ws.length with hA|hA
 ·exact Nat.le_trans (kU _ _ _) (by omega)
 ·obtain⟨d,rfl⟩:∃d,A=ws.length+d:=⟨A-ws.length,by omega⟩;rw[jY λj hj=>.inl (qf hj)];exact kU _ _ _
theorem tR(x:Nat):pc x<=64:=kU _ _ _
def dq(ws:List Nat)(f t:Int)(w:World)(e:Ending)(w':World):Prop:=e=.returned (.int .i64 ((rR ws f t:Nat):Int))/\∃k,w'=w.drewN k
theorem xA{w:World}{bs bw n:Nat}{ws:List Nat}(h:ch w bs bw n ws)(f t:Int)(hf0:-9223372036854775808<=f)(hf1:f<=9223372036854775807)(ht0:-9223372036854775808<=t)(ht1:t<=9223372036854775807)
  (hf:0<=f) (ht:t<=(n:Int)):Calls Tryz.prog 76 #[.pointer (some ⟨bs,0,none⟩),.int .i64 f,.int .i64 t] w (dq ws f t w):=by
 have hmax:=h.max;have hlen:=h.len;have hlm:ws.length<=65536:=by omega
 have hl1:=aa (show n<=ws.length*64 by omega);have H:=aa h;have h1:=h.c1;clear h hlen;go_enter Tryz.func76,Tryz.ntmps76
 go_wp2_with (first|(go_at_call 120;refine(kH H.out).mono ?_;rintro e w' ⟨rfl,rfl⟩))
 go_loopw [7,8] (λT a wr=>∃A k:Nat,a=.int .i64 A/\T=.int .u32 ((bQ ws f t A:Nat):Int)/\f<A*64+64/\(A:Int)<=144115188075855872/\wr=w.drewN k) (λ_ a _=>((t+63) / 64-intOf a).toNat)
 case atStart=>exact⟨(f / 64).toNat,0,by go_num,by rw[gP (by omega)];rfl,by omega,by omega,rfl⟩
 case round=>
  obtain⟨A,k,rfl,rfl,hfA,hA,rfl⟩:=hrel;by_cases hc:(A:Int)<(t+63) / 64
  ·have hA1:A<ws.length:=by have:=hl1.out;omega
   have hA2:(A:Int)<(ws.length:Int):=by omega
   have hw:=H.out.cw hA1;have hx:=H.out.ok A;have ST:=aa (jB ws f t A);have hm:=aa (fX A f t (by omega) (by omega) (by omega) (by omega) (by omega) (by omega));have hml:=(lx A f t).1;have hcl:=cO ws f t A;have hcl2:bQ ws f t A<=4194304:=by omega
   generalize bQ ws f t A=T at *;generalize msk (A:Int) f t=m at *;generalize ws.getD A 0=x at *;have e1:=u64_and_nat x m hx hml;have hyl:x &&& m<18446744073709551616:=Nat.lt_of_le_of_lt Nat.and_le_left hx;have hp:=tR (x &&& m);have ho:=aa (jA (x &&& m) hyl);generalize x &&& m=y at *;generalize pc y=q at *;clear hcl;go_wp2_with (first|(go_at_call 81;refine(bD _ (by omega) (by omega) _).mono ?_;rintro e w' ⟨rfl,rfl⟩))
   go_quiet ((first|(go_at_call 122;exact aP (hm.out _))|(go_at_call 121;exact aP (ho.out _))))
   go_wp2
   go_roundw
   case rel=>exact⟨A+1,k+nq,by go_num,by rw[ST.out];go_num,by omega,by omega,rfl⟩
   case measure=>simp[intOf];omega
  ·have hcl:=cO ws f t A;have hcl2:bQ ws f t A<=4194304:=by omega
   have HE:=aa (iG (ws:=ws) (f:=f) (t:=t) (A:=A) (by omega));generalize bQ ws f t A=T at *;go_wp2_with (first|(go_at_call 81;refine(bD _ (by omega) (by omega) _).mono ?_;rintro e w' ⟨rfl,rfl⟩))
   go_ret
   exact⟨bo (by rw[<- HE.out]),k,rfl⟩
theorem xB{w:World}{bs bw n:Nat}{ws:List Nat}(h:ch w bs bw n ws)(f t:Int)(hf0:-9223372036854775808<=f)(hf1:f<=9223372036854775807)(ht0:-9223372036854775808<=t)(ht1:t<=9223372036854775807)
  (hf:f<0) (ht:t<=(n:Int)):Calls Tryz.prog 76 #[.pointer (some ⟨bs,0,none⟩),.int .i64 f,.int .i64 t] w (dq ws 0 t w):=by
 have hmax:=h.max;have hlen:=h.len;have hlm:ws.length<=65536:=by omega
 have hl1:=aa (show n<=ws.length*64 by omega);have H:=aa h;have h1:=h.c1;clear h hlen;go_enter Tryz.func76,Tryz.ntmps76
 go_wp2_with (first|(go_at_call 120;refine(kH H.out).mono ?_;rintro e w' ⟨rfl,rfl⟩))
 go_loopw [7,8] (λT a wr=>∃A k:Nat,a=.int .i64 A/\T=.int .u32 ((bQ ws 0 t A:Nat):Int)/\(0:Int)<A*64+64/\(A:Int)<=144115188075855872/\wr=w.drewN k) (λ_ a _=>((t+63) / 64-intOf a).toNat)
 case atStart=>exact⟨0,0,rfl,by rw[gP (by omega)];rfl,by omega,by omega,rfl⟩
 case round=>
  obtain⟨A,k,rfl,rfl,hfA,hA,rfl⟩:=hrel;by_cases hc:(A:Int)<(t+63) / 64
  ·have hA1:A<ws.length:=by have:=hl1.out;omega
   have hA2:(A:Int)<(ws.length:Int):=by omega
   have hw:=H.out.cw hA1;have hx:=H.out.ok A;have ST:=aa (jB ws 0 t A);have hm:=aa (fX A 0 t (by omega) (by omega) (by omega) (by omega) (by omega) (by omega));have hml:=(lx A 0 t).1;have hcl:=cO ws 0 t A;have hcl2:bQ ws 0 t A<=4194304:=by omega
   generalize bQ ws 0 t A=T at *;generalize msk (A:Int) 0 t=m at *;generalize ws.getD A 0=x at *;have e1:=u64_and_nat x m hx hml;have hyl:x &&& m<18446744073709551616:=Nat.lt_of_le_of_lt Nat.and_le_left hx;have hp:=tR (x &&& m);have ho:=aa (jA (x &&& m) hyl);generalize x &&& m=y at *;generalize pc y=q at *;clear hcl;go_wp2_with (first|(go_at_call 81;refine(bD _ (by omega) (by omega) _).mono ?_;rintro e w' ⟨rfl,rfl⟩))
   go_quiet ((first|(go_at_call 122;exact aP (hm.out _))|(go_at_call 121;exact aP (ho.out _))))
   go_wp2
   go_roundw
   case rel=>exact⟨A+1,k+nq,by go_num,by rw[ST.out];go_num,by omega,by omega,rfl⟩
   case measure=>simp[intOf];omega
  ·have hcl:=cO ws 0 t A;have hcl2:bQ ws 0 t A<=4194304:=by omega
   have HE:=aa (iG (ws:=ws) (f:=0) (t:=t) (A:=A) (by omega));generalize bQ ws 0 t A=T at *;go_wp2_with (first|(go_at_call 81;refine(bD _ (by omega) (by omega) _).mono ?_;rintro e w' ⟨rfl,rfl⟩))
   go_ret
   exact⟨bo (by rw[<- HE.out]),k,rfl⟩
theorem xC{w:World}{bs bw n:Nat}{ws:List Nat}(h:ch w bs bw n ws)(f t:Int)(hf0:-9223372036854775808<=f)(hf1:f<=9223372036854775807)(ht0:-9223372036854775808<=t)(ht1:t<=9223372036854775807)
  (hf:0<=f) (ht:(n:Int)<t):Calls Tryz.prog 76 #[.pointer (some ⟨bs,0,none⟩),.int .i64 f,.int .i64 t] w (dq ws f (n:Int) w):=by
 have hmax:=h.max;have hlen:=h.len;have hlm:ws.length<=65536:=by omega
 have hl1:=aa (show n<=ws.length*64 by omega);have H:=aa h;have h1:=h.c1;clear h hlen;go_enter Tryz.func76,Tryz.ntmps76
 go_wp2_with (first|(go_at_call 120;refine(kH H.out).mono ?_;rintro e w' ⟨rfl,rfl⟩))
 go_loopw [7,8] (λT a wr=>∃A k:Nat,a=.int .i64 A/\T=.int .u32 ((bQ ws f (n:Int) A:Nat):Int)/\f<A*64+64/\(A:Int)<=144115188075855872/\wr=w.drewN k) (λ_ a _=>(((n:Int)+63) / 64-intOf a).toNat)
 case atStart=>exact⟨(f / 64).toNat,0,by go_num,by rw[gP (by omega)];rfl,by omega,by omega,rfl⟩
 case round=>
  obtain⟨A,k,rfl,rfl,hfA,hA,rfl⟩:=hrel;by_cases hc:(A:Int)<((n:Int)+63) / 64
  ·have hA1:A<ws.length:=by have:=hl1.out;omega
   have hA2:(A:Int)<(ws.length:Int):=by omega
   have hw:=H.out.cw hA1;have hx:=H.out.ok A;have ST:=aa (jB ws f (n:Int) A);have hm:=aa (fX A f (n:Int) (by omega) (by omega) (by omega) (by omega) (by omega) (by omega));have hml:=(lx A f (n:Int)).1;have hcl:=cO ws f (n:Int) A;have hcl2:bQ ws f (n:Int) A<=4194304:=by omega
   generalize bQ ws f (n:Int) A=T at *;generalize msk (A:Int) f (n:Int)=m at *;generalize ws.getD A 0=x at *;have e1:=u64_and_nat x m hx hml;have hyl:x &&& m<18446744073709551616:=Nat.lt_of_le_of_lt Nat.and_le_left hx;have hp:=tR (x &&& m);have ho:=aa (jA (x &&& m) hyl);generalize x &&& m=y at *;generalize pc y=q at *;clear hcl;go_wp2_with (first|(go_at_call 81;refine(bD _ (by omega) (by omega) _).mono ?_;rintro e w' ⟨rfl,rfl⟩))
   go_quiet ((first|(go_at_call 122;exact aP (hm.out _))|(go_at_call 121;exact aP (ho.out _))))
   go_wp2
   go_roundw
   case rel=>exact⟨A+1,k+nq,by go_num,by rw[ST.out];go_num,by omega,by omega,rfl⟩
   case measure=>simp[intOf];omega
  ·have hcl:=cO ws f (n:Int) A;have hcl2:bQ ws f (n:Int) A<=4194304:=by omega
   have HE:=aa (iG (ws:=ws) (f:=f) (t:=(n:Int)) (A:=A) (by omega));generalize bQ ws f (n:Int) A=T at *;go_wp2_with (first|(go_at_call 81;refine(bD _ (by omega) (by omega) _).mono ?_;rintro e w' ⟨rfl,rfl⟩))
   go_ret
   exact⟨bo (by rw[<- HE.out]),k,rfl⟩
theorem xD{w:World}{bs bw n:Nat}{ws:List Nat}(h:ch w bs bw n ws)(f t:Int)(hf0:-9223372036854775808<=f)(hf1:f<=9223372036854775807)(ht0:-9223372036854775808<=t)(ht1:t<=9223372036854775807)
  (hf:f<0) (ht:(n:Int)<t):Calls Tryz.prog 76 #[.pointer (some ⟨bs,0,none⟩),.int .i64 f,.int .i64 t] w (dq ws 0 (n:Int) w):=by
 have hmax:=h.max;have hlen:=h.len;have hlm:ws.length<=65536:=by omega
 have hl1:=aa (show n<=ws.length*64 by omega);have H:=aa h;have h1:=h.c1;clear h hlen;go_enter Tryz.func76,Tryz.ntmps76
 go_wp2_with (first|(go_at_call 120;refine(kH H.out).mono ?_;rintro e w' ⟨rfl,rfl⟩))
 go_loopw [7,8] (λT a wr=>∃A k:Nat,a=.int .i64 A/\T=.int .u32 ((bQ ws 0 (n:Int) A:Nat):Int)/\(0:Int)<A*64+64/\(A:Int)<=144115188075855872/\wr=w.drewN k) (λ_ a _=>(((n:Int)+63) / 64-intOf a).toNat)
 case atStart=>exact⟨0,0,rfl,by rw[gP (by omega)];rfl,by omega,by omega,rfl⟩
 case round=>
  obtain⟨A,k,rfl,rfl,hfA,hA,rfl⟩:=hrel;by_cases hc:(A:Int)<((n:Int)+63) / 64
  ·have hA1:A<ws.length:=by have:=hl1.out;omega
   have hA2:(A:Int)<(ws.length:Int):=by omega
   have hw:=H.out.cw hA1;have hx:=H.out.ok A;have ST:=aa (jB ws 0 (n:Int) A);have hm:=aa (fX A 0 (n:Int) (by omega) (by omega) (by omega) (by omega) (by omega) (by omega));have hml:=(lx A 0 (n:Int)).1;have hcl:=cO ws 0 (n:Int) A;have hcl2:bQ ws 0 (n:Int) A<=4194304:=by omega
   generalize bQ ws 0 (n:Int) A=T at *;generalize msk (A:Int) 0 (n:Int)=m at *;generalize ws.getD A 0=x at *;have e1:=u64_and_nat x m hx hml;have hyl:x &&& m<18446744073709551616:=Nat.lt_of_le_of_lt Nat.and_le_left hx;have hp:=tR (x &&& m);have ho:=aa (jA (x &&& m) hyl);generalize x &&& m=y at *;generalize pc y=q at *;clear hcl;go_wp2_with (first|(go_at_call 81;refine(bD _ (by omega) (by omega) _).mono ?_;rintro e w' ⟨rfl,rfl⟩))
   go_quiet ((first|(go_at_call 122;exact aP (hm.out _))|(go_at_call 121;exact aP (ho.out _))))
   go_wp2
   go_roundw
   case rel=>exact⟨A+1,k+nq,by go_num,by rw[ST.out];go_num,by omega,by omega,rfl⟩
   case measure=>simp[intOf];omega
  ·have hcl:=cO ws 0 (n:Int) A;have hcl2:bQ ws 0 (n:Int) A<=4194304:=by omega
   have HE:=aa (iG (ws:=ws) (f:=0) (t:=(n:Int)) (A:=A) (by omega));generalize bQ ws 0 (n:Int) A=T at *;go_wp2_with (first|(go_at_call 81;refine(bD _ (by omega) (by omega) _).mono ?_;rintro e w' ⟨rfl,rfl⟩))
   go_ret
   exact⟨bo (by rw[<- HE.out]),k,rfl⟩
theorem uH{ws:List Nat}{n:Nat}(htop:∀j,n<=j->bH ws j=false){f t f' t':Int}(hf:f'=f\/(f<0/\f'=0))(ht:t'=t\/((n:Int)<=t/\t'=n)):rR ws f' t'=rR ws f t:=by
 refine ix λj _=>?_;rw[Nat.zero_add];rcases Nat.lt_or_ge j n with hj|hj
 ·congr 1
  rw[decide_eq_decide];omega
 ·rw[htop j hj];rfl
theorem uI{w:World}{bs bw n:Nat}{ws:List Nat}(h:ch w bs bw n ws)(f t:Int)(hf0:-9223372036854775808<=f)(hf1:f<=9223372036854775807)(ht0:-9223372036854775808<=t)(ht1:t<=9223372036854775807) :
  Calls Tryz.prog 76 #[.pointer (some ⟨bs,0,none⟩),.int .i64 f,.int .i64 t] w (dq ws f t w):=by
 have key:∀ {f' t':Int},(f'=f\/(f<0/\f'=0))->(t'=t\/((n:Int)<=t/\t'=n))->∀e w',dq ws f' t' w e w'->dq ws f t w e w':=by
  intro f' t' hf ht e w' hp;unfold dq at *;rw[<- uH h.top hf ht];exact hp
 rcases(show 0<=f\/f<0 by omega)with hf|hf <;> rcases(show t<=(n:Int)\/(n:Int)<t by omega)with ht|ht
 ·exact xA h f t hf0 hf1 ht0 ht1 hf ht
 ·exact(xC h f t hf0 hf1 ht0 ht1 hf ht).mono (key (.inl rfl) (.inr ⟨by omega,rfl⟩))
 ·exact(xB h f t hf0 hf1 ht0 ht1 hf ht).mono (key (.inr ⟨hf,rfl⟩) (.inl rfl))
 ·exact(xD h f t hf0 hf1 ht0 ht1 hf ht).mono (key (.inr ⟨hf,rfl⟩) (.inr ⟨by omega,rfl⟩))
theorem nf(L i:Nat):bH (List.replicate L 0) i=false:=by
 unfold bH;rw[List.getD_eq_getElem?_getD,List.getElem?_replicate];split <;> exact Nat.zero_testBit _
theorem Tryz.xE:(Tryz.prog.info? 67).map (λi=>(i.zero,i.size,i.bytes))=some (some (.int .u64 0),1,8):=by kernel_rfl
def tS(w:World)(n:Nat)(e:Ending)(w':World):Prop:=
 ∃bs bw,e=.returned (.tuple #[.pointer (some ⟨bs,0,none⟩),.int .i64 0])/\ch w' bs bw n (List.replicate ((n+63) / 64) 0)/\Fr [] w w'/\w.heap.size<=bs/\w.heap.size<=bw
theorem qg(n:Nat)(h:n<=4194304)(w:World):Calls Tryz.prog 43 #[.int .i64 (n:Int)] w (tS w n):=by
 obtain⟨i0,hi,hz0,hz1,hz2⟩:=info_parts Tryz.xE;have hL:((n:Int)+63) / 64=((n+63) / 64:Nat):=by omega
 have hL2:(n+63) / 64<=65536:=by omega
 have hL3:=aa hL;clear hL;go_enter Tryz.func43,Tryz.ntmps43
 go_wp2_with (first|(go_at_call 81;refine(bD _ (by omega) (by omega) _).mono ?_;rintro e w' ⟨rfl,rfl⟩)|(at_make;refine wpList_make_full _ rfl _ _ 167 rfl w.heap.size 67 i0 (.int .u64 0) 1 Tryz.underlying167 hi hz0 hz1 _ _ _ _ ((n+63) / 64) rfl rfl hL3.out hL3.out (by rw[hz2];omega) (by unfold maxLen;omega) (Dd _) ?_;intro w1 hown hgr;have HO:=aa hown;have HG:=aa hgr;clear hown hgr))
 go_ret2
 have hown:=HO.out;rw[Nat.mul_one,cU _ rfl]at hown;have hb:=gh hown;have hlt:=hb.lt;refine⟨w1.heap.size,w.heap.size,rfl,⟨?_,?_,by simp,h,?_,?_⟩,((Fr.refl _ _).grown HG.out (λ_ hk=>by cases hk)).alloc _,HG.out.size,Dd _⟩
 ·rw[List.length_replicate];exact Blk.new _ _ _
 ·have:wv (List.replicate ((n+63) / 64) 0)=(List.replicate ((n+63) / 64) (Value.int .u64 0)).toArray:=by simp[wv]
  rw[this];exact hb.alloc _
 ·intro k;rw[List.getD_eq_getElem?_getD,List.getElem?_replicate];split <;> decide
 ·intro i _;exact nf _ _
def below(ws:List Nat)(b:Nat):List Nat:=(List.range b).filter (bH ws)
theorem lA(ws:List Nat)(b:Nat):below ws (b+1)=below ws b++(if bH ws b then [b] else []):=by
 unfold below;rw[List.range_succ,List.filter_append]
 congr 1
 by_cases h:bH ws b <;> simp[h]
theorem jk{ws:List Nat}{b d:Nat}(h:∀j,b<=j->j<b+d->bH ws j=false):below ws (b+d)=below ws b:=by
 induction d with
|zero=>rfl
|succ d ih=>rw[<- Nat.add_assoc,lA,ih (λj h1 h2=>h j h1 (by omega)),h (b+d) (by omega) (by omega)];simp
theorem xF(ws:List Nat)(b:Nat):(below ws b).length<=b:=by
 unfold below;exact Nat.le_trans (List.length_filter_le _ _) (by simp)
def jC(ws:List Nat)(A X p:Nat):Prop:=p<=64/\X<18446744073709551616/\∀j,j<64->X.testBit j=(bH ws (A*64+j)&&decide (p<=j))
theorem rS{ws:List Nat}(hok:Words ws)(A:Nat):jC ws A (ws.getD A 0) 0:=⟨by omega,hok A,λj hj=>by rw[tQ _ _ _ hj];simp⟩
theorem uJ{ws:List Nat}{A p:Nat}(h:jC ws A 0 p):below ws (A*64+p)=below ws ((A+1)*64):=by
 obtain⟨h1,_,h3⟩:=h;obtain⟨d,hd⟩:∃d,64=p+d:=⟨64-p,by omega⟩;rw[show(A+1)*64=A*64+p+d by omega];refine(jk λj a b=>?_).symm;have:=h3 (j-A*64) (by omega);rw[show A*64+(j-A*64)=j by omega,Nat.zero_testBit,show decide (p<=j-A*64)=true by simp;omega,Bool.and_true]at this;exact this.symm
theorem uK{ws:List Nat}{A X p:Nat}(h:jC ws A X p)(h0:0<X) :
  jC ws A (X &&& (X-1)) (Lib.ctz 64 X+1)/\below ws (A*64+(Lib.ctz 64 X+1))=below ws (A*64+p)++[A*64+Lib.ctz 64 X]/\X &&& (X-1)<X:=by
 obtain⟨h1,h2,h3⟩:=h;obtain⟨c1,c2,c3⟩:=js X h0 h2;have hb:=nS X h0 h2;have hle:X &&& (X-1)<=X-1:=Nat.and_le_right;generalize Lib.ctz 64 X=c at *;have hc:=h3 c c1;rw[c2]at hc;have hc':=hc.symm;rw[Bool.and_eq_true,decide_eq_true_eq]at hc';refine⟨⟨by omega,by omega,λj hj=>?_⟩,?_,by omega⟩
 ·rw[hb,h3 j hj];by_cases hjc:j<=c
  ·by_cases hje:j=c
   ·subst hje;simp
   ·have:=c3 j (by omega);rw[h3 j hj]at this;rw[this,show decide (c+1<=j)=false by simp;omega];simp
  ·rw[show decide (p<=j)=true by simp;omega,show decide (c+1<=j)=true by simp;omega,show decide (j≠c)=true by simp;omega];simp
 ·rw[<- Nat.add_assoc,lA,hc'.1];obtain⟨d,hd⟩:∃d,c=p+d:=⟨c-p,by omega⟩;have:below ws (A*64+c)=below ws (A*64+p):=by
   rw[hd,<- Nat.add_assoc];refine jk λj a b=>?_;have e:=h3 (j-A*64) (by omega);rw[c3 _ (by omega),show A*64+(j-A*64)=j by omega,show decide (p<=j-A*64)=true by simp;omega,Bool.and_true]at e;exact e.symm
  rw[this];rfl
def gB(w:World)(l:List Nat)(e:Ending)(w':World):Prop:=∃v,e=.returned v/\w'.ownsRow w.heap.size 3 1 v l.length (jU l)/\Fr [] w w'
theorem xG{w:World}{bs bw n:Nat}{ws:List Nat}(h:ch w bs bw n ws)(hT:Tab w) :
  Calls Tryz.prog 36 #[.pointer (some ⟨bs,0,none⟩)] w (gB w (below ws n)):=by
 have hmax:=h.max;have hlm:ws.length<=65536:=by have:=h.len;omega
 have h0:=h.c0;have h1:=h.c1;have hfin:Hid (below ws (ws.length*64)=below ws n):=by
  have:=h.len;obtain⟨d,hd⟩:∃d,ws.length*64=n+d:=⟨ws.length*64-n,by omega⟩;rw[hd];exact jk λj a _=>h.top j a
 have H:=aa h;have HT:=aa hT;have HC:=aa (uI h 0 (n:Int) (by omega) (by omega) (by omega) (by omega));have hcr:rR ws 0 (n:Int)<=4194304:=by
  have:=cO ws 0 (n:Int) ws.length;unfold rR;unfold bQ at this;omega
 obtain⟨i0,hi,hz0,hz1,hz2⟩:=info_parts Tryz.ce;clear h hT;go_enter Tryz.func36,Tryz.ntmps36
 go_wp2_with (first|(go_at_call 76;refine(HC.out).mono ?_;rintro e w' ⟨rfl,nq,rfl⟩)|(at_make;refine wpList_make_own _ rfl _ _ 25 rfl w.heap.size 3 i0 (.int .i64 0) 1 Tryz.underlying25 hi hz0 hz1 _ _ _ (rR ws 0 (n:Int)) rfl rfl rfl (by rw[hz2];omega) (by unfold maxLen;omega) (Dd _) ?_;intro w1 hown hgr;have HO:=aa hown;have HG:Hid (Fr [] w w1):=Fr.kJ (Fr.grown (Fr.refl [] (w.drewN nq)) hgr (λ_ hk=>by cases hk));have h1':=(HG.out.cell (p:=⟨bs,1,none⟩) H.out.set.lt (by simp)).trans h1;clear hown hgr))
 go_loopw [3,20] (λv i wr=>∃k:Nat,i=.int .i64 k/\k<=ws.length/\wr.ownsRow w.heap.size 3 1 v (below ws (k*64)).length (jU (below ws (k*64)))/\Fr [] w wr) (λ_ i _=>ws.length-(intOf i).toNat)
 case atStart=>exact⟨0,rfl,Nat.zero_le _,HO.out,HG.out⟩
 case round=>
  obtain⟨k,rfl,hk,hown,hfr⟩:=hrel;have HO2:=aa hown;have HF:=aa hfr;clear hown hfr;by_cases hlt:k<ws.length
  ·have hlt':(k:Int)<(ws.length:Int):=by omega
   have hw:=(HF.out.cell (p:=⟨bw,k,none⟩) H.out.row.lt (by simp)).trans (H.out.cw hlt);have HI:=aa (rS H.out.ok k);generalize ws.getD k 0=x at *;go_wp2_with fail
   obtain⟨wo,rfl⟩:∃wo:World,wo=wr:=⟨_,rfl⟩;go_loopw [3,5] (λv y w2=>∃X p:Nat,y=.int .u64 X/\jC ws k X p/\w2.ownsRow w.heap.size 3 1 v (below ws (k*64+p)).length (jU (below ws (k*64+p)))/\Fr [] w w2) (λ_ y _=>(intOf y).toNat)
   case atStart=>exact⟨x,0,rfl,HI.out,HO2.out,HF.out⟩
   case round=>
    obtain⟨X,p,rfl,hinv,hown2,hfr2⟩:=hrel;have HV:=aa hinv;have HO3:=aa hown2;have HF2:=aa hfr2;have hX:=hinv.2.1;clear hown2 hfr2 hinv;by_cases hx0:X=0
    ·subst hx0;have HD:=aa (uJ HV.out);go_wp2_with fail
     go_roundw
     case rel=>exact⟨k+1,by go_num,by omega,by rw[<- HD.out];exact HO3.out,HF2.out⟩
     case measure=>simp[intOf];omega
    ·have hx0':((X:Int)==0)=false:=by rw[beq_eq_false_iff_ne];omega
     have hx1:0<X:=by omega
     have hc:Lib.ctz 64 X<64:=(js X hx1 hX).1;obtain⟨s1,s2,s3⟩:=uK HV.out hx1;have S1:=aa s1;have S2:=aa s2;have ht:=aa (rK X hX hx1 _ (HT.out.fr HF2.out (by simp)));have eX:bits BinOp.and IntKind.u64 (X:Int) ((X:Int)-1)=((X &&& (X-1):Nat):Int):=by
      have:=u64_and_nat X (X-1) hX (by omega);rw[show((X-1:Nat):Int)=(X:Int)-1 by omega]at this;exact this
     have hbl:=xF ws (k*64+p);have hp:=HV.out.1;clear hx0 s1 s2;generalize X &&& (X-1)=Y at *;generalize Lib.ctz 64 X=c at *;go_wp2_with (first|(go_at_call 74;refine(ht.out).mono ?_;rintro e w' ⟨rfl,rfl⟩)|(at_builtin;refine wpList_append_own _ rfl _ _ 25 rfl w.heap.size 3 i0 (.int .i64 0) 1 8 Tryz.underlying25 hi hz0 hz1 hz2 rfl (by decide) _ _ _ rfl (HO3.out.alloc _) ⟨_,0,none⟩ 1 1 [.int .i64 ((k:Int)*64+c)] rfl rfl (rp _ _ _) ?c2 ?c3 ?c4 ?c5 ?_))
     case c2=>intro u hu;simp at hu;subst hu;rfl
     case c3=>unfold maxLen;omega
     case c4=>omega
     case c5=>have:=HF2.out.size;simp;omega
     intro v' w3 hown3 hgr3 _;have HO4:Hid (w3.ownsRow w.heap.size 3 1 v' (below ws (k*64+(c+1))).length (jU (below ws (k*64+(c+1))))):=by
      rw[S2.out,pK,List.length_append];exact hown3
     have HF3:Hid (Fr [] w w3):=jQ (HF2.out.alloc _) HO3.out hgr3;clear hown3 hgr3;go_wp2
     go_roundw
     case rel=>exact⟨Y,c+1,rfl,S1.out,HO4.out,HF3.out⟩
     case measure=>simp[intOf];omega
  ·have hke:k=ws.length:=by omega
   subst hke;have e:=hfin.out;go_wp2_with fail
   go_ret
   exact⟨_,rfl,by rw[<- e];exact HO2.out,HF.out⟩
structure Ct(w:World)(tb bs bw n:Nat)(ws:List Nat):Prop where
 tab:Blk w tb 166 #[.pointer (some ⟨bs,0,none⟩)]
 set:ch w bs bw n ws
section
variable {w w':World}{tb bs bw n:Nat}{ws:List Nat}{F:List Nat}
theorem Ct.fr(h:Ct w tb bs bw n ws)(hf:Fr F w w')(h0:tb∉F)(h1:bs∉F)(h2:bw∉F):Ct w' tb bs bw n ws:=⟨h.tab.fr hf h0,h.set.fr hf h1 h2⟩
theorem Ct.c0(h:Ct w tb bs bw n ws):w.cell? ⟨tb,0,none⟩=some (.pointer (some ⟨bs,0,none⟩)):=by rw[h.tab.cell];rfl
theorem Ct.ne(h:Ct w tb bs bw n ws):tb≠bw:=h.tab.apart h.set.row (by decide)
end
def Bo(w:World)(tb bs bw n:Nat)(ws:List Nat)(i:Int)(on:Bool)(e:Ending)(w':World):Prop:=
 ∃c er ws',e=.returned (.tuple #[.bool c,.int .i64 er])/\Ct w' tb bs bw n ws'/\Fr [bw] w w'/\Turned ws n i on c er ws'
theorem lB{w:World}{tb bs bw n:Nat}{ws:List Nat}(h:Ct w tb bs bw n ws):Calls Tryz.prog 31 #[.pointer (some ⟨tb,0,none⟩)] w λe w'=>e=.returned (.pointer (some ⟨bs,0,none⟩))/\w=w':=by
 have c0:=h.c0;clear h;go_enter Tryz.func31,Tryz.ntmps31
 go_wp2
 go_ret
 exact⟨rfl,rfl⟩
theorem zB{w:World}{tb bs bw n:Nat}{ws:List Nat}(h:Ct w tb bs bw n ws)(i:Int) :
  Calls Tryz.prog 10 #[.pointer (some ⟨tb,0,none⟩),.int .i64 i] w λe w'=>e=.returned (.bool (fY ws i))/\∃k,w'=w.drewN k:=by
 have HS:=aa (lB h);have HH:=aa (kG h.set i);clear h;go_enter Tryz.func10,Tryz.ntmps10
 go_wp2_with (first|(go_at_call 31;refine HS.out.mono ?_;rintro e w' ⟨rfl,rfl⟩)|(go_at_call 32;refine HH.out.mono ?_;rintro e w' ⟨rfl,k,rfl⟩))
 go_ret
 exact⟨rfl,_,rfl⟩
theorem rT{w:World}{tb bs bw n:Nat}{ws:List Nat}(h:Ct w tb bs bw n ws)(i:Int) :
  Calls Tryz.prog 97 #[.pointer (some ⟨tb,0,none⟩),.int .i64 i] w (Bo w tb bs bw n ws i true):=by
 have HS:=aa (lB h);have HP:=aa (zz h.set i);have HB:=aa h.tab;have HN:=aa h.ne;clear h;go_enter Tryz.func97,Tryz.ntmps97
 go_wp2_with (first|(go_at_call 31;refine HS.out.mono ?_;rintro e w' ⟨rfl,rfl⟩)|(go_at_call 141;refine HP.out.mono ?_;rintro e w' ⟨c,er,ws',rfl,hb,hf,ht⟩))
 go_ret2
 exact⟨c,er,ws',rfl,⟨HB.out.fr hf (by have:=HN.out;simp;exact this),hb⟩,hf,ht⟩
theorem uL{w:World}{tb bs bw n:Nat}{ws:List Nat}(h:Ct w tb bs bw n ws)(hT:Tab w) :
  Calls Tryz.prog 13 #[.pointer (some ⟨tb,0,none⟩)] w (gB w (below ws n)):=by
 have HS:=aa (lB h);have HL:=aa (xG h.set hT);clear h hT;go_enter Tryz.func13,Tryz.ntmps13
 go_wp2_with (first|(go_at_call 31;refine HS.out.mono ?_;rintro e w' ⟨rfl,rfl⟩)|(go_at_call 36;refine HL.out.mono ?_;rintro e w' ⟨v,rfl,ho,hf⟩))
 go_ret
 exact⟨_,rfl,ho,hf⟩
def AC(w:World)(n:Nat)(e:Ending)(w':World):Prop:=
 ∃tb bs bw,e=.returned (.tuple #[.pointer (some ⟨tb,0,none⟩),.int .i64 0])/\Ct w' tb bs bw n (List.replicate ((n+63) / 64) 0)/\Fr [] w w'/\w.heap.size<=tb/\w.heap.size<=bs/\w.heap.size<=bw
theorem xH(g:Geo)(n:Nat)(hn:n<=4194304)(hg:g.aF=(n:Int))(w:World):Calls Tryz.prog 40 #[g.val] w (AC w n):=by
 have HN:=aa (qg n hn);obtain⟨a,b,c,d,m,f⟩:=g;obtain rfl:m=(n:Int):=hg;unfold Geo.val;go_enter Tryz.func40,Tryz.ntmps40
 go_wp2_with fail
 refine(HN.out _).mono ?_;rintro e w1 ⟨bs,bw,rfl,hs,hf,h1,h2⟩;have HS:=aa hs;have HF:Hid (Fr [] w w1):=((Fr.refl _ _).alloc _).ae hf;have H1:Hid (w.heap.size<=bs/\w.heap.size<=bw):=by simp at h1 h2;exact⟨by omega,by omega⟩
 clear hs hf h1 h2;go_wp2_with fail
 go_ret2
 exact⟨w1.heap.size,bs,bw,rfl,⟨Blk.new _ _ _,HS.out.fr ((Fr.refl [] w1).alloc _) (by simp) (by simp)⟩,HF.out.alloc _,HF.out.size,H1.out.1,H1.out.2⟩
def adr(to:Int):Int:=IntKind.i64.wrap (IntKind.u64.wrap (to-1))
theorem Bp{to:Int}(h1:1<=to)(h2:to<=9223372036854775808):adr to=to-1:=by
 unfold adr;rw[IntKind.wrap_u64,Int.emod_eq_of_lt (by omega) (by omega)];exact IntWalk.i64_in _ ⟨by omega,by omega⟩
theorem tT{to:Int}(h0:0<=to)(h1:to<=18446744073709551615)(h:to=0\/9223372036854775808<to):adr to<0:=by
 unfold adr;have:IntKind.u64.wrap (to-1)=if to=0 then 18446744073709551615 else to-1:=by
  rw[IntKind.wrap_u64];split
  ·subst_vars;rfl
  ·exact Int.emod_eq_of_lt (by omega) (by omega)
 rw[this];have hw:∀x:Int,9223372036854775808<=x->x<=18446744073709551615->IntKind.i64.wrap x=x-18446744073709551616:=by
  intro x hx hy;rw[IntKind.wrap_i64];omega
 split
 ·rw[hw _ (by decide) (by decide)];decide
 ·rw[hw _ (by omega) (by omega)];omega
theorem od(to:Int)(w:World):Calls Tryz.prog 137 #[.int .u64 to] w λe w'=>e=.returned (.int .i64 (adr to))/\w=w':=by
 go_enter Tryz.func137,Tryz.ntmps137
 go_wp2
 go_ret
 exact⟨bo (by unfold adr;rw[IntWalk.i64_left]),rfl⟩
def rU(s:Int):Bool:=s==1||s==2
def cC(g:Geo)(s field to:Int):Bool:=!rU s&&g.dy field (adr to)
theorem xI{g:Geo}{a b:Int}(h:b<0\/g.words<=b):g.dy a b=false:=by
 unfold Geo.dy;rcases h with h|h
 ·rw[show decide (0<=b)=false by simp;omega];simp
 ·rw[show decide (b<g.words)=false by simp;omega];simp
theorem lC{g:Geo}{s field to:Int}(h:s=1\/s=2):cC g s field to=false:=by
 unfold cC rU;rcases h with rfl|rfl <;> simp
theorem zC{g:Geo}{s field to:Int}(hw:g.words<=4194304)(h0:0<=to)(h1:to<=18446744073709551615)(h:to=0\/4194304<to):cC g s field to=false:=by
 unfold cC;rw[xI,Bool.and_false];rcases h with rfl|h
 ·exact .inl (tT (by omega) (by omega) (.inl rfl))
 ·by_cases h2:to<=9223372036854775808
  ·rw[Bp (by omega) h2];exact .inr (by omega)
  ·exact .inl (tT (by omega) (by omega) (.inr (by omega)))
theorem qh{g:Geo}{s field to:Int}(h1:s≠1)(h2:s≠2):cC g s field to=g.dy field (adr to):=by
 unfold cC rU;rw[show(s==1)=false by simpa using h1,show(s==2)=false by simpa using h2];simp
theorem xJ(g:Geo){s k:Nat}(ok:g.Ok s k)(st field to:Int)(w:World)(hT:Tab w) :
  Calls Tryz.prog 91 #[g.val,.int .i64 st,.int .i64 field,.int .u64 to] w λe w'=>e=.returned (.bool (cC g st field to))/\Fr [] w w':=by
 have HX:=aa (λw' (h:Tab w')=>uA g ok field (adr to) w' h);have HA:=aa (od to);have HT:=aa hT;clear hT ok;have hways:((st==1)=true/\Hid (cC g st field to=false))\/((st==1)=false/\(st==2)=true/\Hid (cC g st field to=false))\/((st==1)=false/\(st==2)=false/\Hid (cC g st field to=g.dy field (adr to))):=by
  by_cases h1:st=1
  ·exact .inl ⟨by simpa using h1,lC (.inl h1)⟩
  ·by_cases h2:st=2
   ·exact .inr (.inl ⟨by simpa using h1,by simpa using h2,lC (.inr h2)⟩)
   ·exact .inr (.inr ⟨by simpa using h1,by simpa using h2,qh h1 h2⟩)
 generalize adr to=ad at *;rcases hways with⟨h1,HV⟩|⟨h1,h2,HV⟩|⟨h1,h2,HV⟩;all_goals
  rw[HV.out];clear HV;generalize g.dy field ad=cr at *;have HX':Hid (∀w',Tab w'->Calls Tryz.prog 136 #[.agg #[.int .i64 g.words,.int .i64 g.rw,.int .i64 g.cw,.int .i64 g.regions,.int .i64 g.aF,.int .i64 g.max],.int .i64 field,.int .i64 ad] w' λe w''=>e=.returned (.bool cr)/\Fr [] w' w''):=HX;unfold Geo.val;go_enter Tryz.func91,Tryz.ntmps91
  go_wp2_with fail
  generalize hw1:w.alloc _=w1;have hb:gn w1 w.heap.size g:=hw1 ▸ gn.of (Blk.new w 39 g.cells);have F0:Hid (Fr [] w w1):=hw1 ▸ (Fr.refl _ _).alloc _;have T0:Hid (∀u:Cls (Fr [] w1),Tab u.w):=λu=>(HT.out.fr F0.out (by simp)).fr u.ok (by simp);have c0:∀u:Cls (Fr [] w1),u.w.cell? ⟨w.heap.size,0,none⟩=some (.int .i64 g.words):=λu=>u.cell hb.c0 (by simp);have c1:∀u:Cls (Fr [] w1),u.w.cell? ⟨w.heap.size,1,none⟩=some (.int .i64 g.rw):=λu=>u.cell hb.c1 (by simp);have c2:∀u:Cls (Fr [] w1),u.w.cell? ⟨w.heap.size,2,none⟩=some (.int .i64 g.cw):=λu=>u.cell hb.c2 (by simp);have c3:∀u:Cls (Fr [] w1),u.w.cell? ⟨w.heap.size,3,none⟩=some (.int .i64 g.regions):=λu=>u.cell hb.c3 (by simp);have c4:∀u:Cls (Fr [] w1),u.w.cell? ⟨w.heap.size,4,none⟩=some (.int .i64 g.aF):=λu=>u.cell hb.c4 (by simp);have c5:∀u:Cls (Fr [] w1),u.w.cell? ⟨w.heap.size,5,none⟩=some (.int .i64 g.max):=λu=>u.cell hb.c5 (by simp);clear hw1 hb HX;refine bV (Fr [] w1) (by kernel_rfl) (by kernel_rfl) (Fr.refl _ _).drew ?_
  repeat (go_big_quiet_step ((first|(go_at_call 137;exact(HA.out _).mono λe w'' ⟨he,hw⟩=>⟨he,_,hw.symm⟩)|(go_at_call 136;exact Cls.grow (HX'.out _ (T0.out _))))))
  refine wpQuiet_nil ?_;rintro _ ⟨u,rfl⟩;go_wp2_with fail
  go_ret
  exact⟨rfl,F0.out.ae u.ok⟩
end Go.Proofs.YtimlkjppaalfaaaGreatDoor
