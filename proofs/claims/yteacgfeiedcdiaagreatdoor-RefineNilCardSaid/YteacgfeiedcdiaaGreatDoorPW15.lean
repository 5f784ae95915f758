/- Words of bits: what the package bits' small functions answer. -/
import Derived.Test.YteacgfeiedcdiaaGreatDoorProg
import Derived.Test.YteacgfeiedcdiaaGreatDoorPW00
import Derived.Test.YteacgfeiedcdiaaGreatDoorPW09
import Derived.WalkKit
import Derived.BigQuiet
import Derived.Deep.RegionHeld3
import Derived.Test.YteacgfeiedcdiaaGreatDoorPW01
namespace Go.Proofs.YteacgfeiedcdiaaGreatDoor
set_option maxRecDepth 100000
set_option linter.unusedVariables false
open Go.RowKit Go.Gl
theorem wordsBelow_any(n:Int)(h0:-9223372036854775808≤n)(h1:n≤4611686018427387904)(w:World) :
  Calls Tryz.prog 130 #[.int .i64 n] w fun e w'=>e=.returned (.int .i64 ((n+63) / 64))∧w=w':=by
 go_enter Tryz.func130,Tryz.ntmps130
 go_wp2
 go_ret
 exact⟨rfl,rfl⟩
theorem bit_wrap(I:Nat):IntKind.u64.wrap (2 ^ min (IntKind.u64.wrap (bits BinOp.and IntKind.i64 I 63)).toNat 64)=((2 ^ (I % 64):Nat):Int):=by
 rw [i64_and63,IntKind.wrap_u64,IntKind.wrap_u64]
 have e1:((I:Int) % 64 % 18446744073709551616).toNat=I % 64:=by omega
 rw [e1,Nat.min_eq_left (by omega)]
 have:=pow_lt64 (show I % 64<64 by omega)
 rw [show(2:Int) ^ (I % 64)=((2 ^ (I % 64):Nat):Int) from (Int.natCast_pow 2 _).symm]
 exact Int.emod_eq_of_lt (Int.natCast_nonneg _) (Int.ofNat_lt.2 this)
theorem bitOf_any(I:Nat)(w:World) :
  Calls Tryz.prog 101 #[.int .i64 (I:Int)] w fun e w'=>e=.returned (.int .u64 ((2 ^ (I % 64):Nat):Int))∧w=w':=by
 have H':=hide (bit_wrap I)
 go_enter Tryz.func101,Tryz.ntmps101
 go_wp2
 go_ret
 exact⟨ret_int H'.out,rfl⟩
def msk(a f t:Int):Nat:=
 if a*64<f then (if t<(a+1)*64 then hi (f-a*64).toNat &&& lo ((a+1)*64-t).toNat else hi (f-a*64).toNat)
 else if t<(a+1)*64 then lo ((a+1)*64-t).toNat else 18446744073709551615
theorem msk_is(a f t:Int):IsMask a f t (msk a f t):=by
 unfold msk
 split
 ·split
  ·exact mask_hl (by assumption)
  ·exact mask_h (by omega)
 ·split
  ·exact mask_l (by omega) (by assumption)
  ·exact mask_all (by omega) (by omega)
theorem u64_and_ones(m:Nat)(h:m<18446744073709551616):bits .and .u64 18446744073709551615 (m:Int)=(m:Int):=by
 have:=u64_and_nat 18446744073709551615 m (by decide) h
 rw [ones_and m h]at this
 exact this
theorem between_any(a f t:Int)(h0:0≤a)(h1:a≤65536)(_hf0:-9223372036854775808≤f)(hf:f<a*64+64)(_ht1:t≤4611686018427387904)(ht:a*64<t)(w:World) :
  Calls Tryz.prog 203 #[.int .i64 a,.int .i64 f,.int .i64 t] w fun e w'=>e=.returned (.int .u64 ((msk a f t:Nat):Int))∧w=w':=by
 by_cases c1:a*64<f <;> by_cases c2:t<(a+1)*64
 all_goals
  go_enter Tryz.func203,Tryz.ntmps203
  go_wp2
  go_ret
  refine⟨ret_int ?_,rfl⟩
  unfold msk
 ·rw [if_pos c1,if_pos c2,u64_hi,u64_lo,u64_and_ones _ (hi_lt _),u64_and_nat _ _ (hi_lt _) (lo_lt _)]
 ·rw [if_pos c1,if_neg (by omega),u64_hi,u64_and_ones _ (hi_lt _)]
 ·rw [if_neg (by omega),if_pos c2,u64_lo,u64_and_ones _ (lo_lt _)]
 ·rw [if_neg (by omega),if_neg (by omega)];rfl
theorem u64_sum(a b:Nat)(h:a+b<18446744073709551616):IntKind.u64.wrap ((a:Int)+(b:Int))=((a+b:Nat):Int):=by
 rw [IntKind.wrap_u64];omega
theorem swar_int(x:Nat)(hx:x<18446744073709551616):∃A B C D E F:Nat,
  IntKind.u64.wrap (bits BinOp.and IntKind.u64 (↑x / 2) 6148914691236517205+bits BinOp.and IntKind.u64 (↑x) 6148914691236517205)=(A:Int) ∧
  IntKind.u64.wrap (bits BinOp.and IntKind.u64 (↑A / 4) 3689348814741910323+bits BinOp.and IntKind.u64 (↑A) 3689348814741910323)=(B:Int) ∧
  bits BinOp.and IntKind.u64 (IntKind.u64.wrap (↑B / 16+↑B)) 1085102592571150095=(C:Int) ∧
  IntKind.u64.wrap (↑C+↑C / 256)=(D:Int)∧IntKind.u64.wrap (↑D+↑D / 65536)=(E:Int)∧IntKind.u64.wrap (↑E+↑E / 4294967296)=(F:Int) ∧
  bits BinOp.and IntKind.i64 (wrap64 ↑F) 127=((pc x:Nat):Int):=by
 obtain⟨hs,hc⟩:=swar x _ _ _ _ _ _ rfl rfl rfl rfl rfl rfl
 have a1:x / 2 &&& 6148914691236517205≤6148914691236517205:=Nat.and_le_right
 have a2:x &&& 6148914691236517205≤6148914691236517205:=Nat.and_le_right
 obtain⟨A,hA⟩:∃A,A=(x / 2 &&& 6148914691236517205)+(x &&& 6148914691236517205):=⟨_,rfl⟩
 have eA:IntKind.u64.wrap (bits BinOp.and IntKind.u64 (↑x / 2) 6148914691236517205+bits BinOp.and IntKind.u64 (↑x) 6148914691236517205)=(A:Int):=by
  have e1:=u64_and_nat (x / 2) 6148914691236517205 (by omega) (by decide)
  have e2:=u64_and_nat x 6148914691236517205 hx (by decide)
  rw [Int.natCast_ediv]at e1
  erw [e1,e2,u64_sum _ _ (by omega),hA]
 rw [← hA]at hs hc
 have b1:A / 4 &&& 3689348814741910323≤3689348814741910323:=Nat.and_le_right
 have b2:A &&& 3689348814741910323≤3689348814741910323:=Nat.and_le_right
 obtain⟨B,hB⟩:∃B,B=(A / 4 &&& 3689348814741910323)+(A &&& 3689348814741910323):=⟨_,rfl⟩
 have eB:IntKind.u64.wrap (bits BinOp.and IntKind.u64 (↑A / 4) 3689348814741910323+bits BinOp.and IntKind.u64 (↑A) 3689348814741910323)=(B:Int):=by
  have e1:=u64_and_nat (A / 4) 3689348814741910323 (by omega) (by decide)
  have e2:=u64_and_nat A 3689348814741910323 (by omega) (by decide)
  rw [Int.natCast_ediv]at e1
  erw [e1,e2,u64_sum _ _ (by omega),hB]
 rw [← hB]at hs hc
 obtain⟨C,hC⟩:∃C,C=(B / 16+B) &&& 1085102592571150095:=⟨_,rfl⟩
 have eC:bits BinOp.and IntKind.u64 (IntKind.u64.wrap (↑B / 16+↑B)) 1085102592571150095=(C:Int):=by
  have e1:=u64_sum (B / 16) B (by omega)
  rw [Int.natCast_ediv]at e1
  have e2:=u64_and_nat (B / 16+B) 1085102592571150095 (by omega) (by decide)
  erw [e1,e2,hC]
 rw [← hC]at hs hc
 refine⟨A,B,C,C+C / 256,C+C / 256+(C+C / 256) / 65536,C+C / 256+(C+C / 256) / 65536+(C+C / 256+(C+C / 256) / 65536) / 4294967296,eA,eB,eC,?_,?_,?_,?_⟩
 ·exact u64_sum C (C / 256) (by omega)
 ·exact u64_sum (C+C / 256) ((C+C / 256) / 65536) (by omega)
 ·exact u64_sum _ (_ / 4294967296) (by omega)
 ·rw [IntWalk.wrap64_in _ ⟨by omega,by omega⟩,i64_and127,← hs]
  rfl
theorem ones_any(x:Nat)(hx:x<18446744073709551616)(w:World) :
  Calls Tryz.prog 202 #[.int .u64 (x:Int)] w fun e w'=>e=.returned (.int .i64 ((pc x:Nat):Int))∧w=w':=by
 obtain⟨A,B,C,D,E,F,h1,h2,h3,h4,h5,h6,h7⟩:=swar_int x hx
 have H1:=hide h1
 have H2:=hide h2
 have H3:=hide h3
 have H4:=hide h4
 have H5:=hide h5
 have H6:=hide h6
 have H7:=hide h7
 clear h1 h2 h3 h4 h5 h6 h7
 go_enter Tryz.func202,Tryz.ntmps202
 go_wp2
 go_ret
 exact⟨ret_int (by rw [H1.out,H2.out,H3.out,H4.out,H5.out,H6.out,H7.out]),rfl⟩
def wv(ws:List Nat):Array Value:=(ws.map fun (x:Nat)=>Value.int .u64 (x:Int)).toArray
theorem wv_at(ws:List Nat)(k:Nat)(h:k<ws.length):(wv ws)[k]?=some (.int .u64 ((ws.getD k 0:Nat):Int)):=by
 simp [wv,h]
theorem wv_set(ws:List Nat)(k x:Nat):(wv ws).setIfInBounds k (.int .u64 (x:Int))=wv (ws.set k x):=by
 simp [wv]
structure BSet(w:World)(bs bw n:Nat)(ws:List Nat):Prop where
 set:Blk w bs 179 #[.int .i64 (n:Int),.slice (some ⟨bw,0,none⟩) ws.length ws.length]
 row:Blk w bw 87 (wv ws)
 len:ws.length=(n+63) / 64
 max:n≤4194304
 ok:Words ws
 top:∀i,n≤i→wbit ws i=false
section
variable {w w':World}{bs bw n:Nat}{ws:List Nat}{F:List Nat}
theorem BSet.fr(h:BSet w bs bw n ws)(hf:Fr F w w')(h1:bs∉F)(h2:bw∉F):BSet w' bs bw n ws:=
 ⟨h.set.fr hf h1,h.row.fr hf h2,h.len,h.max,h.ok,h.top⟩
theorem BSet.drewN(h:BSet w bs bw n ws)(k:Nat):BSet (w.drewN k) bs bw n ws:=⟨h.set,h.row,h.len,h.max,h.ok,h.top⟩
theorem BSet.drew(h:BSet w bs bw n ws):BSet w.drew bs bw n ws:=⟨h.set,h.row,h.len,h.max,h.ok,h.top⟩
theorem BSet.c0(h:BSet w bs bw n ws):w.cell? ⟨bs,0,none⟩=some (.int .i64 (n:Int)):=by rw [h.set.cell];rfl
theorem BSet.c1(h:BSet w bs bw n ws):w.cell? ⟨bs,1,none⟩=some (.slice (some ⟨bw,0,none⟩) ws.length ws.length):=by rw [h.set.cell];rfl
theorem BSet.cw(h:BSet w bs bw n ws){k:Nat}(hk:k<ws.length):w.cell? ⟨bw,k,none⟩=some (.int .u64 ((ws.getD k 0:Nat):Int)):=by rw [h.row.cell,wv_at _ _ hk]
theorem BSet.ne(h:BSet w bs bw n ws):bs≠bw:=h.set.apart h.row (by decide)
end
def inSet(ws:List Nat)(i:Int):Bool:=decide (0≤i)&&wbit ws i.toNat
theorem natBne(m:Nat):((m:Int) !=0)=(m !=0):=by cases m <;> rfl
theorem u64_and_pow(x k:Nat)(hx:x<18446744073709551616)(hk:k<64):bits .and .u64 (x:Int) ((2:Int) ^ k)=((x &&& 2 ^ k:Nat):Int):=by
 have:=u64_and_nat x (2 ^ k) hx (pow_lt64 hk)
 rw [Int.natCast_pow]at this
 exact this
theorem u64_xor_pow(x k:Nat)(hx:x<18446744073709551616)(hk:k<64):bits .xor .u64 (x:Int) ((2:Int) ^ k)=((x ^^^ 2 ^ k:Nat):Int):=by
 have:=u64_xor_nat x (2 ^ k) hx (pow_lt64 hk)
 rw [Int.natCast_pow]at this
 exact this
def mayI(n:Nat)(i:Int):Bool:=decide (0≤i∧i<(n:Int))
theorem may_any{w:World}{bs bw n:Nat}{ws:List Nat}(h:BSet w bs bw n ws)(i:Int) :
  Calls Tryz.prog 100 #[.pointer (some ⟨bs,0,none⟩),.int .i64 i] w fun e w'=>e=.returned (.bool (mayI n i))∧w=w':=by
 have h0:=h.c0
 clear h
 go_enter Tryz.func100,Tryz.ntmps100
 go_wp2
 all_goals go_ret
 ·rename_i hi
  refine⟨ret_bool ?_,rfl⟩
  simp [mayI,hi]
 ·rename_i hi
  refine⟨ret_bool ?_,rfl⟩
  simp [mayI];omega
theorem has_any{w:World}{bs bw n:Nat}{ws:List Nat}(h:BSet w bs bw n ws)(i:Int) :
  Calls Tryz.prog 50 #[.pointer (some ⟨bs,0,none⟩),.int .i64 i] w fun e w'=>e=.returned (.bool (inSet ws i))∧∃k,w'=w.drewN k:=by
 by_cases hi:0≤i∧i<(n:Int)
 ·obtain⟨hi0,hi1⟩:=hi
  obtain⟨I,rfl⟩:=Int.eq_ofNat_of_zero_le hi0
  have hlen:=h.len
  have hmax:=h.max
  have hk:I / 64<ws.length:=by omega
  have h1:=h.c1
  have hw:=h.cw hk
  have hx:=h.ok (I / 64)
  have hm:∀W,BSet W bs bw n ws→Calls Tryz.prog 100 #[.pointer (some ⟨bs,0,none⟩),.int .i64 (I:Int)] W fun e w'=>e=.returned (.bool true)∧W=w':=by
   intro W hW
   have:=may_any hW (I:Int)
   rw [show mayI n (I:Int)=true by simp [mayI];omega]at this
   exact this
  have hin:inSet ws (I:Int)=((ws.getD (I / 64) 0 &&& 2 ^ (I % 64)) !=0):=by
   rw [and_pow_ne];simp [inSet,wbit]
  rw [hin]
  generalize ws.getD (I / 64) 0=x at *
  have HM:=hide hm
  have HS:=hide h
  clear hm h hin hlen
  have e1:=hide (u64_and_pow x (I % 64) hx (by omega))
  go_enter Tryz.func50,Tryz.ntmps50
  go_wp2_with fail
  go_quiet ((first | (go_at_call 100;exact quiet_left (HM.out _ (HS.out.drewN _))) | (go_at_call 101;exact quiet_left (bitOf_any _ _))))
  go_wp2
  go_ret
  refine⟨ret_bool ?_,_,rfl⟩
  rw [e1.out]
  exact natBne _
 ·have hout:inSet ws i=false:=by
   unfold inSet
   by_cases h0:0≤i
   ·simp [h0,h.top i.toNat (by omega)]
   ·simp [h0]
  rw [hout]
  have hm:∀W,BSet W bs bw n ws→Calls Tryz.prog 100 #[.pointer (some ⟨bs,0,none⟩),.int .i64 i] W fun e w'=>e=.returned (.bool false)∧W=w':=by
   intro W hW
   have:=may_any hW i
   rw [show mayI n i=false by simp only [mayI,decide_eq_false_iff_not];exact hi]at this
   exact this
  have HM:=hide hm
  have HS:=hide h
  clear hm h hout hi
  go_enter Tryz.func50,Tryz.ntmps50
  go_wp2_with fail
  go_quiet ((go_at_call 100;exact quiet_left (HM.out _ (HS.out.drewN _))))
  go_wp2
  go_ret
  exact⟨rfl,_,rfl⟩
def Turned(ws:List Nat)(n:Nat)(i:Int)(on c:Bool)(er:Int)(ws':List Nat):Prop:=
 (0≤i∧i<(n:Int)∧er=0∧c=(wbit ws i.toNat !=on)∧∀j:Nat,wbit ws' j=if j=i.toNat then on else wbit ws j) ∨
 (¬ (0≤i∧i<(n:Int))∧er=2∧c=false∧ws'=ws)
def TurnPost(w:World)(bs bw n:Nat)(ws:List Nat)(i:Int)(on:Bool)(e:Ending)(w':World):Prop:=
 ∃c er ws',e=.returned (.tuple #[.bool c,.int .i64 er])∧BSet w' bs bw n ws'∧Fr [bw] w w'∧Turned ws n i on c er ws'
theorem turn_nil(i:Int)(on:Bool)(w:World):Calls Tryz.prog 99 #[.pointer none,.int .i64 i,.bool on] w fun e w'=>e=.returned (.tuple #[.bool false,.int .i64 1])∧w=w':=by
 go_enter Tryz.func99,Tryz.ntmps99
 go_wp2
 go_ret2
 exact⟨rfl,rfl⟩
theorem drop_nil(i:Int)(w:World):Calls Tryz.prog 96 #[.pointer none,.int .i64 i] w fun e w'=>e=.returned (.tuple #[.bool false,.int .i64 1])∧w=w':=by
 go_enter Tryz.func96,Tryz.ntmps96
 go_wp2_with (go_at_call 99;refine(turn_nil _ _ _).mono ?_;rintro e w' ⟨rfl,rfl⟩)
 go_ret2
 exact⟨rfl,rfl⟩
theorem turned_ws{ws:List Nat}{n I:Nat}{on:Bool}(hI:I<n)(hl:ws.length=(n+63) / 64)(hc:(wbit ws I==on)=false)(j:Nat) :
  wbit (ws.set (I / 64) (ws.getD (I / 64) 0 ^^^ 2 ^ (I % 64))) j=if j=I then on else wbit ws j:=by
 rw [wbit_set (by omega)]
 have hon:(!(wbit ws I))=on:=by revert hc;cases wbit ws I <;> cases on <;> simp
 by_cases hj:j / 64=I / 64
 ·rw [if_pos hj,xor_pow_bit]
  by_cases hm:I % 64=j % 64
  ·have:j=I:=by omega
   subst this
   rw [if_pos rfl,if_pos rfl,← hon];rfl
  ·rw [if_neg hm,if_neg (by rintro rfl;exact hm rfl)]
   unfold wbit;rw [hj]
 ·rw [if_neg hj,if_neg (by rintro rfl;exact hj rfl)]
theorem bset_turn{w:World}{bs bw n:Nat}{ws:List Nat}(h:BSet w bs bw n ws){I:Nat}{on:Bool}(hI:I<n)(hc:(wbit ws I==on)=false) :
  BSet (w.setCell ⟨bw,I / 64,none⟩ (.int .u64 ((ws.getD (I / 64) 0 ^^^ 2 ^ (I % 64):Nat):Int))) bs bw n (ws.set (I / 64) (ws.getD (I / 64) 0 ^^^ 2 ^ (I % 64))):=by
 refine⟨?_,?_,?_,h.max,words_set h.ok ?_,fun j hj=>?_⟩
 ·rw [List.length_set];exact h.set.far (p:=⟨bw,I / 64,none⟩) h.ne _
 ·have:=h.row.put (I / 64) (.int .u64 ((ws.getD (I / 64) 0 ^^^ 2 ^ (I % 64):Nat):Int))
  rw [wv_set]at this;exact this
 ·rw [List.length_set];exact h.len
 ·exact Nat.xor_lt_two_pow (n:=64) (h.ok _) (pow_lt64 (by omega))
 ·rw [turned_ws hI h.len hc,if_neg (by omega)];exact h.top j hj
set_option maxRecDepth 100000 in
theorem turn_any{w:World}{bs bw n:Nat}{ws:List Nat}(h:BSet w bs bw n ws)(i:Int)(on:Bool) :
  Calls Tryz.prog 99 #[.pointer (some ⟨bs,0,none⟩),.int .i64 i,.bool on] w (TurnPost w bs bw n ws i on):=by
 by_cases hi:0≤i∧i<(n:Int)
 ·obtain⟨hi0,hi1⟩:=hi
  obtain⟨I,rfl⟩:=Int.eq_ofNat_of_zero_le hi0
  have hlen:=h.len
  have hmax:=h.max
  have hk:I / 64<ws.length:=by omega
  have hI':I<n:=by omega
  have hm:=hide (may_any h (I:Int))
  have hb:mayI n (I:Int)=true:=by simp [mayI];omega
  have hin:inSet ws (I:Int)=wbit ws I:=by simp [inSet]
  by_cases hc:(wbit ws I==on)=true
  ·have HS:=hide h
   clear h hlen
   go_enter Tryz.func99,Tryz.ntmps99
   go_wp2_with (first | (go_at_call 100;refine(hm.out).mono ?_;rintro e w' ⟨rfl,rfl⟩) | (go_at_call 50;refine(has_any HS.out _).mono ?_;rintro e w' ⟨rfl,nq,rfl⟩))
   go_ret2
   have hc':wbit ws I=on:=by simpa using hc
   refine⟨false,0,ws,rfl,HS.out.drewN _,(Fr.refl _ _).drewN _,.inl ⟨hi0,hi1,rfl,?_,fun j=>?_⟩⟩
   ·rw [Int.toNat_natCast,hc'];simp
   ·rw [Int.toNat_natCast]
    split
    ·rename_i hj;rw [hj,hc']
    ·rfl
  ·have hcf:(wbit ws I==on)=false:=by simpa using hc
   have HB:=hide (bset_turn (w:=w) h hI' hcf)
   have HS:=hide h
   have h1:=h.c1
   have hw:=h.cw hk
   have hx:=h.ok (I / 64)
   have hfz:=h.row.frozen (I / 64)
   have HT:=hide (turned_ws hI' hlen hcf)
   generalize hX:ws.getD (I / 64) 0=x at *
   have e1:=hide (u64_xor_pow x (I % 64) hx (by omega))
   clear h hlen hc hX
   go_enter Tryz.func99,Tryz.ntmps99
   go_wp2_with (first | (go_at_call 100;refine(hm.out).mono ?_;rintro e w' ⟨rfl,rfl⟩) | (go_at_call 50;refine(has_any HS.out _).mono ?_;rintro e w' ⟨rfl,nq,rfl⟩))
   have hb1:(0:Int)≤(I:Int) / 64:=by omega
   have hb2:(I:Int) / 64<(ws.length:Int):=by omega
   have hb3:((I:Int) / 64).toNat=I / 64:=by omega
   refine region_tail 12 (by kernel_rfl) (by kernel_rfl) ?_
   simp only [List.take_succ_cons,List.take_zero,List.drop_succ_cons,List.drop_zero]
   repeat still_step
   still_call (call_right (bitOf_any _ _))
   repeat still_step
   refine wpStill_nil ?_
   go_wp2
   go_ret2
   rw [e1.out]
   exact⟨true,0,_,rfl,(HB.out).drewN _,((Fr.refl _ _).setCell (p:=⟨bw,I / 64,none⟩) (.inl (by simp)) _).drewN _,.inl ⟨hi0,hi1,rfl,by rw [Int.toNat_natCast];simpa using hcf,by rw [Int.toNat_natCast];exact HT.out⟩⟩
 ·have hm:=hide (may_any h i)
  have hb:mayI n i=false:=by simp only [mayI,decide_eq_false_iff_not];exact hi
  have HS:=hide h
  have HI:=hide hi
  clear h hi
  go_enter Tryz.func99,Tryz.ntmps99
  go_wp2_with (first | (go_at_call 100;refine(hm.out).mono ?_;rintro e w' ⟨rfl,rfl⟩))
  go_ret2
  exact⟨false,2,ws,rfl,HS.out,Fr.refl _ _,.inr ⟨HI.out,rfl,rfl,rfl⟩⟩
theorem put_any{w:World}{bs bw n:Nat}{ws:List Nat}(h:BSet w bs bw n ws)(i:Int) :
  Calls Tryz.prog 49 #[.pointer (some ⟨bs,0,none⟩),.int .i64 i] w (TurnPost w bs bw n ws i true):=by
 have H:=hide h
 clear h
 go_enter Tryz.func49,Tryz.ntmps49
 go_wp2_with (go_at_call 99;refine(turn_any H.out i true).mono ?_;rintro e w' ⟨c,er,ws',rfl,hb,hf,ht⟩)
 go_ret2
 exact⟨c,er,ws',rfl,hb,hf,ht⟩
theorem drop_any{w:World}{bs bw n:Nat}{ws:List Nat}(h:BSet w bs bw n ws)(i:Int) :
  Calls Tryz.prog 96 #[.pointer (some ⟨bs,0,none⟩),.int .i64 i] w (TurnPost w bs bw n ws i false):=by
 have H:=hide h
 clear h
 go_enter Tryz.func96,Tryz.ntmps96
 go_wp2_with (go_at_call 99;refine(turn_any H.out i false).mono ?_;rintro e w' ⟨c,er,ws',rfl,hb,hf,ht⟩)
 go_ret2
 exact⟨c,er,ws',rfl,hb,hf,ht⟩
theorem len_any{w:World}{bs bw n:Nat}{ws:List Nat}(h:BSet w bs bw n ws):Calls Tryz.prog 201 #[.pointer (some ⟨bs,0,none⟩)] w fun e w'=>e=.returned (.int .i64 (n:Int))∧w=w':=by
 have h0:=h.c0
 clear h
 go_enter Tryz.func201,Tryz.ntmps201
 go_wp2
 go_ret
 exact⟨rfl,rfl⟩
def NextIs(ws:List Nat)(i r:Int):Prop:=
 (r=-1∧∀j:Nat,i≤j→wbit ws j=false)∨∃R:Nat,r=(R:Int)∧i≤R∧wbit ws R=true∧∀j:Nat,i≤j→j<R→wbit ws j=false
def NextPost(ws:List Nat)(i:Int)(w:World)(e:Ending)(w':World):Prop:=∃r:Int,e=.returned (.int .i64 r)∧w=w'∧NextIs ws i r
def NextInv(ws:List Nat)(F A X:Nat):Prop:=
 A<ws.length∧X<18446744073709551616∧(∀j,j<64→X.testBit j=(wbit ws (A*64+j)&&decide (F≤A*64+j)))∧(∀j,F≤j→j<A*64→wbit ws j=false)∧F<A*64+64
theorem wbit_at(ws:List Nat)(A j:Nat)(hj:j<64):wbit ws (A*64+j)=(ws.getD A 0).testBit j:=by
 unfold wbit
 rw [show(A*64+j) / 64=A by omega,show(A*64+j) % 64=j by omega]
theorem next_start{ws:List Nat}(hok:Words ws){F:Nat}(hF:F / 64<ws.length):NextInv ws F (F / 64) (ws.getD (F / 64) 0 &&& hi (F % 64)):=by
 refine⟨hF,Nat.lt_of_le_of_lt Nat.and_le_left (hok _),fun j hj=>?_,fun j h1 h2=>by omega,by omega⟩
 rw [Nat.testBit_and,hi_bit,wbit_at _ _ _ hj]
 congr 1
 by_cases h:F≤F / 64*64+j <;> simp [h,hj] <;> omega
theorem next_more{ws:List Nat}{F A:Nat}(h:NextInv ws F A 0)(hx:ws.getD (A+1) 0<18446744073709551616)(hA:A+1<ws.length):NextInv ws F (A+1) (ws.getD (A+1) 0):=by
 obtain⟨_,_,h3,h4,hF⟩:=h
 refine⟨hA,hx,fun j hj=>?_,fun j h1 h2=>?_,by omega⟩
 ·rw [wbit_at _ _ _ hj,show decide (F≤(A+1)*64+j)=true by simp;omega,Bool.and_true]
 ·rcases Nat.lt_or_ge j (A*64)with hj | hj
  ·exact h4 j h1 hj
  ·have:=h3 (j-A*64) (by omega)
   rw [show A*64+(j-A*64)=j by omega,Nat.zero_testBit]at this
   simpa [h1] using this.symm
theorem next_out{ws:List Nat}{F A:Nat}(h:NextInv ws F A 0)(hA:A+1=ws.length)(htop:∀j,ws.length*64≤j→wbit ws j=false):NextIs ws F (-1):=by
 obtain⟨_,_,h3,h4,_⟩:=h
 refine .inl ⟨rfl,fun j hj=>?_⟩
 have hj':F≤j:=by omega
 rcases Nat.lt_or_ge j (A*64)with h1 | h1
 ·exact h4 j hj' h1
 ·rcases Nat.lt_or_ge j (ws.length*64)with h2 | h2
  ·have:=h3 (j-A*64) (by omega)
   rw [show A*64+(j-A*64)=j by omega,Nat.zero_testBit]at this
   simpa [hj'] using this.symm
  ·exact htop j h2
theorem next_hit{ws:List Nat}{F A X:Nat}(h:NextInv ws F A X)(h0:0<X):NextIs ws F ((A:Int)*64+(Lib.ctz 64 X:Nat)):=by
 obtain⟨_,h2,h3,h4,_⟩:=h
 obtain⟨c1,c2,c3⟩:=ctz_low X h0 h2
 have e:=h3 _ c1
 rw [c2]at e
 have e':=e.symm
 rw [Bool.and_eq_true,decide_eq_true_eq]at e'
 refine .inr ⟨A*64+Lib.ctz 64 X,by omega,by omega,e'.1,fun j hj hlt=>?_⟩
 have hj':F≤j:=by omega
 rcases Nat.lt_or_ge j (A*64)with h1 | h1
 ·exact h4 j hj' h1
 ·have:=h3 (j-A*64) (by omega)
  rw [show A*64+(j-A*64)=j by omega,c3 _ (by omega)]at this
  simpa [hj'] using this.symm
theorem hi_wrap(F:Nat):IntKind.u64.wrap (18446744073709551615*2 ^ min (IntKind.u64.wrap (bits BinOp.and IntKind.i64 (F:Int) 63)).toNat 64)=((hi (F % 64):Nat):Int):=by
 rw [i64_and63,IntKind.wrap_u64 ((F:Int) % 64),show((F:Int) % 64 % 18446744073709551616).toNat=F % 64 by omega,Nat.min_eq_left (by omega),u64_hi]
theorem next_from{w:World}{bs bw n:Nat}{ws:List Nat}(h:BSet w bs bw n ws)(hT:Tab w)(i:Int)(F:Nat)(hFi:(F:Int)=max i 0) :
  Calls Tryz.prog 106 #[.pointer (some ⟨bs,0,none⟩),.int .i64 i] w (NextPost ws F w):=by
 have hmax:=h.max
 have hlen:=h.len
 have hlm:ws.length≤65536:=by omega
 have HT:=hide hT
 clear hT
 have hm:=hide (may_any h (F:Int))
 by_cases hF:F<n
 ·have hb:mayI n (F:Int)=true:=by simp [mayI];omega
  have hk:F / 64<ws.length:=by omega
  have h1:=h.c1
  have hw:=h.cw hk
  have hx:=h.ok (F / 64)
  have H:=hide h
  have htop:Hid (∀j,ws.length*64≤j→wbit ws j=false):=fun j hj=>h.top j (by omega)
  have HI0:=next_start h.ok hk
  have E0:Hid (bits BinOp.and IntKind.u64 ((ws.getD (F / 64) 0:Nat):Int) (IntKind.u64.wrap (18446744073709551615*2 ^ min (IntKind.u64.wrap (bits BinOp.and IntKind.i64 (F:Int) 63)).toNat 64))=((ws.getD (F / 64) 0 &&& hi (F % 64):Nat):Int)):=by
   rw [hi_wrap];exact u64_and_nat _ _ hx (hi_lt _)
  have HI0':=hide HI0
  generalize ws.getD (F / 64) 0=x at *
  by_cases h0:0≤i
  ·obtain rfl:i=(F:Int):=by omega
   clear h hlen hFi HI0
   go_enter Tryz.func106,Tryz.ntmps106
   go_wp2_with (go_at_call 100;refine(hm.out).mono ?_;rintro e w' ⟨rfl,rfl⟩)
   go_loop [6,7] (fun a x=>∃A X:Nat,a=.int .i64 A∧x=.int .u64 X∧NextInv ws F A X) (fun a _=>ws.length-(intOf a).toNat)
   case atStart=>exact⟨F / 64,_,by go_num,congrArg (Value.int .u64) E0.out,HI0'.out⟩
   case round=>
    obtain⟨A,X,rfl,rfl,hinv⟩:=hrel
    have hA:=hinv.1
    have hX:=hinv.2.1
    have HV:=hide hinv
    clear hinv
    by_cases hx0:X=0
    ·subst hx0
     by_cases hl:A+1=ws.length
     ·have hl':((A:Int)+1==(ws.length:Int))=true:=by rw [beq_iff_eq];omega
      have HN:Hid (NextIs ws F (-1)):=next_out HV.out hl htop.out
      go_wp2
      go_ret
      exact⟨-1,rfl,rfl,HN⟩
     ·have hl':((A:Int)+1==(ws.length:Int))=false:=by rw [beq_eq_false_iff_ne];omega
      have hA1:A+1<ws.length:=by omega
      have hw1:=H.out.cw hA1
      have HV1:=hide (next_more HV.out (H.out.ok (A+1)) hA1)
      generalize ws.getD (A+1) 0=y at *
      clear hl
      go_wp2
      go_round
      case rel=>exact⟨A+1,y,by go_num,rfl,HV1.out⟩
      case measure=>simp [intOf];omega
    ·have hx0':((X:Int)==0)=false:=by rw [beq_eq_false_iff_ne];omega
     have hx1:0<X:=by omega
     have HN:=hide (next_hit HV.out hx1)
     have hc:Lib.ctz 64 X<64:=(ctz_low X hx1 hX).1
     have ht:=hide (tz_any X hX hx1 w HT.out)
     clear hx0
     generalize Lib.ctz 64 X=c at *
     go_wp2_with (go_at_call 102;refine(ht.out).mono ?_;rintro e w' ⟨rfl,rfl⟩)
     go_ret
     exact⟨_,rfl,rfl,HN.out⟩
  ·obtain rfl:F=0:=by omega
   have hb':mayI n 0=true:=hb
   have hw':w.cell? ⟨bw,0,none⟩=some (.int .u64 (x:Int)):=hw
   clear h hlen hFi hb hw HI0
   go_enter Tryz.func106,Tryz.ntmps106
   go_wp2_with (go_at_call 100;refine(hm.out).mono ?_;rintro e w' ⟨rfl,rfl⟩)
   go_loop [6,7] (fun a x=>∃A X:Nat,a=.int .i64 A∧x=.int .u64 X∧NextInv ws 0 A X) (fun a _=>ws.length-(intOf a).toNat)
   case atStart=>exact⟨0,_,rfl,congrArg (Value.int .u64) E0.out,HI0'.out⟩
   case round=>
    obtain⟨A,X,rfl,rfl,hinv⟩:=hrel
    have hA:=hinv.1
    have hX:=hinv.2.1
    have HV:=hide hinv
    clear hinv
    by_cases hx0:X=0
    ·subst hx0
     by_cases hl:A+1=ws.length
     ·have hl':((A:Int)+1==(ws.length:Int))=true:=by rw [beq_iff_eq];omega
      have HN:Hid (NextIs ws 0 (-1)):=next_out HV.out hl htop.out
      go_wp2
      go_ret
      exact⟨-1,rfl,rfl,HN⟩
     ·have hl':((A:Int)+1==(ws.length:Int))=false:=by rw [beq_eq_false_iff_ne];omega
      have hA1:A+1<ws.length:=by omega
      have hw1:=H.out.cw hA1
      have HV1:=hide (next_more HV.out (H.out.ok (A+1)) hA1)
      generalize ws.getD (A+1) 0=y at *
      clear hl
      go_wp2
      go_round
      case rel=>exact⟨A+1,y,by go_num,rfl,HV1.out⟩
      case measure=>simp [intOf];omega
    ·have hx0':((X:Int)==0)=false:=by rw [beq_eq_false_iff_ne];omega
     have hx1:0<X:=by omega
     have HN:=hide (next_hit HV.out hx1)
     have hc:Lib.ctz 64 X<64:=(ctz_low X hx1 hX).1
     have ht:=hide (tz_any X hX hx1 w HT.out)
     clear hx0
     generalize Lib.ctz 64 X=c at *
     go_wp2_with (go_at_call 102;refine(ht.out).mono ?_;rintro e w' ⟨rfl,rfl⟩)
     go_ret
     exact⟨_,rfl,rfl,HN.out⟩
 ·have hb:mayI n (F:Int)=false:=by simp [mayI];omega
  have HN:Hid (NextIs ws F (-1)):=.inl ⟨rfl,fun j hj=>h.top j (by omega)⟩
  by_cases h0:0≤i
  ·obtain rfl:i=(F:Int):=by omega
   clear h hlen hFi
   go_enter Tryz.func106,Tryz.ntmps106
   go_wp2_with (go_at_call 100;refine(hm.out).mono ?_;rintro e w' ⟨rfl,rfl⟩)
   go_ret
   exact⟨-1,rfl,rfl,HN⟩
  ·obtain rfl:F=0:=by omega
   have hb':mayI n 0=false:=hb
   clear h hlen hFi hb
   go_enter Tryz.func106,Tryz.ntmps106
   go_wp2_with (go_at_call 100;refine(hm.out).mono ?_;rintro e w' ⟨rfl,rfl⟩)
   go_ret
   exact⟨-1,rfl,rfl,HN⟩
theorem next_any{w:World}{bs bw n:Nat}{ws:List Nat}(h:BSet w bs bw n ws)(hT:Tab w)(i:Int) :
  Calls Tryz.prog 106 #[.pointer (some ⟨bs,0,none⟩),.int .i64 i] w (NextPost ws i w):=by
 refine(next_from h hT i (max i 0).toNat (by omega)).mono ?_
 rintro e w' ⟨r,rfl,rfl,hr⟩
 refine⟨r,rfl,rfl,?_⟩
 rcases hr with⟨rfl,hr⟩ | ⟨R,rfl,h1,h2,h3⟩
 ·exact .inl ⟨rfl,fun j hj=>hr j (by omega)⟩
 ·exact .inr ⟨R,rfl,by omega,h2,fun j a b=>h3 j (by omega) b⟩
def cntR(ws:List Nat)(f t:Int):Nat:=cnt (fun j=>wbit ws j&&decide (f≤(j:Int)∧(j:Int)<t)) 0 (ws.length*64)
def cntTo(ws:List Nat)(f t:Int)(A:Nat):Nat:=cnt (fun j=>wbit ws j&&decide (f≤(j:Int)∧(j:Int)<t)) 0 (A*64)
theorem cnt_step(ws:List Nat)(f t:Int)(A:Nat):cntTo ws f t (A+1)=cntTo ws f t A+pc (ws.getD A 0 &&& msk A f t):=by
 unfold cntTo
 rw [show(A+1)*64=A*64+64 by omega,cnt_add]
 congr 1
 refine cnt_congr fun j hj=>?_
 rw [Nat.testBit_and,Nat.zero_add,Nat.zero_add,(msk_is A f t).2 j hj,wbit_at _ _ _ hj]
 congr 1
theorem cntTo_zero{ws:List Nat}{f t:Int}{A:Nat}(h:(A:Int)*64≤f∨t≤0):cntTo ws f t A=0:=by
 refine cnt_none fun j hj=>?_
 rw [Nat.zero_add,Bool.and_eq_false_iff]
 right
 rw [decide_eq_false_iff_not]
 omega
theorem cntTo_far{ws:List Nat}{f t:Int}{A d:Nat}(h:∀j:Nat,A*64≤j→wbit ws j=false∨t≤j):cntTo ws f t (A+d)=cntTo ws f t A:=by
 unfold cntTo
 rw [show(A+d)*64=A*64+d*64 by omega,cnt_add,cnt_none (a:=0+A*64) (n:=d*64)]
 ·rfl
 ·intro j hj
  rcases h (0+A*64+j) (by omega)with h | h
  ·rw [h];rfl
  ·rw [Bool.and_eq_false_iff]
   right
   rw [decide_eq_false_iff_not]
   omega
theorem wbit_far{ws:List Nat}{j:Nat}(h:ws.length*64≤j):wbit ws j=false:=by
 unfold wbit
 rw [List.getD_eq_getElem?_getD,List.getElem?_eq_none (by omega)]
 exact Nat.zero_testBit _
theorem cntTo_end{ws:List Nat}{f t:Int}{A:Nat}(h:t≤(A:Int)*64):cntTo ws f t A=cntR ws f t:=by
 show _=cntTo ws f t ws.length
 rcases Nat.le_total A ws.length with hA | hA
 ·obtain⟨d,hd⟩:∃d,ws.length=A+d:=⟨ws.length-A,by omega⟩
  rw [hd]
  exact(cntTo_far fun j hj=>.inr (by omega)).symm
 ·obtain⟨d,hd⟩:∃d,A=ws.length+d:=⟨A-ws.length,by omega⟩
  rw [hd]
  exact cntTo_far fun j hj=>.inl (wbit_far hj)
theorem cntTo_len(ws:List Nat)(f t:Int)(A:Nat):cntTo ws f t A≤ws.length*64:=by
 rcases Nat.le_total A ws.length with hA | hA
 ·exact Nat.le_trans (cnt_le _ _ _) (by omega)
 ·obtain⟨d,rfl⟩:∃d,A=ws.length+d:=⟨A-ws.length,by omega⟩
  rw [cntTo_far fun j hj=>.inl (wbit_far hj)]
  exact cnt_le _ _ _
theorem pc_le(x:Nat):pc x≤64:=cnt_le _ _ _
def CountPost(ws:List Nat)(f t:Int)(w:World)(e:Ending)(w':World):Prop:=e=.returned (.int .i64 ((cntR ws f t:Nat):Int))∧∃k,w'=w.drewN k
theorem count_ft{w:World}{bs bw n:Nat}{ws:List Nat}(h:BSet w bs bw n ws)(f t:Int)(hf0:-9223372036854775808≤f)(hf1:f≤9223372036854775807)(ht0:-9223372036854775808≤t)(ht1:t≤9223372036854775807)
  (hf:0≤f) (ht:t≤(n:Int)):Calls Tryz.prog 200 #[.pointer (some ⟨bs,0,none⟩),.int .i64 f,.int .i64 t] w (CountPost ws f t w):=by
 have hmax:=h.max
 have hlen:=h.len
 have hlm:ws.length≤65536:=by omega
 have hl1:=hide (show n≤ws.length*64 by omega)
 have H:=hide h
 have h1:=h.c1
 clear h hlen
 go_enter Tryz.func200,Tryz.ntmps200
 go_wp2_with (first | (go_at_call 201;refine(len_any H.out).mono ?_;rintro e w' ⟨rfl,rfl⟩))
 go_loopw [7,8] (fun T a wr=>∃A k:Nat,a=.int .i64 A∧T=.int .u32 ((cntTo ws f t A:Nat):Int)∧f<A*64+64∧(A:Int)≤144115188075855872∧wr=w.drewN k) (fun _ a _=>((t+63) / 64-intOf a).toNat)
 case atStart=>exact⟨(f / 64).toNat,0,by go_num,by rw [cntTo_zero (by omega)];rfl,by omega,by omega,rfl⟩
 case round=>
  obtain⟨A,k,rfl,rfl,hfA,hA,rfl⟩:=hrel
  by_cases hc:(A:Int)<(t+63) / 64
  ·have hA1:A<ws.length:=by have:=hl1.out;omega
   have hA2:(A:Int)<(ws.length:Int):=by omega
   have hw:=H.out.cw hA1
   have hx:=H.out.ok A
   have ST:=hide (cnt_step ws f t A)
   have hm:=hide (between_any A f t (by omega) (by omega) (by omega) (by omega) (by omega) (by omega))
   have hml:=(msk_is A f t).1
   have hcl:=cntTo_len ws f t A
   have hcl2:cntTo ws f t A≤4194304:=by omega
   generalize cntTo ws f t A=T at *
   generalize msk (A:Int) f t=m at *
   generalize ws.getD A 0=x at *
   have e1:=u64_and_nat x m hx hml
   have hyl:x &&& m<18446744073709551616:=Nat.lt_of_le_of_lt Nat.and_le_left hx
   have hp:=pc_le (x &&& m)
   have ho:=hide (ones_any (x &&& m) hyl)
   generalize x &&& m=y at *
   generalize pc y=q at *
   clear hcl
   go_wp2_with (first | (go_at_call 130;refine(wordsBelow_any _ (by omega) (by omega) _).mono ?_;rintro e w' ⟨rfl,rfl⟩))
   go_quiet ((first | (go_at_call 203;exact quiet_add_left (hm.out _)) | (go_at_call 202;exact quiet_add_left (ho.out _))))
   go_wp2
   go_roundw
   case rel=>exact⟨A+1,k+nq,by go_num,by rw [ST.out];go_num,by omega,by omega,rfl⟩
   case measure=>simp [intOf];omega
  ·have hcl:=cntTo_len ws f t A
   have hcl2:cntTo ws f t A≤4194304:=by omega
   have HE:=hide (cntTo_end (ws:=ws) (f:=f) (t:=t) (A:=A) (by omega))
   generalize cntTo ws f t A=T at *
   go_wp2_with (first | (go_at_call 130;refine(wordsBelow_any _ (by omega) (by omega) _).mono ?_;rintro e w' ⟨rfl,rfl⟩))
   go_ret
   exact⟨ret_int (by rw [← HE.out]),k,rfl⟩
theorem count_zt{w:World}{bs bw n:Nat}{ws:List Nat}(h:BSet w bs bw n ws)(f t:Int)(hf0:-9223372036854775808≤f)(hf1:f≤9223372036854775807)(ht0:-9223372036854775808≤t)(ht1:t≤9223372036854775807)
  (hf:f<0) (ht:t≤(n:Int)):Calls Tryz.prog 200 #[.pointer (some ⟨bs,0,none⟩),.int .i64 f,.int .i64 t] w (CountPost ws 0 t w):=by
 have hmax:=h.max
 have hlen:=h.len
 have hlm:ws.length≤65536:=by omega
 have hl1:=hide (show n≤ws.length*64 by omega)
 have H:=hide h
 have h1:=h.c1
 clear h hlen
 go_enter Tryz.func200,Tryz.ntmps200
 go_wp2_with (first | (go_at_call 201;refine(len_any H.out).mono ?_;rintro e w' ⟨rfl,rfl⟩))
 go_loopw [7,8] (fun T a wr=>∃A k:Nat,a=.int .i64 A∧T=.int .u32 ((cntTo ws 0 t A:Nat):Int)∧(0:Int)<A*64+64∧(A:Int)≤144115188075855872∧wr=w.drewN k) (fun _ a _=>((t+63) / 64-intOf a).toNat)
 case atStart=>exact⟨0,0,rfl,by rw [cntTo_zero (by omega)];rfl,by omega,by omega,rfl⟩
 case round=>
  obtain⟨A,k,rfl,rfl,hfA,hA,rfl⟩:=hrel
  by_cases hc:(A:Int)<(t+63) / 64
  ·have hA1:A<ws.length:=by have:=hl1.out;omega
   have hA2:(A:Int)<(ws.length:Int):=by omega
   have hw:=H.out.cw hA1
   have hx:=H.out.ok A
   have ST:=hide (cnt_step ws 0 t A)
   have hm:=hide (between_any A 0 t (by omega) (by omega) (by omega) (by omega) (by omega) (by omega))
   have hml:=(msk_is A 0 t).1
   have hcl:=cntTo_len ws 0 t A
   have hcl2:cntTo ws 0 t A≤4194304:=by omega
   generalize cntTo ws 0 t A=T at *
   generalize msk (A:Int) 0 t=m at *
   generalize ws.getD A 0=x at *
   have e1:=u64_and_nat x m hx hml
   have hyl:x &&& m<18446744073709551616:=Nat.lt_of_le_of_lt Nat.and_le_left hx
   have hp:=pc_le (x &&& m)
   have ho:=hide (ones_any (x &&& m) hyl)
   generalize x &&& m=y at *
   generalize pc y=q at *
   clear hcl
   go_wp2_with (first | (go_at_call 130;refine(wordsBelow_any _ (by omega) (by omega) _).mono ?_;rintro e w' ⟨rfl,rfl⟩))
   go_quiet ((first | (go_at_call 203;exact quiet_add_left (hm.out _)) | (go_at_call 202;exact quiet_add_left (ho.out _))))
   go_wp2
   go_roundw
   case rel=>exact⟨A+1,k+nq,by go_num,by rw [ST.out];go_num,by omega,by omega,rfl⟩
   case measure=>simp [intOf];omega
  ·have hcl:=cntTo_len ws 0 t A
   have hcl2:cntTo ws 0 t A≤4194304:=by omega
   have HE:=hide (cntTo_end (ws:=ws) (f:=0) (t:=t) (A:=A) (by omega))
   generalize cntTo ws 0 t A=T at *
   go_wp2_with (first | (go_at_call 130;refine(wordsBelow_any _ (by omega) (by omega) _).mono ?_;rintro e w' ⟨rfl,rfl⟩))
   go_ret
   exact⟨ret_int (by rw [← HE.out]),k,rfl⟩
theorem count_fn{w:World}{bs bw n:Nat}{ws:List Nat}(h:BSet w bs bw n ws)(f t:Int)(hf0:-9223372036854775808≤f)(hf1:f≤9223372036854775807)(ht0:-9223372036854775808≤t)(ht1:t≤9223372036854775807)
  (hf:0≤f) (ht:(n:Int)<t):Calls Tryz.prog 200 #[.pointer (some ⟨bs,0,none⟩),.int .i64 f,.int .i64 t] w (CountPost ws f (n:Int) w):=by
 have hmax:=h.max
 have hlen:=h.len
 have hlm:ws.length≤65536:=by omega
 have hl1:=hide (show n≤ws.length*64 by omega)
 have H:=hide h
 have h1:=h.c1
 clear h hlen
 go_enter Tryz.func200,Tryz.ntmps200
 go_wp2_with (first | (go_at_call 201;refine(len_any H.out).mono ?_;rintro e w' ⟨rfl,rfl⟩))
 go_loopw [7,8] (fun T a wr=>∃A k:Nat,a=.int .i64 A∧T=.int .u32 ((cntTo ws f (n:Int) A:Nat):Int)∧f<A*64+64∧(A:Int)≤144115188075855872∧wr=w.drewN k) (fun _ a _=>(((n:Int)+63) / 64-intOf a).toNat)
 case atStart=>exact⟨(f / 64).toNat,0,by go_num,by rw [cntTo_zero (by omega)];rfl,by omega,by omega,rfl⟩
 case round=>
  obtain⟨A,k,rfl,rfl,hfA,hA,rfl⟩:=hrel
  by_cases hc:(A:Int)<((n:Int)+63) / 64
  ·have hA1:A<ws.length:=by have:=hl1.out;omega
   have hA2:(A:Int)<(ws.length:Int):=by omega
   have hw:=H.out.cw hA1
   have hx:=H.out.ok A
   have ST:=hide (cnt_step ws f (n:Int) A)
   have hm:=hide (between_any A f (n:Int) (by omega) (by omega) (by omega) (by omega) (by omega) (by omega))
   have hml:=(msk_is A f (n:Int)).1
   have hcl:=cntTo_len ws f (n:Int) A
   have hcl2:cntTo ws f (n:Int) A≤4194304:=by omega
   generalize cntTo ws f (n:Int) A=T at *
   generalize msk (A:Int) f (n:Int)=m at *
   generalize ws.getD A 0=x at *
   have e1:=u64_and_nat x m hx hml
   have hyl:x &&& m<18446744073709551616:=Nat.lt_of_le_of_lt Nat.and_le_left hx
   have hp:=pc_le (x &&& m)
   have ho:=hide (ones_any (x &&& m) hyl)
   generalize x &&& m=y at *
   generalize pc y=q at *
   clear hcl
   go_wp2_with (first | (go_at_call 130;refine(wordsBelow_any _ (by omega) (by omega) _).mono ?_;rintro e w' ⟨rfl,rfl⟩))
   go_quiet ((first | (go_at_call 203;exact quiet_add_left (hm.out _)) | (go_at_call 202;exact quiet_add_left (ho.out _))))
   go_wp2
   go_roundw
   case rel=>exact⟨A+1,k+nq,by go_num,by rw [ST.out];go_num,by omega,by omega,rfl⟩
   case measure=>simp [intOf];omega
  ·have hcl:=cntTo_len ws f (n:Int) A
   have hcl2:cntTo ws f (n:Int) A≤4194304:=by omega
   have HE:=hide (cntTo_end (ws:=ws) (f:=f) (t:=(n:Int)) (A:=A) (by omega))
   generalize cntTo ws f (n:Int) A=T at *
   go_wp2_with (first | (go_at_call 130;refine(wordsBelow_any _ (by omega) (by omega) _).mono ?_;rintro e w' ⟨rfl,rfl⟩))
   go_ret
   exact⟨ret_int (by rw [← HE.out]),k,rfl⟩
theorem count_zn{w:World}{bs bw n:Nat}{ws:List Nat}(h:BSet w bs bw n ws)(f t:Int)(hf0:-9223372036854775808≤f)(hf1:f≤9223372036854775807)(ht0:-9223372036854775808≤t)(ht1:t≤9223372036854775807)
  (hf:f<0) (ht:(n:Int)<t):Calls Tryz.prog 200 #[.pointer (some ⟨bs,0,none⟩),.int .i64 f,.int .i64 t] w (CountPost ws 0 (n:Int) w):=by
 have hmax:=h.max
 have hlen:=h.len
 have hlm:ws.length≤65536:=by omega
 have hl1:=hide (show n≤ws.length*64 by omega)
 have H:=hide h
 have h1:=h.c1
 clear h hlen
 go_enter Tryz.func200,Tryz.ntmps200
 go_wp2_with (first | (go_at_call 201;refine(len_any H.out).mono ?_;rintro e w' ⟨rfl,rfl⟩))
 go_loopw [7,8] (fun T a wr=>∃A k:Nat,a=.int .i64 A∧T=.int .u32 ((cntTo ws 0 (n:Int) A:Nat):Int)∧(0:Int)<A*64+64∧(A:Int)≤144115188075855872∧wr=w.drewN k) (fun _ a _=>(((n:Int)+63) / 64-intOf a).toNat)
 case atStart=>exact⟨0,0,rfl,by rw [cntTo_zero (by omega)];rfl,by omega,by omega,rfl⟩
 case round=>
  obtain⟨A,k,rfl,rfl,hfA,hA,rfl⟩:=hrel
  by_cases hc:(A:Int)<((n:Int)+63) / 64
  ·have hA1:A<ws.length:=by have:=hl1.out;omega
   have hA2:(A:Int)<(ws.length:Int):=by omega
   have hw:=H.out.cw hA1
   have hx:=H.out.ok A
   have ST:=hide (cnt_step ws 0 (n:Int) A)
   have hm:=hide (between_any A 0 (n:Int) (by omega) (by omega) (by omega) (by omega) (by omega) (by omega))
   have hml:=(msk_is A 0 (n:Int)).1
   have hcl:=cntTo_len ws 0 (n:Int) A
   have hcl2:cntTo ws 0 (n:Int) A≤4194304:=by omega
   generalize cntTo ws 0 (n:Int) A=T at *
   generalize msk (A:Int) 0 (n:Int)=m at *
   generalize ws.getD A 0=x at *
   have e1:=u64_and_nat x m hx hml
   have hyl:x &&& m<18446744073709551616:=Nat.lt_of_le_of_lt Nat.and_le_left hx
   have hp:=pc_le (x &&& m)
   have ho:=hide (ones_any (x &&& m) hyl)
   generalize x &&& m=y at *
   generalize pc y=q at *
   clear hcl
   go_wp2_with (first | (go_at_call 130;refine(wordsBelow_any _ (by omega) (by omega) _).mono ?_;rintro e w' ⟨rfl,rfl⟩))
   go_quiet ((first | (go_at_call 203;exact quiet_add_left (hm.out _)) | (go_at_call 202;exact quiet_add_left (ho.out _))))
   go_wp2
   go_roundw
   case rel=>exact⟨A+1,k+nq,by go_num,by rw [ST.out];go_num,by omega,by omega,rfl⟩
   case measure=>simp [intOf];omega
  ·have hcl:=cntTo_len ws 0 (n:Int) A
   have hcl2:cntTo ws 0 (n:Int) A≤4194304:=by omega
   have HE:=hide (cntTo_end (ws:=ws) (f:=0) (t:=(n:Int)) (A:=A) (by omega))
   generalize cntTo ws 0 (n:Int) A=T at *
   go_wp2_with (first | (go_at_call 130;refine(wordsBelow_any _ (by omega) (by omega) _).mono ?_;rintro e w' ⟨rfl,rfl⟩))
   go_ret
   exact⟨ret_int (by rw [← HE.out]),k,rfl⟩
theorem cntR_clip{ws:List Nat}{n:Nat}(htop:∀j,n≤j→wbit ws j=false){f t f' t':Int}(hf:f'=f∨(f<0∧f'=0))(ht:t'=t∨((n:Int)≤t∧t'=n)):cntR ws f' t'=cntR ws f t:=by
 refine cnt_congr fun j _=>?_
 rw [Nat.zero_add]
 rcases Nat.lt_or_ge j n with hj | hj
 ·congr 1
  rw [decide_eq_decide]
  omega
 ·rw [htop j hj];rfl
theorem count_any{w:World}{bs bw n:Nat}{ws:List Nat}(h:BSet w bs bw n ws)(f t:Int)(hf0:-9223372036854775808≤f)(hf1:f≤9223372036854775807)(ht0:-9223372036854775808≤t)(ht1:t≤9223372036854775807) :
  Calls Tryz.prog 200 #[.pointer (some ⟨bs,0,none⟩),.int .i64 f,.int .i64 t] w (CountPost ws f t w):=by
 have key:∀ {f' t':Int},(f'=f∨(f<0∧f'=0))→(t'=t∨((n:Int)≤t∧t'=n))→∀e w',CountPost ws f' t' w e w'→CountPost ws f t w e w':=by
  intro f' t' hf ht e w' hp
  unfold CountPost at *
  rw [← cntR_clip h.top hf ht]
  exact hp
 rcases(show 0≤f∨f<0 by omega)with hf | hf <;> rcases(show t≤(n:Int)∨(n:Int)<t by omega)with ht | ht
 ·exact count_ft h f t hf0 hf1 ht0 ht1 hf ht
 ·exact(count_fn h f t hf0 hf1 ht0 ht1 hf ht).mono (key (.inl rfl) (.inr ⟨by omega,rfl⟩))
 ·exact(count_zt h f t hf0 hf1 ht0 ht1 hf ht).mono (key (.inr ⟨hf,rfl⟩) (.inl rfl))
 ·exact(count_zn h f t hf0 hf1 ht0 ht1 hf ht).mono (key (.inr ⟨hf,rfl⟩) (.inr ⟨by omega,rfl⟩))
def BFilled(ws:List Nat)(n:Nat)(f t:Int)(on:Bool)(er:Int)(ws':List Nat):Prop:=
 (0≤f∧f≤t∧t≤(n:Int)∧er=0∧∀j:Nat,wbit ws' j=if f≤(j:Int)∧(j:Int)<t then on else wbit ws j) ∨
 (¬ (0≤f∧f≤t∧t≤(n:Int))∧er=2∧ws'=ws)
def FillPost(w:World)(bs bw n:Nat)(ws:List Nat)(f t:Int)(on:Bool)(e:Ending)(w':World):Prop:=
 ∃er ws',e=.returned (.int .i64 er)∧BSet w' bs bw n ws'∧Fr [bw] w w'∧BFilled ws n f t on er ws'
def FillTo(ws:List Nat)(f t:Int)(on:Bool)(A:Nat)(ws':List Nat):Prop:=
 ∀j:Nat,wbit ws' j=if f≤(j:Int)∧(j:Int)<t∧j<A*64 then on else wbit ws j
def fillw(on:Bool)(x m:Nat):Nat:=if on then x ||| m else x &&& (18446744073709551615-m)
theorem wbit_zero(L i:Nat):wbit (List.replicate L 0) i=false:=by
 unfold wbit
 rw [List.getD_eq_getElem?_getD,List.getElem?_replicate]
 split <;> exact Nat.zero_testBit _
theorem Tryz.info_u64:(Tryz.prog.info? 87).map (fun i=>(i.zero,i.size,i.bytes))=some (some (.int .u64 0),1,8):=by kernel_rfl
def NewPost(w:World)(n:Nat)(e:Ending)(w':World):Prop:=
 ∃bs bw,e=.returned (.tuple #[.pointer (some ⟨bs,0,none⟩),.int .i64 0])∧BSet w' bs bw n (List.replicate ((n+63) / 64) 0)∧Fr [] w w'∧w.heap.size≤bs∧w.heap.size≤bw
set_option maxRecDepth 100000 in
theorem sNew_any(n:Nat)(h:n≤4194304)(w:World):Calls Tryz.prog 78 #[.int .i64 (n:Int)] w (NewPost w n):=by
 obtain⟨i0,hi,hz0,hz1,hz2⟩:=info_parts Tryz.info_u64
 have hL:((n:Int)+63) / 64=((n+63) / 64:Nat):=by omega
 have hL2:(n+63) / 64≤65536:=by omega
 have hL3:=hide hL
 clear hL
 go_enter Tryz.func78,Tryz.ntmps78
 go_wp2_with (first | (go_at_call 130;refine(wordsBelow_any _ (by omega) (by omega) _).mono ?_;rintro e w' ⟨rfl,rfl⟩) | (at_make;refine wpList_make_full _ rfl _ _ 60 rfl w.heap.size 87 i0 (.int .u64 0) 1 Tryz.underlying60 hi hz0 hz1 _ _ _ _ ((n+63) / 64) rfl rfl hL3.out hL3.out (by rw [hz2];omega) (by unfold maxLen;omega) (Nat.le_refl _) ?_;intro w1 hown hgr;have HO:=hide hown;have HG:=hide hgr;clear hown hgr))
 go_ret2
 have hown:=HO.out
 rw [Nat.mul_one,made_one _ rfl]at hown
 have hb:=own_full hown
 have hlt:=hb.lt
 refine⟨w1.heap.size,w.heap.size,rfl,⟨?_,?_,by simp,h,?_,?_⟩,((Fr.refl _ _).grown HG.out (fun _ hk=>by cases hk)).alloc _,HG.out.size,Nat.le_refl _⟩
 ·rw [List.length_replicate];exact Blk.new _ _ _
 ·have:wv (List.replicate ((n+63) / 64) 0)=(List.replicate ((n+63) / 64) (Value.int .u64 0)).toArray:=by simp [wv]
  rw [this];exact hb.alloc _
 ·intro k
  rw [List.getD_eq_getElem?_getD,List.getElem?_replicate]
  split <;> decide
 ·intro i _
  exact wbit_zero _ _
def below(ws:List Nat)(b:Nat):List Nat:=(List.range b).filter (wbit ws)
def ListInv(ws:List Nat)(A X p:Nat):Prop:=p≤64∧X<18446744073709551616∧∀j,j<64→X.testBit j=(wbit ws (A*64+j)&&decide (p≤j))
def BListPost(w:World)(l:List Nat)(e:Ending)(w':World):Prop:=∃v,e=.returned v∧w'.ownsRow w.heap.size 3 1 v l.length (nums l)∧Fr [] w w'
end Go.Proofs.YteacgfeiedcdiaaGreatDoor
