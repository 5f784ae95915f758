/- Several texts joined (pack.py): B1 Geo. -/
import Derived.Test.YtfcjdinlcehpmaaGreatDoorProg
import Derived.Test.YtfcjdinlcehpmaaGreatDoorPW00
import Derived.WalkKit
import Derived.BigQuiet
import Derived.Deep.RegionHeld3
import Derived.IntWalk
namespace Go.Proofs.YtfcjdinlcehpmaaGreatDoor
set_option maxRecDepth 100000
set_option linter.unusedVariables false
open Go.RowKit Go.Gl
theorem wordsBelow_any(n:Int)(h0:-9223372036854775808≤n)(h1:n≤4611686018427387904)(w:World) :
  Calls Tryz.prog 49 #[.int .i64 n] w fun e w'=>e=.returned (.int .i64 ((n+63) / 64))∧w=w':=by
 go_enter Tryz.func49,Tryz.ntmps49
 go_wp2
 go_ret
 exact⟨rfl,rfl⟩
theorem bit_wrap(I:Nat):IntKind.u64.wrap (2 ^ min (IntKind.u64.wrap (bits BinOp.and IntKind.i64 I 63)).toNat 64)=((2 ^ (I % 64):Nat):Int):=by
 rw [i64_and63,IntKind.wrap_u64,IntKind.wrap_u64]
 have e1:((I:Int) % 64 % 18446744073709551616).toNat=I % 64:=by omega
 rw [e1,Nat.min_eq_left (by omega)]
 have:=pow_lt64 (show I % 64<64 by omega)
 rw [show(2:Int) ^ (I % 64)=((2 ^ (I % 64):Nat):Int) from (Int.natCast_pow 2 _).symm]
 exact Int.emod_eq_of_lt (Int.natCast_nonneg _) (Int.ofNat_lt.2 this)
theorem bitOf_any(I:Nat)(w:World) :
  Calls Tryz.prog 125 #[.int .i64 (I:Int)] w fun e w'=>e=.returned (.int .u64 ((2 ^ (I % 64):Nat):Int))∧w=w':=by
 have H':=hide (bit_wrap I)
 go_enter Tryz.func125,Tryz.ntmps125
 go_wp2
 go_ret
 exact⟨ret_int H'.out,rfl⟩
def msk(a f t:Int):Nat:=
 if a*64<f then (if t<(a+1)*64 then hi (f-a*64).toNat &&& lo ((a+1)*64-t).toNat else hi (f-a*64).toNat)
 else if t<(a+1)*64 then lo ((a+1)*64-t).toNat else 18446744073709551615
def wv(ws:List Nat):Array Value:=(ws.map fun (x:Nat)=>Value.int .u64 (x:Int)).toArray
theorem wv_at(ws:List Nat)(k:Nat)(h:k<ws.length):(wv ws)[k]?=some (.int .u64 ((ws.getD k 0:Nat):Int)):=by
 simp [wv,h]
theorem wv_set(ws:List Nat)(k x:Nat):(wv ws).setIfInBounds k (.int .u64 (x:Int))=wv (ws.set k x):=by
 simp [wv]
structure BSet(w:World)(bs bw n:Nat)(ws:List Nat):Prop where
 set:Blk w bs 160 #[.int .i64 (n:Int),.slice (some ⟨bw,0,none⟩) ws.length ws.length]
 row:Blk w bw 42 (wv ws)
 len:ws.length=(n+63) / 64
 max:n≤4194304
 ok:Words ws
 top:∀i,n≤i→wbit ws i=false
section
variable {w w':World}{bs bw n:Nat}{ws:List Nat}{F:List Nat}
theorem BSet.fr(h:BSet w bs bw n ws)(hf:Fr F w w')(h1:bs∉F)(h2:bw∉F):BSet w' bs bw n ws:=
 ⟨h.set.fr hf h1,h.row.fr hf h2,h.len,h.max,h.ok,h.top⟩
theorem BSet.drewN(h:BSet w bs bw n ws)(k:Nat):BSet (w.drewN k) bs bw n ws:=⟨h.set,h.row,h.len,h.max,h.ok,h.top⟩
theorem BSet.c0(h:BSet w bs bw n ws):w.cell? ⟨bs,0,none⟩=some (.int .i64 (n:Int)):=by rw [h.set.cell];rfl
theorem BSet.c1(h:BSet w bs bw n ws):w.cell? ⟨bs,1,none⟩=some (.slice (some ⟨bw,0,none⟩) ws.length ws.length):=by rw [h.set.cell];rfl
theorem BSet.cw(h:BSet w bs bw n ws){k:Nat}(hk:k<ws.length):w.cell? ⟨bw,k,none⟩=some (.int .u64 ((ws.getD k 0:Nat):Int)):=by rw [h.row.cell,wv_at _ _ hk]
theorem BSet.ne(h:BSet w bs bw n ws):bs≠bw:=h.set.apart h.row (by decide)
end
def inSet(ws:List Nat)(i:Int):Bool:=decide (0≤i)&&wbit ws i.toNat
theorem natBne(m:Nat):((m:Int) !=0)=(m !=0):=by cases m <;> rfl
theorem u64_and_pow(x k:Nat)(hx:x<18446744073709551616)(hk:k<64):bits .and .u64 (x:Int) ((2:Int) ^ k)=((x &&& 2 ^ k:Nat):Int):=by
 have:=u64_and_nat x (2 ^ k) hx (pow_lt64 hk)
 rw [Int.natCast_pow]at this
 exact this
theorem u64_xor_pow(x k:Nat)(hx:x<18446744073709551616)(hk:k<64):bits .xor .u64 (x:Int) ((2:Int) ^ k)=((x ^^^ 2 ^ k:Nat):Int):=by
 have:=u64_xor_nat x (2 ^ k) hx (pow_lt64 hk)
 rw [Int.natCast_pow]at this
 exact this
def mayI(n:Nat)(i:Int):Bool:=decide (0≤i∧i<(n:Int))
theorem may_any{w:World}{bs bw n:Nat}{ws:List Nat}(h:BSet w bs bw n ws)(i:Int) :
  Calls Tryz.prog 123 #[.pointer (some ⟨bs,0,none⟩),.int .i64 i] w fun e w'=>e=.returned (.bool (mayI n i))∧w=w':=by
 have h0:=h.c0
 clear h
 go_enter Tryz.func123,Tryz.ntmps123
 go_wp2
 all_goals go_ret
 ·rename_i hi
  refine⟨ret_bool ?_,rfl⟩
  simp [mayI,hi]
 ·rename_i hi
  refine⟨ret_bool ?_,rfl⟩
  simp [mayI];omega
theorem has_any{w:World}{bs bw n:Nat}{ws:List Nat}(h:BSet w bs bw n ws)(i:Int) :
  Calls Tryz.prog 124 #[.pointer (some ⟨bs,0,none⟩),.int .i64 i] w fun e w'=>e=.returned (.bool (inSet ws i))∧∃k,w'=w.drewN k:=by
 by_cases hi:0≤i∧i<(n:Int)
 ·obtain⟨hi0,hi1⟩:=hi
  obtain⟨I,rfl⟩:=Int.eq_ofNat_of_zero_le hi0
  have hlen:=h.len
  have hmax:=h.max
  have hk:I / 64<ws.length:=by omega
  have h1:=h.c1
  have hw:=h.cw hk
  have hx:=h.ok (I / 64)
  have hm:∀W,BSet W bs bw n ws→Calls Tryz.prog 123 #[.pointer (some ⟨bs,0,none⟩),.int .i64 (I:Int)] W fun e w'=>e=.returned (.bool true)∧W=w':=by
   intro W hW
   have:=may_any hW (I:Int)
   rw [show mayI n (I:Int)=true by simp [mayI];omega]at this
   exact this
  have hin:inSet ws (I:Int)=((ws.getD (I / 64) 0 &&& 2 ^ (I % 64)) !=0):=by
   rw [and_pow_ne];simp [inSet,wbit]
  rw [hin]
  generalize ws.getD (I / 64) 0=x at *
  have HM:=hide hm
  have HS:=hide h
  clear hm h hin hlen
  have e1:=hide (u64_and_pow x (I % 64) hx (by omega))
  go_enter Tryz.func124,Tryz.ntmps124
  go_wp2_with fail
  go_quiet ((first | (go_at_call 123;exact quiet_left (HM.out _ (HS.out.drewN _))) | (go_at_call 125;exact quiet_left (bitOf_any _ _))))
  go_wp2
  go_ret
  refine⟨ret_bool ?_,_,rfl⟩
  rw [e1.out]
  exact natBne _
 ·have hout:inSet ws i=false:=by
   unfold inSet
   by_cases h0:0≤i
   ·simp [h0,h.top i.toNat (by omega)]
   ·simp [h0]
  rw [hout]
  have hm:∀W,BSet W bs bw n ws→Calls Tryz.prog 123 #[.pointer (some ⟨bs,0,none⟩),.int .i64 i] W fun e w'=>e=.returned (.bool false)∧W=w':=by
   intro W hW
   have:=may_any hW i
   rw [show mayI n i=false by simp only [mayI,decide_eq_false_iff_not];exact hi]at this
   exact this
  have HM:=hide hm
  have HS:=hide h
  clear hm h hout hi
  go_enter Tryz.func124,Tryz.ntmps124
  go_wp2_with fail
  go_quiet ((go_at_call 123;exact quiet_left (HM.out _ (HS.out.drewN _))))
  go_wp2
  go_ret
  exact⟨rfl,_,rfl⟩
def Turned(ws:List Nat)(n:Nat)(i:Int)(on c:Bool)(er:Int)(ws':List Nat):Prop:=
 (0≤i∧i<(n:Int)∧er=0∧c=(wbit ws i.toNat !=on)∧∀j:Nat,wbit ws' j=if j=i.toNat then on else wbit ws j) ∨
 (¬ (0≤i∧i<(n:Int))∧er=2∧c=false∧ws'=ws)
def TurnPost(w:World)(bs bw n:Nat)(ws:List Nat)(i:Int)(on:Bool)(e:Ending)(w':World):Prop:=
 ∃c er ws',e=.returned (.tuple #[.bool c,.int .i64 er])∧BSet w' bs bw n ws'∧Fr [bw] w w'∧Turned ws n i on c er ws'
theorem turned_ws{ws:List Nat}{n I:Nat}{on:Bool}(hI:I<n)(hl:ws.length=(n+63) / 64)(hc:(wbit ws I==on)=false)(j:Nat) :
  wbit (ws.set (I / 64) (ws.getD (I / 64) 0 ^^^ 2 ^ (I % 64))) j=if j=I then on else wbit ws j:=by
 rw [wbit_set (by omega)]
 have hon:(!(wbit ws I))=on:=by revert hc;cases wbit ws I <;> cases on <;> simp
 by_cases hj:j / 64=I / 64
 ·rw [if_pos hj,xor_pow_bit]
  by_cases hm:I % 64=j % 64
  ·have:j=I:=by omega
   subst this
   rw [if_pos rfl,if_pos rfl,← hon];rfl
  ·rw [if_neg hm,if_neg (by rintro rfl;exact hm rfl)]
   unfold wbit;rw [hj]
 ·rw [if_neg hj,if_neg (by rintro rfl;exact hj rfl)]
theorem bset_turn{w:World}{bs bw n:Nat}{ws:List Nat}(h:BSet w bs bw n ws){I:Nat}{on:Bool}(hI:I<n)(hc:(wbit ws I==on)=false) :
  BSet (w.setCell ⟨bw,I / 64,none⟩ (.int .u64 ((ws.getD (I / 64) 0 ^^^ 2 ^ (I % 64):Nat):Int))) bs bw n (ws.set (I / 64) (ws.getD (I / 64) 0 ^^^ 2 ^ (I % 64))):=by
 refine⟨?_,?_,?_,h.max,words_set h.ok ?_,fun j hj=>?_⟩
 ·rw [List.length_set];exact h.set.far (p:=⟨bw,I / 64,none⟩) h.ne _
 ·have:=h.row.put (I / 64) (.int .u64 ((ws.getD (I / 64) 0 ^^^ 2 ^ (I % 64):Nat):Int))
  rw [wv_set]at this;exact this
 ·rw [List.length_set];exact h.len
 ·exact Nat.xor_lt_two_pow (n:=64) (h.ok _) (pow_lt64 (by omega))
 ·rw [turned_ws hI h.len hc,if_neg (by omega)];exact h.top j hj
set_option maxRecDepth 100000 in
theorem turn_any{w:World}{bs bw n:Nat}{ws:List Nat}(h:BSet w bs bw n ws)(i:Int)(on:Bool) :
  Calls Tryz.prog 111 #[.pointer (some ⟨bs,0,none⟩),.int .i64 i,.bool on] w (TurnPost w bs bw n ws i on):=by
 by_cases hi:0≤i∧i<(n:Int)
 ·obtain⟨hi0,hi1⟩:=hi
  obtain⟨I,rfl⟩:=Int.eq_ofNat_of_zero_le hi0
  have hlen:=h.len
  have hmax:=h.max
  have hk:I / 64<ws.length:=by omega
  have hI':I<n:=by omega
  have hm:=hide (may_any h (I:Int))
  have hb:mayI n (I:Int)=true:=by simp [mayI];omega
  have hin:inSet ws (I:Int)=wbit ws I:=by simp [inSet]
  by_cases hc:(wbit ws I==on)=true
  ·have HS:=hide h
   clear h hlen
   go_enter Tryz.func111,Tryz.ntmps111
   go_wp2_with (first | (go_at_call 123;refine(hm.out).mono ?_;rintro e w' ⟨rfl,rfl⟩) | (go_at_call 124;refine(has_any HS.out _).mono ?_;rintro e w' ⟨rfl,nq,rfl⟩))
   go_ret2
   have hc':wbit ws I=on:=by simpa using hc
   refine⟨false,0,ws,rfl,HS.out.drewN _,(Fr.refl _ _).drewN _,.inl ⟨hi0,hi1,rfl,?_,fun j=>?_⟩⟩
   ·rw [Int.toNat_natCast,hc'];simp
   ·rw [Int.toNat_natCast]
    split
    ·rename_i hj;rw [hj,hc']
    ·rfl
  ·have hcf:(wbit ws I==on)=false:=by simpa using hc
   have HB:=hide (bset_turn (w:=w) h hI' hcf)
   have HS:=hide h
   have h1:=h.c1
   have hw:=h.cw hk
   have hx:=h.ok (I / 64)
   have hfz:=h.row.frozen (I / 64)
   have HT:=hide (turned_ws hI' hlen hcf)
   generalize hX:ws.getD (I / 64) 0=x at *
   have e1:=hide (u64_xor_pow x (I % 64) hx (by omega))
   clear h hlen hc hX
   go_enter Tryz.func111,Tryz.ntmps111
   go_wp2_with (first | (go_at_call 123;refine(hm.out).mono ?_;rintro e w' ⟨rfl,rfl⟩) | (go_at_call 124;refine(has_any HS.out _).mono ?_;rintro e w' ⟨rfl,nq,rfl⟩))
   have hb1:(0:Int)≤(I:Int) / 64:=by omega
   have hb2:(I:Int) / 64<(ws.length:Int):=by omega
   have hb3:((I:Int) / 64).toNat=I / 64:=by omega
   refine region_tail 12 (by kernel_rfl) (by kernel_rfl) ?_
   simp only [List.take_succ_cons,List.take_zero,List.drop_succ_cons,List.drop_zero]
   repeat still_step
   still_call (call_right (bitOf_any _ _))
   repeat still_step
   refine wpStill_nil ?_
   go_wp2
   go_ret2
   rw [e1.out]
   exact⟨true,0,_,rfl,(HB.out).drewN _,((Fr.refl _ _).setCell (p:=⟨bw,I / 64,none⟩) (.inl (by simp)) _).drewN _,.inl ⟨hi0,hi1,rfl,by rw [Int.toNat_natCast];simpa using hcf,by rw [Int.toNat_natCast];exact HT.out⟩⟩
 ·have hm:=hide (may_any h i)
  have hb:mayI n i=false:=by simp only [mayI,decide_eq_false_iff_not];exact hi
  have HS:=hide h
  have HI:=hide hi
  clear h hi
  go_enter Tryz.func111,Tryz.ntmps111
  go_wp2_with (first | (go_at_call 123;refine(hm.out).mono ?_;rintro e w' ⟨rfl,rfl⟩))
  go_ret2
  exact⟨false,2,ws,rfl,HS.out,Fr.refl _ _,.inr ⟨HI.out,rfl,rfl,rfl⟩⟩
theorem put_any{w:World}{bs bw n:Nat}{ws:List Nat}(h:BSet w bs bw n ws)(i:Int) :
  Calls Tryz.prog 98 #[.pointer (some ⟨bs,0,none⟩),.int .i64 i] w (TurnPost w bs bw n ws i true):=by
 have H:=hide h
 clear h
 go_enter Tryz.func98,Tryz.ntmps98
 go_wp2_with (go_at_call 111;refine(turn_any H.out i true).mono ?_;rintro e w' ⟨c,er,ws',rfl,hb,hf,ht⟩)
 go_ret2
 exact⟨c,er,ws',rfl,hb,hf,ht⟩
def NextIs(ws:List Nat)(i r:Int):Prop:=
 (r=-1∧∀j:Nat,i≤j→wbit ws j=false)∨∃R:Nat,r=(R:Int)∧i≤R∧wbit ws R=true∧∀j:Nat,i≤j→j<R→wbit ws j=false
def NextPost(ws:List Nat)(i:Int)(w:World)(e:Ending)(w':World):Prop:=∃r:Int,e=.returned (.int .i64 r)∧w=w'∧NextIs ws i r
def NextInv(ws:List Nat)(F A X:Nat):Prop:=
 A<ws.length∧X<18446744073709551616∧(∀j,j<64→X.testBit j=(wbit ws (A*64+j)&&decide (F≤A*64+j)))∧(∀j,F≤j→j<A*64→wbit ws j=false)∧F<A*64+64
def cntR(ws:List Nat)(f t:Int):Nat:=cnt (fun j=>wbit ws j&&decide (f≤(j:Int)∧(j:Int)<t)) 0 (ws.length*64)
def cntTo(ws:List Nat)(f t:Int)(A:Nat):Nat:=cnt (fun j=>wbit ws j&&decide (f≤(j:Int)∧(j:Int)<t)) 0 (A*64)
def CountPost(ws:List Nat)(f t:Int)(w:World)(e:Ending)(w':World):Prop:=e=.returned (.int .i64 ((cntR ws f t:Nat):Int))∧∃k,w'=w.drewN k
def BFilled(ws:List Nat)(n:Nat)(f t:Int)(on:Bool)(er:Int)(ws':List Nat):Prop:=
 (0≤f∧f≤t∧t≤(n:Int)∧er=0∧∀j:Nat,wbit ws' j=if f≤(j:Int)∧(j:Int)<t then on else wbit ws j) ∨
 (¬ (0≤f∧f≤t∧t≤(n:Int))∧er=2∧ws'=ws)
def FillPost(w:World)(bs bw n:Nat)(ws:List Nat)(f t:Int)(on:Bool)(e:Ending)(w':World):Prop:=
 ∃er ws',e=.returned (.int .i64 er)∧BSet w' bs bw n ws'∧Fr [bw] w w'∧BFilled ws n f t on er ws'
def FillTo(ws:List Nat)(f t:Int)(on:Bool)(A:Nat)(ws':List Nat):Prop:=
 ∀j:Nat,wbit ws' j=if f≤(j:Int)∧(j:Int)<t∧j<A*64 then on else wbit ws j
def fillw(on:Bool)(x m:Nat):Nat:=if on then x ||| m else x &&& (18446744073709551615-m)
theorem wbit_zero(L i:Nat):wbit (List.replicate L 0) i=false:=by
 unfold wbit
 rw [List.getD_eq_getElem?_getD,List.getElem?_replicate]
 split <;> exact Nat.zero_testBit _
theorem Tryz.info_u64:(Tryz.prog.info? 42).map (fun i=>(i.zero,i.size,i.bytes))=some (some (.int .u64 0),1,8):=by kernel_rfl
def NewPost(w:World)(n:Nat)(e:Ending)(w':World):Prop:=
 ∃bs bw,e=.returned (.tuple #[.pointer (some ⟨bs,0,none⟩),.int .i64 0])∧BSet w' bs bw n (List.replicate ((n+63) / 64) 0)∧Fr [] w w'∧w.heap.size≤bs∧w.heap.size≤bw
set_option maxRecDepth 100000 in
theorem sNew_any(n:Nat)(h:n≤4194304)(w:World):Calls Tryz.prog 29 #[.int .i64 (n:Int)] w (NewPost w n):=by
 obtain⟨i0,hi,hz0,hz1,hz2⟩:=info_parts Tryz.info_u64
 have hL:((n:Int)+63) / 64=((n+63) / 64:Nat):=by omega
 have hL2:(n+63) / 64≤65536:=by omega
 have hL3:=hide hL
 clear hL
 go_enter Tryz.func29,Tryz.ntmps29
 go_wp2_with (first | (go_at_call 49;refine(wordsBelow_any _ (by omega) (by omega) _).mono ?_;rintro e w' ⟨rfl,rfl⟩) | (at_make;refine wpList_make_full _ rfl _ _ 136 rfl w.heap.size 42 i0 (.int .u64 0) 1 Tryz.underlying136 hi hz0 hz1 _ _ _ _ ((n+63) / 64) rfl rfl hL3.out hL3.out (by rw [hz2];omega) (by unfold maxLen;omega) (Nat.le_refl _) ?_;intro w1 hown hgr;have HO:=hide hown;have HG:=hide hgr;clear hown hgr))
 go_ret2
 have hown:=HO.out
 rw [Nat.mul_one,made_one _ rfl]at hown
 have hb:=own_full hown
 have hlt:=hb.lt
 refine⟨w1.heap.size,w.heap.size,rfl,⟨?_,?_,by simp,h,?_,?_⟩,((Fr.refl _ _).grown HG.out (fun _ hk=>by cases hk)).alloc _,HG.out.size,Nat.le_refl _⟩
 ·rw [List.length_replicate];exact Blk.new _ _ _
 ·have:wv (List.replicate ((n+63) / 64) 0)=(List.replicate ((n+63) / 64) (Value.int .u64 0)).toArray:=by simp [wv]
  rw [this];exact hb.alloc _
 ·intro k
  rw [List.getD_eq_getElem?_getD,List.getElem?_replicate]
  split <;> decide
 ·intro i _
  exact wbit_zero _ _
def below(ws:List Nat)(b:Nat):List Nat:=(List.range b).filter (wbit ws)
def ListInv(ws:List Nat)(A X p:Nat):Prop:=p≤64∧X<18446744073709551616∧∀j,j<64→X.testBit j=(wbit ws (A*64+j)&&decide (p≤j))
def BListPost(w:World)(l:List Nat)(e:Ending)(w':World):Prop:=∃v,e=.returned v∧w'.ownsRow w.heap.size 3 1 v l.length (nums l)∧Fr [] w w'
end Go.Proofs.YtfcjdinlcehpmaaGreatDoor
namespace Go.Gl
open Go.RowKit Go.IntWalk
set_option linter.unusedVariables false
structure Cfg where
 (shift regions cardShift threads roots refiners markers young tenure queue stack budget percent fail:Int)
structure Geo where
 (words rw cw regions cards max:Int)
def Cfg.val(c:Cfg):Value:=.agg #[.int .i64 c.shift,.int .i64 c.regions,.int .i64 c.cardShift,.int .i64 c.threads,.int .i64 c.roots,.int .i64 c.refiners,.int .i64 c.markers,.int .i64 c.young,.int .i64 c.tenure,.int .i64 c.queue,.int .i64 c.stack,.int .i64 c.budget,.int .i64 c.percent,.int .i64 c.fail]
def Geo.val(g:Geo):Value:=.agg #[.int .i64 g.words,.int .i64 g.rw,.int .i64 g.cw,.int .i64 g.regions,.int .i64 g.cards,.int .i64 g.max]
def Geo.cells(g:Geo):Array Value:=#[.int .i64 g.words,.int .i64 g.rw,.int .i64 g.cw,.int .i64 g.regions,.int .i64 g.cards,.int .i64 g.max]
def Cfg.cells(c:Cfg):Array Value:=#[.int .i64 c.shift,.int .i64 c.regions,.int .i64 c.cardShift,.int .i64 c.threads,.int .i64 c.roots,.int .i64 c.refiners,.int .i64 c.markers,.int .i64 c.young,.int .i64 c.tenure,.int .i64 c.queue,.int .i64 c.stack,.int .i64 c.budget,.int .i64 c.percent,.int .i64 c.fail]
structure GeoAt(w:World)(b:Nat)(g:Geo):Prop where
 c0:w.cell? ⟨b,0,none⟩=some (.int .i64 g.words)
 c1:w.cell? ⟨b,1,none⟩=some (.int .i64 g.rw)
 c2:w.cell? ⟨b,2,none⟩=some (.int .i64 g.cw)
 c3:w.cell? ⟨b,3,none⟩=some (.int .i64 g.regions)
 c4:w.cell? ⟨b,4,none⟩=some (.int .i64 g.cards)
 c5:w.cell? ⟨b,5,none⟩=some (.int .i64 g.max)
theorem GeoAt.of{w:World}{b:Nat}{t:TypeId}{g:Geo}(h:Blk w b t g.cells):GeoAt w b g:=⟨h.cell 0,h.cell 1,h.cell 2,h.cell 3,h.cell 4,h.cell 5⟩
structure CfgAt(w:World)(b:Nat)(c:Cfg):Prop where
 c0:w.cell? ⟨b,0,none⟩=some (.int .i64 c.shift)
 c1:w.cell? ⟨b,1,none⟩=some (.int .i64 c.regions)
 c2:w.cell? ⟨b,2,none⟩=some (.int .i64 c.cardShift)
 c3:w.cell? ⟨b,3,none⟩=some (.int .i64 c.threads)
 c4:w.cell? ⟨b,4,none⟩=some (.int .i64 c.roots)
 c5:w.cell? ⟨b,5,none⟩=some (.int .i64 c.refiners)
 c6:w.cell? ⟨b,6,none⟩=some (.int .i64 c.markers)
 c7:w.cell? ⟨b,7,none⟩=some (.int .i64 c.young)
 c8:w.cell? ⟨b,8,none⟩=some (.int .i64 c.tenure)
 c9:w.cell? ⟨b,9,none⟩=some (.int .i64 c.queue)
 c10:w.cell? ⟨b,10,none⟩=some (.int .i64 c.stack)
 c11:w.cell? ⟨b,11,none⟩=some (.int .i64 c.budget)
 c12:w.cell? ⟨b,12,none⟩=some (.int .i64 c.percent)
 c13:w.cell? ⟨b,13,none⟩=some (.int .i64 c.fail)
theorem CfgAt.of{w:World}{b:Nat}{t:TypeId}{c:Cfg}(h:Blk w b t c.cells):CfgAt w b c:=⟨h.cell 0,h.cell 1,h.cell 2,h.cell 3,h.cell 4,h.cell 5,h.cell 6,h.cell 7,h.cell 8,h.cell 9,h.cell 10,h.cell 11,h.cell 12,h.cell 13⟩
def wiB(n lo hi:Int):Bool:=decide (lo≤n)&&decide (n≤hi)
theorem wiB_iff{n lo hi:Int}:wiB n lo hi=true↔lo≤n∧n≤hi:=by unfold wiB;simp
def pw(n:Int):Int:=((2 ^ n.toNat:Nat):Int)
theorem pw_pos(n:Int):0<pw n:=by unfold pw;exact Int.natCast_pos.2 (Nat.two_pow_pos _)
theorem pw_nat(k:Nat):pw (k:Int)=((2 ^ k:Nat):Int):=rfl
theorem pw_pow(k:Nat):(2:Int) ^ k=pw (k:Int):=by rw [pw_nat,Int.natCast_pow];rfl
theorem pw_le{a b:Int}(h:a≤b):pw a≤pw b:=by unfold pw;exact Int.ofNat_le.2 (Nat.pow_le_pow_right (by decide) (by omega))
theorem pw_add{a b:Int}(ha:0≤a)(hb:0≤b):pw (a+b)=pw a*pw b:=by
 unfold pw;rw [Int.toNat_add ha hb,Nat.pow_add];push_cast;rfl
def lieB(c:Cfg):Bool:=wiB c.shift 6 20&&(wiB c.regions 2 65536&&(decide (c.regions≤4194304 / pw c.shift)&&wiB c.cardShift 3 c.shift))
def mayB(c:Cfg):Bool:=
 lieB c&&(wiB c.threads 1 64&&(wiB c.roots 1 64&&(wiB c.refiners 0 8&&(wiB c.markers 0 8&&(wiB c.young 1 c.regions&&(wiB c.tenure 0 7&&(wiB c.queue 0 65536&&(wiB c.stack 0 65536&&(wiB c.budget 0 4194304&&(wiB c.percent 0 100&&wiB c.fail 0 65536))))))))))
theorem lieB_iff{c:Cfg}:lieB c=true↔(6≤c.shift∧c.shift≤20)∧(2≤c.regions∧c.regions≤65536)∧c.regions≤4194304 / pw c.shift∧3≤c.cardShift∧c.cardShift≤c.shift:=by
 unfold lieB;simp only [Bool.and_eq_true,wiB_iff,decide_eq_true_eq]
theorem mayB_lie{c:Cfg}(h:mayB c=true):lieB c=true:=by
 unfold mayB at h;rw [Bool.and_eq_true]at h;exact h.1
def Cfg.geo(c:Cfg):Geo:=⟨c.regions*pw c.shift,pw c.shift,pw c.cardShift,c.regions,c.regions*pw c.shift / pw c.cardShift,min 1048576 ((c.regions-1)*pw c.shift)⟩
def Geo.zero:Geo:=⟨0,0,0,0,0,0⟩
def Cfg.ans(c:Cfg):Geo:=if mayB c=true then c.geo else Geo.zero
def Cfg.err(c:Cfg):Int:=if mayB c=true then 0 else 20
structure Geo.Ok(g:Geo)(s k:Nat):Prop where
 s6:6≤s
 s20:s≤20
 k3:3≤k
 ks:k≤s
 rw:g.rw=pw s
 cw:g.cw=pw k
 r2:2≤g.regions
 r65536:g.regions≤65536
 words:g.words=g.regions*pw s
 cards:g.cards*pw k=g.words
 wmax:g.words≤4194304
 max:g.max=min 1048576 ((g.regions-1)*pw s)
theorem Geo.Ok.k20{g:Geo}{s k:Nat}(h:g.Ok s k):k≤20:=Nat.le_trans h.ks h.s20
theorem Geo.Ok.base_max{g:Geo}{s k:Nat}(h:g.Ok s k){r:Int}(h0:0≤r)(h1:r<g.regions):0≤r*g.rw∧r*g.rw≤4194304:=by
 rw [h.rw]
 have hp:=pw_pos s
 refine⟨Int.mul_nonneg h0 (Int.le_of_lt hp),Int.le_trans (Int.mul_le_mul_of_nonneg_right (Int.le_of_lt h1) (Int.le_of_lt hp)) ?_⟩
 rw [← h.words]
 exact h.wmax
theorem Geo.Ok.regions0{g:Geo}{s k:Nat}(h:g.Ok s k):0≤g.regions:=by have:=h.r2;omega
theorem Cfg.geo_ok{c:Cfg}(h:lieB c=true):c.geo.Ok c.shift.toNat c.cardShift.toNat:=by
 obtain⟨⟨h1,h2⟩,⟨h3,h4⟩,h5,h6,h7⟩:=lieB_iff.1 h
 have e1:((c.shift.toNat:Nat):Int)=c.shift:=Int.toNat_of_nonneg (by omega)
 have e2:((c.cardShift.toNat:Nat):Int)=c.cardShift:=Int.toNat_of_nonneg (by omega)
 refine⟨by omega,by omega,by omega,by omega,?_,?_,h3,h4,?_,?_,?_,?_⟩
 ·rw [e1];rfl
 ·rw [e2];rfl
 ·rw [e1];rfl
 ·rw [e2]
  show c.regions*pw c.shift / pw c.cardShift*pw c.cardShift=c.regions*pw c.shift
  have:pw c.shift=pw (c.shift-c.cardShift)*pw c.cardShift:=by rw [← pw_add (by omega) (by omega)];congr 1;omega
  refine Int.ediv_mul_cancel ?_
  rw [this,← Int.mul_assoc]
  exact Int.dvd_mul_left _ _
 ·show c.regions*pw c.shift≤4194304
  have:=Int.mul_le_mul_of_nonneg_right h5 (Int.le_of_lt (pw_pos c.shift))
  exact Int.le_trans this (Int.ediv_mul_le _ (Int.ne_of_gt (pw_pos _)))
 ·rw [e1];rfl
theorem Cfg.wraps{c:Cfg}{s k:Nat}(hl:lieB c=true)(hs:c.shift=s)(hk:c.cardShift=k) :
  wrap64 (c.regions*2 ^ s)=c.regions*pw s∧wrap64 (2 ^ s)=pw s∧wrap64 (2 ^ k)=pw k∧wrap64 ((c.regions-1)*2 ^ s)=(c.regions-1)*pw s:=by
 have ok:=Cfg.geo_ok hl
 have l:=lieB_iff.1 hl
 rw [hs,hk]at ok
 have hw:=ok.wmax
 rw [ok.words]at hw
 have e:c.geo.regions=c.regions:=rfl
 simp only [Int.toNat_natCast,e]at hw
 have p1:=pw_pos (s:Int)
 have p2:=pw_pos (k:Int)
 have l1:pw (s:Int)≤pw 20:=pw_le (by omega)
 have l2:pw (k:Int)≤pw 20:=pw_le (by omega)
 have l3:pw 20=1048576:=by decide
 have h1:0≤c.regions*pw s:=Int.mul_nonneg (by omega) (by omega)
 have h2:0≤(c.regions-1)*pw s:=Int.mul_nonneg (by omega) (by omega)
 have h3:(c.regions-1)*pw s=c.regions*pw s-pw s:=by rw [Int.sub_mul,Int.one_mul]
 rw [pw_pow,pw_pow]
 exact⟨IntWalk.wrap64_in _ ⟨by omega,by omega⟩,IntWalk.wrap64_in _ ⟨by omega,by omega⟩,IntWalk.wrap64_in _ ⟨by omega,by omega⟩,IntWalk.wrap64_in _ ⟨by omega,by omega⟩⟩
theorem Cfg.geo_val{c:Cfg}{s k:Nat}(hl:lieB c=true)(hs:c.shift=s)(hk:c.cardShift=k)(m:Int)(hm:m=if wrap64 ((c.regions-1)*2 ^ s)<1048576 then wrap64 ((c.regions-1)*2 ^ s) else 1048576) :
  (.agg #[.int .i64 (wrap64 (c.regions*2 ^ s)),.int .i64 (wrap64 (2 ^ s)),.int .i64 (wrap64 (2 ^ k)),.int .i64 c.regions,.int .i64 (wrap64 (c.regions*2 ^ s) / 2 ^ k),.int .i64 m]:Value)=c.geo.val:=by
 obtain⟨e1,e2,e3,e4⟩:=Cfg.wraps hl hs hk
 rw [e4]at hm
 rw [e1,e2,e3,hm,pw_pow,← hs,← hk]
 unfold Cfg.geo Geo.val
 have:min 1048576 ((c.regions-1)*pw c.shift)=if (c.regions-1)*pw c.shift<1048576 then (c.regions-1)*pw c.shift else 1048576:=by
  split <;> omega
 rw [this]
def Geo.regionOf(g:Geo)(a:Int):Int:=if 0≤a∧a<g.words then a / g.rw else -1
def Geo.cardOf(g:Geo)(a:Int):Int:=if 0≤a∧a<g.words then a / g.cw else -1
def Geo.crossB(g:Geo)(a b:Int):Bool:=(decide (0≤a)&&decide (a<g.words))&&((decide (0≤b)&&decide (b<g.words))&&decide (a / g.rw≠b / g.rw))
def Geo.bigB(g:Geo)(n:Int):Bool:=decide (g.rw / 2<n)
def Geo.spanOf(g:Geo)(n:Int):Int:=if n<1 then 0 else (n-1) / g.rw+1
theorem xor_shift(A B s:Nat):((A ^^^ B) / 2 ^ s=0)↔A / 2 ^ s=B / 2 ^ s:=by
 rw [← Nat.shiftRight_eq_div_pow,← Nat.shiftRight_eq_div_pow,← Nat.shiftRight_eq_div_pow,Nat.shiftRight_xor_distrib]
 refine⟨fun h=>?_,fun h=>by rw [h,Nat.xor_self]⟩
 refine Nat.eq_of_testBit_eq fun i=>?_
 have:=congrArg (fun x=>x.testBit i) h
 simpa using this
theorem i64_xor_nat(a b:Nat)(ha:a<9223372036854775808)(hb:b<9223372036854775808):bits .xor .i64 (a:Int) (b:Int)=((a ^^^ b:Nat):Int):=by
 have hx:a ^^^ b<2 ^ 63:=Nat.xor_lt_two_pow (by omega) (by omega)
 have e:∀n:Nat,n<9223372036854775808→(BitVec.ofInt 64 (n:Int)).toNat=n:=fun n hn=>by
  rw [BitVec.toNat_ofInt];omega
 show IntKind.i64.wrap ((BitVec.ofInt 64 (a:Int) ^^^ BitVec.ofInt 64 (b:Int)).toNat:Int)=_
 rw [BitVec.toNat_xor,e a ha,e b hb,IntKind.wrap_i64]
 omega
theorem xor_cross(a b:Int)(s:Nat)(a0:0≤a)(a1:a<9223372036854775808)(b0:0≤b)(b1:b<9223372036854775808) :
  (bits .xor .i64 a b / 2 ^ s !=0)=decide (a / pw s≠b / pw s):=by
 obtain⟨A,rfl⟩:=Int.eq_ofNat_of_zero_le a0
 obtain⟨B,rfl⟩:=Int.eq_ofNat_of_zero_le b0
 rw [i64_xor_nat A B (by omega) (by omega),pw_pow,pw_nat,← Int.natCast_ediv,← Int.natCast_ediv,← Int.natCast_ediv]
 have h:=xor_shift A B s
 rw [Bool.eq_iff_iff,bne_iff_ne,decide_eq_true_eq,Ne,Ne,Int.natCast_eq_zero,Int.natCast_inj,h]
theorem ctz_pow(k:Nat)(h:k<64):Lib.ctz 64 (2 ^ k)=k:=by
 obtain⟨_,h2,_⟩:=ctz_low (2 ^ k) (Nat.two_pow_pos k) (pow_lt64 h)
 rw [Nat.testBit_two_pow,decide_eq_true_eq]at h2
 exact h2.symm
end Go.Gl
