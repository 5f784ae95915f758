/- Several texts joined (pack.py): Lg. -/
import Derived.Test.YtfcjdinlcehpmaaGreatDoorPW21
import Derived.Deep.CutRange
import Derived.Deep.RegionHeld3
import Derived.WalkKit
import Derived.BigQuiet
namespace Go.Proofs.YtfcjdinlcehpmaaGreatDoor
set_option linter.unusedVariables false
set_option linter.unusedSimpArgs false
set_option maxRecDepth 100000
open Go.RowKit Go.Gl HS
section
variable {W w w':World}{L:HL}{X:HX}{h:HS}{x:HT}{s k:Nat}{E:Blks}{D:Nat→Prop}{Q:World→Prop}{wb:Nat}{cs:Array Value}
set_option maxHeartbeats 1600000 in
theorem there_not(hS:Lives D Q)(H:HM W w L X h x s k E D Q)(o:Po)(hk:o.k≠3) :
  Calls Tryz.prog 6 #[.pointer (some ⟨wb,0,none⟩),opV o] w fun e w'=>e=.returned (.tuple #[.int .u64 0,.bool false])∧HM W w' L X h x s k E D Q:=by
 obtain⟨ok,a,b,c,v⟩:=o
 simp only at hk
 have hk':(ok !=3)=true:=by simpa using hk
 have HF:=hide (H.fr0 hS ((Fr.refl [] w).alloc (.cells #[.int .i64 ok,.int .i64 a,.int .i64 b,.int .i64 c,.int .u64 v] 44)))
 unfold opV
 clear H hk
 go_enter Tryz.func6,Tryz.ntmps6
 go_wp2_with fail
 go_ret2
 exact⟨rfl,HF.out⟩
set_option maxHeartbeats 3200000 in
theorem there_zero(hS:Lives D Q)(H:HM W w L X h x s k E D Q)(hm:(wb,37,cs)∈E)(h0:cs[0]?=some (.pointer (some ⟨L.hb,0,none⟩)))(ht:0<h.T)(a b c v:Int)(hr:hkAt (h.st 0) a=0) :
  Calls Tryz.prog 6 #[.pointer (some ⟨wb,0,none⟩),opV ⟨3,a,b,c,v⟩] w fun e w'=>e=.returned (.tuple #[.int .u64 0,.bool false])∧HM W w' L X h x s k E D Q:=by
 have H1:=H.alloc hS 44 #[.int .i64 3,.int .i64 a,.int .i64 b,.int .i64 c,.int .u64 v]
 have HF0:Hid (∀i,HM W ((w.alloc (.cells #[.int .i64 3,.int .i64 a,.int .i64 b,.int .i64 c,.int .u64 v] 44)).drewN i) L X h x s k ((w.heap.size,44,#[.int .i64 3,.int .i64 a,.int .i64 b,.int .i64 c,.int .u64 v])::E) D Q):=fun i=>H1.fr0 hS ((Fr.refl _ _).drewN _)
 have HAa:Hid (∀i,Calls Tryz.prog 18 #[.pointer (some ⟨L.S 0,0,none⟩),.int .i64 a] ((w.alloc (.cells #[.int .i64 3,.int .i64 a,.int .i64 b,.int .i64 c,.int .u64 v] 44)).drewN i) fun e w''=>e=.returned (.tuple #[.int .u64 (0),.int .i64 (hkAtE (h.st 0) a)])∧(w.alloc (.cells #[.int .i64 3,.int .i64 a,.int .i64 b,.int .i64 c,.int .u64 v] 44)).drewN i=w''):=fun i=>by
  have:=(HF0.out i).satw ht a
  rwa [hr]at this
 have HF1:Hid (∀i j,HM W (((w.alloc (.cells #[.int .i64 3,.int .i64 a,.int .i64 b,.int .i64 c,.int .u64 v] 44)).drewN i).drewN j) L X h x s k ((w.heap.size,44,#[.int .i64 3,.int .i64 a,.int .i64 b,.int .i64 c,.int .u64 v])::E) D Q):=fun i j=>(HF0.out i).fr0 hS ((Fr.refl _ _).drewN _)
 have HAc:Hid (∀i,Calls Tryz.prog 18 #[.pointer (some ⟨L.S 0,0,none⟩),.int .i64 c] ((w.alloc (.cells #[.int .i64 3,.int .i64 a,.int .i64 b,.int .i64 c,.int .u64 v] 44)).drewN i) fun e w''=>e=.returned (.tuple #[.int .u64 (hkAt (h.st 0) c),.int .i64 (hkAtE (h.st 0) c)])∧(w.alloc (.cells #[.int .i64 3,.int .i64 a,.int .i64 b,.int .i64 c,.int .u64 v] 44)).drewN i=w''):=fun i=>(HF0.out i).satw ht c
 have eo:h.objE 0=12:=by unfold HS.objE;rw [if_pos rfl]
 have ev:h.objV 0=Hd.zero:=by unfold HS.objV;rw [if_neg (by rw [eo];decide)]
 have HOb:Hid (∀i,Calls Tryz.prog 19 #[.pointer (some ⟨L.hb,0,none⟩),.int .u64 0] ((w.alloc (.cells #[.int .i64 3,.int .i64 a,.int .i64 b,.int .i64 c,.int .u64 v] 44)).drewN i) fun e w''=>e=.returned (.tuple #[.agg #[.int .i64 0,.int .i64 0,.int .i64 0,.int .i64 0,.int .i64 0],.int .i64 12])∧HM W w'' L X h x s k ((w.heap.size,44,#[.int .i64 3,.int .i64 a,.int .i64 b,.int .i64 c,.int .u64 v])::E) D Q):=fun i=>by
  have:=(HF0.out i).object hS (r:=0) (by decide) (by decide)
  rwa [eo,ev]at this
 have HD:Hid (∀w' w'',HM W w' L X h x s k ((w.heap.size,44,#[.int .i64 3,.int .i64 a,.int .i64 b,.int .i64 c,.int .u64 v])::E) D Q→Fr [] w' w''→HM W w'' L X h x s k E D Q):=fun w' w'' q hf=>(q.sub (fun y hy=>List.mem_cons_of_mem _ hy)).fr0 hS hf
 have hB:=H.blk hm
 have NW:=hB.lt
 have cw:w.cell? ⟨wb,0,none⟩=some (.pointer (some ⟨L.hb,0,none⟩)):=by rw [hB.cell];exact h0
 have k27:w.cell? ⟨L.hb,27,none⟩=some (.slice L.rA h.T L.rc):=H.hr.st.cell 27
 have NH:=H.hr.st.lt
 obtain⟨gb,go,hA,hG,NG,hcell,hfz,_⟩:=H.hr.row.pos (by omega)
 have hci:w.cell? ⟨gb,go,none⟩=some (.pointer (some ⟨L.S 0,0,none⟩)):=by
  have:=hcell 0 ht
  rw [Nat.add_zero]at this
  rw [this]
  unfold stkV
  simp [ht]
 rw [hA]at k27
 have ht1:(0:Int)<(h.T:Int):=by omega
 have hz:hkAtE (h.st 0) a=0∨hkAtE (h.st 0) a=10:=by unfold hkAtE;split <;> simp
 have hz2:hkAtE (h.st 0) c=0∨hkAtE (h.st 0) c=10:=by unfold hkAtE;split <;> simp
 unfold opV
 clear H H1 HF0 HF1 hB hr hcell hfz h0 hm hA hG eo ev
 generalize hkAtE (h.st 0) a=ea at *
 generalize hkAtE (h.st 0) c=ec at *
 generalize hkAt (h.st 0) c=rc at *
 go_enter Tryz.func6,Tryz.ntmps6
 go_wp2_with fail
 go_quiet ((go_at_call 18;exact quiet_left (HAa.out _)))
 go_wp2_with fail
 go_quiet ((go_at_call 18;exact quiet_add_left (HAc.out _)))
 go_wp2_with fail
 refine(HOb.out _).mono ?_
 rintro e w2 ⟨rfl,hA⟩
 have HA2:=hide hA
 have hob:=hA.blk (List.mem_cons_self ..)
 have d2:=hob.cell 2
 have NO:=hob.lt
 clear hA hob HOb HAa HAc cw hci k27
 rcases hz with rfl | rfl
 ·rcases hz2 with rfl | rfl
  ·go_wp2_with fail
   go_ret2
   exact⟨rfl,HD.out _ _ HA2.out ((Fr.refl _ _).alloc _)⟩
  ·go_wp2_with fail
   go_ret2
   exact⟨rfl,HD.out _ _ HA2.out ((Fr.refl _ _).alloc _)⟩
 ·go_wp2_with fail
  go_ret2
  exact⟨rfl,HD.out _ _ HA2.out ((Fr.refl _ _).alloc _)⟩
set_option maxHeartbeats 3200000 in
theorem there_out(hS:Lives D Q)(H:HM W w L X h x s k E D Q)(hm:(wb,37,cs)∈E)(h0:cs[0]?=some (.pointer (some ⟨L.hb,0,none⟩)))(ht:0<h.T)(hn:h.n≤4194304)(a b c v:Int){I S P:Nat}(ob:ObjAt h I S P)(hr:hkAt (h.st 0) a=(I:Int)+1)(hb:¬ (hkIn (h.st 0) c∧0≤b∧b<(P:Int))) :
  Calls Tryz.prog 6 #[.pointer (some ⟨wb,0,none⟩),opV ⟨3,a,b,c,v⟩] w fun e w'=>e=.returned (.tuple #[.int .u64 0,.bool false])∧HM W w' L X h x s k E D Q:=by
 obtain⟨hlt,hfit,hps,hmx⟩:I<h.n∧I+S≤h.n∧P<S∧S≤1048576:=⟨ob.lt,ob.fit,ob.ps,ob.max⟩
 have hia:hkIn (h.st 0) a:=by
  by_cases e:hkIn (h.st 0) a
  ·exact e
  ·exfalso;unfold hkAt at hr;rw [if_neg e]at hr;omega
 have ea:hkAtE (h.st 0) a=0:=by unfold hkAtE;rw [if_pos hia]
 have H1:=H.alloc hS 44 #[.int .i64 3,.int .i64 a,.int .i64 b,.int .i64 c,.int .u64 v]
 have HF0:Hid (∀i,HM W ((w.alloc (.cells #[.int .i64 3,.int .i64 a,.int .i64 b,.int .i64 c,.int .u64 v] 44)).drewN i) L X h x s k ((w.heap.size,44,#[.int .i64 3,.int .i64 a,.int .i64 b,.int .i64 c,.int .u64 v])::E) D Q):=fun i=>H1.fr0 hS ((Fr.refl _ _).drewN _)
 have HAa:Hid (∀i,Calls Tryz.prog 18 #[.pointer (some ⟨L.S 0,0,none⟩),.int .i64 a] ((w.alloc (.cells #[.int .i64 3,.int .i64 a,.int .i64 b,.int .i64 c,.int .u64 v] 44)).drewN i) fun e w''=>e=.returned (.tuple #[.int .u64 ((I:Int)+1),.int .i64 0])∧(w.alloc (.cells #[.int .i64 3,.int .i64 a,.int .i64 b,.int .i64 c,.int .u64 v] 44)).drewN i=w''):=fun i=>by
  have:=(HF0.out i).satw ht a
  rwa [hr,ea]at this
 have HAc:Hid (∀i,Calls Tryz.prog 18 #[.pointer (some ⟨L.S 0,0,none⟩),.int .i64 c] ((w.alloc (.cells #[.int .i64 3,.int .i64 a,.int .i64 b,.int .i64 c,.int .u64 v] 44)).drewN i) fun e w''=>e=.returned (.tuple #[.int .u64 (hkAt (h.st 0) c),.int .i64 (hkAtE (h.st 0) c)])∧(w.alloc (.cells #[.int .i64 3,.int .i64 a,.int .i64 b,.int .i64 c,.int .u64 v] 44)).drewN i=w''):=fun i=>(HF0.out i).satw ht c
 have eo:=ob.objE
 have ev:=ob.objV
 have HOb:Hid (∀i,Calls Tryz.prog 19 #[.pointer (some ⟨L.hb,0,none⟩),.int .u64 ((I:Int)+1)] ((w.alloc (.cells #[.int .i64 3,.int .i64 a,.int .i64 b,.int .i64 c,.int .u64 v] 44)).drewN i) fun e w''=>e=.returned (.tuple #[.agg #[.int .i64 1,.int .i64 (S:Int),.int .i64 (P:Int),.int .i64 (atH h.n h.f (I:Int)).age,.int .i64 0],.int .i64 0])∧HM W w'' L X h x s k ((w.heap.size,44,#[.int .i64 3,.int .i64 a,.int .i64 b,.int .i64 c,.int .u64 v])::E) D Q):=fun i=>by
  have:=(HF0.out i).object hS (r:=(I:Int)+1) (by omega) (by omega)
  rw [eo,ev]at this
  exact this
 have HD:Hid (∀w' w'',HM W w' L X h x s k ((w.heap.size,44,#[.int .i64 3,.int .i64 a,.int .i64 b,.int .i64 c,.int .u64 v])::E) D Q→Fr [] w' w''→HM W w'' L X h x s k E D Q):=fun w' w'' q hf=>(q.sub (fun y hy=>List.mem_cons_of_mem _ hy)).fr0 hS hf
 have hB:=H.blk hm
 have NW:=hB.lt
 have cw:w.cell? ⟨wb,0,none⟩=some (.pointer (some ⟨L.hb,0,none⟩)):=by rw [hB.cell];exact h0
 have k27:w.cell? ⟨L.hb,27,none⟩=some (.slice L.rA h.T L.rc):=H.hr.st.cell 27
 have NH:=H.hr.st.lt
 obtain⟨gb,go,hA,hG,NG,hcell,hfz,_⟩:=H.hr.row.pos (by omega)
 have hci:w.cell? ⟨gb,go,none⟩=some (.pointer (some ⟨L.S 0,0,none⟩)):=by
  have:=hcell 0 ht
  rw [Nat.add_zero]at this
  rw [this]
  unfold stkV
  simp [ht]
 rw [hA]at k27
 have ht1:(0:Int)<(h.T:Int):=by omega
 generalize (atH h.n h.f (I:Int)).age=ag at *
 have hway:hkAtE (h.st 0) c=10∨(hkAtE (h.st 0) c=0∧b<0)∨(hkAtE (h.st 0) c=0∧¬ b<0∧(P:Int)≤b):=by
  unfold hkAtE
  by_cases e:hkIn (h.st 0) c
  ·rw [if_pos e]
   by_cases e2:b<0
   ·exact .inr (.inl ⟨rfl,e2⟩)
   ·exact .inr (.inr ⟨rfl,e2,by by_cases e3:b<(P:Int);exact absurd ⟨e,by omega,e3⟩ hb;omega⟩)
  ·rw [if_neg e];exact .inl rfl
 unfold opV
 clear H H1 HF0 hB hr hcell hfz h0 hm hA hG eo ev ob hb hia ea
 generalize hkAtE (h.st 0) c=ec at *
 generalize hkAt (h.st 0) c=rc at *
 go_enter Tryz.func6,Tryz.ntmps6
 go_wp2_with fail
 go_quiet ((go_at_call 18;exact quiet_left (HAa.out _)))
 go_wp2_with fail
 go_quiet ((go_at_call 18;exact quiet_add_left (HAc.out _)))
 go_wp2_with fail
 refine(HOb.out _).mono ?_
 rintro e w2 ⟨rfl,hA⟩
 have HA2:=hide hA
 have hob:=hA.blk (List.mem_cons_self ..)
 have d2:=hob.cell 2
 have NO:=hob.lt
 clear hA hob HOb HAa HAc cw hci k27
 rcases hway with rfl | ⟨rfl,hw⟩ | ⟨rfl,hw,hw2⟩
 ·go_wp2_with fail
  go_ret2
  exact⟨rfl,HD.out _ _ HA2.out ((Fr.refl _ _).alloc _)⟩
 ·go_wp2_with fail
  go_ret2
  exact⟨rfl,HD.out _ _ HA2.out ((Fr.refl _ _).alloc _)⟩
 ·have hge:decide (b≥(P:Int))=true:=by simpa using hw2
  go_wp2_with fail
  go_ret2
  exact⟨rfl,HD.out _ _ HA2.out ((Fr.refl _ _).alloc _)⟩
set_option maxHeartbeats 3200000 in
theorem there_in(hS:Lives D Q)(H:HM W w L X h x s k E D Q)(hm:(wb,37,cs)∈E)(h0:cs[0]?=some (.pointer (some ⟨L.hb,0,none⟩)))(ht:0<h.T)(hn:h.n≤4194304)(a b c v:Int){I S P B:Nat}(eb:b=(B:Int))(ob:ObjAt h I S P)(hr:hkAt (h.st 0) a=(I:Int)+1)(hc:hkIn (h.st 0) c)(hb:B<P) :
  Calls Tryz.prog 6 #[.pointer (some ⟨wb,0,none⟩),opV ⟨3,a,b,c,v⟩] w fun e w'=>e=.returned (.tuple #[.int .u64 (h.f (I+1+B):Int),.bool true])∧HM W w' L X h x s k E D Q:=by
 obtain⟨hlt,hfit,hps,hmx⟩:I<h.n∧I+S≤h.n∧P<S∧S≤1048576:=⟨ob.lt,ob.fit,ob.ps,ob.max⟩
 have hia:hkIn (h.st 0) a:=by
  by_cases e:hkIn (h.st 0) a
  ·exact e
  ·exfalso;unfold hkAt at hr;rw [if_neg e]at hr;omega
 have ea:hkAtE (h.st 0) a=0:=by unfold hkAtE;rw [if_pos hia]
 have H1:=H.alloc hS 44 #[.int .i64 3,.int .i64 a,.int .i64 b,.int .i64 c,.int .u64 v]
 have HF0:Hid (∀i,HM W ((w.alloc (.cells #[.int .i64 3,.int .i64 a,.int .i64 b,.int .i64 c,.int .u64 v] 44)).drewN i) L X h x s k ((w.heap.size,44,#[.int .i64 3,.int .i64 a,.int .i64 b,.int .i64 c,.int .u64 v])::E) D Q):=fun i=>H1.fr0 hS ((Fr.refl _ _).drewN _)
 have HAa:Hid (∀i,Calls Tryz.prog 18 #[.pointer (some ⟨L.S 0,0,none⟩),.int .i64 a] ((w.alloc (.cells #[.int .i64 3,.int .i64 a,.int .i64 b,.int .i64 c,.int .u64 v] 44)).drewN i) fun e w''=>e=.returned (.tuple #[.int .u64 ((I:Int)+1),.int .i64 0])∧(w.alloc (.cells #[.int .i64 3,.int .i64 a,.int .i64 b,.int .i64 c,.int .u64 v] 44)).drewN i=w''):=fun i=>by
  have:=(HF0.out i).satw ht a
  rwa [hr,ea]at this
 have HAc:Hid (∀i,Calls Tryz.prog 18 #[.pointer (some ⟨L.S 0,0,none⟩),.int .i64 c] ((w.alloc (.cells #[.int .i64 3,.int .i64 a,.int .i64 b,.int .i64 c,.int .u64 v] 44)).drewN i) fun e w''=>e=.returned (.tuple #[.int .u64 (hkAt (h.st 0) c),.int .i64 (hkAtE (h.st 0) c)])∧(w.alloc (.cells #[.int .i64 3,.int .i64 a,.int .i64 b,.int .i64 c,.int .u64 v] 44)).drewN i=w''):=fun i=>(HF0.out i).satw ht c
 have eo:=ob.objE
 have ev:=ob.objV
 have HOb:Hid (∀i,Calls Tryz.prog 19 #[.pointer (some ⟨L.hb,0,none⟩),.int .u64 ((I:Int)+1)] ((w.alloc (.cells #[.int .i64 3,.int .i64 a,.int .i64 b,.int .i64 c,.int .u64 v] 44)).drewN i) fun e w''=>e=.returned (.tuple #[.agg #[.int .i64 1,.int .i64 (S:Int),.int .i64 (P:Int),.int .i64 (atH h.n h.f (I:Int)).age,.int .i64 0],.int .i64 0])∧HM W w'' L X h x s k ((w.heap.size,44,#[.int .i64 3,.int .i64 a,.int .i64 b,.int .i64 c,.int .u64 v])::E) D Q):=fun i=>by
  have:=(HF0.out i).object hS (r:=(I:Int)+1) (by omega) (by omega)
  rw [eo,ev]at this
  exact this
 have HD:Hid (∀w' w'',HM W w' L X h x s k ((w.heap.size,44,#[.int .i64 3,.int .i64 a,.int .i64 b,.int .i64 c,.int .u64 v])::E) D Q→Fr [] w' w''→HM W w'' L X h x s k E D Q):=fun w' w'' q hf=>(q.sub (fun y hy=>List.mem_cons_of_mem _ hy)).fr0 hS hf
 have hB:=H.blk hm
 have NW:=hB.lt
 have cw:w.cell? ⟨wb,0,none⟩=some (.pointer (some ⟨L.hb,0,none⟩)):=by rw [hB.cell];exact h0
 have k27:w.cell? ⟨L.hb,27,none⟩=some (.slice L.rA h.T L.rc):=H.hr.st.cell 27
 have NH:=H.hr.st.lt
 obtain⟨gb,go,hA,hG,NG,hcell,hfz,_⟩:=H.hr.row.pos (by omega)
 have hci:w.cell? ⟨gb,go,none⟩=some (.pointer (some ⟨L.S 0,0,none⟩)):=by
  have:=hcell 0 ht
  rw [Nat.add_zero]at this
  rw [this]
  unfold stkV
  simp [ht]
 rw [hA]at k27
 have ht1:(0:Int)<(h.T:Int):=by omega
 generalize (atH h.n h.f (I:Int)).age=ag at *
 have ec:hkAtE (h.st 0) c=0:=by unfold hkAtE;rw [if_pos hc]
 have hJ:I+1+B<h.n:=by omega
 have HL:Hid (∀w1 w',HM W w1 L X h x s k ((w.heap.size,44,#[.int .i64 3,.int .i64 a,.int .i64 b,.int .i64 c,.int .u64 v])::E) D Q→Fr [] w1 w'→Calls Tryz.prog 20 #[.pointer (some ⟨L.ab,0,none⟩),.int .i64 ((I:Int)+1+b)] w' fun e w''=>e=.returned (.tuple #[.int .u64 (h.f (I+1+B):Int),.int .i64 0])∧HM W w'' L X h x s k ((w.heap.size,44,#[.int .i64 3,.int .i64 a,.int .i64 b,.int .i64 c,.int .u64 v])::E) D Q):=fun w1 w' q hf=>by
  have:=(q.fr0 hS hf).aload hS hJ
  rw [show(I:Int)+1+b=((I+1+B:Nat):Int)by omega]
  exact this
 have hw1:IntKind.i64.wrap ((I:Int)+1)=(I:Int)+1:=IntWalk.i64_in _ ⟨by omega,by omega⟩
 have hw2:IntKind.i64.wrap ((I:Int)+1+b)=(I:Int)+1+b:=IntWalk.i64_in _ ⟨by omega,by omega⟩
 have hb1:¬ b<0:=by omega
 have hb2:decide (b≥(P:Int))=false:=by simp;omega
 have HC:Hid (∀w',HM W w' L X h x s k ((w.heap.size,44,#[.int .i64 3,.int .i64 a,.int .i64 b,.int .i64 c,.int .u64 v])::E) D Q→w'.cell? ⟨wb,0,none⟩=some (.pointer (some ⟨L.hb,0,none⟩))∧w'.cell? ⟨L.hb,20,none⟩=some (.pointer (some ⟨L.ab,0,none⟩))∧wb<w'.heap.size∧L.hb<w'.heap.size):=fun w' q=>by
  have q1:=q.blk (List.mem_cons_of_mem _ hm)
  exact⟨by rw [q1.cell];exact h0,q.hc.c20,q1.lt,q.hr.st.lt⟩
 rw [ec]at HAc
 unfold opV
 clear H H1 HF0 hB hr hcell hfz h0 hm hA hG eo ev ob hb hia ea ec hc eb hJ
 generalize (h.f (I+1+B):Int)=fv at *
 generalize hkAt (h.st 0) c=rc at *
 go_enter Tryz.func6,Tryz.ntmps6
 go_wp2_with fail
 go_quiet ((go_at_call 18;exact quiet_left (HAa.out _)))
 go_wp2_with fail
 go_quiet ((go_at_call 18;exact quiet_add_left (HAc.out _)))
 go_wp2_with fail
 refine(HOb.out _).mono ?_
 rintro e w2 ⟨rfl,hA⟩
 have HA2:=hide hA
 have hob:=hA.blk (List.mem_cons_self ..)
 have d2:=hob.cell 2
 have NO:=hob.lt
 obtain⟨m1,m2,m3,m4⟩:=HC.out _ hA
 have d2b:w2.cell? ⟨w.heap.size,2,none⟩=some (.int .i64 b):=d2
 clear hA hob HOb HAa HAc cw hci k27 HC
 go_wp2_with fail
 go_region_with ((go_at_call 20;refine(HL.out _ _ HA2.out (by first | exact((Fr.refl _ _).alloc _).drewN _ | exact((Fr.refl _ _).alloc _).drew | exact(Fr.refl _ _).alloc _)).mono ?_;rintro e w3 ⟨rfl,hA⟩;have HA3:=hide hA;clear hA))
 all_goals
  go_wp2_with fail
  go_ret2
  exact⟨rfl,HD.out _ _ HA3.out (Fr.refl _ _)⟩
end
end Go.Proofs.YtfcjdinlcehpmaaGreatDoor
