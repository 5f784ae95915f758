/- Several texts joined (pack.py): Us. -/
import Derived.Test.YtfcjdinlcehpmaaGreatDoorPW18
import Derived.Test.YtfcjdinlcehpmaaGreatDoorPW16
import Derived.WalkKit
import Derived.BigQuiet
import Derived.Deep.CutRange
import Derived.Deep.RegionHeld3
namespace Go.Proofs.YtfcjdinlcehpmaaGreatDoor
set_option linter.unusedVariables false
set_option linter.unusedSimpArgs false
set_option maxRecDepth 100000
open Go.RowKit Go.Gl HS
section
variable {P:Program}{f:FuncId}{args:Array Value}{w:World}{a n:Nat}{v:Value}
theorem quiet_more(h:Calls P f args (w.drewN n) fun e w'=>e=.returned v∧∃j,w'=(w.drewN n).drewN j):Calls P f args (w.drewN n) fun e w''=>e=.returned v∧∃m,w''=w.drewN m:=
 h.mono fun _ _ ⟨he,j,hm⟩=>⟨he,n+j,by rw [hm,World.drewN_drewN]⟩
theorem quiet_more_add(h:Calls P f args (w.drewN (a+n)) fun e w'=>e=.returned v∧∃j,w'=(w.drewN (a+n)).drewN j):Calls P f args (w.drewN (a+n)) fun e w''=>e=.returned v∧∃m,w''=w.drewN (a+m):=
 h.mono fun _ _ ⟨he,j,hm⟩=>⟨he,n+j,by rw [hm,World.drewN_drewN,Nat.add_assoc]⟩
end
section
variable {W w w':World}{L:HL}{X:HX}{h:HS}{x:HT}{s k:Nat}{E:Blks}{D:Nat→Prop}{Q:World→Prop}{mb t sb:Nat}{m:MU}
theorem HM.looked(hS:Lives D Q)(H:HM W w L X h x s k E D Q)(hr:Hr w' L h s k)(hf:Fr [L.ab] w w'):HM W w' L X h x s k E D Q:=by
 obtain⟨own,h1,h2,h3,h4⟩:=H
 obtain⟨g1,g2⟩:=h1.looked hr hf
 refine⟨own,g1,fun q hq=>?_,h3,?_⟩
 ·obtain⟨k1,k2,k3,k4⟩:=h2 q hq
  obtain⟨j1,j2⟩:=g2.blk k1 k2
  exact⟨j1,j2,k3,k4⟩
 ·obtain⟨⟨F,f1,f2⟩,_⟩:=g2
  exact hS.stay w w' F h4 f1 (fun b hb hd=>f2 b hb (h3 b hd).1)
theorem HM.object(hS:Lives D Q)(H:HM W w L X h x s k E D Q){r:Int}(h0:0≤r)(h1:r≤9223372036854775807) :
  Calls Tryz.prog 19 #[.pointer (some ⟨L.hb,0,none⟩),.int .u64 r] w fun e w'=>e=.returned (.tuple #[(h.objV r).val,.int .i64 (h.objE r)])∧HM W w' L X h x s k E D Q:=
 (hobject_any H.hr h0 h1).mono (by rintro e w' ⟨rfl,hr,hf⟩;exact⟨rfl,H.looked hS hr hf⟩)
theorem mtstack_dr{h:HS}{s k:Nat}(hB:Blk w mb 96 (muV L.hb t sb m))(hr:Hr w L h s k)(ht:t<h.T) :
  Calls Tryz.prog 56 #[.pointer (some ⟨mb,0,none⟩)] w fun e w'=>e=.returned (.pointer (some ⟨L.S t,0,none⟩))∧∃j,w'=w.drewN j:=by
 obtain⟨c0,c1,c2,c3,c4,c5,c6,c7,c8,c9,c10⟩:=muCells hB
 have k27:w.cell? ⟨L.hb,27,none⟩=some (.slice L.rA h.T L.rc):=hr.st.cell 27
 have NH:=hr.st.lt
 have NM:=hB.lt
 obtain⟨gb,go,hA,hG,NG,hcell,hfz,_⟩:=hr.row.pos (by omega)
 have hci:w.cell? ⟨gb,go+t,none⟩=some (.pointer (some ⟨L.S t,0,none⟩)):=by
  rw [hcell t ht]
  unfold stkV
  simp [ht]
 rw [hA]at k27
 have ht1:(t:Int)<(h.T:Int):=by omega
 clear hB hr hcell hfz c2 c3 c4 c5 c6 c7 c8 c9 c10
 go_enter Tryz.func56,Tryz.ntmps56
 go_wp2
 go_quiet (fail)
 go_wp2_with fail
 go_ret
 exact⟨rfl,_,rfl⟩
theorem HM.stack(hS:Lives D Q)(H:HM W w L X h x s k E D Q)(hm:(mb,96,muV L.hb t sb m)∈E)(ht:t<h.T) :
  Calls Tryz.prog 56 #[.pointer (some ⟨mb,0,none⟩)] w fun e w'=>e=.returned (.pointer (some ⟨L.S t,0,none⟩))∧∃j,w'=w.drewN j:=
 mtstack_dr (H.blk hm) H.hr ht
theorem HM.satw(H:HM W w L X h x s k E D Q){i:Nat}(hi:i<h.T)(a:Int) :
  Calls Tryz.prog 18 #[.pointer (some ⟨L.S i,0,none⟩),.int .i64 a] w fun e w'=>e=.returned (.tuple #[.int .u64 (hkAt (h.st i) a),.int .i64 (hkAtE (h.st i) a)])∧w=w':=by
 obtain⟨own,⟨tg,FS,H1,_⟩,_⟩:=H
 exact hat_any (H1.stk i hi) a
set_option maxHeartbeats 1600000 in
theorem mtfind_2_a(hS:Lives D Q)(H:HM W w L X h x s k E D Q)(hm:(mb,96,muV L.hb t sb m)∈E)(ht:t<h.T)(a b c v:Int)(ha:¬ hkIn (h.st t) a) :
  Calls Tryz.prog 83 #[.pointer (some ⟨mb,0,none⟩),opV ⟨2,a,b,c,v⟩] w fun e w'=>e=.returned (.tuple #[.int .i64 0,.int .i64 10])∧HM W w' L X h x s k E D Q:=by
 have H1:HM W (w.alloc (.cells #[.int .i64 2,.int .i64 a,.int .i64 b,.int .i64 c,.int .u64 v] 44)) L X h x s k ((w.heap.size,44,#[.int .i64 2,.int .i64 a,.int .i64 b,.int .i64 c,.int .u64 v])::E) D Q:=H.alloc hS 44 #[.int .i64 2,.int .i64 a,.int .i64 b,.int .i64 c,.int .u64 v]
 have HF0:Hid (∀i,HM W ((w.alloc (.cells #[.int .i64 2,.int .i64 a,.int .i64 b,.int .i64 c,.int .u64 v] 44)).drewN i) L X h x s k ((w.heap.size,44,#[.int .i64 2,.int .i64 a,.int .i64 b,.int .i64 c,.int .u64 v])::E) D Q):=fun i=>H1.fr0 hS ((Fr.refl _ _).drewN _)
 have HSk:Hid (∀i,Calls Tryz.prog 56 #[.pointer (some ⟨mb,0,none⟩)] ((w.alloc (.cells #[.int .i64 2,.int .i64 a,.int .i64 b,.int .i64 c,.int .u64 v] 44)).drewN i) fun e w''=>e=.returned (.pointer (some ⟨L.S t,0,none⟩))∧∃j,w''=((w.alloc (.cells #[.int .i64 2,.int .i64 a,.int .i64 b,.int .i64 c,.int .u64 v] 44)).drewN i).drewN j):=fun i=>(HF0.out i).stack hS (List.mem_cons_of_mem _ hm) ht
 have ea:hkAtE (h.st t) a=10:=by unfold hkAtE;rw [if_neg ha]
 have HAa:Hid (∀i,Calls Tryz.prog 18 #[.pointer (some ⟨L.S t,0,none⟩),.int .i64 a] ((w.alloc (.cells #[.int .i64 2,.int .i64 a,.int .i64 b,.int .i64 c,.int .u64 v] 44)).drewN i) fun e w''=>e=.returned (.tuple #[.int .u64 (hkAt (h.st t) a),.int .i64 10])∧(w.alloc (.cells #[.int .i64 2,.int .i64 a,.int .i64 b,.int .i64 c,.int .u64 v] 44)).drewN i=w''):=fun i=>by
  have:=(HF0.out i).satw ht a
  rwa [ea]at this
 have HD:Hid (∀w' w'',HM W w' L X h x s k ((w.heap.size,44,#[.int .i64 2,.int .i64 a,.int .i64 b,.int .i64 c,.int .u64 v])::E) D Q→Fr [] w' w''→HM W w'' L X h x s k E D Q):=fun w' w'' q hf=>(q.sub (fun y hy=>List.mem_cons_of_mem _ hy)).fr0 hS hf
 have NM:=(H.blk hm).lt
 have cm:w.cell? ⟨mb,0,none⟩=some (.pointer (some ⟨L.hb,0,none⟩)):=(H.blk hm).cell 0
 generalize hkAt (h.st t) a=ra at *
 unfold opV
 clear H H1 hm ht ha ea
 go_enter Tryz.func83,Tryz.ntmps83
 go_wp2_with fail
 go_quiet ((first | (go_at_call 56;exact quiet_more (HSk.out _)) | (go_at_call 18;exact quiet_left (HAa.out _))))
 go_wp2_with fail
 go_ret2
 exact⟨rfl,HD.out _ _ (HF0.out _) (Fr.refl _ _)⟩
set_option maxHeartbeats 1600000 in
theorem mtfind_2_nil(hS:Lives D Q)(H:HM W w L X h x s k E D Q)(hm:(mb,96,muV L.hb t sb m)∈E)(ht:t<h.T)(a b c v:Int)(ha:hkIn (h.st t) a)(hr:hkAt (h.st t) a=0) :
  Calls Tryz.prog 83 #[.pointer (some ⟨mb,0,none⟩),opV ⟨2,a,b,c,v⟩] w fun e w'=>e=.returned (.tuple #[.int .i64 0,.int .i64 12])∧HM W w' L X h x s k E D Q:=by
 have H1:HM W (w.alloc (.cells #[.int .i64 2,.int .i64 a,.int .i64 b,.int .i64 c,.int .u64 v] 44)) L X h x s k ((w.heap.size,44,#[.int .i64 2,.int .i64 a,.int .i64 b,.int .i64 c,.int .u64 v])::E) D Q:=H.alloc hS 44 #[.int .i64 2,.int .i64 a,.int .i64 b,.int .i64 c,.int .u64 v]
 have HF0:Hid (∀i,HM W ((w.alloc (.cells #[.int .i64 2,.int .i64 a,.int .i64 b,.int .i64 c,.int .u64 v] 44)).drewN i) L X h x s k ((w.heap.size,44,#[.int .i64 2,.int .i64 a,.int .i64 b,.int .i64 c,.int .u64 v])::E) D Q):=fun i=>H1.fr0 hS ((Fr.refl _ _).drewN _)
 have HSk:Hid (∀i,Calls Tryz.prog 56 #[.pointer (some ⟨mb,0,none⟩)] ((w.alloc (.cells #[.int .i64 2,.int .i64 a,.int .i64 b,.int .i64 c,.int .u64 v] 44)).drewN i) fun e w''=>e=.returned (.pointer (some ⟨L.S t,0,none⟩))∧∃j,w''=((w.alloc (.cells #[.int .i64 2,.int .i64 a,.int .i64 b,.int .i64 c,.int .u64 v] 44)).drewN i).drewN j):=fun i=>(HF0.out i).stack hS (List.mem_cons_of_mem _ hm) ht
 have ea:hkAtE (h.st t) a=0:=by unfold hkAtE;rw [if_pos ha]
 have HAa:Hid (∀i,Calls Tryz.prog 18 #[.pointer (some ⟨L.S t,0,none⟩),.int .i64 a] ((w.alloc (.cells #[.int .i64 2,.int .i64 a,.int .i64 b,.int .i64 c,.int .u64 v] 44)).drewN i) fun e w''=>e=.returned (.tuple #[.int .u64 (0),.int .i64 0])∧(w.alloc (.cells #[.int .i64 2,.int .i64 a,.int .i64 b,.int .i64 c,.int .u64 v] 44)).drewN i=w''):=fun i=>by
  have:=(HF0.out i).satw ht a
  rwa [ea,hr]at this
 have eo:h.objE 0=12:=by unfold HS.objE;rw [if_pos rfl]
 have ev:h.objV 0=Hd.zero:=by unfold HS.objV;rw [if_neg (by rw [eo];decide)]
 have HOb:Hid (∀i,Calls Tryz.prog 19 #[.pointer (some ⟨L.hb,0,none⟩),.int .u64 0] ((w.alloc (.cells #[.int .i64 2,.int .i64 a,.int .i64 b,.int .i64 c,.int .u64 v] 44)).drewN i) fun e w''=>e=.returned (.tuple #[.agg #[.int .i64 0,.int .i64 0,.int .i64 0,.int .i64 0,.int .i64 0],.int .i64 12])∧HM W w'' L X h x s k ((w.heap.size,44,#[.int .i64 2,.int .i64 a,.int .i64 b,.int .i64 c,.int .u64 v])::E) D Q):=fun i=>by
  have:=(HF0.out i).object hS (r:=0) (by decide) (by decide)
  rwa [eo,ev]at this
 have HD:Hid (∀w' w'',HM W w' L X h x s k ((w.heap.size,44,#[.int .i64 2,.int .i64 a,.int .i64 b,.int .i64 c,.int .u64 v])::E) D Q→Fr [] w' w''→HM W w'' L X h x s k E D Q):=fun w' w'' q hf=>(q.sub (fun y hy=>List.mem_cons_of_mem _ hy)).fr0 hS hf
 have NM:=(H.blk hm).lt
 have cm:w.cell? ⟨mb,0,none⟩=some (.pointer (some ⟨L.hb,0,none⟩)):=(H.blk hm).cell 0
 unfold opV
 clear H H1 hm ht ha ea hr eo ev
 go_enter Tryz.func83,Tryz.ntmps83
 go_wp2_with fail
 go_quiet ((first | (go_at_call 56;exact quiet_more (HSk.out _)) | (go_at_call 18;exact quiet_left (HAa.out _))))
 go_wp2_with fail
 refine(HOb.out _).mono ?_
 rintro e w2 ⟨rfl,hA⟩
 have HA2:=hide hA
 have hob:=hA.blk (List.mem_cons_self ..)
 have d0:=hob.cell 0
 have d2:=hob.cell 2
 have NO:=hob.lt
 clear hA hob HOb HSk HAa cm
 go_wp2_with fail
 go_ret2
 exact⟨rfl,HD.out _ _ HA2.out ((Fr.refl _ _).alloc _)⟩
set_option maxHeartbeats 1600000 in
theorem mtfind_2_neg(hS:Lives D Q)(H:HM W w L X h x s k E D Q)(hm:(mb,96,muV L.hb t sb m)∈E)(ht:t<h.T)(a b c v:Int)(ha:hkIn (h.st t) a){I S P:Nat}{ag:Int}(hr:hkAt (h.st t) a=(I:Int)+1)(he:h.objE ((I:Int)+1)=0)(hv:h.objV ((I:Int)+1)=⟨1,(S:Int),(P:Int),ag,0⟩)(hz:P<S∧S≤1048576∧I≤4194304)(hb:b<0) :
  Calls Tryz.prog 83 #[.pointer (some ⟨mb,0,none⟩),opV ⟨2,a,b,c,v⟩] w fun e w'=>e=.returned (.tuple #[.int .i64 0,.int .i64 11])∧HM W w' L X h x s k E D Q:=by
 have H1:HM W (w.alloc (.cells #[.int .i64 2,.int .i64 a,.int .i64 b,.int .i64 c,.int .u64 v] 44)) L X h x s k ((w.heap.size,44,#[.int .i64 2,.int .i64 a,.int .i64 b,.int .i64 c,.int .u64 v])::E) D Q:=H.alloc hS 44 #[.int .i64 2,.int .i64 a,.int .i64 b,.int .i64 c,.int .u64 v]
 have HF0:Hid (∀i,HM W ((w.alloc (.cells #[.int .i64 2,.int .i64 a,.int .i64 b,.int .i64 c,.int .u64 v] 44)).drewN i) L X h x s k ((w.heap.size,44,#[.int .i64 2,.int .i64 a,.int .i64 b,.int .i64 c,.int .u64 v])::E) D Q):=fun i=>H1.fr0 hS ((Fr.refl _ _).drewN _)
 have HSk:Hid (∀i,Calls Tryz.prog 56 #[.pointer (some ⟨mb,0,none⟩)] ((w.alloc (.cells #[.int .i64 2,.int .i64 a,.int .i64 b,.int .i64 c,.int .u64 v] 44)).drewN i) fun e w''=>e=.returned (.pointer (some ⟨L.S t,0,none⟩))∧∃j,w''=((w.alloc (.cells #[.int .i64 2,.int .i64 a,.int .i64 b,.int .i64 c,.int .u64 v] 44)).drewN i).drewN j):=fun i=>(HF0.out i).stack hS (List.mem_cons_of_mem _ hm) ht
 have ea:hkAtE (h.st t) a=0:=by unfold hkAtE;rw [if_pos ha]
 have HAa:Hid (∀i,Calls Tryz.prog 18 #[.pointer (some ⟨L.S t,0,none⟩),.int .i64 a] ((w.alloc (.cells #[.int .i64 2,.int .i64 a,.int .i64 b,.int .i64 c,.int .u64 v] 44)).drewN i) fun e w''=>e=.returned (.tuple #[.int .u64 (((I:Int)+1)),.int .i64 0])∧(w.alloc (.cells #[.int .i64 2,.int .i64 a,.int .i64 b,.int .i64 c,.int .u64 v] 44)).drewN i=w''):=fun i=>by
  have:=(HF0.out i).satw ht a
  rwa [ea,hr]at this
 have HOb:Hid (∀i,Calls Tryz.prog 19 #[.pointer (some ⟨L.hb,0,none⟩),.int .u64 ((I:Int)+1)] ((w.alloc (.cells #[.int .i64 2,.int .i64 a,.int .i64 b,.int .i64 c,.int .u64 v] 44)).drewN i) fun e w''=>e=.returned (.tuple #[.agg #[.int .i64 1,.int .i64 (S:Int),.int .i64 (P:Int),.int .i64 ag,.int .i64 0],.int .i64 0])∧HM W w'' L X h x s k ((w.heap.size,44,#[.int .i64 2,.int .i64 a,.int .i64 b,.int .i64 c,.int .u64 v])::E) D Q):=fun i=>by
  have:=(HF0.out i).object hS (r:=(I:Int)+1) (by omega) (by omega)
  rwa [he,hv]at this
 have HAd:=hide (fun w'=>maddress_any I (by omega) w')
 have HD:Hid (∀w' w'',HM W w' L X h x s k ((w.heap.size,44,#[.int .i64 2,.int .i64 a,.int .i64 b,.int .i64 c,.int .u64 v])::E) D Q→Fr [] w' w''→HM W w'' L X h x s k E D Q):=fun w' w'' q hf=>(q.sub (fun y hy=>List.mem_cons_of_mem _ hy)).fr0 hS hf
 have NM:=(H.blk hm).lt
 have cm:w.cell? ⟨mb,0,none⟩=some (.pointer (some ⟨L.hb,0,none⟩)):=(H.blk hm).cell 0
 unfold opV
 clear H H1 hm ht ha ea hr he hv
 have b1:decide (b<0)=true:=by simpa using hb
 have i1:IntKind.i64.wrap ((I:Int)+1)=(I:Int)+1:=IntWalk.i64_in _ ⟨by omega,by omega⟩
 go_enter Tryz.func83,Tryz.ntmps83
 go_wp2_with fail
 go_quiet ((first | (go_at_call 56;exact quiet_more (HSk.out _)) | (go_at_call 18;exact quiet_left (HAa.out _))))
 go_wp2_with fail
 refine(HOb.out _).mono ?_
 rintro e w2 ⟨rfl,hA⟩
 have HA2:=hide hA
 have hob:=hA.blk (List.mem_cons_self ..)
 have d0:=hob.cell 0
 have d2:=hob.cell 2
 have NO:=hob.lt
 clear hA hob HOb HSk HAa cm
 go_wp2_with fail
 go_quiet ((go_at_call 108;exact quiet_left (HAd.out _)))
 go_wp2_with fail
 go_ret2
 exact⟨rfl,HD.out _ _ HA2.out (((Fr.refl _ _).alloc _).drewN _)⟩
set_option maxHeartbeats 1600000 in
theorem mtfind_2_big(hS:Lives D Q)(H:HM W w L X h x s k E D Q)(hm:(mb,96,muV L.hb t sb m)∈E)(ht:t<h.T)(a b c v:Int)(ha:hkIn (h.st t) a){I S P:Nat}{ag:Int}(hr:hkAt (h.st t) a=(I:Int)+1)(he:h.objE ((I:Int)+1)=0)(hv:h.objV ((I:Int)+1)=⟨1,(S:Int),(P:Int),ag,0⟩)(hz:P<S∧S≤1048576∧I≤4194304)(hb:¬ b<0)(hb2:(P:Int)≤b)(hb3:b≤9223372036854775807) :
  Calls Tryz.prog 83 #[.pointer (some ⟨mb,0,none⟩),opV ⟨2,a,b,c,v⟩] w fun e w'=>e=.returned (.tuple #[.int .i64 0,.int .i64 11])∧HM W w' L X h x s k E D Q:=by
 have H1:HM W (w.alloc (.cells #[.int .i64 2,.int .i64 a,.int .i64 b,.int .i64 c,.int .u64 v] 44)) L X h x s k ((w.heap.size,44,#[.int .i64 2,.int .i64 a,.int .i64 b,.int .i64 c,.int .u64 v])::E) D Q:=H.alloc hS 44 #[.int .i64 2,.int .i64 a,.int .i64 b,.int .i64 c,.int .u64 v]
 have HF0:Hid (∀i,HM W ((w.alloc (.cells #[.int .i64 2,.int .i64 a,.int .i64 b,.int .i64 c,.int .u64 v] 44)).drewN i) L X h x s k ((w.heap.size,44,#[.int .i64 2,.int .i64 a,.int .i64 b,.int .i64 c,.int .u64 v])::E) D Q):=fun i=>H1.fr0 hS ((Fr.refl _ _).drewN _)
 have HSk:Hid (∀i,Calls Tryz.prog 56 #[.pointer (some ⟨mb,0,none⟩)] ((w.alloc (.cells #[.int .i64 2,.int .i64 a,.int .i64 b,.int .i64 c,.int .u64 v] 44)).drewN i) fun e w''=>e=.returned (.pointer (some ⟨L.S t,0,none⟩))∧∃j,w''=((w.alloc (.cells #[.int .i64 2,.int .i64 a,.int .i64 b,.int .i64 c,.int .u64 v] 44)).drewN i).drewN j):=fun i=>(HF0.out i).stack hS (List.mem_cons_of_mem _ hm) ht
 have ea:hkAtE (h.st t) a=0:=by unfold hkAtE;rw [if_pos ha]
 have HAa:Hid (∀i,Calls Tryz.prog 18 #[.pointer (some ⟨L.S t,0,none⟩),.int .i64 a] ((w.alloc (.cells #[.int .i64 2,.int .i64 a,.int .i64 b,.int .i64 c,.int .u64 v] 44)).drewN i) fun e w''=>e=.returned (.tuple #[.int .u64 (((I:Int)+1)),.int .i64 0])∧(w.alloc (.cells #[.int .i64 2,.int .i64 a,.int .i64 b,.int .i64 c,.int .u64 v] 44)).drewN i=w''):=fun i=>by
  have:=(HF0.out i).satw ht a
  rwa [ea,hr]at this
 have HOb:Hid (∀i,Calls Tryz.prog 19 #[.pointer (some ⟨L.hb,0,none⟩),.int .u64 ((I:Int)+1)] ((w.alloc (.cells #[.int .i64 2,.int .i64 a,.int .i64 b,.int .i64 c,.int .u64 v] 44)).drewN i) fun e w''=>e=.returned (.tuple #[.agg #[.int .i64 1,.int .i64 (S:Int),.int .i64 (P:Int),.int .i64 ag,.int .i64 0],.int .i64 0])∧HM W w'' L X h x s k ((w.heap.size,44,#[.int .i64 2,.int .i64 a,.int .i64 b,.int .i64 c,.int .u64 v])::E) D Q):=fun i=>by
  have:=(HF0.out i).object hS (r:=(I:Int)+1) (by omega) (by omega)
  rwa [he,hv]at this
 have HAd:=hide (fun w'=>maddress_any I (by omega) w')
 have HD:Hid (∀w' w'',HM W w' L X h x s k ((w.heap.size,44,#[.int .i64 2,.int .i64 a,.int .i64 b,.int .i64 c,.int .u64 v])::E) D Q→Fr [] w' w''→HM W w'' L X h x s k E D Q):=fun w' w'' q hf=>(q.sub (fun y hy=>List.mem_cons_of_mem _ hy)).fr0 hS hf
 have NM:=(H.blk hm).lt
 have cm:w.cell? ⟨mb,0,none⟩=some (.pointer (some ⟨L.hb,0,none⟩)):=(H.blk hm).cell 0
 unfold opV
 clear H H1 hm ht ha ea hr he hv
 have b1:decide (b<0)=false:=by simpa using hb
 have b2:decide (b≥(P:Int))=true:=by simp;omega
 have b3:decide ((P:Int)≤b)=true:=by simp;omega
 have i1:IntKind.i64.wrap ((I:Int)+1)=(I:Int)+1:=IntWalk.i64_in _ ⟨by omega,by omega⟩
 go_enter Tryz.func83,Tryz.ntmps83
 go_wp2_with fail
 go_quiet ((first | (go_at_call 56;exact quiet_more (HSk.out _)) | (go_at_call 18;exact quiet_left (HAa.out _))))
 go_wp2_with fail
 refine(HOb.out _).mono ?_
 rintro e w2 ⟨rfl,hA⟩
 have HA2:=hide hA
 have hob:=hA.blk (List.mem_cons_self ..)
 have d0:=hob.cell 0
 have d2:=hob.cell 2
 have NO:=hob.lt
 clear hA hob HOb HSk HAa cm
 go_wp2_with fail
 go_quiet ((go_at_call 108;exact quiet_left (HAd.out _)))
 go_wp2_with fail
 go_ret2
 exact⟨rfl,HD.out _ _ HA2.out (((Fr.refl _ _).alloc _).drewN _)⟩
set_option maxHeartbeats 1600000 in
theorem mtfind_2_ok(hS:Lives D Q)(H:HM W w L X h x s k E D Q)(hm:(mb,96,muV L.hb t sb m)∈E)(ht:t<h.T)(a b c v:Int)(ha:hkIn (h.st t) a){I S P:Nat}{ag:Int}(hr:hkAt (h.st t) a=(I:Int)+1)(he:h.objE ((I:Int)+1)=0)(hv:h.objV ((I:Int)+1)=⟨1,(S:Int),(P:Int),ag,0⟩)(hz:P<S∧S≤1048576∧I≤4194304)(hb:¬ b<0)(hb2:b<(P:Int)) :
  Calls Tryz.prog 83 #[.pointer (some ⟨mb,0,none⟩),opV ⟨2,a,b,c,v⟩] w fun e w'=>e=.returned (.tuple #[.int .i64 ((I:Int)+1+b),.int .i64 0])∧HM W w' L X h x s k E D Q:=by
 have H1:HM W (w.alloc (.cells #[.int .i64 2,.int .i64 a,.int .i64 b,.int .i64 c,.int .u64 v] 44)) L X h x s k ((w.heap.size,44,#[.int .i64 2,.int .i64 a,.int .i64 b,.int .i64 c,.int .u64 v])::E) D Q:=H.alloc hS 44 #[.int .i64 2,.int .i64 a,.int .i64 b,.int .i64 c,.int .u64 v]
 have HF0:Hid (∀i,HM W ((w.alloc (.cells #[.int .i64 2,.int .i64 a,.int .i64 b,.int .i64 c,.int .u64 v] 44)).drewN i) L X h x s k ((w.heap.size,44,#[.int .i64 2,.int .i64 a,.int .i64 b,.int .i64 c,.int .u64 v])::E) D Q):=fun i=>H1.fr0 hS ((Fr.refl _ _).drewN _)
 have HSk:Hid (∀i,Calls Tryz.prog 56 #[.pointer (some ⟨mb,0,none⟩)] ((w.alloc (.cells #[.int .i64 2,.int .i64 a,.int .i64 b,.int .i64 c,.int .u64 v] 44)).drewN i) fun e w''=>e=.returned (.pointer (some ⟨L.S t,0,none⟩))∧∃j,w''=((w.alloc (.cells #[.int .i64 2,.int .i64 a,.int .i64 b,.int .i64 c,.int .u64 v] 44)).drewN i).drewN j):=fun i=>(HF0.out i).stack hS (List.mem_cons_of_mem _ hm) ht
 have ea:hkAtE (h.st t) a=0:=by unfold hkAtE;rw [if_pos ha]
 have HAa:Hid (∀i,Calls Tryz.prog 18 #[.pointer (some ⟨L.S t,0,none⟩),.int .i64 a] ((w.alloc (.cells #[.int .i64 2,.int .i64 a,.int .i64 b,.int .i64 c,.int .u64 v] 44)).drewN i) fun e w''=>e=.returned (.tuple #[.int .u64 (((I:Int)+1)),.int .i64 0])∧(w.alloc (.cells #[.int .i64 2,.int .i64 a,.int .i64 b,.int .i64 c,.int .u64 v] 44)).drewN i=w''):=fun i=>by
  have:=(HF0.out i).satw ht a
  rwa [ea,hr]at this
 have HOb:Hid (∀i,Calls Tryz.prog 19 #[.pointer (some ⟨L.hb,0,none⟩),.int .u64 ((I:Int)+1)] ((w.alloc (.cells #[.int .i64 2,.int .i64 a,.int .i64 b,.int .i64 c,.int .u64 v] 44)).drewN i) fun e w''=>e=.returned (.tuple #[.agg #[.int .i64 1,.int .i64 (S:Int),.int .i64 (P:Int),.int .i64 ag,.int .i64 0],.int .i64 0])∧HM W w'' L X h x s k ((w.heap.size,44,#[.int .i64 2,.int .i64 a,.int .i64 b,.int .i64 c,.int .u64 v])::E) D Q):=fun i=>by
  have:=(HF0.out i).object hS (r:=(I:Int)+1) (by omega) (by omega)
  rwa [he,hv]at this
 have HAd:=hide (fun w'=>maddress_any I (by omega) w')
 have HD:Hid (∀w' w'',HM W w' L X h x s k ((w.heap.size,44,#[.int .i64 2,.int .i64 a,.int .i64 b,.int .i64 c,.int .u64 v])::E) D Q→Fr [] w' w''→HM W w'' L X h x s k E D Q):=fun w' w'' q hf=>(q.sub (fun y hy=>List.mem_cons_of_mem _ hy)).fr0 hS hf
 have NM:=(H.blk hm).lt
 have cm:w.cell? ⟨mb,0,none⟩=some (.pointer (some ⟨L.hb,0,none⟩)):=(H.blk hm).cell 0
 unfold opV
 clear H H1 hm ht ha ea hr he hv
 have b1:decide (b<0)=false:=by simpa using hb
 have b2:decide (b≥(P:Int))=false:=by simp;omega
 have b3:decide ((P:Int)≤b)=false:=by simp;omega
 have i1:IntKind.i64.wrap ((I:Int)+1)=(I:Int)+1:=IntWalk.i64_in _ ⟨by omega,by omega⟩
 have i5:IntKind.i64.wrap ((I:Int)+1+b)=(I:Int)+1+b:=IntWalk.i64_in _ ⟨by omega,by omega⟩
 go_enter Tryz.func83,Tryz.ntmps83
 go_wp2_with fail
 go_quiet ((first | (go_at_call 56;exact quiet_more (HSk.out _)) | (go_at_call 18;exact quiet_left (HAa.out _))))
 go_wp2_with fail
 refine(HOb.out _).mono ?_
 rintro e w2 ⟨rfl,hA⟩
 have HA2:=hide hA
 have hob:=hA.blk (List.mem_cons_self ..)
 have d0:=hob.cell 0
 have d2:=hob.cell 2
 have NO:=hob.lt
 clear hA hob HOb HSk HAa cm
 go_wp2_with fail
 go_quiet ((go_at_call 108;exact quiet_left (HAd.out _)))
 go_wp2_with fail
 go_ret2
 exact⟨rfl,HD.out _ _ HA2.out (((Fr.refl _ _).alloc _).drewN _)⟩
set_option maxHeartbeats 1600000 in
theorem mtfind_3_c(hS:Lives D Q)(H:HM W w L X h x s k E D Q)(hm:(mb,96,muV L.hb t sb m)∈E)(ht:t<h.T)(a b c v:Int)(hc:¬ hkIn (h.st t) c) :
  Calls Tryz.prog 83 #[.pointer (some ⟨mb,0,none⟩),opV ⟨3,a,b,c,v⟩] w fun e w'=>e=.returned (.tuple #[.int .i64 0,.int .i64 10])∧HM W w' L X h x s k E D Q:=by
 have H1:HM W (w.alloc (.cells #[.int .i64 3,.int .i64 a,.int .i64 b,.int .i64 c,.int .u64 v] 44)) L X h x s k ((w.heap.size,44,#[.int .i64 3,.int .i64 a,.int .i64 b,.int .i64 c,.int .u64 v])::E) D Q:=H.alloc hS 44 #[.int .i64 3,.int .i64 a,.int .i64 b,.int .i64 c,.int .u64 v]
 have HF0:Hid (∀i,HM W ((w.alloc (.cells #[.int .i64 3,.int .i64 a,.int .i64 b,.int .i64 c,.int .u64 v] 44)).drewN i) L X h x s k ((w.heap.size,44,#[.int .i64 3,.int .i64 a,.int .i64 b,.int .i64 c,.int .u64 v])::E) D Q):=fun i=>H1.fr0 hS ((Fr.refl _ _).drewN _)
 have HSk:Hid (∀i,Calls Tryz.prog 56 #[.pointer (some ⟨mb,0,none⟩)] ((w.alloc (.cells #[.int .i64 3,.int .i64 a,.int .i64 b,.int .i64 c,.int .u64 v] 44)).drewN i) fun e w''=>e=.returned (.pointer (some ⟨L.S t,0,none⟩))∧∃j,w''=((w.alloc (.cells #[.int .i64 3,.int .i64 a,.int .i64 b,.int .i64 c,.int .u64 v] 44)).drewN i).drewN j):=fun i=>(HF0.out i).stack hS (List.mem_cons_of_mem _ hm) ht
 have ec:hkAtE (h.st t) c=10:=by unfold hkAtE;rw [if_neg hc]
 have HAc:Hid (∀i,Calls Tryz.prog 18 #[.pointer (some ⟨L.S t,0,none⟩),.int .i64 c] ((w.alloc (.cells #[.int .i64 3,.int .i64 a,.int .i64 b,.int .i64 c,.int .u64 v] 44)).drewN i) fun e w''=>e=.returned (.tuple #[.int .u64 (hkAt (h.st t) c),.int .i64 10])∧(w.alloc (.cells #[.int .i64 3,.int .i64 a,.int .i64 b,.int .i64 c,.int .u64 v] 44)).drewN i=w''):=fun i=>by
  have:=(HF0.out i).satw ht c
  rwa [ec]at this
 have HD:Hid (∀w' w'',HM W w' L X h x s k ((w.heap.size,44,#[.int .i64 3,.int .i64 a,.int .i64 b,.int .i64 c,.int .u64 v])::E) D Q→Fr [] w' w''→HM W w'' L X h x s k E D Q):=fun w' w'' q hf=>(q.sub (fun y hy=>List.mem_cons_of_mem _ hy)).fr0 hS hf
 have NM:=(H.blk hm).lt
 have cm:w.cell? ⟨mb,0,none⟩=some (.pointer (some ⟨L.hb,0,none⟩)):=(H.blk hm).cell 0
 generalize hkAt (h.st t) c=rc at *
 unfold opV
 clear H H1 hm ht hc ec
 go_enter Tryz.func83,Tryz.ntmps83
 go_wp2_with fail
 go_quiet ((first | (go_at_call 56;exact quiet_more (HSk.out _)) | (go_at_call 18;exact quiet_left (HAc.out _))))
 go_wp2_with fail
 go_ret2
 exact⟨rfl,HD.out _ _ (HF0.out _) (Fr.refl _ _)⟩
set_option maxHeartbeats 1600000 in
theorem mtfind_3_a(hS:Lives D Q)(H:HM W w L X h x s k E D Q)(hm:(mb,96,muV L.hb t sb m)∈E)(ht:t<h.T)(a b c v:Int)(hc:hkIn (h.st t) c)(ha:¬ hkIn (h.st t) a) :
  Calls Tryz.prog 83 #[.pointer (some ⟨mb,0,none⟩),opV ⟨3,a,b,c,v⟩] w fun e w'=>e=.returned (.tuple #[.int .i64 0,.int .i64 10])∧HM W w' L X h x s k E D Q:=by
 have H1:HM W (w.alloc (.cells #[.int .i64 3,.int .i64 a,.int .i64 b,.int .i64 c,.int .u64 v] 44)) L X h x s k ((w.heap.size,44,#[.int .i64 3,.int .i64 a,.int .i64 b,.int .i64 c,.int .u64 v])::E) D Q:=H.alloc hS 44 #[.int .i64 3,.int .i64 a,.int .i64 b,.int .i64 c,.int .u64 v]
 have HF0:Hid (∀i,HM W ((w.alloc (.cells #[.int .i64 3,.int .i64 a,.int .i64 b,.int .i64 c,.int .u64 v] 44)).drewN i) L X h x s k ((w.heap.size,44,#[.int .i64 3,.int .i64 a,.int .i64 b,.int .i64 c,.int .u64 v])::E) D Q):=fun i=>H1.fr0 hS ((Fr.refl _ _).drewN _)
 have HSk:Hid (∀i,Calls Tryz.prog 56 #[.pointer (some ⟨mb,0,none⟩)] ((w.alloc (.cells #[.int .i64 3,.int .i64 a,.int .i64 b,.int .i64 c,.int .u64 v] 44)).drewN i) fun e w''=>e=.returned (.pointer (some ⟨L.S t,0,none⟩))∧∃j,w''=((w.alloc (.cells #[.int .i64 3,.int .i64 a,.int .i64 b,.int .i64 c,.int .u64 v] 44)).drewN i).drewN j):=fun i=>(HF0.out i).stack hS (List.mem_cons_of_mem _ hm) ht
 have ec:hkAtE (h.st t) c=0:=by unfold hkAtE;rw [if_pos hc]
 have HAc:Hid (∀i,Calls Tryz.prog 18 #[.pointer (some ⟨L.S t,0,none⟩),.int .i64 c] ((w.alloc (.cells #[.int .i64 3,.int .i64 a,.int .i64 b,.int .i64 c,.int .u64 v] 44)).drewN i) fun e w''=>e=.returned (.tuple #[.int .u64 (hkAt (h.st t) c),.int .i64 0])∧(w.alloc (.cells #[.int .i64 3,.int .i64 a,.int .i64 b,.int .i64 c,.int .u64 v] 44)).drewN i=w''):=fun i=>by
  have:=(HF0.out i).satw ht c
  rwa [ec]at this
 have ea:hkAtE (h.st t) a=10:=by unfold hkAtE;rw [if_neg ha]
 have HAa:Hid (∀i,Calls Tryz.prog 18 #[.pointer (some ⟨L.S t,0,none⟩),.int .i64 a] ((w.alloc (.cells #[.int .i64 3,.int .i64 a,.int .i64 b,.int .i64 c,.int .u64 v] 44)).drewN i) fun e w''=>e=.returned (.tuple #[.int .u64 (hkAt (h.st t) a),.int .i64 10])∧(w.alloc (.cells #[.int .i64 3,.int .i64 a,.int .i64 b,.int .i64 c,.int .u64 v] 44)).drewN i=w''):=fun i=>by
  have:=(HF0.out i).satw ht a
  rwa [ea]at this
 have HD:Hid (∀w' w'',HM W w' L X h x s k ((w.heap.size,44,#[.int .i64 3,.int .i64 a,.int .i64 b,.int .i64 c,.int .u64 v])::E) D Q→Fr [] w' w''→HM W w'' L X h x s k E D Q):=fun w' w'' q hf=>(q.sub (fun y hy=>List.mem_cons_of_mem _ hy)).fr0 hS hf
 have NM:=(H.blk hm).lt
 have cm:w.cell? ⟨mb,0,none⟩=some (.pointer (some ⟨L.hb,0,none⟩)):=(H.blk hm).cell 0
 generalize hkAt (h.st t) c=rc at *
 generalize hkAt (h.st t) a=ra at *
 unfold opV
 clear H H1 hm ht hc ec ha ea
 go_enter Tryz.func83,Tryz.ntmps83
 go_wp2_with fail
 go_quiet ((first | (go_at_call 56;exact quiet_more (HSk.out _)) | (go_at_call 18;exact quiet_left (HAc.out _))))
 go_wp2_with fail
 go_quiet ((first | (go_at_call 56;exact quiet_more_add (HSk.out _)) | (go_at_call 18;exact quiet_add_left (HAa.out _))))
 go_wp2_with fail
 go_ret2
 exact⟨rfl,HD.out _ _ (HF0.out _) (Fr.refl _ _)⟩
set_option maxHeartbeats 1600000 in
theorem mtfind_3_nil(hS:Lives D Q)(H:HM W w L X h x s k E D Q)(hm:(mb,96,muV L.hb t sb m)∈E)(ht:t<h.T)(a b c v:Int)(hc:hkIn (h.st t) c)(ha:hkIn (h.st t) a)(hr:hkAt (h.st t) a=0) :
  Calls Tryz.prog 83 #[.pointer (some ⟨mb,0,none⟩),opV ⟨3,a,b,c,v⟩] w fun e w'=>e=.returned (.tuple #[.int .i64 0,.int .i64 12])∧HM W w' L X h x s k E D Q:=by
 have H1:HM W (w.alloc (.cells #[.int .i64 3,.int .i64 a,.int .i64 b,.int .i64 c,.int .u64 v] 44)) L X h x s k ((w.heap.size,44,#[.int .i64 3,.int .i64 a,.int .i64 b,.int .i64 c,.int .u64 v])::E) D Q:=H.alloc hS 44 #[.int .i64 3,.int .i64 a,.int .i64 b,.int .i64 c,.int .u64 v]
 have HF0:Hid (∀i,HM W ((w.alloc (.cells #[.int .i64 3,.int .i64 a,.int .i64 b,.int .i64 c,.int .u64 v] 44)).drewN i) L X h x s k ((w.heap.size,44,#[.int .i64 3,.int .i64 a,.int .i64 b,.int .i64 c,.int .u64 v])::E) D Q):=fun i=>H1.fr0 hS ((Fr.refl _ _).drewN _)
 have HSk:Hid (∀i,Calls Tryz.prog 56 #[.pointer (some ⟨mb,0,none⟩)] ((w.alloc (.cells #[.int .i64 3,.int .i64 a,.int .i64 b,.int .i64 c,.int .u64 v] 44)).drewN i) fun e w''=>e=.returned (.pointer (some ⟨L.S t,0,none⟩))∧∃j,w''=((w.alloc (.cells #[.int .i64 3,.int .i64 a,.int .i64 b,.int .i64 c,.int .u64 v] 44)).drewN i).drewN j):=fun i=>(HF0.out i).stack hS (List.mem_cons_of_mem _ hm) ht
 have ec:hkAtE (h.st t) c=0:=by unfold hkAtE;rw [if_pos hc]
 have HAc:Hid (∀i,Calls Tryz.prog 18 #[.pointer (some ⟨L.S t,0,none⟩),.int .i64 c] ((w.alloc (.cells #[.int .i64 3,.int .i64 a,.int .i64 b,.int .i64 c,.int .u64 v] 44)).drewN i) fun e w''=>e=.returned (.tuple #[.int .u64 (hkAt (h.st t) c),.int .i64 0])∧(w.alloc (.cells #[.int .i64 3,.int .i64 a,.int .i64 b,.int .i64 c,.int .u64 v] 44)).drewN i=w''):=fun i=>by
  have:=(HF0.out i).satw ht c
  rwa [ec]at this
 have ea:hkAtE (h.st t) a=0:=by unfold hkAtE;rw [if_pos ha]
 have HAa:Hid (∀i,Calls Tryz.prog 18 #[.pointer (some ⟨L.S t,0,none⟩),.int .i64 a] ((w.alloc (.cells #[.int .i64 3,.int .i64 a,.int .i64 b,.int .i64 c,.int .u64 v] 44)).drewN i) fun e w''=>e=.returned (.tuple #[.int .u64 (0),.int .i64 0])∧(w.alloc (.cells #[.int .i64 3,.int .i64 a,.int .i64 b,.int .i64 c,.int .u64 v] 44)).drewN i=w''):=fun i=>by
  have:=(HF0.out i).satw ht a
  rwa [ea,hr]at this
 have eo:h.objE 0=12:=by unfold HS.objE;rw [if_pos rfl]
 have ev:h.objV 0=Hd.zero:=by unfold HS.objV;rw [if_neg (by rw [eo];decide)]
 have HOb:Hid (∀i,Calls Tryz.prog 19 #[.pointer (some ⟨L.hb,0,none⟩),.int .u64 0] ((w.alloc (.cells #[.int .i64 3,.int .i64 a,.int .i64 b,.int .i64 c,.int .u64 v] 44)).drewN i) fun e w''=>e=.returned (.tuple #[.agg #[.int .i64 0,.int .i64 0,.int .i64 0,.int .i64 0,.int .i64 0],.int .i64 12])∧HM W w'' L X h x s k ((w.heap.size,44,#[.int .i64 3,.int .i64 a,.int .i64 b,.int .i64 c,.int .u64 v])::E) D Q):=fun i=>by
  have:=(HF0.out i).object hS (r:=0) (by decide) (by decide)
  rwa [eo,ev]at this
 have HD:Hid (∀w' w'',HM W w' L X h x s k ((w.heap.size,44,#[.int .i64 3,.int .i64 a,.int .i64 b,.int .i64 c,.int .u64 v])::E) D Q→Fr [] w' w''→HM W w'' L X h x s k E D Q):=fun w' w'' q hf=>(q.sub (fun y hy=>List.mem_cons_of_mem _ hy)).fr0 hS hf
 have NM:=(H.blk hm).lt
 have cm:w.cell? ⟨mb,0,none⟩=some (.pointer (some ⟨L.hb,0,none⟩)):=(H.blk hm).cell 0
 generalize hkAt (h.st t) c=rc at *
 unfold opV
 clear H H1 hm ht hc ec ha ea hr eo ev
 go_enter Tryz.func83,Tryz.ntmps83
 go_wp2_with fail
 go_quiet ((first | (go_at_call 56;exact quiet_more (HSk.out _)) | (go_at_call 18;exact quiet_left (HAc.out _))))
 go_wp2_with fail
 go_quiet ((first | (go_at_call 56;exact quiet_more_add (HSk.out _)) | (go_at_call 18;exact quiet_add_left (HAa.out _))))
 go_wp2_with fail
 refine(HOb.out _).mono ?_
 rintro e w2 ⟨rfl,hA⟩
 have HA2:=hide hA
 have hob:=hA.blk (List.mem_cons_self ..)
 have d0:=hob.cell 0
 have d2:=hob.cell 2
 have NO:=hob.lt
 clear hA hob HOb HSk HAa cm HAc
 go_wp2_with fail
 go_ret2
 exact⟨rfl,HD.out _ _ HA2.out ((Fr.refl _ _).alloc _)⟩
set_option maxHeartbeats 1600000 in
theorem mtfind_3_neg(hS:Lives D Q)(H:HM W w L X h x s k E D Q)(hm:(mb,96,muV L.hb t sb m)∈E)(ht:t<h.T)(a b c v:Int)(hc:hkIn (h.st t) c)(ha:hkIn (h.st t) a){I S P:Nat}{ag:Int}(hr:hkAt (h.st t) a=(I:Int)+1)(he:h.objE ((I:Int)+1)=0)(hv:h.objV ((I:Int)+1)=⟨1,(S:Int),(P:Int),ag,0⟩)(hz:P<S∧S≤1048576∧I≤4194304)(hb:b<0) :
  Calls Tryz.prog 83 #[.pointer (some ⟨mb,0,none⟩),opV ⟨3,a,b,c,v⟩] w fun e w'=>e=.returned (.tuple #[.int .i64 0,.int .i64 11])∧HM W w' L X h x s k E D Q:=by
 have H1:HM W (w.alloc (.cells #[.int .i64 3,.int .i64 a,.int .i64 b,.int .i64 c,.int .u64 v] 44)) L X h x s k ((w.heap.size,44,#[.int .i64 3,.int .i64 a,.int .i64 b,.int .i64 c,.int .u64 v])::E) D Q:=H.alloc hS 44 #[.int .i64 3,.int .i64 a,.int .i64 b,.int .i64 c,.int .u64 v]
 have HF0:Hid (∀i,HM W ((w.alloc (.cells #[.int .i64 3,.int .i64 a,.int .i64 b,.int .i64 c,.int .u64 v] 44)).drewN i) L X h x s k ((w.heap.size,44,#[.int .i64 3,.int .i64 a,.int .i64 b,.int .i64 c,.int .u64 v])::E) D Q):=fun i=>H1.fr0 hS ((Fr.refl _ _).drewN _)
 have HSk:Hid (∀i,Calls Tryz.prog 56 #[.pointer (some ⟨mb,0,none⟩)] ((w.alloc (.cells #[.int .i64 3,.int .i64 a,.int .i64 b,.int .i64 c,.int .u64 v] 44)).drewN i) fun e w''=>e=.returned (.pointer (some ⟨L.S t,0,none⟩))∧∃j,w''=((w.alloc (.cells #[.int .i64 3,.int .i64 a,.int .i64 b,.int .i64 c,.int .u64 v] 44)).drewN i).drewN j):=fun i=>(HF0.out i).stack hS (List.mem_cons_of_mem _ hm) ht
 have ec:hkAtE (h.st t) c=0:=by unfold hkAtE;rw [if_pos hc]
 have HAc:Hid (∀i,Calls Tryz.prog 18 #[.pointer (some ⟨L.S t,0,none⟩),.int .i64 c] ((w.alloc (.cells #[.int .i64 3,.int .i64 a,.int .i64 b,.int .i64 c,.int .u64 v] 44)).drewN i) fun e w''=>e=.returned (.tuple #[.int .u64 (hkAt (h.st t) c),.int .i64 0])∧(w.alloc (.cells #[.int .i64 3,.int .i64 a,.int .i64 b,.int .i64 c,.int .u64 v] 44)).drewN i=w''):=fun i=>by
  have:=(HF0.out i).satw ht c
  rwa [ec]at this
 have ea:hkAtE (h.st t) a=0:=by unfold hkAtE;rw [if_pos ha]
 have HAa:Hid (∀i,Calls Tryz.prog 18 #[.pointer (some ⟨L.S t,0,none⟩),.int .i64 a] ((w.alloc (.cells #[.int .i64 3,.int .i64 a,.int .i64 b,.int .i64 c,.int .u64 v] 44)).drewN i) fun e w''=>e=.returned (.tuple #[.int .u64 (((I:Int)+1)),.int .i64 0])∧(w.alloc (.cells #[.int .i64 3,.int .i64 a,.int .i64 b,.int .i64 c,.int .u64 v] 44)).drewN i=w''):=fun i=>by
  have:=(HF0.out i).satw ht a
  rwa [ea,hr]at this
 have HOb:Hid (∀i,Calls Tryz.prog 19 #[.pointer (some ⟨L.hb,0,none⟩),.int .u64 ((I:Int)+1)] ((w.alloc (.cells #[.int .i64 3,.int .i64 a,.int .i64 b,.int .i64 c,.int .u64 v] 44)).drewN i) fun e w''=>e=.returned (.tuple #[.agg #[.int .i64 1,.int .i64 (S:Int),.int .i64 (P:Int),.int .i64 ag,.int .i64 0],.int .i64 0])∧HM W w'' L X h x s k ((w.heap.size,44,#[.int .i64 3,.int .i64 a,.int .i64 b,.int .i64 c,.int .u64 v])::E) D Q):=fun i=>by
  have:=(HF0.out i).object hS (r:=(I:Int)+1) (by omega) (by omega)
  rwa [he,hv]at this
 have HAd:=hide (fun w'=>maddress_any I (by omega) w')
 have HD:Hid (∀w' w'',HM W w' L X h x s k ((w.heap.size,44,#[.int .i64 3,.int .i64 a,.int .i64 b,.int .i64 c,.int .u64 v])::E) D Q→Fr [] w' w''→HM W w'' L X h x s k E D Q):=fun w' w'' q hf=>(q.sub (fun y hy=>List.mem_cons_of_mem _ hy)).fr0 hS hf
 have NM:=(H.blk hm).lt
 have cm:w.cell? ⟨mb,0,none⟩=some (.pointer (some ⟨L.hb,0,none⟩)):=(H.blk hm).cell 0
 generalize hkAt (h.st t) c=rc at *
 unfold opV
 clear H H1 hm ht hc ec ha ea hr he hv
 have b1:decide (b<0)=true:=by simpa using hb
 have i1:IntKind.i64.wrap ((I:Int)+1)=(I:Int)+1:=IntWalk.i64_in _ ⟨by omega,by omega⟩
 go_enter Tryz.func83,Tryz.ntmps83
 go_wp2_with fail
 go_quiet ((first | (go_at_call 56;exact quiet_more (HSk.out _)) | (go_at_call 18;exact quiet_left (HAc.out _))))
 go_wp2_with fail
 go_quiet ((first | (go_at_call 56;exact quiet_more_add (HSk.out _)) | (go_at_call 18;exact quiet_add_left (HAa.out _))))
 go_wp2_with fail
 refine(HOb.out _).mono ?_
 rintro e w2 ⟨rfl,hA⟩
 have HA2:=hide hA
 have hob:=hA.blk (List.mem_cons_self ..)
 have d0:=hob.cell 0
 have d2:=hob.cell 2
 have NO:=hob.lt
 clear hA hob HOb HSk HAa cm HAc
 go_wp2_with fail
 go_quiet ((go_at_call 108;exact quiet_left (HAd.out _)))
 go_wp2_with fail
 go_ret2
 exact⟨rfl,HD.out _ _ HA2.out (((Fr.refl _ _).alloc _).drewN _)⟩
set_option maxHeartbeats 1600000 in
theorem mtfind_3_big(hS:Lives D Q)(H:HM W w L X h x s k E D Q)(hm:(mb,96,muV L.hb t sb m)∈E)(ht:t<h.T)(a b c v:Int)(hc:hkIn (h.st t) c)(ha:hkIn (h.st t) a){I S P:Nat}{ag:Int}(hr:hkAt (h.st t) a=(I:Int)+1)(he:h.objE ((I:Int)+1)=0)(hv:h.objV ((I:Int)+1)=⟨1,(S:Int),(P:Int),ag,0⟩)(hz:P<S∧S≤1048576∧I≤4194304)(hb:¬ b<0)(hb2:(P:Int)≤b)(hb3:b≤9223372036854775807) :
  Calls Tryz.prog 83 #[.pointer (some ⟨mb,0,none⟩),opV ⟨3,a,b,c,v⟩] w fun e w'=>e=.returned (.tuple #[.int .i64 0,.int .i64 11])∧HM W w' L X h x s k E D Q:=by
 have H1:HM W (w.alloc (.cells #[.int .i64 3,.int .i64 a,.int .i64 b,.int .i64 c,.int .u64 v] 44)) L X h x s k ((w.heap.size,44,#[.int .i64 3,.int .i64 a,.int .i64 b,.int .i64 c,.int .u64 v])::E) D Q:=H.alloc hS 44 #[.int .i64 3,.int .i64 a,.int .i64 b,.int .i64 c,.int .u64 v]
 have HF0:Hid (∀i,HM W ((w.alloc (.cells #[.int .i64 3,.int .i64 a,.int .i64 b,.int .i64 c,.int .u64 v] 44)).drewN i) L X h x s k ((w.heap.size,44,#[.int .i64 3,.int .i64 a,.int .i64 b,.int .i64 c,.int .u64 v])::E) D Q):=fun i=>H1.fr0 hS ((Fr.refl _ _).drewN _)
 have HSk:Hid (∀i,Calls Tryz.prog 56 #[.pointer (some ⟨mb,0,none⟩)] ((w.alloc (.cells #[.int .i64 3,.int .i64 a,.int .i64 b,.int .i64 c,.int .u64 v] 44)).drewN i) fun e w''=>e=.returned (.pointer (some ⟨L.S t,0,none⟩))∧∃j,w''=((w.alloc (.cells #[.int .i64 3,.int .i64 a,.int .i64 b,.int .i64 c,.int .u64 v] 44)).drewN i).drewN j):=fun i=>(HF0.out i).stack hS (List.mem_cons_of_mem _ hm) ht
 have ec:hkAtE (h.st t) c=0:=by unfold hkAtE;rw [if_pos hc]
 have HAc:Hid (∀i,Calls Tryz.prog 18 #[.pointer (some ⟨L.S t,0,none⟩),.int .i64 c] ((w.alloc (.cells #[.int .i64 3,.int .i64 a,.int .i64 b,.int .i64 c,.int .u64 v] 44)).drewN i) fun e w''=>e=.returned (.tuple #[.int .u64 (hkAt (h.st t) c),.int .i64 0])∧(w.alloc (.cells #[.int .i64 3,.int .i64 a,.int .i64 b,.int .i64 c,.int .u64 v] 44)).drewN i=w''):=fun i=>by
  have:=(HF0.out i).satw ht c
  rwa [ec]at this
 have ea:hkAtE (h.st t) a=0:=by unfold hkAtE;rw [if_pos ha]
 have HAa:Hid (∀i,Calls Tryz.prog 18 #[.pointer (some ⟨L.S t,0,none⟩),.int .i64 a] ((w.alloc (.cells #[.int .i64 3,.int .i64 a,.int .i64 b,.int .i64 c,.int .u64 v] 44)).drewN i) fun e w''=>e=.returned (.tuple #[.int .u64 (((I:Int)+1)),.int .i64 0])∧(w.alloc (.cells #[.int .i64 3,.int .i64 a,.int .i64 b,.int .i64 c,.int .u64 v] 44)).drewN i=w''):=fun i=>by
  have:=(HF0.out i).satw ht a
  rwa [ea,hr]at this
 have HOb:Hid (∀i,Calls Tryz.prog 19 #[.pointer (some ⟨L.hb,0,none⟩),.int .u64 ((I:Int)+1)] ((w.alloc (.cells #[.int .i64 3,.int .i64 a,.int .i64 b,.int .i64 c,.int .u64 v] 44)).drewN i) fun e w''=>e=.returned (.tuple #[.agg #[.int .i64 1,.int .i64 (S:Int),.int .i64 (P:Int),.int .i64 ag,.int .i64 0],.int .i64 0])∧HM W w'' L X h x s k ((w.heap.size,44,#[.int .i64 3,.int .i64 a,.int .i64 b,.int .i64 c,.int .u64 v])::E) D Q):=fun i=>by
  have:=(HF0.out i).object hS (r:=(I:Int)+1) (by omega) (by omega)
  rwa [he,hv]at this
 have HAd:=hide (fun w'=>maddress_any I (by omega) w')
 have HD:Hid (∀w' w'',HM W w' L X h x s k ((w.heap.size,44,#[.int .i64 3,.int .i64 a,.int .i64 b,.int .i64 c,.int .u64 v])::E) D Q→Fr [] w' w''→HM W w'' L X h x s k E D Q):=fun w' w'' q hf=>(q.sub (fun y hy=>List.mem_cons_of_mem _ hy)).fr0 hS hf
 have NM:=(H.blk hm).lt
 have cm:w.cell? ⟨mb,0,none⟩=some (.pointer (some ⟨L.hb,0,none⟩)):=(H.blk hm).cell 0
 generalize hkAt (h.st t) c=rc at *
 unfold opV
 clear H H1 hm ht hc ec ha ea hr he hv
 have b1:decide (b<0)=false:=by simpa using hb
 have b2:decide (b≥(P:Int))=true:=by simp;omega
 have b3:decide ((P:Int)≤b)=true:=by simp;omega
 have i1:IntKind.i64.wrap ((I:Int)+1)=(I:Int)+1:=IntWalk.i64_in _ ⟨by omega,by omega⟩
 go_enter Tryz.func83,Tryz.ntmps83
 go_wp2_with fail
 go_quiet ((first | (go_at_call 56;exact quiet_more (HSk.out _)) | (go_at_call 18;exact quiet_left (HAc.out _))))
 go_wp2_with fail
 go_quiet ((first | (go_at_call 56;exact quiet_more_add (HSk.out _)) | (go_at_call 18;exact quiet_add_left (HAa.out _))))
 go_wp2_with fail
 refine(HOb.out _).mono ?_
 rintro e w2 ⟨rfl,hA⟩
 have HA2:=hide hA
 have hob:=hA.blk (List.mem_cons_self ..)
 have d0:=hob.cell 0
 have d2:=hob.cell 2
 have NO:=hob.lt
 clear hA hob HOb HSk HAa cm HAc
 go_wp2_with fail
 go_quiet ((go_at_call 108;exact quiet_left (HAd.out _)))
 go_wp2_with fail
 go_ret2
 exact⟨rfl,HD.out _ _ HA2.out (((Fr.refl _ _).alloc _).drewN _)⟩
set_option maxHeartbeats 1600000 in
theorem mtfind_3_ok(hS:Lives D Q)(H:HM W w L X h x s k E D Q)(hm:(mb,96,muV L.hb t sb m)∈E)(ht:t<h.T)(a b c v:Int)(hc:hkIn (h.st t) c)(ha:hkIn (h.st t) a){I S P:Nat}{ag:Int}(hr:hkAt (h.st t) a=(I:Int)+1)(he:h.objE ((I:Int)+1)=0)(hv:h.objV ((I:Int)+1)=⟨1,(S:Int),(P:Int),ag,0⟩)(hz:P<S∧S≤1048576∧I≤4194304)(hb:¬ b<0)(hb2:b<(P:Int)) :
  Calls Tryz.prog 83 #[.pointer (some ⟨mb,0,none⟩),opV ⟨3,a,b,c,v⟩] w fun e w'=>e=.returned (.tuple #[.int .i64 ((I:Int)+1+b),.int .i64 0])∧HM W w' L X h x s k E D Q:=by
 have H1:HM W (w.alloc (.cells #[.int .i64 3,.int .i64 a,.int .i64 b,.int .i64 c,.int .u64 v] 44)) L X h x s k ((w.heap.size,44,#[.int .i64 3,.int .i64 a,.int .i64 b,.int .i64 c,.int .u64 v])::E) D Q:=H.alloc hS 44 #[.int .i64 3,.int .i64 a,.int .i64 b,.int .i64 c,.int .u64 v]
 have HF0:Hid (∀i,HM W ((w.alloc (.cells #[.int .i64 3,.int .i64 a,.int .i64 b,.int .i64 c,.int .u64 v] 44)).drewN i) L X h x s k ((w.heap.size,44,#[.int .i64 3,.int .i64 a,.int .i64 b,.int .i64 c,.int .u64 v])::E) D Q):=fun i=>H1.fr0 hS ((Fr.refl _ _).drewN _)
 have HSk:Hid (∀i,Calls Tryz.prog 56 #[.pointer (some ⟨mb,0,none⟩)] ((w.alloc (.cells #[.int .i64 3,.int .i64 a,.int .i64 b,.int .i64 c,.int .u64 v] 44)).drewN i) fun e w''=>e=.returned (.pointer (some ⟨L.S t,0,none⟩))∧∃j,w''=((w.alloc (.cells #[.int .i64 3,.int .i64 a,.int .i64 b,.int .i64 c,.int .u64 v] 44)).drewN i).drewN j):=fun i=>(HF0.out i).stack hS (List.mem_cons_of_mem _ hm) ht
 have ec:hkAtE (h.st t) c=0:=by unfold hkAtE;rw [if_pos hc]
 have HAc:Hid (∀i,Calls Tryz.prog 18 #[.pointer (some ⟨L.S t,0,none⟩),.int .i64 c] ((w.alloc (.cells #[.int .i64 3,.int .i64 a,.int .i64 b,.int .i64 c,.int .u64 v] 44)).drewN i) fun e w''=>e=.returned (.tuple #[.int .u64 (hkAt (h.st t) c),.int .i64 0])∧(w.alloc (.cells #[.int .i64 3,.int .i64 a,.int .i64 b,.int .i64 c,.int .u64 v] 44)).drewN i=w''):=fun i=>by
  have:=(HF0.out i).satw ht c
  rwa [ec]at this
 have ea:hkAtE (h.st t) a=0:=by unfold hkAtE;rw [if_pos ha]
 have HAa:Hid (∀i,Calls Tryz.prog 18 #[.pointer (some ⟨L.S t,0,none⟩),.int .i64 a] ((w.alloc (.cells #[.int .i64 3,.int .i64 a,.int .i64 b,.int .i64 c,.int .u64 v] 44)).drewN i) fun e w''=>e=.returned (.tuple #[.int .u64 (((I:Int)+1)),.int .i64 0])∧(w.alloc (.cells #[.int .i64 3,.int .i64 a,.int .i64 b,.int .i64 c,.int .u64 v] 44)).drewN i=w''):=fun i=>by
  have:=(HF0.out i).satw ht a
  rwa [ea,hr]at this
 have HOb:Hid (∀i,Calls Tryz.prog 19 #[.pointer (some ⟨L.hb,0,none⟩),.int .u64 ((I:Int)+1)] ((w.alloc (.cells #[.int .i64 3,.int .i64 a,.int .i64 b,.int .i64 c,.int .u64 v] 44)).drewN i) fun e w''=>e=.returned (.tuple #[.agg #[.int .i64 1,.int .i64 (S:Int),.int .i64 (P:Int),.int .i64 ag,.int .i64 0],.int .i64 0])∧HM W w'' L X h x s k ((w.heap.size,44,#[.int .i64 3,.int .i64 a,.int .i64 b,.int .i64 c,.int .u64 v])::E) D Q):=fun i=>by
  have:=(HF0.out i).object hS (r:=(I:Int)+1) (by omega) (by omega)
  rwa [he,hv]at this
 have HAd:=hide (fun w'=>maddress_any I (by omega) w')
 have HD:Hid (∀w' w'',HM W w' L X h x s k ((w.heap.size,44,#[.int .i64 3,.int .i64 a,.int .i64 b,.int .i64 c,.int .u64 v])::E) D Q→Fr [] w' w''→HM W w'' L X h x s k E D Q):=fun w' w'' q hf=>(q.sub (fun y hy=>List.mem_cons_of_mem _ hy)).fr0 hS hf
 have NM:=(H.blk hm).lt
 have cm:w.cell? ⟨mb,0,none⟩=some (.pointer (some ⟨L.hb,0,none⟩)):=(H.blk hm).cell 0
 generalize hkAt (h.st t) c=rc at *
 unfold opV
 clear H H1 hm ht hc ec ha ea hr he hv
 have b1:decide (b<0)=false:=by simpa using hb
 have b2:decide (b≥(P:Int))=false:=by simp;omega
 have b3:decide ((P:Int)≤b)=false:=by simp;omega
 have i1:IntKind.i64.wrap ((I:Int)+1)=(I:Int)+1:=IntWalk.i64_in _ ⟨by omega,by omega⟩
 have i5:IntKind.i64.wrap ((I:Int)+1+b)=(I:Int)+1+b:=IntWalk.i64_in _ ⟨by omega,by omega⟩
 go_enter Tryz.func83,Tryz.ntmps83
 go_wp2_with fail
 go_quiet ((first | (go_at_call 56;exact quiet_more (HSk.out _)) | (go_at_call 18;exact quiet_left (HAc.out _))))
 go_wp2_with fail
 go_quiet ((first | (go_at_call 56;exact quiet_more_add (HSk.out _)) | (go_at_call 18;exact quiet_add_left (HAa.out _))))
 go_wp2_with fail
 refine(HOb.out _).mono ?_
 rintro e w2 ⟨rfl,hA⟩
 have HA2:=hide hA
 have hob:=hA.blk (List.mem_cons_self ..)
 have d0:=hob.cell 0
 have d2:=hob.cell 2
 have NO:=hob.lt
 clear hA hob HOb HSk HAa cm HAc
 go_wp2_with fail
 go_quiet ((go_at_call 108;exact quiet_left (HAd.out _)))
 go_wp2_with fail
 go_ret2
 exact⟨rfl,HD.out _ _ HA2.out (((Fr.refl _ _).alloc _).drewN _)⟩
set_option maxHeartbeats 1600000 in
theorem mtfind_4_a(hS:Lives D Q)(H:HM W w L X h x s k E D Q)(hm:(mb,96,muV L.hb t sb m)∈E)(ht:t<h.T)(a b c v:Int)(ha:¬ hkIn (h.st t) a) :
  Calls Tryz.prog 83 #[.pointer (some ⟨mb,0,none⟩),opV ⟨4,a,b,c,v⟩] w fun e w'=>e=.returned (.tuple #[.int .i64 0,.int .i64 10])∧HM W w' L X h x s k E D Q:=by
 have H1:HM W (w.alloc (.cells #[.int .i64 4,.int .i64 a,.int .i64 b,.int .i64 c,.int .u64 v] 44)) L X h x s k ((w.heap.size,44,#[.int .i64 4,.int .i64 a,.int .i64 b,.int .i64 c,.int .u64 v])::E) D Q:=H.alloc hS 44 #[.int .i64 4,.int .i64 a,.int .i64 b,.int .i64 c,.int .u64 v]
 have HF0:Hid (∀i,HM W ((w.alloc (.cells #[.int .i64 4,.int .i64 a,.int .i64 b,.int .i64 c,.int .u64 v] 44)).drewN i) L X h x s k ((w.heap.size,44,#[.int .i64 4,.int .i64 a,.int .i64 b,.int .i64 c,.int .u64 v])::E) D Q):=fun i=>H1.fr0 hS ((Fr.refl _ _).drewN _)
 have HSk:Hid (∀i,Calls Tryz.prog 56 #[.pointer (some ⟨mb,0,none⟩)] ((w.alloc (.cells #[.int .i64 4,.int .i64 a,.int .i64 b,.int .i64 c,.int .u64 v] 44)).drewN i) fun e w''=>e=.returned (.pointer (some ⟨L.S t,0,none⟩))∧∃j,w''=((w.alloc (.cells #[.int .i64 4,.int .i64 a,.int .i64 b,.int .i64 c,.int .u64 v] 44)).drewN i).drewN j):=fun i=>(HF0.out i).stack hS (List.mem_cons_of_mem _ hm) ht
 have ea:hkAtE (h.st t) a=10:=by unfold hkAtE;rw [if_neg ha]
 have HAa:Hid (∀i,Calls Tryz.prog 18 #[.pointer (some ⟨L.S t,0,none⟩),.int .i64 a] ((w.alloc (.cells #[.int .i64 4,.int .i64 a,.int .i64 b,.int .i64 c,.int .u64 v] 44)).drewN i) fun e w''=>e=.returned (.tuple #[.int .u64 (hkAt (h.st t) a),.int .i64 10])∧(w.alloc (.cells #[.int .i64 4,.int .i64 a,.int .i64 b,.int .i64 c,.int .u64 v] 44)).drewN i=w''):=fun i=>by
  have:=(HF0.out i).satw ht a
  rwa [ea]at this
 have HD:Hid (∀w' w'',HM W w' L X h x s k ((w.heap.size,44,#[.int .i64 4,.int .i64 a,.int .i64 b,.int .i64 c,.int .u64 v])::E) D Q→Fr [] w' w''→HM W w'' L X h x s k E D Q):=fun w' w'' q hf=>(q.sub (fun y hy=>List.mem_cons_of_mem _ hy)).fr0 hS hf
 have NM:=(H.blk hm).lt
 have cm:w.cell? ⟨mb,0,none⟩=some (.pointer (some ⟨L.hb,0,none⟩)):=(H.blk hm).cell 0
 generalize hkAt (h.st t) a=ra at *
 unfold opV
 clear H H1 hm ht ha ea
 go_enter Tryz.func83,Tryz.ntmps83
 go_wp2_with fail
 go_quiet ((first | (go_at_call 56;exact quiet_more (HSk.out _)) | (go_at_call 18;exact quiet_left (HAa.out _))))
 go_wp2_with fail
 go_ret2
 exact⟨rfl,HD.out _ _ (HF0.out _) (Fr.refl _ _)⟩
set_option maxHeartbeats 1600000 in
theorem mtfind_4_nil(hS:Lives D Q)(H:HM W w L X h x s k E D Q)(hm:(mb,96,muV L.hb t sb m)∈E)(ht:t<h.T)(a b c v:Int)(ha:hkIn (h.st t) a)(hr:hkAt (h.st t) a=0) :
  Calls Tryz.prog 83 #[.pointer (some ⟨mb,0,none⟩),opV ⟨4,a,b,c,v⟩] w fun e w'=>e=.returned (.tuple #[.int .i64 0,.int .i64 12])∧HM W w' L X h x s k E D Q:=by
 have H1:HM W (w.alloc (.cells #[.int .i64 4,.int .i64 a,.int .i64 b,.int .i64 c,.int .u64 v] 44)) L X h x s k ((w.heap.size,44,#[.int .i64 4,.int .i64 a,.int .i64 b,.int .i64 c,.int .u64 v])::E) D Q:=H.alloc hS 44 #[.int .i64 4,.int .i64 a,.int .i64 b,.int .i64 c,.int .u64 v]
 have HF0:Hid (∀i,HM W ((w.alloc (.cells #[.int .i64 4,.int .i64 a,.int .i64 b,.int .i64 c,.int .u64 v] 44)).drewN i) L X h x s k ((w.heap.size,44,#[.int .i64 4,.int .i64 a,.int .i64 b,.int .i64 c,.int .u64 v])::E) D Q):=fun i=>H1.fr0 hS ((Fr.refl _ _).drewN _)
 have HSk:Hid (∀i,Calls Tryz.prog 56 #[.pointer (some ⟨mb,0,none⟩)] ((w.alloc (.cells #[.int .i64 4,.int .i64 a,.int .i64 b,.int .i64 c,.int .u64 v] 44)).drewN i) fun e w''=>e=.returned (.pointer (some ⟨L.S t,0,none⟩))∧∃j,w''=((w.alloc (.cells #[.int .i64 4,.int .i64 a,.int .i64 b,.int .i64 c,.int .u64 v] 44)).drewN i).drewN j):=fun i=>(HF0.out i).stack hS (List.mem_cons_of_mem _ hm) ht
 have ea:hkAtE (h.st t) a=0:=by unfold hkAtE;rw [if_pos ha]
 have HAa:Hid (∀i,Calls Tryz.prog 18 #[.pointer (some ⟨L.S t,0,none⟩),.int .i64 a] ((w.alloc (.cells #[.int .i64 4,.int .i64 a,.int .i64 b,.int .i64 c,.int .u64 v] 44)).drewN i) fun e w''=>e=.returned (.tuple #[.int .u64 (0),.int .i64 0])∧(w.alloc (.cells #[.int .i64 4,.int .i64 a,.int .i64 b,.int .i64 c,.int .u64 v] 44)).drewN i=w''):=fun i=>by
  have:=(HF0.out i).satw ht a
  rwa [ea,hr]at this
 have eo:h.objE 0=12:=by unfold HS.objE;rw [if_pos rfl]
 have ev:h.objV 0=Hd.zero:=by unfold HS.objV;rw [if_neg (by rw [eo];decide)]
 have HOb:Hid (∀i,Calls Tryz.prog 19 #[.pointer (some ⟨L.hb,0,none⟩),.int .u64 0] ((w.alloc (.cells #[.int .i64 4,.int .i64 a,.int .i64 b,.int .i64 c,.int .u64 v] 44)).drewN i) fun e w''=>e=.returned (.tuple #[.agg #[.int .i64 0,.int .i64 0,.int .i64 0,.int .i64 0,.int .i64 0],.int .i64 12])∧HM W w'' L X h x s k ((w.heap.size,44,#[.int .i64 4,.int .i64 a,.int .i64 b,.int .i64 c,.int .u64 v])::E) D Q):=fun i=>by
  have:=(HF0.out i).object hS (r:=0) (by decide) (by decide)
  rwa [eo,ev]at this
 have HD:Hid (∀w' w'',HM W w' L X h x s k ((w.heap.size,44,#[.int .i64 4,.int .i64 a,.int .i64 b,.int .i64 c,.int .u64 v])::E) D Q→Fr [] w' w''→HM W w'' L X h x s k E D Q):=fun w' w'' q hf=>(q.sub (fun y hy=>List.mem_cons_of_mem _ hy)).fr0 hS hf
 have NM:=(H.blk hm).lt
 have cm:w.cell? ⟨mb,0,none⟩=some (.pointer (some ⟨L.hb,0,none⟩)):=(H.blk hm).cell 0
 unfold opV
 clear H H1 hm ht ha ea hr eo ev
 go_enter Tryz.func83,Tryz.ntmps83
 go_wp2_with fail
 go_quiet ((first | (go_at_call 56;exact quiet_more (HSk.out _)) | (go_at_call 18;exact quiet_left (HAa.out _))))
 go_wp2_with fail
 refine(HOb.out _).mono ?_
 rintro e w2 ⟨rfl,hA⟩
 have HA2:=hide hA
 have hob:=hA.blk (List.mem_cons_self ..)
 have d0:=hob.cell 0
 have d2:=hob.cell 2
 have NO:=hob.lt
 clear hA hob HOb HSk HAa cm
 go_wp2_with fail
 go_ret2
 exact⟨rfl,HD.out _ _ HA2.out ((Fr.refl _ _).alloc _)⟩
set_option maxHeartbeats 1600000 in
theorem mtfind_4_neg(hS:Lives D Q)(H:HM W w L X h x s k E D Q)(hm:(mb,96,muV L.hb t sb m)∈E)(ht:t<h.T)(a b c v:Int)(ha:hkIn (h.st t) a){I S P:Nat}{ag:Int}(hr:hkAt (h.st t) a=(I:Int)+1)(he:h.objE ((I:Int)+1)=0)(hv:h.objV ((I:Int)+1)=⟨1,(S:Int),(P:Int),ag,0⟩)(hz:P<S∧S≤1048576∧I≤4194304)(hb:b<0) :
  Calls Tryz.prog 83 #[.pointer (some ⟨mb,0,none⟩),opV ⟨4,a,b,c,v⟩] w fun e w'=>e=.returned (.tuple #[.int .i64 0,.int .i64 11])∧HM W w' L X h x s k E D Q:=by
 have H1:HM W (w.alloc (.cells #[.int .i64 4,.int .i64 a,.int .i64 b,.int .i64 c,.int .u64 v] 44)) L X h x s k ((w.heap.size,44,#[.int .i64 4,.int .i64 a,.int .i64 b,.int .i64 c,.int .u64 v])::E) D Q:=H.alloc hS 44 #[.int .i64 4,.int .i64 a,.int .i64 b,.int .i64 c,.int .u64 v]
 have HF0:Hid (∀i,HM W ((w.alloc (.cells #[.int .i64 4,.int .i64 a,.int .i64 b,.int .i64 c,.int .u64 v] 44)).drewN i) L X h x s k ((w.heap.size,44,#[.int .i64 4,.int .i64 a,.int .i64 b,.int .i64 c,.int .u64 v])::E) D Q):=fun i=>H1.fr0 hS ((Fr.refl _ _).drewN _)
 have HSk:Hid (∀i,Calls Tryz.prog 56 #[.pointer (some ⟨mb,0,none⟩)] ((w.alloc (.cells #[.int .i64 4,.int .i64 a,.int .i64 b,.int .i64 c,.int .u64 v] 44)).drewN i) fun e w''=>e=.returned (.pointer (some ⟨L.S t,0,none⟩))∧∃j,w''=((w.alloc (.cells #[.int .i64 4,.int .i64 a,.int .i64 b,.int .i64 c,.int .u64 v] 44)).drewN i).drewN j):=fun i=>(HF0.out i).stack hS (List.mem_cons_of_mem _ hm) ht
 have ea:hkAtE (h.st t) a=0:=by unfold hkAtE;rw [if_pos ha]
 have HAa:Hid (∀i,Calls Tryz.prog 18 #[.pointer (some ⟨L.S t,0,none⟩),.int .i64 a] ((w.alloc (.cells #[.int .i64 4,.int .i64 a,.int .i64 b,.int .i64 c,.int .u64 v] 44)).drewN i) fun e w''=>e=.returned (.tuple #[.int .u64 (((I:Int)+1)),.int .i64 0])∧(w.alloc (.cells #[.int .i64 4,.int .i64 a,.int .i64 b,.int .i64 c,.int .u64 v] 44)).drewN i=w''):=fun i=>by
  have:=(HF0.out i).satw ht a
  rwa [ea,hr]at this
 have HOb:Hid (∀i,Calls Tryz.prog 19 #[.pointer (some ⟨L.hb,0,none⟩),.int .u64 ((I:Int)+1)] ((w.alloc (.cells #[.int .i64 4,.int .i64 a,.int .i64 b,.int .i64 c,.int .u64 v] 44)).drewN i) fun e w''=>e=.returned (.tuple #[.agg #[.int .i64 1,.int .i64 (S:Int),.int .i64 (P:Int),.int .i64 ag,.int .i64 0],.int .i64 0])∧HM W w'' L X h x s k ((w.heap.size,44,#[.int .i64 4,.int .i64 a,.int .i64 b,.int .i64 c,.int .u64 v])::E) D Q):=fun i=>by
  have:=(HF0.out i).object hS (r:=(I:Int)+1) (by omega) (by omega)
  rwa [he,hv]at this
 have HAd:=hide (fun w'=>maddress_any I (by omega) w')
 have HD:Hid (∀w' w'',HM W w' L X h x s k ((w.heap.size,44,#[.int .i64 4,.int .i64 a,.int .i64 b,.int .i64 c,.int .u64 v])::E) D Q→Fr [] w' w''→HM W w'' L X h x s k E D Q):=fun w' w'' q hf=>(q.sub (fun y hy=>List.mem_cons_of_mem _ hy)).fr0 hS hf
 have NM:=(H.blk hm).lt
 have cm:w.cell? ⟨mb,0,none⟩=some (.pointer (some ⟨L.hb,0,none⟩)):=(H.blk hm).cell 0
 unfold opV
 clear H H1 hm ht ha ea hr he hv
 have b1:decide (b<0)=true:=by simpa using hb
 have i1:IntKind.i64.wrap ((I:Int)+1)=(I:Int)+1:=IntWalk.i64_in _ ⟨by omega,by omega⟩
 have i2:IntKind.i64.wrap ((I:Int)+1+(P:Int))=(I:Int)+1+(P:Int):=IntWalk.i64_in _ ⟨by omega,by omega⟩
 have i3:IntKind.i64.wrap ((S:Int)-1)=(S:Int)-1:=IntWalk.i64_in _ ⟨by omega,by omega⟩
 have i4:IntKind.i64.wrap ((S:Int)-1-(P:Int))=(S:Int)-1-(P:Int):=IntWalk.i64_in _ ⟨by omega,by omega⟩
 go_enter Tryz.func83,Tryz.ntmps83
 go_wp2_with fail
 go_quiet ((first | (go_at_call 56;exact quiet_more (HSk.out _)) | (go_at_call 18;exact quiet_left (HAa.out _))))
 go_wp2_with fail
 refine(HOb.out _).mono ?_
 rintro e w2 ⟨rfl,hA⟩
 have HA2:=hide hA
 have hob:=hA.blk (List.mem_cons_self ..)
 have d0:=hob.cell 0
 have d2:=hob.cell 2
 have NO:=hob.lt
 clear hA hob HOb HSk HAa cm
 go_wp2_with fail
 go_quiet ((go_at_call 108;exact quiet_left (HAd.out _)))
 go_wp2_with fail
 go_quiet (fail)
 go_wp2_with fail
 go_ret2
 exact⟨rfl,HD.out _ _ HA2.out (((Fr.refl _ _).alloc _).drewN _)⟩
set_option maxHeartbeats 1600000 in
theorem mtfind_4_big(hS:Lives D Q)(H:HM W w L X h x s k E D Q)(hm:(mb,96,muV L.hb t sb m)∈E)(ht:t<h.T)(a b c v:Int)(ha:hkIn (h.st t) a){I S P:Nat}{ag:Int}(hr:hkAt (h.st t) a=(I:Int)+1)(he:h.objE ((I:Int)+1)=0)(hv:h.objV ((I:Int)+1)=⟨1,(S:Int),(P:Int),ag,0⟩)(hz:P<S∧S≤1048576∧I≤4194304)(hb:¬ b<0)(hb2:((S:Int)-1-(P:Int))≤b)(hb3:b≤9223372036854775807) :
  Calls Tryz.prog 83 #[.pointer (some ⟨mb,0,none⟩),opV ⟨4,a,b,c,v⟩] w fun e w'=>e=.returned (.tuple #[.int .i64 0,.int .i64 11])∧HM W w' L X h x s k E D Q:=by
 have H1:HM W (w.alloc (.cells #[.int .i64 4,.int .i64 a,.int .i64 b,.int .i64 c,.int .u64 v] 44)) L X h x s k ((w.heap.size,44,#[.int .i64 4,.int .i64 a,.int .i64 b,.int .i64 c,.int .u64 v])::E) D Q:=H.alloc hS 44 #[.int .i64 4,.int .i64 a,.int .i64 b,.int .i64 c,.int .u64 v]
 have HF0:Hid (∀i,HM W ((w.alloc (.cells #[.int .i64 4,.int .i64 a,.int .i64 b,.int .i64 c,.int .u64 v] 44)).drewN i) L X h x s k ((w.heap.size,44,#[.int .i64 4,.int .i64 a,.int .i64 b,.int .i64 c,.int .u64 v])::E) D Q):=fun i=>H1.fr0 hS ((Fr.refl _ _).drewN _)
 have HSk:Hid (∀i,Calls Tryz.prog 56 #[.pointer (some ⟨mb,0,none⟩)] ((w.alloc (.cells #[.int .i64 4,.int .i64 a,.int .i64 b,.int .i64 c,.int .u64 v] 44)).drewN i) fun e w''=>e=.returned (.pointer (some ⟨L.S t,0,none⟩))∧∃j,w''=((w.alloc (.cells #[.int .i64 4,.int .i64 a,.int .i64 b,.int .i64 c,.int .u64 v] 44)).drewN i).drewN j):=fun i=>(HF0.out i).stack hS (List.mem_cons_of_mem _ hm) ht
 have ea:hkAtE (h.st t) a=0:=by unfold hkAtE;rw [if_pos ha]
 have HAa:Hid (∀i,Calls Tryz.prog 18 #[.pointer (some ⟨L.S t,0,none⟩),.int .i64 a] ((w.alloc (.cells #[.int .i64 4,.int .i64 a,.int .i64 b,.int .i64 c,.int .u64 v] 44)).drewN i) fun e w''=>e=.returned (.tuple #[.int .u64 (((I:Int)+1)),.int .i64 0])∧(w.alloc (.cells #[.int .i64 4,.int .i64 a,.int .i64 b,.int .i64 c,.int .u64 v] 44)).drewN i=w''):=fun i=>by
  have:=(HF0.out i).satw ht a
  rwa [ea,hr]at this
 have HOb:Hid (∀i,Calls Tryz.prog 19 #[.pointer (some ⟨L.hb,0,none⟩),.int .u64 ((I:Int)+1)] ((w.alloc (.cells #[.int .i64 4,.int .i64 a,.int .i64 b,.int .i64 c,.int .u64 v] 44)).drewN i) fun e w''=>e=.returned (.tuple #[.agg #[.int .i64 1,.int .i64 (S:Int),.int .i64 (P:Int),.int .i64 ag,.int .i64 0],.int .i64 0])∧HM W w'' L X h x s k ((w.heap.size,44,#[.int .i64 4,.int .i64 a,.int .i64 b,.int .i64 c,.int .u64 v])::E) D Q):=fun i=>by
  have:=(HF0.out i).object hS (r:=(I:Int)+1) (by omega) (by omega)
  rwa [he,hv]at this
 have HAd:=hide (fun w'=>maddress_any I (by omega) w')
 have HD:Hid (∀w' w'',HM W w' L X h x s k ((w.heap.size,44,#[.int .i64 4,.int .i64 a,.int .i64 b,.int .i64 c,.int .u64 v])::E) D Q→Fr [] w' w''→HM W w'' L X h x s k E D Q):=fun w' w'' q hf=>(q.sub (fun y hy=>List.mem_cons_of_mem _ hy)).fr0 hS hf
 have NM:=(H.blk hm).lt
 have cm:w.cell? ⟨mb,0,none⟩=some (.pointer (some ⟨L.hb,0,none⟩)):=(H.blk hm).cell 0
 unfold opV
 clear H H1 hm ht ha ea hr he hv
 have b1:decide (b<0)=false:=by simpa using hb
 have b2:decide (b≥((S:Int)-1-(P:Int)))=true:=by simp;omega
 have b3:decide (((S:Int)-1-(P:Int))≤b)=true:=by simp;omega
 have i1:IntKind.i64.wrap ((I:Int)+1)=(I:Int)+1:=IntWalk.i64_in _ ⟨by omega,by omega⟩
 have i2:IntKind.i64.wrap ((I:Int)+1+(P:Int))=(I:Int)+1+(P:Int):=IntWalk.i64_in _ ⟨by omega,by omega⟩
 have i3:IntKind.i64.wrap ((S:Int)-1)=(S:Int)-1:=IntWalk.i64_in _ ⟨by omega,by omega⟩
 have i4:IntKind.i64.wrap ((S:Int)-1-(P:Int))=(S:Int)-1-(P:Int):=IntWalk.i64_in _ ⟨by omega,by omega⟩
 go_enter Tryz.func83,Tryz.ntmps83
 go_wp2_with fail
 go_quiet ((first | (go_at_call 56;exact quiet_more (HSk.out _)) | (go_at_call 18;exact quiet_left (HAa.out _))))
 go_wp2_with fail
 refine(HOb.out _).mono ?_
 rintro e w2 ⟨rfl,hA⟩
 have HA2:=hide hA
 have hob:=hA.blk (List.mem_cons_self ..)
 have d0:=hob.cell 0
 have d2:=hob.cell 2
 have NO:=hob.lt
 clear hA hob HOb HSk HAa cm
 go_wp2_with fail
 go_quiet ((go_at_call 108;exact quiet_left (HAd.out _)))
 go_wp2_with fail
 go_quiet (fail)
 go_wp2_with fail
 go_ret2
 exact⟨rfl,HD.out _ _ HA2.out (((Fr.refl _ _).alloc _).drewN _)⟩
set_option maxHeartbeats 1600000 in
theorem mtfind_4_ok(hS:Lives D Q)(H:HM W w L X h x s k E D Q)(hm:(mb,96,muV L.hb t sb m)∈E)(ht:t<h.T)(a b c v:Int)(ha:hkIn (h.st t) a){I S P:Nat}{ag:Int}(hr:hkAt (h.st t) a=(I:Int)+1)(he:h.objE ((I:Int)+1)=0)(hv:h.objV ((I:Int)+1)=⟨1,(S:Int),(P:Int),ag,0⟩)(hz:P<S∧S≤1048576∧I≤4194304)(hb:¬ b<0)(hb2:b<((S:Int)-1-(P:Int))) :
  Calls Tryz.prog 83 #[.pointer (some ⟨mb,0,none⟩),opV ⟨4,a,b,c,v⟩] w fun e w'=>e=.returned (.tuple #[.int .i64 ((I:Int)+1+(P:Int)+b),.int .i64 0])∧HM W w' L X h x s k E D Q:=by
 have H1:HM W (w.alloc (.cells #[.int .i64 4,.int .i64 a,.int .i64 b,.int .i64 c,.int .u64 v] 44)) L X h x s k ((w.heap.size,44,#[.int .i64 4,.int .i64 a,.int .i64 b,.int .i64 c,.int .u64 v])::E) D Q:=H.alloc hS 44 #[.int .i64 4,.int .i64 a,.int .i64 b,.int .i64 c,.int .u64 v]
 have HF0:Hid (∀i,HM W ((w.alloc (.cells #[.int .i64 4,.int .i64 a,.int .i64 b,.int .i64 c,.int .u64 v] 44)).drewN i) L X h x s k ((w.heap.size,44,#[.int .i64 4,.int .i64 a,.int .i64 b,.int .i64 c,.int .u64 v])::E) D Q):=fun i=>H1.fr0 hS ((Fr.refl _ _).drewN _)
 have HSk:Hid (∀i,Calls Tryz.prog 56 #[.pointer (some ⟨mb,0,none⟩)] ((w.alloc (.cells #[.int .i64 4,.int .i64 a,.int .i64 b,.int .i64 c,.int .u64 v] 44)).drewN i) fun e w''=>e=.returned (.pointer (some ⟨L.S t,0,none⟩))∧∃j,w''=((w.alloc (.cells #[.int .i64 4,.int .i64 a,.int .i64 b,.int .i64 c,.int .u64 v] 44)).drewN i).drewN j):=fun i=>(HF0.out i).stack hS (List.mem_cons_of_mem _ hm) ht
 have ea:hkAtE (h.st t) a=0:=by unfold hkAtE;rw [if_pos ha]
 have HAa:Hid (∀i,Calls Tryz.prog 18 #[.pointer (some ⟨L.S t,0,none⟩),.int .i64 a] ((w.alloc (.cells #[.int .i64 4,.int .i64 a,.int .i64 b,.int .i64 c,.int .u64 v] 44)).drewN i) fun e w''=>e=.returned (.tuple #[.int .u64 (((I:Int)+1)),.int .i64 0])∧(w.alloc (.cells #[.int .i64 4,.int .i64 a,.int .i64 b,.int .i64 c,.int .u64 v] 44)).drewN i=w''):=fun i=>by
  have:=(HF0.out i).satw ht a
  rwa [ea,hr]at this
 have HOb:Hid (∀i,Calls Tryz.prog 19 #[.pointer (some ⟨L.hb,0,none⟩),.int .u64 ((I:Int)+1)] ((w.alloc (.cells #[.int .i64 4,.int .i64 a,.int .i64 b,.int .i64 c,.int .u64 v] 44)).drewN i) fun e w''=>e=.returned (.tuple #[.agg #[.int .i64 1,.int .i64 (S:Int),.int .i64 (P:Int),.int .i64 ag,.int .i64 0],.int .i64 0])∧HM W w'' L X h x s k ((w.heap.size,44,#[.int .i64 4,.int .i64 a,.int .i64 b,.int .i64 c,.int .u64 v])::E) D Q):=fun i=>by
  have:=(HF0.out i).object hS (r:=(I:Int)+1) (by omega) (by omega)
  rwa [he,hv]at this
 have HAd:=hide (fun w'=>maddress_any I (by omega) w')
 have HD:Hid (∀w' w'',HM W w' L X h x s k ((w.heap.size,44,#[.int .i64 4,.int .i64 a,.int .i64 b,.int .i64 c,.int .u64 v])::E) D Q→Fr [] w' w''→HM W w'' L X h x s k E D Q):=fun w' w'' q hf=>(q.sub (fun y hy=>List.mem_cons_of_mem _ hy)).fr0 hS hf
 have NM:=(H.blk hm).lt
 have cm:w.cell? ⟨mb,0,none⟩=some (.pointer (some ⟨L.hb,0,none⟩)):=(H.blk hm).cell 0
 unfold opV
 clear H H1 hm ht ha ea hr he hv
 have b1:decide (b<0)=false:=by simpa using hb
 have b2:decide (b≥((S:Int)-1-(P:Int)))=false:=by simp;omega
 have b3:decide (((S:Int)-1-(P:Int))≤b)=false:=by simp;omega
 have i1:IntKind.i64.wrap ((I:Int)+1)=(I:Int)+1:=IntWalk.i64_in _ ⟨by omega,by omega⟩
 have i2:IntKind.i64.wrap ((I:Int)+1+(P:Int))=(I:Int)+1+(P:Int):=IntWalk.i64_in _ ⟨by omega,by omega⟩
 have i3:IntKind.i64.wrap ((S:Int)-1)=(S:Int)-1:=IntWalk.i64_in _ ⟨by omega,by omega⟩
 have i4:IntKind.i64.wrap ((S:Int)-1-(P:Int))=(S:Int)-1-(P:Int):=IntWalk.i64_in _ ⟨by omega,by omega⟩
 have i5:IntKind.i64.wrap ((I:Int)+1+(P:Int)+b)=(I:Int)+1+(P:Int)+b:=IntWalk.i64_in _ ⟨by omega,by omega⟩
 go_enter Tryz.func83,Tryz.ntmps83
 go_wp2_with fail
 go_quiet ((first | (go_at_call 56;exact quiet_more (HSk.out _)) | (go_at_call 18;exact quiet_left (HAa.out _))))
 go_wp2_with fail
 refine(HOb.out _).mono ?_
 rintro e w2 ⟨rfl,hA⟩
 have HA2:=hide hA
 have hob:=hA.blk (List.mem_cons_self ..)
 have d0:=hob.cell 0
 have d2:=hob.cell 2
 have NO:=hob.lt
 clear hA hob HOb HSk HAa cm
 go_wp2_with fail
 go_quiet ((go_at_call 108;exact quiet_left (HAd.out _)))
 go_wp2_with fail
 go_quiet (fail)
 go_wp2_with fail
 go_ret2
 exact⟨rfl,HD.out _ _ HA2.out (((Fr.refl _ _).alloc _).drewN _)⟩
set_option maxHeartbeats 1600000 in
theorem mtfind_5_a(hS:Lives D Q)(H:HM W w L X h x s k E D Q)(hm:(mb,96,muV L.hb t sb m)∈E)(ht:t<h.T)(a b c v:Int)(ha:¬ hkIn (h.st t) a) :
  Calls Tryz.prog 83 #[.pointer (some ⟨mb,0,none⟩),opV ⟨5,a,b,c,v⟩] w fun e w'=>e=.returned (.tuple #[.int .i64 0,.int .i64 10])∧HM W w' L X h x s k E D Q:=by
 have H1:HM W (w.alloc (.cells #[.int .i64 5,.int .i64 a,.int .i64 b,.int .i64 c,.int .u64 v] 44)) L X h x s k ((w.heap.size,44,#[.int .i64 5,.int .i64 a,.int .i64 b,.int .i64 c,.int .u64 v])::E) D Q:=H.alloc hS 44 #[.int .i64 5,.int .i64 a,.int .i64 b,.int .i64 c,.int .u64 v]
 have HF0:Hid (∀i,HM W ((w.alloc (.cells #[.int .i64 5,.int .i64 a,.int .i64 b,.int .i64 c,.int .u64 v] 44)).drewN i) L X h x s k ((w.heap.size,44,#[.int .i64 5,.int .i64 a,.int .i64 b,.int .i64 c,.int .u64 v])::E) D Q):=fun i=>H1.fr0 hS ((Fr.refl _ _).drewN _)
 have HSk:Hid (∀i,Calls Tryz.prog 56 #[.pointer (some ⟨mb,0,none⟩)] ((w.alloc (.cells #[.int .i64 5,.int .i64 a,.int .i64 b,.int .i64 c,.int .u64 v] 44)).drewN i) fun e w''=>e=.returned (.pointer (some ⟨L.S t,0,none⟩))∧∃j,w''=((w.alloc (.cells #[.int .i64 5,.int .i64 a,.int .i64 b,.int .i64 c,.int .u64 v] 44)).drewN i).drewN j):=fun i=>(HF0.out i).stack hS (List.mem_cons_of_mem _ hm) ht
 have ea:hkAtE (h.st t) a=10:=by unfold hkAtE;rw [if_neg ha]
 have HAa:Hid (∀i,Calls Tryz.prog 18 #[.pointer (some ⟨L.S t,0,none⟩),.int .i64 a] ((w.alloc (.cells #[.int .i64 5,.int .i64 a,.int .i64 b,.int .i64 c,.int .u64 v] 44)).drewN i) fun e w''=>e=.returned (.tuple #[.int .u64 (hkAt (h.st t) a),.int .i64 10])∧(w.alloc (.cells #[.int .i64 5,.int .i64 a,.int .i64 b,.int .i64 c,.int .u64 v] 44)).drewN i=w''):=fun i=>by
  have:=(HF0.out i).satw ht a
  rwa [ea]at this
 have HD:Hid (∀w' w'',HM W w' L X h x s k ((w.heap.size,44,#[.int .i64 5,.int .i64 a,.int .i64 b,.int .i64 c,.int .u64 v])::E) D Q→Fr [] w' w''→HM W w'' L X h x s k E D Q):=fun w' w'' q hf=>(q.sub (fun y hy=>List.mem_cons_of_mem _ hy)).fr0 hS hf
 have NM:=(H.blk hm).lt
 have cm:w.cell? ⟨mb,0,none⟩=some (.pointer (some ⟨L.hb,0,none⟩)):=(H.blk hm).cell 0
 generalize hkAt (h.st t) a=ra at *
 unfold opV
 clear H H1 hm ht ha ea
 go_enter Tryz.func83,Tryz.ntmps83
 go_wp2_with fail
 go_quiet ((first | (go_at_call 56;exact quiet_more (HSk.out _)) | (go_at_call 18;exact quiet_left (HAa.out _))))
 go_wp2_with fail
 go_ret2
 exact⟨rfl,HD.out _ _ (HF0.out _) (Fr.refl _ _)⟩
set_option maxHeartbeats 1600000 in
theorem mtfind_5_nil(hS:Lives D Q)(H:HM W w L X h x s k E D Q)(hm:(mb,96,muV L.hb t sb m)∈E)(ht:t<h.T)(a b c v:Int)(ha:hkIn (h.st t) a)(hr:hkAt (h.st t) a=0) :
  Calls Tryz.prog 83 #[.pointer (some ⟨mb,0,none⟩),opV ⟨5,a,b,c,v⟩] w fun e w'=>e=.returned (.tuple #[.int .i64 0,.int .i64 12])∧HM W w' L X h x s k E D Q:=by
 have H1:HM W (w.alloc (.cells #[.int .i64 5,.int .i64 a,.int .i64 b,.int .i64 c,.int .u64 v] 44)) L X h x s k ((w.heap.size,44,#[.int .i64 5,.int .i64 a,.int .i64 b,.int .i64 c,.int .u64 v])::E) D Q:=H.alloc hS 44 #[.int .i64 5,.int .i64 a,.int .i64 b,.int .i64 c,.int .u64 v]
 have HF0:Hid (∀i,HM W ((w.alloc (.cells #[.int .i64 5,.int .i64 a,.int .i64 b,.int .i64 c,.int .u64 v] 44)).drewN i) L X h x s k ((w.heap.size,44,#[.int .i64 5,.int .i64 a,.int .i64 b,.int .i64 c,.int .u64 v])::E) D Q):=fun i=>H1.fr0 hS ((Fr.refl _ _).drewN _)
 have HSk:Hid (∀i,Calls Tryz.prog 56 #[.pointer (some ⟨mb,0,none⟩)] ((w.alloc (.cells #[.int .i64 5,.int .i64 a,.int .i64 b,.int .i64 c,.int .u64 v] 44)).drewN i) fun e w''=>e=.returned (.pointer (some ⟨L.S t,0,none⟩))∧∃j,w''=((w.alloc (.cells #[.int .i64 5,.int .i64 a,.int .i64 b,.int .i64 c,.int .u64 v] 44)).drewN i).drewN j):=fun i=>(HF0.out i).stack hS (List.mem_cons_of_mem _ hm) ht
 have ea:hkAtE (h.st t) a=0:=by unfold hkAtE;rw [if_pos ha]
 have HAa:Hid (∀i,Calls Tryz.prog 18 #[.pointer (some ⟨L.S t,0,none⟩),.int .i64 a] ((w.alloc (.cells #[.int .i64 5,.int .i64 a,.int .i64 b,.int .i64 c,.int .u64 v] 44)).drewN i) fun e w''=>e=.returned (.tuple #[.int .u64 (0),.int .i64 0])∧(w.alloc (.cells #[.int .i64 5,.int .i64 a,.int .i64 b,.int .i64 c,.int .u64 v] 44)).drewN i=w''):=fun i=>by
  have:=(HF0.out i).satw ht a
  rwa [ea,hr]at this
 have eo:h.objE 0=12:=by unfold HS.objE;rw [if_pos rfl]
 have ev:h.objV 0=Hd.zero:=by unfold HS.objV;rw [if_neg (by rw [eo];decide)]
 have HOb:Hid (∀i,Calls Tryz.prog 19 #[.pointer (some ⟨L.hb,0,none⟩),.int .u64 0] ((w.alloc (.cells #[.int .i64 5,.int .i64 a,.int .i64 b,.int .i64 c,.int .u64 v] 44)).drewN i) fun e w''=>e=.returned (.tuple #[.agg #[.int .i64 0,.int .i64 0,.int .i64 0,.int .i64 0,.int .i64 0],.int .i64 12])∧HM W w'' L X h x s k ((w.heap.size,44,#[.int .i64 5,.int .i64 a,.int .i64 b,.int .i64 c,.int .u64 v])::E) D Q):=fun i=>by
  have:=(HF0.out i).object hS (r:=0) (by decide) (by decide)
  rwa [eo,ev]at this
 have HD:Hid (∀w' w'',HM W w' L X h x s k ((w.heap.size,44,#[.int .i64 5,.int .i64 a,.int .i64 b,.int .i64 c,.int .u64 v])::E) D Q→Fr [] w' w''→HM W w'' L X h x s k E D Q):=fun w' w'' q hf=>(q.sub (fun y hy=>List.mem_cons_of_mem _ hy)).fr0 hS hf
 have NM:=(H.blk hm).lt
 have cm:w.cell? ⟨mb,0,none⟩=some (.pointer (some ⟨L.hb,0,none⟩)):=(H.blk hm).cell 0
 unfold opV
 clear H H1 hm ht ha ea hr eo ev
 go_enter Tryz.func83,Tryz.ntmps83
 go_wp2_with fail
 go_quiet ((first | (go_at_call 56;exact quiet_more (HSk.out _)) | (go_at_call 18;exact quiet_left (HAa.out _))))
 go_wp2_with fail
 refine(HOb.out _).mono ?_
 rintro e w2 ⟨rfl,hA⟩
 have HA2:=hide hA
 have hob:=hA.blk (List.mem_cons_self ..)
 have d0:=hob.cell 0
 have d2:=hob.cell 2
 have NO:=hob.lt
 clear hA hob HOb HSk HAa cm
 go_wp2_with fail
 go_ret2
 exact⟨rfl,HD.out _ _ HA2.out ((Fr.refl _ _).alloc _)⟩
set_option maxHeartbeats 1600000 in
theorem mtfind_5_neg(hS:Lives D Q)(H:HM W w L X h x s k E D Q)(hm:(mb,96,muV L.hb t sb m)∈E)(ht:t<h.T)(a b c v:Int)(ha:hkIn (h.st t) a){I S P:Nat}{ag:Int}(hr:hkAt (h.st t) a=(I:Int)+1)(he:h.objE ((I:Int)+1)=0)(hv:h.objV ((I:Int)+1)=⟨1,(S:Int),(P:Int),ag,0⟩)(hz:P<S∧S≤1048576∧I≤4194304)(hb:b<0) :
  Calls Tryz.prog 83 #[.pointer (some ⟨mb,0,none⟩),opV ⟨5,a,b,c,v⟩] w fun e w'=>e=.returned (.tuple #[.int .i64 0,.int .i64 11])∧HM W w' L X h x s k E D Q:=by
 have H1:HM W (w.alloc (.cells #[.int .i64 5,.int .i64 a,.int .i64 b,.int .i64 c,.int .u64 v] 44)) L X h x s k ((w.heap.size,44,#[.int .i64 5,.int .i64 a,.int .i64 b,.int .i64 c,.int .u64 v])::E) D Q:=H.alloc hS 44 #[.int .i64 5,.int .i64 a,.int .i64 b,.int .i64 c,.int .u64 v]
 have HF0:Hid (∀i,HM W ((w.alloc (.cells #[.int .i64 5,.int .i64 a,.int .i64 b,.int .i64 c,.int .u64 v] 44)).drewN i) L X h x s k ((w.heap.size,44,#[.int .i64 5,.int .i64 a,.int .i64 b,.int .i64 c,.int .u64 v])::E) D Q):=fun i=>H1.fr0 hS ((Fr.refl _ _).drewN _)
 have HSk:Hid (∀i,Calls Tryz.prog 56 #[.pointer (some ⟨mb,0,none⟩)] ((w.alloc (.cells #[.int .i64 5,.int .i64 a,.int .i64 b,.int .i64 c,.int .u64 v] 44)).drewN i) fun e w''=>e=.returned (.pointer (some ⟨L.S t,0,none⟩))∧∃j,w''=((w.alloc (.cells #[.int .i64 5,.int .i64 a,.int .i64 b,.int .i64 c,.int .u64 v] 44)).drewN i).drewN j):=fun i=>(HF0.out i).stack hS (List.mem_cons_of_mem _ hm) ht
 have ea:hkAtE (h.st t) a=0:=by unfold hkAtE;rw [if_pos ha]
 have HAa:Hid (∀i,Calls Tryz.prog 18 #[.pointer (some ⟨L.S t,0,none⟩),.int .i64 a] ((w.alloc (.cells #[.int .i64 5,.int .i64 a,.int .i64 b,.int .i64 c,.int .u64 v] 44)).drewN i) fun e w''=>e=.returned (.tuple #[.int .u64 (((I:Int)+1)),.int .i64 0])∧(w.alloc (.cells #[.int .i64 5,.int .i64 a,.int .i64 b,.int .i64 c,.int .u64 v] 44)).drewN i=w''):=fun i=>by
  have:=(HF0.out i).satw ht a
  rwa [ea,hr]at this
 have HOb:Hid (∀i,Calls Tryz.prog 19 #[.pointer (some ⟨L.hb,0,none⟩),.int .u64 ((I:Int)+1)] ((w.alloc (.cells #[.int .i64 5,.int .i64 a,.int .i64 b,.int .i64 c,.int .u64 v] 44)).drewN i) fun e w''=>e=.returned (.tuple #[.agg #[.int .i64 1,.int .i64 (S:Int),.int .i64 (P:Int),.int .i64 ag,.int .i64 0],.int .i64 0])∧HM W w'' L X h x s k ((w.heap.size,44,#[.int .i64 5,.int .i64 a,.int .i64 b,.int .i64 c,.int .u64 v])::E) D Q):=fun i=>by
  have:=(HF0.out i).object hS (r:=(I:Int)+1) (by omega) (by omega)
  rwa [he,hv]at this
 have HAd:=hide (fun w'=>maddress_any I (by omega) w')
 have HD:Hid (∀w' w'',HM W w' L X h x s k ((w.heap.size,44,#[.int .i64 5,.int .i64 a,.int .i64 b,.int .i64 c,.int .u64 v])::E) D Q→Fr [] w' w''→HM W w'' L X h x s k E D Q):=fun w' w'' q hf=>(q.sub (fun y hy=>List.mem_cons_of_mem _ hy)).fr0 hS hf
 have NM:=(H.blk hm).lt
 have cm:w.cell? ⟨mb,0,none⟩=some (.pointer (some ⟨L.hb,0,none⟩)):=(H.blk hm).cell 0
 unfold opV
 clear H H1 hm ht ha ea hr he hv
 have b1:decide (b<0)=true:=by simpa using hb
 have i1:IntKind.i64.wrap ((I:Int)+1)=(I:Int)+1:=IntWalk.i64_in _ ⟨by omega,by omega⟩
 have i2:IntKind.i64.wrap ((I:Int)+1+(P:Int))=(I:Int)+1+(P:Int):=IntWalk.i64_in _ ⟨by omega,by omega⟩
 have i3:IntKind.i64.wrap ((S:Int)-1)=(S:Int)-1:=IntWalk.i64_in _ ⟨by omega,by omega⟩
 have i4:IntKind.i64.wrap ((S:Int)-1-(P:Int))=(S:Int)-1-(P:Int):=IntWalk.i64_in _ ⟨by omega,by omega⟩
 go_enter Tryz.func83,Tryz.ntmps83
 go_wp2_with fail
 go_quiet ((first | (go_at_call 56;exact quiet_more (HSk.out _)) | (go_at_call 18;exact quiet_left (HAa.out _))))
 go_wp2_with fail
 refine(HOb.out _).mono ?_
 rintro e w2 ⟨rfl,hA⟩
 have HA2:=hide hA
 have hob:=hA.blk (List.mem_cons_self ..)
 have d0:=hob.cell 0
 have d2:=hob.cell 2
 have NO:=hob.lt
 clear hA hob HOb HSk HAa cm
 go_wp2_with fail
 go_quiet ((go_at_call 108;exact quiet_left (HAd.out _)))
 go_wp2_with fail
 go_quiet (fail)
 go_wp2_with fail
 go_ret2
 exact⟨rfl,HD.out _ _ HA2.out (((Fr.refl _ _).alloc _).drewN _)⟩
set_option maxHeartbeats 1600000 in
theorem mtfind_5_big(hS:Lives D Q)(H:HM W w L X h x s k E D Q)(hm:(mb,96,muV L.hb t sb m)∈E)(ht:t<h.T)(a b c v:Int)(ha:hkIn (h.st t) a){I S P:Nat}{ag:Int}(hr:hkAt (h.st t) a=(I:Int)+1)(he:h.objE ((I:Int)+1)=0)(hv:h.objV ((I:Int)+1)=⟨1,(S:Int),(P:Int),ag,0⟩)(hz:P<S∧S≤1048576∧I≤4194304)(hb:¬ b<0)(hb2:((S:Int)-1-(P:Int))≤b)(hb3:b≤9223372036854775807) :
  Calls Tryz.prog 83 #[.pointer (some ⟨mb,0,none⟩),opV ⟨5,a,b,c,v⟩] w fun e w'=>e=.returned (.tuple #[.int .i64 0,.int .i64 11])∧HM W w' L X h x s k E D Q:=by
 have H1:HM W (w.alloc (.cells #[.int .i64 5,.int .i64 a,.int .i64 b,.int .i64 c,.int .u64 v] 44)) L X h x s k ((w.heap.size,44,#[.int .i64 5,.int .i64 a,.int .i64 b,.int .i64 c,.int .u64 v])::E) D Q:=H.alloc hS 44 #[.int .i64 5,.int .i64 a,.int .i64 b,.int .i64 c,.int .u64 v]
 have HF0:Hid (∀i,HM W ((w.alloc (.cells #[.int .i64 5,.int .i64 a,.int .i64 b,.int .i64 c,.int .u64 v] 44)).drewN i) L X h x s k ((w.heap.size,44,#[.int .i64 5,.int .i64 a,.int .i64 b,.int .i64 c,.int .u64 v])::E) D Q):=fun i=>H1.fr0 hS ((Fr.refl _ _).drewN _)
 have HSk:Hid (∀i,Calls Tryz.prog 56 #[.pointer (some ⟨mb,0,none⟩)] ((w.alloc (.cells #[.int .i64 5,.int .i64 a,.int .i64 b,.int .i64 c,.int .u64 v] 44)).drewN i) fun e w''=>e=.returned (.pointer (some ⟨L.S t,0,none⟩))∧∃j,w''=((w.alloc (.cells #[.int .i64 5,.int .i64 a,.int .i64 b,.int .i64 c,.int .u64 v] 44)).drewN i).drewN j):=fun i=>(HF0.out i).stack hS (List.mem_cons_of_mem _ hm) ht
 have ea:hkAtE (h.st t) a=0:=by unfold hkAtE;rw [if_pos ha]
 have HAa:Hid (∀i,Calls Tryz.prog 18 #[.pointer (some ⟨L.S t,0,none⟩),.int .i64 a] ((w.alloc (.cells #[.int .i64 5,.int .i64 a,.int .i64 b,.int .i64 c,.int .u64 v] 44)).drewN i) fun e w''=>e=.returned (.tuple #[.int .u64 (((I:Int)+1)),.int .i64 0])∧(w.alloc (.cells #[.int .i64 5,.int .i64 a,.int .i64 b,.int .i64 c,.int .u64 v] 44)).drewN i=w''):=fun i=>by
  have:=(HF0.out i).satw ht a
  rwa [ea,hr]at this
 have HOb:Hid (∀i,Calls Tryz.prog 19 #[.pointer (some ⟨L.hb,0,none⟩),.int .u64 ((I:Int)+1)] ((w.alloc (.cells #[.int .i64 5,.int .i64 a,.int .i64 b,.int .i64 c,.int .u64 v] 44)).drewN i) fun e w''=>e=.returned (.tuple #[.agg #[.int .i64 1,.int .i64 (S:Int),.int .i64 (P:Int),.int .i64 ag,.int .i64 0],.int .i64 0])∧HM W w'' L X h x s k ((w.heap.size,44,#[.int .i64 5,.int .i64 a,.int .i64 b,.int .i64 c,.int .u64 v])::E) D Q):=fun i=>by
  have:=(HF0.out i).object hS (r:=(I:Int)+1) (by omega) (by omega)
  rwa [he,hv]at this
 have HAd:=hide (fun w'=>maddress_any I (by omega) w')
 have HD:Hid (∀w' w'',HM W w' L X h x s k ((w.heap.size,44,#[.int .i64 5,.int .i64 a,.int .i64 b,.int .i64 c,.int .u64 v])::E) D Q→Fr [] w' w''→HM W w'' L X h x s k E D Q):=fun w' w'' q hf=>(q.sub (fun y hy=>List.mem_cons_of_mem _ hy)).fr0 hS hf
 have NM:=(H.blk hm).lt
 have cm:w.cell? ⟨mb,0,none⟩=some (.pointer (some ⟨L.hb,0,none⟩)):=(H.blk hm).cell 0
 unfold opV
 clear H H1 hm ht ha ea hr he hv
 have b1:decide (b<0)=false:=by simpa using hb
 have b2:decide (b≥((S:Int)-1-(P:Int)))=true:=by simp;omega
 have b3:decide (((S:Int)-1-(P:Int))≤b)=true:=by simp;omega
 have i1:IntKind.i64.wrap ((I:Int)+1)=(I:Int)+1:=IntWalk.i64_in _ ⟨by omega,by omega⟩
 have i2:IntKind.i64.wrap ((I:Int)+1+(P:Int))=(I:Int)+1+(P:Int):=IntWalk.i64_in _ ⟨by omega,by omega⟩
 have i3:IntKind.i64.wrap ((S:Int)-1)=(S:Int)-1:=IntWalk.i64_in _ ⟨by omega,by omega⟩
 have i4:IntKind.i64.wrap ((S:Int)-1-(P:Int))=(S:Int)-1-(P:Int):=IntWalk.i64_in _ ⟨by omega,by omega⟩
 go_enter Tryz.func83,Tryz.ntmps83
 go_wp2_with fail
 go_quiet ((first | (go_at_call 56;exact quiet_more (HSk.out _)) | (go_at_call 18;exact quiet_left (HAa.out _))))
 go_wp2_with fail
 refine(HOb.out _).mono ?_
 rintro e w2 ⟨rfl,hA⟩
 have HA2:=hide hA
 have hob:=hA.blk (List.mem_cons_self ..)
 have d0:=hob.cell 0
 have d2:=hob.cell 2
 have NO:=hob.lt
 clear hA hob HOb HSk HAa cm
 go_wp2_with fail
 go_quiet ((go_at_call 108;exact quiet_left (HAd.out _)))
 go_wp2_with fail
 go_quiet (fail)
 go_wp2_with fail
 go_ret2
 exact⟨rfl,HD.out _ _ HA2.out (((Fr.refl _ _).alloc _).drewN _)⟩
set_option maxHeartbeats 1600000 in
theorem mtfind_5_ok(hS:Lives D Q)(H:HM W w L X h x s k E D Q)(hm:(mb,96,muV L.hb t sb m)∈E)(ht:t<h.T)(a b c v:Int)(ha:hkIn (h.st t) a){I S P:Nat}{ag:Int}(hr:hkAt (h.st t) a=(I:Int)+1)(he:h.objE ((I:Int)+1)=0)(hv:h.objV ((I:Int)+1)=⟨1,(S:Int),(P:Int),ag,0⟩)(hz:P<S∧S≤1048576∧I≤4194304)(hb:¬ b<0)(hb2:b<((S:Int)-1-(P:Int))) :
  Calls Tryz.prog 83 #[.pointer (some ⟨mb,0,none⟩),opV ⟨5,a,b,c,v⟩] w fun e w'=>e=.returned (.tuple #[.int .i64 ((I:Int)+1+(P:Int)+b),.int .i64 0])∧HM W w' L X h x s k E D Q:=by
 have H1:HM W (w.alloc (.cells #[.int .i64 5,.int .i64 a,.int .i64 b,.int .i64 c,.int .u64 v] 44)) L X h x s k ((w.heap.size,44,#[.int .i64 5,.int .i64 a,.int .i64 b,.int .i64 c,.int .u64 v])::E) D Q:=H.alloc hS 44 #[.int .i64 5,.int .i64 a,.int .i64 b,.int .i64 c,.int .u64 v]
 have HF0:Hid (∀i,HM W ((w.alloc (.cells #[.int .i64 5,.int .i64 a,.int .i64 b,.int .i64 c,.int .u64 v] 44)).drewN i) L X h x s k ((w.heap.size,44,#[.int .i64 5,.int .i64 a,.int .i64 b,.int .i64 c,.int .u64 v])::E) D Q):=fun i=>H1.fr0 hS ((Fr.refl _ _).drewN _)
 have HSk:Hid (∀i,Calls Tryz.prog 56 #[.pointer (some ⟨mb,0,none⟩)] ((w.alloc (.cells #[.int .i64 5,.int .i64 a,.int .i64 b,.int .i64 c,.int .u64 v] 44)).drewN i) fun e w''=>e=.returned (.pointer (some ⟨L.S t,0,none⟩))∧∃j,w''=((w.alloc (.cells #[.int .i64 5,.int .i64 a,.int .i64 b,.int .i64 c,.int .u64 v] 44)).drewN i).drewN j):=fun i=>(HF0.out i).stack hS (List.mem_cons_of_mem _ hm) ht
 have ea:hkAtE (h.st t) a=0:=by unfold hkAtE;rw [if_pos ha]
 have HAa:Hid (∀i,Calls Tryz.prog 18 #[.pointer (some ⟨L.S t,0,none⟩),.int .i64 a] ((w.alloc (.cells #[.int .i64 5,.int .i64 a,.int .i64 b,.int .i64 c,.int .u64 v] 44)).drewN i) fun e w''=>e=.returned (.tuple #[.int .u64 (((I:Int)+1)),.int .i64 0])∧(w.alloc (.cells #[.int .i64 5,.int .i64 a,.int .i64 b,.int .i64 c,.int .u64 v] 44)).drewN i=w''):=fun i=>by
  have:=(HF0.out i).satw ht a
  rwa [ea,hr]at this
 have HOb:Hid (∀i,Calls Tryz.prog 19 #[.pointer (some ⟨L.hb,0,none⟩),.int .u64 ((I:Int)+1)] ((w.alloc (.cells #[.int .i64 5,.int .i64 a,.int .i64 b,.int .i64 c,.int .u64 v] 44)).drewN i) fun e w''=>e=.returned (.tuple #[.agg #[.int .i64 1,.int .i64 (S:Int),.int .i64 (P:Int),.int .i64 ag,.int .i64 0],.int .i64 0])∧HM W w'' L X h x s k ((w.heap.size,44,#[.int .i64 5,.int .i64 a,.int .i64 b,.int .i64 c,.int .u64 v])::E) D Q):=fun i=>by
  have:=(HF0.out i).object hS (r:=(I:Int)+1) (by omega) (by omega)
  rwa [he,hv]at this
 have HAd:=hide (fun w'=>maddress_any I (by omega) w')
 have HD:Hid (∀w' w'',HM W w' L X h x s k ((w.heap.size,44,#[.int .i64 5,.int .i64 a,.int .i64 b,.int .i64 c,.int .u64 v])::E) D Q→Fr [] w' w''→HM W w'' L X h x s k E D Q):=fun w' w'' q hf=>(q.sub (fun y hy=>List.mem_cons_of_mem _ hy)).fr0 hS hf
 have NM:=(H.blk hm).lt
 have cm:w.cell? ⟨mb,0,none⟩=some (.pointer (some ⟨L.hb,0,none⟩)):=(H.blk hm).cell 0
 unfold opV
 clear H H1 hm ht ha ea hr he hv
 have b1:decide (b<0)=false:=by simpa using hb
 have b2:decide (b≥((S:Int)-1-(P:Int)))=false:=by simp;omega
 have b3:decide (((S:Int)-1-(P:Int))≤b)=false:=by simp;omega
 have i1:IntKind.i64.wrap ((I:Int)+1)=(I:Int)+1:=IntWalk.i64_in _ ⟨by omega,by omega⟩
 have i2:IntKind.i64.wrap ((I:Int)+1+(P:Int))=(I:Int)+1+(P:Int):=IntWalk.i64_in _ ⟨by omega,by omega⟩
 have i3:IntKind.i64.wrap ((S:Int)-1)=(S:Int)-1:=IntWalk.i64_in _ ⟨by omega,by omega⟩
 have i4:IntKind.i64.wrap ((S:Int)-1-(P:Int))=(S:Int)-1-(P:Int):=IntWalk.i64_in _ ⟨by omega,by omega⟩
 have i5:IntKind.i64.wrap ((I:Int)+1+(P:Int)+b)=(I:Int)+1+(P:Int)+b:=IntWalk.i64_in _ ⟨by omega,by omega⟩
 go_enter Tryz.func83,Tryz.ntmps83
 go_wp2_with fail
 go_quiet ((first | (go_at_call 56;exact quiet_more (HSk.out _)) | (go_at_call 18;exact quiet_left (HAa.out _))))
 go_wp2_with fail
 refine(HOb.out _).mono ?_
 rintro e w2 ⟨rfl,hA⟩
 have HA2:=hide hA
 have hob:=hA.blk (List.mem_cons_self ..)
 have d0:=hob.cell 0
 have d2:=hob.cell 2
 have NO:=hob.lt
 clear hA hob HOb HSk HAa cm
 go_wp2_with fail
 go_quiet ((go_at_call 108;exact quiet_left (HAd.out _)))
 go_wp2_with fail
 go_quiet (fail)
 go_wp2_with fail
 go_ret2
 exact⟨rfl,HD.out _ _ HA2.out (((Fr.refl _ _).alloc _).drewN _)⟩
end
end Go.Proofs.YtfcjdinlcehpmaaGreatDoor
