/- Several texts joined (pack.py): Xb Um. -/
import Derived.Test.YtfcjdinlcehpmaaGreatDoorPW21
import Derived.WalkKit
import Derived.BigQuiet
namespace Go.Proofs.YtfcjdinlcehpmaaGreatDoor
set_option linter.unusedVariables false
set_option linter.unusedSimpArgs false
set_option maxRecDepth 100000
open Go.RowKit Go.Gl HS
section
variable {W w w':World}{L:HL}{X:HX}{h h2:HS}{x x2:HT}{s k:Nat}{E:Blks}{D:Nat→Prop}{Q:World→Prop}{mb t sb:Nat}{m m':MU}{r0 r1 r2 r3:Int}{b4 b5 b6 b7:Bool}{A8:Option Addr}{n8 c8:Nat}
set_option maxHeartbeats 1600000 in
theorem mtbegin_look2(hS:Lives D Q)(hT:Tab W)(H:HM W w L X h x s k ((mb,96,muV L.hb t sb m)::E) D Q)(hne:∀q,q∈E→q.1≠mb)(hk:m.k=2)
  (hcall:∀w' rb c,rb≠mb→(∀q,q∈E→q.1≠rb)→HM W w' L X h x s k ((mb,96,muV L.hb t sb m)::(rb,61,c)::E) D Q→Calls Tryz.prog 51 #[.pointer (some ⟨mb,0,none⟩)] w' fun e w''=>e=.returned (.agg #[.int .i64 r0,.int .i64 r1,.int .i64 r2,.int .u64 r3,.bool b4,.bool b5,.bool b6,.bool b7,.slice A8 n8 c8])∧HM W w'' L X h2 x2 s k ((mb,96,muV L.hb t sb m')::(rb,61,c)::E) D Q) :
  Calls Tryz.prog 31 #[.pointer (some ⟨mb,0,none⟩)] w fun e w'=>e=.returned (.agg #[.int .i64 r0,.int .i64 r1,.int .i64 r2,.int .u64 r3,.bool b4,.bool b5,.bool b6,.bool b7,.slice A8 n8 c8])∧HM W w' L X h2 x2 s k ((mb,96,muV L.hb t sb m')::E) D Q:=by
 have hmb:=H.blk (List.mem_cons_self ..)
 have hlt:=hmb.lt
 have hltE:∀q,q∈E→q.1<w.heap.size:=fun q hq=>(H.blk (b:=q.1) (t:=q.2.1) (cs:=q.2.2) (List.mem_cons_of_mem _ hq)).lt
 have hrm:w.heap.size≠mb:=by omega
 have hrE:∀q,q∈E→q.1≠w.heap.size:=fun q hq=>by have:=hltE q hq;omega
 have hneR:∀cs:Array Value,∀q,q∈((w.heap.size,61,cs)::E:Blks)→q.1≠mb:=fun cs q hq=>by
  rcases List.mem_cons.1 hq with rfl | hq
  ·exact hrm
  ·exact hne q hq
 have HX:Hid (HM W (w.alloc (.cells #[.int .i64 0,.int .i64 0,.int .i64 0,.int .u64 0,.bool false,.bool false,.bool false,.bool false,.slice none 0 0] 61)) L X h x s k ((w.heap.size,61,#[.int .i64 0,.int .i64 0,.int .i64 0,.int .u64 0,.bool false,.bool false,.bool false,.bool false,.slice none 0 0])::(mb,96,muV L.hb t sb m)::E) D Q):=H.alloc hS 61 #[.int .i64 0,.int .i64 0,.int .i64 0,.int .u64 0,.bool false,.bool false,.bool false,.bool false,.slice none 0 0]
 have HEnd:Hid (∀w' a0 a1 a2 a3 a4 a5 a6 a7 a8 v0 v1 v2 v3 v4 v5 v6 v7 v8,HM W w' L X h2 x2 s k ((mb,96,muV L.hb t sb m')::(w.heap.size,61,#[a0,a1,a2,a3,a4,a5,a6,a7,a8])::E) D Q→HM W (put9 w' w.heap.size v0 v1 v2 v3 v4 v5 v6 v7 v8) L X h2 x2 s k ((mb,96,muV L.hb t sb m')::E) D Q):=fun w' a0 a1 a2 a3 a4 a5 a6 a7 a8 v0 v1 v2 v3 v4 v5 v6 v7 v8 q=>
  q.swap.res9 hS hT (fun y hy=>by
   rcases List.mem_cons.1 hy with rfl | hy
   ·exact fun e=>hrm e.symm
   ·exact hrE y hy) v0 v1 v2 v3 v4 v5 v6 v7 v8
 have HC:=hide (hcall _ _ _ hrm hrE HX.out.swap)
 obtain⟨c0,c1,c2,c3,c4,c5,c6,c7,c8,c9,c10⟩:=muCells hmb
 rw [hk]at c4
 clear H hmb hltE HX hne hneR hrm hrE hk hcall
 go_enter Tryz.func31,Tryz.ntmps31
 go_wp2_with fail
 refine HC.out.mono ?_
 rintro e w5 ⟨rfl,hA⟩
 clear c0 c1 c2 c3 c4 c5 c6 c7 c8 c9 c10 HC
 have HA5:=hide hA
 have hrb:=hA.blk (List.mem_cons_of_mem _ (List.mem_cons_self ..))
 have y0:=hrb.cell 0
 have y1:=hrb.cell 1
 have y2:=hrb.cell 2
 have y3:=hrb.cell 3
 have y4:=hrb.cell 4
 have y5:=hrb.cell 5
 have y6:=hrb.cell 6
 have y7:=hrb.cell 7
 have y8:=hrb.cell 8
 have z0:=hrb.frozen 0
 have z1:=hrb.frozen 1
 have z2:=hrb.frozen 2
 have z3:=hrb.frozen 3
 have z4:=hrb.frozen 4
 have z5:=hrb.frozen 5
 have z6:=hrb.frozen 6
 have z7:=hrb.frozen 7
 have z8:=hrb.frozen 8
 have NR:=hrb.lt
 clear hA hrb
 go_wp2_with fail
 refine bodyPost_ret (v:=.agg #[.int .i64 r0,.int .i64 r1,.int .i64 r2,.int .u64 r3,.bool b4,.bool b5,.bool b6,.bool b7,.slice A8 n8 c8]) (by simp [results,Tryz.results31,go_sem, *]) rfl ⟨rfl,?_⟩
 exact HEnd.out _ _ _ _ _ _ _ _ _ _ _ _ _ _ _ _ _ _ _ HA5.out
set_option maxHeartbeats 1600000 in
theorem mtbegin_look3(hS:Lives D Q)(hT:Tab W)(H:HM W w L X h x s k ((mb,96,muV L.hb t sb m)::E) D Q)(hne:∀q,q∈E→q.1≠mb)(hk:m.k=3)
  (hcall:∀w' rb c,rb≠mb→(∀q,q∈E→q.1≠rb)→HM W w' L X h x s k ((mb,96,muV L.hb t sb m)::(rb,61,c)::E) D Q→Calls Tryz.prog 51 #[.pointer (some ⟨mb,0,none⟩)] w' fun e w''=>e=.returned (.agg #[.int .i64 r0,.int .i64 r1,.int .i64 r2,.int .u64 r3,.bool b4,.bool b5,.bool b6,.bool b7,.slice A8 n8 c8])∧HM W w'' L X h2 x2 s k ((mb,96,muV L.hb t sb m')::(rb,61,c)::E) D Q) :
  Calls Tryz.prog 31 #[.pointer (some ⟨mb,0,none⟩)] w fun e w'=>e=.returned (.agg #[.int .i64 r0,.int .i64 r1,.int .i64 r2,.int .u64 r3,.bool b4,.bool b5,.bool b6,.bool b7,.slice A8 n8 c8])∧HM W w' L X h2 x2 s k ((mb,96,muV L.hb t sb m')::E) D Q:=by
 have hmb:=H.blk (List.mem_cons_self ..)
 have hlt:=hmb.lt
 have hltE:∀q,q∈E→q.1<w.heap.size:=fun q hq=>(H.blk (b:=q.1) (t:=q.2.1) (cs:=q.2.2) (List.mem_cons_of_mem _ hq)).lt
 have hrm:w.heap.size≠mb:=by omega
 have hrE:∀q,q∈E→q.1≠w.heap.size:=fun q hq=>by have:=hltE q hq;omega
 have hneR:∀cs:Array Value,∀q,q∈((w.heap.size,61,cs)::E:Blks)→q.1≠mb:=fun cs q hq=>by
  rcases List.mem_cons.1 hq with rfl | hq
  ·exact hrm
  ·exact hne q hq
 have HX:Hid (HM W (w.alloc (.cells #[.int .i64 0,.int .i64 0,.int .i64 0,.int .u64 0,.bool false,.bool false,.bool false,.bool false,.slice none 0 0] 61)) L X h x s k ((w.heap.size,61,#[.int .i64 0,.int .i64 0,.int .i64 0,.int .u64 0,.bool false,.bool false,.bool false,.bool false,.slice none 0 0])::(mb,96,muV L.hb t sb m)::E) D Q):=H.alloc hS 61 #[.int .i64 0,.int .i64 0,.int .i64 0,.int .u64 0,.bool false,.bool false,.bool false,.bool false,.slice none 0 0]
 have HEnd:Hid (∀w' a0 a1 a2 a3 a4 a5 a6 a7 a8 v0 v1 v2 v3 v4 v5 v6 v7 v8,HM W w' L X h2 x2 s k ((mb,96,muV L.hb t sb m')::(w.heap.size,61,#[a0,a1,a2,a3,a4,a5,a6,a7,a8])::E) D Q→HM W (put9 w' w.heap.size v0 v1 v2 v3 v4 v5 v6 v7 v8) L X h2 x2 s k ((mb,96,muV L.hb t sb m')::E) D Q):=fun w' a0 a1 a2 a3 a4 a5 a6 a7 a8 v0 v1 v2 v3 v4 v5 v6 v7 v8 q=>
  q.swap.res9 hS hT (fun y hy=>by
   rcases List.mem_cons.1 hy with rfl | hy
   ·exact fun e=>hrm e.symm
   ·exact hrE y hy) v0 v1 v2 v3 v4 v5 v6 v7 v8
 have HC:=hide (hcall _ _ _ hrm hrE HX.out.swap)
 obtain⟨c0,c1,c2,c3,c4,c5,c6,c7,c8,c9,c10⟩:=muCells hmb
 rw [hk]at c4
 clear H hmb hltE HX hne hneR hrm hrE hk hcall
 go_enter Tryz.func31,Tryz.ntmps31
 go_wp2_with fail
 refine HC.out.mono ?_
 rintro e w5 ⟨rfl,hA⟩
 clear c0 c1 c2 c3 c4 c5 c6 c7 c8 c9 c10 HC
 have HA5:=hide hA
 have hrb:=hA.blk (List.mem_cons_of_mem _ (List.mem_cons_self ..))
 have y0:=hrb.cell 0
 have y1:=hrb.cell 1
 have y2:=hrb.cell 2
 have y3:=hrb.cell 3
 have y4:=hrb.cell 4
 have y5:=hrb.cell 5
 have y6:=hrb.cell 6
 have y7:=hrb.cell 7
 have y8:=hrb.cell 8
 have z0:=hrb.frozen 0
 have z1:=hrb.frozen 1
 have z2:=hrb.frozen 2
 have z3:=hrb.frozen 3
 have z4:=hrb.frozen 4
 have z5:=hrb.frozen 5
 have z6:=hrb.frozen 6
 have z7:=hrb.frozen 7
 have z8:=hrb.frozen 8
 have NR:=hrb.lt
 clear hA hrb
 go_wp2_with fail
 refine bodyPost_ret (v:=.agg #[.int .i64 r0,.int .i64 r1,.int .i64 r2,.int .u64 r3,.bool b4,.bool b5,.bool b6,.bool b7,.slice A8 n8 c8]) (by simp [results,Tryz.results31,go_sem, *]) rfl ⟨rfl,?_⟩
 exact HEnd.out _ _ _ _ _ _ _ _ _ _ _ _ _ _ _ _ _ _ _ HA5.out
set_option maxHeartbeats 1600000 in
theorem mtbegin_look4(hS:Lives D Q)(hT:Tab W)(H:HM W w L X h x s k ((mb,96,muV L.hb t sb m)::E) D Q)(hne:∀q,q∈E→q.1≠mb)(hk:m.k=4)
  (hcall:∀w' rb c,rb≠mb→(∀q,q∈E→q.1≠rb)→HM W w' L X h x s k ((mb,96,muV L.hb t sb m)::(rb,61,c)::E) D Q→Calls Tryz.prog 51 #[.pointer (some ⟨mb,0,none⟩)] w' fun e w''=>e=.returned (.agg #[.int .i64 r0,.int .i64 r1,.int .i64 r2,.int .u64 r3,.bool b4,.bool b5,.bool b6,.bool b7,.slice A8 n8 c8])∧HM W w'' L X h2 x2 s k ((mb,96,muV L.hb t sb m')::(rb,61,c)::E) D Q) :
  Calls Tryz.prog 31 #[.pointer (some ⟨mb,0,none⟩)] w fun e w'=>e=.returned (.agg #[.int .i64 r0,.int .i64 r1,.int .i64 r2,.int .u64 r3,.bool b4,.bool b5,.bool b6,.bool b7,.slice A8 n8 c8])∧HM W w' L X h2 x2 s k ((mb,96,muV L.hb t sb m')::E) D Q:=by
 have hmb:=H.blk (List.mem_cons_self ..)
 have hlt:=hmb.lt
 have hltE:∀q,q∈E→q.1<w.heap.size:=fun q hq=>(H.blk (b:=q.1) (t:=q.2.1) (cs:=q.2.2) (List.mem_cons_of_mem _ hq)).lt
 have hrm:w.heap.size≠mb:=by omega
 have hrE:∀q,q∈E→q.1≠w.heap.size:=fun q hq=>by have:=hltE q hq;omega
 have hneR:∀cs:Array Value,∀q,q∈((w.heap.size,61,cs)::E:Blks)→q.1≠mb:=fun cs q hq=>by
  rcases List.mem_cons.1 hq with rfl | hq
  ·exact hrm
  ·exact hne q hq
 have HX:Hid (HM W (w.alloc (.cells #[.int .i64 0,.int .i64 0,.int .i64 0,.int .u64 0,.bool false,.bool false,.bool false,.bool false,.slice none 0 0] 61)) L X h x s k ((w.heap.size,61,#[.int .i64 0,.int .i64 0,.int .i64 0,.int .u64 0,.bool false,.bool false,.bool false,.bool false,.slice none 0 0])::(mb,96,muV L.hb t sb m)::E) D Q):=H.alloc hS 61 #[.int .i64 0,.int .i64 0,.int .i64 0,.int .u64 0,.bool false,.bool false,.bool false,.bool false,.slice none 0 0]
 have HEnd:Hid (∀w' a0 a1 a2 a3 a4 a5 a6 a7 a8 v0 v1 v2 v3 v4 v5 v6 v7 v8,HM W w' L X h2 x2 s k ((mb,96,muV L.hb t sb m')::(w.heap.size,61,#[a0,a1,a2,a3,a4,a5,a6,a7,a8])::E) D Q→HM W (put9 w' w.heap.size v0 v1 v2 v3 v4 v5 v6 v7 v8) L X h2 x2 s k ((mb,96,muV L.hb t sb m')::E) D Q):=fun w' a0 a1 a2 a3 a4 a5 a6 a7 a8 v0 v1 v2 v3 v4 v5 v6 v7 v8 q=>
  q.swap.res9 hS hT (fun y hy=>by
   rcases List.mem_cons.1 hy with rfl | hy
   ·exact fun e=>hrm e.symm
   ·exact hrE y hy) v0 v1 v2 v3 v4 v5 v6 v7 v8
 have HC:=hide (hcall _ _ _ hrm hrE HX.out.swap)
 obtain⟨c0,c1,c2,c3,c4,c5,c6,c7,c8,c9,c10⟩:=muCells hmb
 rw [hk]at c4
 clear H hmb hltE HX hne hneR hrm hrE hk hcall
 go_enter Tryz.func31,Tryz.ntmps31
 go_wp2_with fail
 refine HC.out.mono ?_
 rintro e w5 ⟨rfl,hA⟩
 clear c0 c1 c2 c3 c4 c5 c6 c7 c8 c9 c10 HC
 have HA5:=hide hA
 have hrb:=hA.blk (List.mem_cons_of_mem _ (List.mem_cons_self ..))
 have y0:=hrb.cell 0
 have y1:=hrb.cell 1
 have y2:=hrb.cell 2
 have y3:=hrb.cell 3
 have y4:=hrb.cell 4
 have y5:=hrb.cell 5
 have y6:=hrb.cell 6
 have y7:=hrb.cell 7
 have y8:=hrb.cell 8
 have z0:=hrb.frozen 0
 have z1:=hrb.frozen 1
 have z2:=hrb.frozen 2
 have z3:=hrb.frozen 3
 have z4:=hrb.frozen 4
 have z5:=hrb.frozen 5
 have z6:=hrb.frozen 6
 have z7:=hrb.frozen 7
 have z8:=hrb.frozen 8
 have NR:=hrb.lt
 clear hA hrb
 go_wp2_with fail
 refine bodyPost_ret (v:=.agg #[.int .i64 r0,.int .i64 r1,.int .i64 r2,.int .u64 r3,.bool b4,.bool b5,.bool b6,.bool b7,.slice A8 n8 c8]) (by simp [results,Tryz.results31,go_sem, *]) rfl ⟨rfl,?_⟩
 exact HEnd.out _ _ _ _ _ _ _ _ _ _ _ _ _ _ _ _ _ _ _ HA5.out
set_option maxHeartbeats 1600000 in
theorem mtbegin_look5(hS:Lives D Q)(hT:Tab W)(H:HM W w L X h x s k ((mb,96,muV L.hb t sb m)::E) D Q)(hne:∀q,q∈E→q.1≠mb)(hk:m.k=5)
  (hcall:∀w' rb c,rb≠mb→(∀q,q∈E→q.1≠rb)→HM W w' L X h x s k ((mb,96,muV L.hb t sb m)::(rb,61,c)::E) D Q→Calls Tryz.prog 51 #[.pointer (some ⟨mb,0,none⟩)] w' fun e w''=>e=.returned (.agg #[.int .i64 r0,.int .i64 r1,.int .i64 r2,.int .u64 r3,.bool b4,.bool b5,.bool b6,.bool b7,.slice A8 n8 c8])∧HM W w'' L X h2 x2 s k ((mb,96,muV L.hb t sb m')::(rb,61,c)::E) D Q) :
  Calls Tryz.prog 31 #[.pointer (some ⟨mb,0,none⟩)] w fun e w'=>e=.returned (.agg #[.int .i64 r0,.int .i64 r1,.int .i64 r2,.int .u64 r3,.bool b4,.bool b5,.bool b6,.bool b7,.slice A8 n8 c8])∧HM W w' L X h2 x2 s k ((mb,96,muV L.hb t sb m')::E) D Q:=by
 have hmb:=H.blk (List.mem_cons_self ..)
 have hlt:=hmb.lt
 have hltE:∀q,q∈E→q.1<w.heap.size:=fun q hq=>(H.blk (b:=q.1) (t:=q.2.1) (cs:=q.2.2) (List.mem_cons_of_mem _ hq)).lt
 have hrm:w.heap.size≠mb:=by omega
 have hrE:∀q,q∈E→q.1≠w.heap.size:=fun q hq=>by have:=hltE q hq;omega
 have hneR:∀cs:Array Value,∀q,q∈((w.heap.size,61,cs)::E:Blks)→q.1≠mb:=fun cs q hq=>by
  rcases List.mem_cons.1 hq with rfl | hq
  ·exact hrm
  ·exact hne q hq
 have HX:Hid (HM W (w.alloc (.cells #[.int .i64 0,.int .i64 0,.int .i64 0,.int .u64 0,.bool false,.bool false,.bool false,.bool false,.slice none 0 0] 61)) L X h x s k ((w.heap.size,61,#[.int .i64 0,.int .i64 0,.int .i64 0,.int .u64 0,.bool false,.bool false,.bool false,.bool false,.slice none 0 0])::(mb,96,muV L.hb t sb m)::E) D Q):=H.alloc hS 61 #[.int .i64 0,.int .i64 0,.int .i64 0,.int .u64 0,.bool false,.bool false,.bool false,.bool false,.slice none 0 0]
 have HEnd:Hid (∀w' a0 a1 a2 a3 a4 a5 a6 a7 a8 v0 v1 v2 v3 v4 v5 v6 v7 v8,HM W w' L X h2 x2 s k ((mb,96,muV L.hb t sb m')::(w.heap.size,61,#[a0,a1,a2,a3,a4,a5,a6,a7,a8])::E) D Q→HM W (put9 w' w.heap.size v0 v1 v2 v3 v4 v5 v6 v7 v8) L X h2 x2 s k ((mb,96,muV L.hb t sb m')::E) D Q):=fun w' a0 a1 a2 a3 a4 a5 a6 a7 a8 v0 v1 v2 v3 v4 v5 v6 v7 v8 q=>
  q.swap.res9 hS hT (fun y hy=>by
   rcases List.mem_cons.1 hy with rfl | hy
   ·exact fun e=>hrm e.symm
   ·exact hrE y hy) v0 v1 v2 v3 v4 v5 v6 v7 v8
 have HC:=hide (hcall _ _ _ hrm hrE HX.out.swap)
 obtain⟨c0,c1,c2,c3,c4,c5,c6,c7,c8,c9,c10⟩:=muCells hmb
 rw [hk]at c4
 clear H hmb hltE HX hne hneR hrm hrE hk hcall
 go_enter Tryz.func31,Tryz.ntmps31
 go_wp2_with fail
 refine HC.out.mono ?_
 rintro e w5 ⟨rfl,hA⟩
 clear c0 c1 c2 c3 c4 c5 c6 c7 c8 c9 c10 HC
 have HA5:=hide hA
 have hrb:=hA.blk (List.mem_cons_of_mem _ (List.mem_cons_self ..))
 have y0:=hrb.cell 0
 have y1:=hrb.cell 1
 have y2:=hrb.cell 2
 have y3:=hrb.cell 3
 have y4:=hrb.cell 4
 have y5:=hrb.cell 5
 have y6:=hrb.cell 6
 have y7:=hrb.cell 7
 have y8:=hrb.cell 8
 have z0:=hrb.frozen 0
 have z1:=hrb.frozen 1
 have z2:=hrb.frozen 2
 have z3:=hrb.frozen 3
 have z4:=hrb.frozen 4
 have z5:=hrb.frozen 5
 have z6:=hrb.frozen 6
 have z7:=hrb.frozen 7
 have z8:=hrb.frozen 8
 have NR:=hrb.lt
 clear hA hrb
 go_wp2_with fail
 refine bodyPost_ret (v:=.agg #[.int .i64 r0,.int .i64 r1,.int .i64 r2,.int .u64 r3,.bool b4,.bool b5,.bool b6,.bool b7,.slice A8 n8 c8]) (by simp [results,Tryz.results31,go_sem, *]) rfl ⟨rfl,?_⟩
 exact HEnd.out _ _ _ _ _ _ _ _ _ _ _ _ _ _ _ _ _ _ _ HA5.out
set_option maxHeartbeats 1600000 in
theorem mtbegin_whole(hS:Lives D Q)(hT:Tab W)(H:HM W w L X h x s k ((mb,96,muV L.hb t sb m)::E) D Q)(hne:∀q,q∈E→q.1≠mb)(hk:¬ (1≤m.k∧m.k≤5))(hd:(m.dn:Int)+1≤9223372036854775807){y:An}
  (hcall:∀w' E',(∀q,q∈E'→q.1≠mb)→HM W w' L X h x s k ((mb,96,muV L.hb t sb m)::E') D Q→Calls Tryz.prog 52 #[.pointer (some ⟨mb,0,none⟩)] w' fun e w''=>e=.returned (ansV 0 0 y)∧HM W w'' L X h2 x2 s k ((mb,96,muV L.hb t sb m)::E') D Q) :
  Calls Tryz.prog 31 #[.pointer (some ⟨mb,0,none⟩)] w fun e w'=>e=.returned (resV (t:Int) (m.dn:Int) y true false false (.slice none 0 0))∧HM W w' L X h2 x2 s k ((mb,96,muV L.hb t sb (MU.zero (m.dn+1)))::E) D Q:=by
 have hmb:=H.blk (List.mem_cons_self ..)
 have hlt:=hmb.lt
 have hltE:∀q,q∈E→q.1<w.heap.size:=fun q hq=>(H.blk (b:=q.1) (t:=q.2.1) (cs:=q.2.2) (List.mem_cons_of_mem _ hq)).lt
 have hrm:w.heap.size≠mb:=by omega
 have hrE:∀q,q∈E→q.1≠w.heap.size:=fun q hq=>by have:=hltE q hq;omega
 have hneR:∀cs:Array Value,∀q,q∈((w.heap.size,61,cs)::E:Blks)→q.1≠mb:=fun cs q hq=>by
  rcases List.mem_cons.1 hq with rfl | hq
  ·exact hrm
  ·exact hne q hq
 have HX:Hid (HM W (w.alloc (.cells #[.int .i64 0,.int .i64 0,.int .i64 0,.int .u64 0,.bool false,.bool false,.bool false,.bool false,.slice none 0 0] 61)) L X h x s k ((w.heap.size,61,#[.int .i64 0,.int .i64 0,.int .i64 0,.int .u64 0,.bool false,.bool false,.bool false,.bool false,.slice none 0 0])::(mb,96,muV L.hb t sb m)::E) D Q):=H.alloc hS 61 #[.int .i64 0,.int .i64 0,.int .i64 0,.int .u64 0,.bool false,.bool false,.bool false,.bool false,.slice none 0 0]
 have HEnd:Hid (∀w' a0 a1 a2 a3 a4 a5 a6 a7 a8 v0 v1 v2 v3 v4 v5 v6 v7 v8,HM W w' L X h2 x2 s k ((mb,96,muV L.hb t sb (MU.zero (m.dn+1)))::(w.heap.size,61,#[a0,a1,a2,a3,a4,a5,a6,a7,a8])::E) D Q→HM W (put9 w' w.heap.size v0 v1 v2 v3 v4 v5 v6 v7 v8) L X h2 x2 s k ((mb,96,muV L.hb t sb (MU.zero (m.dn+1)))::E) D Q):=fun w' a0 a1 a2 a3 a4 a5 a6 a7 a8 v0 v1 v2 v3 v4 v5 v6 v7 v8 q=>
  q.swap.res9 hS hT (fun y hy=>by
   rcases List.mem_cons.1 hy with rfl | hy
   ·exact fun e=>hrm e.symm
   ·exact hrE y hy) v0 v1 v2 v3 v4 v5 v6 v7 v8
 have HC:=hide (hcall _ _ (hneR _) HX.out.swap)
 have HAn:Hid (∀w',HM W w' L X h2 x2 s k ((mb,96,muV L.hb t sb m)::(w.heap.size,61,#[.int .i64 0,.int .i64 0,.int .i64 0,.int .u64 0,.bool false,.bool false,.bool false,.bool false,.slice none 0 0])::E) D Q→Calls Tryz.prog 42 #[.pointer (some ⟨mb,0,none⟩),ansV 0 0 y] w' fun e w''=>e=.returned (.agg #[.int .i64 (t:Int),.int .i64 (m.dn:Int),.int .i64 y.code,.int .u64 y.word,.bool y.bit,.bool true,.bool false,.bool false,.slice none 0 0])∧HM W w'' L X h2 x2 s k ((mb,96,muV L.hb t sb (MU.zero (m.dn+1)))::(w.heap.size,61,#[.int .i64 0,.int .i64 0,.int .i64 0,.int .u64 0,.bool false,.bool false,.bool false,.bool false,.slice none 0 0])::E) D Q):=fun w' q=>HM.answer hS hT q (hneR _) hd 0 0 y
 obtain⟨c0,c1,c2,c3,c4,c5,c6,c7,c8,c9,c10⟩:=muCells hmb
 have k1:(m.k==1)=false:=by simp;omega
 have k2:(m.k==2)=false:=by simp;omega
 have k3:(m.k==3)=false:=by simp;omega
 have k4:(m.k==4)=false:=by simp;omega
 have k5:(m.k==5)=false:=by simp;omega
 unfold resV
 unfold ansV at HC HAn
 clear H hmb hltE HX hne hneR hrm hrE hk hcall hd
 generalize m.k=kk at *
 go_enter Tryz.func31,Tryz.ntmps31
 go_wp2_with fail
 refine HC.out.mono ?_
 rintro e w4 ⟨rfl,hA⟩
 have HA4:=hide (HAn.out _ hA)
 clear hA c0 c1 c2 c3 c4 c5 c6 c7 c8 c9 c10 HC
 go_wp2_with fail
 refine HA4.out.mono ?_
 rintro e w5 ⟨rfl,hA⟩
 have HA5:=hide hA
 have hrb:=hA.blk (List.mem_cons_of_mem _ (List.mem_cons_self ..))
 have y0:=hrb.cell 0
 have y1:=hrb.cell 1
 have y2:=hrb.cell 2
 have y3:=hrb.cell 3
 have y4:=hrb.cell 4
 have y5:=hrb.cell 5
 have y6:=hrb.cell 6
 have y7:=hrb.cell 7
 have y8:=hrb.cell 8
 have z0:=hrb.frozen 0
 have z1:=hrb.frozen 1
 have z2:=hrb.frozen 2
 have z3:=hrb.frozen 3
 have z4:=hrb.frozen 4
 have z5:=hrb.frozen 5
 have z6:=hrb.frozen 6
 have z7:=hrb.frozen 7
 have z8:=hrb.frozen 8
 have NR:=hrb.lt
 clear hA hrb
 go_wp2_with fail
 refine bodyPost_ret (v:=.agg #[.int .i64 (t:Int),.int .i64 (m.dn:Int),.int .i64 y.code,.int .u64 y.word,.bool y.bit,.bool true,.bool false,.bool false,.slice none 0 0]) (by simp [results,Tryz.results31,go_sem, *]) rfl ⟨rfl,?_⟩
 exact HEnd.out _ _ _ _ _ _ _ _ _ _ _ _ _ _ _ _ _ _ _ HA5.out
end
section
variable {W w w':World}{L:HL}{X:HX}{h h2:HS}{x x2:HT}{s k:Nat}{E:Blks}{D:Nat→Prop}{Q:World→Prop}{mb t sb:Nat}{m m':MU}{r0 r1 r2 r3:Int}{b4 b5 b6 b7:Bool}{A8:Option Addr}{n8 c8:Nat}
set_option maxHeartbeats 1600000 in
theorem mtbegin_alloc(hS:Lives D Q)(hT:Tab W)(H:HM W w L X h x s k ((mb,96,muV L.hb t sb m)::E) D Q)(hne:∀q,q∈E→q.1≠mb)(hk:m.k=1)
  (hcall:∀w' rb c,rb≠mb→(∀q,q∈E→q.1≠rb)→HM W w' L X h x s k ((mb,96,muV L.hb t sb m)::(rb,61,c)::E) D Q→Calls Tryz.prog 50 #[.pointer (some ⟨mb,0,none⟩)] w' fun e w''=>e=.returned (.agg #[.int .i64 r0,.int .i64 r1,.int .i64 r2,.int .u64 r3,.bool b4,.bool b5,.bool b6,.bool b7,.slice A8 n8 c8])∧HM W w'' L X h2 x2 s k ((mb,96,muV L.hb t sb m')::(rb,61,c)::E) D Q) :
  Calls Tryz.prog 31 #[.pointer (some ⟨mb,0,none⟩)] w fun e w'=>e=.returned (.agg #[.int .i64 r0,.int .i64 r1,.int .i64 r2,.int .u64 r3,.bool b4,.bool b5,.bool b6,.bool b7,.slice A8 n8 c8])∧HM W w' L X h2 x2 s k ((mb,96,muV L.hb t sb m')::E) D Q:=by
 have hmb:=H.blk (List.mem_cons_self ..)
 have hlt:=hmb.lt
 have hltE:∀q,q∈E→q.1<w.heap.size:=fun q hq=>(H.blk (b:=q.1) (t:=q.2.1) (cs:=q.2.2) (List.mem_cons_of_mem _ hq)).lt
 have hr:w.heap.size≠mb:=by omega
 have hq:∀q,q∈E→q.1≠w.heap.size:=fun q hq=>by have:=hltE q hq;omega
 have HC:=hide (hcall _ w.heap.size #[.int .i64 0,.int .i64 0,.int .i64 0,.int .u64 0,.bool false,.bool false,.bool false,.bool false,.slice none 0 0] hr hq ((H.alloc hS 61 #[.int .i64 0,.int .i64 0,.int .i64 0,.int .u64 0,.bool false,.bool false,.bool false,.bool false,.slice none 0 0]).sub (fun y hy=>by simp only [List.mem_cons]at hy ⊢;rcases hy with e | e | e <;> simp [e])))
 have HEnd:Hid (∀w' a0 a1 a2 a3 a4 a5 a6 a7 a8,HM W w' L X h2 x2 s k ((mb,96,muV L.hb t sb m')::(w.heap.size,61,#[a0,a1,a2,a3,a4,a5,a6,a7,a8])::E) D Q→HM W (put9 w' w.heap.size (.int .i64 r0) (.int .i64 r1) (.int .i64 r2) (.int .u64 r3) (.bool b4) (.bool b5) (.bool b6) (.bool b7) (.slice A8 n8 c8)) L X h2 x2 s k ((mb,96,muV L.hb t sb m')::E) D Q):=fun w' a0 a1 a2 a3 a4 a5 a6 a7 a8 q=>by
  have q2:HM W w' L X h2 x2 s k ((w.heap.size,61,#[a0,a1,a2,a3,a4,a5,a6,a7,a8])::(mb,96,muV L.hb t sb m')::E) D Q:=q.sub (fun y hy=>by simp only [List.mem_cons]at hy ⊢;rcases hy with e | e | e <;> simp [e])
  exact q2.res9 hS hT (fun y hy=>by
   rcases List.mem_cons.1 hy with rfl | hy
   ·exact fun e=>hr e.symm
   ·exact hq y hy) (.int .i64 r0) (.int .i64 r1) (.int .i64 r2) (.int .u64 r3) (.bool b4) (.bool b5) (.bool b6) (.bool b7) (.slice A8 n8 c8)
 obtain⟨c0,c1,c2,c3,c4,c5,c6,c7,c8,c9,c10⟩:=muCells hmb
 rw [hk]at c4
 clear H hmb hltE hcall hne hk hr hq
 go_enter Tryz.func31,Tryz.ntmps31
 go_wp2_with fail
 refine HC.out.mono ?_
 rintro e w5 ⟨rfl,hA⟩
 have HA5:=hide hA
 have hrb:=hA.blk (List.mem_cons_of_mem _ (List.mem_cons_self ..))
 have y0:=hrb.cell 0
 have y1:=hrb.cell 1
 have y2:=hrb.cell 2
 have y3:=hrb.cell 3
 have y4:=hrb.cell 4
 have y5:=hrb.cell 5
 have y6:=hrb.cell 6
 have y7:=hrb.cell 7
 have y8:=hrb.cell 8
 have z0:=hrb.frozen 0
 have z1:=hrb.frozen 1
 have z2:=hrb.frozen 2
 have z3:=hrb.frozen 3
 have z4:=hrb.frozen 4
 have z5:=hrb.frozen 5
 have z6:=hrb.frozen 6
 have z7:=hrb.frozen 7
 have z8:=hrb.frozen 8
 have NR:=hrb.lt
 clear hA hrb HC c0 c1 c2 c3 c4 c5 c6 c7 c8 c9 c10
 go_wp2_with fail
 refine bodyPost_ret (v:=.agg #[.int .i64 r0,.int .i64 r1,.int .i64 r2,.int .u64 r3,.bool b4,.bool b5,.bool b6,.bool b7,.slice A8 n8 c8]) (by simp [results,Tryz.results31,go_sem, *]) rfl ⟨rfl,?_⟩
 exact HEnd.out _ _ _ _ _ _ _ _ _ _ HA5.out
set_option maxHeartbeats 1600000 in
theorem mtstep_begun(hS:Lives D Q)(hT:Tab W)(H:HM W w L X h x s k ((mb,96,muV L.hb t sb m)::E) D Q)(hne:∀q,q∈E→q.1≠mb)(hk:m.st=1)
  (hcall:∀w' rb c,rb≠mb→(∀q,q∈E→q.1≠rb)→HM W w' L X h x s k ((mb,96,muV L.hb t sb m)::(rb,61,c)::E) D Q→Calls Tryz.prog 31 #[.pointer (some ⟨mb,0,none⟩)] w' fun e w''=>e=.returned (.agg #[.int .i64 r0,.int .i64 r1,.int .i64 r2,.int .u64 r3,.bool b4,.bool b5,.bool b6,.bool b7,.slice A8 n8 c8])∧HM W w'' L X h2 x2 s k ((mb,96,muV L.hb t sb m')::(rb,61,c)::E) D Q) :
  Calls Tryz.prog 13 #[.pointer (some ⟨mb,0,none⟩)] w fun e w'=>e=.returned (.agg #[.int .i64 r0,.int .i64 r1,.int .i64 r2,.int .u64 r3,.bool b4,.bool b5,.bool b6,.bool b7,.slice A8 n8 c8])∧HM W w' L X h2 x2 s k ((mb,96,muV L.hb t sb m')::E) D Q:=by
 have hmb:=H.blk (List.mem_cons_self ..)
 have hlt:=hmb.lt
 have hltE:∀q,q∈E→q.1<w.heap.size:=fun q hq=>(H.blk (b:=q.1) (t:=q.2.1) (cs:=q.2.2) (List.mem_cons_of_mem _ hq)).lt
 have hr:w.heap.size≠mb:=by omega
 have hq:∀q,q∈E→q.1≠w.heap.size:=fun q hq=>by have:=hltE q hq;omega
 have HC:=hide (hcall _ w.heap.size #[.int .i64 0,.int .i64 0,.int .i64 0,.int .u64 0,.bool false,.bool false,.bool false,.bool false,.slice none 0 0] hr hq ((H.alloc hS 61 #[.int .i64 0,.int .i64 0,.int .i64 0,.int .u64 0,.bool false,.bool false,.bool false,.bool false,.slice none 0 0]).sub (fun y hy=>by simp only [List.mem_cons]at hy ⊢;rcases hy with e | e | e <;> simp [e])))
 have HEnd:Hid (∀w' a0 a1 a2 a3 a4 a5 a6 a7 a8,HM W w' L X h2 x2 s k ((mb,96,muV L.hb t sb m')::(w.heap.size,61,#[a0,a1,a2,a3,a4,a5,a6,a7,a8])::E) D Q→HM W (put9 w' w.heap.size (.int .i64 r0) (.int .i64 r1) (.int .i64 r2) (.int .u64 r3) (.bool b4) (.bool b5) (.bool b6) (.bool b7) (.slice A8 n8 c8)) L X h2 x2 s k ((mb,96,muV L.hb t sb m')::E) D Q):=fun w' a0 a1 a2 a3 a4 a5 a6 a7 a8 q=>by
  have q2:HM W w' L X h2 x2 s k ((w.heap.size,61,#[a0,a1,a2,a3,a4,a5,a6,a7,a8])::(mb,96,muV L.hb t sb m')::E) D Q:=q.sub (fun y hy=>by simp only [List.mem_cons]at hy ⊢;rcases hy with e | e | e <;> simp [e])
  exact q2.res9 hS hT (fun y hy=>by
   rcases List.mem_cons.1 hy with rfl | hy
   ·exact fun e=>hr e.symm
   ·exact hq y hy) (.int .i64 r0) (.int .i64 r1) (.int .i64 r2) (.int .u64 r3) (.bool b4) (.bool b5) (.bool b6) (.bool b7) (.slice A8 n8 c8)
 obtain⟨c0,c1,c2,c3,c4,c5,c6,c7,c8,c9,c10⟩:=muCells hmb
 rw [hk]at c9
 clear H hmb hltE hcall hne hk hr hq
 go_enter Tryz.func13,Tryz.ntmps13
 go_wp2_with fail
 refine HC.out.mono ?_
 rintro e w5 ⟨rfl,hA⟩
 have HA5:=hide hA
 have hrb:=hA.blk (List.mem_cons_of_mem _ (List.mem_cons_self ..))
 have y0:=hrb.cell 0
 have y1:=hrb.cell 1
 have y2:=hrb.cell 2
 have y3:=hrb.cell 3
 have y4:=hrb.cell 4
 have y5:=hrb.cell 5
 have y6:=hrb.cell 6
 have y7:=hrb.cell 7
 have y8:=hrb.cell 8
 have z0:=hrb.frozen 0
 have z1:=hrb.frozen 1
 have z2:=hrb.frozen 2
 have z3:=hrb.frozen 3
 have z4:=hrb.frozen 4
 have z5:=hrb.frozen 5
 have z6:=hrb.frozen 6
 have z7:=hrb.frozen 7
 have z8:=hrb.frozen 8
 have NR:=hrb.lt
 clear hA hrb HC c0 c1 c2 c3 c4 c5 c6 c7 c8 c9 c10
 go_wp2_with fail
 refine bodyPost_ret (v:=.agg #[.int .i64 r0,.int .i64 r1,.int .i64 r2,.int .u64 r3,.bool b4,.bool b5,.bool b6,.bool b7,.slice A8 n8 c8]) (by simp [results,Tryz.results13,go_sem, *]) rfl ⟨rfl,?_⟩
 exact HEnd.out _ _ _ _ _ _ _ _ _ _ HA5.out
set_option maxHeartbeats 1600000 in
theorem mtstep_waiting(hS:Lives D Q)(hT:Tab W)(H:HM W w L X h x s k ((mb,96,muV L.hb t sb m)::E) D Q)(hne:∀q,q∈E→q.1≠mb)(hk:m.st=2)
  (hcall:∀w' rb c,rb≠mb→(∀q,q∈E→q.1≠rb)→HM W w' L X h x s k ((mb,96,muV L.hb t sb m)::(rb,61,c)::E) D Q→Calls Tryz.prog 31 #[.pointer (some ⟨mb,0,none⟩)] w' fun e w''=>e=.returned (.agg #[.int .i64 r0,.int .i64 r1,.int .i64 r2,.int .u64 r3,.bool b4,.bool b5,.bool b6,.bool b7,.slice A8 n8 c8])∧HM W w'' L X h2 x2 s k ((mb,96,muV L.hb t sb m')::(rb,61,c)::E) D Q) :
  Calls Tryz.prog 13 #[.pointer (some ⟨mb,0,none⟩)] w fun e w'=>e=.returned (.agg #[.int .i64 r0,.int .i64 r1,.int .i64 r2,.int .u64 r3,.bool b4,.bool b5,.bool b6,.bool b7,.slice A8 n8 c8])∧HM W w' L X h2 x2 s k ((mb,96,muV L.hb t sb m')::E) D Q:=by
 have hmb:=H.blk (List.mem_cons_self ..)
 have hlt:=hmb.lt
 have hltE:∀q,q∈E→q.1<w.heap.size:=fun q hq=>(H.blk (b:=q.1) (t:=q.2.1) (cs:=q.2.2) (List.mem_cons_of_mem _ hq)).lt
 have hr:w.heap.size≠mb:=by omega
 have hq:∀q,q∈E→q.1≠w.heap.size:=fun q hq=>by have:=hltE q hq;omega
 have HC:=hide (hcall _ w.heap.size #[.int .i64 0,.int .i64 0,.int .i64 0,.int .u64 0,.bool false,.bool false,.bool false,.bool false,.slice none 0 0] hr hq ((H.alloc hS 61 #[.int .i64 0,.int .i64 0,.int .i64 0,.int .u64 0,.bool false,.bool false,.bool false,.bool false,.slice none 0 0]).sub (fun y hy=>by simp only [List.mem_cons]at hy ⊢;rcases hy with e | e | e <;> simp [e])))
 have HEnd:Hid (∀w' a0 a1 a2 a3 a4 a5 a6 a7 a8,HM W w' L X h2 x2 s k ((mb,96,muV L.hb t sb m')::(w.heap.size,61,#[a0,a1,a2,a3,a4,a5,a6,a7,a8])::E) D Q→HM W (put9 w' w.heap.size (.int .i64 r0) (.int .i64 r1) (.int .i64 r2) (.int .u64 r3) (.bool b4) (.bool b5) (.bool b6) (.bool b7) (.slice A8 n8 c8)) L X h2 x2 s k ((mb,96,muV L.hb t sb m')::E) D Q):=fun w' a0 a1 a2 a3 a4 a5 a6 a7 a8 q=>by
  have q2:HM W w' L X h2 x2 s k ((w.heap.size,61,#[a0,a1,a2,a3,a4,a5,a6,a7,a8])::(mb,96,muV L.hb t sb m')::E) D Q:=q.sub (fun y hy=>by simp only [List.mem_cons]at hy ⊢;rcases hy with e | e | e <;> simp [e])
  exact q2.res9 hS hT (fun y hy=>by
   rcases List.mem_cons.1 hy with rfl | hy
   ·exact fun e=>hr e.symm
   ·exact hq y hy) (.int .i64 r0) (.int .i64 r1) (.int .i64 r2) (.int .u64 r3) (.bool b4) (.bool b5) (.bool b6) (.bool b7) (.slice A8 n8 c8)
 obtain⟨c0,c1,c2,c3,c4,c5,c6,c7,c8,c9,c10⟩:=muCells hmb
 rw [hk]at c9
 clear H hmb hltE hcall hne hk hr hq
 go_enter Tryz.func13,Tryz.ntmps13
 go_wp2_with fail
 refine HC.out.mono ?_
 rintro e w5 ⟨rfl,hA⟩
 have HA5:=hide hA
 have hrb:=hA.blk (List.mem_cons_of_mem _ (List.mem_cons_self ..))
 have y0:=hrb.cell 0
 have y1:=hrb.cell 1
 have y2:=hrb.cell 2
 have y3:=hrb.cell 3
 have y4:=hrb.cell 4
 have y5:=hrb.cell 5
 have y6:=hrb.cell 6
 have y7:=hrb.cell 7
 have y8:=hrb.cell 8
 have z0:=hrb.frozen 0
 have z1:=hrb.frozen 1
 have z2:=hrb.frozen 2
 have z3:=hrb.frozen 3
 have z4:=hrb.frozen 4
 have z5:=hrb.frozen 5
 have z6:=hrb.frozen 6
 have z7:=hrb.frozen 7
 have z8:=hrb.frozen 8
 have NR:=hrb.lt
 clear hA hrb HC c0 c1 c2 c3 c4 c5 c6 c7 c8 c9 c10
 go_wp2_with fail
 refine bodyPost_ret (v:=.agg #[.int .i64 r0,.int .i64 r1,.int .i64 r2,.int .u64 r3,.bool b4,.bool b5,.bool b6,.bool b7,.slice A8 n8 c8]) (by simp [results,Tryz.results13,go_sem, *]) rfl ⟨rfl,?_⟩
 exact HEnd.out _ _ _ _ _ _ _ _ _ _ HA5.out
set_option maxHeartbeats 1600000 in
theorem mtstep_looked(hS:Lives D Q)(hT:Tab W)(H:HM W w L X h x s k ((mb,96,muV L.hb t sb m)::E) D Q)(hne:∀q,q∈E→q.1≠mb)(hk:m.st=3)
  (hcall:∀w' rb c,rb≠mb→(∀q,q∈E→q.1≠rb)→HM W w' L X h x s k ((mb,96,muV L.hb t sb m)::(rb,61,c)::E) D Q→Calls Tryz.prog 32 #[.pointer (some ⟨mb,0,none⟩)] w' fun e w''=>e=.returned (.agg #[.int .i64 r0,.int .i64 r1,.int .i64 r2,.int .u64 r3,.bool b4,.bool b5,.bool b6,.bool b7,.slice A8 n8 c8])∧HM W w'' L X h2 x2 s k ((mb,96,muV L.hb t sb m')::(rb,61,c)::E) D Q) :
  Calls Tryz.prog 13 #[.pointer (some ⟨mb,0,none⟩)] w fun e w'=>e=.returned (.agg #[.int .i64 r0,.int .i64 r1,.int .i64 r2,.int .u64 r3,.bool b4,.bool b5,.bool b6,.bool b7,.slice A8 n8 c8])∧HM W w' L X h2 x2 s k ((mb,96,muV L.hb t sb m')::E) D Q:=by
 have hmb:=H.blk (List.mem_cons_self ..)
 have hlt:=hmb.lt
 have hltE:∀q,q∈E→q.1<w.heap.size:=fun q hq=>(H.blk (b:=q.1) (t:=q.2.1) (cs:=q.2.2) (List.mem_cons_of_mem _ hq)).lt
 have hr:w.heap.size≠mb:=by omega
 have hq:∀q,q∈E→q.1≠w.heap.size:=fun q hq=>by have:=hltE q hq;omega
 have HC:=hide (hcall _ w.heap.size #[.int .i64 0,.int .i64 0,.int .i64 0,.int .u64 0,.bool false,.bool false,.bool false,.bool false,.slice none 0 0] hr hq ((H.alloc hS 61 #[.int .i64 0,.int .i64 0,.int .i64 0,.int .u64 0,.bool false,.bool false,.bool false,.bool false,.slice none 0 0]).sub (fun y hy=>by simp only [List.mem_cons]at hy ⊢;rcases hy with e | e | e <;> simp [e])))
 have HEnd:Hid (∀w' a0 a1 a2 a3 a4 a5 a6 a7 a8,HM W w' L X h2 x2 s k ((mb,96,muV L.hb t sb m')::(w.heap.size,61,#[a0,a1,a2,a3,a4,a5,a6,a7,a8])::E) D Q→HM W (put9 w' w.heap.size (.int .i64 r0) (.int .i64 r1) (.int .i64 r2) (.int .u64 r3) (.bool b4) (.bool b5) (.bool b6) (.bool b7) (.slice A8 n8 c8)) L X h2 x2 s k ((mb,96,muV L.hb t sb m')::E) D Q):=fun w' a0 a1 a2 a3 a4 a5 a6 a7 a8 q=>by
  have q2:HM W w' L X h2 x2 s k ((w.heap.size,61,#[a0,a1,a2,a3,a4,a5,a6,a7,a8])::(mb,96,muV L.hb t sb m')::E) D Q:=q.sub (fun y hy=>by simp only [List.mem_cons]at hy ⊢;rcases hy with e | e | e <;> simp [e])
  exact q2.res9 hS hT (fun y hy=>by
   rcases List.mem_cons.1 hy with rfl | hy
   ·exact fun e=>hr e.symm
   ·exact hq y hy) (.int .i64 r0) (.int .i64 r1) (.int .i64 r2) (.int .u64 r3) (.bool b4) (.bool b5) (.bool b6) (.bool b7) (.slice A8 n8 c8)
 obtain⟨c0,c1,c2,c3,c4,c5,c6,c7,c8,c9,c10⟩:=muCells hmb
 rw [hk]at c9
 clear H hmb hltE hcall hne hk hr hq
 go_enter Tryz.func13,Tryz.ntmps13
 go_wp2_with fail
 refine HC.out.mono ?_
 rintro e w5 ⟨rfl,hA⟩
 have HA5:=hide hA
 have hrb:=hA.blk (List.mem_cons_of_mem _ (List.mem_cons_self ..))
 have y0:=hrb.cell 0
 have y1:=hrb.cell 1
 have y2:=hrb.cell 2
 have y3:=hrb.cell 3
 have y4:=hrb.cell 4
 have y5:=hrb.cell 5
 have y6:=hrb.cell 6
 have y7:=hrb.cell 7
 have y8:=hrb.cell 8
 have z0:=hrb.frozen 0
 have z1:=hrb.frozen 1
 have z2:=hrb.frozen 2
 have z3:=hrb.frozen 3
 have z4:=hrb.frozen 4
 have z5:=hrb.frozen 5
 have z6:=hrb.frozen 6
 have z7:=hrb.frozen 7
 have z8:=hrb.frozen 8
 have NR:=hrb.lt
 clear hA hrb HC c0 c1 c2 c3 c4 c5 c6 c7 c8 c9 c10
 go_wp2_with fail
 refine bodyPost_ret (v:=.agg #[.int .i64 r0,.int .i64 r1,.int .i64 r2,.int .u64 r3,.bool b4,.bool b5,.bool b6,.bool b7,.slice A8 n8 c8]) (by simp [results,Tryz.results13,go_sem, *]) rfl ⟨rfl,?_⟩
 exact HEnd.out _ _ _ _ _ _ _ _ _ _ HA5.out
set_option maxHeartbeats 1600000 in
theorem mtstep_logged(hS:Lives D Q)(hT:Tab W)(H:HM W w L X h x s k ((mb,96,muV L.hb t sb m)::E) D Q)(hne:∀q,q∈E→q.1≠mb)(hk:m.st=4)
  (hcall:∀w' rb c,rb≠mb→(∀q,q∈E→q.1≠rb)→HM W w' L X h x s k ((mb,96,muV L.hb t sb m)::(rb,61,c)::E) D Q→Calls Tryz.prog 33 #[.pointer (some ⟨mb,0,none⟩)] w' fun e w''=>e=.returned (.agg #[.int .i64 r0,.int .i64 r1,.int .i64 r2,.int .u64 r3,.bool b4,.bool b5,.bool b6,.bool b7,.slice A8 n8 c8])∧HM W w'' L X h2 x2 s k ((mb,96,muV L.hb t sb m')::(rb,61,c)::E) D Q) :
  Calls Tryz.prog 13 #[.pointer (some ⟨mb,0,none⟩)] w fun e w'=>e=.returned (.agg #[.int .i64 r0,.int .i64 r1,.int .i64 r2,.int .u64 r3,.bool b4,.bool b5,.bool b6,.bool b7,.slice A8 n8 c8])∧HM W w' L X h2 x2 s k ((mb,96,muV L.hb t sb m')::E) D Q:=by
 have hmb:=H.blk (List.mem_cons_self ..)
 have hlt:=hmb.lt
 have hltE:∀q,q∈E→q.1<w.heap.size:=fun q hq=>(H.blk (b:=q.1) (t:=q.2.1) (cs:=q.2.2) (List.mem_cons_of_mem _ hq)).lt
 have hr:w.heap.size≠mb:=by omega
 have hq:∀q,q∈E→q.1≠w.heap.size:=fun q hq=>by have:=hltE q hq;omega
 have HC:=hide (hcall _ w.heap.size #[.int .i64 0,.int .i64 0,.int .i64 0,.int .u64 0,.bool false,.bool false,.bool false,.bool false,.slice none 0 0] hr hq ((H.alloc hS 61 #[.int .i64 0,.int .i64 0,.int .i64 0,.int .u64 0,.bool false,.bool false,.bool false,.bool false,.slice none 0 0]).sub (fun y hy=>by simp only [List.mem_cons]at hy ⊢;rcases hy with e | e | e <;> simp [e])))
 have HEnd:Hid (∀w' a0 a1 a2 a3 a4 a5 a6 a7 a8,HM W w' L X h2 x2 s k ((mb,96,muV L.hb t sb m')::(w.heap.size,61,#[a0,a1,a2,a3,a4,a5,a6,a7,a8])::E) D Q→HM W (put9 w' w.heap.size (.int .i64 r0) (.int .i64 r1) (.int .i64 r2) (.int .u64 r3) (.bool b4) (.bool b5) (.bool b6) (.bool b7) (.slice A8 n8 c8)) L X h2 x2 s k ((mb,96,muV L.hb t sb m')::E) D Q):=fun w' a0 a1 a2 a3 a4 a5 a6 a7 a8 q=>by
  have q2:HM W w' L X h2 x2 s k ((w.heap.size,61,#[a0,a1,a2,a3,a4,a5,a6,a7,a8])::(mb,96,muV L.hb t sb m')::E) D Q:=q.sub (fun y hy=>by simp only [List.mem_cons]at hy ⊢;rcases hy with e | e | e <;> simp [e])
  exact q2.res9 hS hT (fun y hy=>by
   rcases List.mem_cons.1 hy with rfl | hy
   ·exact fun e=>hr e.symm
   ·exact hq y hy) (.int .i64 r0) (.int .i64 r1) (.int .i64 r2) (.int .u64 r3) (.bool b4) (.bool b5) (.bool b6) (.bool b7) (.slice A8 n8 c8)
 obtain⟨c0,c1,c2,c3,c4,c5,c6,c7,c8,c9,c10⟩:=muCells hmb
 rw [hk]at c9
 clear H hmb hltE hcall hne hk hr hq
 go_enter Tryz.func13,Tryz.ntmps13
 go_wp2_with fail
 refine HC.out.mono ?_
 rintro e w5 ⟨rfl,hA⟩
 have HA5:=hide hA
 have hrb:=hA.blk (List.mem_cons_of_mem _ (List.mem_cons_self ..))
 have y0:=hrb.cell 0
 have y1:=hrb.cell 1
 have y2:=hrb.cell 2
 have y3:=hrb.cell 3
 have y4:=hrb.cell 4
 have y5:=hrb.cell 5
 have y6:=hrb.cell 6
 have y7:=hrb.cell 7
 have y8:=hrb.cell 8
 have z0:=hrb.frozen 0
 have z1:=hrb.frozen 1
 have z2:=hrb.frozen 2
 have z3:=hrb.frozen 3
 have z4:=hrb.frozen 4
 have z5:=hrb.frozen 5
 have z6:=hrb.frozen 6
 have z7:=hrb.frozen 7
 have z8:=hrb.frozen 8
 have NR:=hrb.lt
 clear hA hrb HC c0 c1 c2 c3 c4 c5 c6 c7 c8 c9 c10
 go_wp2_with fail
 refine bodyPost_ret (v:=.agg #[.int .i64 r0,.int .i64 r1,.int .i64 r2,.int .u64 r3,.bool b4,.bool b5,.bool b6,.bool b7,.slice A8 n8 c8]) (by simp [results,Tryz.results13,go_sem, *]) rfl ⟨rfl,?_⟩
 exact HEnd.out _ _ _ _ _ _ _ _ _ _ HA5.out
set_option maxHeartbeats 1600000 in
theorem mtstep_taken(hS:Lives D Q)(hT:Tab W)(H:HM W w L X h x s k ((mb,96,muV L.hb t sb m)::E) D Q)(hne:∀q,q∈E→q.1≠mb)(hk:m.st=5)
  (hcall:∀w' rb c,rb≠mb→(∀q,q∈E→q.1≠rb)→HM W w' L X h x s k ((mb,96,muV L.hb t sb m)::(rb,61,c)::E) D Q→Calls Tryz.prog 34 #[.pointer (some ⟨mb,0,none⟩)] w' fun e w''=>e=.returned (.agg #[.int .i64 r0,.int .i64 r1,.int .i64 r2,.int .u64 r3,.bool b4,.bool b5,.bool b6,.bool b7,.slice A8 n8 c8])∧HM W w'' L X h2 x2 s k ((mb,96,muV L.hb t sb m')::(rb,61,c)::E) D Q) :
  Calls Tryz.prog 13 #[.pointer (some ⟨mb,0,none⟩)] w fun e w'=>e=.returned (.agg #[.int .i64 r0,.int .i64 r1,.int .i64 r2,.int .u64 r3,.bool b4,.bool b5,.bool b6,.bool b7,.slice A8 n8 c8])∧HM W w' L X h2 x2 s k ((mb,96,muV L.hb t sb m')::E) D Q:=by
 have hmb:=H.blk (List.mem_cons_self ..)
 have hlt:=hmb.lt
 have hltE:∀q,q∈E→q.1<w.heap.size:=fun q hq=>(H.blk (b:=q.1) (t:=q.2.1) (cs:=q.2.2) (List.mem_cons_of_mem _ hq)).lt
 have hr:w.heap.size≠mb:=by omega
 have hq:∀q,q∈E→q.1≠w.heap.size:=fun q hq=>by have:=hltE q hq;omega
 have HC:=hide (hcall _ w.heap.size #[.int .i64 0,.int .i64 0,.int .i64 0,.int .u64 0,.bool false,.bool false,.bool false,.bool false,.slice none 0 0] hr hq ((H.alloc hS 61 #[.int .i64 0,.int .i64 0,.int .i64 0,.int .u64 0,.bool false,.bool false,.bool false,.bool false,.slice none 0 0]).sub (fun y hy=>by simp only [List.mem_cons]at hy ⊢;rcases hy with e | e | e <;> simp [e])))
 have HEnd:Hid (∀w' a0 a1 a2 a3 a4 a5 a6 a7 a8,HM W w' L X h2 x2 s k ((mb,96,muV L.hb t sb m')::(w.heap.size,61,#[a0,a1,a2,a3,a4,a5,a6,a7,a8])::E) D Q→HM W (put9 w' w.heap.size (.int .i64 r0) (.int .i64 r1) (.int .i64 r2) (.int .u64 r3) (.bool b4) (.bool b5) (.bool b6) (.bool b7) (.slice A8 n8 c8)) L X h2 x2 s k ((mb,96,muV L.hb t sb m')::E) D Q):=fun w' a0 a1 a2 a3 a4 a5 a6 a7 a8 q=>by
  have q2:HM W w' L X h2 x2 s k ((w.heap.size,61,#[a0,a1,a2,a3,a4,a5,a6,a7,a8])::(mb,96,muV L.hb t sb m')::E) D Q:=q.sub (fun y hy=>by simp only [List.mem_cons]at hy ⊢;rcases hy with e | e | e <;> simp [e])
  exact q2.res9 hS hT (fun y hy=>by
   rcases List.mem_cons.1 hy with rfl | hy
   ·exact fun e=>hr e.symm
   ·exact hq y hy) (.int .i64 r0) (.int .i64 r1) (.int .i64 r2) (.int .u64 r3) (.bool b4) (.bool b5) (.bool b6) (.bool b7) (.slice A8 n8 c8)
 obtain⟨c0,c1,c2,c3,c4,c5,c6,c7,c8,c9,c10⟩:=muCells hmb
 rw [hk]at c9
 clear H hmb hltE hcall hne hk hr hq
 go_enter Tryz.func13,Tryz.ntmps13
 go_wp2_with fail
 refine HC.out.mono ?_
 rintro e w5 ⟨rfl,hA⟩
 have HA5:=hide hA
 have hrb:=hA.blk (List.mem_cons_of_mem _ (List.mem_cons_self ..))
 have y0:=hrb.cell 0
 have y1:=hrb.cell 1
 have y2:=hrb.cell 2
 have y3:=hrb.cell 3
 have y4:=hrb.cell 4
 have y5:=hrb.cell 5
 have y6:=hrb.cell 6
 have y7:=hrb.cell 7
 have y8:=hrb.cell 8
 have z0:=hrb.frozen 0
 have z1:=hrb.frozen 1
 have z2:=hrb.frozen 2
 have z3:=hrb.frozen 3
 have z4:=hrb.frozen 4
 have z5:=hrb.frozen 5
 have z6:=hrb.frozen 6
 have z7:=hrb.frozen 7
 have z8:=hrb.frozen 8
 have NR:=hrb.lt
 clear hA hrb HC c0 c1 c2 c3 c4 c5 c6 c7 c8 c9 c10
 go_wp2_with fail
 refine bodyPost_ret (v:=.agg #[.int .i64 r0,.int .i64 r1,.int .i64 r2,.int .u64 r3,.bool b4,.bool b5,.bool b6,.bool b7,.slice A8 n8 c8]) (by simp [results,Tryz.results13,go_sem, *]) rfl ⟨rfl,?_⟩
 exact HEnd.out _ _ _ _ _ _ _ _ _ _ HA5.out
end
end Go.Proofs.YtfcjdinlcehpmaaGreatDoor
