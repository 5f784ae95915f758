/- Several texts joined (pack.py): Uw. -/
import Derived.Test.YtfcjdinlcehpmaaGreatDoorPW21
import Derived.WalkKit
import Derived.BigQuiet
namespace Go.Proofs.YtfcjdinlcehpmaaGreatDoor
set_option linter.unusedVariables false
set_option linter.unusedSimpArgs false
set_option maxRecDepth 100000
open Go.RowKit Go.Gl HS
section
variable {W w w':World}{L:HL}{X:HX}{h h2:HS}{x x2:HT}{s k:Nat}{E:Blks}{D:Nat→Prop}{Q:World→Prop}{mb t sb:Nat}{m:MU}
theorem HM.poke(hS:Lives D Q)(hT:Tab W){b:Nat}{ty:TypeId}{cs:Array Value}(H:HM W w L X h x s k ((b,ty,cs)::E) D Q)(hne:∀q,q∈E→q.1≠b)(i:Nat)(v:Value) :
  HM W (w.setCell ⟨b,i,none⟩ v) L X h x s k ((b,ty,cs.setIfInBounds i v)::E) D Q:=
 H.turn hS hT ((Fr.refl [b] w).setCell (p:=⟨b,i,none⟩) (.inl (by simp)) v) ((H.blk (List.mem_cons_self ..)).put i v) hne
set_option maxHeartbeats 3200000 in
theorem mtuse_load(hS:Lives D Q)(hT:Tab W)(H:HM W w L X h x s k ((mb,96,muV L.hb t sb m)::E) D Q)(hne:∀q,q∈E→q.1≠mb)(hk:m.k=2)(ht:t<h.T)(hd:(m.dn:Int)+1≤9223372036854775807){I:Nat}(had:m.ad=(I:Int))(hI:I<h.n)(hB:L.B≤64)(hl:(h.st t).length≤L.B) :
  Calls Tryz.prog 32 #[.pointer (some ⟨mb,0,none⟩)] w fun e w'=>e=.returned (resV (t:Int) (m.dn:Int) ⟨hkPushE L.B (h.st t),0,false⟩ true false false (.slice none 0 0))∧HM W w' L X { h with st:=setN h.st t (hkPush L.B (h.st t) (h.f I:Int)) } x s k ((mb,96,muV L.hb t sb (MU.zero (m.dn+1)))::E) D Q:=by
 have hmb:=H.blk (List.mem_cons_self ..)
 have hlt:=hmb.lt
 have hltE:∀q,q∈E→q.1<w.heap.size:=fun q hq=>(H.blk (b:=q.1) (t:=q.2.1) (cs:=q.2.2) (List.mem_cons_of_mem _ hq)).lt
 have hrm:w.heap.size≠mb:=by omega
 have hrE:∀q,q∈E→q.1≠w.heap.size:=fun q hq=>by have:=hltE q hq;omega
 have hneR:∀cs:Array Value,∀q,q∈((w.heap.size,61,cs)::E:Blks)→q.1≠mb:=fun cs q hq=>by
  rcases List.mem_cons.1 hq with rfl | hq
  ·exact hrm
  ·exact hne q hq
 have HX0:Hid (HM W (w.alloc (.cells #[.int .i64 0,.int .i64 0,.int .i64 0,.int .u64 0,.bool false,.bool false,.bool false,.bool false,.slice none 0 0] 61)) L X h x s k ((w.heap.size,61,#[.int .i64 0,.int .i64 0,.int .i64 0,.int .u64 0,.bool false,.bool false,.bool false,.bool false,.slice none 0 0])::(mb,96,muV L.hb t sb m)::E) D Q):=H.alloc hS 61 #[.int .i64 0,.int .i64 0,.int .i64 0,.int .u64 0,.bool false,.bool false,.bool false,.bool false,.slice none 0 0]
 have HEnd:Hid (∀w' a0 a1 a2 a3 a4 a5 a6 a7 a8 v0 v1 v2 v3 v4 v5 v6 v7 v8,HM W w' L X { h with st:=setN h.st t (hkPush L.B (h.st t) (h.f I:Int)) } x s k ((mb,96,muV L.hb t sb (MU.zero (m.dn+1)))::(w.heap.size,61,#[a0,a1,a2,a3,a4,a5,a6,a7,a8])::E) D Q→HM W (put9 w' w.heap.size v0 v1 v2 v3 v4 v5 v6 v7 v8) L X { h with st:=setN h.st t (hkPush L.B (h.st t) (h.f I:Int)) } x s k ((mb,96,muV L.hb t sb (MU.zero (m.dn+1)))::E) D Q):=fun w' a0 a1 a2 a3 a4 a5 a6 a7 a8 v0 v1 v2 v3 v4 v5 v6 v7 v8 q=>
  q.swap.res9 hS hT (fun y hy=>by
   rcases List.mem_cons.1 hy with rfl | hy
   ·exact fun e=>hrm e.symm
   ·exact hrE y hy) v0 v1 v2 v3 v4 v5 v6 v7 v8
 have HX:Hid (HM W (((w.alloc (.cells #[.int .i64 0,.int .i64 0,.int .i64 0,.int .u64 0,.bool false,.bool false,.bool false,.bool false,.slice none 0 0] 61)).alloc (.cells #[.int .i64 0,.int .i64 0,.int .i64 0,.int .u64 0,.bool false] 59)).alloc (.cells #[.int .i64 2,.int .i64 m.a,.int .i64 m.b,.int .i64 m.c,.int .u64 m.v] 44)).drew L X h x s k ((w.heap.size+1+1,44,#[.int .i64 2,.int .i64 m.a,.int .i64 m.b,.int .i64 m.c,.int .u64 m.v])::(w.heap.size+1,59,#[.int .i64 0,.int .i64 0,.int .i64 0,.int .u64 0,.bool false])::(w.heap.size,61,#[.int .i64 0,.int .i64 0,.int .i64 0,.int .u64 0,.bool false,.bool false,.bool false,.bool false,.slice none 0 0])::(mb,96,muV L.hb t sb m)::E) D Q∧∀n:Nat,HM W ((((w.alloc (.cells #[.int .i64 0,.int .i64 0,.int .i64 0,.int .u64 0,.bool false,.bool false,.bool false,.bool false,.slice none 0 0] 61)).alloc (.cells #[.int .i64 0,.int .i64 0,.int .i64 0,.int .u64 0,.bool false] 59)).alloc (.cells #[.int .i64 2,.int .i64 m.a,.int .i64 m.b,.int .i64 m.c,.int .u64 m.v] 44)).drew.drewN n) L X h x s k ((w.heap.size+1+1,44,#[.int .i64 2,.int .i64 m.a,.int .i64 m.b,.int .i64 m.c,.int .u64 m.v])::(w.heap.size+1,59,#[.int .i64 0,.int .i64 0,.int .i64 0,.int .u64 0,.bool false])::(w.heap.size,61,#[.int .i64 0,.int .i64 0,.int .i64 0,.int .u64 0,.bool false,.bool false,.bool false,.bool false,.slice none 0 0])::(mb,96,muV L.hb t sb m)::E) D Q):=by
  have q:=((HX0.out.alloc hS 59 #[.int .i64 0,.int .i64 0,.int .i64 0,.int .u64 0,.bool false]).alloc hS 44 #[.int .i64 2,.int .i64 m.a,.int .i64 m.b,.int .i64 m.c,.int .u64 m.v]).fr0 hS (Fr.refl _ _).drew
  rw [show((w.alloc (.cells #[.int .i64 0,.int .i64 0,.int .i64 0,.int .u64 0,.bool false,.bool false,.bool false,.bool false,.slice none 0 0] 61)).alloc (.cells #[.int .i64 0,.int .i64 0,.int .i64 0,.int .u64 0,.bool false] 59)).heap.size=w.heap.size+1+1 by simp,show(w.alloc (.cells #[.int .i64 0,.int .i64 0,.int .i64 0,.int .u64 0,.bool false,.bool false,.bool false,.bool false,.slice none 0 0] 61)).heap.size=w.heap.size+1 by simp]at q
  exact⟨q,fun n=>q.fr0 hS ((Fr.refl _ _).drewN n)⟩
 have HPk:Hid (∀w' v3 v2,HM W w' L X { h with st:=setN h.st t (hkPush L.B (h.st t) (h.f I:Int)) } x s k ((w.heap.size+1+1,44,#[.int .i64 2,.int .i64 m.a,.int .i64 m.b,.int .i64 m.c,.int .u64 m.v])::(w.heap.size+1,59,#[.int .i64 0,.int .i64 0,.int .i64 0,.int .u64 0,.bool false])::(w.heap.size,61,#[.int .i64 0,.int .i64 0,.int .i64 0,.int .u64 0,.bool false,.bool false,.bool false,.bool false,.slice none 0 0])::(mb,96,muV L.hb t sb m)::E) D Q→HM W ((w'.setCell ⟨w.heap.size+1,3,none⟩ v3).setCell ⟨w.heap.size+1,2,none⟩ v2) L X { h with st:=setN h.st t (hkPush L.B (h.st t) (h.f I:Int)) } x s k ((mb,96,muV L.hb t sb m)::(w.heap.size,61,#[.int .i64 0,.int .i64 0,.int .i64 0,.int .u64 0,.bool false,.bool false,.bool false,.bool false,.slice none 0 0])::E) D Q∧HM W (w'.setCell ⟨w.heap.size+1,2,none⟩ v2) L X { h with st:=setN h.st t (hkPush L.B (h.st t) (h.f I:Int)) } x s k ((mb,96,muV L.hb t sb m)::(w.heap.size,61,#[.int .i64 0,.int .i64 0,.int .i64 0,.int .u64 0,.bool false,.bool false,.bool false,.bool false,.slice none 0 0])::E) D Q):=fun w' v3 v2 q=>by
  have q1:HM W w' L X { h with st:=setN h.st t (hkPush L.B (h.st t) (h.f I:Int)) } x s k ((w.heap.size+1,59,#[.int .i64 0,.int .i64 0,.int .i64 0,.int .u64 0,.bool false])::(mb,96,muV L.hb t sb m)::(w.heap.size,61,#[.int .i64 0,.int .i64 0,.int .i64 0,.int .u64 0,.bool false,.bool false,.bool false,.bool false,.slice none 0 0])::E) D Q:=q.sub (fun y hy=>by simp only [List.mem_cons]at hy ⊢;rcases hy with e | e | e | e <;> simp [e])
  have hn:∀q,q∈((mb,96,muV L.hb t sb m)::(w.heap.size,61,#[.int .i64 0,.int .i64 0,.int .i64 0,.int .u64 0,.bool false,.bool false,.bool false,.bool false,.slice none 0 0])::E:Blks)→q.1≠w.heap.size+1:=fun q hq=>by
   simp only [List.mem_cons]at hq
   rcases hq with e | e | e
   ·rw [e];show mb≠_;omega
   ·rw [e];show w.heap.size≠_;omega
   ·have:=hltE q e;omega
  exact⟨((q1.poke hS hT hn 3 v3).poke hS hT hn 2 v2).sub (fun y hy=>List.mem_cons_of_mem _ hy),(q1.poke hS hT hn 2 v2).sub (fun y hy=>List.mem_cons_of_mem _ hy)⟩
 have HAn:Hid (∀w',HM W w' L X { h with st:=setN h.st t (hkPush L.B (h.st t) (h.f I:Int)) } x s k ((mb,96,muV L.hb t sb m)::(w.heap.size,61,#[.int .i64 0,.int .i64 0,.int .i64 0,.int .u64 0,.bool false,.bool false,.bool false,.bool false,.slice none 0 0])::E) D Q→Calls Tryz.prog 42 #[.pointer (some ⟨mb,0,none⟩),.agg #[.int .i64 0,.int .i64 0,.int .i64 (hkPushE L.B (h.st t)),.int .u64 0,.bool false]] w' fun e w''=>e=.returned (.agg #[.int .i64 (t:Int),.int .i64 (m.dn:Int),.int .i64 (hkPushE L.B (h.st t)),.int .u64 0,.bool false,.bool true,.bool false,.bool false,.slice none 0 0])∧HM W w'' L X { h with st:=setN h.st t (hkPush L.B (h.st t) (h.f I:Int)) } x s k ((mb,96,muV L.hb t sb (MU.zero (m.dn+1)))::(w.heap.size,61,#[.int .i64 0,.int .i64 0,.int .i64 0,.int .u64 0,.bool false,.bool false,.bool false,.bool false,.slice none 0 0])::E) D Q):=fun w' q=>HM.answer hS hT q (hneR _) hd 0 0 ⟨hkPushE L.B (h.st t),0,false⟩
 have HZ:Hid (∀w',HM W w' L X { h with st:=setN h.st t (hkPush L.B (h.st t) (h.f I:Int)) } x s k ((w.heap.size+1+1,44,#[.int .i64 2,.int .i64 m.a,.int .i64 m.b,.int .i64 m.c,.int .u64 m.v])::(w.heap.size+1,59,#[.int .i64 0,.int .i64 0,.int .i64 0,.int .u64 0,.bool false])::(w.heap.size,61,#[.int .i64 0,.int .i64 0,.int .i64 0,.int .u64 0,.bool false,.bool false,.bool false,.bool false,.slice none 0 0])::(mb,96,muV L.hb t sb m)::E) D Q→Blk w' (w.heap.size+1) 59 #[.int .i64 0,.int .i64 0,.int .i64 0,.int .u64 0,.bool false]):=fun w' q=>q.blk (List.mem_cons_of_mem _ (List.mem_cons_self ..))
 have HC:Hid (∀w',HM W w' L X h x s k ((w.heap.size+1+1,44,#[.int .i64 2,.int .i64 m.a,.int .i64 m.b,.int .i64 m.c,.int .u64 m.v])::(w.heap.size+1,59,#[.int .i64 0,.int .i64 0,.int .i64 0,.int .u64 0,.bool false])::(w.heap.size,61,#[.int .i64 0,.int .i64 0,.int .i64 0,.int .u64 0,.bool false,.bool false,.bool false,.bool false,.slice none 0 0])::(mb,96,muV L.hb t sb m)::E) D Q→Calls Tryz.prog 54 #[.pointer (some ⟨mb,0,none⟩),.int .i64 (I:Int)] w' fun e w''=>e=.returned (.int .i64 (hkPushE L.B (h.st t)))∧HM W w'' L X { h with st:=setN h.st t (hkPush L.B (h.st t) (h.f I:Int)) } x s k ((w.heap.size+1+1,44,#[.int .i64 2,.int .i64 m.a,.int .i64 m.b,.int .i64 m.c,.int .u64 m.v])::(w.heap.size+1,59,#[.int .i64 0,.int .i64 0,.int .i64 0,.int .u64 0,.bool false])::(w.heap.size,61,#[.int .i64 0,.int .i64 0,.int .i64 0,.int .u64 0,.bool false,.bool false,.bool false,.bool false,.slice none 0 0])::(mb,96,muV L.hb t sb m)::E) D Q):=fun w' q=>mtload_any hS q (List.mem_cons_of_mem _ (List.mem_cons_of_mem _ (List.mem_cons_of_mem _ (List.mem_cons_self ..)))) ht hB hl hI
 obtain⟨c0,c1,c2,c3,c4,c5,c6,c7,c8,c9,c10⟩:=muCells hmb
 have c20:=H.hc.c20
 have N20:L.hb<w.heap.size:=lt_of_cell c20
 have hl1:mb<w.heap.size+1:=by omega
 have hl2:mb<w.heap.size+1+1:=by omega
 have n0:mb≠w.heap.size:=by omega
 have j1:L.hb<w.heap.size+1:=by omega
 have j2:L.hb<w.heap.size+1+1:=by omega
 have i0:L.hb≠w.heap.size:=by omega
 have i1:L.hb≠w.heap.size+1:=by omega
 have i2:L.hb≠w.heap.size+1+1:=by omega
 have n1:mb≠w.heap.size+1:=by omega
 have n2:mb≠w.heap.size+1+1:=by omega
 rw [hk]at c4
 rw [had]at c10
 unfold resV
 clear H hmb hltE HX0 hne hneR hrm hrE hk had hI ht hd hB hl
 generalize hkPushE L.B (h.st t)=er at *
 go_enter Tryz.func32,Tryz.ntmps32
 go_wp2_with fail
 go_region
 go_wp2_with fail
 refine(HC.out _ HX.out.1).mono ?_
 rintro e w3 ⟨rfl,hA⟩
 have hz:=HZ.out _ hA
 have u0:=hz.cell 0
 have u1:=hz.cell 1
 have u2:=hz.cell 2
 have u3:=hz.cell 3
 have u4:=hz.cell 4
 have uz0:=hz.frozen 0
 have uz1:=hz.frozen 1
 have uz2:=hz.frozen 2
 have uz3:=hz.frozen 3
 have uz4:=hz.frozen 4
 have NZ:=hz.lt
 have HA4:=hide (HAn.out _ (HPk.out _ (.int .u64 0) (.int .i64 er) hA).2)
 clear hA hz c0 c1 c2 c3 c4 c5 c6 c7 c8 c9 c10 c20
 go_wp2_with fail
 refine HA4.out.mono ?_
 rintro e w5 ⟨rfl,hA⟩
 clear u0 u1 u2 u3 u4 uz0 uz1 uz2 uz3 uz4
 have HA5:=hide hA
 have hrb:=hA.blk (List.mem_cons_of_mem _ (List.mem_cons_self ..))
 have y0:=hrb.cell 0
 have y1:=hrb.cell 1
 have y2:=hrb.cell 2
 have y3:=hrb.cell 3
 have y4:=hrb.cell 4
 have y5:=hrb.cell 5
 have y6:=hrb.cell 6
 have y7:=hrb.cell 7
 have y8:=hrb.cell 8
 have z0:=hrb.frozen 0
 have z1:=hrb.frozen 1
 have z2:=hrb.frozen 2
 have z3:=hrb.frozen 3
 have z4:=hrb.frozen 4
 have z5:=hrb.frozen 5
 have z6:=hrb.frozen 6
 have z7:=hrb.frozen 7
 have z8:=hrb.frozen 8
 have NR:=hrb.lt
 clear hA hrb
 go_wp2_with fail
 refine bodyPost_ret (v:=.agg #[.int .i64 (t:Int),.int .i64 (m.dn:Int),.int .i64 er,.int .u64 0,.bool false,.bool true,.bool false,.bool false,.slice none 0 0]) (by simp [results,Tryz.results32,go_sem, *]) rfl ⟨rfl,?_⟩
 exact HEnd.out _ _ _ _ _ _ _ _ _ _ _ _ _ _ _ _ _ _ _ HA5.out
set_option maxHeartbeats 3200000 in
theorem mtuse_read(hS:Lives D Q)(hT:Tab W)(H:HM W w L X h x s k ((mb,96,muV L.hb t sb m)::E) D Q)(hne:∀q,q∈E→q.1≠mb)(hk:m.k=4)(ht:t<h.T)(hd:(m.dn:Int)+1≤9223372036854775807){I:Nat}(had:m.ad=(I:Int))(hI:I<h.n)  :
  Calls Tryz.prog 32 #[.pointer (some ⟨mb,0,none⟩)] w fun e w'=>e=.returned (resV (t:Int) (m.dn:Int) ⟨0,(h.f I:Int),false⟩ true false false (.slice none 0 0))∧HM W w' L X h x s k ((mb,96,muV L.hb t sb (MU.zero (m.dn+1)))::E) D Q:=by
 have hmb:=H.blk (List.mem_cons_self ..)
 have hlt:=hmb.lt
 have hltE:∀q,q∈E→q.1<w.heap.size:=fun q hq=>(H.blk (b:=q.1) (t:=q.2.1) (cs:=q.2.2) (List.mem_cons_of_mem _ hq)).lt
 have hrm:w.heap.size≠mb:=by omega
 have hrE:∀q,q∈E→q.1≠w.heap.size:=fun q hq=>by have:=hltE q hq;omega
 have hneR:∀cs:Array Value,∀q,q∈((w.heap.size,61,cs)::E:Blks)→q.1≠mb:=fun cs q hq=>by
  rcases List.mem_cons.1 hq with rfl | hq
  ·exact hrm
  ·exact hne q hq
 have HX0:Hid (HM W (w.alloc (.cells #[.int .i64 0,.int .i64 0,.int .i64 0,.int .u64 0,.bool false,.bool false,.bool false,.bool false,.slice none 0 0] 61)) L X h x s k ((w.heap.size,61,#[.int .i64 0,.int .i64 0,.int .i64 0,.int .u64 0,.bool false,.bool false,.bool false,.bool false,.slice none 0 0])::(mb,96,muV L.hb t sb m)::E) D Q):=H.alloc hS 61 #[.int .i64 0,.int .i64 0,.int .i64 0,.int .u64 0,.bool false,.bool false,.bool false,.bool false,.slice none 0 0]
 have HEnd:Hid (∀w' a0 a1 a2 a3 a4 a5 a6 a7 a8 v0 v1 v2 v3 v4 v5 v6 v7 v8,HM W w' L X h x s k ((mb,96,muV L.hb t sb (MU.zero (m.dn+1)))::(w.heap.size,61,#[a0,a1,a2,a3,a4,a5,a6,a7,a8])::E) D Q→HM W (put9 w' w.heap.size v0 v1 v2 v3 v4 v5 v6 v7 v8) L X h x s k ((mb,96,muV L.hb t sb (MU.zero (m.dn+1)))::E) D Q):=fun w' a0 a1 a2 a3 a4 a5 a6 a7 a8 v0 v1 v2 v3 v4 v5 v6 v7 v8 q=>
  q.swap.res9 hS hT (fun y hy=>by
   rcases List.mem_cons.1 hy with rfl | hy
   ·exact fun e=>hrm e.symm
   ·exact hrE y hy) v0 v1 v2 v3 v4 v5 v6 v7 v8
 have HX:Hid (HM W (((w.alloc (.cells #[.int .i64 0,.int .i64 0,.int .i64 0,.int .u64 0,.bool false,.bool false,.bool false,.bool false,.slice none 0 0] 61)).alloc (.cells #[.int .i64 0,.int .i64 0,.int .i64 0,.int .u64 0,.bool false] 59)).alloc (.cells #[.int .i64 4,.int .i64 m.a,.int .i64 m.b,.int .i64 m.c,.int .u64 m.v] 44)).drew L X h x s k ((w.heap.size+1+1,44,#[.int .i64 4,.int .i64 m.a,.int .i64 m.b,.int .i64 m.c,.int .u64 m.v])::(w.heap.size+1,59,#[.int .i64 0,.int .i64 0,.int .i64 0,.int .u64 0,.bool false])::(w.heap.size,61,#[.int .i64 0,.int .i64 0,.int .i64 0,.int .u64 0,.bool false,.bool false,.bool false,.bool false,.slice none 0 0])::(mb,96,muV L.hb t sb m)::E) D Q∧∀n:Nat,HM W ((((w.alloc (.cells #[.int .i64 0,.int .i64 0,.int .i64 0,.int .u64 0,.bool false,.bool false,.bool false,.bool false,.slice none 0 0] 61)).alloc (.cells #[.int .i64 0,.int .i64 0,.int .i64 0,.int .u64 0,.bool false] 59)).alloc (.cells #[.int .i64 4,.int .i64 m.a,.int .i64 m.b,.int .i64 m.c,.int .u64 m.v] 44)).drew.drewN n) L X h x s k ((w.heap.size+1+1,44,#[.int .i64 4,.int .i64 m.a,.int .i64 m.b,.int .i64 m.c,.int .u64 m.v])::(w.heap.size+1,59,#[.int .i64 0,.int .i64 0,.int .i64 0,.int .u64 0,.bool false])::(w.heap.size,61,#[.int .i64 0,.int .i64 0,.int .i64 0,.int .u64 0,.bool false,.bool false,.bool false,.bool false,.slice none 0 0])::(mb,96,muV L.hb t sb m)::E) D Q):=by
  have q:=((HX0.out.alloc hS 59 #[.int .i64 0,.int .i64 0,.int .i64 0,.int .u64 0,.bool false]).alloc hS 44 #[.int .i64 4,.int .i64 m.a,.int .i64 m.b,.int .i64 m.c,.int .u64 m.v]).fr0 hS (Fr.refl _ _).drew
  rw [show((w.alloc (.cells #[.int .i64 0,.int .i64 0,.int .i64 0,.int .u64 0,.bool false,.bool false,.bool false,.bool false,.slice none 0 0] 61)).alloc (.cells #[.int .i64 0,.int .i64 0,.int .i64 0,.int .u64 0,.bool false] 59)).heap.size=w.heap.size+1+1 by simp,show(w.alloc (.cells #[.int .i64 0,.int .i64 0,.int .i64 0,.int .u64 0,.bool false,.bool false,.bool false,.bool false,.slice none 0 0] 61)).heap.size=w.heap.size+1 by simp]at q
  exact⟨q,fun n=>q.fr0 hS ((Fr.refl _ _).drewN n)⟩
 have HPk:Hid (∀w' v3 v2,HM W w' L X h x s k ((w.heap.size+1+1,44,#[.int .i64 4,.int .i64 m.a,.int .i64 m.b,.int .i64 m.c,.int .u64 m.v])::(w.heap.size+1,59,#[.int .i64 0,.int .i64 0,.int .i64 0,.int .u64 0,.bool false])::(w.heap.size,61,#[.int .i64 0,.int .i64 0,.int .i64 0,.int .u64 0,.bool false,.bool false,.bool false,.bool false,.slice none 0 0])::(mb,96,muV L.hb t sb m)::E) D Q→HM W ((w'.setCell ⟨w.heap.size+1,3,none⟩ v3).setCell ⟨w.heap.size+1,2,none⟩ v2) L X h x s k ((mb,96,muV L.hb t sb m)::(w.heap.size,61,#[.int .i64 0,.int .i64 0,.int .i64 0,.int .u64 0,.bool false,.bool false,.bool false,.bool false,.slice none 0 0])::E) D Q∧HM W (w'.setCell ⟨w.heap.size+1,2,none⟩ v2) L X h x s k ((mb,96,muV L.hb t sb m)::(w.heap.size,61,#[.int .i64 0,.int .i64 0,.int .i64 0,.int .u64 0,.bool false,.bool false,.bool false,.bool false,.slice none 0 0])::E) D Q):=fun w' v3 v2 q=>by
  have q1:HM W w' L X h x s k ((w.heap.size+1,59,#[.int .i64 0,.int .i64 0,.int .i64 0,.int .u64 0,.bool false])::(mb,96,muV L.hb t sb m)::(w.heap.size,61,#[.int .i64 0,.int .i64 0,.int .i64 0,.int .u64 0,.bool false,.bool false,.bool false,.bool false,.slice none 0 0])::E) D Q:=q.sub (fun y hy=>by simp only [List.mem_cons]at hy ⊢;rcases hy with e | e | e | e <;> simp [e])
  have hn:∀q,q∈((mb,96,muV L.hb t sb m)::(w.heap.size,61,#[.int .i64 0,.int .i64 0,.int .i64 0,.int .u64 0,.bool false,.bool false,.bool false,.bool false,.slice none 0 0])::E:Blks)→q.1≠w.heap.size+1:=fun q hq=>by
   simp only [List.mem_cons]at hq
   rcases hq with e | e | e
   ·rw [e];show mb≠_;omega
   ·rw [e];show w.heap.size≠_;omega
   ·have:=hltE q e;omega
  exact⟨((q1.poke hS hT hn 3 v3).poke hS hT hn 2 v2).sub (fun y hy=>List.mem_cons_of_mem _ hy),(q1.poke hS hT hn 2 v2).sub (fun y hy=>List.mem_cons_of_mem _ hy)⟩
 have HAn:Hid (∀w',HM W w' L X h x s k ((mb,96,muV L.hb t sb m)::(w.heap.size,61,#[.int .i64 0,.int .i64 0,.int .i64 0,.int .u64 0,.bool false,.bool false,.bool false,.bool false,.slice none 0 0])::E) D Q→Calls Tryz.prog 42 #[.pointer (some ⟨mb,0,none⟩),.agg #[.int .i64 0,.int .i64 0,.int .i64 (0),.int .u64 (h.f I:Int),.bool false]] w' fun e w''=>e=.returned (.agg #[.int .i64 (t:Int),.int .i64 (m.dn:Int),.int .i64 0,.int .u64 (h.f I:Int),.bool false,.bool true,.bool false,.bool false,.slice none 0 0])∧HM W w'' L X h x s k ((mb,96,muV L.hb t sb (MU.zero (m.dn+1)))::(w.heap.size,61,#[.int .i64 0,.int .i64 0,.int .i64 0,.int .u64 0,.bool false,.bool false,.bool false,.bool false,.slice none 0 0])::E) D Q):=fun w' q=>HM.answer hS hT q (hneR _) hd 0 0 ⟨0,(h.f I:Int),false⟩
 have HZ:Hid (∀w',HM W w' L X h x s k ((w.heap.size+1+1,44,#[.int .i64 4,.int .i64 m.a,.int .i64 m.b,.int .i64 m.c,.int .u64 m.v])::(w.heap.size+1,59,#[.int .i64 0,.int .i64 0,.int .i64 0,.int .u64 0,.bool false])::(w.heap.size,61,#[.int .i64 0,.int .i64 0,.int .i64 0,.int .u64 0,.bool false,.bool false,.bool false,.bool false,.slice none 0 0])::(mb,96,muV L.hb t sb m)::E) D Q→Blk w' (w.heap.size+1) 59 #[.int .i64 0,.int .i64 0,.int .i64 0,.int .u64 0,.bool false]):=fun w' q=>q.blk (List.mem_cons_of_mem _ (List.mem_cons_self ..))
 have HC:Hid (∀w',HM W w' L X h x s k ((w.heap.size+1+1,44,#[.int .i64 4,.int .i64 m.a,.int .i64 m.b,.int .i64 m.c,.int .u64 m.v])::(w.heap.size+1,59,#[.int .i64 0,.int .i64 0,.int .i64 0,.int .u64 0,.bool false])::(w.heap.size,61,#[.int .i64 0,.int .i64 0,.int .i64 0,.int .u64 0,.bool false,.bool false,.bool false,.bool false,.slice none 0 0])::(mb,96,muV L.hb t sb m)::E) D Q→Calls Tryz.prog 20 #[.pointer (some ⟨L.ab,0,none⟩),.int .i64 (I:Int)] w' fun e w''=>e=.returned (.tuple #[.int .u64 (h.f I:Int),.int .i64 0])∧HM W w'' L X h x s k ((w.heap.size+1+1,44,#[.int .i64 4,.int .i64 m.a,.int .i64 m.b,.int .i64 m.c,.int .u64 m.v])::(w.heap.size+1,59,#[.int .i64 0,.int .i64 0,.int .i64 0,.int .u64 0,.bool false])::(w.heap.size,61,#[.int .i64 0,.int .i64 0,.int .i64 0,.int .u64 0,.bool false,.bool false,.bool false,.bool false,.slice none 0 0])::(mb,96,muV L.hb t sb m)::E) D Q):=fun w' q=>q.aload hS hI
 obtain⟨c0,c1,c2,c3,c4,c5,c6,c7,c8,c9,c10⟩:=muCells hmb
 have c20:=H.hc.c20
 have N20:L.hb<w.heap.size:=lt_of_cell c20
 have hl1:mb<w.heap.size+1:=by omega
 have hl2:mb<w.heap.size+1+1:=by omega
 have n0:mb≠w.heap.size:=by omega
 have j1:L.hb<w.heap.size+1:=by omega
 have j2:L.hb<w.heap.size+1+1:=by omega
 have i0:L.hb≠w.heap.size:=by omega
 have i1:L.hb≠w.heap.size+1:=by omega
 have i2:L.hb≠w.heap.size+1+1:=by omega
 have n1:mb≠w.heap.size+1:=by omega
 have n2:mb≠w.heap.size+1+1:=by omega
 rw [hk]at c4
 rw [had]at c10
 unfold resV
 clear H hmb hltE HX0 hne hneR hrm hrE hk had hI ht hd
 generalize (h.f I:Int)=fv at *
 go_enter Tryz.func32,Tryz.ntmps32
 go_wp2_with fail
 go_region
 go_wp2_with fail
 refine(HC.out _ HX.out.1).mono ?_
 rintro e w3 ⟨rfl,hA⟩
 have hz:=HZ.out _ hA
 have u0:=hz.cell 0
 have u1:=hz.cell 1
 have u2:=hz.cell 2
 have u3:=hz.cell 3
 have u4:=hz.cell 4
 have uz0:=hz.frozen 0
 have uz1:=hz.frozen 1
 have uz2:=hz.frozen 2
 have uz3:=hz.frozen 3
 have uz4:=hz.frozen 4
 have NZ:=hz.lt
 have HA4:=hide (HAn.out _ (HPk.out _ (.int .u64 fv) (.int .i64 0) hA).1)
 clear hA hz c0 c1 c2 c3 c4 c5 c6 c7 c8 c9 c10 c20
 go_wp2_with fail
 refine HA4.out.mono ?_
 rintro e w5 ⟨rfl,hA⟩
 clear u0 u1 u2 u3 u4 uz0 uz1 uz2 uz3 uz4
 have HA5:=hide hA
 have hrb:=hA.blk (List.mem_cons_of_mem _ (List.mem_cons_self ..))
 have y0:=hrb.cell 0
 have y1:=hrb.cell 1
 have y2:=hrb.cell 2
 have y3:=hrb.cell 3
 have y4:=hrb.cell 4
 have y5:=hrb.cell 5
 have y6:=hrb.cell 6
 have y7:=hrb.cell 7
 have y8:=hrb.cell 8
 have z0:=hrb.frozen 0
 have z1:=hrb.frozen 1
 have z2:=hrb.frozen 2
 have z3:=hrb.frozen 3
 have z4:=hrb.frozen 4
 have z5:=hrb.frozen 5
 have z6:=hrb.frozen 6
 have z7:=hrb.frozen 7
 have z8:=hrb.frozen 8
 have NR:=hrb.lt
 clear hA hrb
 go_wp2_with fail
 refine bodyPost_ret (v:=.agg #[.int .i64 (t:Int),.int .i64 (m.dn:Int),.int .i64 0,.int .u64 fv,.bool false,.bool true,.bool false,.bool false,.slice none 0 0]) (by simp [results,Tryz.results32,go_sem, *]) rfl ⟨rfl,?_⟩
 exact HEnd.out _ _ _ _ _ _ _ _ _ _ _ _ _ _ _ _ _ _ _ HA5.out
set_option maxHeartbeats 3200000 in
theorem mtuse_write(hS:Lives D Q)(hT:Tab W)(H:HM W w L X h x s k ((mb,96,muV L.hb t sb m)::E) D Q)(hne:∀q,q∈E→q.1≠mb)(hk:m.k=5)(ht:t<h.T)(hd:(m.dn:Int)+1≤9223372036854775807){I:Nat}(had:m.ad=(I:Int))(hI:I<h.n){v:Nat}(hv:m.v=(v:Int))(hv2:v<18446744073709551616) :
  Calls Tryz.prog 32 #[.pointer (some ⟨mb,0,none⟩)] w fun e w'=>e=.returned (resV (t:Int) (m.dn:Int) ⟨0,0,false⟩ true false false (.slice none 0 0))∧HM W w' L X { h with f:=upd h.f I v } x s k ((mb,96,muV L.hb t sb (MU.zero (m.dn+1)))::E) D Q:=by
 have hmb:=H.blk (List.mem_cons_self ..)
 have hlt:=hmb.lt
 have hltE:∀q,q∈E→q.1<w.heap.size:=fun q hq=>(H.blk (b:=q.1) (t:=q.2.1) (cs:=q.2.2) (List.mem_cons_of_mem _ hq)).lt
 have hrm:w.heap.size≠mb:=by omega
 have hrE:∀q,q∈E→q.1≠w.heap.size:=fun q hq=>by have:=hltE q hq;omega
 have hneR:∀cs:Array Value,∀q,q∈((w.heap.size,61,cs)::E:Blks)→q.1≠mb:=fun cs q hq=>by
  rcases List.mem_cons.1 hq with rfl | hq
  ·exact hrm
  ·exact hne q hq
 have HX0:Hid (HM W (w.alloc (.cells #[.int .i64 0,.int .i64 0,.int .i64 0,.int .u64 0,.bool false,.bool false,.bool false,.bool false,.slice none 0 0] 61)) L X h x s k ((w.heap.size,61,#[.int .i64 0,.int .i64 0,.int .i64 0,.int .u64 0,.bool false,.bool false,.bool false,.bool false,.slice none 0 0])::(mb,96,muV L.hb t sb m)::E) D Q):=H.alloc hS 61 #[.int .i64 0,.int .i64 0,.int .i64 0,.int .u64 0,.bool false,.bool false,.bool false,.bool false,.slice none 0 0]
 have HEnd:Hid (∀w' a0 a1 a2 a3 a4 a5 a6 a7 a8 v0 v1 v2 v3 v4 v5 v6 v7 v8,HM W w' L X { h with f:=upd h.f I v } x s k ((mb,96,muV L.hb t sb (MU.zero (m.dn+1)))::(w.heap.size,61,#[a0,a1,a2,a3,a4,a5,a6,a7,a8])::E) D Q→HM W (put9 w' w.heap.size v0 v1 v2 v3 v4 v5 v6 v7 v8) L X { h with f:=upd h.f I v } x s k ((mb,96,muV L.hb t sb (MU.zero (m.dn+1)))::E) D Q):=fun w' a0 a1 a2 a3 a4 a5 a6 a7 a8 v0 v1 v2 v3 v4 v5 v6 v7 v8 q=>
  q.swap.res9 hS hT (fun y hy=>by
   rcases List.mem_cons.1 hy with rfl | hy
   ·exact fun e=>hrm e.symm
   ·exact hrE y hy) v0 v1 v2 v3 v4 v5 v6 v7 v8
 have HX:Hid (HM W (((w.alloc (.cells #[.int .i64 0,.int .i64 0,.int .i64 0,.int .u64 0,.bool false,.bool false,.bool false,.bool false,.slice none 0 0] 61)).alloc (.cells #[.int .i64 0,.int .i64 0,.int .i64 0,.int .u64 0,.bool false] 59)).alloc (.cells #[.int .i64 5,.int .i64 m.a,.int .i64 m.b,.int .i64 m.c,.int .u64 m.v] 44)).drew L X h x s k ((w.heap.size+1+1,44,#[.int .i64 5,.int .i64 m.a,.int .i64 m.b,.int .i64 m.c,.int .u64 m.v])::(w.heap.size+1,59,#[.int .i64 0,.int .i64 0,.int .i64 0,.int .u64 0,.bool false])::(w.heap.size,61,#[.int .i64 0,.int .i64 0,.int .i64 0,.int .u64 0,.bool false,.bool false,.bool false,.bool false,.slice none 0 0])::(mb,96,muV L.hb t sb m)::E) D Q∧∀n:Nat,HM W ((((w.alloc (.cells #[.int .i64 0,.int .i64 0,.int .i64 0,.int .u64 0,.bool false,.bool false,.bool false,.bool false,.slice none 0 0] 61)).alloc (.cells #[.int .i64 0,.int .i64 0,.int .i64 0,.int .u64 0,.bool false] 59)).alloc (.cells #[.int .i64 5,.int .i64 m.a,.int .i64 m.b,.int .i64 m.c,.int .u64 m.v] 44)).drew.drewN n) L X h x s k ((w.heap.size+1+1,44,#[.int .i64 5,.int .i64 m.a,.int .i64 m.b,.int .i64 m.c,.int .u64 m.v])::(w.heap.size+1,59,#[.int .i64 0,.int .i64 0,.int .i64 0,.int .u64 0,.bool false])::(w.heap.size,61,#[.int .i64 0,.int .i64 0,.int .i64 0,.int .u64 0,.bool false,.bool false,.bool false,.bool false,.slice none 0 0])::(mb,96,muV L.hb t sb m)::E) D Q):=by
  have q:=((HX0.out.alloc hS 59 #[.int .i64 0,.int .i64 0,.int .i64 0,.int .u64 0,.bool false]).alloc hS 44 #[.int .i64 5,.int .i64 m.a,.int .i64 m.b,.int .i64 m.c,.int .u64 m.v]).fr0 hS (Fr.refl _ _).drew
  rw [show((w.alloc (.cells #[.int .i64 0,.int .i64 0,.int .i64 0,.int .u64 0,.bool false,.bool false,.bool false,.bool false,.slice none 0 0] 61)).alloc (.cells #[.int .i64 0,.int .i64 0,.int .i64 0,.int .u64 0,.bool false] 59)).heap.size=w.heap.size+1+1 by simp,show(w.alloc (.cells #[.int .i64 0,.int .i64 0,.int .i64 0,.int .u64 0,.bool false,.bool false,.bool false,.bool false,.slice none 0 0] 61)).heap.size=w.heap.size+1 by simp]at q
  exact⟨q,fun n=>q.fr0 hS ((Fr.refl _ _).drewN n)⟩
 have HPk:Hid (∀w' v3 v2,HM W w' L X { h with f:=upd h.f I v } x s k ((w.heap.size+1+1,44,#[.int .i64 5,.int .i64 m.a,.int .i64 m.b,.int .i64 m.c,.int .u64 m.v])::(w.heap.size+1,59,#[.int .i64 0,.int .i64 0,.int .i64 0,.int .u64 0,.bool false])::(w.heap.size,61,#[.int .i64 0,.int .i64 0,.int .i64 0,.int .u64 0,.bool false,.bool false,.bool false,.bool false,.slice none 0 0])::(mb,96,muV L.hb t sb m)::E) D Q→HM W ((w'.setCell ⟨w.heap.size+1,3,none⟩ v3).setCell ⟨w.heap.size+1,2,none⟩ v2) L X { h with f:=upd h.f I v } x s k ((mb,96,muV L.hb t sb m)::(w.heap.size,61,#[.int .i64 0,.int .i64 0,.int .i64 0,.int .u64 0,.bool false,.bool false,.bool false,.bool false,.slice none 0 0])::E) D Q∧HM W (w'.setCell ⟨w.heap.size+1,2,none⟩ v2) L X { h with f:=upd h.f I v } x s k ((mb,96,muV L.hb t sb m)::(w.heap.size,61,#[.int .i64 0,.int .i64 0,.int .i64 0,.int .u64 0,.bool false,.bool false,.bool false,.bool false,.slice none 0 0])::E) D Q):=fun w' v3 v2 q=>by
  have q1:HM W w' L X { h with f:=upd h.f I v } x s k ((w.heap.size+1,59,#[.int .i64 0,.int .i64 0,.int .i64 0,.int .u64 0,.bool false])::(mb,96,muV L.hb t sb m)::(w.heap.size,61,#[.int .i64 0,.int .i64 0,.int .i64 0,.int .u64 0,.bool false,.bool false,.bool false,.bool false,.slice none 0 0])::E) D Q:=q.sub (fun y hy=>by simp only [List.mem_cons]at hy ⊢;rcases hy with e | e | e | e <;> simp [e])
  have hn:∀q,q∈((mb,96,muV L.hb t sb m)::(w.heap.size,61,#[.int .i64 0,.int .i64 0,.int .i64 0,.int .u64 0,.bool false,.bool false,.bool false,.bool false,.slice none 0 0])::E:Blks)→q.1≠w.heap.size+1:=fun q hq=>by
   simp only [List.mem_cons]at hq
   rcases hq with e | e | e
   ·rw [e];show mb≠_;omega
   ·rw [e];show w.heap.size≠_;omega
   ·have:=hltE q e;omega
  exact⟨((q1.poke hS hT hn 3 v3).poke hS hT hn 2 v2).sub (fun y hy=>List.mem_cons_of_mem _ hy),(q1.poke hS hT hn 2 v2).sub (fun y hy=>List.mem_cons_of_mem _ hy)⟩
 have HAn:Hid (∀w',HM W w' L X { h with f:=upd h.f I v } x s k ((mb,96,muV L.hb t sb m)::(w.heap.size,61,#[.int .i64 0,.int .i64 0,.int .i64 0,.int .u64 0,.bool false,.bool false,.bool false,.bool false,.slice none 0 0])::E) D Q→Calls Tryz.prog 42 #[.pointer (some ⟨mb,0,none⟩),.agg #[.int .i64 0,.int .i64 0,.int .i64 (0),.int .u64 0,.bool false]] w' fun e w''=>e=.returned (.agg #[.int .i64 (t:Int),.int .i64 (m.dn:Int),.int .i64 0,.int .u64 0,.bool false,.bool true,.bool false,.bool false,.slice none 0 0])∧HM W w'' L X { h with f:=upd h.f I v } x s k ((mb,96,muV L.hb t sb (MU.zero (m.dn+1)))::(w.heap.size,61,#[.int .i64 0,.int .i64 0,.int .i64 0,.int .u64 0,.bool false,.bool false,.bool false,.bool false,.slice none 0 0])::E) D Q):=fun w' q=>HM.answer hS hT q (hneR _) hd 0 0 ⟨0,0,false⟩
 have HZ:Hid (∀w',HM W w' L X { h with f:=upd h.f I v } x s k ((w.heap.size+1+1,44,#[.int .i64 5,.int .i64 m.a,.int .i64 m.b,.int .i64 m.c,.int .u64 m.v])::(w.heap.size+1,59,#[.int .i64 0,.int .i64 0,.int .i64 0,.int .u64 0,.bool false])::(w.heap.size,61,#[.int .i64 0,.int .i64 0,.int .i64 0,.int .u64 0,.bool false,.bool false,.bool false,.bool false,.slice none 0 0])::(mb,96,muV L.hb t sb m)::E) D Q→Blk w' (w.heap.size+1) 59 #[.int .i64 0,.int .i64 0,.int .i64 0,.int .u64 0,.bool false]):=fun w' q=>q.blk (List.mem_cons_of_mem _ (List.mem_cons_self ..))
 have HC:Hid (∀w',HM W w' L X h x s k ((w.heap.size+1+1,44,#[.int .i64 5,.int .i64 m.a,.int .i64 m.b,.int .i64 m.c,.int .u64 m.v])::(w.heap.size+1,59,#[.int .i64 0,.int .i64 0,.int .i64 0,.int .u64 0,.bool false])::(w.heap.size,61,#[.int .i64 0,.int .i64 0,.int .i64 0,.int .u64 0,.bool false,.bool false,.bool false,.bool false,.slice none 0 0])::(mb,96,muV L.hb t sb m)::E) D Q→Calls Tryz.prog 55 #[.pointer (some ⟨L.ab,0,none⟩),.int .i64 (I:Int),.int .u64 m.v] w' fun e w''=>e=.returned (.int .i64 0)∧HM W w'' L X { h with f:=upd h.f I v } x s k ((w.heap.size+1+1,44,#[.int .i64 5,.int .i64 m.a,.int .i64 m.b,.int .i64 m.c,.int .u64 m.v])::(w.heap.size+1,59,#[.int .i64 0,.int .i64 0,.int .i64 0,.int .u64 0,.bool false])::(w.heap.size,61,#[.int .i64 0,.int .i64 0,.int .i64 0,.int .u64 0,.bool false,.bool false,.bool false,.bool false,.slice none 0 0])::(mb,96,muV L.hb t sb m)::E) D Q):=fun w' q=>q.astore hS hI hv hv2
 have HK:Hid (∀w' h' ,HM W w' L X h' x s k ((w.heap.size+1+1,44,#[.int .i64 5,.int .i64 m.a,.int .i64 m.b,.int .i64 m.c,.int .u64 m.v])::(w.heap.size+1,59,#[.int .i64 0,.int .i64 0,.int .i64 0,.int .u64 0,.bool false])::(w.heap.size,61,#[.int .i64 0,.int .i64 0,.int .i64 0,.int .u64 0,.bool false,.bool false,.bool false,.bool false,.slice none 0 0])::(mb,96,muV L.hb t sb m)::E) D Q→w'.cell? ⟨mb,0,none⟩=some (.pointer (some ⟨L.hb,0,none⟩))∧w'.cell? ⟨L.hb,20,none⟩=some (.pointer (some ⟨L.ab,0,none⟩))∧w'.cell? ⟨w.heap.size+1+1,4,none⟩=some (.int .u64 m.v)):=fun w' h' q=>⟨(q.blk (List.mem_cons_of_mem _ (List.mem_cons_of_mem _ (List.mem_cons_of_mem _ (List.mem_cons_self ..))))).cell 0,q.hc.c20,(q.blk (List.mem_cons_self ..)).cell 4⟩
 have HXd:Hid (HM W (((w.alloc (.cells #[.int .i64 0,.int .i64 0,.int .i64 0,.int .u64 0,.bool false,.bool false,.bool false,.bool false,.slice none 0 0] 61)).alloc (.cells #[.int .i64 0,.int .i64 0,.int .i64 0,.int .u64 0,.bool false] 59)).alloc (.cells #[.int .i64 5,.int .i64 m.a,.int .i64 m.b,.int .i64 m.c,.int .u64 m.v] 44)).drew.drew L X h x s k ((w.heap.size+1+1,44,#[.int .i64 5,.int .i64 m.a,.int .i64 m.b,.int .i64 m.c,.int .u64 m.v])::(w.heap.size+1,59,#[.int .i64 0,.int .i64 0,.int .i64 0,.int .u64 0,.bool false])::(w.heap.size,61,#[.int .i64 0,.int .i64 0,.int .i64 0,.int .u64 0,.bool false,.bool false,.bool false,.bool false,.slice none 0 0])::(mb,96,muV L.hb t sb m)::E) D Q):=HX.out.1.fr0 hS (Fr.refl _ _).drew
 have K0:=HK.out _ _ HXd.out
 have hi0:L.hb<w.heap.size:=lt_of_cell H.hc.c20
 have HKS:Hid (∀w' h' v2,HM W w' L X h' x s k ((w.heap.size+1+1,44,#[.int .i64 5,.int .i64 m.a,.int .i64 m.b,.int .i64 m.c,.int .u64 m.v])::(w.heap.size+1,59,#[.int .i64 0,.int .i64 0,.int .i64 0,.int .u64 0,.bool false])::(w.heap.size,61,#[.int .i64 0,.int .i64 0,.int .i64 0,.int .u64 0,.bool false,.bool false,.bool false,.bool false,.slice none 0 0])::(mb,96,muV L.hb t sb m)::E) D Q→(w'.setCell ⟨w.heap.size+1,2,none⟩ v2).cell? ⟨mb,0,none⟩=some (.pointer (some ⟨L.hb,0,none⟩))∧(w'.setCell ⟨w.heap.size+1,2,none⟩ v2).cell? ⟨L.hb,20,none⟩=some (.pointer (some ⟨L.ab,0,none⟩))∧(w'.setCell ⟨w.heap.size+1,2,none⟩ v2).cell? ⟨w.heap.size+1+1,4,none⟩=some (.int .u64 m.v)):=fun w' h' v2 q=>by
  obtain⟨g0,g1,g2⟩:=HK.out w' h' q
  have hf:=(Fr.refl [w.heap.size+1] w').setCell (p:=⟨w.heap.size+1,2,none⟩) (.inl (by simp)) v2
  exact⟨(hf.cell (lt_of_cell g0) (by simp;omega)).trans g0,(hf.cell (lt_of_cell g1) (by simp;omega)).trans g1,(hf.cell (lt_of_cell g2) (by simp)).trans g2⟩
 obtain⟨c0,c1,c2,c3,c4,c5,c6,c7,c8,c9,c10⟩:=muCells hmb
 have c20:=H.hc.c20
 have N20:L.hb<w.heap.size:=lt_of_cell c20
 have hl1:mb<w.heap.size+1:=by omega
 have hl2:mb<w.heap.size+1+1:=by omega
 have n0:mb≠w.heap.size:=by omega
 have j1:L.hb<w.heap.size+1:=by omega
 have j2:L.hb<w.heap.size+1+1:=by omega
 have i0:L.hb≠w.heap.size:=by omega
 have i1:L.hb≠w.heap.size+1:=by omega
 have i2:L.hb≠w.heap.size+1+1:=by omega
 have n1:mb≠w.heap.size+1:=by omega
 have n2:mb≠w.heap.size+1+1:=by omega
 rw [hk]at c4
 rw [had]at c10
 unfold resV
 clear H hmb hltE HX0 hne hneR hrm hrE hk had hI ht hd hv hv2
 go_enter Tryz.func32,Tryz.ntmps32
 go_wp2_with fail
 go_region
 go_wp2_with fail
 go_region_held3 (fun w'=>w'.cell? ⟨mb,0,none⟩=some (.pointer (some ⟨L.hb,0,none⟩))∧w'.cell? ⟨L.hb,20,none⟩=some (.pointer (some ⟨L.ab,0,none⟩))∧w'.cell? ⟨w.heap.size+1+1,4,none⟩=some (.int .u64 m.v))
  (first | with_reducible exact K0 | with_reducible exact KS | go_keep)
  (first | (go_at_call 55;refine(HC.out _ HXd.out).mono ?_;rintro e w3 ⟨rfl,hA⟩;have hz:=HZ.out _ hA;have HA4:=hide (HAn.out _ (HPk.out _ (.int .u64 0) (.int .i64 0) hA).2);replace K0:=HK.out _ _ hA;have KS:=HKS.out _ _ (.int .i64 0) hA;have u0:=hz.cell 0;have u1:=hz.cell 1;have u2:=hz.cell 2;have u3:=hz.cell 3;have u4:=hz.cell 4;have uz2:=hz.frozen 2;have NZ:=hz.lt;clear hA hz))
 all_goals
  go_wp2_with fail
  refine HA4.out.mono ?_
  rintro e w5 ⟨rfl,hA⟩
  clear u0 u1 u2 u3 u4 uz2
  have HA5:=hide hA
  have hrb:=hA.blk (List.mem_cons_of_mem _ (List.mem_cons_self ..))
  have y0:=hrb.cell 0
  have y1:=hrb.cell 1
  have y2:=hrb.cell 2
  have y3:=hrb.cell 3
  have y4:=hrb.cell 4
  have y5:=hrb.cell 5
  have y6:=hrb.cell 6
  have y7:=hrb.cell 7
  have y8:=hrb.cell 8
  have z0:=hrb.frozen 0
  have z1:=hrb.frozen 1
  have z2:=hrb.frozen 2
  have z3:=hrb.frozen 3
  have z4:=hrb.frozen 4
  have z5:=hrb.frozen 5
  have z6:=hrb.frozen 6
  have z7:=hrb.frozen 7
  have z8:=hrb.frozen 8
  have NR:=hrb.lt
  clear hA hrb
  go_wp2_with fail
  refine bodyPost_ret (v:=.agg #[.int .i64 (t:Int),.int .i64 (m.dn:Int),.int .i64 0,.int .u64 0,.bool false,.bool true,.bool false,.bool false,.slice none 0 0]) (by simp [results,Tryz.results32,go_sem, *]) rfl ⟨rfl,?_⟩
  exact HEnd.out _ _ _ _ _ _ _ _ _ _ _ _ _ _ _ _ _ _ _ HA5.out
end
end Go.Proofs.YtfcjdinlcehpmaaGreatDoor
