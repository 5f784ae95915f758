/- Package mutate: begin and Step hand on what a callee answers. -/
import Derived.Test.YtimlkjppaalfaaaGreatDoorPW24
import Derived.WalkKit
import Derived.BigQuiet
set_option linter.unusedVariables false
set_option linter.unusedSimpArgs false
set_option maxHeartbeats 1600000
set_option maxRecDepth 100000
open List renaming mem_cons_of_mem->CZ,mem_cons_self->C0,mem_cons->C1
namespace Go.Proofs.YtimlkjppaalfaaaGreatDoor
open Go.RowKit Go.Gl HS
section
variable {W w w':World}{L:HL}{X:HX}{h h2:HS}{x x2:HT}{s k:Nat}{E:aK}{D:Nat->Prop}{Q:World->Prop}{mb t sb:Nat}{m m':MU}{r0 r1 r2 r3:Int}{b4 b5 b6 b7:Bool}{A8:Option Addr}{n8 c8:Nat}
theorem ge(hS:ah D Q)(hT:Tab W)(H:HM W w L X h x s k ((mb,127,muV L.hb t sb m)::E) D Q)(hne:∀q,q∈E->q.1≠mb)(hk:m.k=1)
  (hcall:∀w' rb c,rb≠mb->(∀q,q∈E->q.1≠rb)->HM W w' L X h x s k ((mb,127,muV L.hb t sb m)::(rb,73,c)::E) D Q->Calls Tryz.prog 82 #[.pointer (some ⟨mb,0,none⟩)] w' λe w''=>e=.returned (.agg #[.int .i64 r0,.int .i64 r1,.int .i64 r2,.int .u64 r3,.bool b4,.bool b5,.bool b6,.bool b7,.slice A8 n8 c8])/\HM W w'' L X h2 x2 s k ((mb,127,muV L.hb t sb m')::(rb,73,c)::E) D Q) :
  Calls Tryz.prog 45 #[.pointer (some ⟨mb,0,none⟩)] w λe w'=>e=.returned (.agg #[.int .i64 r0,.int .i64 r1,.int .i64 r2,.int .u64 r3,.bool b4,.bool b5,.bool b6,.bool b7,.slice A8 n8 c8])/\HM W w' L X h2 x2 s k ((mb,127,muV L.hb t sb m')::E) D Q:=by
 have hmb:=H.blk (C0 ..);have hlt:=hmb.lt;have hltE:∀q,q∈E->q.1<w.heap.size:=λq hq=>(H.blk (b:=q.1) (t:=q.2.1) (cs:=q.2.2) (CZ _ hq)).lt;have hr:w.heap.size≠mb:=by omega
 have hq:∀q,q∈E->q.1≠w.heap.size:=λq hq=>by have:=hltE q hq;omega
 have HC:=aa (hcall _ w.heap.size #[.int .i64 0,.int .i64 0,.int .i64 0,.int .u64 0,.bool false,.bool false,.bool false,.bool false,.slice none 0 0] hr hq ((H.alloc hS 73 #[.int .i64 0,.int .i64 0,.int .i64 0,.int .u64 0,.bool false,.bool false,.bool false,.bool false,.slice none 0 0]).sub (λy hy=>by simp only[C1]at hy ⊢;rcases hy with e|e|e <;> simp[e])));have HEnd:Hid (∀w' a0 a1 a2 a3 a4 a5 a6 a7 a8,HM W w' L X h2 x2 s k ((mb,127,muV L.hb t sb m')::(w.heap.size,73,#[a0,a1,a2,a3,a4,a5,a6,a7,a8])::E) D Q->HM W (cD w' w.heap.size (.int .i64 r0) (.int .i64 r1) (.int .i64 r2) (.int .u64 r3) (.bool b4) (.bool b5) (.bool b6) (.bool b7) (.slice A8 n8 c8)) L X h2 x2 s k ((mb,127,muV L.hb t sb m')::E) D Q):=λw' a0 a1 a2 a3 a4 a5 a6 a7 a8 q=>by
  have q2:HM W w' L X h2 x2 s k ((w.heap.size,73,#[a0,a1,a2,a3,a4,a5,a6,a7,a8])::(mb,127,muV L.hb t sb m')::E) D Q:=q.sub (λy hy=>by simp only[C1]at hy ⊢;rcases hy with e|e|e <;> simp[e]);exact q2.cS hS hT (λy hy=>by
   rcases C1.1 hy with rfl|hy
   ·exact λe=>hr e.symm
   ·exact hq y hy) (.int .i64 r0) (.int .i64 r1) (.int .i64 r2) (.int .u64 r3) (.bool b4) (.bool b5) (.bool b6) (.bool b7) (.slice A8 n8 c8)
 obtain⟨c0,c1,c2,c3,c4,c5,c6,c7,c8,c9,c10⟩:=aJ hmb;rw[hk]at c4;clear H hmb hltE hcall hne hk hr hq;go_enter Tryz.func45,Tryz.ntmps45
 go_wp2_with fail
 refine HC.out.mono ?_;rintro e w5 ⟨rfl,hA⟩;have HA5:=aa hA;have hrb:=hA.blk (CZ _ (C0 ..));have y0:=hrb.cell 0;have y1:=hrb.cell 1;have y2:=hrb.cell 2;have y3:=hrb.cell 3;have y4:=hrb.cell 4;have y5:=hrb.cell 5;have y6:=hrb.cell 6;have y7:=hrb.cell 7;have y8:=hrb.cell 8;have z0:=hrb.frozen 0;have z1:=hrb.frozen 1;have z2:=hrb.frozen 2;have z3:=hrb.frozen 3;have z4:=hrb.frozen 4;have z5:=hrb.frozen 5;have z6:=hrb.frozen 6;have z7:=hrb.frozen 7;have z8:=hrb.frozen 8;have NR:=hrb.lt;clear hA hrb HC c0 c1 c2 c3 c4 c5 c6 c7 c8 c9 c10;go_wp2_with fail
 refine bodyPost_ret (v:=.agg #[.int .i64 r0,.int .i64 r1,.int .i64 r2,.int .u64 r3,.bool b4,.bool b5,.bool b6,.bool b7,.slice A8 n8 c8]) (by simp[results,Tryz.results45,go_sem, *]) rfl ⟨rfl,?_⟩;exact HEnd.out _ _ _ _ _ _ _ _ _ _ HA5.out
theorem dI(hS:ah D Q)(hT:Tab W)(H:HM W w L X h x s k ((mb,127,muV L.hb t sb m)::E) D Q)(hne:∀q,q∈E->q.1≠mb)(hk:m.st=1)
  (hcall:∀w' rb c,rb≠mb->(∀q,q∈E->q.1≠rb)->HM W w' L X h x s k ((mb,127,muV L.hb t sb m)::(rb,73,c)::E) D Q->Calls Tryz.prog 45 #[.pointer (some ⟨mb,0,none⟩)] w' λe w''=>e=.returned (.agg #[.int .i64 r0,.int .i64 r1,.int .i64 r2,.int .u64 r3,.bool b4,.bool b5,.bool b6,.bool b7,.slice A8 n8 c8])/\HM W w'' L X h2 x2 s k ((mb,127,muV L.hb t sb m')::(rb,73,c)::E) D Q) :
  Calls Tryz.prog 19 #[.pointer (some ⟨mb,0,none⟩)] w λe w'=>e=.returned (.agg #[.int .i64 r0,.int .i64 r1,.int .i64 r2,.int .u64 r3,.bool b4,.bool b5,.bool b6,.bool b7,.slice A8 n8 c8])/\HM W w' L X h2 x2 s k ((mb,127,muV L.hb t sb m')::E) D Q:=by
 have hmb:=H.blk (C0 ..);have hlt:=hmb.lt;have hltE:∀q,q∈E->q.1<w.heap.size:=λq hq=>(H.blk (b:=q.1) (t:=q.2.1) (cs:=q.2.2) (CZ _ hq)).lt;have hr:w.heap.size≠mb:=by omega
 have hq:∀q,q∈E->q.1≠w.heap.size:=λq hq=>by have:=hltE q hq;omega
 have HC:=aa (hcall _ w.heap.size #[.int .i64 0,.int .i64 0,.int .i64 0,.int .u64 0,.bool false,.bool false,.bool false,.bool false,.slice none 0 0] hr hq ((H.alloc hS 73 #[.int .i64 0,.int .i64 0,.int .i64 0,.int .u64 0,.bool false,.bool false,.bool false,.bool false,.slice none 0 0]).sub (λy hy=>by simp only[C1]at hy ⊢;rcases hy with e|e|e <;> simp[e])));have HEnd:Hid (∀w' a0 a1 a2 a3 a4 a5 a6 a7 a8,HM W w' L X h2 x2 s k ((mb,127,muV L.hb t sb m')::(w.heap.size,73,#[a0,a1,a2,a3,a4,a5,a6,a7,a8])::E) D Q->HM W (cD w' w.heap.size (.int .i64 r0) (.int .i64 r1) (.int .i64 r2) (.int .u64 r3) (.bool b4) (.bool b5) (.bool b6) (.bool b7) (.slice A8 n8 c8)) L X h2 x2 s k ((mb,127,muV L.hb t sb m')::E) D Q):=λw' a0 a1 a2 a3 a4 a5 a6 a7 a8 q=>by
  have q2:HM W w' L X h2 x2 s k ((w.heap.size,73,#[a0,a1,a2,a3,a4,a5,a6,a7,a8])::(mb,127,muV L.hb t sb m')::E) D Q:=q.sub (λy hy=>by simp only[C1]at hy ⊢;rcases hy with e|e|e <;> simp[e]);exact q2.cS hS hT (λy hy=>by
   rcases C1.1 hy with rfl|hy
   ·exact λe=>hr e.symm
   ·exact hq y hy) (.int .i64 r0) (.int .i64 r1) (.int .i64 r2) (.int .u64 r3) (.bool b4) (.bool b5) (.bool b6) (.bool b7) (.slice A8 n8 c8)
 obtain⟨c0,c1,c2,c3,c4,c5,c6,c7,c8,c9,c10⟩:=aJ hmb;rw[hk]at c9;clear H hmb hltE hcall hne hk hr hq;go_enter Tryz.func19,Tryz.ntmps19
 go_wp2_with fail
 refine HC.out.mono ?_;rintro e w5 ⟨rfl,hA⟩;have HA5:=aa hA;have hrb:=hA.blk (CZ _ (C0 ..));have y0:=hrb.cell 0;have y1:=hrb.cell 1;have y2:=hrb.cell 2;have y3:=hrb.cell 3;have y4:=hrb.cell 4;have y5:=hrb.cell 5;have y6:=hrb.cell 6;have y7:=hrb.cell 7;have y8:=hrb.cell 8;have z0:=hrb.frozen 0;have z1:=hrb.frozen 1;have z2:=hrb.frozen 2;have z3:=hrb.frozen 3;have z4:=hrb.frozen 4;have z5:=hrb.frozen 5;have z6:=hrb.frozen 6;have z7:=hrb.frozen 7;have z8:=hrb.frozen 8;have NR:=hrb.lt;clear hA hrb HC c0 c1 c2 c3 c4 c5 c6 c7 c8 c9 c10;go_wp2_with fail
 refine bodyPost_ret (v:=.agg #[.int .i64 r0,.int .i64 r1,.int .i64 r2,.int .u64 r3,.bool b4,.bool b5,.bool b6,.bool b7,.slice A8 n8 c8]) (by simp[results,Tryz.results19,go_sem, *]) rfl ⟨rfl,?_⟩;exact HEnd.out _ _ _ _ _ _ _ _ _ _ HA5.out
theorem lQ(hS:ah D Q)(hT:Tab W)(H:HM W w L X h x s k ((mb,127,muV L.hb t sb m)::E) D Q)(hne:∀q,q∈E->q.1≠mb)(hk:m.st=2)
  (hcall:∀w' rb c,rb≠mb->(∀q,q∈E->q.1≠rb)->HM W w' L X h x s k ((mb,127,muV L.hb t sb m)::(rb,73,c)::E) D Q->Calls Tryz.prog 45 #[.pointer (some ⟨mb,0,none⟩)] w' λe w''=>e=.returned (.agg #[.int .i64 r0,.int .i64 r1,.int .i64 r2,.int .u64 r3,.bool b4,.bool b5,.bool b6,.bool b7,.slice A8 n8 c8])/\HM W w'' L X h2 x2 s k ((mb,127,muV L.hb t sb m')::(rb,73,c)::E) D Q) :
  Calls Tryz.prog 19 #[.pointer (some ⟨mb,0,none⟩)] w λe w'=>e=.returned (.agg #[.int .i64 r0,.int .i64 r1,.int .i64 r2,.int .u64 r3,.bool b4,.bool b5,.bool b6,.bool b7,.slice A8 n8 c8])/\HM W w' L X h2 x2 s k ((mb,127,muV L.hb t sb m')::E) D Q:=by
 have hmb:=H.blk (C0 ..);have hlt:=hmb.lt;have hltE:∀q,q∈E->q.1<w.heap.size:=λq hq=>(H.blk (b:=q.1) (t:=q.2.1) (cs:=q.2.2) (CZ _ hq)).lt;have hr:w.heap.size≠mb:=by omega
 have hq:∀q,q∈E->q.1≠w.heap.size:=λq hq=>by have:=hltE q hq;omega
 have HC:=aa (hcall _ w.heap.size #[.int .i64 0,.int .i64 0,.int .i64 0,.int .u64 0,.bool false,.bool false,.bool false,.bool false,.slice none 0 0] hr hq ((H.alloc hS 73 #[.int .i64 0,.int .i64 0,.int .i64 0,.int .u64 0,.bool false,.bool false,.bool false,.bool false,.slice none 0 0]).sub (λy hy=>by simp only[C1]at hy ⊢;rcases hy with e|e|e <;> simp[e])));have HEnd:Hid (∀w' a0 a1 a2 a3 a4 a5 a6 a7 a8,HM W w' L X h2 x2 s k ((mb,127,muV L.hb t sb m')::(w.heap.size,73,#[a0,a1,a2,a3,a4,a5,a6,a7,a8])::E) D Q->HM W (cD w' w.heap.size (.int .i64 r0) (.int .i64 r1) (.int .i64 r2) (.int .u64 r3) (.bool b4) (.bool b5) (.bool b6) (.bool b7) (.slice A8 n8 c8)) L X h2 x2 s k ((mb,127,muV L.hb t sb m')::E) D Q):=λw' a0 a1 a2 a3 a4 a5 a6 a7 a8 q=>by
  have q2:HM W w' L X h2 x2 s k ((w.heap.size,73,#[a0,a1,a2,a3,a4,a5,a6,a7,a8])::(mb,127,muV L.hb t sb m')::E) D Q:=q.sub (λy hy=>by simp only[C1]at hy ⊢;rcases hy with e|e|e <;> simp[e]);exact q2.cS hS hT (λy hy=>by
   rcases C1.1 hy with rfl|hy
   ·exact λe=>hr e.symm
   ·exact hq y hy) (.int .i64 r0) (.int .i64 r1) (.int .i64 r2) (.int .u64 r3) (.bool b4) (.bool b5) (.bool b6) (.bool b7) (.slice A8 n8 c8)
 obtain⟨c0,c1,c2,c3,c4,c5,c6,c7,c8,c9,c10⟩:=aJ hmb;rw[hk]at c9;clear H hmb hltE hcall hne hk hr hq;go_enter Tryz.func19,Tryz.ntmps19
 go_wp2_with fail
 refine HC.out.mono ?_;rintro e w5 ⟨rfl,hA⟩;have HA5:=aa hA;have hrb:=hA.blk (CZ _ (C0 ..));have y0:=hrb.cell 0;have y1:=hrb.cell 1;have y2:=hrb.cell 2;have y3:=hrb.cell 3;have y4:=hrb.cell 4;have y5:=hrb.cell 5;have y6:=hrb.cell 6;have y7:=hrb.cell 7;have y8:=hrb.cell 8;have z0:=hrb.frozen 0;have z1:=hrb.frozen 1;have z2:=hrb.frozen 2;have z3:=hrb.frozen 3;have z4:=hrb.frozen 4;have z5:=hrb.frozen 5;have z6:=hrb.frozen 6;have z7:=hrb.frozen 7;have z8:=hrb.frozen 8;have NR:=hrb.lt;clear hA hrb HC c0 c1 c2 c3 c4 c5 c6 c7 c8 c9 c10;go_wp2_with fail
 refine bodyPost_ret (v:=.agg #[.int .i64 r0,.int .i64 r1,.int .i64 r2,.int .u64 r3,.bool b4,.bool b5,.bool b6,.bool b7,.slice A8 n8 c8]) (by simp[results,Tryz.results19,go_sem, *]) rfl ⟨rfl,?_⟩;exact HEnd.out _ _ _ _ _ _ _ _ _ _ HA5.out
theorem cZ(hS:ah D Q)(hT:Tab W)(H:HM W w L X h x s k ((mb,127,muV L.hb t sb m)::E) D Q)(hne:∀q,q∈E->q.1≠mb)(hk:m.st=3)
  (hcall:∀w' rb c,rb≠mb->(∀q,q∈E->q.1≠rb)->HM W w' L X h x s k ((mb,127,muV L.hb t sb m)::(rb,73,c)::E) D Q->Calls Tryz.prog 46 #[.pointer (some ⟨mb,0,none⟩)] w' λe w''=>e=.returned (.agg #[.int .i64 r0,.int .i64 r1,.int .i64 r2,.int .u64 r3,.bool b4,.bool b5,.bool b6,.bool b7,.slice A8 n8 c8])/\HM W w'' L X h2 x2 s k ((mb,127,muV L.hb t sb m')::(rb,73,c)::E) D Q) :
  Calls Tryz.prog 19 #[.pointer (some ⟨mb,0,none⟩)] w λe w'=>e=.returned (.agg #[.int .i64 r0,.int .i64 r1,.int .i64 r2,.int .u64 r3,.bool b4,.bool b5,.bool b6,.bool b7,.slice A8 n8 c8])/\HM W w' L X h2 x2 s k ((mb,127,muV L.hb t sb m')::E) D Q:=by
 have hmb:=H.blk (C0 ..);have hlt:=hmb.lt;have hltE:∀q,q∈E->q.1<w.heap.size:=λq hq=>(H.blk (b:=q.1) (t:=q.2.1) (cs:=q.2.2) (CZ _ hq)).lt;have hr:w.heap.size≠mb:=by omega
 have hq:∀q,q∈E->q.1≠w.heap.size:=λq hq=>by have:=hltE q hq;omega
 have HC:=aa (hcall _ w.heap.size #[.int .i64 0,.int .i64 0,.int .i64 0,.int .u64 0,.bool false,.bool false,.bool false,.bool false,.slice none 0 0] hr hq ((H.alloc hS 73 #[.int .i64 0,.int .i64 0,.int .i64 0,.int .u64 0,.bool false,.bool false,.bool false,.bool false,.slice none 0 0]).sub (λy hy=>by simp only[C1]at hy ⊢;rcases hy with e|e|e <;> simp[e])));have HEnd:Hid (∀w' a0 a1 a2 a3 a4 a5 a6 a7 a8,HM W w' L X h2 x2 s k ((mb,127,muV L.hb t sb m')::(w.heap.size,73,#[a0,a1,a2,a3,a4,a5,a6,a7,a8])::E) D Q->HM W (cD w' w.heap.size (.int .i64 r0) (.int .i64 r1) (.int .i64 r2) (.int .u64 r3) (.bool b4) (.bool b5) (.bool b6) (.bool b7) (.slice A8 n8 c8)) L X h2 x2 s k ((mb,127,muV L.hb t sb m')::E) D Q):=λw' a0 a1 a2 a3 a4 a5 a6 a7 a8 q=>by
  have q2:HM W w' L X h2 x2 s k ((w.heap.size,73,#[a0,a1,a2,a3,a4,a5,a6,a7,a8])::(mb,127,muV L.hb t sb m')::E) D Q:=q.sub (λy hy=>by simp only[C1]at hy ⊢;rcases hy with e|e|e <;> simp[e]);exact q2.cS hS hT (λy hy=>by
   rcases C1.1 hy with rfl|hy
   ·exact λe=>hr e.symm
   ·exact hq y hy) (.int .i64 r0) (.int .i64 r1) (.int .i64 r2) (.int .u64 r3) (.bool b4) (.bool b5) (.bool b6) (.bool b7) (.slice A8 n8 c8)
 obtain⟨c0,c1,c2,c3,c4,c5,c6,c7,c8,c9,c10⟩:=aJ hmb;rw[hk]at c9;clear H hmb hltE hcall hne hk hr hq;go_enter Tryz.func19,Tryz.ntmps19
 go_wp2_with fail
 refine HC.out.mono ?_;rintro e w5 ⟨rfl,hA⟩;have HA5:=aa hA;have hrb:=hA.blk (CZ _ (C0 ..));have y0:=hrb.cell 0;have y1:=hrb.cell 1;have y2:=hrb.cell 2;have y3:=hrb.cell 3;have y4:=hrb.cell 4;have y5:=hrb.cell 5;have y6:=hrb.cell 6;have y7:=hrb.cell 7;have y8:=hrb.cell 8;have z0:=hrb.frozen 0;have z1:=hrb.frozen 1;have z2:=hrb.frozen 2;have z3:=hrb.frozen 3;have z4:=hrb.frozen 4;have z5:=hrb.frozen 5;have z6:=hrb.frozen 6;have z7:=hrb.frozen 7;have z8:=hrb.frozen 8;have NR:=hrb.lt;clear hA hrb HC c0 c1 c2 c3 c4 c5 c6 c7 c8 c9 c10;go_wp2_with fail
 refine bodyPost_ret (v:=.agg #[.int .i64 r0,.int .i64 r1,.int .i64 r2,.int .u64 r3,.bool b4,.bool b5,.bool b6,.bool b7,.slice A8 n8 c8]) (by simp[results,Tryz.results19,go_sem, *]) rfl ⟨rfl,?_⟩;exact HEnd.out _ _ _ _ _ _ _ _ _ _ HA5.out
theorem ms(hS:ah D Q)(hT:Tab W)(H:HM W w L X h x s k ((mb,127,muV L.hb t sb m)::E) D Q)(hne:∀q,q∈E->q.1≠mb)(hk:m.st=4)
  (hcall:∀w' rb c,rb≠mb->(∀q,q∈E->q.1≠rb)->HM W w' L X h x s k ((mb,127,muV L.hb t sb m)::(rb,73,c)::E) D Q->Calls Tryz.prog 47 #[.pointer (some ⟨mb,0,none⟩)] w' λe w''=>e=.returned (.agg #[.int .i64 r0,.int .i64 r1,.int .i64 r2,.int .u64 r3,.bool b4,.bool b5,.bool b6,.bool b7,.slice A8 n8 c8])/\HM W w'' L X h2 x2 s k ((mb,127,muV L.hb t sb m')::(rb,73,c)::E) D Q) :
  Calls Tryz.prog 19 #[.pointer (some ⟨mb,0,none⟩)] w λe w'=>e=.returned (.agg #[.int .i64 r0,.int .i64 r1,.int .i64 r2,.int .u64 r3,.bool b4,.bool b5,.bool b6,.bool b7,.slice A8 n8 c8])/\HM W w' L X h2 x2 s k ((mb,127,muV L.hb t sb m')::E) D Q:=by
 have hmb:=H.blk (C0 ..);have hlt:=hmb.lt;have hltE:∀q,q∈E->q.1<w.heap.size:=λq hq=>(H.blk (b:=q.1) (t:=q.2.1) (cs:=q.2.2) (CZ _ hq)).lt;have hr:w.heap.size≠mb:=by omega
 have hq:∀q,q∈E->q.1≠w.heap.size:=λq hq=>by have:=hltE q hq;omega
 have HC:=aa (hcall _ w.heap.size #[.int .i64 0,.int .i64 0,.int .i64 0,.int .u64 0,.bool false,.bool false,.bool false,.bool false,.slice none 0 0] hr hq ((H.alloc hS 73 #[.int .i64 0,.int .i64 0,.int .i64 0,.int .u64 0,.bool false,.bool false,.bool false,.bool false,.slice none 0 0]).sub (λy hy=>by simp only[C1]at hy ⊢;rcases hy with e|e|e <;> simp[e])));have HEnd:Hid (∀w' a0 a1 a2 a3 a4 a5 a6 a7 a8,HM W w' L X h2 x2 s k ((mb,127,muV L.hb t sb m')::(w.heap.size,73,#[a0,a1,a2,a3,a4,a5,a6,a7,a8])::E) D Q->HM W (cD w' w.heap.size (.int .i64 r0) (.int .i64 r1) (.int .i64 r2) (.int .u64 r3) (.bool b4) (.bool b5) (.bool b6) (.bool b7) (.slice A8 n8 c8)) L X h2 x2 s k ((mb,127,muV L.hb t sb m')::E) D Q):=λw' a0 a1 a2 a3 a4 a5 a6 a7 a8 q=>by
  have q2:HM W w' L X h2 x2 s k ((w.heap.size,73,#[a0,a1,a2,a3,a4,a5,a6,a7,a8])::(mb,127,muV L.hb t sb m')::E) D Q:=q.sub (λy hy=>by simp only[C1]at hy ⊢;rcases hy with e|e|e <;> simp[e]);exact q2.cS hS hT (λy hy=>by
   rcases C1.1 hy with rfl|hy
   ·exact λe=>hr e.symm
   ·exact hq y hy) (.int .i64 r0) (.int .i64 r1) (.int .i64 r2) (.int .u64 r3) (.bool b4) (.bool b5) (.bool b6) (.bool b7) (.slice A8 n8 c8)
 obtain⟨c0,c1,c2,c3,c4,c5,c6,c7,c8,c9,c10⟩:=aJ hmb;rw[hk]at c9;clear H hmb hltE hcall hne hk hr hq;go_enter Tryz.func19,Tryz.ntmps19
 go_wp2_with fail
 refine HC.out.mono ?_;rintro e w5 ⟨rfl,hA⟩;have HA5:=aa hA;have hrb:=hA.blk (CZ _ (C0 ..));have y0:=hrb.cell 0;have y1:=hrb.cell 1;have y2:=hrb.cell 2;have y3:=hrb.cell 3;have y4:=hrb.cell 4;have y5:=hrb.cell 5;have y6:=hrb.cell 6;have y7:=hrb.cell 7;have y8:=hrb.cell 8;have z0:=hrb.frozen 0;have z1:=hrb.frozen 1;have z2:=hrb.frozen 2;have z3:=hrb.frozen 3;have z4:=hrb.frozen 4;have z5:=hrb.frozen 5;have z6:=hrb.frozen 6;have z7:=hrb.frozen 7;have z8:=hrb.frozen 8;have NR:=hrb.lt;clear hA hrb HC c0 c1 c2 c3 c4 c5 c6 c7 c8 c9 c10;go_wp2_with fail
 refine bodyPost_ret (v:=.agg #[.int .i64 r0,.int .i64 r1,.int .i64 r2,.int .u64 r3,.bool b4,.bool b5,.bool b6,.bool b7,.slice A8 n8 c8]) (by simp[results,Tryz.results19,go_sem, *]) rfl ⟨rfl,?_⟩;exact HEnd.out _ _ _ _ _ _ _ _ _ _ HA5.out
theorem gV(hS:ah D Q)(hT:Tab W)(H:HM W w L X h x s k ((mb,127,muV L.hb t sb m)::E) D Q)(hne:∀q,q∈E->q.1≠mb)(hk:m.st=5)
  (hcall:∀w' rb c,rb≠mb->(∀q,q∈E->q.1≠rb)->HM W w' L X h x s k ((mb,127,muV L.hb t sb m)::(rb,73,c)::E) D Q->Calls Tryz.prog 48 #[.pointer (some ⟨mb,0,none⟩)] w' λe w''=>e=.returned (.agg #[.int .i64 r0,.int .i64 r1,.int .i64 r2,.int .u64 r3,.bool b4,.bool b5,.bool b6,.bool b7,.slice A8 n8 c8])/\HM W w'' L X h2 x2 s k ((mb,127,muV L.hb t sb m')::(rb,73,c)::E) D Q) :
  Calls Tryz.prog 19 #[.pointer (some ⟨mb,0,none⟩)] w λe w'=>e=.returned (.agg #[.int .i64 r0,.int .i64 r1,.int .i64 r2,.int .u64 r3,.bool b4,.bool b5,.bool b6,.bool b7,.slice A8 n8 c8])/\HM W w' L X h2 x2 s k ((mb,127,muV L.hb t sb m')::E) D Q:=by
 have hmb:=H.blk (C0 ..);have hlt:=hmb.lt;have hltE:∀q,q∈E->q.1<w.heap.size:=λq hq=>(H.blk (b:=q.1) (t:=q.2.1) (cs:=q.2.2) (CZ _ hq)).lt;have hr:w.heap.size≠mb:=by omega
 have hq:∀q,q∈E->q.1≠w.heap.size:=λq hq=>by have:=hltE q hq;omega
 have HC:=aa (hcall _ w.heap.size #[.int .i64 0,.int .i64 0,.int .i64 0,.int .u64 0,.bool false,.bool false,.bool false,.bool false,.slice none 0 0] hr hq ((H.alloc hS 73 #[.int .i64 0,.int .i64 0,.int .i64 0,.int .u64 0,.bool false,.bool false,.bool false,.bool false,.slice none 0 0]).sub (λy hy=>by simp only[C1]at hy ⊢;rcases hy with e|e|e <;> simp[e])));have HEnd:Hid (∀w' a0 a1 a2 a3 a4 a5 a6 a7 a8,HM W w' L X h2 x2 s k ((mb,127,muV L.hb t sb m')::(w.heap.size,73,#[a0,a1,a2,a3,a4,a5,a6,a7,a8])::E) D Q->HM W (cD w' w.heap.size (.int .i64 r0) (.int .i64 r1) (.int .i64 r2) (.int .u64 r3) (.bool b4) (.bool b5) (.bool b6) (.bool b7) (.slice A8 n8 c8)) L X h2 x2 s k ((mb,127,muV L.hb t sb m')::E) D Q):=λw' a0 a1 a2 a3 a4 a5 a6 a7 a8 q=>by
  have q2:HM W w' L X h2 x2 s k ((w.heap.size,73,#[a0,a1,a2,a3,a4,a5,a6,a7,a8])::(mb,127,muV L.hb t sb m')::E) D Q:=q.sub (λy hy=>by simp only[C1]at hy ⊢;rcases hy with e|e|e <;> simp[e]);exact q2.cS hS hT (λy hy=>by
   rcases C1.1 hy with rfl|hy
   ·exact λe=>hr e.symm
   ·exact hq y hy) (.int .i64 r0) (.int .i64 r1) (.int .i64 r2) (.int .u64 r3) (.bool b4) (.bool b5) (.bool b6) (.bool b7) (.slice A8 n8 c8)
 obtain⟨c0,c1,c2,c3,c4,c5,c6,c7,c8,c9,c10⟩:=aJ hmb;rw[hk]at c9;clear H hmb hltE hcall hne hk hr hq;go_enter Tryz.func19,Tryz.ntmps19
 go_wp2_with fail
 refine HC.out.mono ?_;rintro e w5 ⟨rfl,hA⟩;have HA5:=aa hA;have hrb:=hA.blk (CZ _ (C0 ..));have y0:=hrb.cell 0;have y1:=hrb.cell 1;have y2:=hrb.cell 2;have y3:=hrb.cell 3;have y4:=hrb.cell 4;have y5:=hrb.cell 5;have y6:=hrb.cell 6;have y7:=hrb.cell 7;have y8:=hrb.cell 8;have z0:=hrb.frozen 0;have z1:=hrb.frozen 1;have z2:=hrb.frozen 2;have z3:=hrb.frozen 3;have z4:=hrb.frozen 4;have z5:=hrb.frozen 5;have z6:=hrb.frozen 6;have z7:=hrb.frozen 7;have z8:=hrb.frozen 8;have NR:=hrb.lt;clear hA hrb HC c0 c1 c2 c3 c4 c5 c6 c7 c8 c9 c10;go_wp2_with fail
 refine bodyPost_ret (v:=.agg #[.int .i64 r0,.int .i64 r1,.int .i64 r2,.int .u64 r3,.bool b4,.bool b5,.bool b6,.bool b7,.slice A8 n8 c8]) (by simp[results,Tryz.results19,go_sem, *]) rfl ⟨rfl,?_⟩;exact HEnd.out _ _ _ _ _ _ _ _ _ _ HA5.out
end
end Go.Proofs.YtimlkjppaalfaaaGreatDoor
