/- Several texts joined (pack.py): Zl Zm Zn Zo Zp Yx Gpo. -/
import Derived.Test.YtfcjdinlcehpmaaGreatDoorPW29
import Derived.Test.YtfcjdinlcehpmaaGreatDoorPW27
import Derived.Test.YtfcjdinlcehpmaaGreatDoorPW22
import Derived.WalkKit
import Derived.BigQuiet
import Derived.Test.YtfcjdinlcehpmaaGreatDoorPW28
import Derived.Test.YtfcjdinlcehpmaaGreatDoorPW05
namespace Go.Proofs.YtfcjdinlcehpmaaGreatDoor
set_option linter.unusedVariables false
set_option linter.unusedSimpArgs false
set_option maxRecDepth 100000
open Go.RowKit Go.Gl HS
section
variable {W w w':World}{L:HL}{X:HX}{h h2:HS}{x x2:HT}{s k:Nat}{E:Blks}{D D0:Nat→Prop}{Q Q0:World→Prop}{mb t sb ob:Nat}{m:MU}
set_option maxHeartbeats 3200000 in
theorem mtuse_put(hS:Lives D0 Q0)(hT:Tab W){A:Option Addr}{n c:Nat}{G:List Nat}{xs:List Value}{OV:Nat→Value}(H:HM W w L X h x s k ((mb,96,muV L.hb t sb m)::(ob,30,rowF h.T OV)::E) (fun b=>b∈G∨D0 b) (fun w=>Lr w 45 A n c G xs∧Q0 w))
  (hne0:∀q,q∈E→q.1≠mb) (hob:∀q,q∈E→q.1≠ob) (hms:(sb,40,#[.bool true,.slice (some ⟨ob,0,none⟩) h.T h.T])∈E) (ht:t<h.T) (hO:OV t=.slice A n c) (hGD:∀g,g∈G→¬ D0 g) (hn:n≤1048576) (hk:m.k=3) {I:Nat} (had:m.ad=(I:Int)) (hI:I<h.n) (hz:h.f I≠0) :
  Calls Tryz.prog 32 #[.pointer (some ⟨mb,0,none⟩)] w (LogP W L X h x s k E D0 Q0 mb t sb ob n xs OV m I):=by
 have hS1:=hS.row 45 A n c G xs
 have hmb:=H.blk (List.mem_cons_self ..)
 have hlt:=hmb.lt
 have hbo:=H.blk (b:=ob) (List.mem_cons_of_mem _ (List.mem_cons_self ..))
 have hom:ob≠mb:=hbo.apart hmb (by decide)
 have hltE:∀q,q∈((ob,30,rowF h.T OV)::E:Blks)→q.1<w.heap.size:=fun q hq=>(H.blk (b:=q.1) (t:=q.2.1) (cs:=q.2.2) (List.mem_cons_of_mem _ hq)).lt
 have hlo:ob<w.heap.size:=hbo.lt
 have hrm:w.heap.size≠mb:=by omega
 have hro:w.heap.size≠ob:=by omega
 have hrE:∀q,q∈E→q.1≠w.heap.size:=fun q hq=>by have:=hltE q (List.mem_cons_of_mem _ hq);omega
 have HX0:Hid (HM W (w.alloc (.cells #[.int .i64 0,.int .i64 0,.int .i64 0,.int .u64 0,.bool false,.bool false,.bool false,.bool false,.slice none 0 0] 61)) L X h x s k ((w.heap.size,61,#[.int .i64 0,.int .i64 0,.int .i64 0,.int .u64 0,.bool false,.bool false,.bool false,.bool false,.slice none 0 0])::(mb,96,muV L.hb t sb m)::(ob,30,rowF h.T OV)::E) (fun b=>b∈G∨D0 b) (fun w=>Lr w 45 A n c G xs∧Q0 w)):=H.alloc hS1 61 #[.int .i64 0,.int .i64 0,.int .i64 0,.int .u64 0,.bool false,.bool false,.bool false,.bool false,.slice none 0 0]
 have q0:HM W (((w.alloc (.cells #[.int .i64 0,.int .i64 0,.int .i64 0,.int .u64 0,.bool false,.bool false,.bool false,.bool false,.slice none 0 0] 61)).alloc (.cells #[.int .i64 0,.int .i64 0,.int .i64 0,.int .u64 0,.bool false] 59)).alloc (.cells #[.int .i64 3,.int .i64 m.a,.int .i64 m.b,.int .i64 m.c,.int .u64 m.v] 44)).drew L X h x s k ((w.heap.size+1+1,44,#[.int .i64 3,.int .i64 m.a,.int .i64 m.b,.int .i64 m.c,.int .u64 m.v])::(w.heap.size+1,59,#[.int .i64 0,.int .i64 0,.int .i64 0,.int .u64 0,.bool false])::(w.heap.size,61,#[.int .i64 0,.int .i64 0,.int .i64 0,.int .u64 0,.bool false,.bool false,.bool false,.bool false,.slice none 0 0])::(mb,96,muV L.hb t sb m)::(ob,30,rowF h.T OV)::E) (fun b=>b∈G∨D0 b) (fun w=>Lr w 45 A n c G xs∧Q0 w):=by
  have q:=((HX0.out.alloc hS1 59 #[.int .i64 0,.int .i64 0,.int .i64 0,.int .u64 0,.bool false]).alloc hS1 44 #[.int .i64 3,.int .i64 m.a,.int .i64 m.b,.int .i64 m.c,.int .u64 m.v]).fr0 hS1 (Fr.refl _ _).drew
  rw [show((w.alloc (.cells #[.int .i64 0,.int .i64 0,.int .i64 0,.int .u64 0,.bool false,.bool false,.bool false,.bool false,.slice none 0 0] 61)).alloc (.cells #[.int .i64 0,.int .i64 0,.int .i64 0,.int .u64 0,.bool false] 59)).heap.size=w.heap.size+1+1 by simp,show(w.alloc (.cells #[.int .i64 0,.int .i64 0,.int .i64 0,.int .u64 0,.bool false,.bool false,.bool false,.bool false,.slice none 0 0] 61)).heap.size=w.heap.size+1 by simp]at q
  exact q
 have q1:HM W (((w.alloc (.cells #[.int .i64 0,.int .i64 0,.int .i64 0,.int .u64 0,.bool false,.bool false,.bool false,.bool false,.slice none 0 0] 61)).alloc (.cells #[.int .i64 0,.int .i64 0,.int .i64 0,.int .u64 0,.bool false] 59)).alloc (.cells #[.int .i64 3,.int .i64 m.a,.int .i64 m.b,.int .i64 m.c,.int .u64 m.v] 44)).drew L X h x s k ((mb,96,muV L.hb t sb m)::(ob,30,rowF h.T OV)::(w.heap.size+1+1,44,#[.int .i64 3,.int .i64 m.a,.int .i64 m.b,.int .i64 m.c,.int .u64 m.v])::(w.heap.size+1,59,#[.int .i64 0,.int .i64 0,.int .i64 0,.int .u64 0,.bool false])::(w.heap.size,61,#[.int .i64 0,.int .i64 0,.int .i64 0,.int .u64 0,.bool false,.bool false,.bool false,.bool false,.slice none 0 0])::E) (fun b=>b∈G∨D0 b) (fun w=>Lr w 45 A n c G xs∧Q0 w):=q0.sub (fun y hy=>by simp only [List.mem_cons]at hy ⊢;rcases hy with e | e | e | e | e | e <;> simp [e])
 have HC:=hide (mtlog_put hS hT q1 (ne_cons (by show w.heap.size+1+1≠mb;omega) (ne_cons (by show w.heap.size+1≠mb;omega) (ne_cons hrm hne0))) (ne_cons (by show w.heap.size+1+1≠ob;omega) (ne_cons (by show w.heap.size+1≠ob;omega) (ne_cons hro hob))) (List.mem_cons_of_mem _ (List.mem_cons_of_mem _ (List.mem_cons_of_mem _ hms))) ht hO hGD hn had hI hz)
 have HDr:Hid (∀w' A' c' G',HM W w' L X h x s k ((mb,96,muV L.hb t sb { m with st:=4,ad:=(I:Int) })::(ob,30,rowF h.T (putF OV t (.slice A' (n+1) c')))::(w.heap.size+1+1,44,#[.int .i64 3,.int .i64 m.a,.int .i64 m.b,.int .i64 m.c,.int .u64 m.v])::(w.heap.size+1,59,#[.int .i64 0,.int .i64 0,.int .i64 0,.int .u64 0,.bool false])::(w.heap.size,61,#[.int .i64 0,.int .i64 0,.int .i64 0,.int .u64 0,.bool false,.bool false,.bool false,.bool false,.slice none 0 0])::E) (fun b=>b∈G'∨D0 b) (fun w=>Lr w 45 A' (n+1) c' G' (xs++[.int .u64 (h.f I:Int)])∧Q0 w)→HM W w' L X h x s k ((mb,96,muV L.hb t sb { m with st:=4,ad:=(I:Int) })::(w.heap.size,61,#[.int .i64 0,.int .i64 0,.int .i64 0,.int .u64 0,.bool false,.bool false,.bool false,.bool false,.slice none 0 0])::(ob,30,rowF h.T (putF OV t (.slice A' (n+1) c')))::E) (fun b=>b∈G'∨D0 b) (fun w=>Lr w 45 A' (n+1) c' G' (xs++[.int .u64 (h.f I:Int)])∧Q0 w)):=fun w' A' c' G' q=>q.sub (fun y hy=>by simp only [List.mem_cons]at hy ⊢;rcases hy with e | e | e | e <;> simp [e])
 have HEnd:Hid (∀w' A' c' G' v0 v1 v2 v3 v4 v5 v6 v7 v8,HM W w' L X h x s k ((mb,96,muV L.hb t sb { m with st:=4,ad:=(I:Int) })::(w.heap.size,61,#[.int .i64 0,.int .i64 0,.int .i64 0,.int .u64 0,.bool false,.bool false,.bool false,.bool false,.slice none 0 0])::(ob,30,rowF h.T (putF OV t (.slice A' (n+1) c')))::E) (fun b=>b∈G'∨D0 b) (fun w=>Lr w 45 A' (n+1) c' G' (xs++[.int .u64 (h.f I:Int)])∧Q0 w)→(∀g,g∈G'→¬ D0 g) →
   LogP W L X h x s k E D0 Q0 mb t sb ob n xs OV m I (.returned (.agg #[.int .i64 0,.int .i64 0,.int .i64 0,.int .u64 0,.bool false,.bool false,.bool true,.bool false,.slice none 0 0])) (put9 w' w.heap.size v0 v1 v2 v3 v4 v5 v6 v7 v8)):=fun w' A' c' G' v0 v1 v2 v3 v4 v5 v6 v7 v8 q hg=>
  ⟨A',c',G',rfl,q.swap.res9 (hS.row _ _ _ _ _ _) hT (ne_cons (fun e=>hrm e.symm) (ne_cons (fun e=>hro e.symm) hrE)) v0 v1 v2 v3 v4 v5 v6 v7 v8,hg⟩
 have hsb:=H.blk (List.mem_cons_of_mem _ (List.mem_cons_of_mem _ hms))
 have cs0:=hsb.cell 0
 have NS:=hsb.lt
 obtain⟨c0,c1,c2,c3,c4,c5,c6,c7,c8,c9,c10⟩:=muCells hmb
 rw [hk]at c4
 have hl1:mb<w.heap.size+1:=by omega
 have hl2:mb<w.heap.size+1+1:=by omega
 have n0:mb≠w.heap.size:=by omega
 have n1:mb≠w.heap.size+1:=by omega
 have n2:mb≠w.heap.size+1+1:=by omega
 have j1:sb<w.heap.size+1:=by omega
 have j2:sb<w.heap.size+1+1:=by omega
 have i0:sb≠w.heap.size:=by omega
 have i1:sb≠w.heap.size+1:=by omega
 have i2:sb≠w.heap.size+1+1:=by omega
 clear H hmb hbo hltE HX0 hne0 hob hom hrm hro hrE had hI hz hms hO hGD hS hS1 hn ht hlo q1 hk q0 hsb
 go_enter Tryz.func32,Tryz.ntmps32
 go_wp2_with fail
 go_region
 go_wp2_with fail
 refine HC.out.mono ?_
 rintro e w5 ⟨A',c',G',rfl,hA0,hg0⟩
 have HG0:=hide hg0
 have hA:=HDr.out _ _ _ _ hA0
 clear hA0 hg0 HC c0 c1 c2 c3 c4 c5 c6 c7 c8 c9 c10 cs0
 have HA5:=hide hA
 have hrb:=hA.blk (List.mem_cons_of_mem _ (List.mem_cons_self ..))
 have y0:=hrb.cell 0
 have y1:=hrb.cell 1
 have y2:=hrb.cell 2
 have y3:=hrb.cell 3
 have y4:=hrb.cell 4
 have y5:=hrb.cell 5
 have y6:=hrb.cell 6
 have y7:=hrb.cell 7
 have y8:=hrb.cell 8
 have z0:=hrb.frozen 0
 have z1:=hrb.frozen 1
 have z2:=hrb.frozen 2
 have z3:=hrb.frozen 3
 have z4:=hrb.frozen 4
 have z5:=hrb.frozen 5
 have z6:=hrb.frozen 6
 have z7:=hrb.frozen 7
 have z8:=hrb.frozen 8
 have NR:=hrb.lt
 clear hA hrb
 unfold resV An.zero
 go_wp2_with fail
 refine bodyPost_ret (v:=.agg #[.int .i64 0,.int .i64 0,.int .i64 0,.int .u64 0,.bool false,.bool false,.bool true,.bool false,.slice none 0 0]) (by simp [results,Tryz.results32,go_sem, *]) rfl ?_
 exact HEnd.out _ _ _ _ _ _ _ _ _ _ _ _ _ HA5.out HG0.out
set_option maxHeartbeats 3200000 in
theorem mtstep_put(hS:Lives D0 Q0)(hT:Tab W){A:Option Addr}{n c:Nat}{G:List Nat}{xs:List Value}{OV:Nat→Value}(H:HM W w L X h x s k ((mb,96,muV L.hb t sb m)::(ob,30,rowF h.T OV)::E) (fun b=>b∈G∨D0 b) (fun w=>Lr w 45 A n c G xs∧Q0 w))
  (hne0:∀q,q∈E→q.1≠mb) (hob:∀q,q∈E→q.1≠ob) (hms:(sb,40,#[.bool true,.slice (some ⟨ob,0,none⟩) h.T h.T])∈E) (ht:t<h.T) (hO:OV t=.slice A n c) (hGD:∀g,g∈G→¬ D0 g) (hn:n≤1048576) (hk:m.k=3) (hst:m.st=3) {I:Nat} (had:m.ad=(I:Int)) (hI:I<h.n) (hz:h.f I≠0) :
  Calls Tryz.prog 13 #[.pointer (some ⟨mb,0,none⟩)] w (LogP W L X h x s k E D0 Q0 mb t sb ob n xs OV m I):=by
 have hS1:=hS.row 45 A n c G xs
 have hmb:=H.blk (List.mem_cons_self ..)
 have hlt:=hmb.lt
 have hbo:=H.blk (b:=ob) (List.mem_cons_of_mem _ (List.mem_cons_self ..))
 have hom:ob≠mb:=hbo.apart hmb (by decide)
 have hltE:∀q,q∈((ob,30,rowF h.T OV)::E:Blks)→q.1<w.heap.size:=fun q hq=>(H.blk (b:=q.1) (t:=q.2.1) (cs:=q.2.2) (List.mem_cons_of_mem _ hq)).lt
 have hlo:ob<w.heap.size:=hbo.lt
 have hrm:w.heap.size≠mb:=by omega
 have hro:w.heap.size≠ob:=by omega
 have hrE:∀q,q∈E→q.1≠w.heap.size:=fun q hq=>by have:=hltE q (List.mem_cons_of_mem _ hq);omega
 have HX0:Hid (HM W (w.alloc (.cells #[.int .i64 0,.int .i64 0,.int .i64 0,.int .u64 0,.bool false,.bool false,.bool false,.bool false,.slice none 0 0] 61)) L X h x s k ((w.heap.size,61,#[.int .i64 0,.int .i64 0,.int .i64 0,.int .u64 0,.bool false,.bool false,.bool false,.bool false,.slice none 0 0])::(mb,96,muV L.hb t sb m)::(ob,30,rowF h.T OV)::E) (fun b=>b∈G∨D0 b) (fun w=>Lr w 45 A n c G xs∧Q0 w)):=H.alloc hS1 61 #[.int .i64 0,.int .i64 0,.int .i64 0,.int .u64 0,.bool false,.bool false,.bool false,.bool false,.slice none 0 0]
 have q1:HM W (w.alloc (.cells #[.int .i64 0,.int .i64 0,.int .i64 0,.int .u64 0,.bool false,.bool false,.bool false,.bool false,.slice none 0 0] 61)) L X h x s k ((mb,96,muV L.hb t sb m)::(ob,30,rowF h.T OV)::(w.heap.size,61,#[.int .i64 0,.int .i64 0,.int .i64 0,.int .u64 0,.bool false,.bool false,.bool false,.bool false,.slice none 0 0])::E) (fun b=>b∈G∨D0 b) (fun w=>Lr w 45 A n c G xs∧Q0 w):=HX0.out.sub (fun y hy=>by simp only [List.mem_cons]at hy ⊢;rcases hy with e | e | e | e <;> simp [e])
 have HC:=hide (mtuse_put hS hT q1 (ne_cons hrm hne0) (ne_cons hro hob) (List.mem_cons_of_mem _ hms) ht hO hGD hn hk had hI hz)
 have HDr:Hid (∀w' A' c' G',HM W w' L X h x s k ((mb,96,muV L.hb t sb { m with st:=4,ad:=(I:Int) })::(ob,30,rowF h.T (putF OV t (.slice A' (n+1) c')))::(w.heap.size,61,#[.int .i64 0,.int .i64 0,.int .i64 0,.int .u64 0,.bool false,.bool false,.bool false,.bool false,.slice none 0 0])::E) (fun b=>b∈G'∨D0 b) (fun w=>Lr w 45 A' (n+1) c' G' (xs++[.int .u64 (h.f I:Int)])∧Q0 w)→HM W w' L X h x s k ((mb,96,muV L.hb t sb { m with st:=4,ad:=(I:Int) })::(w.heap.size,61,#[.int .i64 0,.int .i64 0,.int .i64 0,.int .u64 0,.bool false,.bool false,.bool false,.bool false,.slice none 0 0])::(ob,30,rowF h.T (putF OV t (.slice A' (n+1) c')))::E) (fun b=>b∈G'∨D0 b) (fun w=>Lr w 45 A' (n+1) c' G' (xs++[.int .u64 (h.f I:Int)])∧Q0 w)):=fun w' A' c' G' q=>q.sub (fun y hy=>by simp only [List.mem_cons]at hy ⊢;rcases hy with e | e | e | e <;> simp [e])
 have HEnd:Hid (∀w' A' c' G' v0 v1 v2 v3 v4 v5 v6 v7 v8,HM W w' L X h x s k ((mb,96,muV L.hb t sb { m with st:=4,ad:=(I:Int) })::(w.heap.size,61,#[.int .i64 0,.int .i64 0,.int .i64 0,.int .u64 0,.bool false,.bool false,.bool false,.bool false,.slice none 0 0])::(ob,30,rowF h.T (putF OV t (.slice A' (n+1) c')))::E) (fun b=>b∈G'∨D0 b) (fun w=>Lr w 45 A' (n+1) c' G' (xs++[.int .u64 (h.f I:Int)])∧Q0 w)→(∀g,g∈G'→¬ D0 g) →
   LogP W L X h x s k E D0 Q0 mb t sb ob n xs OV m I (.returned (.agg #[.int .i64 0,.int .i64 0,.int .i64 0,.int .u64 0,.bool false,.bool false,.bool true,.bool false,.slice none 0 0])) (put9 w' w.heap.size v0 v1 v2 v3 v4 v5 v6 v7 v8)):=fun w' A' c' G' v0 v1 v2 v3 v4 v5 v6 v7 v8 q hg=>
  ⟨A',c',G',rfl,q.swap.res9 (hS.row _ _ _ _ _ _) hT (ne_cons (fun e=>hrm e.symm) (ne_cons (fun e=>hro e.symm) hrE)) v0 v1 v2 v3 v4 v5 v6 v7 v8,hg⟩
 obtain⟨c0,c1,c2,c3,c4,c5,c6,c7,c8,c9,c10⟩:=muCells hmb
 rw [hst]at c9
 clear H hmb hbo hltE HX0 hne0 hob hom hrm hro hrE had hI hz hms hO hGD hS hS1 hn ht hlo q1 hk hst
 go_enter Tryz.func13,Tryz.ntmps13
 go_wp2_with fail
 refine HC.out.mono ?_
 rintro e w5 ⟨A',c',G',rfl,hA0,hg0⟩
 have HG0:=hide hg0
 have hA:=HDr.out _ _ _ _ hA0
 clear hA0 hg0 HC c0 c1 c2 c3 c4 c5 c6 c7 c8 c9 c10
 have HA5:=hide hA
 have hrb:=hA.blk (List.mem_cons_of_mem _ (List.mem_cons_self ..))
 have y0:=hrb.cell 0
 have y1:=hrb.cell 1
 have y2:=hrb.cell 2
 have y3:=hrb.cell 3
 have y4:=hrb.cell 4
 have y5:=hrb.cell 5
 have y6:=hrb.cell 6
 have y7:=hrb.cell 7
 have y8:=hrb.cell 8
 have z0:=hrb.frozen 0
 have z1:=hrb.frozen 1
 have z2:=hrb.frozen 2
 have z3:=hrb.frozen 3
 have z4:=hrb.frozen 4
 have z5:=hrb.frozen 5
 have z6:=hrb.frozen 6
 have z7:=hrb.frozen 7
 have z8:=hrb.frozen 8
 have NR:=hrb.lt
 clear hA hrb
 unfold resV An.zero
 go_wp2_with fail
 refine bodyPost_ret (v:=.agg #[.int .i64 0,.int .i64 0,.int .i64 0,.int .u64 0,.bool false,.bool false,.bool true,.bool false,.slice none 0 0]) (by simp [results,Tryz.results13,go_sem, *]) rfl ?_
 exact HEnd.out _ _ _ _ _ _ _ _ _ _ _ _ _ HA5.out HG0.out
end
section
variable {W w w':World}{L:HL}{X:HX}{h:HS}{x:HT}{s k:Nat}{E:Blks}{D D0:Nat→Prop}{Q Q0:World→Prop}{mb t sb ob:Nat}{m:MU}{σ:GS}{A:Nat→Nat}{rv:Nat→Option (Nat×Nat)}{M T:Nat}
theorem card_nat(ok:h.Ok s k){I:Nat}(hI:I<h.n):∃c:Nat,h.g.cardOf (I:Int)=(c:Int):=by
 have hp:=pw_pos k
 have e:h.g.cardOf (I:Int)=(I:Int) / h.g.cw:=by
  unfold Geo.cardOf
  rw [if_pos ⟨by omega,by rw [ok.wd];omega⟩]
 rw [e,ok.geo.cw]
 exact Int.eq_ofNat_of_zero_le (Int.ediv_nonneg (by omega) (by omega))
theorem step_log_nil(hS:Lives D Q)(hT:Tab W)(H:HM W w L X h x s k ((mb,96,muV L.hb t sb m)::E) D Q)(hne:∀q,q∈E→q.1≠mb)(hst:m.st=3)(hk:m.k=3)(S:Sim h σ A rv)(eT:h.T=T)(hr:rv t=none){q I:Nat}(l:Looked σ A t m.op q I)(had:m.ad=(I:Int))(hI:I<h.n)(hz:h.f I=0)
  {sv:Value} (hms:(sb,40,#[.bool true,sv])∈E) :
  Calls Tryz.prog 13 #[.pointer (some ⟨mb,0,none⟩)] w (StepP W L X x s k E D Q mb t sb M T m h σ A rv):=by
 refine(mtstep_looked hS hT H hne hst (fun w1 rb1 c1 n1 n2 H1=>mtuse_log hS hT H1 (ne_cons n1 hne) hk (List.mem_cons_of_mem _ hms) (fun w2 E2 n3 _ H2=>mtlog_nil hS hT H2 n3 had hI hz))).mono ?_
 rintro e w' ⟨rfl,hA⟩
 exact⟨h,x,σ,A,rv,_,hA,S,.inr (.inr (.inr (.inr (.inr (.inr ⟨rfl,hk,hr,q,I,l,hI,rfl⟩))))),SameQ.refl _,rfl,rfl,rfl,rfl,rfl,fun _ _=>rfl,fun _ _=>rfl,fun _ _=>rfl,.inl ⟨rfl,rfl,rfl,rfl,.inr (.inr ⟨rfl,hst⟩),by show rkM 4<_;rw [hst];decide,rfl,fun _=>⟨I,had,hz⟩⟩⟩
def StepA(W:World)(L:HL)(X:HX)(h:HS)(x:HT)(s k:Nat)(E:Blks)(A0:Option Addr)(n0 c0:Nat)(G:List Nat)(xs:List Value)(OV:Nat→Value)(D0:Nat→Prop)(Q0:World→Prop)(mb t sb ob:Nat)(M T:Nat)(mk:Bool)(m:MU)(σ:GS)(A:Nat→Nat)(rv:Nat→Option (Nat×Nat))(e:Ending)(w':World):Prop:=
 (m.st≠6∧(m.st=3→m.k=3→mk=true→∃I:Nat,m.ad=(I:Int)∧h.f I=0)∧StepP W L X x s k ((ob,30,rowF h.T OV)::E) (fun b=>b∈G∨D0 b) (fun w=>Lr w 45 A0 n0 c0 G xs∧Q0 w) mb t sb M T m h σ A rv e w') ∨
 (m.st=6∧rv t=none∧∃I c:Nat,m.ad=(I:Int)∧I<h.n∧h.g.cardOf (I:Int)=(c:Int)∧NoteP W L X h x s k ((ob,30,rowF h.T OV)::E) (fun b=>b∈G∨D0 b) (fun w=>Lr w 45 A0 n0 c0 G xs∧Q0 w) mb t sb m.dn c e w') ∨
 (mk=true∧m.st=3∧m.k=3∧rv t=none∧∃q I:Nat,Looked σ A t m.op q I∧m.ad=(I:Int)∧I<h.n∧h.f I≠0∧LogP W L X h x s k E D0 Q0 mb t sb ob n0 xs OV m I e w')
theorem step_any(hS:Lives D0 Q0)(hT:Tab W){A0:Option Addr}{n0 c0:Nat}{G:List Nat}{xs:List Value}{OV:Nat→Value}{mk:Bool}
  (H:HM W w L X h x s k ((mb,96,muV L.hb t sb m)::(ob,30,rowF h.T OV)::E) (fun b=>b∈G∨D0 b) (fun w=>Lr w 45 A0 n0 c0 G xs∧Q0 w))
  (hne0:∀q,q∈E→q.1≠mb) (hob:∀q,q∈E→q.1≠ob) (hms:(sb,40,#[.bool mk,.slice (some ⟨ob,0,none⟩) h.T h.T])∈E) (hO:OV t=.slice A0 n0 c0) (hGD:∀g,g∈G→¬ D0 g) (hn0:n0≤1048576)
  (hp:Phase h.n M σ A rv t m) (hst:m.st≠0) (hd:(m.dn:Int)+1≤9223372036854775807) (hv:m.st≠6→0≤m.v∧m.v<18446744073709551616)
  (S:Sim h σ A rv) (gk:GOk T L.B σ) (eT:h.T=T) (ht:t<T) (ho:m.st≠6→PoOk m.op) (hB:L.B≤64) (hM:h.g.max=(M:Int)) (hM2:M≤1048576) (hQ:QOk h.T x.qm x.qc x.ql) :
  Calls Tryz.prog 13 #[.pointer (some ⟨mb,0,none⟩)] w (StepA W L X h x s k E A0 n0 c0 G xs OV D0 Q0 mb t sb ob M T mk m σ A rv):=by
 have hS1:=hS.row 45 A0 n0 c0 G xs
 have hmb:=H.blk (List.mem_cons_self ..)
 have hbo:=H.blk (b:=ob) (List.mem_cons_of_mem _ (List.mem_cons_self ..))
 have hne:∀q,q∈((ob,30,rowF h.T OV)::E:Blks)→q.1≠mb:=ne_cons (hbo.apart hmb (by decide)) hne0
 have left:(m.st≠6∧(m.st=3→m.k=3→mk=true→∃I:Nat,m.ad=(I:Int)∧h.f I=0))→∀e w',StepP W L X x s k ((ob,30,rowF h.T OV)::E) (fun b=>b∈G∨D0 b) (fun w=>Lr w 45 A0 n0 c0 G xs∧Q0 w) mb t sb M T m h σ A rv e w'→StepA W L X h x s k E A0 n0 c0 G xs OV D0 Q0 mb t sb ob M T mk m σ A rv e w':=fun h6 e w' p=>.inl ⟨h6.1,h6.2,p⟩
 rcases hp with p | ⟨p1,p2⟩ | ⟨p1,pk,p2⟩ | ⟨p1,p2,q,I,l,hI,had⟩ | ⟨p1,pk,hsz,I,had,p2⟩ | ⟨p1,p2,I,hI,had⟩ | ⟨p1,pk,p2,q,I,l,hI,had⟩
 ·exact absurd p.1 hst
 ·by_cases h1:m.k=1
  ·exact(step_alloc hS1 hT H hne (.inl p1) h1 hd S gk eT ht (ho (by omega)) p2 hB hM hM2).mono (left ⟨by omega,by omega⟩)
  ·by_cases h2:2≤m.k∧m.k≤5
   ·exact(step_look hS1 hT H hne p1 (by omega) hd S gk eT ht (ho (by omega)) p2).mono (left ⟨by omega,by omega⟩)
   ·exact(step_whole hS1 hT H hne p1 (by omega) hd S gk eT ht hB p2).mono (left ⟨by omega,by omega⟩)
 ·exact(step_alloc hS1 hT H hne (.inr p1) pk hd S gk eT ht (ho (by omega)) p2 hB hM hM2).mono (left ⟨by omega,by omega⟩)
 ·by_cases hk3:m.k=3∧mk=true
  ·obtain⟨hk,rfl⟩:=hk3
   by_cases hz:h.f I=0
   ·exact(step_log_nil hS1 hT H hne p1 hk S eT p2 l had hI hz (List.mem_cons_of_mem _ hms)).mono (left ⟨by omega,fun _ _ _=>⟨I,had,hz⟩⟩)
   ·refine(mtstep_put hS hT H hne0 hob hms (by omega) hO hGD hn0 hk p1 had hI hz).mono ?_
    exact fun e w' p=>.inr (.inr ⟨rfl,p1,hk,p2,q,I,l,had,hI,hz,p⟩)
  ·refine(step_looked hS1 hT H hne p1 hd S gk eT ht hB p2 l had hI (hv (by omega)) (fun hk=>?_)).mono (left ⟨by omega,fun _ e1 e2=>absurd ⟨e1,e2⟩ hk3⟩)
   cases mk with
   | true=>exact absurd ⟨hk,rfl⟩ hk3
   | false=>exact⟨_,List.mem_cons_of_mem _ hms⟩
 ·exact(step_taken hS1 hT H hne p1 pk hd S gk eT ht hB hsz had p2).mono (left ⟨by omega,by omega⟩)
 ·obtain⟨c,hc⟩:=card_nat H.ok hI
  exact(mtstep_note hS1 hT H hne p1 (by omega) hQ had hc).mono (fun e w' p=>.inr (.inl ⟨p1,p2,I,c,had,hI,hc,p⟩))
 ·exact(step_logged hS1 hT H hne p1 pk hd S gk eT ht p2 l had hI).mono (left ⟨by omega,by omega⟩)
end
structure WS where
 dl:Value
 wn:Int
 sy:Bool
 mg:Bool
 OV:Nat→Value
 OP:Nat→Value
 nx:Nat→Nat
 mu:Nat→MU
def WS.new:WS:=⟨.slice none 0 0,0,false,false,fun _=>.slice none 0 0,fun _=>.slice none 0 0,fun _=>0,fun _=>MU.zero 0⟩
def w4E(Λ:WL)(hb g T:Nat)(V:WS):Blks:=
 [(Λ.wb,37,wdV hb Λ.sb Λ.mA T Λ.mc Λ.pb Λ.nb T g V.dl V.wn V.sy),(Λ.sb,40,#[.bool V.mg,.slice (some ⟨Λ.ob,0,none⟩) T T]),(Λ.pb,24,rowF T V.OP),(Λ.nb,3,rowF T fun i=>.int .i64 (V.nx i:Int))]
def muE(Λ:WL)(hb:Nat)(V:WS)(i:Nat):Nat×TypeId×Array Value:=(Λ.P i,96,muV hb i Λ.sb (V.mu i))
def wE(Λ:WL)(hb g T:Nat)(V:WS):Blks:=(Λ.ob,30,rowF T V.OV)::(w4E Λ hb g T V++(List.range T).map (muE Λ hb V))
def wR(Λ:WL)(hb g T t:Nat)(V:WS):Blks:=w4E Λ hb g T V++((List.range T).filter (·≠t)).map (muE Λ hb V)
section
variable {W w w':World}{L:HL}{X:HX}{h:HS}{x:HT}{s k:Nat}{E:Blks}{D:Nat→Prop}{Q:World→Prop}{Λ:WL}{hb g T t:Nat}{V:WS}
theorem HM.wTake(H:HM W w L X h x s k (wE Λ hb g T V++E) D Q)(ht:t<T):HM W w L X h x s k ((Λ.P t,96,muV hb t Λ.sb (V.mu t))::(Λ.ob,30,rowF T V.OV)::(wR Λ hb g T t V++E)) D Q:=
 H.sub (fun q hq=>by
  simp only [wR,List.mem_cons,List.mem_append,List.mem_map,List.mem_filter]at hq
  simp only [wE,List.mem_cons,List.mem_append,List.mem_map]
  rcases hq with e | e | (e | ⟨i,⟨hi,_⟩,e⟩) | e
  ·exact .inl (.inr (.inr ⟨t,List.mem_range.2 ht,e.symm⟩))
  ·exact .inl (.inl e)
  ·exact .inl (.inr (.inl e))
  ·exact .inl (.inr (.inr ⟨i,hi,e⟩))
  ·exact .inr e)
theorem HM.wBack{m':MU}{OV':Nat→Value}(H:HM W w L X h x s k ((Λ.P t,96,muV hb t Λ.sb m')::(Λ.ob,30,rowF T OV')::(wR Λ hb g T t V++E)) D Q):HM W w L X h x s k (wE Λ hb g T { V with mu:=setF V.mu t m',OV:=OV' }++E) D Q:=
 H.sub (fun q hq=>by
  simp only [wE,List.mem_cons,List.mem_append,List.mem_map]at hq
  simp only [wR,List.mem_cons,List.mem_append,List.mem_map,List.mem_filter]
  rcases hq with(e | e | ⟨i,hi,e⟩) | e
  ·exact .inr (.inl e)
  ·exact .inr (.inr (.inl (.inl e)))
  ·by_cases hit:i=t
   ·subst hit
    refine .inl ?_
    rw [← e]
    show(Λ.P i,96,muV hb i Λ.sb (setF V.mu i m' i))=_
    rw [setF_at]
   ·refine .inr (.inr (.inl (.inr ⟨i,⟨hi,by simpa using hit⟩,?_⟩)))
    rw [← e]
    show(Λ.P i,96,muV hb i Λ.sb (V.mu i))=(Λ.P i,96,muV hb i Λ.sb (setF V.mu t m' i))
    rw [setF_ne _ _ hit]
  ·exact .inr (.inr (.inr e)))
theorem mu_apart{a b i j:Nat}{m m':MU}(h1:Blk w a 96 (muV hb i Λ.sb m))(h2:Blk w b 96 (muV hb j Λ.sb m'))(hij:i≠j):a≠b:=fun e=>by
 subst e
 have e1:=h1.cell 1
 have e2:=h2.cell 1
 rw [e1]at e2
 simp [muV]at e2
 omega
theorem HM.wOff(H:HM W w L X h x s k ((Λ.P t,96,muV hb t Λ.sb (V.mu t))::(Λ.ob,30,rowF T V.OV)::(wR Λ hb g T t V++E)) D Q)(hE:∀q,q∈E→q.2.1≠96∧q.2.1≠30) :
  (∀q,q∈wR Λ hb g T t V++E→q.1≠Λ.P t)∧∀q,q∈wR Λ hb g T t V++E→q.1≠Λ.ob:=by
 have hm:=H.blk (List.mem_cons_self ..)
 have ho:=H.blk (b:=Λ.ob) (List.mem_cons_of_mem _ (List.mem_cons_self ..))
 have key:∀q,q∈wR Λ hb g T t V++E→Blk w q.1 q.2.1 q.2.2:=fun q hq=>H.blk (b:=q.1) (t:=q.2.1) (cs:=q.2.2) (List.mem_cons_of_mem _ (List.mem_cons_of_mem _ hq))
 have ty:∀q,q∈wR Λ hb g T t V++E→(q.2.1≠96∧q.2.1≠30)∨∃i,i≠t∧q=muE Λ hb V i:=fun q hq=>by
  simp only [wR,w4E,List.mem_cons,List.mem_append,List.mem_map,List.mem_filter,List.not_mem_nil,or_false]at hq
  rcases hq with((e | e | e | e) | ⟨i,⟨_,hi⟩,e⟩) | e
  ·exact .inl (by rw [e];simp only;decide)
  ·exact .inl (by rw [e];simp only;decide)
  ·exact .inl (by rw [e];simp only;decide)
  ·exact .inl (by rw [e];simp only;decide)
  ·exact .inr ⟨i,by simpa using hi,e.symm⟩
  ·exact .inl (hE q e)
 refine⟨fun q hq=>?_,fun q hq=>?_⟩
 ·rcases ty q hq with⟨e,_⟩ | ⟨i,hi,rfl⟩
  ·exact(key q hq).apart hm e
  ·exact mu_apart (Λ:=Λ) (key _ hq) hm hi
 ·rcases ty q hq with⟨_,e⟩ | ⟨i,hi,rfl⟩
  ·exact(key q hq).apart ho e
  ·exact(key _ hq).apart ho (by show(96:TypeId)≠30;decide)
end
structure WI(B:Nat)(h:HS)(x:HT)(V:WS)(σ:GS)(A:Nat→Nat)(rv:Nat→Option (Nat×Nat))(M T:Nat):Prop where
 sim:Sim h σ A rv
 gk:GOk T B σ
 eT:h.T=T
 ph:∀i,i<T→Phase h.n M σ A rv i (V.mu i)
 q:QOk h.T x.qm x.qc x.ql
 op:∀i,i<T→(V.mu i).st≠0→(V.mu i).st≠6→PoOk (V.mu i).op∧0≤(V.mu i).op.v∧(V.mu i).op.v<18446744073709551616
 B64:B≤64
 M1:h.g.max=(M:Int)
 M2:M≤1048576
section
variable {B:Nat}{h h':HS}{x x':HT}{V:WS}{σ σ':GS}{A A':Nat→Nat}{rv rv':Nat→Option (Nat×Nat)}{M T t:Nat}{m':MU}{OV':Nat→Value}
theorem WI.next(I:WI B h x V σ A rv M T)(S:Sim h' σ' A' rv')(gk:GOk T B σ')(eT:h'.T=h.T)(en:h'.n=h.n)(eg:h'.g=h.g)(p:Phase h'.n M σ' A' rv' t m')(l:Later σ σ' t)(hr:∀i,i≠t→rv' i=rv i)(hA:∀o,o≤σ.N→A' o=A o)
  (hq:QOk h'.T x'.qm x'.qc x'.ql) (ho:m'.st≠0→m'.st≠6→PoOk m'.op∧0≤m'.op.v∧m'.op.v<18446744073709551616):WI B h' x' { V with mu:=setF V.mu t m',OV:=OV' } σ' A' rv' M T:=by
 refine⟨S,gk,eT.trans I.eT,fun i hi=>?_,hq,fun i hi=>?_,I.B64,by rw [eg];exact I.M1,I.M2⟩
 ·show Phase h'.n M σ' A' rv' i (setF V.mu t m' i)
  by_cases e:i=t
  ·subst e;rw [setF_at];exact p
  ·rw [setF_ne _ _ e,en]
   exact(I.ph i hi).later l e hA (hr i e)
 ·show(setF V.mu t m' i).st≠0→_
  by_cases e:i=t
  ·subst e
   show(setF V.mu i m' i).st≠0→(setF V.mu i m' i).st≠6→PoOk (setF V.mu i m' i).op∧0≤(setF V.mu i m' i).op.v∧(setF V.mu i m' i).op.v<18446744073709551616
   rw [setF_at]
   exact ho
  ·show(setF V.mu t m' i).st≠0→(setF V.mu t m' i).st≠6→PoOk (setF V.mu t m' i).op∧0≤(setF V.mu t m' i).op.v∧(setF V.mu t m' i).op.v<18446744073709551616
   rw [setF_ne _ _ e]
   exact I.op i hi
end
section
variable {W w w':World}{L:HL}{X:HX}{h:HS}{x:HT}{s k:Nat}{E:Blks}{D D0:Nat→Prop}{Q Q0:World→Prop}{Λ:WL}{g t:Nat}{V:WS}{σ:GS}{A:Nat→Nat}{rv:Nat→Option (Nat×Nat)}{M T:Nat}
structure Stays(h h':HS)(σ:GS)(A A':Nat→Nat)(rv rv':Nat→Option (Nat×Nat))(t:Nat):Prop where
 T:h'.T=h.T
 n:h'.n=h.n
 g:h'.g=h.g
 W:h'.W=h.W
 R:h'.R=h.R
 s:∀q,h.s q≠0→h'.s q=h.s q
 rv:∀i,i≠t→rv' i=rv i
 A:∀o,o≤σ.N→A' o=A o
theorem Stays.refl(h:HS)(σ:GS)(A:Nat→Nat)(rv:Nat→Option (Nat×Nat))(t:Nat):Stays h h σ A A rv rv t:=⟨rfl,rfl,rfl,rfl,rfl,fun _ _=>rfl,fun _ _=>rfl,fun _ _=>rfl⟩
def NoteX(x x':HT)(h:HS)(t c:Nat)(l:List Int):Prop:=
 ∃(wc:Bool) (er:Int) (C':List Nat),Turned x.C (h.R*x.per) (c:Int) true wc er C' ∧
  ((wc=false∧x'={ x with C:=C' }∧l=[])∨(wc=true∧x'={ x with C:=C',qc:=pushC x.qm x.qc x.ql t (c:Int),ql:=pushO x.ql t (c:Int) }∧l=pushV x.qm x.qc x.ql t (c:Int)))
def WStep(W:World)(L:HL)(X:HX)(h:HS)(x:HT)(s k:Nat)(E:Blks)(A0:Option Addr)(n0 c0:Nat)(G:List Nat)(xs:List Value)(D0:Nat→Prop)(Q0:World→Prop)(Λ:WL)(g t M T:Nat)(V:WS)(σ:GS)(A:Nat→Nat)(rv:Nat→Option (Nat×Nat))(e:Ending)(w':World):Prop:=
 ∃(X':HX) (h':HS) (x':HT) (A1:Option Addr) (n1 c1:Nat) (G1:List Nat) (xs1:List Value) (OV':Nat→Value) (m':MU) (σ':GS) (A':Nat→Nat) (rv':Nat→Option (Nat×Nat)),
  HM W w' L X' h' x' s k (wE Λ L.hb g T { V with mu:=setF V.mu t m',OV:=OV' }++E) (fun b=>b∈G1∨D0 b) (fun w=>Lr w 45 A1 n1 c1 G1 xs1∧Q0 w)∧(∀g,g∈G1→¬ D0 g) ∧
  WI L.B h' x' { V with mu:=setF V.mu t m',OV:=OV' } σ' A' rv' M T∧Stays h h' σ A A' rv rv' t ∧
  ((e=.returned (resV 0 0 An.zero false true false (.slice none 0 0))∧σ'=σ∧m'.dn=(V.mu t).dn∧m'.op=(V.mu t).op∧OV'=V.OV∧xs1=xs∧A1=A0∧n1=n0∧c1=c0∧(m'.st=3∨m'.st=5∨(m'.st=4∧(V.mu t).st=3))∧rkM m'.st<rkM (V.mu t).st∧SameQ x x'∧h'.f=h.f∧((V.mu t).st=3→∃I:Nat,(V.mu t).ad=(I:Int)∧h.f I=0)) ∨
  (e=.returned (resV 0 0 An.zero false true true (.slice none 0 0))∧σ'=σ∧m'.dn=(V.mu t).dn∧m'.op=(V.mu t).op∧OV'=V.OV∧xs1=xs∧A1=A0∧n1=n0∧c1=c0∧m'.st=2∧SameQ x x'∧(V.mu t).k=1∧(V.mu t).st≠6) ∨
  (∃b:Bool,e=.returned (resV (t:Int) ((V.mu t).dn:Int) (actA L.B M T σ t (V.mu t).op) true b false (.slice none 0 0))∧σ'=actS L.B M T σ t (V.mu t).op∧m'.dn=(V.mu t).dn+1∧OV'=V.OV∧xs1=xs∧A1=A0∧n1=n0∧c1=c0∧(b=true∧m'.st=6∨b=false∧m'.st=0)∧SameQ x x'∧(V.mu t).st≠6 ∧
    NotedS h' σ A t (V.mu t).op b m'.ad∧((V.mu t).st=1→(V.mu t).k=3→storeE σ t (V.mu t).op.a (V.mu t).op.b (V.mu t).op.c≠0)∧((V.mu t).st=3→(V.mu t).k=3→V.mg=true→∃I:Nat,(V.mu t).ad=(I:Int)∧h.f I=0)) ∨
  ((V.mu t).st=6∧h'=h∧A'=A∧σ'=σ∧m'=MU.zero (V.mu t).dn∧OV'=V.OV∧xs1=xs∧A1=A0∧n1=n0∧c1=c0∧∃(I c:Nat) (A:Option Addr) (n:Nat) (G:List Nat) (l:List Int),(V.mu t).ad=(I:Int)∧I<h.n∧h.g.cardOf (I:Int)=(c:Int)∧NoteX x x' h t c l∧e=.returned (resV 0 0 An.zero false false false (.slice A (List.length l) n))∧Lr w' 3 A (List.length l) n G (zv l)) ∨
  (V.mg=true∧e=.returned (resV 0 0 An.zero false true false (.slice none 0 0))∧h'=h∧x'=x∧A'=A∧σ'=σ∧(V.mu t).st=3∧(V.mu t).k=3∧m'.st=4∧m'.dn=(V.mu t).dn∧m'.op=(V.mu t).op∧∃I:Nat,(V.mu t).ad=(I:Int)∧h.f I≠0∧xs1=xs++[.int .u64 (h.f I:Int)]∧n1=n0+1∧OV'=putF V.OV t (.slice A1 (n0+1) c1)))
theorem lr_none(w:World)(e:TypeId):Lr w e none 0 0 [] []:=lrNone _ _ _
theorem world_step(hS:Lives D0 Q0)(hT:Tab W){A0:Option Addr}{n0 c0:Nat}{G:List Nat}{xs:List Value}(H:HM W w L X h x s k (wE Λ L.hb g T V++E) (fun b=>b∈G∨D0 b) (fun w=>Lr w 45 A0 n0 c0 G xs∧Q0 w))(hE:∀q,q∈E→q.2.1≠96∧q.2.1≠30)(hGD:∀g,g∈G→¬ D0 g)(hn0:n0≤1048576)
  (I:WI L.B h x V σ A rv M T) (hc:Can M σ) (ht:t<T) (hst:(V.mu t).st≠0) (hO:V.OV t=.slice A0 n0 c0) (hd:((V.mu t).dn:Int)+1≤9223372036854775807) :
  Calls Tryz.prog 13 #[.pointer (some ⟨Λ.P t,0,none⟩)] w (WStep W L X h x s k E A0 n0 c0 G xs D0 Q0 Λ g t M T V σ A rv):=by
 have hS1:=hS.row 45 A0 n0 c0 G xs
 have H1:=H.wTake ht
 obtain⟨f1,f2⟩:=H1.wOff hE
 have eT:=I.eT
 subst eT
 have hms:(Λ.sb,40,#[.bool V.mg,.slice (some ⟨Λ.ob,0,none⟩) h.T h.T])∈wR Λ L.hb g h.T t V++E:=by simp [wR,w4E]
 refine(step_any hS hT H1 f1 f2 hms hO hGD hn0 (I.ph t ht) hst hd (fun h6=>(I.op t ht hst h6).2) I.sim I.gk rfl ht (fun h6=>(I.op t ht hst h6).1) I.B64 I.M1 I.M2 I.q).mono ?_
 rintro e w' (⟨h6,hlg,p⟩ | ⟨p1,p2,i,c,had,hI,hcc,p⟩ | ⟨p1,p2,p3,p4,q,i,l,had,hI,hz,p⟩)
 ·obtain⟨h',x',σ',A',rv',m',hA,S,P,hsq,e1,e2,e3,e4,e5,e6,e7,e8,e9⟩:=p
  have hxq:QOk h'.T x'.qm x'.qc x'.ql:=by rw [e1,hsq.1,hsq.2.1,hsq.2.2.1];exact I.q
  have hst':Stays h h' σ A A' rv rv' t:=⟨e1,e2,e3,e4,e5,e6,e7,e8⟩
  rcases e9 with⟨rfl,rfl,k1,k2,k3,k4,k5,k6⟩ | ⟨rfl,rfl,k1,k2,k3,k4⟩ | ⟨b,rfl,rfl,k1,k2,k3,k4⟩
  ·exact⟨X,h',x',A0,n0,c0,G,xs,V.OV,m',_,A',rv',hA.wBack,hGD,I.next S I.gk e1 e2 e3 P (.refl _ _) e7 e8 hxq (fun _ _=>by rw [k2];exact I.op t ht hst h6),hst',.inl ⟨rfl,rfl,k1,k2,rfl,rfl,rfl,rfl,rfl,k3,k4,hsq,k5,k6⟩⟩
  ·exact⟨X,h',x',A0,n0,c0,G,xs,V.OV,m',_,A',rv',hA.wBack,hGD,I.next S I.gk e1 e2 e3 P (.refl _ _) e7 e8 hxq (fun _ _=>by rw [k2];exact I.op t ht hst h6),hst',.inr (.inl ⟨rfl,rfl,k1,k2,rfl,rfl,rfl,rfl,rfl,k3,hsq,k4,h6⟩)⟩
  ·exact⟨X,h',x',A0,n0,c0,G,xs,V.OV,m',_,A',rv',hA.wBack,hGD,I.next S (I.gk.act hc t _) e1 e2 e3 P (.act _ _ _ _ _ _) e7 e8 hxq (fun q0 q6=>by rcases k2 with⟨_,k⟩ | ⟨_,k⟩ <;> exact absurd k (by assumption)),hst',.inr (.inr (.inl ⟨b,rfl,rfl,k1,rfl,rfl,rfl,rfl,rfl,k2,hsq,h6,k3,k4,hlg⟩))⟩
 ·obtain⟨wc,er,C',hTu,⟨rfl,rfl,hA⟩ | ⟨rfl,F',A1,n,G1,rfl,hA,hL⟩⟩:=p
  ·exact⟨X,h,_,A0,n0,c0,G,xs,V.OV,MU.zero (V.mu t).dn,σ,A,rv,hA.wBack,hGD,I.next (x':={ x with C:=C' }) I.sim I.gk rfl rfl rfl (.inl ⟨rfl,p2⟩) (.refl _ _) (fun _ _=>rfl) (fun _ _=>rfl) I.q (fun q0 _=>absurd rfl q0),.refl _ _ _ _ _,.inr (.inr (.inr (.inl ⟨p1,rfl,rfl,rfl,rfl,rfl,rfl,rfl,rfl,rfl,i,c,none,0,[],[],had,hI,hcc,⟨_,er,C',hTu,.inl ⟨rfl,rfl,rfl⟩⟩,rfl,lr_none _ _⟩)))⟩
  ·exact⟨_,h,_,A0,n0,c0,G,xs,V.OV,MU.zero (V.mu t).dn,σ,A,rv,hA.wBack,hGD,I.next (x':={ x with C:=C',qc:=pushC x.qm x.qc x.ql t (c:Int),ql:=pushO x.ql t (c:Int) }) I.sim I.gk rfl rfl rfl (.inl ⟨rfl,p2⟩) (.refl _ _) (fun _ _=>rfl) (fun _ _=>rfl) (I.q.push ht _) (fun q0 _=>absurd rfl q0),.refl _ _ _ _ _,.inr (.inr (.inr (.inl ⟨p1,rfl,rfl,rfl,rfl,rfl,rfl,rfl,rfl,rfl,i,c,A1,n,G1,_,had,hI,hcc,⟨_,er,C',hTu,.inr ⟨rfl,rfl,rfl⟩⟩,rfl,hL⟩)))⟩
 ·obtain⟨A',c',G',rfl,hA,hG⟩:=p
  exact⟨X,h,x,A',n0+1,c',G',_,_,_,σ,A,rv,hA.wBack,hG,I.next I.sim I.gk rfl rfl rfl (.inr (.inr (.inr (.inr (.inr (.inr ⟨rfl,p3,p4,q,i,l,hI,rfl⟩)))))) (.refl _ _) (fun _ _=>rfl) (fun _ _=>rfl) I.q (fun _ _=>I.op t ht hst (by omega)),.refl _ _ _ _ _,.inr (.inr (.inr (.inr ⟨p1,rfl,rfl,rfl,rfl,rfl,p2,p3,rfl,rfl,rfl,i,had,hz,rfl,rfl,rfl⟩)))⟩
end
section
variable {W w w':World}{L:HL}{X:HX}{h:HS}{x:HT}{s k:Nat}{E:Blks}{D:Nat→Prop}{Q:World→Prop}{Λ:WL}{g t:Nat}{V:WS}{σ:GS}{A:Nat→Nat}{rv:Nat→Option (Nat×Nat)}{B M T:Nat}
theorem Phase.idle{n:Nat}{m:MU}(p:Phase n M σ A rv t m)(hs:m.st=0):rv t=none:=by
 rcases p with p | p | p | p | p | p | p
 ·exact p.2
 ·exact p.2
 ·exact p.2.2
 ·exact p.2.1
 ·have:=p.1;omega
 ·exact p.2.1
 ·exact p.2.2.1
theorem Phase.wants{n:Nat}{m:MU}(p:Phase n M σ A rv t m)(hs:m.st=2):rv t=none∧m.k=1:=by
 rcases p with p | p | p | p | p | p | p
 ·have:=p.1;omega
 ·have:=p.1;omega
 ·exact⟨p.2.2,p.2.1⟩
 ·have:=p.1;omega
 ·have:=p.1;omega
 ·have:=p.1;omega
 ·have:=p.1;omega
def MU.on(m:MU)(o:Po):MU:=⟨m.dn,o.k,o.a,o.b,o.c,o.v,1,0⟩
theorem WI.start(I:WI B h x V σ A rv M T)(ht:t<T)(hs:(V.mu t).st=0){o:Po}(ho:PoOk o)(hv:0≤o.v∧o.v<18446744073709551616):WI B h x { V with mu:=setF V.mu t ((V.mu t).on o),OV:=V.OV } σ A rv M T:=
 I.next I.sim I.gk rfl rfl rfl (.inr (.inl ⟨rfl,(I.ph t ht).idle hs⟩)) (.refl _ _) (fun _ _=>rfl) (fun _ _=>rfl) I.q (fun _ _=>⟨ho,hv⟩)
theorem WI.fail(I:WI B h x V σ A rv M T)(ht:t<T)(hs:(V.mu t).st=2):WI B h x { V with mu:=setF V.mu t (MU.zero ((V.mu t).dn+1)),OV:=V.OV } σ A rv M T:=
 I.next I.sim I.gk rfl rfl rfl (.inl ⟨rfl,((I.ph t ht).wants hs).1⟩) (.refl _ _) (fun _ _=>rfl) (fun _ _=>rfl) I.q (fun h0 _=>absurd rfl h0)
theorem world_start(hS:Lives D Q)(hT:Tab W)(H:HM W w L X h x s k (wE Λ L.hb g T V++E) D Q)(hE:∀q,q∈E→q.2.1≠96∧q.2.1≠30)(ht:t<T)(hs:(V.mu t).st=0)(o:Po) :
  Calls Tryz.prog 12 #[.pointer (some ⟨Λ.P t,0,none⟩),opV o] w fun e w'=>e=.returned (.int .i64 0)∧HM W w' L X h x s k (wE Λ L.hb g T { V with mu:=setF V.mu t ((V.mu t).on o),OV:=V.OV }++E) D Q:=by
 have H1:=H.wTake ht
 obtain⟨f1,f2⟩:=H1.wOff hE
 have hom:Λ.ob≠Λ.P t:=(H1.blk (b:=Λ.ob) (List.mem_cons_of_mem _ (List.mem_cons_self ..))).apart (H1.blk (List.mem_cons_self ..)) (by decide)
 refine(H1.mut (P:=fun e=>e=.returned (.int .i64 0)) hS hT (m':=(V.mu t).on o) (ne_cons hom f1) (fun hb=>mstart_any hb hs o)).mono ?_
 rintro e w' ⟨rfl,hA⟩
 exact⟨rfl,hA.wBack⟩
theorem world_fail(hS:Lives D Q)(hT:Tab W)(H:HM W w L X h x s k (wE Λ L.hb g T V++E) D Q)(hE:∀q,q∈E→q.2.1≠96∧q.2.1≠30)(ht:t<T)(hs:(V.mu t).st=2)(hd:((V.mu t).dn:Int)+1≤9223372036854775807) :
  Calls Tryz.prog 21 #[.pointer (some ⟨Λ.P t,0,none⟩)] w fun e w'=>e=.returned (.tuple #[ansV (t:Int) ((V.mu t).dn:Int) ⟨16,0,false⟩,.int .i64 0])∧HM W w' L X h x s k (wE Λ L.hb g T { V with mu:=setF V.mu t (MU.zero ((V.mu t).dn+1)),OV:=V.OV }++E) D Q:=by
 have H1:=H.wTake ht
 obtain⟨f1,f2⟩:=H1.wOff hE
 have hom:Λ.ob≠Λ.P t:=(H1.blk (b:=Λ.ob) (List.mem_cons_of_mem _ (List.mem_cons_self ..))).apart (H1.blk (List.mem_cons_self ..)) (by decide)
 refine(H1.mut (P:=fun e=>e=.returned (.tuple #[ansV (t:Int) ((V.mu t).dn:Int) ⟨16,0,false⟩,.int .i64 0])) hS hT (m':=MU.zero ((V.mu t).dn+1)) (ne_cons hom f1) (fun hb=>mfail_any hb hs hd)).mono ?_
 rintro e w' ⟨rfl,hA⟩
 exact⟨rfl,hA.wBack⟩
end
def waitL(x:HT)(T:Nat):List Int:=x.qc++catL x.ql T
structure Notes(h:HS)(x:HT)(V:WS)(σ:GS)(A:Nat→Nat)(dl:List Int)(T:Nat):Prop where
 ref:∀o j:Nat,1≤o→o≤σ.N→j<σ.np (o:Int)→noteB h.g (h.stateOf (h.g.regionOf ((A o+1+j:Nat):Int))) ((A o+1+j:Nat):Int) (refO A (σ.ref (o:Int) (j:Int)))=true →
  (∃c:Nat,h.g.cardOf ((A o+1+j:Nat):Int)=(c:Int)∧c<h.R*x.per∧wbit x.C c=true)∨∃i,i<T∧(V.mu i).st=6∧(V.mu i).ad=((A o+1+j:Nat):Int)
 nd:∀z,(waitL x T++dl).count z≤1
 dw:∀c:Nat,c<h.R*x.per→(wbit x.C c=true↔(c:Int)∈waitL x T++dl)
 rg:∀z,z∈waitL x T++dl→0≤z∧z<((h.R*x.per:Nat):Int)
section
variable {h h':HS}{x x':HT}{V V':WS}{σ σ':GS}{A A':Nat→Nat}{rv rv':Nat→Option (Nat×Nat)}{dl l:List Int}{B M T t:Nat}
theorem waitL_same(e:SameQ x x'):waitL x' T=waitL x T:=by
 unfold waitL
 rw [e.2.1,e.2.2.1]
theorem cat_count(O:Nat→List Int)(t:Nat)(l:List Int)(z:Int):∀n,(t<n→(catL (putF O t l) n).count z+(O t).count z=(catL O n).count z+l.count z)∧(n≤t→(catL (putF O t l) n).count z=(catL O n).count z)
 | 0=>⟨fun h=>by omega,fun _=>rfl⟩
 | n+1=>by
  obtain⟨h1,h2⟩:=cat_count O t l z n
  constructor
  ·intro h
   simp only [catL,List.count_append]
   by_cases e:n=t
   ·subst e
    rw [h2 (Nat.le_refl _),show putF O n l n=l by unfold putF;rw [if_pos rfl]]
    omega
   ·have:=h1 (by omega)
    rw [show putF O t l n=O n by unfold putF;rw [if_neg e]]
    omega
  ·intro h
   simp only [catL,List.count_append]
   rw [h2 (by omega),show putF O t l n=O n by unfold putF;rw [if_neg (by omega)]]
theorem push_count(Bq:Nat)(C:List Int)(O:Nat→List Int){t n:Nat}(ht:t<n)(c z:Int):(pushC Bq C O t c++catL (pushO O t c) n++pushV Bq C O t c).count z=(C++catL O n).count z+[c].count z:=by
 unfold pushC pushO pushV
 by_cases h3:(O t).length<3
 ·rw [if_pos h3,if_pos h3,if_pos h3]
  have:=(cat_count O t (O t++[c]) z n).1 ht
  simp only [List.count_append,List.count_nil]at this ⊢
  omega
 ·rw [if_neg h3,if_neg h3,if_neg h3]
  have h1:=(cat_count O t [] z n).1 ht
  have h2:((O t++[c]).take (Bq-C.length)).count z+((O t++[c]).drop (Bq-C.length)).count z=(O t++[c]).count z:=by
   rw [← List.count_append,List.take_append_drop]
  simp only [List.count_append,List.count_nil]at h1 h2 ⊢
  omega
theorem Sim.at_state(S:Sim h σ A rv){s k:Nat}(ok:h.Ok s k)(st:Stays h h' σ A A' rv rv' t){o u:Nat}(h1:1≤o)(h2:o≤σ.N)(h3:A o≤u)(h4:u<A o+osz σ o):h'.stateOf (h'.g.regionOf (u:Int))=h.stateOf (h.g.regionOf (u:Int)):=by
 have hu:=S.use o h1 h2 u h3 h4
 have hW:=ok.wpos
 have hR:u / h.W<h.R:=by
  rw [Nat.div_lt_iff_lt_mul (by omega),← ok.nn]
  exact hu.1
 obtain⟨d1,d2⟩:=div_in' (W:=h.W) (u:=u) (by omega)
 have er:=ok.reg (a:=(u:Int)) hR (by omega) (by omega)
 rw [st.g,er]
 unfold HS.stateOf
 rw [st.R,Int.toNat_natCast]
 split
 ·exact st.s _ hu.2.1
 ·rfl
theorem noteB_nil(g:Geo)(s f:Int)(hw:g.words≤4194304):noteB g s f 0=false:=note_no hw (by decide) (by decide) (.inl rfl)
theorem Notes.step(N:Notes h x V σ A dl T)(S:Sim h σ A rv){s k:Nat}(ok:h.Ok s k)(st:Stays h h' σ A A' rv rv' t)(e:SameQ x x')(hmu:∀i,i≠t→V'.mu i=V.mu i)(h6:(V.mu t).st≠6)(gk:GOk T B σ)
  (hr:∀o j:Nat,1≤o→o≤σ'.N→j<σ'.np (o:Int)→(o≤σ.N∧j<σ.np (o:Int)∧σ'.ref (o:Int) (j:Int)=σ.ref (o:Int) (j:Int))∨σ'.ref (o:Int) (j:Int)=0 ∨
   (o≤σ.N∧j<σ.np (o:Int)∧0≤σ'.ref (o:Int) (j:Int)∧σ'.ref (o:Int) (j:Int)≤(σ.N:Int)∧(noteB h'.g (h'.stateOf (h'.g.regionOf ((A o+1+j:Nat):Int))) ((A o+1+j:Nat):Int) (refO A (σ'.ref (o:Int) (j:Int)))=true→(V'.mu t).st=6∧(V'.mu t).ad=((A o+1+j:Nat):Int)∧t<T))):Notes h' x' V' σ' A' dl T:=by
 have hw:=waitL_same (T:=T) e
 have hRp:h'.R*x'.per=h.R*x.per:=by rw [st.R,e.2.2.2.2.1]
 have eC:x'.C=x.C:=e.2.2.2.1
 have rA:∀r:Int,0≤r→r≤(σ.N:Int)→refO A' r=refO A r:=fun r r0 r1=>by
  unfold refO
  rw [st.A r.toNat (by omega)]
 refine⟨fun o j h1 h2 hj hn=>?_,by rw [hw];exact N.nd,by rw [hw,hRp,eC];exact N.dw,by rw [hw,hRp];exact N.rg⟩
 rcases hr o j h1 h2 hj with⟨k1,k2,k3⟩ | k1 | ⟨k1,k2,k3,k4,k5⟩
 ·rw [st.A o k1]at hn ⊢
  rw [k3,rA _ (gk.ref _ _).1 (gk.ref _ _).2,S.at_state ok st h1 k1 (by omega) (by unfold osz;omega),st.g]at hn
  rcases N.ref o j h1 k1 k2 hn with⟨c,c1,c2,c3⟩ | ⟨i,i1,i2,i3⟩
  ·exact .inl ⟨c,by rw [st.g];exact c1,by rw [hRp];exact c2,by rw [eC];exact c3⟩
  ·have hit:i≠t:=fun e=>h6 (e ▸ i2)
   exact .inr ⟨i,i1,by rw [hmu i hit];exact i2,by rw [hmu i hit];exact i3⟩
 ·rw [k1,refO_zero,noteB_nil _ _ _ (by rw [st.g];exact ok.geo.wmax)]at hn
  cases hn
 ·rw [st.A o k1]at hn ⊢
  rw [rA _ k3 k4]at hn
  obtain⟨k6,k7,k8⟩:=k5 hn
  exact .inr ⟨t,k8,k6,k7⟩
theorem act_refs(gk:GOk T B σ){o:Po}{h:HS}{A:Nat→Nat}{b:Bool}{ad:Int}(hN:NotedS h σ A t o b ad):∀q j:Nat,1≤q→q≤(actS B M T σ t o).N→j<(actS B M T σ t o).np (q:Int) →
  (q≤σ.N∧j<σ.np (q:Int)∧(actS B M T σ t o).ref (q:Int) (j:Int)=σ.ref (q:Int) (j:Int))∨(actS B M T σ t o).ref (q:Int) (j:Int)=0 ∨
  (q≤σ.N∧j<σ.np (q:Int)∧0≤(actS B M T σ t o).ref (q:Int) (j:Int)∧(actS B M T σ t o).ref (q:Int) (j:Int)≤(σ.N:Int) ∧
   (noteB h.g (h.stateOf (h.g.regionOf ((A q+1+j:Nat):Int))) ((A q+1+j:Nat):Int) (refO A ((actS B M T σ t o).ref (q:Int) (j:Int)))=true→b=true∧ad=((A q+1+j:Nat):Int))):=by
 intro q j h1 h2 hj
 by_cases k3:o.k=3
 ·have e:actS B M T σ t o=storeS σ t o.a o.b o.c:=by unfold actS;rw [if_neg (by omega),if_neg (by omega),if_pos k3]
  rw [e]at h2 hj ⊢
  unfold storeS at h2 hj ⊢
  by_cases eE:storeE σ t o.a o.b o.c=0
  ·rw [if_pos eE]at h2 hj ⊢
   have h2:q≤σ.N:=h2
   have hj:j<σ.np (q:Int):=hj
   obtain⟨p,i,e1,e2,e3,e4,e5,e6⟩:=hN k3 eE
   rw [e1,e2]
   by_cases hq:q=p
   ·by_cases hji:j=i
    ·have er:(σ.setRef (p:Int) (i:Int) (hkAt (σ.st t) o.c)).ref (q:Int) (j:Int)=hkAt (σ.st t) o.c:=by
      show setF σ.ref (p:Int) (setF (σ.ref (p:Int)) (i:Int) _) (q:Int) (j:Int)=_
      rw [hq,setF_at,hji,setF_at]
     rw [er]
     have hm:0≤hkAt (σ.st t) o.c∧hkAt (σ.st t) o.c≤(σ.N:Int):=by
      unfold hkAt
      split
      ·rename_i hin
       unfold hkIn at hin
       have hl:o.c.toNat<(σ.st t).length:=by omega
       have:=gk.mem t _ (List.getElem_mem hl)
       simpa [hl] using this
      ·omega
     refine .inr (.inr ⟨h2,hj,hm.1,hm.2,fun hn=>?_⟩)
     rw [hq,hji]at hn ⊢
     exact e6 hn
    ·refine .inl ⟨h2,hj,?_⟩
     show setF σ.ref (p:Int) (setF (σ.ref (p:Int)) (i:Int) _) (q:Int) (j:Int)=_
     rw [hq,setF_at,setF_ne _ _ (by omega)]
   ·refine .inl ⟨h2,hj,?_⟩
    show setF σ.ref (p:Int) (setF (σ.ref (p:Int)) (i:Int) _) (q:Int) (j:Int)=_
    rw [setF_ne _ _ (by omega)]
  ·rw [if_neg eE]at h2 hj ⊢
   exact .inl ⟨h2,hj,rfl⟩
 ·have same:(actS B M T σ t o).N=σ.N→(actS B M T σ t o).np=σ.np→(actS B M T σ t o).ref=σ.ref→(q≤σ.N∧j<σ.np (q:Int)∧(actS B M T σ t o).ref (q:Int) (j:Int)=σ.ref (q:Int) (j:Int)):=fun e1 e2 e3=>by
   rw [e1]at h2
   rw [e2]at hj
   rw [e3]
   exact⟨h2,hj,rfl⟩
  by_cases k1:o.k=1
  ·have e:actS B M T σ t o=allocS B M σ t o.a o.b:=by unfold actS;rw [if_pos k1]
   rw [e]at h2 hj ⊢
   unfold allocS at h2 hj ⊢
   by_cases c1:sizeBad M o.a o.b
   ·rw [if_pos c1]at h2 hj ⊢;exact .inl ⟨h2,hj,rfl⟩
   ·rw [if_neg c1]at h2 hj ⊢
    by_cases c2:(σ.st t).length<B
    ·rw [if_pos c2]at h2 hj ⊢
     have h2:q≤σ.N+1:=h2
     have hj:j<setF σ.np ((σ.N:Int)+1) o.a.toNat (q:Int):=hj
     show _∨setF σ.ref ((σ.N:Int)+1) (fun _=>0) (q:Int) (j:Int)=0∨_
     by_cases eq:q=σ.N+1
     ·refine .inr (.inl ?_)
      rw [show(q:Int)=(σ.N:Int)+1 by omega,setF_at]
     ·rw [setF_ne _ _ (by omega)]at hj
      refine .inl ⟨by omega,hj,?_⟩
      show setF σ.ref ((σ.N:Int)+1) (fun _=>0) (q:Int) (j:Int)=_
      rw [setF_ne _ _ (by omega)]
    ·rw [if_neg c2]at h2 hj ⊢;exact .inl ⟨h2,hj,rfl⟩
  ·refine .inl ?_
   by_cases k2:o.k=2
   ·have e:actS B M T σ t o=loadS B σ t o.a o.b:=by unfold actS;rw [if_neg k1,if_pos k2]
    by_cases c:objE σ t o.a=0∧fieldIn (σ.np (hkAt (σ.st t) o.a)) o.b
    ·refine same ?_ ?_ ?_ <;> (rw [e];unfold loadS;rw [if_pos c];try rfl)
    ·refine same ?_ ?_ ?_ <;> (rw [e];unfold loadS;rw [if_neg c])
   by_cases k5:o.k=5
   ·have e:actS B M T σ t o=writeS σ t o.a o.b o.v:=by unfold actS;rw [if_neg k1,if_neg k2,if_neg k3,if_pos k5]
    by_cases c:wordE σ t o.a o.b=0
    ·refine same ?_ ?_ ?_ <;> (rw [e];unfold writeS;rw [if_pos c];try rfl)
    ·refine same ?_ ?_ ?_ <;> (rw [e];unfold writeS;rw [if_neg c])
   by_cases k6:o.k=6
   ·refine same ?_ ?_ ?_ <;> (unfold actS;rw [if_neg k1,if_neg k2,if_neg k3,if_neg k5,if_pos k6];try rfl)
   by_cases k7:o.k=7
   ·refine same ?_ ?_ ?_ <;> (unfold actS;rw [if_neg k1,if_neg k2,if_neg k3,if_neg k5,if_neg k6,if_pos k7];try rfl)
   by_cases k8:o.k=8
   ·have e:actS B M T σ t o=dupS B σ t o.a:=by unfold actS;rw [if_neg k1,if_neg k2,if_neg k3,if_neg k5,if_neg k6,if_neg k7,if_pos k8]
    by_cases c:hkIn (σ.st t) o.a
    ·refine same ?_ ?_ ?_ <;> (rw [e];unfold dupS;rw [if_pos c];try rfl)
    ·refine same ?_ ?_ ?_ <;> (rw [e];unfold dupS;rw [if_neg c])
   by_cases k13:o.k=13
   ·have e:actS B M T σ t o=sendS B T σ t o.a o.b:=by unfold actS;rw [if_neg k1,if_neg k2,if_neg k3,if_neg k5,if_neg k6,if_neg k7,if_neg k8,if_pos k13]
    by_cases c:hkIn (σ.st t) o.a∧fieldIn T o.b
    ·refine same ?_ ?_ ?_ <;> (rw [e];unfold sendS;rw [if_pos c];try rfl)
    ·refine same ?_ ?_ ?_ <;> (rw [e];unfold sendS;rw [if_neg c])
   ·refine same ?_ ?_ ?_ <;> (unfold actS;rw [if_neg k1,if_neg k2,if_neg k3,if_neg k5,if_neg k6,if_neg k7,if_neg k8,if_neg k13])
theorem Notes.note(N:Notes h x V σ A dl T){I c:Nat}(had:(V.mu t).ad=(I:Int))(hc:h.g.cardOf (I:Int)=(c:Int))(hcr:c<h.R*x.per)(ht:t<T)(hmu:∀i,i≠t→V'.mu i=V.mu i)(hx:NoteX x x' h t c l):Notes h x' V' σ A (dl++l) T:=by
 obtain⟨wc,er,C',hT,hx⟩:=hx
 obtain⟨t1,t2,t3,t4,t5⟩:0≤(c:Int)∧(c:Int)<((h.R*x.per:Nat):Int)∧er=0∧wc=(wbit x.C (c:Int).toNat !=true)∧∀j:Nat,wbit C' j=if j=(c:Int).toNat then true else wbit x.C j:=by
  rcases hT with hT | ⟨hT,_⟩
  ·exact hT
  ·exact absurd ⟨by omega,by omega⟩ hT
 rw [Int.toNat_natCast]at t4 t5
 have up:∀j,wbit x.C j=true→wbit C' j=true:=fun j hj=>by rw [t5];split <;> simp [hj]
 have refs:∀x2:HT,x2.C=C'→x2.per=x.per→∀o j:Nat,1≤o→o≤σ.N→j<σ.np (o:Int)→noteB h.g (h.stateOf (h.g.regionOf ((A o+1+j:Nat):Int))) ((A o+1+j:Nat):Int) (refO A (σ.ref (o:Int) (j:Int)))=true →
   (∃c:Nat,h.g.cardOf ((A o+1+j:Nat):Int)=(c:Int)∧c<h.R*x2.per∧wbit x2.C c=true)∨∃i,i<T∧(V'.mu i).st=6∧(V'.mu i).ad=((A o+1+j:Nat):Int):=fun x2 e1 e2 o j h1 h2 hj hn=>by
  rw [e1,e2]
  rcases N.ref o j h1 h2 hj hn with⟨c,c1,c2,c3⟩ | ⟨i,i1,i2,i3⟩
  ·exact .inl ⟨c,c1,c2,up c c3⟩
  ·by_cases hit:i=t
   ·subst hit
    rw [had]at i3
    rw [← i3]
    exact .inl ⟨c,hc,hcr,by rw [t5,if_pos rfl]⟩
   ·exact .inr ⟨i,i1,by rw [hmu i hit];exact i2,by rw [hmu i hit];exact i3⟩
 rcases hx with⟨rfl,rfl,rfl⟩ | ⟨rfl,rfl,rfl⟩
 ·have hb:wbit x.C c=true:=by
   cases hw:wbit x.C c with
   | true=>rfl
   | false=>rw [hw]at t4;exact absurd t4 (by decide)
  have hC:∀j,wbit C' j=wbit x.C j:=fun j=>by
   rw [t5]
   split
   ·rename_i e;rw [e,hb]
   ·rfl
  rw [List.append_nil]
  exact⟨refs _ rfl rfl,N.nd,fun j hj=>by show wbit C' j=true↔_;rw [hC];exact N.dw j hj,N.rg⟩
 ·have hb:wbit x.C c=false:=by
   cases hw:wbit x.C c with
   | false=>rfl
   | true=>rw [hw]at t4;exact absurd t4 (by decide)
  have hnew:(c:Int)∉waitL x T++dl:=fun hm=>by
   have:=(N.dw c hcr).2 hm
   rw [hb]at this
   cases this
  have cnt:∀z:Int,(waitL { x with C:=C',qc:=pushC x.qm x.qc x.ql t (c:Int),ql:=pushO x.ql t (c:Int) } T++(dl++pushV x.qm x.qc x.ql t (c:Int))).count z=(waitL x T++dl).count z+[(c:Int)].count z:=fun z=>by
   have:=push_count x.qm x.qc x.ql ht (c:Int) z
   unfold waitL
   simp only [List.count_append]at this ⊢
   omega
  have mem:∀z:Int,z∈waitL { x with C:=C',qc:=pushC x.qm x.qc x.ql t (c:Int),ql:=pushO x.ql t (c:Int) } T++(dl++pushV x.qm x.qc x.ql t (c:Int))↔z∈waitL x T++dl∨z=(c:Int):=fun z=>by
   rw [← List.count_pos_iff,cnt,← List.count_pos_iff]
   have hs:0<[(c:Int)].count z↔z=(c:Int):=by rw [List.count_pos_iff];simp
   omega
  refine⟨refs _ rfl rfl,fun z=>?_,fun j hj=>?_,fun z hz=>?_⟩
  ·rw [cnt]
   have h1:=N.nd z
   by_cases e:z=(c:Int)
   ·subst e
    rw [List.count_eq_zero_of_not_mem hnew]
    simp
   ·have:[(c:Int)].count z=0:=List.count_eq_zero_of_not_mem (by simpa using e)
    omega
  ·show wbit C' j=true↔_
   rw [mem,t5]
   by_cases e:j=c
   ·subst e
    simp
   ·rw [if_neg e]
    have:=N.dw j hj
    rw [this]
    constructor
    ·exact .inl
    ·rintro(k | k)
     ·exact k
     ·exact absurd (by omega) e
  ·rcases(mem z).1 hz with k | rfl
   ·exact N.rg z k
   ·exact⟨t1,t2⟩
end
open Go.RowKit Go.Gl
def GPost(w:World)(tg:TG)(Q:World→TG→Prop)(v:Value)(e:Ending)(w':World):Prop:=e=.returned v∧∃tg',Q w' tg'∧GFr w tg w' tg'
end Go.Proofs.YtfcjdinlcehpmaaGreatDoor
