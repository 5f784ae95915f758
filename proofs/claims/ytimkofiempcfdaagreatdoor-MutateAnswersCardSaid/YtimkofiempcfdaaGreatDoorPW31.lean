/- Several texts joined (pack.py): Zl Zm Zn Zo Zp Yx Gpo. -/
import Derived.Test.YtimkofiempcfdaaGreatDoorPW30
import Derived.Test.YtimkofiempcfdaaGreatDoorPW28
import Derived.Test.YtimkofiempcfdaaGreatDoorPW24
import Derived.WalkKit
import Derived.BigQuiet
import Derived.Test.YtimkofiempcfdaaGreatDoorPW29
import Derived.Test.YtimkofiempcfdaaGreatDoorPW05
set_option linter.unusedVariables false
set_option linter.unusedSimpArgs false
set_option maxHeartbeats 3200000
set_option maxRecDepth 100000
open List renaming mem_cons_of_mem->D3,mem_cons_self->D4,mem_cons->D5,mem_append->Ec
open Int renaming toNat_natCast->Ee
namespace Go.Proofs.YtimkofiempcfdaaGreatDoor
open Go.RowKit Go.Gl HS
section
variable {W w w':World}{L:HL}{X:HX}{h h2:HS}{x x2:HT}{s k:Nat}{E:aK}{D D0:Nat->Prop}{Q Q0:World->Prop}{mb t sb ob:Nat}{m:MU}
theorem vQ(hS:ah D0 Q0)(hT:Tab W){A:Option Addr}{n c:Nat}{G:List Nat}{xs:List Value}{OV:Nat->Value}(H:HM W w L X h x s k ((mb,122,muV L.hb t sb m)::(ob,62,aJ h.T OV)::E) (λb=>b∈G\/D0 b) (λw=>Lr w 67 A n c G xs/\Q0 w))
  (hne0:∀q,q∈E->q.1≠mb) (hob:∀q,q∈E->q.1≠ob) (hms:(sb,58,#[.bool true,.slice (some ⟨ob,0,none⟩) h.T h.T])∈E) (ht:t<h.T) (hO:OV t=.slice A n c) (hGD:∀g,g∈G->¬ D0 g) (hn:n<=1048576) (hk:m.k=3) {I:Nat} (had:m.ad=(I:Int)) (hI:I<h.n) (hz:h.f I≠0) :
  Calls Tryz.prog 59 #[.pointer (some ⟨mb,0,none⟩)] w (tw W L X h x s k E D0 Q0 mb t sb ob n xs OV m I):=by
 have hS1:=hS.row 67 A n c G xs;have hmb:=H.blk (D4 ..);have hlt:=hmb.lt;have hbo:=H.blk (b:=ob) (D3 _ (D4 ..));have hom:ob≠mb:=hbo.apart hmb (by decide);have hltE:∀q,q∈((ob,62,aJ h.T OV)::E:aK)->q.1<w.heap.size:=λq hq=>(H.blk (b:=q.1) (t:=q.2.1) (cs:=q.2.2) (D3 _ hq)).lt;have hlo:ob<w.heap.size:=hbo.lt;have hrm:w.heap.size≠mb:=by omega
 have hro:w.heap.size≠ob:=by omega
 have hrE:∀q,q∈E->q.1≠w.heap.size:=λq hq=>by have:=hltE q (D3 _ hq);omega
 have HX0:Hid (HM W (w.alloc (.cells #[.int .i64 0,.int .i64 0,.int .i64 0,.int .u64 0,.bool false,.bool false,.bool false,.bool false,.slice none 0 0] 81)) L X h x s k ((w.heap.size,81,#[.int .i64 0,.int .i64 0,.int .i64 0,.int .u64 0,.bool false,.bool false,.bool false,.bool false,.slice none 0 0])::(mb,122,muV L.hb t sb m)::(ob,62,aJ h.T OV)::E) (λb=>b∈G\/D0 b) (λw=>Lr w 67 A n c G xs/\Q0 w)):=H.alloc hS1 81 #[.int .i64 0,.int .i64 0,.int .i64 0,.int .u64 0,.bool false,.bool false,.bool false,.bool false,.slice none 0 0];have q0:HM W (((w.alloc (.cells #[.int .i64 0,.int .i64 0,.int .i64 0,.int .u64 0,.bool false,.bool false,.bool false,.bool false,.slice none 0 0] 81)).alloc (.cells #[.int .i64 0,.int .i64 0,.int .i64 0,.int .u64 0,.bool false] 79)).alloc (.cells #[.int .i64 3,.int .i64 m.a,.int .i64 m.b,.int .i64 m.c,.int .u64 m.v] 66)).drew L X h x s k ((w.heap.size+1+1,66,#[.int .i64 3,.int .i64 m.a,.int .i64 m.b,.int .i64 m.c,.int .u64 m.v])::(w.heap.size+1,79,#[.int .i64 0,.int .i64 0,.int .i64 0,.int .u64 0,.bool false])::(w.heap.size,81,#[.int .i64 0,.int .i64 0,.int .i64 0,.int .u64 0,.bool false,.bool false,.bool false,.bool false,.slice none 0 0])::(mb,122,muV L.hb t sb m)::(ob,62,aJ h.T OV)::E) (λb=>b∈G\/D0 b) (λw=>Lr w 67 A n c G xs/\Q0 w):=by
  have q:=((HX0.out.alloc hS1 79 #[.int .i64 0,.int .i64 0,.int .i64 0,.int .u64 0,.bool false]).alloc hS1 66 #[.int .i64 3,.int .i64 m.a,.int .i64 m.b,.int .i64 m.c,.int .u64 m.v]).fr0 hS1 (Fr.refl _ _).drew;rw[show((w.alloc (.cells #[.int .i64 0,.int .i64 0,.int .i64 0,.int .u64 0,.bool false,.bool false,.bool false,.bool false,.slice none 0 0] 81)).alloc (.cells #[.int .i64 0,.int .i64 0,.int .i64 0,.int .u64 0,.bool false] 79)).heap.size=w.heap.size+1+1 by simp,show(w.alloc (.cells #[.int .i64 0,.int .i64 0,.int .i64 0,.int .u64 0,.bool false,.bool false,.bool false,.bool false,.slice none 0 0] 81)).heap.size=w.heap.size+1 by simp]at q;exact q
 have q1:HM W (((w.alloc (.cells #[.int .i64 0,.int .i64 0,.int .i64 0,.int .u64 0,.bool false,.bool false,.bool false,.bool false,.slice none 0 0] 81)).alloc (.cells #[.int .i64 0,.int .i64 0,.int .i64 0,.int .u64 0,.bool false] 79)).alloc (.cells #[.int .i64 3,.int .i64 m.a,.int .i64 m.b,.int .i64 m.c,.int .u64 m.v] 66)).drew L X h x s k ((mb,122,muV L.hb t sb m)::(ob,62,aJ h.T OV)::(w.heap.size+1+1,66,#[.int .i64 3,.int .i64 m.a,.int .i64 m.b,.int .i64 m.c,.int .u64 m.v])::(w.heap.size+1,79,#[.int .i64 0,.int .i64 0,.int .i64 0,.int .u64 0,.bool false])::(w.heap.size,81,#[.int .i64 0,.int .i64 0,.int .i64 0,.int .u64 0,.bool false,.bool false,.bool false,.bool false,.slice none 0 0])::E) (λb=>b∈G\/D0 b) (λw=>Lr w 67 A n c G xs/\Q0 w):=q0.sub (λy hy=>by simp only[D5]at hy ⊢;rcases hy with e|e|e|e|e|e <;> simp[e]);have HC:=aa (vP hS hT q1 (aM (by show w.heap.size+1+1≠mb;omega) (aM (by show w.heap.size+1≠mb;omega) (aM hrm hne0))) (aM (by show w.heap.size+1+1≠ob;omega) (aM (by show w.heap.size+1≠ob;omega) (aM hro hob))) (D3 _ (D3 _ (D3 _ hms))) ht hO hGD hn had hI hz);have HDr:Hid (∀w' A' c' G',HM W w' L X h x s k ((mb,122,muV L.hb t sb { m with st:=4,ad:=(I:Int) })::(ob,62,aJ h.T (bz OV t (.slice A' (n+1) c')))::(w.heap.size+1+1,66,#[.int .i64 3,.int .i64 m.a,.int .i64 m.b,.int .i64 m.c,.int .u64 m.v])::(w.heap.size+1,79,#[.int .i64 0,.int .i64 0,.int .i64 0,.int .u64 0,.bool false])::(w.heap.size,81,#[.int .i64 0,.int .i64 0,.int .i64 0,.int .u64 0,.bool false,.bool false,.bool false,.bool false,.slice none 0 0])::E) (λb=>b∈G'\/D0 b) (λw=>Lr w 67 A' (n+1) c' G' (xs++[.int .u64 (h.f I:Int)])/\Q0 w)->HM W w' L X h x s k ((mb,122,muV L.hb t sb { m with st:=4,ad:=(I:Int) })::(w.heap.size,81,#[.int .i64 0,.int .i64 0,.int .i64 0,.int .u64 0,.bool false,.bool false,.bool false,.bool false,.slice none 0 0])::(ob,62,aJ h.T (bz OV t (.slice A' (n+1) c')))::E) (λb=>b∈G'\/D0 b) (λw=>Lr w 67 A' (n+1) c' G' (xs++[.int .u64 (h.f I:Int)])/\Q0 w)):=λw' A' c' G' q=>q.sub (λy hy=>by simp only[D5]at hy ⊢;rcases hy with e|e|e|e <;> simp[e]);have HEnd:Hid (∀w' A' c' G' v0 v1 v2 v3 v4 v5 v6 v7 v8,HM W w' L X h x s k ((mb,122,muV L.hb t sb { m with st:=4,ad:=(I:Int) })::(w.heap.size,81,#[.int .i64 0,.int .i64 0,.int .i64 0,.int .u64 0,.bool false,.bool false,.bool false,.bool false,.slice none 0 0])::(ob,62,aJ h.T (bz OV t (.slice A' (n+1) c')))::E) (λb=>b∈G'\/D0 b) (λw=>Lr w 67 A' (n+1) c' G' (xs++[.int .u64 (h.f I:Int)])/\Q0 w)->(∀g,g∈G'->¬ D0 g) ->
   tw W L X h x s k E D0 Q0 mb t sb ob n xs OV m I (.returned (.agg #[.int .i64 0,.int .i64 0,.int .i64 0,.int .u64 0,.bool false,.bool false,.bool true,.bool false,.slice none 0 0])) (cD w' w.heap.size v0 v1 v2 v3 v4 v5 v6 v7 v8)):=λw' A' c' G' v0 v1 v2 v3 v4 v5 v6 v7 v8 q hg=>
  ⟨A',c',G',rfl,q.swap.cX (hS.row _ _ _ _ _ _) hT (aM (λe=>hrm e.symm) (aM (λe=>hro e.symm) hrE)) v0 v1 v2 v3 v4 v5 v6 v7 v8,hg⟩
 have hsb:=H.blk (D3 _ (D3 _ hms));have cs0:=hsb.cell 0;have NS:=hsb.lt;obtain⟨c0,c1,c2,c3,c4,c5,c6,c7,c8,c9,c10⟩:=aL hmb;rw[hk]at c4;have hl1:mb<w.heap.size+1:=by omega
 have hl2:mb<w.heap.size+1+1:=by omega
 have n0:mb≠w.heap.size:=by omega
 have n1:mb≠w.heap.size+1:=by omega
 have n2:mb≠w.heap.size+1+1:=by omega
 have j1:sb<w.heap.size+1:=by omega
 have j2:sb<w.heap.size+1+1:=by omega
 have i0:sb≠w.heap.size:=by omega
 have i1:sb≠w.heap.size+1:=by omega
 have i2:sb≠w.heap.size+1+1:=by omega
 clear H hmb hbo hltE HX0 hne0 hob hom hrm hro hrE had hI hz hms hO hGD hS hS1 hn ht hlo q1 hk q0 hsb;go_enter Tryz.func59,Tryz.ntmps59
 go_wp2_with fail
 go_region
 go_wp2_with fail
 refine HC.out.mono ?_;rintro e w5 ⟨A',c',G',rfl,hA0,hg0⟩;have HG0:=aa hg0;have hA:=HDr.out _ _ _ _ hA0;clear hA0 hg0 HC c0 c1 c2 c3 c4 c5 c6 c7 c8 c9 c10 cs0;have HA5:=aa hA;have hrb:=hA.blk (D3 _ (D4 ..));have y0:=hrb.cell 0;have y1:=hrb.cell 1;have y2:=hrb.cell 2;have y3:=hrb.cell 3;have y4:=hrb.cell 4;have y5:=hrb.cell 5;have y6:=hrb.cell 6;have y7:=hrb.cell 7;have y8:=hrb.cell 8;have z0:=hrb.frozen 0;have z1:=hrb.frozen 1;have z2:=hrb.frozen 2;have z3:=hrb.frozen 3;have z4:=hrb.frozen 4;have z5:=hrb.frozen 5;have z6:=hrb.frozen 6;have z7:=hrb.frozen 7;have z8:=hrb.frozen 8;have NR:=hrb.lt;clear hA hrb;unfold bk An.zero;go_wp2_with fail
 refine bodyPost_ret (v:=.agg #[.int .i64 0,.int .i64 0,.int .i64 0,.int .u64 0,.bool false,.bool false,.bool true,.bool false,.slice none 0 0]) (by simp[results,Tryz.results59,go_sem, *]) rfl ?_;exact HEnd.out _ _ _ _ _ _ _ _ _ _ _ _ _ HA5.out HG0.out
theorem tx(hS:ah D0 Q0)(hT:Tab W){A:Option Addr}{n c:Nat}{G:List Nat}{xs:List Value}{OV:Nat->Value}(H:HM W w L X h x s k ((mb,122,muV L.hb t sb m)::(ob,62,aJ h.T OV)::E) (λb=>b∈G\/D0 b) (λw=>Lr w 67 A n c G xs/\Q0 w))
  (hne0:∀q,q∈E->q.1≠mb) (hob:∀q,q∈E->q.1≠ob) (hms:(sb,58,#[.bool true,.slice (some ⟨ob,0,none⟩) h.T h.T])∈E) (ht:t<h.T) (hO:OV t=.slice A n c) (hGD:∀g,g∈G->¬ D0 g) (hn:n<=1048576) (hk:m.k=3) (hst:m.st=3) {I:Nat} (had:m.ad=(I:Int)) (hI:I<h.n) (hz:h.f I≠0) :
  Calls Tryz.prog 26 #[.pointer (some ⟨mb,0,none⟩)] w (tw W L X h x s k E D0 Q0 mb t sb ob n xs OV m I):=by
 have hS1:=hS.row 67 A n c G xs;have hmb:=H.blk (D4 ..);have hlt:=hmb.lt;have hbo:=H.blk (b:=ob) (D3 _ (D4 ..));have hom:ob≠mb:=hbo.apart hmb (by decide);have hltE:∀q,q∈((ob,62,aJ h.T OV)::E:aK)->q.1<w.heap.size:=λq hq=>(H.blk (b:=q.1) (t:=q.2.1) (cs:=q.2.2) (D3 _ hq)).lt;have hlo:ob<w.heap.size:=hbo.lt;have hrm:w.heap.size≠mb:=by omega
 have hro:w.heap.size≠ob:=by omega
 have hrE:∀q,q∈E->q.1≠w.heap.size:=λq hq=>by have:=hltE q (D3 _ hq);omega
 have HX0:Hid (HM W (w.alloc (.cells #[.int .i64 0,.int .i64 0,.int .i64 0,.int .u64 0,.bool false,.bool false,.bool false,.bool false,.slice none 0 0] 81)) L X h x s k ((w.heap.size,81,#[.int .i64 0,.int .i64 0,.int .i64 0,.int .u64 0,.bool false,.bool false,.bool false,.bool false,.slice none 0 0])::(mb,122,muV L.hb t sb m)::(ob,62,aJ h.T OV)::E) (λb=>b∈G\/D0 b) (λw=>Lr w 67 A n c G xs/\Q0 w)):=H.alloc hS1 81 #[.int .i64 0,.int .i64 0,.int .i64 0,.int .u64 0,.bool false,.bool false,.bool false,.bool false,.slice none 0 0];have q1:HM W (w.alloc (.cells #[.int .i64 0,.int .i64 0,.int .i64 0,.int .u64 0,.bool false,.bool false,.bool false,.bool false,.slice none 0 0] 81)) L X h x s k ((mb,122,muV L.hb t sb m)::(ob,62,aJ h.T OV)::(w.heap.size,81,#[.int .i64 0,.int .i64 0,.int .i64 0,.int .u64 0,.bool false,.bool false,.bool false,.bool false,.slice none 0 0])::E) (λb=>b∈G\/D0 b) (λw=>Lr w 67 A n c G xs/\Q0 w):=HX0.out.sub (λy hy=>by simp only[D5]at hy ⊢;rcases hy with e|e|e|e <;> simp[e]);have HC:=aa (vQ hS hT q1 (aM hrm hne0) (aM hro hob) (D3 _ hms) ht hO hGD hn hk had hI hz);have HDr:Hid (∀w' A' c' G',HM W w' L X h x s k ((mb,122,muV L.hb t sb { m with st:=4,ad:=(I:Int) })::(ob,62,aJ h.T (bz OV t (.slice A' (n+1) c')))::(w.heap.size,81,#[.int .i64 0,.int .i64 0,.int .i64 0,.int .u64 0,.bool false,.bool false,.bool false,.bool false,.slice none 0 0])::E) (λb=>b∈G'\/D0 b) (λw=>Lr w 67 A' (n+1) c' G' (xs++[.int .u64 (h.f I:Int)])/\Q0 w)->HM W w' L X h x s k ((mb,122,muV L.hb t sb { m with st:=4,ad:=(I:Int) })::(w.heap.size,81,#[.int .i64 0,.int .i64 0,.int .i64 0,.int .u64 0,.bool false,.bool false,.bool false,.bool false,.slice none 0 0])::(ob,62,aJ h.T (bz OV t (.slice A' (n+1) c')))::E) (λb=>b∈G'\/D0 b) (λw=>Lr w 67 A' (n+1) c' G' (xs++[.int .u64 (h.f I:Int)])/\Q0 w)):=λw' A' c' G' q=>q.sub (λy hy=>by simp only[D5]at hy ⊢;rcases hy with e|e|e|e <;> simp[e]);have HEnd:Hid (∀w' A' c' G' v0 v1 v2 v3 v4 v5 v6 v7 v8,HM W w' L X h x s k ((mb,122,muV L.hb t sb { m with st:=4,ad:=(I:Int) })::(w.heap.size,81,#[.int .i64 0,.int .i64 0,.int .i64 0,.int .u64 0,.bool false,.bool false,.bool false,.bool false,.slice none 0 0])::(ob,62,aJ h.T (bz OV t (.slice A' (n+1) c')))::E) (λb=>b∈G'\/D0 b) (λw=>Lr w 67 A' (n+1) c' G' (xs++[.int .u64 (h.f I:Int)])/\Q0 w)->(∀g,g∈G'->¬ D0 g) ->
   tw W L X h x s k E D0 Q0 mb t sb ob n xs OV m I (.returned (.agg #[.int .i64 0,.int .i64 0,.int .i64 0,.int .u64 0,.bool false,.bool false,.bool true,.bool false,.slice none 0 0])) (cD w' w.heap.size v0 v1 v2 v3 v4 v5 v6 v7 v8)):=λw' A' c' G' v0 v1 v2 v3 v4 v5 v6 v7 v8 q hg=>
  ⟨A',c',G',rfl,q.swap.cX (hS.row _ _ _ _ _ _) hT (aM (λe=>hrm e.symm) (aM (λe=>hro e.symm) hrE)) v0 v1 v2 v3 v4 v5 v6 v7 v8,hg⟩
 obtain⟨c0,c1,c2,c3,c4,c5,c6,c7,c8,c9,c10⟩:=aL hmb;rw[hst]at c9;clear H hmb hbo hltE HX0 hne0 hob hom hrm hro hrE had hI hz hms hO hGD hS hS1 hn ht hlo q1 hk hst;go_enter Tryz.func26,Tryz.ntmps26
 go_wp2_with fail
 refine HC.out.mono ?_;rintro e w5 ⟨A',c',G',rfl,hA0,hg0⟩;have HG0:=aa hg0;have hA:=HDr.out _ _ _ _ hA0;clear hA0 hg0 HC c0 c1 c2 c3 c4 c5 c6 c7 c8 c9 c10;have HA5:=aa hA;have hrb:=hA.blk (D3 _ (D4 ..));have y0:=hrb.cell 0;have y1:=hrb.cell 1;have y2:=hrb.cell 2;have y3:=hrb.cell 3;have y4:=hrb.cell 4;have y5:=hrb.cell 5;have y6:=hrb.cell 6;have y7:=hrb.cell 7;have y8:=hrb.cell 8;have z0:=hrb.frozen 0;have z1:=hrb.frozen 1;have z2:=hrb.frozen 2;have z3:=hrb.frozen 3;have z4:=hrb.frozen 4;have z5:=hrb.frozen 5;have z6:=hrb.frozen 6;have z7:=hrb.frozen 7;have z8:=hrb.frozen 8;have NR:=hrb.lt;clear hA hrb;unfold bk An.zero;go_wp2_with fail
 refine bodyPost_ret (v:=.agg #[.int .i64 0,.int .i64 0,.int .i64 0,.int .u64 0,.bool false,.bool false,.bool true,.bool false,.slice none 0 0]) (by simp[results,Tryz.results26,go_sem, *]) rfl ?_;exact HEnd.out _ _ _ _ _ _ _ _ _ _ _ _ _ HA5.out HG0.out
end
section
variable {W w w':World}{L:HL}{X:HX}{h:HS}{x:HT}{s k:Nat}{E:aK}{D D0:Nat->Prop}{Q Q0:World->Prop}{mb t sb ob:Nat}{m:MU}{σ:GS}{A:Nat->Nat}{rv:Nat->Option (Nat×Nat)}{M T:Nat}
theorem yi(ok:h.Ok s k){I:Nat}(hI:I<h.n):∃c:Nat,h.g.bV (I:Int)=(c:Int):=by
 have hp:=iq k;have e:h.g.bV (I:Int)=(I:Int) / h.g.cw:=by
  unfold Geo.bV;rw[if_pos ⟨by omega,by rw[ok.wd];omega⟩]
 rw[e,ok.geo.cw];exact Int.eq_ofNat_of_zero_le (Int.ediv_nonneg (by omega) (by omega))
theorem px(hS:ah D Q)(hT:Tab W)(H:HM W w L X h x s k ((mb,122,muV L.hb t sb m)::E) D Q)(hne:∀q,q∈E->q.1≠mb)(hst:m.st=3)(hk:m.k=3)(S:Sim h σ A rv)(eT:h.T=T)(hr:rv t=none){q I:Nat}(l:cy σ A t m.op q I)(had:m.ad=(I:Int))(hI:I<h.n)(hz:h.f I=0)
  {sv:Value} (hms:(sb,58,#[.bool true,sv])∈E) :
  Calls Tryz.prog 26 #[.pointer (some ⟨mb,0,none⟩)] w (dE W L X x s k E D Q mb t sb M T m h σ A rv):=by
 refine(cZ hS hT H hne hst (λw1 rb1 c1 n1 n2 H1=>vH hS hT H1 (aM n1 hne) hk (D3 _ hms) (λw2 E2 n3 _ H2=>vO hS hT H2 n3 had hI hz))).mono ?_;rintro e w' ⟨rfl,hA⟩;exact⟨h,x,σ,A,rv,_,hA,S,.inr (.inr (.inr (.inr (.inr (.inr ⟨rfl,hk,hr,q,I,l,hI,rfl⟩))))),df.refl _,rfl,rfl,rfl,rfl,rfl,λ_ _=>rfl,λ_ _=>rfl,λ_ _=>rfl,.inl ⟨rfl,rfl,rfl,rfl,.inr (.inr rfl),by show rkM 4<_;rw[hst];decide,rfl,λ_=>⟨I,had,hz⟩⟩⟩
def AF(W:World)(L:HL)(X:HX)(h:HS)(x:HT)(s k:Nat)(E:aK)(A0:Option Addr)(n0 c0:Nat)(G:List Nat)(xs:List Value)(OV:Nat->Value)(D0:Nat->Prop)(Q0:World->Prop)(mb t sb ob:Nat)(M T:Nat)(mk:Bool)(m:MU)(σ:GS)(A:Nat->Nat)(rv:Nat->Option (Nat×Nat))(e:Ending)(w':World):Prop:=
 (m.st≠6/\(m.st=3->m.k=3->mk=true->∃I:Nat,m.ad=(I:Int)/\h.f I=0)/\dE W L X x s k ((ob,62,aJ h.T OV)::E) (λb=>b∈G\/D0 b) (λw=>Lr w 67 A0 n0 c0 G xs/\Q0 w) mb t sb M T m h σ A rv e w') \/
 (m.st=6/\rv t=none/\∃I c:Nat,m.ad=(I:Int)/\I<h.n/\h.g.bV (I:Int)=(c:Int)/\lX W L X h x s k ((ob,62,aJ h.T OV)::E) (λb=>b∈G\/D0 b) (λw=>Lr w 67 A0 n0 c0 G xs/\Q0 w) mb t sb m.dn c e w') \/
 (mk=true/\m.st=3/\m.k=3/\rv t=none/\∃q I:Nat,cy σ A t m.op q I/\m.ad=(I:Int)/\I<h.n/\h.f I≠0/\tw W L X h x s k E D0 Q0 mb t sb ob n0 xs OV m I e w')
theorem yj(hS:ah D0 Q0)(hT:Tab W){A0:Option Addr}{n0 c0:Nat}{G:List Nat}{xs:List Value}{OV:Nat->Value}{mk:Bool}
  (H:HM W w L X h x s k ((mb,122,muV L.hb t sb m)::(ob,62,aJ h.T OV)::E) (λb=>b∈G\/D0 b) (λw=>Lr w 67 A0 n0 c0 G xs/\Q0 w))
  (hne0:∀q,q∈E->q.1≠mb) (hob:∀q,q∈E->q.1≠ob) (hms:(sb,58,#[.bool mk,.slice (some ⟨ob,0,none⟩) h.T h.T])∈E) (hO:OV t=.slice A0 n0 c0) (hGD:∀g,g∈G->¬ D0 g) (hn0:n0<=1048576)
  (hp:Phase h.n M σ A rv t m) (hst:m.st≠0) (hd:(m.dn:Int)+1<=9223372036854775807) (hv:m.st≠6->0<=m.v/\m.v<18446744073709551616)
  (S:Sim h σ A rv) (gk:GOk T L.B σ) (eT:h.T=T) (ht:t<T) (ho:m.st≠6->dB m.op) (hB:L.B<=64) (hM:h.g.max=(M:Int)) (hM2:M<=1048576) (hQ:QOk h.T x.qm x.qc x.ql) :
  Calls Tryz.prog 26 #[.pointer (some ⟨mb,0,none⟩)] w (AF W L X h x s k E A0 n0 c0 G xs OV D0 Q0 mb t sb ob M T mk m σ A rv):=by
 have hS1:=hS.row 67 A0 n0 c0 G xs;have hmb:=H.blk (D4 ..);have hbo:=H.blk (b:=ob) (D3 _ (D4 ..));have hne:∀q,q∈((ob,62,aJ h.T OV)::E:aK)->q.1≠mb:=aM (hbo.apart hmb (by decide)) hne0;have left:(m.st≠6/\(m.st=3->m.k=3->mk=true->∃I:Nat,m.ad=(I:Int)/\h.f I=0))->∀e w',dE W L X x s k ((ob,62,aJ h.T OV)::E) (λb=>b∈G\/D0 b) (λw=>Lr w 67 A0 n0 c0 G xs/\Q0 w) mb t sb M T m h σ A rv e w'->AF W L X h x s k E A0 n0 c0 G xs OV D0 Q0 mb t sb ob M T mk m σ A rv e w':=λh6 e w' p=>.inl ⟨h6.1,h6.2,p⟩;rcases hp with p|⟨p1,p2⟩|⟨p1,pk,p2⟩|⟨p1,p2,q,I,l,hI,had⟩|⟨p1,pk,hsz,I,had,p2⟩|⟨p1,p2,I,hI,had⟩|⟨p1,pk,p2,q,I,l,hI,had⟩
 ·exact absurd p.1 hst
 ·by_cases h1:m.k=1
  ·exact(lW hS1 hT H hne (.inl p1) h1 hd S gk eT ht (ho (by omega)) p2 hB hM hM2).mono (left ⟨by omega,by omega⟩)
  ·by_cases h2:2<=m.k/\m.k<=5
   ·exact(vF hS1 hT H hne p1 (by omega) hd S gk eT ht (ho (by omega)) p2).mono (left ⟨by omega,by omega⟩)
   ·exact(sY hS1 hT H hne p1 (by omega) hd S gk eT ht hB p2).mono (left ⟨by omega,by omega⟩)
 ·exact(lW hS1 hT H hne (.inr p1) pk hd S gk eT ht (ho (by omega)) p2 hB hM hM2).mono (left ⟨by omega,by omega⟩)
 ·by_cases hk3:m.k=3/\mk=true
  ·obtain⟨hk,rfl⟩:=hk3;by_cases hz:h.f I=0
   ·exact(px hS1 hT H hne p1 hk S eT p2 l had hI hz (D3 _ hms)).mono (left ⟨by omega,λ_ _ _=>⟨I,had,hz⟩⟩)
   ·refine(tx hS hT H hne0 hob hms (by omega) hO hGD hn0 hk p1 had hI hz).mono ?_;exact λe w' p=>.inr (.inr ⟨rfl,p1,hk,p2,q,I,l,had,hI,hz,p⟩)
  ·refine(qV hS1 hT H hne p1 hd S gk eT ht hB p2 l had hI (hv (by omega)) (λhk=>?_)).mono (left ⟨by omega,λ_ e1 e2=>absurd ⟨e1,e2⟩ hk3⟩);cases mk with
  |true=>exact absurd ⟨hk,rfl⟩ hk3
  |false=>exact⟨_,D3 _ hms⟩
 ·exact(te hS1 hT H hne p1 pk hd S gk eT ht hB hsz had p2).mono (left ⟨by omega,by omega⟩)
 ·obtain⟨c,hc⟩:=yi H.ok hI;exact(qY hS1 hT H hne p1 (by omega) hQ had hc).mono (λe w' p=>.inr (.inl ⟨p1,p2,I,c,had,hI,hc,p⟩))
 ·exact(qW hS1 hT H hne p1 pk hd S gk eT ht p2 l had hI).mono (left ⟨by omega,by omega⟩)
end
structure WS where
 dl:Value
 wn:Int
 sy:Bool
 mg:Bool
 OV:Nat->Value
 OP:Nat->Value
 nx:Nat->Nat
 mu:Nat->MU
def WS.new:WS:=⟨.slice none 0 0,0,false,false,λ_=>.slice none 0 0,λ_=>.slice none 0 0,λ_=>0,λ_=>MU.zero 0⟩
def w4E(Λ:WL)(hb g T:Nat)(V:WS):aK:=
 [(Λ.wb,37,wdV hb Λ.sb Λ.mA T Λ.mc Λ.pb Λ.nb T g V.dl V.wn V.sy),(Λ.sb,58,#[.bool V.mg,.slice (some ⟨Λ.ob,0,none⟩) T T]),(Λ.pb,55,aJ T V.OP),(Λ.nb,3,aJ T λi=>.int .i64 (V.nx i:Int))]
def muE(Λ:WL)(hb:Nat)(V:WS)(i:Nat):Nat×TypeId×Array Value:=(Λ.P i,122,muV hb i Λ.sb (V.mu i))
def wE(Λ:WL)(hb g T:Nat)(V:WS):aK:=(Λ.ob,62,aJ T V.OV)::(w4E Λ hb g T V++(List.range T).map (muE Λ hb V))
def wR(Λ:WL)(hb g T t:Nat)(V:WS):aK:=w4E Λ hb g T V++((List.range T).filter (·≠t)).map (muE Λ hb V)
section
variable {W w w':World}{L:HL}{X:HX}{h:HS}{x:HT}{s k:Nat}{E:aK}{D:Nat->Prop}{Q:World->Prop}{Λ:WL}{hb g T t:Nat}{V:WS}
theorem HM.lZ(H:HM W w L X h x s k (wE Λ hb g T V++E) D Q)(ht:t<T):HM W w L X h x s k ((Λ.P t,122,muV hb t Λ.sb (V.mu t))::(Λ.ob,62,aJ T V.OV)::(wR Λ hb g T t V++E)) D Q:=
 H.sub (λq hq=>by
  simp only[wR,D5,Ec,List.mem_map,List.mem_filter]at hq;simp only[wE,D5,Ec,List.mem_map];rcases hq with e|e|(e|⟨i,⟨hi,_⟩,e⟩)|e
  ·exact .inl (.inr (.inr ⟨t,List.mem_range.2 ht,e.symm⟩))
  ·exact .inl (.inl e)
  ·exact .inl (.inr (.inl e))
  ·exact .inl (.inr (.inr ⟨i,hi,e⟩))
  ·exact .inr e)
theorem HM.kA{m':MU}{OV':Nat->Value}(H:HM W w L X h x s k ((Λ.P t,122,muV hb t Λ.sb m')::(Λ.ob,62,aJ T OV')::(wR Λ hb g T t V++E)) D Q):HM W w L X h x s k (wE Λ hb g T { V with mu:=ai V.mu t m',OV:=OV' }++E) D Q:=
 H.sub (λq hq=>by
  simp only[wE,D5,Ec,List.mem_map]at hq;simp only[wR,D5,Ec,List.mem_map,List.mem_filter];rcases hq with(e|e|⟨i,hi,e⟩)|e
  ·exact .inr (.inl e)
  ·exact .inr (.inr (.inl (.inl e)))
  ·by_cases hit:i=t
   ·subst hit;refine .inl ?_;rw[<- e];show(Λ.P i,122,muV hb i Λ.sb (ai V.mu i m' i))=_;rw[aq]
   ·refine .inr (.inr (.inl (.inr ⟨i,⟨hi,by simpa using hit⟩,?_⟩)));rw[<- e];show(Λ.P i,122,muV hb i Λ.sb (V.mu i))=(Λ.P i,122,muV hb i Λ.sb (ai V.mu t m' i));rw[ay _ _ hit]
  ·exact .inr (.inr (.inr e)))
theorem yk{a b i j:Nat}{m m':MU}(h1:Blk w a 122 (muV hb i Λ.sb m))(h2:Blk w b 122 (muV hb j Λ.sb m'))(hij:i≠j):a≠b:=λe=>by
 subst e;have e1:=h1.cell 1;have e2:=h2.cell 1;rw[e1]at e2;simp[muV]at e2;omega
theorem HM.BE(H:HM W w L X h x s k ((Λ.P t,122,muV hb t Λ.sb (V.mu t))::(Λ.ob,62,aJ T V.OV)::(wR Λ hb g T t V++E)) D Q)(hE:∀q,q∈E->q.2.1≠122/\q.2.1≠62) :
  (∀q,q∈wR Λ hb g T t V++E->q.1≠Λ.P t)/\∀q,q∈wR Λ hb g T t V++E->q.1≠Λ.ob:=by
 have hm:=H.blk (D4 ..);have ho:=H.blk (b:=Λ.ob) (D3 _ (D4 ..));have key:∀q,q∈wR Λ hb g T t V++E->Blk w q.1 q.2.1 q.2.2:=λq hq=>H.blk (b:=q.1) (t:=q.2.1) (cs:=q.2.2) (D3 _ (D3 _ hq));have ty:∀q,q∈wR Λ hb g T t V++E->(q.2.1≠122/\q.2.1≠62)\/∃i,i≠t/\q=muE Λ hb V i:=λq hq=>by
  simp only[wR,w4E,D5,Ec,List.mem_map,List.mem_filter,List.not_mem_nil,or_false]at hq;rcases hq with((e|e|e|e)|⟨i,⟨_,hi⟩,e⟩)|e
  ·exact .inl (by rw[e];simp only;decide)
  ·exact .inl (by rw[e];simp only;decide)
  ·exact .inl (by rw[e];simp only;decide)
  ·exact .inl (by rw[e];simp only;decide)
  ·exact .inr ⟨i,by simpa using hi,e.symm⟩
  ·exact .inl (hE q e)
 refine⟨λq hq=>?_,λq hq=>?_⟩
 ·rcases ty q hq with⟨e,_⟩|⟨i,hi,rfl⟩
  ·exact(key q hq).apart hm e
  ·exact yk (Λ:=Λ) (key _ hq) hm hi
 ·rcases ty q hq with⟨_,e⟩|⟨i,hi,rfl⟩
  ·exact(key q hq).apart ho e
  ·exact(key _ hq).apart ho (by show(122:TypeId)≠62;decide)
end
structure WI(B:Nat)(h:HS)(x:HT)(V:WS)(σ:GS)(A:Nat->Nat)(rv:Nat->Option (Nat×Nat))(M T:Nat):Prop where
 sim:Sim h σ A rv
 gk:GOk T B σ
 eT:h.T=T
 ph:∀i,i<T->Phase h.n M σ A rv i (V.mu i)
 q:QOk h.T x.qm x.qc x.ql
 op:∀i,i<T->(V.mu i).st≠0->(V.mu i).st≠6->dB (V.mu i).op/\0<=(V.mu i).op.v/\(V.mu i).op.v<18446744073709551616
 B64:B<=64
 M1:h.g.max=(M:Int)
 M2:M<=1048576
section
variable {B:Nat}{h h':HS}{x x':HT}{V:WS}{σ σ':GS}{A A':Nat->Nat}{rv rv':Nat->Option (Nat×Nat)}{M T t:Nat}{m':MU}{OV':Nat->Value}
theorem WI.next(I:WI B h x V σ A rv M T)(S:Sim h' σ' A' rv')(gk:GOk T B σ')(eT:h'.T=h.T)(en:h'.n=h.n)(eg:h'.g=h.g)(p:Phase h'.n M σ' A' rv' t m')(l:dO σ σ' t)(hr:∀i,i≠t->rv' i=rv i)(hA:∀o,o<=σ.N->A' o=A o)
  (hq:QOk h'.T x'.qm x'.qc x'.ql) (ho:m'.st≠0->m'.st≠6->dB m'.op/\0<=m'.op.v/\m'.op.v<18446744073709551616):WI B h' x' { V with mu:=ai V.mu t m',OV:=OV' } σ' A' rv' M T:=by
 refine⟨S,gk,eT.trans I.eT,λi hi=>?_,hq,λi hi=>?_,I.B64,by rw[eg];exact I.M1,I.M2⟩
 ·show Phase h'.n M σ' A' rv' i (ai V.mu t m' i);by_cases e:i=t
  ·subst e;rw[aq];exact p
  ·rw[ay _ _ e,en];exact(I.ph i hi).later l e hA (hr i e)
 ·show(ai V.mu t m' i).st≠0->_;by_cases e:i=t
  ·subst e;show(ai V.mu i m' i).st≠0->(ai V.mu i m' i).st≠6->dB (ai V.mu i m' i).op/\0<=(ai V.mu i m' i).op.v/\(ai V.mu i m' i).op.v<18446744073709551616;rw[aq];exact ho
  ·show(ai V.mu t m' i).st≠0->(ai V.mu t m' i).st≠6->dB (ai V.mu t m' i).op/\0<=(ai V.mu t m' i).op.v/\(ai V.mu t m' i).op.v<18446744073709551616;rw[ay _ _ e];exact I.op i hi
end
section
variable {W w w':World}{L:HL}{X:HX}{h:HS}{x:HT}{s k:Nat}{E:aK}{D D0:Nat->Prop}{Q Q0:World->Prop}{Λ:WL}{g t:Nat}{V:WS}{σ:GS}{A:Nat->Nat}{rv:Nat->Option (Nat×Nat)}{M T:Nat}
structure nU(h h':HS)(σ:GS)(A A':Nat->Nat)(rv rv':Nat->Option (Nat×Nat))(t:Nat):Prop where
 T:h'.T=h.T
 n:h'.n=h.n
 g:h'.g=h.g
 W:h'.W=h.W
 R:h'.R=h.R
 s:∀q,h.s q≠0->h'.s q=h.s q
 rv:∀i,i≠t->rv' i=rv i
 A:∀o,o<=σ.N->A' o=A o
theorem nU.refl(h:HS)(σ:GS)(A:Nat->Nat)(rv:Nat->Option (Nat×Nat))(t:Nat):nU h h σ A A rv rv t:=⟨rfl,rfl,rfl,rfl,rfl,λ_ _=>rfl,λ_ _=>rfl,λ_ _=>rfl⟩
def AG(x x':HT)(h:HS)(t c:Nat)(l:List Int):Prop:=
 ∃(wc:Bool) (er:Int) (C':List Nat),Turned x.C (h.R*x.per) (c:Int) true wc er C' /\
  ((wc=false/\x'={ x with C:=C' }/\l=[])\/(wc=true/\x'={ x with C:=C',qc:=eU x.qm x.qc x.ql t (c:Int),ql:=eX x.ql t (c:Int) }/\l=cQ x.qm x.qc x.ql t (c:Int)))
def AH(W:World)(L:HL)(X:HX)(h:HS)(x:HT)(s k:Nat)(E:aK)(A0:Option Addr)(n0 c0:Nat)(G:List Nat)(xs:List Value)(D0:Nat->Prop)(Q0:World->Prop)(Λ:WL)(g t M T:Nat)(V:WS)(σ:GS)(A:Nat->Nat)(rv:Nat->Option (Nat×Nat))(e:Ending)(w':World):Prop:=
 ∃(X':HX) (h':HS) (x':HT) (A1:Option Addr) (n1 c1:Nat) (G1:List Nat) (xs1:List Value) (OV':Nat->Value) (m':MU) (σ':GS) (A':Nat->Nat) (rv':Nat->Option (Nat×Nat)),
  HM W w' L X' h' x' s k (wE Λ L.hb g T { V with mu:=ai V.mu t m',OV:=OV' }++E) (λb=>b∈G1\/D0 b) (λw=>Lr w 67 A1 n1 c1 G1 xs1/\Q0 w)/\(∀g,g∈G1->¬ D0 g) /\
  WI L.B h' x' { V with mu:=ai V.mu t m',OV:=OV' } σ' A' rv' M T/\nU h h' σ A A' rv rv' t /\
  ((e=.returned (bk 0 0 An.zero false true false (.slice none 0 0))/\σ'=σ/\m'.dn=(V.mu t).dn/\m'.op=(V.mu t).op/\OV'=V.OV/\xs1=xs/\A1=A0/\n1=n0/\c1=c0/\(m'.st=3\/m'.st=5\/m'.st=4)/\rkM m'.st<rkM (V.mu t).st/\df x x'/\h'.f=h.f/\((V.mu t).st=3->∃I:Nat,(V.mu t).ad=(I:Int)/\h.f I=0)) \/
  (e=.returned (bk 0 0 An.zero false true true (.slice none 0 0))/\σ'=σ/\m'.dn=(V.mu t).dn/\m'.op=(V.mu t).op/\OV'=V.OV/\xs1=xs/\A1=A0/\n1=n0/\c1=c0/\m'.st=2/\df x x'/\(V.mu t).k=1/\(V.mu t).st≠6) \/
  (∃b:Bool,e=.returned (bk (t:Int) ((V.mu t).dn:Int) (bm L.B M T σ t (V.mu t).op) true b false (.slice none 0 0))/\σ'=aN L.B M T σ t (V.mu t).op/\m'.dn=(V.mu t).dn+1/\OV'=V.OV/\xs1=xs/\A1=A0/\n1=n0/\c1=c0/\(b=true/\m'.st=6\/b=false/\m'.st=0)/\df x x'/\(V.mu t).st≠6 /\
    gn h' σ A t (V.mu t).op b m'.ad/\((V.mu t).st=1->(V.mu t).k=3->bg σ t (V.mu t).op.a (V.mu t).op.b (V.mu t).op.c≠0)/\((V.mu t).st=3->(V.mu t).k=3->V.mg=true->∃I:Nat,(V.mu t).ad=(I:Int)/\h.f I=0)) \/
  ((V.mu t).st=6/\h'=h/\A'=A/\σ'=σ/\m'=MU.zero (V.mu t).dn/\OV'=V.OV/\xs1=xs/\A1=A0/\n1=n0/\c1=c0/\∃(I c:Nat) (A:Option Addr) (n:Nat) (G:List Nat) (l:List Int),(V.mu t).ad=(I:Int)/\I<h.n/\h.g.bV (I:Int)=(c:Int)/\AG x x' h t c l/\e=.returned (bk 0 0 An.zero false false false (.slice A (List.length l) n))/\Lr w' 3 A (List.length l) n G (zv l)) \/
  (V.mg=true/\e=.returned (bk 0 0 An.zero false true false (.slice none 0 0))/\h'=h/\x'=x/\A'=A/\σ'=σ/\(V.mu t).st=3/\(V.mu t).k=3/\m'.st=4/\m'.dn=(V.mu t).dn/\m'.op=(V.mu t).op/\∃I:Nat,(V.mu t).ad=(I:Int)/\h.f I≠0/\xs1=xs++[.int .u64 (h.f I:Int)]/\n1=n0+1/\OV'=bz V.OV t (.slice A1 (n0+1) c1)))
theorem jM(w:World)(e:TypeId):Lr w e none 0 0 [] []:=xi _ _ _
theorem tz(hS:ah D0 Q0)(hT:Tab W){A0:Option Addr}{n0 c0:Nat}{G:List Nat}{xs:List Value}(H:HM W w L X h x s k (wE Λ L.hb g T V++E) (λb=>b∈G\/D0 b) (λw=>Lr w 67 A0 n0 c0 G xs/\Q0 w))(hE:∀q,q∈E->q.2.1≠122/\q.2.1≠62)(hGD:∀g,g∈G->¬ D0 g)(hn0:n0<=1048576)
  (I:WI L.B h x V σ A rv M T) (hc:Can M σ) (ht:t<T) (hst:(V.mu t).st≠0) (hO:V.OV t=.slice A0 n0 c0) (hd:((V.mu t).dn:Int)+1<=9223372036854775807) :
  Calls Tryz.prog 26 #[.pointer (some ⟨Λ.P t,0,none⟩)] w (AH W L X h x s k E A0 n0 c0 G xs D0 Q0 Λ g t M T V σ A rv):=by
 have hS1:=hS.row 67 A0 n0 c0 G xs;have H1:=H.lZ ht;obtain⟨f1,f2⟩:=H1.BE hE;have eT:=I.eT;subst eT;have hms:(Λ.sb,58,#[.bool V.mg,.slice (some ⟨Λ.ob,0,none⟩) h.T h.T])∈wR Λ L.hb g h.T t V++E:=by simp[wR,w4E]
 refine(yj hS hT H1 f1 f2 hms hO hGD hn0 (I.ph t ht) hst hd (λh6=>(I.op t ht hst h6).2) I.sim I.gk rfl ht (λh6=>(I.op t ht hst h6).1) I.B64 I.M1 I.M2 I.q).mono ?_;rintro e w' (⟨h6,hlg,p⟩|⟨p1,p2,i,c,had,hI,hcc,p⟩|⟨p1,p2,p3,p4,q,i,l,had,hI,hz,p⟩)
 ·obtain⟨h',x',σ',A',rv',m',hA,S,P,hsq,e1,e2,e3,e4,e5,e6,e7,e8,e9⟩:=p;have hxq:QOk h'.T x'.qm x'.qc x'.ql:=by rw[e1,hsq.1,hsq.2.1,hsq.2.2.1];exact I.q
  have hst':nU h h' σ A A' rv rv' t:=⟨e1,e2,e3,e4,e5,e6,e7,e8⟩;rcases e9 with⟨rfl,rfl,k1,k2,k3,k4,k5,k6⟩|⟨rfl,rfl,k1,k2,k3,k4⟩|⟨b,rfl,rfl,k1,k2,k3,k4⟩
  ·exact⟨X,h',x',A0,n0,c0,G,xs,V.OV,m',_,A',rv',hA.kA,hGD,I.next S I.gk e1 e2 e3 P (.refl _ _) e7 e8 hxq (λ_ _=>by rw[k2];exact I.op t ht hst h6),hst',.inl ⟨rfl,rfl,k1,k2,rfl,rfl,rfl,rfl,rfl,k3,k4,hsq,k5,k6⟩⟩
  ·exact⟨X,h',x',A0,n0,c0,G,xs,V.OV,m',_,A',rv',hA.kA,hGD,I.next S I.gk e1 e2 e3 P (.refl _ _) e7 e8 hxq (λ_ _=>by rw[k2];exact I.op t ht hst h6),hst',.inr (.inl ⟨rfl,rfl,k1,k2,rfl,rfl,rfl,rfl,rfl,k3,hsq,k4,h6⟩)⟩
  ·exact⟨X,h',x',A0,n0,c0,G,xs,V.OV,m',_,A',rv',hA.kA,hGD,I.next S (I.gk.act hc t _) e1 e2 e3 P (.act _ _ _ _ _ _) e7 e8 hxq (λq0 q6=>by rcases k2 with⟨_,k⟩|⟨_,k⟩ <;> exact absurd k (by assumption)),hst',.inr (.inr (.inl ⟨b,rfl,rfl,k1,rfl,rfl,rfl,rfl,rfl,k2,hsq,h6,k3,k4,hlg⟩))⟩
 ·obtain⟨wc,er,C',hTu,⟨rfl,rfl,hA⟩|⟨rfl,F',A1,n,G1,rfl,hA,hL⟩⟩:=p
  ·exact⟨X,h,_,A0,n0,c0,G,xs,V.OV,MU.zero (V.mu t).dn,σ,A,rv,hA.kA,hGD,I.next (x':={ x with C:=C' }) I.sim I.gk rfl rfl rfl (.inl ⟨rfl,p2⟩) (.refl _ _) (λ_ _=>rfl) (λ_ _=>rfl) I.q (λq0 _=>absurd rfl q0),.refl _ _ _ _ _,.inr (.inr (.inr (.inl ⟨p1,rfl,rfl,rfl,rfl,rfl,rfl,rfl,rfl,rfl,i,c,none,0,[],[],had,hI,hcc,⟨_,er,C',hTu,.inl ⟨rfl,rfl,rfl⟩⟩,rfl,jM _ _⟩)))⟩
  ·exact⟨_,h,_,A0,n0,c0,G,xs,V.OV,MU.zero (V.mu t).dn,σ,A,rv,hA.kA,hGD,I.next (x':={ x with C:=C',qc:=eU x.qm x.qc x.ql t (c:Int),ql:=eX x.ql t (c:Int) }) I.sim I.gk rfl rfl rfl (.inl ⟨rfl,p2⟩) (.refl _ _) (λ_ _=>rfl) (λ_ _=>rfl) (I.q.push ht _) (λq0 _=>absurd rfl q0),.refl _ _ _ _ _,.inr (.inr (.inr (.inl ⟨p1,rfl,rfl,rfl,rfl,rfl,rfl,rfl,rfl,rfl,i,c,A1,n,G1,_,had,hI,hcc,⟨_,er,C',hTu,.inr ⟨rfl,rfl,rfl⟩⟩,rfl,hL⟩)))⟩
 ·obtain⟨A',c',G',rfl,hA,hG⟩:=p;exact⟨X,h,x,A',n0+1,c',G',_,_,_,σ,A,rv,hA.kA,hG,I.next I.sim I.gk rfl rfl rfl (.inr (.inr (.inr (.inr (.inr (.inr ⟨rfl,p3,p4,q,i,l,hI,rfl⟩)))))) (.refl _ _) (λ_ _=>rfl) (λ_ _=>rfl) I.q (λ_ _=>I.op t ht hst (by omega)),.refl _ _ _ _ _,.inr (.inr (.inr (.inr ⟨p1,rfl,rfl,rfl,rfl,rfl,p2,p3,rfl,rfl,rfl,i,had,hz,rfl,rfl,rfl⟩)))⟩
end
section
variable {W w w':World}{L:HL}{X:HX}{h:HS}{x:HT}{s k:Nat}{E:aK}{D:Nat->Prop}{Q:World->Prop}{Λ:WL}{g t:Nat}{V:WS}{σ:GS}{A:Nat->Nat}{rv:Nat->Option (Nat×Nat)}{B M T:Nat}
theorem Phase.idle{n:Nat}{m:MU}(p:Phase n M σ A rv t m)(hs:m.st=0):rv t=none:=by
 rcases p with p|p|p|p|p|p|p
 ·exact p.2
 ·exact p.2
 ·exact p.2.2
 ·exact p.2.1
 ·have:=p.1;omega
 ·exact p.2.1
 ·exact p.2.2.1
theorem Phase.Cw{n:Nat}{m:MU}(p:Phase n M σ A rv t m)(hs:m.st=2):rv t=none/\m.k=1:=by
 rcases p with p|p|p|p|p|p|p
 ·have:=p.1;omega
 ·have:=p.1;omega
 ·exact⟨p.2.2,p.2.1⟩
 ·have:=p.1;omega
 ·have:=p.1;omega
 ·have:=p.1;omega
 ·have:=p.1;omega
def MU.on(m:MU)(o:Po):MU:=⟨m.dn,o.k,o.a,o.b,o.c,o.v,1,0⟩
theorem WI.start(I:WI B h x V σ A rv M T)(ht:t<T)(hs:(V.mu t).st=0){o:Po}(ho:dB o)(hv:0<=o.v/\o.v<18446744073709551616):WI B h x { V with mu:=ai V.mu t ((V.mu t).on o),OV:=V.OV } σ A rv M T:=
 I.next I.sim I.gk rfl rfl rfl (.inr (.inl ⟨rfl,(I.ph t ht).idle hs⟩)) (.refl _ _) (λ_ _=>rfl) (λ_ _=>rfl) I.q (λ_ _=>⟨ho,hv⟩)
theorem WI.fail(I:WI B h x V σ A rv M T)(ht:t<T)(hs:(V.mu t).st=2):WI B h x { V with mu:=ai V.mu t (MU.zero ((V.mu t).dn+1)),OV:=V.OV } σ A rv M T:=
 I.next I.sim I.gk rfl rfl rfl (.inl ⟨rfl,((I.ph t ht).Cw hs).1⟩) (.refl _ _) (λ_ _=>rfl) (λ_ _=>rfl) I.q (λh0 _=>absurd rfl h0)
theorem q9(hS:ah D Q)(hT:Tab W)(H:HM W w L X h x s k (wE Λ L.hb g T V++E) D Q)(hE:∀q,q∈E->q.2.1≠122/\q.2.1≠62)(ht:t<T)(hs:(V.mu t).st=0)(o:Po) :
  Calls Tryz.prog 25 #[.pointer (some ⟨Λ.P t,0,none⟩),opV o] w λe w'=>e=.returned (.int .i64 0)/\HM W w' L X h x s k (wE Λ L.hb g T { V with mu:=ai V.mu t ((V.mu t).on o),OV:=V.OV }++E) D Q:=by
 have H1:=H.lZ ht;obtain⟨f1,f2⟩:=H1.BE hE;have hom:Λ.ob≠Λ.P t:=(H1.blk (b:=Λ.ob) (D3 _ (D4 ..))).apart (H1.blk (D4 ..)) (by decide);refine(H1.mut (P:=λe=>e=.returned (.int .i64 0)) hS hT (m':=(V.mu t).on o) (aM hom f1) (λhb=>lO hb hs o)).mono ?_;rintro e w' ⟨rfl,hA⟩;exact⟨rfl,hA.kA⟩
theorem tB(hS:ah D Q)(hT:Tab W)(H:HM W w L X h x s k (wE Λ L.hb g T V++E) D Q)(hE:∀q,q∈E->q.2.1≠122/\q.2.1≠62)(ht:t<T)(hs:(V.mu t).st=2)(hd:((V.mu t).dn:Int)+1<=9223372036854775807) :
  Calls Tryz.prog 31 #[.pointer (some ⟨Λ.P t,0,none⟩)] w λe w'=>e=.returned (.tuple #[fG (t:Int) ((V.mu t).dn:Int) ⟨16,0,false⟩,.int .i64 0])/\HM W w' L X h x s k (wE Λ L.hb g T { V with mu:=ai V.mu t (MU.zero ((V.mu t).dn+1)),OV:=V.OV }++E) D Q:=by
 have H1:=H.lZ ht;obtain⟨f1,f2⟩:=H1.BE hE;have hom:Λ.ob≠Λ.P t:=(H1.blk (b:=Λ.ob) (D3 _ (D4 ..))).apart (H1.blk (D4 ..)) (by decide);refine(H1.mut (P:=λe=>e=.returned (.tuple #[fG (t:Int) ((V.mu t).dn:Int) ⟨16,0,false⟩,.int .i64 0])) hS hT (m':=MU.zero ((V.mu t).dn+1)) (aM hom f1) (λhb=>vv hb hs hd)).mono ?_;rintro e w' ⟨rfl,hA⟩;exact⟨rfl,hA.kA⟩
end
def gK(x:HT)(T:Nat):List Int:=x.qc++j9 x.ql T
structure gL(h:HS)(x:HT)(V:WS)(σ:GS)(A:Nat->Nat)(dl:List Int)(T:Nat):Prop where
 ref:∀o j:Nat,1<=o->o<=σ.N->j<σ.np (o:Int)->cE h.g (h.aQ (h.g.az ((A o+1+j:Nat):Int))) ((A o+1+j:Nat):Int) (bo A (σ.ref (o:Int) (j:Int)))=true ->
  (∃c:Nat,h.g.bV ((A o+1+j:Nat):Int)=(c:Int)/\c<h.R*x.per/\bC x.C c=true)\/∃i,i<T/\(V.mu i).st=6/\(V.mu i).ad=((A o+1+j:Nat):Int)
 nd:∀z,(gK x T++dl).count z<=1
 dw:∀c:Nat,c<h.R*x.per->(bC x.C c=true↔(c:Int)∈gK x T++dl)
 rg:∀z,z∈gK x T++dl->0<=z/\z<((h.R*x.per:Nat):Int)
section
variable {h h':HS}{x x':HT}{V V':WS}{σ σ':GS}{A A':Nat->Nat}{rv rv':Nat->Option (Nat×Nat)}{dl l:List Int}{B M T t:Nat}
theorem tC(e:df x x'):gK x' T=gK x T:=by
 unfold gK;rw[e.2.1,e.2.2.1]
theorem kj(O:Nat->List Int)(t:Nat)(l:List Int)(z:Int):∀n,(t<n->(j9 (bz O t l) n).count z+(O t).count z=(j9 O n).count z+l.count z)/\(n<=t->(j9 (bz O t l) n).count z=(j9 O n).count z)
|0=>⟨λh=>by omega,λ_=>rfl⟩
|n+1=>by
  obtain⟨h1,h2⟩:=kj O t l z n;constructor
  ·intro h;simp only[j9,List.count_append];by_cases e:n=t
   ·subst e;rw[h2 (Nat.le_refl _),show bz O n l n=l by unfold bz;rw[if_pos rfl]];omega
   ·have:=h1 (by omega);rw[show bz O t l n=O n by unfold bz;rw[if_neg e]];omega
  ·intro h;simp only[j9,List.count_append];rw[h2 (by omega),show bz O t l n=O n by unfold bz;rw[if_neg (by omega)]]
theorem tD(Bq:Nat)(C:List Int)(O:Nat->List Int){t n:Nat}(ht:t<n)(c z:Int):(eU Bq C O t c++j9 (eX O t c) n++cQ Bq C O t c).count z=(C++j9 O n).count z+[c].count z:=by
 unfold eU eX cQ;by_cases h3:(O t).length<3
 ·rw[if_pos h3,if_pos h3,if_pos h3];have:=(kj O t (O t++[c]) z n).1 ht;simp only[List.count_append,List.count_nil]at this ⊢;omega
 ·rw[if_neg h3,if_neg h3,if_neg h3];have h1:=(kj O t [] z n).1 ht;have h2:((O t++[c]).take (Bq-C.length)).count z+((O t++[c]).drop (Bq-C.length)).count z=(O t++[c]).count z:=by
   rw[<- List.count_append,List.take_append_drop]
  simp only[List.count_append,List.count_nil]at h1 h2 ⊢;omega
theorem Sim.yl(S:Sim h σ A rv){s k:Nat}(ok:h.Ok s k)(st:nU h h' σ A A' rv rv' t){o u:Nat}(h1:1<=o)(h2:o<=σ.N)(h3:A o<=u)(h4:u<A o+osz σ o):h'.aQ (h'.g.az (u:Int))=h.aQ (h.g.az (u:Int)):=by
 have hu:=S.use o h1 h2 u h3 h4;have hW:=ok.iW;have hR:u / h.W<h.R:=by
  rw[Nat.div_lt_iff_lt_mul (by omega),<- ok.nn];exact hu.1
 obtain⟨d1,d2⟩:=hZ (W:=h.W) (u:=u) (by omega);have er:=ok.reg (a:=(u:Int)) hR (by omega) (by omega);rw[st.g,er];unfold HS.aQ;rw[st.R,Ee];split
 ·exact st.s _ hu.2.1
 ·rfl
theorem vS(g:Geo)(s f:Int)(hw:g.words<=4194304):cE g s f 0=false:=yR hw (by decide) (by decide) (.inl rfl)
theorem gL.step(N:gL h x V σ A dl T)(S:Sim h σ A rv){s k:Nat}(ok:h.Ok s k)(st:nU h h' σ A A' rv rv' t)(e:df x x')(hmu:∀i,i≠t->V'.mu i=V.mu i)(h6:(V.mu t).st≠6)(gk:GOk T B σ)
  (hr:∀o j:Nat,1<=o->o<=σ'.N->j<σ'.np (o:Int)->(o<=σ.N/\j<σ.np (o:Int)/\σ'.ref (o:Int) (j:Int)=σ.ref (o:Int) (j:Int))\/σ'.ref (o:Int) (j:Int)=0 \/
   (o<=σ.N/\j<σ.np (o:Int)/\0<=σ'.ref (o:Int) (j:Int)/\σ'.ref (o:Int) (j:Int)<=(σ.N:Int)/\(cE h'.g (h'.aQ (h'.g.az ((A o+1+j:Nat):Int))) ((A o+1+j:Nat):Int) (bo A (σ'.ref (o:Int) (j:Int)))=true->(V'.mu t).st=6/\(V'.mu t).ad=((A o+1+j:Nat):Int)/\t<T))):gL h' x' V' σ' A' dl T:=by
 have hw:=tC (T:=T) e;have hRp:h'.R*x'.per=h.R*x.per:=by rw[st.R,e.2.2.2.2.1]
 have eC:x'.C=x.C:=e.2.2.2.1;have rA:∀r:Int,0<=r->r<=(σ.N:Int)->bo A' r=bo A r:=λr r0 r1=>by
  unfold bo;rw[st.A r.toNat (by omega)]
 refine⟨λo j h1 h2 hj hn=>?_,by rw[hw];exact N.nd,by rw[hw,hRp,eC];exact N.dw,by rw[hw,hRp];exact N.rg⟩;rcases hr o j h1 h2 hj with⟨k1,k2,k3⟩|k1|⟨k1,k2,k3,k4,k5⟩
 ·rw[st.A o k1]at hn ⊢;rw[k3,rA _ (gk.ref _ _).1 (gk.ref _ _).2,S.yl ok st h1 k1 (by omega) (by unfold osz;omega),st.g]at hn;rcases N.ref o j h1 k1 k2 hn with⟨c,c1,c2,c3⟩|⟨i,i1,i2,i3⟩
  ·exact .inl ⟨c,by rw[st.g];exact c1,by rw[hRp];exact c2,by rw[eC];exact c3⟩
  ·have hit:i≠t:=λe=>h6 (e ▸ i2);exact .inr ⟨i,i1,by rw[hmu i hit];exact i2,by rw[hmu i hit];exact i3⟩
 ·rw[k1,bT,vS _ _ _ (by rw[st.g];exact ok.geo.pP)]at hn;cases hn
 ·rw[st.A o k1]at hn ⊢;rw[rA _ k3 k4]at hn;obtain⟨k6,k7,k8⟩:=k5 hn;exact .inr ⟨t,k8,k6,k7⟩
theorem ym(gk:GOk T B σ){o:Po}{h:HS}{A:Nat->Nat}{b:Bool}{ad:Int}(hN:gn h σ A t o b ad):∀q j:Nat,1<=q->q<=(aN B M T σ t o).N->j<(aN B M T σ t o).np (q:Int) ->
  (q<=σ.N/\j<σ.np (q:Int)/\(aN B M T σ t o).ref (q:Int) (j:Int)=σ.ref (q:Int) (j:Int))\/(aN B M T σ t o).ref (q:Int) (j:Int)=0 \/
  (q<=σ.N/\j<σ.np (q:Int)/\0<=(aN B M T σ t o).ref (q:Int) (j:Int)/\(aN B M T σ t o).ref (q:Int) (j:Int)<=(σ.N:Int) /\
   (cE h.g (h.aQ (h.g.az ((A q+1+j:Nat):Int))) ((A q+1+j:Nat):Int) (bo A ((aN B M T σ t o).ref (q:Int) (j:Int)))=true->b=true/\ad=((A q+1+j:Nat):Int))):=by
 intro q j h1 h2 hj;by_cases k3:o.k=3
 ·have e:aN B M T σ t o=bR σ t o.a o.b o.c:=by unfold aN;rw[if_neg (by omega),if_neg (by omega),if_pos k3]
  rw[e]at h2 hj ⊢;unfold bR at h2 hj ⊢;by_cases eE:bg σ t o.a o.b o.c=0
  ·rw[if_pos eE]at h2 hj ⊢;have h2:q<=σ.N:=h2;have hj:j<σ.np (q:Int):=hj;obtain⟨p,i,e1,e2,e3,e4,e5,e6⟩:=hN k3 eE;rw[e1,e2];by_cases hq:q=p
   ·by_cases hji:j=i
    ·have er:(σ.setRef (p:Int) (i:Int) (aj (σ.st t) o.c)).ref (q:Int) (j:Int)=aj (σ.st t) o.c:=by
      show ai σ.ref (p:Int) (ai (σ.ref (p:Int)) (i:Int) _) (q:Int) (j:Int)=_;rw[hq,aq,hji,aq]
     rw[er];have hm:0<=aj (σ.st t) o.c/\aj (σ.st t) o.c<=(σ.N:Int):=by
      unfold aj;split
      ·rename_i hin
       unfold aH at hin;have hl:o.c.toNat<(σ.st t).length:=by omega
       have:=gk.mem t _ (List.getElem_mem hl);simpa[hl] using this
      ·omega
     refine .inr (.inr ⟨h2,hj,hm.1,hm.2,λhn=>?_⟩);rw[hq,hji]at hn ⊢;exact e6 hn
    ·refine .inl ⟨h2,hj,?_⟩;show ai σ.ref (p:Int) (ai (σ.ref (p:Int)) (i:Int) _) (q:Int) (j:Int)=_;rw[hq,aq,ay _ _ (by omega)]
   ·refine .inl ⟨h2,hj,?_⟩;show ai σ.ref (p:Int) (ai (σ.ref (p:Int)) (i:Int) _) (q:Int) (j:Int)=_;rw[ay _ _ (by omega)]
  ·rw[if_neg eE]at h2 hj ⊢;exact .inl ⟨h2,hj,rfl⟩
 ·have same:(aN B M T σ t o).N=σ.N->(aN B M T σ t o).np=σ.np->(aN B M T σ t o).ref=σ.ref->(q<=σ.N/\j<σ.np (q:Int)/\(aN B M T σ t o).ref (q:Int) (j:Int)=σ.ref (q:Int) (j:Int)):=λe1 e2 e3=>by
   rw[e1]at h2;rw[e2]at hj;rw[e3];exact⟨h2,hj,rfl⟩
  by_cases k1:o.k=1
  ·have e:aN B M T σ t o=bW B M σ t o.a o.b:=by unfold aN;rw[if_pos k1]
   rw[e]at h2 hj ⊢;unfold bW at h2 hj ⊢;by_cases c1:aE M o.a o.b
   ·rw[if_pos c1]at h2 hj ⊢;exact .inl ⟨h2,hj,rfl⟩
   ·rw[if_neg c1]at h2 hj ⊢;by_cases c2:(σ.st t).length<B
    ·rw[if_pos c2]at h2 hj ⊢;have h2:q<=σ.N+1:=h2;have hj:j<ai σ.np ((σ.N:Int)+1) o.a.toNat (q:Int):=hj;show _\/ai σ.ref ((σ.N:Int)+1) (λ_=>0) (q:Int) (j:Int)=0\/_;by_cases eq:q=σ.N+1
     ·refine .inr (.inl ?_);rw[show(q:Int)=(σ.N:Int)+1 by omega,aq]
     ·rw[ay _ _ (by omega)]at hj;refine .inl ⟨by omega,hj,?_⟩;show ai σ.ref ((σ.N:Int)+1) (λ_=>0) (q:Int) (j:Int)=_;rw[ay _ _ (by omega)]
    ·rw[if_neg c2]at h2 hj ⊢;exact .inl ⟨h2,hj,rfl⟩
  ·refine .inl ?_;by_cases k2:o.k=2
   ·have e:aN B M T σ t o=dK B σ t o.a o.b:=by unfold aN;rw[if_neg k1,if_pos k2]
    by_cases c:aD σ t o.a=0/\aA (σ.np (aj (σ.st t) o.a)) o.b
    ·refine same ?_ ?_ ?_ <;> (rw[e];unfold dK;rw[if_pos c];try rfl)
    ·refine same ?_ ?_ ?_ <;> (rw[e];unfold dK;rw[if_neg c])
   by_cases k5:o.k=5
   ·have e:aN B M T σ t o=ch σ t o.a o.b o.v:=by unfold aN;rw[if_neg k1,if_neg k2,if_neg k3,if_pos k5]
    by_cases c:bE σ t o.a o.b=0
    ·refine same ?_ ?_ ?_ <;> (rw[e];unfold ch;rw[if_pos c];try rfl)
    ·refine same ?_ ?_ ?_ <;> (rw[e];unfold ch;rw[if_neg c])
   by_cases k6:o.k=6
   ·refine same ?_ ?_ ?_ <;> (unfold aN;rw[if_neg k1,if_neg k2,if_neg k3,if_neg k5,if_pos k6];try rfl)
   by_cases k7:o.k=7
   ·refine same ?_ ?_ ?_ <;> (unfold aN;rw[if_neg k1,if_neg k2,if_neg k3,if_neg k5,if_neg k6,if_pos k7];try rfl)
   by_cases k8:o.k=8
   ·have e:aN B M T σ t o=jj B σ t o.a:=by unfold aN;rw[if_neg k1,if_neg k2,if_neg k3,if_neg k5,if_neg k6,if_neg k7,if_pos k8]
    by_cases c:aH (σ.st t) o.a
    ·refine same ?_ ?_ ?_ <;> (rw[e];unfold jj;rw[if_pos c];try rfl)
    ·refine same ?_ ?_ ?_ <;> (rw[e];unfold jj;rw[if_neg c])
   by_cases k13:o.k=13
   ·have e:aN B M T σ t o=de B T σ t o.a o.b:=by unfold aN;rw[if_neg k1,if_neg k2,if_neg k3,if_neg k5,if_neg k6,if_neg k7,if_neg k8,if_pos k13]
    by_cases c:aH (σ.st t) o.a/\aA T o.b
    ·refine same ?_ ?_ ?_ <;> (rw[e];unfold de;rw[if_pos c];try rfl)
    ·refine same ?_ ?_ ?_ <;> (rw[e];unfold de;rw[if_neg c])
   ·refine same ?_ ?_ ?_ <;> (unfold aN;rw[if_neg k1,if_neg k2,if_neg k3,if_neg k5,if_neg k6,if_neg k7,if_neg k8,if_neg k13])
theorem gL.note(N:gL h x V σ A dl T){I c:Nat}(had:(V.mu t).ad=(I:Int))(hc:h.g.bV (I:Int)=(c:Int))(hcr:c<h.R*x.per)(ht:t<T)(hmu:∀i,i≠t->V'.mu i=V.mu i)(hx:AG x x' h t c l):gL h x' V' σ A (dl++l) T:=by
 obtain⟨wc,er,C',hT,hx⟩:=hx;obtain⟨t1,t2,t3,t4,t5⟩:0<=(c:Int)/\(c:Int)<((h.R*x.per:Nat):Int)/\er=0/\wc=(bC x.C (c:Int).toNat !=true)/\∀j:Nat,bC C' j=if j=(c:Int).toNat then true else bC x.C j:=by
  rcases hT with hT|⟨hT,_⟩
  ·exact hT
  ·exact absurd ⟨by omega,by omega⟩ hT
 rw[Ee]at t4 t5;have up:∀j,bC x.C j=true->bC C' j=true:=λj hj=>by rw[t5];split <;> simp[hj]
 have refs:∀x2:HT,x2.C=C'->x2.per=x.per->∀o j:Nat,1<=o->o<=σ.N->j<σ.np (o:Int)->cE h.g (h.aQ (h.g.az ((A o+1+j:Nat):Int))) ((A o+1+j:Nat):Int) (bo A (σ.ref (o:Int) (j:Int)))=true ->
   (∃c:Nat,h.g.bV ((A o+1+j:Nat):Int)=(c:Int)/\c<h.R*x2.per/\bC x2.C c=true)\/∃i,i<T/\(V'.mu i).st=6/\(V'.mu i).ad=((A o+1+j:Nat):Int):=λx2 e1 e2 o j h1 h2 hj hn=>by
  rw[e1,e2];rcases N.ref o j h1 h2 hj hn with⟨c,c1,c2,c3⟩|⟨i,i1,i2,i3⟩
  ·exact .inl ⟨c,c1,c2,up c c3⟩
  ·by_cases hit:i=t
   ·subst hit;rw[had]at i3;rw[<- i3];exact .inl ⟨c,hc,hcr,by rw[t5,if_pos rfl]⟩
   ·exact .inr ⟨i,i1,by rw[hmu i hit];exact i2,by rw[hmu i hit];exact i3⟩
 rcases hx with⟨rfl,rfl,rfl⟩|⟨rfl,rfl,rfl⟩
 ·have hb:bC x.C c=true:=by
   cases hw:bC x.C c with
  |true=>rfl
  |false=>rw[hw]at t4;exact absurd t4 (by decide)
  have hC:∀j,bC C' j=bC x.C j:=λj=>by
   rw[t5];split
   ·rename_i e;rw[e,hb]
   ·rfl
  rw[List.append_nil];exact⟨refs _ rfl rfl,N.nd,λj hj=>by show bC C' j=true↔_;rw[hC];exact N.dw j hj,N.rg⟩
 ·have hb:bC x.C c=false:=by
   cases hw:bC x.C c with
  |false=>rfl
  |true=>rw[hw]at t4;exact absurd t4 (by decide)
  have hnew:(c:Int)∉gK x T++dl:=λhm=>by
   have:=(N.dw c hcr).2 hm;rw[hb]at this;cases this
  have cnt:∀z:Int,(gK { x with C:=C',qc:=eU x.qm x.qc x.ql t (c:Int),ql:=eX x.ql t (c:Int) } T++(dl++cQ x.qm x.qc x.ql t (c:Int))).count z=(gK x T++dl).count z+[(c:Int)].count z:=λz=>by
   have:=tD x.qm x.qc x.ql ht (c:Int) z;unfold gK;simp only[List.count_append]at this ⊢;omega
  have mem:∀z:Int,z∈gK { x with C:=C',qc:=eU x.qm x.qc x.ql t (c:Int),ql:=eX x.ql t (c:Int) } T++(dl++cQ x.qm x.qc x.ql t (c:Int))↔z∈gK x T++dl\/z=(c:Int):=λz=>by
   rw[<- List.count_pos_iff,cnt,<- List.count_pos_iff];have hs:0<[(c:Int)].count z↔z=(c:Int):=by rw[List.count_pos_iff];simp
   omega
  refine⟨refs _ rfl rfl,λz=>?_,λj hj=>?_,λz hz=>?_⟩
  ·rw[cnt];have h1:=N.nd z;by_cases e:z=(c:Int)
   ·subst e;rw[List.count_eq_zero_of_not_mem hnew];simp
   ·have:[(c:Int)].count z=0:=List.count_eq_zero_of_not_mem (by simpa using e);omega
  ·show bC C' j=true↔_;rw[mem,t5];by_cases e:j=c
   ·subst e;simp
   ·rw[if_neg e];have:=N.dw j hj;rw[this];constructor
    ·exact .inl
    ·rintro(k|k)
     ·exact k
     ·exact absurd (by omega) e
  ·rcases(mem z).1 hz with k|rfl
   ·exact N.rg z k
   ·exact⟨t1,t2⟩
end
open Go.RowKit Go.Gl
def Cx(w:World)(tg:TG)(Q:World->TG->Prop)(v:Value)(e:Ending)(w':World):Prop:=e=.returned v/\∃tg',Q w' tg'/\GFr w tg w' tg'
end Go.Proofs.YtimkofiempcfdaaGreatDoor
