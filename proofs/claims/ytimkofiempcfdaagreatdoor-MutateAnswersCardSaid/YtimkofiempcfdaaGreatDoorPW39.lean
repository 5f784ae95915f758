/- Several texts joined (pack.py): Ul Uo Ur Zq. -/
import Derived.Test.YtimkofiempcfdaaGreatDoorPW23
import Derived.WalkKit
import Derived.BigQuiet
import Derived.Deep.CutRange
import Derived.Deep.RegionHeld3
import Derived.Test.YtimkofiempcfdaaGreatDoorPW30
import Derived.Test.YtimkofiempcfdaaGreatDoorPW21
import Derived.Test.YtimkofiempcfdaaGreatDoorPW24
import Derived.Test.YtimkofiempcfdaaGreatDoorPW18
import Derived.Test.YtimkofiempcfdaaGreatDoorPW38
import Derived.Test.YtimkofiempcfdaaGreatDoorPW32
import Derived.Test.YtimkofiempcfdaaGreatDoorPW31
import Derived.Test.YtimkofiempcfdaaGreatDoorPW37
set_option linter.unusedVariables false
set_option linter.unusedSimpArgs false
set_option maxHeartbeats 3200000
set_option maxRecDepth 100000
open List renaming mem_cons_of_mem->D3,mem_cons_self->D4,mem_cons->D5,mem_append->Ec
namespace Go.Proofs.YtimkofiempcfdaaGreatDoor
open Go.RowKit Go.Gl HS
section
variable {W w w':World}{L:HL}{X:HX}{h h2:HS}{x x2:HT}{s k:Nat}{E:aK}{D:Nat->Prop}{Q:World->Prop}{mb t sb:Nat}{m:MU}
theorem pC(hS:ah D Q)(hT:Tab W)(H:HM W w L X h x s k ((mb,122,muV L.hb t sb m)::E) D Q)(hne:∀q,q∈E->q.1≠mb)(ht:t<h.T)(hB:L.B<=64)(hl:(h.st t).length<L.B)
  {I S P:Nat} (ha:m.a=(P:Int)) (hb:m.b=((S-1-P:Nat):Int)) (had:m.ad=(I:Int)) (hP:P<S) (hz:S<=1048576) (hn:I+S<=h.n) (hbg:h.g.jx (S:Int)=false) (hd:(m.dn:Int)+1<=9223372036854775807) :
  Calls Tryz.prog 61 #[.pointer (some ⟨mb,0,none⟩)] w λe w'=>e=.returned (bk (t:Int) (m.dn:Int) ⟨0,0,false⟩ true false false (.slice none 0 0)) /\
   HM W w' L X { h with f:=upd (aC h.f I S (λ_=>0)) I (aX S P),st:=bj h.st t (h.st t++[(I:Int)+1]) } x s k ((mb,122,muV L.hb t sb (MU.zero (m.dn+1)))::E) D Q:=by
 have hmb:=H.blk (D4 ..);have hlt:=hmb.lt;have hnm:=H.ok.dF;obtain⟨c0,c1,c2,c3,c4,c5,c6,c7,c8,c9,c10⟩:=aL hmb;rw[ha]at c5;rw[hb]at c6;rw[had]at c10;have e1:IntKind.i64.wrap (1+(P:Int))=1+(P:Int):=IntWalk.i64_in _ ⟨by omega,by omega⟩;have e2:IntKind.i64.wrap (1+(P:Int)+((S-1-P:Nat):Int))=(S:Int):=by rw[IntWalk.i64_in _ ⟨by omega,by omega⟩];omega
 clear hmb ha hb had;have hltE:∀q,q∈E->q.1<w.heap.size:=λq hq=>(H.blk (b:=q.1) (t:=q.2.1) (cs:=q.2.2) (D3 _ hq)).lt;have HX2:Hid (HM W (((w.alloc (.cells #[.int .i64 0,.int .i64 0,.int .i64 0,.int .u64 0,.bool false,.bool false,.bool false,.bool false,.slice none 0 0] 81)).alloc (.cells #[.int .i64 m.k,.int .i64 (P:Int),.int .i64 ((S-1-P:Nat):Int),.int .i64 m.c,.int .u64 m.v] 66)).drew) L X h x s k ((w.heap.size+1,66,#[.int .i64 m.k,.int .i64 (P:Int),.int .i64 ((S-1-P:Nat):Int),.int .i64 m.c,.int .u64 m.v])::(w.heap.size,81,#[.int .i64 0,.int .i64 0,.int .i64 0,.int .u64 0,.bool false,.bool false,.bool false,.bool false,.slice none 0 0])::(mb,122,muV L.hb t sb m)::E) D Q):=by
  have q:=((H.alloc hS 81 #[.int .i64 0,.int .i64 0,.int .i64 0,.int .u64 0,.bool false,.bool false,.bool false,.bool false,.slice none 0 0]).alloc hS 66 #[.int .i64 m.k,.int .i64 (P:Int),.int .i64 ((S-1-P:Nat):Int),.int .i64 m.c,.int .u64 m.v]).fr0 hS (Fr.refl _ _).drew;rw[show(w.alloc (.cells #[.int .i64 0,.int .i64 0,.int .i64 0,.int .u64 0,.bool false,.bool false,.bool false,.bool false,.slice none 0 0] 81)).heap.size=w.heap.size+1 by simp]at q;exact q
 have HMk:Hid (∀w' E',HM W w' L X h x s k E' D Q->Calls Tryz.prog 108 #[.pointer (some ⟨L.ab,0,none⟩),.int .i64 (I:Int),.int .i64 (S:Int),.int .i64 (P:Int)] w' λe w''=>e=.returned (.int .i64 0)/\HM W w'' L X { h with f:=upd (aC h.f I S (λ_=>0)) I (aX S P) } x s k E' D Q):=λw' E' q=>q.make hS ⟨by omega,hz⟩ hP hn;have HBg:Hid (∀w' E',HM W w' L X { h with f:=upd (aC h.f I S (λ_=>0)) I (aX S P) } x s k E' D Q->Calls Tryz.prog 109 #[.agg #[.int .i64 h.g.words,.int .i64 h.g.rw,.int .i64 h.g.cw,.int .i64 h.g.regions,.int .i64 h.g.aG,.int .i64 h.g.max],.int .i64 (S:Int)] w' λe w''=>e=.returned (.bool false)/\HM W w'' L X { h with f:=upd (aC h.f I S (λ_=>0)) I (aX S P) } x s k E' D Q):=λw' E' q=>by
  refine(gU h.g (S:Int) w' (by have:=q.dim.rw;simp only at this;rw[this];omega)).mono ?_;rintro e w'' ⟨rfl,hf⟩;rw[hbg];exact⟨rfl,q.fr0 hS hf⟩
 have HSk:Hid (∀w' E',(mb,122,muV L.hb t sb m)∈E'->HM W w' L X { h with f:=upd (aC h.f I S (λ_=>0)) I (aX S P) } x s k E' D Q->Calls Tryz.prog 106 #[.pointer (some ⟨mb,0,none⟩)] w' λe w''=>e=.returned (.pointer (some ⟨L.S t,0,none⟩))/\HM W w'' L X { h with f:=upd (aC h.f I S (λ_=>0)) I (aX S P) } x s k E' D Q):=λw' E' hm q=>(bX (q.blk hm) q.hr ht).mono (by rintro e w'' ⟨rfl,hf⟩;exact⟨rfl,q.fr0 hS hf⟩);have HRe:=aa (λw'=>fy I (by omega) w');have HPu:Hid (∀w' E',HM W w' L X { h with f:=upd (aC h.f I S (λ_=>0)) I (aX S P) } x s k E' D Q->Calls Tryz.prog 111 #[.pointer (some ⟨L.S t,0,none⟩),.int .u64 ((I:Int)+1)] w' λe w''=>e=.returned (.int .i64 0)/\HM W w'' L X { h with f:=upd (aC h.f I S (λ_=>0)) I (aX S P),st:=bj h.st t (h.st t++[(I:Int)+1]) } x s k E' D Q):=λw' E' q=>q.push hS (i:=t) ht hB hl (r:=(I:Int)+1) ⟨by omega,by omega⟩;have HAn:Hid (∀w' ob rb c1 c2,ob≠mb->rb≠mb->HM W w' L X { h with f:=upd (aC h.f I S (λ_=>0)) I (aX S P),st:=bj h.st t (h.st t++[(I:Int)+1]) } x s k ((ob,66,c1)::(rb,81,c2)::(mb,122,muV L.hb t sb m)::E) D Q->Calls Tryz.prog 65 #[.pointer (some ⟨mb,0,none⟩),fG 0 0 ⟨0,0,false⟩] w' λe w''=>e=.returned (bk (t:Int) (m.dn:Int) ⟨0,0,false⟩ true false false (.slice none 0 0))/\HM W w'' L X { h with f:=upd (aC h.f I S (λ_=>0)) I (aX S P),st:=bj h.st t (h.st t++[(I:Int)+1]) } x s k ((rb,81,c2)::(mb,122,muV L.hb t sb (MU.zero (m.dn+1)))::E) D Q):=λw' ob rb c1 c2 h1 h2 q=>by
  have q2:HM W w' L X { h with f:=upd (aC h.f I S (λ_=>0)) I (aX S P),st:=bj h.st t (h.st t++[(I:Int)+1]) } x s k ((mb,122,muV L.hb t sb m)::(rb,81,c2)::E) D Q:=q.sub (λy hy=>by simp only[D5]at hy ⊢;rcases hy with e|e|e <;> simp[e]);refine(q2.mut (P:=λe=>e=.returned (bk (t:Int) (m.dn:Int) ⟨0,0,false⟩ true false false (.slice none 0 0))) hS hT (m':=MU.zero (m.dn+1)) (λy hy=>?_) (λhb=>eB hb hd 0 0 ⟨0,0,false⟩)).mono ?_
  ·rcases D5.1 hy with rfl|hy
   ·exact h2
   ·exact hne y hy
  ·rintro e w'' ⟨he,q3⟩;exact⟨he,q3.sub (λy hy=>by simp only[D5]at hy ⊢;rcases hy with e|e|e <;> simp[e])⟩
 have HEnd:Hid (∀w' rb a0 a1 a2 a3 a4 a5 a6 a7 a8 v0 v1 v2 v3 v4 v5 v6 v7 v8,rb≠mb->(∀q,q∈E->q.1≠rb)->HM W w' L X { h with f:=upd (aC h.f I S (λ_=>0)) I (aX S P),st:=bj h.st t (h.st t++[(I:Int)+1]) } x s k ((rb,81,#[a0,a1,a2,a3,a4,a5,a6,a7,a8])::(mb,122,muV L.hb t sb (MU.zero (m.dn+1)))::E) D Q->HM W (cD w' rb v0 v1 v2 v3 v4 v5 v6 v7 v8) L X { h with f:=upd (aC h.f I S (λ_=>0)) I (aX S P),st:=bj h.st t (h.st t++[(I:Int)+1]) } x s k ((mb,122,muV L.hb t sb (MU.zero (m.dn+1)))::E) D Q):=λw' rb a0 a1 a2 a3 a4 a5 a6 a7 a8 v0 v1 v2 v3 v4 v5 v6 v7 v8 hr hq q=>
  q.cX hS hT (λy hy=>by
   rcases D5.1 hy with rfl|hy
   ·exact λe=>hr e.symm
   ·exact hq y hy) v0 v1 v2 v3 v4 v5 v6 v7 v8
 have HRB:Hid (w.heap.size+1≠mb/\w.heap.size≠mb/\∀q,q∈E->q.1≠w.heap.size):=⟨by omega,by omega,λq hq=>by have:=hltE q hq;omega⟩;have HCe:Hid (∀w' E',HM W w' L X { h with f:=upd (aC h.f I S (λ_=>0)) I (aX S P) } x s k E' D Q->fx w' L X h.g h.T):=λw' E' q=>q.hc;have HK0:Hid (∀w',HM W w' L X h x s k ((w.heap.size+1,66,#[.int .i64 m.k,.int .i64 (P:Int),.int .i64 ((S-1-P:Nat):Int),.int .i64 m.c,.int .u64 m.v])::(w.heap.size,81,#[.int .i64 0,.int .i64 0,.int .i64 0,.int .u64 0,.bool false,.bool false,.bool false,.bool false,.slice none 0 0])::(mb,122,muV L.hb t sb m)::E) D Q->w'.cell? ⟨mb,0,none⟩=some (.pointer (some ⟨L.hb,0,none⟩))/\w'.cell? ⟨L.hb,20,none⟩=some (.pointer (some ⟨L.ab,0,none⟩))/\w'.cell? ⟨w.heap.size+1,1,none⟩=some (.int .i64 (P:Int))):=λw' q=>⟨(q.blk (D3 _ (D3 _ (D4 ..)))).cell 0,q.hc.c20,(q.blk (D4 ..)).cell 1⟩;have HK1:Hid (∀w',HM W w' L X { h with f:=upd (aC h.f I S (λ_=>0)) I (aX S P) } x s k ((w.heap.size+1,66,#[.int .i64 m.k,.int .i64 (P:Int),.int .i64 ((S-1-P:Nat):Int),.int .i64 m.c,.int .u64 m.v])::(w.heap.size,81,#[.int .i64 0,.int .i64 0,.int .i64 0,.int .u64 0,.bool false,.bool false,.bool false,.bool false,.slice none 0 0])::(mb,122,muV L.hb t sb m)::E) D Q->w'.cell? ⟨mb,0,none⟩=some (.pointer (some ⟨L.hb,0,none⟩))/\w'.cell? ⟨L.hb,20,none⟩=some (.pointer (some ⟨L.ab,0,none⟩))/\w'.cell? ⟨w.heap.size+1,1,none⟩=some (.int .i64 (P:Int))):=λw' q=>⟨(q.blk (D3 _ (D3 _ (D4 ..)))).cell 0,q.hc.c20,(q.blk (D4 ..)).cell 1⟩;have HMem:Hid ((mb,122,muV L.hb t sb m)∈((w.heap.size+1,66,#[.int .i64 m.k,.int .i64 (P:Int),.int .i64 ((S-1-P:Nat):Int),.int .i64 m.c,.int .u64 m.v])::(w.heap.size,81,#[.int .i64 0,.int .i64 0,.int .i64 0,.int .u64 0,.bool false,.bool false,.bool false,.bool false,.slice none 0 0])::(mb,122,muV L.hb t sb m)::E)):=D3 _ (D3 _ (D4 ..));unfold bk at HAn ⊢;unfold fG at HAn;simp only at HAn;clear hltE H hz hl hB hd hbg hn hP ht hne hnm;go_enter Tryz.func61,Tryz.ntmps61
 go_wp2_with fail
 go_region
 go_wp2_with fail
 generalize ((w.alloc (.cells #[.int .i64 0,.int .i64 0,.int .i64 0,.int .u64 0,.bool false,.bool false,.bool false,.bool false,.slice none 0 0] 81)).alloc (.cells #[.int .i64 m.k,.int .i64 (P:Int),.int .i64 ((S-1-P:Nat):Int),.int .i64 m.c,.int .u64 m.v] 66)).drew=w1 at *;have HAd:=aa (HX2.out.fr0 hS (Fr.refl _ _).drew);have K0:=HK0.out _ HAd.out;go_region_held3 (λw'=>w'.cell? ⟨mb,0,none⟩=some (.pointer (some ⟨L.hb,0,none⟩))/\w'.cell? ⟨L.hb,20,none⟩=some (.pointer (some ⟨L.ab,0,none⟩))/\w'.cell? ⟨w.heap.size+1,1,none⟩=some (.int .i64 (P:Int)))
  (first|with_reducible exact K0|go_keep)
  (first|(go_at_call 108;refine(HMk.out _ _ HAd.out).mono ?_;rintro e w2 ⟨rfl,hA⟩;have HA2:=aa hA;have K0:=HK1.out _ hA;clear hA))
 all_goals
  obtain⟨c14,c15,c16,c17,c18,c19,-,-,-,-,-,-,-,-,-,NH⟩:=HCe.out _ _ HA2.out;have k0:=K0.1;have HB2:=aa (HBg.out _ _ HA2.out);clear K0;go_wp2_with fail
  refine HB2.out.mono ?_;rintro e w3 ⟨rfl,hA⟩;have HK3:=aa (HSk.out _ _ HMem.out hA);clear hA c14 c15 c16 c17 c18 c19 NH k0 HB2;go_wp2_with fail
  refine HK3.out.mono ?_;rintro e w4 ⟨rfl,hA⟩;have HA4:=aa hA;clear hA HK3;go_wp2_with fail
  refine(HRe.out _).mono ?_;rintro e w4' ⟨rfl,rfl⟩;have HP4:=aa (HPu.out _ _ HA4.out);go_wp2_with fail
  refine HP4.out.mono ?_;rintro e w5 ⟨rfl,hA⟩;have HN5:=aa (HAn.out _ _ _ _ _ HRB.out.1 HRB.out.2.1 hA);clear hA HP4;go_wp2_with fail
  refine HN5.out.mono ?_;rintro e w6 ⟨rfl,hA⟩;have HA6:=aa hA;have hrb:=hA.blk (D4 ..);have y0:=hrb.cell 0;have y1:=hrb.cell 1;have y2:=hrb.cell 2;have y3:=hrb.cell 3;have y4:=hrb.cell 4;have y5:=hrb.cell 5;have y6:=hrb.cell 6;have y7:=hrb.cell 7;have y8:=hrb.cell 8;have z0:=hrb.frozen 0;have z1:=hrb.frozen 1;have z2:=hrb.frozen 2;have z3:=hrb.frozen 3;have z4:=hrb.frozen 4;have z5:=hrb.frozen 5;have z6:=hrb.frozen 6;have z7:=hrb.frozen 7;have z8:=hrb.frozen 8;have NR:=hrb.lt;clear hA hrb HN5;go_wp2_with fail
  refine bodyPost_ret (v:=.agg #[.int .i64 (t:Int),.int .i64 (m.dn:Int),.int .i64 0,.int .u64 0,.bool false,.bool true,.bool false,.bool false,.slice none 0 0]) (by simp[results,Tryz.results61,go_sem, *]) rfl ⟨rfl,?_⟩;exact HEnd.out _ _ _ _ _ _ _ _ _ _ _ _ _ _ _ _ _ _ _ _ HRB.out.2.1 HRB.out.2.2 HA6.out
end
def iH:Cfg:=⟨6,4,3,1,4,0,0,2,0,0,0,0,0,0⟩
theorem Cz:ig iH=true:=by decide +kernel
theorem Dn:zI iH 64 4 8 8 1 4 0 6 3:=
 ⟨⟨by decide,by decide,by decide,by decide,by decide +kernel,by decide +kernel,by decide +kernel,by decide +kernel,by decide +kernel,by decide +kernel,by decide +kernel,by decide +kernel⟩,
  ⟨by decide +kernel,by decide +kernel,by decide +kernel,by decide +kernel,by decide +kernel,by decide,by decide,by decide,by decide,by decide,by decide,by decide⟩,rfl,rfl,rfl,by decide,by decide,by decide,by decide,by decide⟩
theorem rj(w:World):Calls Tryz.prog 23 #[] w λe w'=>e=.returned iH.val/\Fr [] w w':=by
 go_enter Tryz.func23,Tryz.ntmps23
 go_wp2_with fail
 refine bodyPost_ret (v:=iH.val) (by simp[results,Tryz.results23,go_sem, *];rfl) rfl ⟨rfl,(Fr.refl _ _).alloc _⟩
section
variable {W w w':World}{L:HL}{X:HX}{h:HS}{x:HT}{s k:Nat}{E:aK}{D:Nat->Prop}{Q:World->Prop}
end
theorem HM.of0{W w:World}{L:HL}{X:HX}{own:Nat->Nat}{h:HS}{x:HT}{s k:Nat}(hH:cK W w L X own h x s k):HM W w L X h x s k [] (λ_=>False) (λ_=>True):=
 ⟨own,hH,λq hq=>(by cases hq),λb hb=>hb.elim,trivial⟩
def h15:HS:=HSn iH.geo 64 4 256 1
noncomputable def tF:HS:={ ek (bB h15 0) 0 0 with bx:=ak (ek (bB h15 0) 0 0).bx 0 ((((0*h15.W:Nat)):Int)+(1+1+1)) }
noncomputable def CA:HS:={ tF with f:=upd (aC tF.f 0 3 (λ_=>0)) 0 (aX 3 1),st:=bj tF.st 0 (tF.st 0++[((0:Nat):Int)+1]) }
theorem Ad{W w:World}{L:HL}{X:HX}{E:aK}{mb sb:Nat}(hT:Tab W)(hB:L.B=4)(hc:L.cfg=iH)(H:HM W w L X h15 (HTn 8 8 4 0 256) 6 3 ((mb,122,muV L.hb 0 sb ⟨0,1,1,1,0,0,1,0⟩)::E) (λ_=>False) (λ_=>True))(hne:∀q,q∈E->q.1≠mb) :
  Calls Tryz.prog 26 #[.pointer (some ⟨mb,0,none⟩)] w λe w'=>e=.returned (.agg #[.int .i64 0,.int .i64 0,.int .i64 0,.int .u64 0,.bool false,.bool false,.bool true,.bool false,.slice none 0 0]) /\
   HM W w' L X tF (HTn 8 8 4 0 256) 6 3 ((mb,122,muV L.hb 0 sb ⟨0,1,1,1,0,0,5,((0*h15.W:Nat):Int)⟩)::E) (λ_=>False) (λ_=>True):=by
 refine dD ah.none hT H hne rfl (λw1 rb1 c1 n1 n2 H1=>?_);have hne1:∀q,q∈((rb1,81,c1)::E:aK)->q.1≠mb:=λq hq=>by
  rcases D5.1 hq with rfl|hq
  ·exact n1
  ·exact hne q hq
 refine gj ah.none hT H1 hne1 rfl (λw2 rb2 c2 n3 n4 H2=>?_);have hne2:∀q,q∈((rb2,81,c2)::(rb1,81,c1)::E:aK)->q.1≠mb:=λq hq=>by
  rcases D5.1 hq with rfl|hq
  ·exact n3
  ·exact hne1 q hq
 exact lT (M:=192) ah.none hT H2 hne2 (by decide) (by rw[hB];decide) (by rw[hB];decide) (by decide +kernel) (by decide) (by decide) ⟨by decide,by decide⟩ (λw' E' hm q=>
  kx ah.none q hm (by decide) (λi hi hb=>absurd hb (by show ¬ (0:Int)<0;decide)) (by decide +kernel) (by decide) (by decide) (by decide) (by rw[hc];decide +kernel) ⟨by decide,rfl,λj hj=>absurd hj (by omega)⟩)
theorem Ae{W w:World}{L:HL}{X:HX}{E:aK}{mb sb:Nat}(hT:Tab W)(hB:L.B=4)(hc:L.cfg=iH)(H:HM W w L X tF (HTn 8 8 4 0 256) 6 3 ((mb,122,muV L.hb 0 sb ⟨0,1,1,1,0,0,5,((0*h15.W:Nat):Int)⟩)::E) (λ_=>False) (λ_=>True))(hne:∀q,q∈E->q.1≠mb) :
  Calls Tryz.prog 26 #[.pointer (some ⟨mb,0,none⟩)] w λe w'=>e=.returned (.agg #[.int .i64 0,.int .i64 0,.int .i64 0,.int .u64 0,.bool false,.bool true,.bool false,.bool false,.slice none 0 0]) /\
   HM W w' L X CA (HTn 8 8 4 0 256) 6 3 ((mb,122,muV L.hb 0 sb (MU.zero 1))::E) (λ_=>False) (λ_=>True):=by
 refine ia ah.none hT H hne rfl (λw1 rb1 c1 n1 n2 H1=>?_);have hne1:∀q,q∈((rb1,81,c1)::E:aK)->q.1≠mb:=λq hq=>by
  rcases D5.1 hq with rfl|hq
  ·exact n1
  ·exact hne q hq
 exact pC (I:=0) (S:=3) (P:=1) ah.none hT H1 hne1 (by decide) (by rw[hB];decide) (by rw[hB];decide) rfl rfl rfl (by decide) (by decide) (by decide) (by decide +kernel) (by decide)
theorem rl(w:World)(tab:Tab w):Calls Tryz.prog 7 #[] w λe w'=>e=.returned (.bool true)/\Fr [] w w':=by
 have HN:Hid (∀w1,Tab w1->Calls Tryz.prog 22 #[iH.val] w1 (kv w1 iH iH.geo 64 4 256 1 8 8 0 4 6 3)):=λw1 hT=>lH Cz Dn w1 hT;have HT:=aa tab;clear tab;have hmk:∀w',(Instr.makeSlice 56 (.int .i64 1) (.int .i64 1)).run Tryz.prog w'=.ok (.slice (some ⟨w'.heap.size,0,none⟩) 1 1) (w'.alloc (.cells #[.slice none 0 0] 62)):=λw'=>(iU (n:=1) Tryz.underlying56 Tryz.lY rfl (by decide) (by decide) w');go_enter Tryz.func7,Tryz.ntmps7
 go_wp2_with fail
 refine(rj _).mono ?_;rintro e w1 ⟨rfl,hf⟩;have HF1:=aa hf;clear hf;have HN1:=aa (HN.out w1 (HT.out.fr HF1.out (by simp)));clear HN;go_wp2_with fail
 refine HN1.out.mono ?_;intro e w2 hP;obtain⟨L,X,own,rfl,hH,hB,hcf,-⟩:=hP.at HF1.out;have hM:HM w w2 L X h15 (HTn 8 8 4 0 256) 6 3 [] (λ_=>False) (λ_=>True):=HM.of0 hH;have HB:Hid (L.B=4/\L.cfg=iH):=⟨hB,hcf⟩;have hM2:=(hM.alloc ah.none 62 #[.slice none 0 0]).alloc ah.none 58 #[.bool false,.slice (some ⟨w2.heap.size,0,none⟩) 1 1];have HM2:=aa hM2;have c27:((w2.alloc (.cells #[.slice none 0 0] 62)).alloc (.cells #[.bool false,.slice (some ⟨w2.heap.size,0,none⟩) 1 1] 58)).cell? ⟨L.hb,27,none⟩=some (.slice L.rA 1 L.rc):=hM2.hr.cR;have cs1:((w2.alloc (.cells #[.slice none 0 0] 62)).alloc (.cells #[.bool false,.slice (some ⟨w2.heap.size,0,none⟩) 1 1] 58)).cell? ⟨w2.heap.size+1,1,none⟩=some (.slice (some ⟨w2.heap.size,0,none⟩) 1 1):=by
  have:=(hM2.blk (D4 ..)).cell 1;rw[show(w2.alloc (.cells #[.slice none 0 0] 62)).heap.size=w2.heap.size+1 by simp]at this;exact this
 have HNw:=aa (qZ c27 cs1 (t:=0) (by decide) (by decide));clear hP hH hB hcf hM hM2 HN1 c27 cs1;go_wp2_with fail
 refine HNw.out.mono ?_;rintro e w3 ⟨mb,rfl,hl,hb,hf⟩;obtain⟨E,sb,hM3,hne,hsb⟩:∃(E:aK) (sb':Nat),HM w w3 L X h15 (HTn 8 8 4 0 256) 6 3 ((mb,122,muV L.hb 0 sb' (MU.zero 0))::E) (λ_=>False) (λ_=>True)/\(∀q,q∈E->q.1≠mb)/\sb'=w2.heap.size+1:=
  ⟨_,_,HM2.out.new ah.none hf hb hl,λq hq=>by have:=(HM2.out.blk (b:=q.1) (t:=q.2.1) (cs:=q.2.2) hq).lt;omega,rfl⟩
 have HI:=aa (dY (hM3.blk (D4 ..)));rw[show((MU.zero 0).st==0)=true by rfl]at HI;have HSt:=aa (hM3.mut (P:=λe=>e=.returned (.int .i64 0)) ah.none HT.out (m':=⟨0,1,1,1,0,0,1,0⟩) hne (λhb=>lO hb rfl ⟨1,1,1,0,0⟩));unfold opV at HSt;have HNE:=aa hne;clear hM3 hne hf hb hl HM2 HNw hsb;go_wp2_with (first|(go_at_call 19;refine HI.out.mono ?_;rintro e w' ⟨rfl,rfl⟩))
 refine HSt.out.mono ?_;rintro e w4 ⟨rfl,hM4⟩;have HS1:=aa (Ad HT.out HB.out.1 HB.out.2 hM4 HNE.out);clear hM4 HSt HI;go_wp2_with fail
 refine HS1.out.mono ?_;rintro e w5 ⟨rfl,hM5⟩;have hM6:=hM5.alloc ah.none 81 #[.int .i64 0,.int .i64 0,.int .i64 0,.int .u64 0,.bool false,.bool false,.bool true,.bool false,.slice none 0 0];obtain⟨E2,hE2⟩:∃E2:aK,E2=(w5.heap.size,81,#[.int .i64 0,.int .i64 0,.int .i64 0,.int .u64 0,.bool false,.bool false,.bool true,.bool false,.slice none 0 0])::E:=⟨_,rfl⟩;have hlm:=(hM5.blk (D4 ..)).lt;have HNE2:Hid (∀q,q∈E2->q.1≠mb):=λq hq=>by
  rw[hE2]at hq;rcases D5.1 hq with rfl|hq
  ·show w5.heap.size≠mb;omega
  ·exact HNE.out q hq
 have hM7:HM w _ L X tF (HTn 8 8 4 0 256) 6 3 ((mb,122,muV L.hb 0 sb ⟨0,1,1,1,0,0,5,((0*h15.W:Nat):Int)⟩)::E2) (λ_=>False) (λ_=>True):=hM6.sub (λy hy=>by rw[hE2]at hy;simp only[D5]at hy ⊢;rcases hy with e|e|e <;> simp[e]);have HS2:=aa (Ae HT.out HB.out.1 HB.out.2 hM7 HNE2.out);have HE2:Hid ((w5.heap.size,81,#[.int .i64 0,.int .i64 0,.int .i64 0,.int .u64 0,.bool false,.bool false,.bool true,.bool false,.slice none 0 0])∈E2):=by rw[hE2];exact D4 ..
 clear hM5 hM6 hM7 HS1 hE2;go_wp2_with fail
 refine HS2.out.mono ?_;rintro e w6 ⟨rfl,hM8⟩;have hr0:=hM8.blk (D3 _ HE2.out);have a1:=hr0.cell 5;have a2:=hr0.cell 6;have NA:=hr0.lt;have hM9:=hM8.alloc ah.none 81 #[.int .i64 0,.int .i64 0,.int .i64 0,.int .u64 0,.bool false,.bool true,.bool false,.bool false,.slice none 0 0];have HI9:=aa (dY (hM9.blk (D3 _ (D4 ..))));have NM:=(hM8.blk (D4 ..)).lt;obtain⟨gr,offr,hrA⟩:=hM9.rA (by decide);have c27:(w6.alloc (.cells #[.int .i64 0,.int .i64 0,.int .i64 0,.int .u64 0,.bool false,.bool true,.bool false,.bool false,.slice none 0 0] 81)).cell? ⟨L.hb,27,none⟩=some (.slice (some ⟨gr,offr,none⟩) 1 L.rc):=by rw[<- hrA];exact hM9.hr.cR
 have cr:=hM9.Cr hrA (i:=0) (by decide);rw[Nat.add_zero]at cr;have N27:=ae c27;have NCR:=ae cr;have HLn:=aa (hM9.Df ah.none (i:=0) (by decide));have HFin:Hid (Fr [] w (w6.alloc (.cells #[.int .i64 0,.int .i64 0,.int .i64 0,.int .u64 0,.bool false,.bool true,.bool false,.bool false,.slice none 0 0] 81))):=hM9.fr;rw[show((MU.zero 1).st==0)=true by rfl]at HI9;rw[show((CA.st 0).length:Int)=1 by rfl]at HLn;clear hM8 hM9 hr0 HS2 hrA;go_wp2_with fail
 refine HI9.out.mono ?_;rintro e w7 ⟨rfl,rfl⟩;go_wp2_with fail
 refine HLn.out.mono ?_;rintro e w8 ⟨rfl,hM10⟩;have HFin2:=aa hM10.fr;clear hM10 HFin;go_wp2_with fail
 go_ret
 exact⟨rfl,HFin2.out⟩
theorem yu(tg:TG)(g T B M:Nat)(σ:GS):ah (λb=>(tg b).1≠0) (λw=>MAt w tg g T B M σ):=
 ⟨λw w' F h hf hF=>h.fr hf (λb hb=>Classical.byContradiction λe=>hF b hb e),λw h b hb=>h.tok b hb⟩
theorem Af{g:Geo}{s k:Nat}(h:g.Ok s k):∃M:Nat,g.max=(M:Int)/\1<=M/\M<=1048576:=by
 have h1:=h.max;have h2:=h.r2;have hp:=iq s;have h3:1*1<=(g.regions-1)*pw s:=Int.mul_le_mul (by omega) (by omega) (by decide) (by omega);have h4:1<=g.max/\g.max<=1048576:=by rw[h1];omega
 exact⟨g.max.toNat,by omega,by omega,by omega⟩
def DZ(w:World)(c:Cfg)(e:Ending)(w':World):Prop:=
 (e=.returned (.tuple #[.pointer none,.bool true])/\Fr [] w w') \/
 ∃(T B M g W0 R C P qm s k:Nat) (tg:TG) (L:HL) (X:HX) (Λ:WL),e=.returned (.tuple #[.pointer (some ⟨Λ.wb,0,none⟩),.bool true])/\c.threads=(T:Int)/\1<=T/\T<=64 /\
  zS w w' L X (HSn c.geo W0 R (R*W0) T) (HTn C P R qm (R*W0)) s k [] (λb=>(tg b).1≠0) (λw=>MAt w tg g T B M G0) g T Λ
section
variable {D1 D2:Nat->Prop}{Q1 Q2:World->Prop}
theorem ah.and(h1:ah D1 Q1)(h2:ah D2 Q2):ah (λb=>D1 b\/D2 b) (λw=>Q1 w/\Q2 w):=
 ⟨λw w' F h hf hF=>⟨h1.stay w w' F h.1 hf (λb hb hd=>hF b hb (.inl hd)),h2.stay w w' F h.2 hf (λb hb hd=>hF b hb (.inr hd))⟩,λw h b hb=>hb.elim (h1.lt w h.1 b) (h2.lt w h.2 b)⟩
theorem ah.all{P:Nat->Prop}{Di:Nat->Nat->Prop}{Qi:Nat->World->Prop}(h:∀i,P i->ah (Di i) (Qi i)):ah (λb=>∃i,P i/\Di i b) (λw=>∀i,P i->Qi i w):=
 ⟨λw w' F q hf hF i hi=>(h i hi).stay w w' F (q i hi) hf (λb hb hd=>hF b hb ⟨i,hi,hd⟩),λw q b ⟨i,hi,hd⟩=>(h i hi).lt w (q i hi) b hd⟩
theorem ah.lr(e:TypeId)(A:Option Addr)(n c:Nat)(G:List Nat)(xs:List Value):ah (λb=>b∈G) (λw=>Lr w e A n c G xs):=⟨λw w' F h hf hF=>h.fr hf (λg hg hx=>hF g hx hg),λw h b hb=>h.lt b hb⟩
end
structure WG where
 g:Nat
 tg:TG
 dA:Option Addr
 dc:Nat
 dG:List Nat
 dl:List Int
 oA:Nat->Option Addr
 on:Nat->Nat
 oc:Nat->Nat
 oG:Nat->List Nat
 ox:Nat->List Value
 nn:Nat->Nat
def gD(DX:Nat->Prop)(Λ:WL)(Γ:WG)(P:Nat->Prop):Nat->Prop:=λb=>DX b\/(b∈Λ.mG\/(b∈Γ.dG\/((Γ.tg b).1≠0\/∃i,P i/\b∈Γ.oG i)))
def gQ(QX:World->Prop)(Λ:WL)(Γ:WG)(P:Nat->Prop)(T B M:Nat)(σ:GS):World->Prop:=λw=>QX w/\(Lr w 59 Λ.mA T Λ.mc Λ.mG (aO Λ.P T)/\(Lr w 3 Γ.dA Γ.dl.length Γ.dc Γ.dG (zv Γ.dl) /\
 (MAt w Γ.tg Γ.g T B M σ/\∀i,P i->Lr w 67 (Γ.oA i) (Γ.on i) (Γ.oc i) (Γ.oG i) (Γ.ox i))))
theorem dZ{DX:Nat->Prop}{QX:World->Prop}(hX:ah DX QX)(Λ:WL)(Γ:WG)(P:Nat->Prop)(T B M:Nat)(σ:GS):ah (gD DX Λ Γ P) (gQ QX Λ Γ P T B M σ):=
 hX.and ((ah.lr _ _ _ _ _ _).and ((ah.lr _ _ _ _ _ _).and ((yu Γ.tg Γ.g T B M σ).and (ah.all λi _=>ah.lr _ _ _ _ _ _))))
structure Dj(DX:Nat->Prop)(Λ:WL)(Γ:WG)(T:Nat):Prop where
 x:∀b,DX b->b∉Λ.mG/\b∉Γ.dG/\(Γ.tg b).1=0/\∀i,i<T->b∉Γ.oG i
 m:∀b,b∈Λ.mG->b∉Γ.dG/\(Γ.tg b).1=0/\∀i,i<T->b∉Γ.oG i
 d:∀b,b∈Γ.dG->(Γ.tg b).1=0/\∀i,i<T->b∉Γ.oG i
 t:∀b,(Γ.tg b).1≠0->∀i,i<T->b∉Γ.oG i
 o:∀i j,i<T->j<T->i≠j->∀b,b∈Γ.oG i->b∉Γ.oG j
def kF(f:Nat->Nat):Nat->Nat
|0=>0
|n+1=>kF f n+f n
theorem l0{f f':Nat->Nat}{t:Nat}(he:∀i,i≠t->f' i=f i):∀n,(t<n->kF f' n+f t=kF f n+f' t)/\(n<=t->kF f' n=kF f n)
|0=>⟨λh=>by omega,λ_=>rfl⟩
|n+1=>by
  obtain⟨h1,h2⟩:=l0 he n;refine⟨λh=>?_,λh=>?_⟩
  ·simp only[kF];by_cases e:n=t
   ·subst e;rw[h2 (Nat.le_refl _)];omega
   ·have:=h1 (by omega);rw[he n e];omega
  ·simp only[kF];rw[h2 (by omega),he n (by omega)]
theorem pD{f:Nat->Nat}{b:Nat}:∀ {n:Nat},(∀i,i<n->f i<=b)->kF f n<=n*b
|0,_=>by simp[kF]
|n+1,h=>by
  have h1:=pD (f:=f) (b:=b) (n:=n) (λi hi=>h i (by omega));have h2:=h n (by omega);simp only[kF];rw[Nat.add_mul,Nat.one_mul];omega
def jN(W:World)(v:Value)(n:Nat)(f:Nat->Po):Prop:=∃A c,v=.slice A n c/\(0<n->∃b off,A=some ⟨b,off,none⟩/\b<W.heap.size/\∀j,j<n ->
 W.cell? ⟨b,off+j*5,none⟩=some (.int .i64 (f j).k)/\W.cell? ⟨b,off+j*5+1,none⟩=some (.int .i64 (f j).a)/\W.cell? ⟨b,off+j*5+2,none⟩=some (.int .i64 (f j).b)/\W.cell? ⟨b,off+j*5+3,none⟩=some (.int .i64 (f j).c)/\W.cell? ⟨b,off+j*5+4,none⟩=some (.int .u64 (f j).v))
structure WP(W:World)(B:Nat)(h:HS)(x:HT)(DX:Nat->Prop)(Λ:WL)(Γ:WG)(M T:Nat)(V:WS)(σ:GS)(A:Nat->Nat)(rv:Nat->Option (Nat×Nat))(Ops:Nat->Nat->Po)(On:Nat->Nat)(Nt:Prop):Prop where
 dj:Dj DX Λ Γ T
 wi:WI B h x V σ A rv M T
 gd:dX T B M
 vd:V.dl=.slice Γ.dA Γ.dl.length Γ.dc
 vo:∀i,i<T->V.OV i=.slice (Γ.oA i) (Γ.on i) (Γ.oc i)
 ops:∀i,i<T->jN W (V.OP i) (On i) (Ops i)
 ok:∀i j,dB (Ops i j)/\0<=(Ops i j).v/\(Ops i j).v<18446744073709551616
 ol:∀i,On i<=60
 nx:∀i,i<T->V.nx i<=On i
 cur:∀i,i<T->(V.mu i).st≠0->(V.mu i).st≠6->V.nx i<On i/\(V.mu i).op=Ops i (V.nx i)
 dn:∀i,i<T->(V.mu i).dn=σ.done i
 dx:∀i,i<T->σ.done i<=V.nx i
 N:σ.N<=kF V.nx T
 lg:∀i,i<T->Γ.on i<=V.nx i+(if (V.mu i).st=4 then 1 else 0)
 nt:∀i,i<T->Γ.nn i+(if (V.mu i).st=6 then 1 else 0)<=V.nx i
 dl:Γ.dl.length<=4*kF Γ.nn T
 no:Nt->gL h x V σ A Γ.dl T
section
variable {W w w':World}{L:HL}{X:HX}{h h':HS}{x x':HT}{s k:Nat}{E:aK}{D D' DX:Nat->Prop}{Q Q' QX:World->Prop}{Λ:WL}{Γ Γ':WG}{hb g t:Nat}{V V':WS}{σ σ':GS}{A A':Nat->Nat}{rv rv':Nat->Option (Nat×Nat)}{B M T:Nat}{Ops:Nat->Nat->Po}{On:Nat->Nat}{Nt:Prop}
theorem HM.re(hT:Tab W)(H:HM W w L X h x s k E D Q)(hD:∀b,D' b->D b)(hq:Q' w):HM W w L X h x s k E D' Q':=H.live hT (F:=[]) (Fr.refl _ _) (λb hb=>by cases hb) (λb hb=>.inl (hD b hb)) hq
theorem WP.next(P:WP W B h x DX Λ Γ M T V σ A rv Ops On Nt)(ht:t<T)(dj:Dj DX Λ Γ' T)(wi:WI B h' x' V' σ' A' rv' M T)(vd:V'.dl=.slice Γ'.dA Γ'.dl.length Γ'.dc)(vo:∀i,i<T->V'.OV i=.slice (Γ'.oA i) (Γ'.on i) (Γ'.oc i))(op:V'.OP=V.OP)
  (hmu:∀i,i≠t->V'.mu i=V.mu i) (hnx:∀i,i≠t->V'.nx i=V.nx i) (hon:∀i,i≠t->Γ'.on i=Γ.on i) (hnn:∀i,i≠t->Γ'.nn i=Γ.nn i) (hdn:∀i,i≠t->σ'.done i=σ.done i)
  (nx:V'.nx t<=On t) (cur:(V'.mu t).st≠0->(V'.mu t).st≠6->V'.nx t<On t/\(V'.mu t).op=Ops t (V'.nx t)) (dn:(V'.mu t).dn=σ'.done t) (dx:σ'.done t<=V'.nx t) (N:σ'.N+V.nx t<=σ.N+V'.nx t)
  (lg:Γ'.on t<=V'.nx t+(if (V'.mu t).st=4 then 1 else 0)) (nt:Γ'.nn t+(if (V'.mu t).st=6 then 1 else 0)<=V'.nx t) (dl:Γ'.dl.length+4*Γ.nn t<=Γ.dl.length+4*Γ'.nn t) (no:Nt->gL h' x' V' σ' A' Γ'.dl T) :
  WP W B h' x' DX Λ Γ' M T V' σ' A' rv' Ops On Nt:=by
 have s1:=(l0 hnx T).1 ht;have s2:=(l0 hnn T).1 ht;refine⟨dj,wi,P.gd,vd,vo,by rw[op];exact P.ops,P.ok,P.ol,λi hi=>?_,λi hi=>?_,λi hi=>?_,λi hi=>?_,by have:=P.N;omega,λi hi=>?_,λi hi=>?_,by have:=P.dl;omega,no⟩
 ·by_cases e:i=t
  ·subst e;exact nx
  ·rw[hnx i e];exact P.nx i hi
 ·by_cases e:i=t
  ·subst e;exact cur
  ·rw[hmu i e,hnx i e];exact P.cur i hi
 ·by_cases e:i=t
  ·subst e;exact dn
  ·rw[hmu i e,hdn i e];exact P.dn i hi
 ·by_cases e:i=t
  ·subst e;exact dx
  ·rw[hnx i e,hdn i e];exact P.dx i hi
 ·by_cases e:i=t
  ·subst e;exact lg
  ·rw[hmu i e,hnx i e,hon i e];exact P.lg i hi
 ·by_cases e:i=t
  ·subst e;exact nt
  ·rw[hmu i e,hnx i e,hnn i e];exact P.nt i hi
theorem WP.can(P:WP W B h x DX Λ Γ M T V σ A rv Ops On Nt):σ.N<=3840:=by
 have h1:=P.N;have h2:=pD (f:=V.nx) (b:=60) (n:=T) (λi hi=>by have:=P.nx i hi;have:=P.ol i;omega);have h3:=P.gd.t;have:T*60<=64*60:=Nat.mul_le_mul_right _ h3;omega
theorem WP.Dp(P:WP W B h x DX Λ Γ M T V σ A rv Ops On Nt):Can M σ:=⟨P.wi.M2,by have:=P.can;omega⟩
theorem WP.Dq(P:WP W B h x DX Λ Γ M T V σ A rv Ops On Nt):Γ.dl.length<=15360:=by
 have h1:=P.dl;have h2:=pD (f:=Γ.nn) (b:=60) (n:=T) (λi hi=>by have:=P.nx i hi;have:=P.ol i;have:=P.nt i hi;omega);have h3:=P.gd.t;have:T*60<=64*60:=Nat.mul_le_mul_right _ h3;omega
theorem HM.yv(hS:ah D Q)(hT:Tab W)(H:HM W w L X h x s k (wE Λ hb g T V++E) D Q)(hE:∀q,q∈E->q.1≠Λ.wb){dl':Value}{wn':Int}(hf:Fr [Λ.wb] w w')(hbk:Blk w' Λ.wb 37 (wdV hb Λ.sb Λ.mA T Λ.mc Λ.pb Λ.nb T g dl' wn' V.sy)) :
  HM W w' L X h x s k (wE Λ hb g T { V with dl:=dl',wn:=wn' }++E) D Q:=by
 have H1:HM W w L X h x s k ((Λ.wb,37,wdV hb Λ.sb Λ.mA T Λ.mc Λ.pb Λ.nb T g V.dl V.wn V.sy)::((Λ.ob,62,aJ T V.OV)::(Λ.sb,58,#[.bool V.mg,.slice (some ⟨Λ.ob,0,none⟩) T T])::(Λ.pb,55,aJ T V.OP)::(Λ.nb,3,aJ T λi=>.int .i64 (V.nx i:Int))::((List.range T).map (muE Λ hb V)++E))) D Q:=
  H.sub (λq hq=>by
   simp only[D5,Ec]at hq;simp only[wE,w4E,D5,Ec,List.not_mem_nil,or_false];rcases hq with e|e|e|e|e|e|e <;> simp[e])
 have hw:=H1.blk (b:=Λ.wb) (D4 ..);have H2:=H1.mh hS hT hf hbk (λq hq=>by
  have hq3:=H1.blk (b:=q.1) (t:=q.2.1) (cs:=q.2.2) (D3 _ hq);simp only[D5,Ec,List.mem_map]at hq;rcases hq with e|e|e|e|⟨i,_,e⟩|e
  ·exact hq3.apart hw (by rw[e];simp only;decide)
  ·exact hq3.apart hw (by rw[e];simp only;decide)
  ·exact hq3.apart hw (by rw[e];simp only;decide)
  ·exact hq3.apart hw (by rw[e];simp only;decide)
  ·exact hq3.apart hw (by rw[<- e];show(122:TypeId)≠37;decide)
  ·exact hE q e)
 exact H2.sub (λq hq=>by
  simp only[wE,w4E,D5,Ec,List.not_mem_nil,or_false]at hq;simp only[D5,Ec];rcases hq with(e|(e|e|e|e)|e)|e
  ·simp[e]
  ·simp[e]
  ·simp[e]
  ·simp[e]
  ·simp[e]
  ·exact .inr (.inr (.inr (.inr (.inr (.inl e)))))
  ·simp[e])
theorem HM.CB(hS:ah D Q)(hT:Tab W)(H:HM W w L X h x s k (wE Λ hb g T V++E) D Q)(hE:∀q,q∈E->q.1≠Λ.nb){nx':Nat->Nat}(hf:Fr [Λ.nb] w w')(hbk:Blk w' Λ.nb 3 (aJ T λi=>.int .i64 (nx' i:Int))) :
  HM W w' L X h x s k (wE Λ hb g T { V with nx:=nx' }++E) D Q:=by
 have H1:HM W w L X h x s k ((Λ.nb,3,aJ T λi=>.int .i64 (V.nx i:Int))::((Λ.ob,62,aJ T V.OV)::(Λ.wb,37,wdV hb Λ.sb Λ.mA T Λ.mc Λ.pb Λ.nb T g V.dl V.wn V.sy)::(Λ.sb,58,#[.bool V.mg,.slice (some ⟨Λ.ob,0,none⟩) T T])::(Λ.pb,55,aJ T V.OP)::((List.range T).map (muE Λ hb V)++E))) D Q:=
  H.sub (λq hq=>by
   simp only[D5,Ec]at hq;simp only[wE,w4E,D5,Ec,List.not_mem_nil,or_false];rcases hq with e|e|e|e|e|e|e <;> simp[e])
 have hw:=H1.blk (b:=Λ.nb) (D4 ..);have H2:=H1.mh hS hT hf hbk (λq hq=>by
  have hq3:=H1.blk (b:=q.1) (t:=q.2.1) (cs:=q.2.2) (D3 _ hq);simp only[D5,Ec,List.mem_map]at hq;rcases hq with e|e|e|e|⟨i,_,e⟩|e
  ·exact hq3.apart hw (by rw[e];simp only;decide)
  ·exact hq3.apart hw (by rw[e];simp only;decide)
  ·exact hq3.apart hw (by rw[e];simp only;decide)
  ·exact hq3.apart hw (by rw[e];simp only;decide)
  ·exact hq3.apart hw (by rw[<- e];show(122:TypeId)≠3;decide)
  ·exact hE q e)
 exact H2.sub (λq hq=>by
  simp only[wE,w4E,D5,Ec,List.not_mem_nil,or_false]at hq;simp only[D5,Ec];rcases hq with(e|(e|e|e|e)|e)|e
  ·simp[e]
  ·simp[e]
  ·simp[e]
  ·simp[e]
  ·simp[e]
  ·exact .inr (.inr (.inr (.inr (.inr (.inl e)))))
  ·simp[e])
theorem vZ(B M T:Nat)(σ:GS)(t:Nat)(o:Po):aN B M T (σ.tick t) t o=(aN B M T σ t o).tick t:=by
 have e1:∀(c:Prop) [Decidable c] (a b:GS),(if c then a.tick t else b.tick t)=(if c then a else b).tick t:=λc _ a b=>by split <;> rfl
 unfold aN;simp only[<- e1]
 congr 1
 ·unfold bW;simp only[<- e1];rfl
 ·congr 1
  ·unfold dK;simp only[<- e1];rfl
  ·congr 1
   ·unfold bR;simp only[<- e1];rfl
   ·congr 1
    ·unfold ch;simp only[<- e1];rfl
    ·congr 1
     congr 1
     congr 1
     ·unfold jj;simp only[<- e1];rfl
     ·congr 1
      unfold de;simp only[<- e1];rfl
theorem cy.tick{i:Nat}{o:Po}{q I:Nat}(l:cy σ A i o q I)(t:Nat):cy (σ.tick t) A i o q I:=⟨l.q1,l.q2,l.a,l.r,l.c,l.f⟩
theorem Phase.tick{n:Nat}{i:Nat}{m:MU}(p:Phase n M σ A rv i m)(t:Nat):Phase n M (σ.tick t) A rv i m:=by
 rcases p with p|p|p|⟨p1,p2,q,I,l,p3⟩|p|p|⟨p1,p2,p3,q,I,l,p4⟩
 ·exact .inl p
 ·exact .inr (.inl p)
 ·exact .inr (.inr (.inl p))
 ·exact .inr (.inr (.inr (.inl ⟨p1,p2,q,I,l.tick t,p3⟩)))
 ·exact .inr (.inr (.inr (.inr (.inl p))))
 ·exact .inr (.inr (.inr (.inr (.inr (.inl p)))))
 ·exact .inr (.inr (.inr (.inr (.inr (.inr ⟨p1,p2,p3,q,I,l.tick t,p4⟩)))))
theorem WI.tick(I:WI B h x V σ A rv M T)(t:Nat):WI B h x V (σ.tick t) A rv M T:=⟨I.sim.tick t,I.gk.tick t,I.eT,λi hi=>(I.ph i hi).tick t,I.q,I.op,I.B64,I.M1,I.M2⟩
theorem WI.of(I:WI B h x V σ A rv M T)(hm:V'.mu=V.mu):WI B h x V' σ A rv M T:=⟨I.sim,I.gk,I.eT,λi hi=>by rw[hm];exact I.ph i hi,I.q,λi hi=>by rw[hm];exact I.op i hi,I.B64,I.M1,I.M2⟩
theorem gL.of{dl:List Int}(N:gL h x V σ A dl T)(hm:V'.mu=V.mu)(t:Nat):gL h x V' (σ.tick t) A dl T:=⟨λo j h1 h2 h3 h4=>by rw[hm];exact N.ref o j h1 h2 h3 h4,N.nd,N.dw,N.rg⟩
theorem Ag(ok:h.Ok s k)(d:cJ h.g h.W h.R x.cw x.per){I c:Nat}(hI:I<h.n)(hc:h.g.bV (I:Int)=(c:Int)):c<h.R*x.per:=by
 have hd:=d.c1;have e:h.g.bV (I:Int)=(I:Int) / h.g.cw:=by
  unfold Geo.bV;rw[if_pos ⟨by omega,by rw[ok.wd];omega⟩]
 rw[e,d.cw,<- Int.natCast_ediv]at hc;have hc:I / x.cw=c:=by omega
 rw[<- hc,Nat.div_lt_iff_lt_mul (by omega),Nat.mul_assoc,<- d.wp,<- ok.nn];exact hI
end
end Go.Proofs.YtimkofiempcfdaaGreatDoor
