/- Several texts joined (pack.py): Ul Uo. -/
import Derived.Test.YtimlkjppaalfaaaGreatDoorPW24
import Derived.WalkKit
import Derived.BigQuiet
import Derived.Deep.CutRange
import Derived.Deep.RegionHeld3
import Derived.Test.YtimlkjppaalfaaaGreatDoorPW33
import Derived.Test.YtimlkjppaalfaaaGreatDoorPW22
import Derived.Test.YtimlkjppaalfaaaGreatDoorPW34
import Derived.Test.YtimlkjppaalfaaaGreatDoorPW29
import Derived.Test.YtimlkjppaalfaaaGreatDoorPW19
set_option linter.unusedVariables false
set_option linter.unusedSimpArgs false
set_option maxHeartbeats 3200000
set_option maxRecDepth 100000
open List renaming mem_cons_of_mem->CZ,mem_cons_self->C0,mem_cons->C1
namespace Go.Proofs.YtimlkjppaalfaaaGreatDoor
open Go.RowKit Go.Gl HS
section
variable {W w w':World}{L:HL}{X:HX}{h h2:HS}{x x2:HT}{s k:Nat}{E:aK}{D:Nat->Prop}{Q:World->Prop}{mb t sb:Nat}{m:MU}
theorem pj(hS:ah D Q)(hT:Tab W)(H:HM W w L X h x s k ((mb,127,muV L.hb t sb m)::E) D Q)(hne:∀q,q∈E->q.1≠mb)(ht:t<h.T)(hB:L.B<=64)(hl:(h.st t).length<L.B)
  {I S P:Nat} (ha:m.a=(P:Int)) (hb:m.b=((S-1-P:Nat):Int)) (had:m.ad=(I:Int)) (hP:P<S) (hz:S<=1048576) (hn:I+S<=h.n) (hbg:h.g.jS (S:Int)=false) (hd:(m.dn:Int)+1<=9223372036854775807) :
  Calls Tryz.prog 48 #[.pointer (some ⟨mb,0,none⟩)] w λe w'=>e=.returned (bm (t:Int) (m.dn:Int) ⟨0,0,false⟩ true false false (.slice none 0 0)) /\
   HM W w' L X { h with f:=upd (aB h.f I S (λ_=>0)) I (aY S P),st:=bk h.st t (h.st t++[(I:Int)+1]) } x s k ((mb,127,muV L.hb t sb (MU.zero (m.dn+1)))::E) D Q:=by
 have hmb:=H.blk (C0 ..);have hlt:=hmb.lt;have hnm:=H.ok.dC;obtain⟨c0,c1,c2,c3,c4,c5,c6,c7,c8,c9,c10⟩:=aJ hmb;rw[ha]at c5;rw[hb]at c6;rw[had]at c10;have e1:IntKind.i64.wrap (1+(P:Int))=1+(P:Int):=IntWalk.i64_in _ ⟨by omega,by omega⟩;have e2:IntKind.i64.wrap (1+(P:Int)+((S-1-P:Nat):Int))=(S:Int):=by rw[IntWalk.i64_in _ ⟨by omega,by omega⟩];omega
 clear hmb ha hb had;have hltE:∀q,q∈E->q.1<w.heap.size:=λq hq=>(H.blk (b:=q.1) (t:=q.2.1) (cs:=q.2.2) (CZ _ hq)).lt;have HX2:Hid (HM W (((w.alloc (.cells #[.int .i64 0,.int .i64 0,.int .i64 0,.int .u64 0,.bool false,.bool false,.bool false,.bool false,.slice none 0 0] 73)).alloc (.cells #[.int .i64 m.k,.int .i64 (P:Int),.int .i64 ((S-1-P:Nat):Int),.int .i64 m.c,.int .u64 m.v] 69)).drew) L X h x s k ((w.heap.size+1,69,#[.int .i64 m.k,.int .i64 (P:Int),.int .i64 ((S-1-P:Nat):Int),.int .i64 m.c,.int .u64 m.v])::(w.heap.size,73,#[.int .i64 0,.int .i64 0,.int .i64 0,.int .u64 0,.bool false,.bool false,.bool false,.bool false,.slice none 0 0])::(mb,127,muV L.hb t sb m)::E) D Q):=by
  have q:=((H.alloc hS 73 #[.int .i64 0,.int .i64 0,.int .i64 0,.int .u64 0,.bool false,.bool false,.bool false,.bool false,.slice none 0 0]).alloc hS 69 #[.int .i64 m.k,.int .i64 (P:Int),.int .i64 ((S-1-P:Nat):Int),.int .i64 m.c,.int .u64 m.v]).fr0 hS (Fr.refl _ _).drew;rw[show(w.alloc (.cells #[.int .i64 0,.int .i64 0,.int .i64 0,.int .u64 0,.bool false,.bool false,.bool false,.bool false,.slice none 0 0] 73)).heap.size=w.heap.size+1 by simp]at q;exact q
 have HMk:Hid (∀w' E',HM W w' L X h x s k E' D Q->Calls Tryz.prog 92 #[.pointer (some ⟨L.ab,0,none⟩),.int .i64 (I:Int),.int .i64 (S:Int),.int .i64 (P:Int)] w' λe w''=>e=.returned (.int .i64 0)/\HM W w'' L X { h with f:=upd (aB h.f I S (λ_=>0)) I (aY S P) } x s k E' D Q):=λw' E' q=>q.make hS ⟨by omega,hz⟩ hP hn;have HBg:Hid (∀w' E',HM W w' L X { h with f:=upd (aB h.f I S (λ_=>0)) I (aY S P) } x s k E' D Q->Calls Tryz.prog 93 #[.agg #[.int .i64 h.g.words,.int .i64 h.g.rw,.int .i64 h.g.cw,.int .i64 h.g.regions,.int .i64 h.g.aF,.int .i64 h.g.max],.int .i64 (S:Int)] w' λe w''=>e=.returned (.bool false)/\HM W w'' L X { h with f:=upd (aB h.f I S (λ_=>0)) I (aY S P) } x s k E' D Q):=λw' E' q=>by
  refine(gM h.g (S:Int) w' (by have:=q.dim.rw;simp only at this;rw[this];omega)).mono ?_;rintro e w'' ⟨rfl,hf⟩;rw[hbg];exact⟨rfl,q.fr0 hS hf⟩
 have HSk:Hid (∀w' E',(mb,127,muV L.hb t sb m)∈E'->HM W w' L X { h with f:=upd (aB h.f I S (λ_=>0)) I (aY S P) } x s k E' D Q->Calls Tryz.prog 89 #[.pointer (some ⟨mb,0,none⟩)] w' λe w''=>e=.returned (.pointer (some ⟨L.S t,0,none⟩))/\HM W w'' L X { h with f:=upd (aB h.f I S (λ_=>0)) I (aY S P) } x s k E' D Q):=λw' E' hm q=>(cn (q.blk hm) q.hr ht).mono (by rintro e w'' ⟨rfl,hf⟩;exact⟨rfl,q.fr0 hS hf⟩);have HRe:=aa (λw'=>fH I (by omega) w');have HPu:Hid (∀w' E',HM W w' L X { h with f:=upd (aB h.f I S (λ_=>0)) I (aY S P) } x s k E' D Q->Calls Tryz.prog 95 #[.pointer (some ⟨L.S t,0,none⟩),.int .u64 ((I:Int)+1)] w' λe w''=>e=.returned (.int .i64 0)/\HM W w'' L X { h with f:=upd (aB h.f I S (λ_=>0)) I (aY S P),st:=bk h.st t (h.st t++[(I:Int)+1]) } x s k E' D Q):=λw' E' q=>q.push hS (i:=t) ht hB hl (r:=(I:Int)+1) ⟨by omega,by omega⟩;have HAn:Hid (∀w' ob rb c1 c2,ob≠mb->rb≠mb->HM W w' L X { h with f:=upd (aB h.f I S (λ_=>0)) I (aY S P),st:=bk h.st t (h.st t++[(I:Int)+1]) } x s k ((ob,69,c1)::(rb,73,c2)::(mb,127,muV L.hb t sb m)::E) D Q->Calls Tryz.prog 52 #[.pointer (some ⟨mb,0,none⟩),gt 0 0 ⟨0,0,false⟩] w' λe w''=>e=.returned (bm (t:Int) (m.dn:Int) ⟨0,0,false⟩ true false false (.slice none 0 0))/\HM W w'' L X { h with f:=upd (aB h.f I S (λ_=>0)) I (aY S P),st:=bk h.st t (h.st t++[(I:Int)+1]) } x s k ((rb,73,c2)::(mb,127,muV L.hb t sb (MU.zero (m.dn+1)))::E) D Q):=λw' ob rb c1 c2 h1 h2 q=>by
  have q2:HM W w' L X { h with f:=upd (aB h.f I S (λ_=>0)) I (aY S P),st:=bk h.st t (h.st t++[(I:Int)+1]) } x s k ((mb,127,muV L.hb t sb m)::(rb,73,c2)::E) D Q:=q.sub (λy hy=>by simp only[C1]at hy ⊢;rcases hy with e|e|e <;> simp[e]);refine(q2.mut (P:=λe=>e=.returned (bm (t:Int) (m.dn:Int) ⟨0,0,false⟩ true false false (.slice none 0 0))) hS hT (m':=MU.zero (m.dn+1)) (λy hy=>?_) (λhb=>ey hb hd 0 0 ⟨0,0,false⟩)).mono ?_
  ·rcases C1.1 hy with rfl|hy
   ·exact h2
   ·exact hne y hy
  ·rintro e w'' ⟨he,q3⟩;exact⟨he,q3.sub (λy hy=>by simp only[C1]at hy ⊢;rcases hy with e|e|e <;> simp[e])⟩
 have HEnd:Hid (∀w' rb a0 a1 a2 a3 a4 a5 a6 a7 a8 v0 v1 v2 v3 v4 v5 v6 v7 v8,rb≠mb->(∀q,q∈E->q.1≠rb)->HM W w' L X { h with f:=upd (aB h.f I S (λ_=>0)) I (aY S P),st:=bk h.st t (h.st t++[(I:Int)+1]) } x s k ((rb,73,#[a0,a1,a2,a3,a4,a5,a6,a7,a8])::(mb,127,muV L.hb t sb (MU.zero (m.dn+1)))::E) D Q->HM W (cD w' rb v0 v1 v2 v3 v4 v5 v6 v7 v8) L X { h with f:=upd (aB h.f I S (λ_=>0)) I (aY S P),st:=bk h.st t (h.st t++[(I:Int)+1]) } x s k ((mb,127,muV L.hb t sb (MU.zero (m.dn+1)))::E) D Q):=λw' rb a0 a1 a2 a3 a4 a5 a6 a7 a8 v0 v1 v2 v3 v4 v5 v6 v7 v8 hr hq q=>
  q.cS hS hT (λy hy=>by
   rcases C1.1 hy with rfl|hy
   ·exact λe=>hr e.symm
   ·exact hq y hy) v0 v1 v2 v3 v4 v5 v6 v7 v8
 have HRB:Hid (w.heap.size+1≠mb/\w.heap.size≠mb/\∀q,q∈E->q.1≠w.heap.size):=⟨by omega,by omega,λq hq=>by have:=hltE q hq;omega⟩;have HCe:Hid (∀w' E',HM W w' L X { h with f:=upd (aB h.f I S (λ_=>0)) I (aY S P) } x s k E' D Q->fG w' L X h.g h.T):=λw' E' q=>q.hc;have HK0:Hid (∀w',HM W w' L X h x s k ((w.heap.size+1,69,#[.int .i64 m.k,.int .i64 (P:Int),.int .i64 ((S-1-P:Nat):Int),.int .i64 m.c,.int .u64 m.v])::(w.heap.size,73,#[.int .i64 0,.int .i64 0,.int .i64 0,.int .u64 0,.bool false,.bool false,.bool false,.bool false,.slice none 0 0])::(mb,127,muV L.hb t sb m)::E) D Q->w'.cell? ⟨mb,0,none⟩=some (.pointer (some ⟨L.hb,0,none⟩))/\w'.cell? ⟨L.hb,20,none⟩=some (.pointer (some ⟨L.ab,0,none⟩))/\w'.cell? ⟨w.heap.size+1,1,none⟩=some (.int .i64 (P:Int))):=λw' q=>⟨(q.blk (CZ _ (CZ _ (C0 ..)))).cell 0,q.hc.c20,(q.blk (C0 ..)).cell 1⟩;have HK1:Hid (∀w',HM W w' L X { h with f:=upd (aB h.f I S (λ_=>0)) I (aY S P) } x s k ((w.heap.size+1,69,#[.int .i64 m.k,.int .i64 (P:Int),.int .i64 ((S-1-P:Nat):Int),.int .i64 m.c,.int .u64 m.v])::(w.heap.size,73,#[.int .i64 0,.int .i64 0,.int .i64 0,.int .u64 0,.bool false,.bool false,.bool false,.bool false,.slice none 0 0])::(mb,127,muV L.hb t sb m)::E) D Q->w'.cell? ⟨mb,0,none⟩=some (.pointer (some ⟨L.hb,0,none⟩))/\w'.cell? ⟨L.hb,20,none⟩=some (.pointer (some ⟨L.ab,0,none⟩))/\w'.cell? ⟨w.heap.size+1,1,none⟩=some (.int .i64 (P:Int))):=λw' q=>⟨(q.blk (CZ _ (CZ _ (C0 ..)))).cell 0,q.hc.c20,(q.blk (C0 ..)).cell 1⟩;have HMem:Hid ((mb,127,muV L.hb t sb m)∈((w.heap.size+1,69,#[.int .i64 m.k,.int .i64 (P:Int),.int .i64 ((S-1-P:Nat):Int),.int .i64 m.c,.int .u64 m.v])::(w.heap.size,73,#[.int .i64 0,.int .i64 0,.int .i64 0,.int .u64 0,.bool false,.bool false,.bool false,.bool false,.slice none 0 0])::(mb,127,muV L.hb t sb m)::E)):=CZ _ (CZ _ (C0 ..));unfold bm at HAn ⊢;unfold gt at HAn;simp only at HAn;clear hltE H hz hl hB hd hbg hn hP ht hne hnm;go_enter Tryz.func48,Tryz.ntmps48
 go_wp2_with fail
 go_region
 go_wp2_with fail
 generalize ((w.alloc (.cells #[.int .i64 0,.int .i64 0,.int .i64 0,.int .u64 0,.bool false,.bool false,.bool false,.bool false,.slice none 0 0] 73)).alloc (.cells #[.int .i64 m.k,.int .i64 (P:Int),.int .i64 ((S-1-P:Nat):Int),.int .i64 m.c,.int .u64 m.v] 69)).drew=w1 at *;have HAd:=aa (HX2.out.fr0 hS (Fr.refl _ _).drew);have K0:=HK0.out _ HAd.out;go_region_held3 (λw'=>w'.cell? ⟨mb,0,none⟩=some (.pointer (some ⟨L.hb,0,none⟩))/\w'.cell? ⟨L.hb,20,none⟩=some (.pointer (some ⟨L.ab,0,none⟩))/\w'.cell? ⟨w.heap.size+1,1,none⟩=some (.int .i64 (P:Int)))
  (first|with_reducible exact K0|go_keep)
  (first|(go_at_call 92;refine(HMk.out _ _ HAd.out).mono ?_;rintro e w2 ⟨rfl,hA⟩;have HA2:=aa hA;have K0:=HK1.out _ hA;clear hA))
 all_goals
  obtain⟨c14,c15,c16,c17,c18,c19,-,-,-,-,-,-,-,-,-,NH⟩:=HCe.out _ _ HA2.out;have k0:=K0.1;have HB2:=aa (HBg.out _ _ HA2.out);clear K0;go_wp2_with fail
  refine HB2.out.mono ?_;rintro e w3 ⟨rfl,hA⟩;have HK3:=aa (HSk.out _ _ HMem.out hA);clear hA c14 c15 c16 c17 c18 c19 NH k0 HB2;go_wp2_with fail
  refine HK3.out.mono ?_;rintro e w4 ⟨rfl,hA⟩;have HA4:=aa hA;clear hA HK3;go_wp2_with fail
  refine(HRe.out _).mono ?_;rintro e w4' ⟨rfl,rfl⟩;have HP4:=aa (HPu.out _ _ HA4.out);go_wp2_with fail
  refine HP4.out.mono ?_;rintro e w5 ⟨rfl,hA⟩;have HN5:=aa (HAn.out _ _ _ _ _ HRB.out.1 HRB.out.2.1 hA);clear hA HP4;go_wp2_with fail
  refine HN5.out.mono ?_;rintro e w6 ⟨rfl,hA⟩;have HA6:=aa hA;have hrb:=hA.blk (C0 ..);have y0:=hrb.cell 0;have y1:=hrb.cell 1;have y2:=hrb.cell 2;have y3:=hrb.cell 3;have y4:=hrb.cell 4;have y5:=hrb.cell 5;have y6:=hrb.cell 6;have y7:=hrb.cell 7;have y8:=hrb.cell 8;have z0:=hrb.frozen 0;have z1:=hrb.frozen 1;have z2:=hrb.frozen 2;have z3:=hrb.frozen 3;have z4:=hrb.frozen 4;have z5:=hrb.frozen 5;have z6:=hrb.frozen 6;have z7:=hrb.frozen 7;have z8:=hrb.frozen 8;have NR:=hrb.lt;clear hA hrb HN5;go_wp2_with fail
  refine bodyPost_ret (v:=.agg #[.int .i64 (t:Int),.int .i64 (m.dn:Int),.int .i64 0,.int .u64 0,.bool false,.bool true,.bool false,.bool false,.slice none 0 0]) (by simp[results,Tryz.results48,go_sem, *]) rfl ⟨rfl,?_⟩;exact HEnd.out _ _ _ _ _ _ _ _ _ _ _ _ _ _ _ _ _ _ _ _ HRB.out.2.1 HRB.out.2.2 HA6.out
end
def iv:Cfg:=⟨6,4,3,1,4,0,0,2,0,0,0,0,0,0⟩
theorem Cy:ia iv=true:=by decide +kernel
theorem CV:zT iv 64 4 8 8 1 4 0 6 3:=
 ⟨⟨by decide,by decide,by decide,by decide,by decide +kernel,by decide +kernel,by decide +kernel,by decide +kernel,by decide +kernel,by decide +kernel,by decide +kernel,by decide +kernel⟩,
  ⟨by decide +kernel,by decide +kernel,by decide +kernel,by decide +kernel,by decide +kernel,by decide,by decide,by decide,by decide,by decide,by decide,by decide⟩,rfl,rfl,rfl,by decide,by decide,by decide,by decide,by decide⟩
theorem qR(w:World):Calls Tryz.prog 15 #[] w λe w'=>e=.returned iv.val/\Fr [] w w':=by
 go_enter Tryz.func15,Tryz.ntmps15
 go_wp2_with fail
 refine bodyPost_ret (v:=iv.val) (by simp[results,Tryz.results15,go_sem, *];rfl) rfl ⟨rfl,(Fr.refl _ _).alloc _⟩
theorem HM.of0{W w:World}{L:HL}{X:HX}{own:Nat->Nat}{h:HS}{x:HT}{s k:Nat}(hH:cK W w L X own h x s k):HM W w L X h x s k [] (λ_=>False) (λ_=>True):=
 ⟨own,hH,λq hq=>(by cases hq),λb hb=>hb.elim,trivial⟩
def h15:HS:=HSn iv.geo 64 4 256 1
noncomputable def tx:HS:={ el (bE h15 0) 0 0 with bx:=ak (el (bE h15 0) 0 0).bx 0 ((((0*h15.W:Nat)):Int)+(1+1+1)) }
noncomputable def Cz:HS:={ tx with f:=upd (aB tx.f 0 3 (λ_=>0)) 0 (aY 3 1),st:=bk tx.st 0 (tx.st 0++[((0:Nat):Int)+1]) }
theorem Ap{W w:World}{L:HL}{X:HX}{E:aK}{mb sb:Nat}(hT:Tab W)(hB:L.B=4)(hc:L.cfg=iv)(H:HM W w L X h15 (HTn 8 8 4 0 256) 6 3 ((mb,127,muV L.hb 0 sb ⟨0,1,1,1,0,0,1,0⟩)::E) (λ_=>False) (λ_=>True))(hne:∀q,q∈E->q.1≠mb) :
  Calls Tryz.prog 19 #[.pointer (some ⟨mb,0,none⟩)] w λe w'=>e=.returned (.agg #[.int .i64 0,.int .i64 0,.int .i64 0,.int .u64 0,.bool false,.bool false,.bool true,.bool false,.slice none 0 0]) /\
   HM W w' L X tx (HTn 8 8 4 0 256) 6 3 ((mb,127,muV L.hb 0 sb ⟨0,1,1,1,0,0,5,((0*h15.W:Nat):Int)⟩)::E) (λ_=>False) (λ_=>True):=by
 refine dI ah.none hT H hne rfl (λw1 rb1 c1 n1 n2 H1=>?_);have hne1:∀q,q∈((rb1,73,c1)::E:aK)->q.1≠mb:=λq hq=>by
  rcases C1.1 hq with rfl|hq
  ·exact n1
  ·exact hne q hq
 refine ge ah.none hT H1 hne1 rfl (λw2 rb2 c2 n3 n4 H2=>?_);have hne2:∀q,q∈((rb2,73,c2)::(rb1,73,c1)::E:aK)->q.1≠mb:=λq hq=>by
  rcases C1.1 hq with rfl|hq
  ·exact n3
  ·exact hne1 q hq
 exact lN (M:=192) ah.none hT H2 hne2 (by decide) (by rw[hB];decide) (by rw[hB];decide) (by decide +kernel) (by decide) (by decide) ⟨by decide,by decide⟩ (λw' E' hm q=>
  kt ah.none q hm (by decide) (λi hi hb=>absurd hb (by show ¬ (0:Int)<0;decide)) (by decide +kernel) (by decide) (by decide) (by decide) (by rw[hc];decide +kernel) ⟨by decide,rfl,λj hj=>absurd hj (by omega)⟩)
theorem Aq{W w:World}{L:HL}{X:HX}{E:aK}{mb sb:Nat}(hT:Tab W)(hB:L.B=4)(hc:L.cfg=iv)(H:HM W w L X tx (HTn 8 8 4 0 256) 6 3 ((mb,127,muV L.hb 0 sb ⟨0,1,1,1,0,0,5,((0*h15.W:Nat):Int)⟩)::E) (λ_=>False) (λ_=>True))(hne:∀q,q∈E->q.1≠mb) :
  Calls Tryz.prog 19 #[.pointer (some ⟨mb,0,none⟩)] w λe w'=>e=.returned (.agg #[.int .i64 0,.int .i64 0,.int .i64 0,.int .u64 0,.bool false,.bool true,.bool false,.bool false,.slice none 0 0]) /\
   HM W w' L X Cz (HTn 8 8 4 0 256) 6 3 ((mb,127,muV L.hb 0 sb (MU.zero 1))::E) (λ_=>False) (λ_=>True):=by
 refine gV ah.none hT H hne rfl (λw1 rb1 c1 n1 n2 H1=>?_);have hne1:∀q,q∈((rb1,73,c1)::E:aK)->q.1≠mb:=λq hq=>by
  rcases C1.1 hq with rfl|hq
  ·exact n1
  ·exact hne q hq
 exact pj (I:=0) (S:=3) (P:=1) ah.none hT H1 hne1 (by decide) (by rw[hB];decide) (by rw[hB];decide) rfl rfl rfl (by decide) (by decide) (by decide) (by decide +kernel) (by decide)
theorem qS(w:World)(tab:Tab w):Calls Tryz.prog 4 #[] w λe w'=>e=.returned (.bool true)/\Fr [] w w':=by
 have HN:Hid (∀w1,Tab w1->Calls Tryz.prog 14 #[iv.val] w1 (kq w1 iv iv.geo 64 4 256 1 8 8 0 4 6 3)):=λw1 hT=>lG Cy CV w1 hT;have HT:=aa tab;clear tab;have hmk:∀w',(Instr.makeSlice 59 (.int .i64 1) (.int .i64 1)).run Tryz.prog w'=.ok (.slice (some ⟨w'.heap.size,0,none⟩) 1 1) (w'.alloc (.cells #[.slice none 0 0] 128)):=λw'=>(iL (n:=1) Tryz.underlying59 Tryz.lT rfl (by decide) (by decide) w');go_enter Tryz.func4,Tryz.ntmps4
 go_wp2_with fail
 refine(qR _).mono ?_;rintro e w1 ⟨rfl,hf⟩;have HF1:=aa hf;clear hf;have HN1:=aa (HN.out w1 (HT.out.fr HF1.out (by simp)));clear HN;go_wp2_with fail
 refine HN1.out.mono ?_;intro e w2 hP;obtain⟨L,X,own,rfl,hH,hB,hcf,-⟩:=hP.at HF1.out;have hM:HM w w2 L X h15 (HTn 8 8 4 0 256) 6 3 [] (λ_=>False) (λ_=>True):=HM.of0 hH;have HB:Hid (L.B=4/\L.cfg=iv):=⟨hB,hcf⟩;have hM2:=(hM.alloc ah.none 128 #[.slice none 0 0]).alloc ah.none 61 #[.bool false,.slice (some ⟨w2.heap.size,0,none⟩) 1 1];have HM2:=aa hM2;have c27:((w2.alloc (.cells #[.slice none 0 0] 128)).alloc (.cells #[.bool false,.slice (some ⟨w2.heap.size,0,none⟩) 1 1] 61)).cell? ⟨L.hb,27,none⟩=some (.slice L.rA 1 L.rc):=hM2.hr.cR;have cs1:((w2.alloc (.cells #[.slice none 0 0] 128)).alloc (.cells #[.bool false,.slice (some ⟨w2.heap.size,0,none⟩) 1 1] 61)).cell? ⟨w2.heap.size+1,1,none⟩=some (.slice (some ⟨w2.heap.size,0,none⟩) 1 1):=by
  have:=(hM2.blk (C0 ..)).cell 1;rw[show(w2.alloc (.cells #[.slice none 0 0] 128)).heap.size=w2.heap.size+1 by simp]at this;exact this
 have HNw:=aa (qL c27 cs1 (t:=0) (by decide) (by decide));clear hP hH hB hcf hM hM2 HN1 c27 cs1;go_wp2_with fail
 refine HNw.out.mono ?_;rintro e w3 ⟨mb,rfl,hl,hb,hf⟩;obtain⟨E,sb,hM3,hne,hsb⟩:∃(E:aK) (sb':Nat),HM w w3 L X h15 (HTn 8 8 4 0 256) 6 3 ((mb,127,muV L.hb 0 sb' (MU.zero 0))::E) (λ_=>False) (λ_=>True)/\(∀q,q∈E->q.1≠mb)/\sb'=w2.heap.size+1:=
  ⟨_,_,HM2.out.new ah.none hf hb hl,λq hq=>by have:=(HM2.out.blk (b:=q.1) (t:=q.2.1) (cs:=q.2.2) hq).lt;omega,rfl⟩
 have HI:=aa (dZ (hM3.blk (C0 ..)));rw[show((MU.zero 0).st==0)=true by rfl]at HI;have HSt:=aa (hM3.mut (P:=λe=>e=.returned (.int .i64 0)) ah.none HT.out (m':=⟨0,1,1,1,0,0,1,0⟩) hne (λhb=>lJ hb rfl ⟨1,1,1,0,0⟩));unfold opV at HSt;have HNE:=aa hne;clear hM3 hne hf hb hl HM2 HNw hsb;go_wp2_with (first|(go_at_call 17;refine HI.out.mono ?_;rintro e w' ⟨rfl,rfl⟩))
 refine HSt.out.mono ?_;rintro e w4 ⟨rfl,hM4⟩;have HS1:=aa (Ap HT.out HB.out.1 HB.out.2 hM4 HNE.out);clear hM4 HSt HI;go_wp2_with fail
 refine HS1.out.mono ?_;rintro e w5 ⟨rfl,hM5⟩;have hM6:=hM5.alloc ah.none 73 #[.int .i64 0,.int .i64 0,.int .i64 0,.int .u64 0,.bool false,.bool false,.bool true,.bool false,.slice none 0 0];obtain⟨E2,hE2⟩:∃E2:aK,E2=(w5.heap.size,73,#[.int .i64 0,.int .i64 0,.int .i64 0,.int .u64 0,.bool false,.bool false,.bool true,.bool false,.slice none 0 0])::E:=⟨_,rfl⟩;have hlm:=(hM5.blk (C0 ..)).lt;have HNE2:Hid (∀q,q∈E2->q.1≠mb):=λq hq=>by
  rw[hE2]at hq;rcases C1.1 hq with rfl|hq
  ·show w5.heap.size≠mb;omega
  ·exact HNE.out q hq
 have hM7:HM w _ L X tx (HTn 8 8 4 0 256) 6 3 ((mb,127,muV L.hb 0 sb ⟨0,1,1,1,0,0,5,((0*h15.W:Nat):Int)⟩)::E2) (λ_=>False) (λ_=>True):=hM6.sub (λy hy=>by rw[hE2]at hy;simp only[C1]at hy ⊢;rcases hy with e|e|e <;> simp[e]);have HS2:=aa (Aq HT.out HB.out.1 HB.out.2 hM7 HNE2.out);have HE2:Hid ((w5.heap.size,73,#[.int .i64 0,.int .i64 0,.int .i64 0,.int .u64 0,.bool false,.bool false,.bool true,.bool false,.slice none 0 0])∈E2):=by rw[hE2];exact C0 ..
 clear hM5 hM6 hM7 HS1 hE2;go_wp2_with fail
 refine HS2.out.mono ?_;rintro e w6 ⟨rfl,hM8⟩;have hr0:=hM8.blk (CZ _ HE2.out);have a1:=hr0.cell 5;have a2:=hr0.cell 6;have NA:=hr0.lt;have hM9:=hM8.alloc ah.none 73 #[.int .i64 0,.int .i64 0,.int .i64 0,.int .u64 0,.bool false,.bool true,.bool false,.bool false,.slice none 0 0];have HI9:=aa (dZ (hM9.blk (CZ _ (C0 ..))));have NM:=(hM8.blk (C0 ..)).lt;obtain⟨gr,offr,hrA⟩:=hM9.rA (by decide);have c27:(w6.alloc (.cells #[.int .i64 0,.int .i64 0,.int .i64 0,.int .u64 0,.bool false,.bool true,.bool false,.bool false,.slice none 0 0] 73)).cell? ⟨L.hb,27,none⟩=some (.slice (some ⟨gr,offr,none⟩) 1 L.rc):=by rw[<- hrA];exact hM9.hr.cR
 have cr:=hM9.Co hrA (i:=0) (by decide);rw[Nat.add_zero]at cr;have N27:=af c27;have NCR:=af cr;have HLn:=aa (hM9.CP ah.none (i:=0) (by decide));have HFin:Hid (Fr [] w (w6.alloc (.cells #[.int .i64 0,.int .i64 0,.int .i64 0,.int .u64 0,.bool false,.bool true,.bool false,.bool false,.slice none 0 0] 73))):=hM9.fr;rw[show((MU.zero 1).st==0)=true by rfl]at HI9;rw[show((Cz.st 0).length:Int)=1 by rfl]at HLn;clear hM8 hM9 hr0 HS2 hrA;go_wp2_with fail
 refine HI9.out.mono ?_;rintro e w7 ⟨rfl,rfl⟩;go_wp2_with fail
 refine HLn.out.mono ?_;rintro e w8 ⟨rfl,hM10⟩;have HFin2:=aa hM10.fr;clear hM10 HFin;go_wp2_with fail
 go_ret
 exact⟨rfl,HFin2.out⟩
end Go.Proofs.YtimlkjppaalfaaaGreatDoor
