/- Several texts joined (pack.py): Xd Zf Zg Uy. -/
import Derived.Test.YtimlkjppaalfaaaGreatDoorPW24
import Derived.WalkKit
import Derived.BigQuiet
import Derived.Deep.CutRange
import Derived.Deep.RegionHeld3
import Derived.Test.YtimlkjppaalfaaaGreatDoorPW31
set_option linter.unusedVariables false
set_option linter.unusedSimpArgs false
set_option maxHeartbeats 3200000
set_option maxRecDepth 100000
open List renaming mem_cons_of_mem->CZ,mem_cons_self->C0,mem_cons->C1
open Int renaming eq_ofNat_of_zero_le->Da
namespace Go.Proofs.YtimlkjppaalfaaaGreatDoor
open Go.RowKit Go.Gl HS
section
variable {W w w':World}{L:HL}{X:HX}{h h2:HS}{x x2:HT}{s k:Nat}{E:aK}{D:Nat->Prop}{Q:World->Prop}{mb t sb:Nat}{m:MU}
theorem yk(hS:ah D Q)(hT:Tab W)(H:HM W w L X h x s k ((mb,127,muV L.hb t sb m)::E) D Q)(hne:∀q,q∈E->q.1≠mb)(ht:t<h.T)(hB:L.B<=64)(hl:(h.st t).length<=L.B)
  {I S P:Nat} (ha:m.a=(P:Int)) (hb:m.b=((S-1-P:Nat):Int)) (had:m.ad=(I:Int)) (hP:P<S) (hz:S<=1048576) (hn:I+S<=h.n) (hbg:h.g.jS (S:Int)=false) (hd:(m.dn:Int)+1<=9223372036854775807) :
  Calls Tryz.prog 48 #[.pointer (some ⟨mb,0,none⟩)] w λe w'=>e=.returned (bm (t:Int) (m.dn:Int) ⟨ay L.B (h.st t),0,false⟩ true false false (.slice none 0 0)) /\
   HM W w' L X { h with f:=upd (aB h.f I S (λ_=>0)) I (aY S P),st:=bk h.st t (aH L.B (h.st t) ((I:Int)+1)) } x s k ((mb,127,muV L.hb t sb (MU.zero (m.dn+1)))::E) D Q:=by
 have hmb:=H.blk (C0 ..);have hlt:=hmb.lt;have hnm:=H.ok.dC;obtain⟨c0,c1,c2,c3,c4,c5,c6,c7,c8,c9,c10⟩:=aJ hmb;rw[ha]at c5;rw[hb]at c6;rw[had]at c10;have e1:IntKind.i64.wrap (1+(P:Int))=1+(P:Int):=IntWalk.i64_in _ ⟨by omega,by omega⟩;have e2:IntKind.i64.wrap (1+(P:Int)+((S-1-P:Nat):Int))=(S:Int):=by rw[IntWalk.i64_in _ ⟨by omega,by omega⟩];omega
 clear hmb ha hb had;have hltE:∀q,q∈E->q.1<w.heap.size:=λq hq=>(H.blk (b:=q.1) (t:=q.2.1) (cs:=q.2.2) (CZ _ hq)).lt;have HX2:Hid (HM W (((w.alloc (.cells #[.int .i64 0,.int .i64 0,.int .i64 0,.int .u64 0,.bool false,.bool false,.bool false,.bool false,.slice none 0 0] 73)).alloc (.cells #[.int .i64 m.k,.int .i64 (P:Int),.int .i64 ((S-1-P:Nat):Int),.int .i64 m.c,.int .u64 m.v] 69)).drew) L X h x s k ((w.heap.size+1,69,#[.int .i64 m.k,.int .i64 (P:Int),.int .i64 ((S-1-P:Nat):Int),.int .i64 m.c,.int .u64 m.v])::(w.heap.size,73,#[.int .i64 0,.int .i64 0,.int .i64 0,.int .u64 0,.bool false,.bool false,.bool false,.bool false,.slice none 0 0])::(mb,127,muV L.hb t sb m)::E) D Q):=by
  have q:=((H.alloc hS 73 #[.int .i64 0,.int .i64 0,.int .i64 0,.int .u64 0,.bool false,.bool false,.bool false,.bool false,.slice none 0 0]).alloc hS 69 #[.int .i64 m.k,.int .i64 (P:Int),.int .i64 ((S-1-P:Nat):Int),.int .i64 m.c,.int .u64 m.v]).fr0 hS (Fr.refl _ _).drew;rw[show(w.alloc (.cells #[.int .i64 0,.int .i64 0,.int .i64 0,.int .u64 0,.bool false,.bool false,.bool false,.bool false,.slice none 0 0] 73)).heap.size=w.heap.size+1 by simp]at q;exact q
 have HMk:Hid (∀w' E',HM W w' L X h x s k E' D Q->Calls Tryz.prog 92 #[.pointer (some ⟨L.ab,0,none⟩),.int .i64 (I:Int),.int .i64 (S:Int),.int .i64 (P:Int)] w' λe w''=>e=.returned (.int .i64 0)/\HM W w'' L X { h with f:=upd (aB h.f I S (λ_=>0)) I (aY S P) } x s k E' D Q):=λw' E' q=>q.make hS ⟨by omega,hz⟩ hP hn;have HBg:Hid (∀w' E',HM W w' L X { h with f:=upd (aB h.f I S (λ_=>0)) I (aY S P) } x s k E' D Q->Calls Tryz.prog 93 #[.agg #[.int .i64 h.g.words,.int .i64 h.g.rw,.int .i64 h.g.cw,.int .i64 h.g.regions,.int .i64 h.g.aF,.int .i64 h.g.max],.int .i64 (S:Int)] w' λe w''=>e=.returned (.bool false)/\HM W w'' L X { h with f:=upd (aB h.f I S (λ_=>0)) I (aY S P) } x s k E' D Q):=λw' E' q=>by
  refine(gM h.g (S:Int) w' (by have:=q.dim.rw;simp only at this;rw[this];omega)).mono ?_;rintro e w'' ⟨rfl,hf⟩;rw[hbg];exact⟨rfl,q.fr0 hS hf⟩
 have HSk:Hid (∀w' E',(mb,127,muV L.hb t sb m)∈E'->HM W w' L X { h with f:=upd (aB h.f I S (λ_=>0)) I (aY S P) } x s k E' D Q->Calls Tryz.prog 89 #[.pointer (some ⟨mb,0,none⟩)] w' λe w''=>e=.returned (.pointer (some ⟨L.S t,0,none⟩))/\HM W w'' L X { h with f:=upd (aB h.f I S (λ_=>0)) I (aY S P) } x s k E' D Q):=λw' E' hm q=>(cn (q.blk hm) q.hr ht).mono (by rintro e w'' ⟨rfl,hf⟩;exact⟨rfl,q.fr0 hS hf⟩);have HRe:=aa (λw'=>fH I (by omega) w');have HPu:Hid (∀w' E',HM W w' L X { h with f:=upd (aB h.f I S (λ_=>0)) I (aY S P) } x s k E' D Q->Calls Tryz.prog 95 #[.pointer (some ⟨L.S t,0,none⟩),.int .u64 ((I:Int)+1)] w' λe w''=>e=.returned (.int .i64 (ay L.B (h.st t)))/\HM W w'' L X { h with f:=upd (aB h.f I S (λ_=>0)) I (aY S P),st:=bk h.st t (aH L.B (h.st t) ((I:Int)+1)) } x s k E' D Q):=λw' E' q=>q.qv hS (i:=t) ht hB hl (r:=(I:Int)+1) ⟨by omega,by omega⟩;have HAn:Hid (∀w' ob rb c1 c2,ob≠mb->rb≠mb->HM W w' L X { h with f:=upd (aB h.f I S (λ_=>0)) I (aY S P),st:=bk h.st t (aH L.B (h.st t) ((I:Int)+1)) } x s k ((ob,69,c1)::(rb,73,c2)::(mb,127,muV L.hb t sb m)::E) D Q->Calls Tryz.prog 52 #[.pointer (some ⟨mb,0,none⟩),gt 0 0 ⟨ay L.B (h.st t),0,false⟩] w' λe w''=>e=.returned (bm (t:Int) (m.dn:Int) ⟨ay L.B (h.st t),0,false⟩ true false false (.slice none 0 0))/\HM W w'' L X { h with f:=upd (aB h.f I S (λ_=>0)) I (aY S P),st:=bk h.st t (aH L.B (h.st t) ((I:Int)+1)) } x s k ((rb,73,c2)::(mb,127,muV L.hb t sb (MU.zero (m.dn+1)))::E) D Q):=λw' ob rb c1 c2 h1 h2 q=>by
  have q2:HM W w' L X { h with f:=upd (aB h.f I S (λ_=>0)) I (aY S P),st:=bk h.st t (aH L.B (h.st t) ((I:Int)+1)) } x s k ((mb,127,muV L.hb t sb m)::(rb,73,c2)::E) D Q:=q.sub (λy hy=>by simp only[C1]at hy ⊢;rcases hy with e|e|e <;> simp[e]);refine(q2.mut (P:=λe=>e=.returned (bm (t:Int) (m.dn:Int) ⟨ay L.B (h.st t),0,false⟩ true false false (.slice none 0 0))) hS hT (m':=MU.zero (m.dn+1)) (λy hy=>?_) (λhb=>ey hb hd 0 0 ⟨ay L.B (h.st t),0,false⟩)).mono ?_
  ·rcases C1.1 hy with rfl|hy
   ·exact h2
   ·exact hne y hy
  ·rintro e w'' ⟨he,q3⟩;exact⟨he,q3.sub (λy hy=>by simp only[C1]at hy ⊢;rcases hy with e|e|e <;> simp[e])⟩
 have HEnd:Hid (∀w' rb a0 a1 a2 a3 a4 a5 a6 a7 a8 v0 v1 v2 v3 v4 v5 v6 v7 v8,rb≠mb->(∀q,q∈E->q.1≠rb)->HM W w' L X { h with f:=upd (aB h.f I S (λ_=>0)) I (aY S P),st:=bk h.st t (aH L.B (h.st t) ((I:Int)+1)) } x s k ((rb,73,#[a0,a1,a2,a3,a4,a5,a6,a7,a8])::(mb,127,muV L.hb t sb (MU.zero (m.dn+1)))::E) D Q->HM W (cD w' rb v0 v1 v2 v3 v4 v5 v6 v7 v8) L X { h with f:=upd (aB h.f I S (λ_=>0)) I (aY S P),st:=bk h.st t (aH L.B (h.st t) ((I:Int)+1)) } x s k ((mb,127,muV L.hb t sb (MU.zero (m.dn+1)))::E) D Q):=λw' rb a0 a1 a2 a3 a4 a5 a6 a7 a8 v0 v1 v2 v3 v4 v5 v6 v7 v8 hr hq q=>
  q.cS hS hT (λy hy=>by
   rcases C1.1 hy with rfl|hy
   ·exact λe=>hr e.symm
   ·exact hq y hy) v0 v1 v2 v3 v4 v5 v6 v7 v8
 have HRB:Hid (w.heap.size+1≠mb/\w.heap.size≠mb/\∀q,q∈E->q.1≠w.heap.size):=⟨by omega,by omega,λq hq=>by have:=hltE q hq;omega⟩;have HCe:Hid (∀w' E',HM W w' L X { h with f:=upd (aB h.f I S (λ_=>0)) I (aY S P) } x s k E' D Q->fG w' L X h.g h.T):=λw' E' q=>q.hc;have HK0:Hid (∀w',HM W w' L X h x s k ((w.heap.size+1,69,#[.int .i64 m.k,.int .i64 (P:Int),.int .i64 ((S-1-P:Nat):Int),.int .i64 m.c,.int .u64 m.v])::(w.heap.size,73,#[.int .i64 0,.int .i64 0,.int .i64 0,.int .u64 0,.bool false,.bool false,.bool false,.bool false,.slice none 0 0])::(mb,127,muV L.hb t sb m)::E) D Q->w'.cell? ⟨mb,0,none⟩=some (.pointer (some ⟨L.hb,0,none⟩))/\w'.cell? ⟨L.hb,20,none⟩=some (.pointer (some ⟨L.ab,0,none⟩))/\w'.cell? ⟨w.heap.size+1,1,none⟩=some (.int .i64 (P:Int))):=λw' q=>⟨(q.blk (CZ _ (CZ _ (C0 ..)))).cell 0,q.hc.c20,(q.blk (C0 ..)).cell 1⟩;have HK1:Hid (∀w',HM W w' L X { h with f:=upd (aB h.f I S (λ_=>0)) I (aY S P) } x s k ((w.heap.size+1,69,#[.int .i64 m.k,.int .i64 (P:Int),.int .i64 ((S-1-P:Nat):Int),.int .i64 m.c,.int .u64 m.v])::(w.heap.size,73,#[.int .i64 0,.int .i64 0,.int .i64 0,.int .u64 0,.bool false,.bool false,.bool false,.bool false,.slice none 0 0])::(mb,127,muV L.hb t sb m)::E) D Q->w'.cell? ⟨mb,0,none⟩=some (.pointer (some ⟨L.hb,0,none⟩))/\w'.cell? ⟨L.hb,20,none⟩=some (.pointer (some ⟨L.ab,0,none⟩))/\w'.cell? ⟨w.heap.size+1,1,none⟩=some (.int .i64 (P:Int))):=λw' q=>⟨(q.blk (CZ _ (CZ _ (C0 ..)))).cell 0,q.hc.c20,(q.blk (C0 ..)).cell 1⟩;have HMem:Hid ((mb,127,muV L.hb t sb m)∈((w.heap.size+1,69,#[.int .i64 m.k,.int .i64 (P:Int),.int .i64 ((S-1-P:Nat):Int),.int .i64 m.c,.int .u64 m.v])::(w.heap.size,73,#[.int .i64 0,.int .i64 0,.int .i64 0,.int .u64 0,.bool false,.bool false,.bool false,.bool false,.slice none 0 0])::(mb,127,muV L.hb t sb m)::E)):=CZ _ (CZ _ (C0 ..));unfold bm at HAn ⊢;unfold gt at HAn;simp only at HAn;clear hltE H hz hl hB hd hbg hn hP ht hne hnm;generalize ay L.B (h.st t)=er at *;go_enter Tryz.func48,Tryz.ntmps48
 go_wp2_with fail
 go_region
 go_wp2_with fail
 generalize ((w.alloc (.cells #[.int .i64 0,.int .i64 0,.int .i64 0,.int .u64 0,.bool false,.bool false,.bool false,.bool false,.slice none 0 0] 73)).alloc (.cells #[.int .i64 m.k,.int .i64 (P:Int),.int .i64 ((S-1-P:Nat):Int),.int .i64 m.c,.int .u64 m.v] 69)).drew=w1 at *;have HAd:=aa (HX2.out.fr0 hS (Fr.refl _ _).drew);have K0:=HK0.out _ HAd.out;go_region_held3 (λw'=>w'.cell? ⟨mb,0,none⟩=some (.pointer (some ⟨L.hb,0,none⟩))/\w'.cell? ⟨L.hb,20,none⟩=some (.pointer (some ⟨L.ab,0,none⟩))/\w'.cell? ⟨w.heap.size+1,1,none⟩=some (.int .i64 (P:Int)))
  (first|with_reducible exact K0|go_keep)
  (first|(go_at_call 92;refine(HMk.out _ _ HAd.out).mono ?_;rintro e w2 ⟨rfl,hA⟩;have HA2:=aa hA;have K0:=HK1.out _ hA;clear hA))
 all_goals
  obtain⟨c14,c15,c16,c17,c18,c19,-,-,-,-,-,-,-,-,-,NH⟩:=HCe.out _ _ HA2.out;have k0:=K0.1;have HB2:=aa (HBg.out _ _ HA2.out);clear K0;go_wp2_with fail
  refine HB2.out.mono ?_;rintro e w3 ⟨rfl,hA⟩;have HK3:=aa (HSk.out _ _ HMem.out hA);clear hA c14 c15 c16 c17 c18 c19 NH k0 HB2;go_wp2_with fail
  refine HK3.out.mono ?_;rintro e w4 ⟨rfl,hA⟩;have HA4:=aa hA;clear hA HK3;go_wp2_with fail
  refine(HRe.out _).mono ?_;rintro e w4' ⟨rfl,rfl⟩;have HP4:=aa (HPu.out _ _ HA4.out);go_wp2_with fail
  refine HP4.out.mono ?_;rintro e w5 ⟨rfl,hA⟩;have HN5:=aa (HAn.out _ _ _ _ _ HRB.out.1 HRB.out.2.1 hA);clear hA HP4;go_wp2_with fail
  refine HN5.out.mono ?_;rintro e w6 ⟨rfl,hA⟩;have HA6:=aa hA;have hrb:=hA.blk (C0 ..);have y0:=hrb.cell 0;have y1:=hrb.cell 1;have y2:=hrb.cell 2;have y3:=hrb.cell 3;have y4:=hrb.cell 4;have y5:=hrb.cell 5;have y6:=hrb.cell 6;have y7:=hrb.cell 7;have y8:=hrb.cell 8;have z0:=hrb.frozen 0;have z1:=hrb.frozen 1;have z2:=hrb.frozen 2;have z3:=hrb.frozen 3;have z4:=hrb.frozen 4;have z5:=hrb.frozen 5;have z6:=hrb.frozen 6;have z7:=hrb.frozen 7;have z8:=hrb.frozen 8;have NR:=hrb.lt;clear hA hrb HN5;go_wp2_with fail
  refine bodyPost_ret (v:=.agg #[.int .i64 (t:Int),.int .i64 (m.dn:Int),.int .i64 er,.int .u64 0,.bool false,.bool true,.bool false,.bool false,.slice none 0 0]) (by simp[results,Tryz.results48,go_sem, *]) rfl ⟨rfl,?_⟩;exact HEnd.out _ _ _ _ _ _ _ _ _ _ _ _ _ _ _ _ _ _ _ _ HRB.out.2.1 HRB.out.2.2 HA6.out
theorem yl(hS:ah D Q)(hT:Tab W)(H:HM W w L X h x s k ((mb,127,muV L.hb t sb m)::E) D Q)(hne:∀q,q∈E->q.1≠mb)(ht:t<h.T)(hB:L.B<=64)(hl:(h.st t).length<=L.B)
  {I S P:Nat} (ha:m.a=(P:Int)) (hb:m.b=((S-1-P:Nat):Int)) (had:m.ad=(I:Int)) (hP:P<S) (hz:S<=1048576) (hn:I+S<=h.n) (hbg:h.g.jS (S:Int)=true) (hd:(m.dn:Int)+1<=9223372036854775807) :
  Calls Tryz.prog 48 #[.pointer (some ⟨mb,0,none⟩)] w λe w'=>e=.returned (bm (t:Int) (m.dn:Int) ⟨ay L.B (h.st t),0,false⟩ true false false (.slice none 0 0)) /\
   HM W w' L X { h with f:=upd (aB h.f I S (λ_=>0)) I (aY S P),st:=bk h.st t (aH L.B (h.st t) ((I:Int)+1)) } { x with O:=obj x.cw x.O I S } s k ((mb,127,muV L.hb t sb (MU.zero (m.dn+1)))::E) D Q:=by
 have hmb:=H.blk (C0 ..);have hlt:=hmb.lt;have hnm:=H.ok.dC;obtain⟨c0,c1,c2,c3,c4,c5,c6,c7,c8,c9,c10⟩:=aJ hmb;rw[ha]at c5;rw[hb]at c6;rw[had]at c10;have e1:IntKind.i64.wrap (1+(P:Int))=1+(P:Int):=IntWalk.i64_in _ ⟨by omega,by omega⟩;have e2:IntKind.i64.wrap (1+(P:Int)+((S-1-P:Nat):Int))=(S:Int):=by rw[IntWalk.i64_in _ ⟨by omega,by omega⟩];omega
 clear hmb ha hb had;have hltE:∀q,q∈E->q.1<w.heap.size:=λq hq=>(H.blk (b:=q.1) (t:=q.2.1) (cs:=q.2.2) (CZ _ hq)).lt;have HX2:Hid (HM W (((w.alloc (.cells #[.int .i64 0,.int .i64 0,.int .i64 0,.int .u64 0,.bool false,.bool false,.bool false,.bool false,.slice none 0 0] 73)).alloc (.cells #[.int .i64 m.k,.int .i64 (P:Int),.int .i64 ((S-1-P:Nat):Int),.int .i64 m.c,.int .u64 m.v] 69)).drew) L X h x s k ((w.heap.size+1,69,#[.int .i64 m.k,.int .i64 (P:Int),.int .i64 ((S-1-P:Nat):Int),.int .i64 m.c,.int .u64 m.v])::(w.heap.size,73,#[.int .i64 0,.int .i64 0,.int .i64 0,.int .u64 0,.bool false,.bool false,.bool false,.bool false,.slice none 0 0])::(mb,127,muV L.hb t sb m)::E) D Q):=by
  have q:=((H.alloc hS 73 #[.int .i64 0,.int .i64 0,.int .i64 0,.int .u64 0,.bool false,.bool false,.bool false,.bool false,.slice none 0 0]).alloc hS 69 #[.int .i64 m.k,.int .i64 (P:Int),.int .i64 ((S-1-P:Nat):Int),.int .i64 m.c,.int .u64 m.v]).fr0 hS (Fr.refl _ _).drew;rw[show(w.alloc (.cells #[.int .i64 0,.int .i64 0,.int .i64 0,.int .u64 0,.bool false,.bool false,.bool false,.bool false,.slice none 0 0] 73)).heap.size=w.heap.size+1 by simp]at q;exact q
 have HMk:Hid (∀w' E',HM W w' L X h x s k E' D Q->Calls Tryz.prog 92 #[.pointer (some ⟨L.ab,0,none⟩),.int .i64 (I:Int),.int .i64 (S:Int),.int .i64 (P:Int)] w' λe w''=>e=.returned (.int .i64 0)/\HM W w'' L X { h with f:=upd (aB h.f I S (λ_=>0)) I (aY S P) } x s k E' D Q):=λw' E' q=>q.make hS ⟨by omega,hz⟩ hP hn;have HBg:Hid (∀w' E',HM W w' L X { h with f:=upd (aB h.f I S (λ_=>0)) I (aY S P) } x s k E' D Q->Calls Tryz.prog 93 #[.agg #[.int .i64 h.g.words,.int .i64 h.g.rw,.int .i64 h.g.cw,.int .i64 h.g.regions,.int .i64 h.g.aF,.int .i64 h.g.max],.int .i64 (S:Int)] w' λe w''=>e=.returned (.bool true)/\HM W w'' L X { h with f:=upd (aB h.f I S (λ_=>0)) I (aY S P) } x s k E' D Q):=λw' E' q=>by
  refine(gM h.g (S:Int) w' (by have:=q.dim.rw;simp only at this;rw[this];omega)).mono ?_;rintro e w'' ⟨rfl,hf⟩;rw[hbg];exact⟨rfl,q.fr0 hS hf⟩
 have HOf:Hid (∀w' E',HM W w' L X { h with f:=upd (aB h.f I S (λ_=>0)) I (aY S P) } x s k E' D Q->Calls Tryz.prog 94 #[.pointer (some ⟨X.ob,0,none⟩),.int .i64 (I:Int),.int .i64 (S:Int)] w' λe w''=>e=.returned (.int .i64 0)/\HM W w'' L X { h with f:=upd (aB h.f I S (λ_=>0)) I (aY S P) } { x with O:=obj x.cw x.O I S } s k E' D Q):=λw' E' q=>HM.oq (h:={ h with f:=upd (aB h.f I S (λ_=>0)) I (aY S P) }) hS q (by omega) hn;have HC22:Hid (∀w' E',HM W w' L X { h with f:=upd (aB h.f I S (λ_=>0)) I (aY S P) } x s k E' D Q->w'.cell? ⟨L.hb,22,none⟩=some (.pointer (some ⟨X.ob,0,none⟩))):=λw' E' q=>q.hc.c22;have HSk:Hid (∀w' E',(mb,127,muV L.hb t sb m)∈E'->HM W w' L X { h with f:=upd (aB h.f I S (λ_=>0)) I (aY S P) } { x with O:=obj x.cw x.O I S } s k E' D Q->Calls Tryz.prog 89 #[.pointer (some ⟨mb,0,none⟩)] w' λe w''=>e=.returned (.pointer (some ⟨L.S t,0,none⟩))/\HM W w'' L X { h with f:=upd (aB h.f I S (λ_=>0)) I (aY S P) } { x with O:=obj x.cw x.O I S } s k E' D Q):=λw' E' hm q=>(cn (q.blk hm) q.hr ht).mono (by rintro e w'' ⟨rfl,hf⟩;exact⟨rfl,q.fr0 hS hf⟩);have HRe:=aa (λw'=>fH I (by omega) w');have HPu:Hid (∀w' E',HM W w' L X { h with f:=upd (aB h.f I S (λ_=>0)) I (aY S P) } { x with O:=obj x.cw x.O I S } s k E' D Q->Calls Tryz.prog 95 #[.pointer (some ⟨L.S t,0,none⟩),.int .u64 ((I:Int)+1)] w' λe w''=>e=.returned (.int .i64 (ay L.B (h.st t)))/\HM W w'' L X { h with f:=upd (aB h.f I S (λ_=>0)) I (aY S P),st:=bk h.st t (aH L.B (h.st t) ((I:Int)+1)) } { x with O:=obj x.cw x.O I S } s k E' D Q):=λw' E' q=>q.qv hS (i:=t) ht hB hl (r:=(I:Int)+1) ⟨by omega,by omega⟩;have HAn:Hid (∀w' ob rb c1 c2,ob≠mb->rb≠mb->HM W w' L X { h with f:=upd (aB h.f I S (λ_=>0)) I (aY S P),st:=bk h.st t (aH L.B (h.st t) ((I:Int)+1)) } { x with O:=obj x.cw x.O I S } s k ((ob,69,c1)::(rb,73,c2)::(mb,127,muV L.hb t sb m)::E) D Q->Calls Tryz.prog 52 #[.pointer (some ⟨mb,0,none⟩),gt 0 0 ⟨ay L.B (h.st t),0,false⟩] w' λe w''=>e=.returned (bm (t:Int) (m.dn:Int) ⟨ay L.B (h.st t),0,false⟩ true false false (.slice none 0 0))/\HM W w'' L X { h with f:=upd (aB h.f I S (λ_=>0)) I (aY S P),st:=bk h.st t (aH L.B (h.st t) ((I:Int)+1)) } { x with O:=obj x.cw x.O I S } s k ((rb,73,c2)::(mb,127,muV L.hb t sb (MU.zero (m.dn+1)))::E) D Q):=λw' ob rb c1 c2 h1 h2 q=>by
  have q2:HM W w' L X { h with f:=upd (aB h.f I S (λ_=>0)) I (aY S P),st:=bk h.st t (aH L.B (h.st t) ((I:Int)+1)) } { x with O:=obj x.cw x.O I S } s k ((mb,127,muV L.hb t sb m)::(rb,73,c2)::E) D Q:=q.sub (λy hy=>by simp only[C1]at hy ⊢;rcases hy with e|e|e <;> simp[e]);refine(q2.mut (P:=λe=>e=.returned (bm (t:Int) (m.dn:Int) ⟨ay L.B (h.st t),0,false⟩ true false false (.slice none 0 0))) hS hT (m':=MU.zero (m.dn+1)) (λy hy=>?_) (λhb=>ey hb hd 0 0 ⟨ay L.B (h.st t),0,false⟩)).mono ?_
  ·rcases C1.1 hy with rfl|hy
   ·exact h2
   ·exact hne y hy
  ·rintro e w'' ⟨he,q3⟩;exact⟨he,q3.sub (λy hy=>by simp only[C1]at hy ⊢;rcases hy with e|e|e <;> simp[e])⟩
 have HEnd:Hid (∀w' rb a0 a1 a2 a3 a4 a5 a6 a7 a8 v0 v1 v2 v3 v4 v5 v6 v7 v8,rb≠mb->(∀q,q∈E->q.1≠rb)->HM W w' L X { h with f:=upd (aB h.f I S (λ_=>0)) I (aY S P),st:=bk h.st t (aH L.B (h.st t) ((I:Int)+1)) } { x with O:=obj x.cw x.O I S } s k ((rb,73,#[a0,a1,a2,a3,a4,a5,a6,a7,a8])::(mb,127,muV L.hb t sb (MU.zero (m.dn+1)))::E) D Q->HM W (cD w' rb v0 v1 v2 v3 v4 v5 v6 v7 v8) L X { h with f:=upd (aB h.f I S (λ_=>0)) I (aY S P),st:=bk h.st t (aH L.B (h.st t) ((I:Int)+1)) } { x with O:=obj x.cw x.O I S } s k ((mb,127,muV L.hb t sb (MU.zero (m.dn+1)))::E) D Q):=λw' rb a0 a1 a2 a3 a4 a5 a6 a7 a8 v0 v1 v2 v3 v4 v5 v6 v7 v8 hr hq q=>
  q.cS hS hT (λy hy=>by
   rcases C1.1 hy with rfl|hy
   ·exact λe=>hr e.symm
   ·exact hq y hy) v0 v1 v2 v3 v4 v5 v6 v7 v8
 have HRB:Hid (w.heap.size+1≠mb/\w.heap.size≠mb/\∀q,q∈E->q.1≠w.heap.size):=⟨by omega,by omega,λq hq=>by have:=hltE q hq;omega⟩;have HCe:Hid (∀w' E',HM W w' L X { h with f:=upd (aB h.f I S (λ_=>0)) I (aY S P) } x s k E' D Q->fG w' L X h.g h.T):=λw' E' q=>q.hc;have HK0:Hid (∀w',HM W w' L X h x s k ((w.heap.size+1,69,#[.int .i64 m.k,.int .i64 (P:Int),.int .i64 ((S-1-P:Nat):Int),.int .i64 m.c,.int .u64 m.v])::(w.heap.size,73,#[.int .i64 0,.int .i64 0,.int .i64 0,.int .u64 0,.bool false,.bool false,.bool false,.bool false,.slice none 0 0])::(mb,127,muV L.hb t sb m)::E) D Q->w'.cell? ⟨mb,0,none⟩=some (.pointer (some ⟨L.hb,0,none⟩))/\w'.cell? ⟨L.hb,20,none⟩=some (.pointer (some ⟨L.ab,0,none⟩))/\w'.cell? ⟨w.heap.size+1,1,none⟩=some (.int .i64 (P:Int))):=λw' q=>⟨(q.blk (CZ _ (CZ _ (C0 ..)))).cell 0,q.hc.c20,(q.blk (C0 ..)).cell 1⟩;have HK1:Hid (∀w',HM W w' L X { h with f:=upd (aB h.f I S (λ_=>0)) I (aY S P) } x s k ((w.heap.size+1,69,#[.int .i64 m.k,.int .i64 (P:Int),.int .i64 ((S-1-P:Nat):Int),.int .i64 m.c,.int .u64 m.v])::(w.heap.size,73,#[.int .i64 0,.int .i64 0,.int .i64 0,.int .u64 0,.bool false,.bool false,.bool false,.bool false,.slice none 0 0])::(mb,127,muV L.hb t sb m)::E) D Q->w'.cell? ⟨mb,0,none⟩=some (.pointer (some ⟨L.hb,0,none⟩))/\w'.cell? ⟨L.hb,20,none⟩=some (.pointer (some ⟨L.ab,0,none⟩))/\w'.cell? ⟨w.heap.size+1,1,none⟩=some (.int .i64 (P:Int))):=λw' q=>⟨(q.blk (CZ _ (CZ _ (C0 ..)))).cell 0,q.hc.c20,(q.blk (C0 ..)).cell 1⟩;have HMem:Hid ((mb,127,muV L.hb t sb m)∈((w.heap.size+1,69,#[.int .i64 m.k,.int .i64 (P:Int),.int .i64 ((S-1-P:Nat):Int),.int .i64 m.c,.int .u64 m.v])::(w.heap.size,73,#[.int .i64 0,.int .i64 0,.int .i64 0,.int .u64 0,.bool false,.bool false,.bool false,.bool false,.slice none 0 0])::(mb,127,muV L.hb t sb m)::E)):=CZ _ (CZ _ (C0 ..));unfold bm at HAn ⊢;unfold gt at HAn;simp only at HAn;clear hltE H hz hl hB hd hbg hn hP ht hne hnm;generalize ay L.B (h.st t)=er at *;go_enter Tryz.func48,Tryz.ntmps48
 go_wp2_with fail
 go_region
 go_wp2_with fail
 generalize ((w.alloc (.cells #[.int .i64 0,.int .i64 0,.int .i64 0,.int .u64 0,.bool false,.bool false,.bool false,.bool false,.slice none 0 0] 73)).alloc (.cells #[.int .i64 m.k,.int .i64 (P:Int),.int .i64 ((S-1-P:Nat):Int),.int .i64 m.c,.int .u64 m.v] 69)).drew=w1 at *;have HAd:=aa (HX2.out.fr0 hS (Fr.refl _ _).drew);have K0:=HK0.out _ HAd.out;go_region_held3 (λw'=>w'.cell? ⟨mb,0,none⟩=some (.pointer (some ⟨L.hb,0,none⟩))/\w'.cell? ⟨L.hb,20,none⟩=some (.pointer (some ⟨L.ab,0,none⟩))/\w'.cell? ⟨w.heap.size+1,1,none⟩=some (.int .i64 (P:Int)))
  (first|with_reducible exact K0|go_keep)
  (first|(go_at_call 92;refine(HMk.out _ _ HAd.out).mono ?_;rintro e w2 ⟨rfl,hA⟩;have HA2:=aa hA;have K0:=HK1.out _ hA;clear hA))
 all_goals
  obtain⟨c14,c15,c16,c17,c18,c19,-,-,-,-,-,-,-,-,-,NH⟩:=HCe.out _ _ HA2.out;have k0:=K0.1;have HB2:=aa (HBg.out _ _ HA2.out);clear K0;go_wp2_with fail
  refine HB2.out.mono ?_;rintro e w3 ⟨rfl,hA⟩;clear c14 c15 c16 c17 c18 c19 NH k0 HB2;have k0:w3.cell? ⟨mb,0,none⟩=some (.pointer (some ⟨L.hb,0,none⟩)):=(hA.blk HMem.out).cell 0;have k22:=HC22.out _ _ hA;have NH:=af k22;have HO3:=aa (HOf.out _ _ hA);clear hA;go_wp2_with fail
  refine HO3.out.mono ?_;rintro e w3' ⟨rfl,hA⟩;have HK3:=aa (HSk.out _ _ HMem.out hA);clear hA k0 k22 NH HO3;go_wp2_with fail
  refine HK3.out.mono ?_;rintro e w4 ⟨rfl,hA⟩;have HA4:=aa hA;clear hA HK3;go_wp2_with fail
  refine(HRe.out _).mono ?_;rintro e w4' ⟨rfl,rfl⟩;have HP4:=aa (HPu.out _ _ HA4.out);go_wp2_with fail
  refine HP4.out.mono ?_;rintro e w5 ⟨rfl,hA⟩;have HN5:=aa (HAn.out _ _ _ _ _ HRB.out.1 HRB.out.2.1 hA);clear hA HP4;go_wp2_with fail
  refine HN5.out.mono ?_;rintro e w6 ⟨rfl,hA⟩;have HA6:=aa hA;have hrb:=hA.blk (C0 ..);have y0:=hrb.cell 0;have y1:=hrb.cell 1;have y2:=hrb.cell 2;have y3:=hrb.cell 3;have y4:=hrb.cell 4;have y5:=hrb.cell 5;have y6:=hrb.cell 6;have y7:=hrb.cell 7;have y8:=hrb.cell 8;have z0:=hrb.frozen 0;have z1:=hrb.frozen 1;have z2:=hrb.frozen 2;have z3:=hrb.frozen 3;have z4:=hrb.frozen 4;have z5:=hrb.frozen 5;have z6:=hrb.frozen 6;have z7:=hrb.frozen 7;have z8:=hrb.frozen 8;have NR:=hrb.lt;clear hA hrb HN5;go_wp2_with fail
  refine bodyPost_ret (v:=.agg #[.int .i64 (t:Int),.int .i64 (m.dn:Int),.int .i64 er,.int .u64 0,.bool false,.bool true,.bool false,.bool false,.slice none 0 0]) (by simp[results,Tryz.results48,go_sem, *]) rfl ⟨rfl,?_⟩;exact HEnd.out _ _ _ _ _ _ _ _ _ _ _ _ _ _ _ _ _ _ _ _ HRB.out.2.1 HRB.out.2.2 HA6.out
end
section
variable {W w w':World}{L:HL}{X:HX}{h:HS}{x:HT}{s k:Nat}{E:aK}{D:Nat->Prop}{Q:World->Prop}{mb t sb:Nat}{m:MU}{σ:GS}{A:Nat->Nat}{rv:Nat->Option (Nat×Nat)}{M T:Nat}
def ym(W:World)(L:HL)(X:HX)(h:HS)(x:HT)(s k:Nat)(D:Nat->Prop)(Q:World->Prop)(mb t sb:Nat)(m:MU)(n:Int)(h2:HS)(x2:HT)(at_ er:Int):Prop:=
 ∀w' E',(mb,127,muV L.hb t sb m)∈E'->HM W w' L X h x s k E' D Q->Calls Tryz.prog 126 #[.pointer (some ⟨mb,0,none⟩),.int .i64 n] w' λe w''=>e=.returned (.tuple #[.int .i64 at_,.int .i64 er])/\HM W w'' L X h2 x2 s k E' D Q
theorem sT{g:Geo}{W0 z:Nat}(hrw:g.rw=(W0:Int))(hW:1<=W0)(hz:1<=z):∃c:Nat,g.bA (z:Int)=(c:Int)/\1<=c/\(c-1)*W0<z/\z<=c*W0/\c<=z:=by
 refine⟨(z-1) / W0+1,?_,Nat.le_add_left 1 _,?_,?_,?_⟩
 ·unfold Geo.bA;rw[if_neg (by omega),hrw,show((z:Int)-1)=((z-1:Nat):Int)by omega,<- Int.natCast_ediv];omega
 ·have:=Nat.div_mul_le_self (z-1) W0;simp only[Nat.add_sub_cancel];omega
 ·have h1:=Nat.lt_div_mul_add (a:=z-1) (b:=W0) (by omega);rw[Nat.add_mul,Nat.one_mul];omega
 ·have:=Nat.div_le_self (z-1) W0;omega
theorem vx(hS:ah D Q)(H:HM W w L X h x s k E D Q)(S:Sim h σ A rv)(ht:t<h.T)(hr:rv t=none){z:Nat}(hz:2<=z/\z<=1048576) :
  (∃(h2:HS) (I:Nat),ym W L X h x s k D Q mb t sb m (z:Int) h2 x (I:Int) 0/\Sim h2 σ A (ai rv t (some (I,z)))/\h2.T=h.T/\h2.n=h.n/\h2.g=h.g/\h2.W=h.W/\h2.R=h.R/\(∀q,h.s q≠0->h2.s q=h.s q)/\h2.f=h.f) \/
  (∃h2:HS,ym W L X h x s k D Q mb t sb m (z:Int) h2 x 0 6/\Sim h2 σ A rv/\h2.T=h.T/\h2.n=h.n/\h2.g=h.g/\h2.W=h.W/\h2.R=h.R/\(∀q,h.s q≠0->h2.s q=h.s q)/\h2.f=h.f):=by
 have dm:=H.dim;have ok:=H.ok;have hnn:=ok.nn;have hW:1<=h.W:=by have:=ok.ik;omega
 have hrw:=dm.rw;have hmx:=dm.mx;by_cases hb:h.g.jS (z:Int)=true
 ·obtain⟨c,hc0,hc1,hc2,hc3,hc4⟩:=sT hrw hW (z:=z) (by omega);rcases xN h.s h.R c hc1 with⟨f,hl⟩|hl
  ·refine .inl ⟨_,f*h.W,λw' E' hm q=>ku hS q hm (by omega) (by omega) hb (λw2 q2=>yi hS q2 hm hc0 hc1 hz.2 hc2 hc3 hl),S.run hnn hW ht hc1 ⟨by omega,hz.2⟩ hc2 hc3 hl hr,rfl,rfl,rfl,rfl,rfl,λq hq=>?_,rfl⟩;obtain⟨l1,l2,-⟩:=hl;have:¬ (f<=q/\q<f+c):=λe=>hq (l2 q e.1 e.2);show ak (bg h.s f (f+c) λ_=>5) f 4 q=h.s q;unfold ak bg;rw[if_neg (by omega),if_neg this]
  ·refine .inr ⟨h,λw' E' hm q=>ku hS q hm (by omega) (by omega) hb (λw2 q2=>yj hS q2 hm hc0 hc1 hz.2 ⟨?_,?_⟩ ?_ hl),S,rfl,rfl,rfl,rfl,rfl,λ_ _=>rfl,rfl⟩
   ·have:(((c-1)*h.W:Nat):Int)<(z:Int):=by omega
    rw[Int.natCast_mul,show((c-1:Nat):Int)=(c:Int)-1 by omega]at this;exact this
   ·have:(z:Int)<=((c*h.W:Nat):Int):=by omega
    rw[Int.natCast_mul]at this;exact this
   ·omega
 ·have hb:h.g.jS (z:Int)=false:=by simpa using hb
  have hzW:(z:Int)<=(h.W:Int):=by
   unfold Geo.jS at hb;rw[hrw]at hb;simp at hb;omega
  have hBI:=S.buf.Cs;by_cases ho:(z:Int)<=h.be t-h.bx t
  ·obtain⟨r,r1,r2,r3,r4,r5⟩:=S.buf.reg t ht (by omega);obtain⟨I,hI⟩:=Da (show 0<=h.bx t by omega);refine .inl ⟨_,I,λw' E' hm q=>?_,S.own hnn hW ht ⟨by omega,hz.2⟩ hI (by omega) hr,rfl,rfl,rfl,rfl,rfl,λ_ _=>rfl,rfl⟩;have:=qt hS q hm ht hb (by omega) ho;rwa[hI]at this ⊢
  ·have hreg:∀r,r<h.R->((r*h.W:Nat):Int)<=h.bx t->h.bx t<((r*h.W+h.W:Nat):Int)->(h.g.av (h.bx t)).toNat=r:=λr h1 h2 h3=>by
    rw[ok.reg h1 h2 h3];simp
   have S1:=S.drop hW ht hreg;have h0:¬ (bE h t).bx t<(bE h t).be t:=by
    show ¬ ak h.bx t 0 t<ak h.be t 0 t;unfold ak;rw[if_pos rfl,if_pos rfl];omega
   by_cases hy:((bn h.s 1 h.R).length:Int)<L.cfg.bP
   ·rcases ux h.s h.R with⟨j,hl⟩|hn
    ·refine .inl ⟨_,j*h.W,λw' E' hm q=>kt hS q hm ht hBI hb (by omega) hzW (by omega) hy hl,?_,rfl,rfl,rfl,rfl,rfl,λq hq=>?_,rfl⟩
     rotate_left
     ·show ak h.s j 1 q=h.s q;unfold ak;rw[if_neg (λe=>hq (by rw[e];exact hl.2.1))]
     have S2:=S1.fill (t:=t) hW ht (j:=j) hl h0;have ebx:(el (bE h t) t j).bx t=((j*h.W:Nat):Int):=by
      show ak _ t _ t=_;unfold ak;rw[if_pos rfl];rfl
     have ebe:(el (bE h t) t j).be t=((j*h.W+h.W:Nat):Int):=by
      show ak _ t _ t=_;unfold ak;rw[if_pos rfl];rfl
     have S3:=S2.own (n:=z) (a:=j*h.W) hnn hW ht ⟨by omega,hz.2⟩ ebx (by rw[ebx,ebe];omega) hr;rw[ebx]at S3;exact S3
    ·exact .inr ⟨bE h t,λw' E' hm q=>lM hS q hm ht hBI hb (by omega) (by omega) (.inr ⟨hy,hn⟩),S1,rfl,rfl,rfl,rfl,rfl,λ_ _=>rfl,rfl⟩
   ·exact .inr ⟨bE h t,λw' E' hm q=>lM hS q hm ht hBI hb (by omega) (by omega) (.inl (by omega)),S1,rfl,rfl,rfl,rfl,rfl,λ_ _=>rfl,rfl⟩
end
section
variable {W w w':World}{L:HL}{X:HX}{h:HS}{x:HT}{s k:Nat}{E:aK}{D:Nat->Prop}{Q:World->Prop}{mb t sb:Nat}{m:MU}{σ:GS}{A:Nat->Nat}{rv:Nat->Option (Nat×Nat)}{M T:Nat}
theorem sU(B M T:Nat)(σ:GS)(t:Nat){o:Po}(hk:o.k=1):bq B M T σ t o=⟨eG B M σ t o.a o.b,0,false⟩:=by unfold bq;rw[if_pos hk]
theorem oV(B M T:Nat)(σ:GS)(t:Nat){o:Po}(hk:o.k=1):aM B M T σ t o=bZ B M σ t o.a o.b:=by unfold aM;rw[if_pos hk]
theorem lR(hS:ah D Q)(hT:Tab W)(H:HM W w L X h x s k ((mb,127,muV L.hb t sb m)::E) D Q)(hne:∀q,q∈E->q.1≠mb)(hst:m.st=1\/m.st=2)(hk:m.k=1)(hd:(m.dn:Int)+1<=9223372036854775807)
  (S:Sim h σ A rv) (gk:GOk T L.B σ) (eT:h.T=T) (ht:t<T) (ho:dH m.op) (hr:rv t=none) (hB:L.B<=64) (hM:h.g.max=(M:Int)) (hM2:M<=1048576) :
  Calls Tryz.prog 19 #[.pointer (some ⟨mb,0,none⟩)] w (dJ W L X x s k E D Q mb t sb M T m h σ A rv):=by
 subst eT;have hlen:(h.st t).length=(σ.st t).length:=by rw[S.st t ht,List.length_map]
 have hle:=gk.len t;have step:∀ {h2:HS}{x2:HT}{m':MU}{r0 r1 r2 r3:Int}{b4 b5 b6 b7:Bool}{A8:Option Addr}{n8 c8:Nat},
   (∀w' E',(∀q,q∈E'->q.1≠mb)->HM W w' L X h x s k ((mb,127,muV L.hb t sb m)::E') D Q->Calls Tryz.prog 82 #[.pointer (some ⟨mb,0,none⟩)] w' λe w''=>e=.returned (.agg #[.int .i64 r0,.int .i64 r1,.int .i64 r2,.int .u64 r3,.bool b4,.bool b5,.bool b6,.bool b7,.slice A8 n8 c8])/\HM W w'' L X h2 x2 s k ((mb,127,muV L.hb t sb m')::E') D Q) ->
   Calls Tryz.prog 19 #[.pointer (some ⟨mb,0,none⟩)] w λe w'=>e=.returned (.agg #[.int .i64 r0,.int .i64 r1,.int .i64 r2,.int .u64 r3,.bool b4,.bool b5,.bool b6,.bool b7,.slice A8 n8 c8])/\HM W w' L X h2 x2 s k ((mb,127,muV L.hb t sb m')::E) D Q:=λhc=>by
  rcases hst with hst|hst
  ·exact dI hS hT H hne hst (λw1 rb1 c1 n1 n2 H1=>ge hS hT H1 (aL n1 hne) hk (λw2 rb2 c2 n3 n4 H2=>hc w2 _ (aL n3 (aL n1 hne)) H2))
  ·exact lQ hS hT H hne hst (λw1 rb1 c1 n1 n2 H1=>ge hS hT H1 (aL n1 hne) hk (λw2 rb2 c2 n3 n4 H2=>hc w2 _ (aL n3 (aL n1 hne)) H2))
 by_cases hsz:aE M m.a m.b
 ·refine(step (λw' E' n H2=>oR hS hT H2 n hM hM2 ho hd hsz)).mono ?_;rintro e w' ⟨rfl,hA⟩;have ea:bq L.B M h.T σ t m.op=⟨13,0,false⟩:=by rw[sU _ _ _ _ _ hk];unfold eG;rw[if_pos (show aE M m.op.a m.op.b from hsz)]
  have es:σ=aM L.B M h.T σ t m.op:=by rw[oV _ _ _ _ _ hk];unfold bZ;rw[if_pos (show aE M m.op.a m.op.b from hsz)]
  have:=dJ.fI (M:=M) (T:=h.T) (m:=m) (h:=h) (σ:=σ) hA S hr rfl rfl rfl rfl rfl es (λ_ _=>rfl) (λe=>by have:m.k=3:=e.1;omega);rw[ea]at this;exact this
 ·by_cases hfull:(h.st t).length=L.B
  ·refine(step (λw' E' n H2=>oT hS hT H2 n hM hM2 ho hd hsz ht hB hfull)).mono ?_;rintro e w' ⟨rfl,hA⟩;have ea:bq L.B M h.T σ t m.op=⟨15,0,false⟩:=by rw[sU _ _ _ _ _ hk];unfold eG ay;rw[if_neg (show ¬ aE M m.op.a m.op.b from hsz),if_neg (by omega)]
   have es:σ=aM L.B M h.T σ t m.op:=by rw[oV _ _ _ _ _ hk];unfold bZ;rw[if_neg (show ¬ aE M m.op.a m.op.b from hsz),if_neg (by omega)]
   have:=dJ.fI (M:=M) (T:=h.T) (m:=m) (h:=h) (σ:=σ) hA S hr rfl rfl rfl rfl rfl es (λ_ _=>rfl) (λe=>by have:m.k=3:=e.1;omega);rw[ea]at this;exact this
  ·have hlt:(h.st t).length<L.B:=by omega
   obtain⟨k1,k2,k3,k4⟩:=fP hsz;obtain⟨z,hz⟩:=Da (show 0<=1+m.a+m.b by omega);have hzn:(1+m.a+m.b).toNat=z:=by rw[hz];simp
   rcases vx (X:=X) (x:=x) (mb:=mb) (t:=t) (sb:=sb) (m:=m) hS H S ht hr (z:=z) ⟨by omega,by omega⟩with⟨h2,I,hw,S2,e1,e2,e3,e4,e5,e6,e7⟩|⟨h2,hw,S2,e1,e2,e3,e4,e5,e6,e7⟩
   ·refine(step (λw' E' n H2=>lN hS hT H2 n ht hB hlt hM hM2 hsz ho (ad:=(I:Int)) (λw3 E3 hm3 q3=>by rw[hz];exact hw w3 E3 hm3 q3))).mono ?_;rintro e w' ⟨rfl,hA⟩;exact⟨h2,x,σ,A,ai rv t (some (I,z)),_,hA,S2,.inr (.inr (.inr (.inr (.inl ⟨rfl,hk,hsz,I,rfl,by rw[aq];show some (I,z)=some (I,(1+m.a+m.b).toNat);rw[hzn]⟩)))),dr.refl _,e1,e2,e3,e4,e5,e6,λi hi=>az _ _ hi,λ_ _=>rfl,.inl ⟨rfl,rfl,rfl,rfl,.inr (.inl rfl),by show rkM 5<_;rcases hst with hst|hst <;> (rw[hst];decide),e7,λe=>by omega⟩⟩
   ·refine(step (λw' E' n H2=>oU hS hT H2 n hM hM2 ho hsz ht hB hlt (er:=6) (by decide) (λw3 E3 hm3 q3=>by rw[hz];exact hw w3 E3 hm3 q3))).mono ?_;rintro e w' ⟨rfl,hA⟩;exact⟨h2,x,σ,A,rv,_,hA,S2,.inr (.inr (.inl ⟨rfl,hk,hr⟩)),dr.refl _,e1,e2,e3,e4,e5,e6,λ_ _=>rfl,λ_ _=>rfl,.inr (.inl ⟨rfl,rfl,rfl,rfl,rfl,hk⟩)⟩
theorem Sim.yg(S:Sim h σ A rv){a z P:Nat}(ht:t<h.T)(hr:rv t=some (a,z))(hP:P<z):Sim { h with f:=upd (aB h.f a z (λ_=>0)) a (aY z P) } σ A (ai rv t none):=by
 have old:∀o,1<=o->o<=σ.N->∀u,A o<=u->u<A o+osz σ o->upd (aB h.f a z (λ_=>0)) a (aY z P) u=h.f u:=λo h1 h2 u h3 h4=>by
  have:¬ (a<=u/\u<a+z):=λe=>S.j8 t ht a z hr o h1 h2 u e.1 e.2 ⟨h3,h4⟩;unfold upd aB;rw[if_neg (by omega),if_neg this]
 have none_:∀ {i:Nat}{p:Nat×Nat},ai rv t none i=some p->rv i=some p:=λ{i p} e=>by
  unfold ai at e;split at e
  ·cases e
  ·exact e
 refine⟨⟨S.buf.reg,S.buf.one⟩,S.st,S.zm,λo h1 h2=>?_,λo h1 h2 j hj=>?_,λo h1 h2 j hj=>?_,S.use,S.dis,λi hi b y e=>S.rz i hi b y (none_ e),λi hi b y e=>S.j7 i hi b y (none_ e),λi hi b y e=>S.j8 i hi b y (none_ e),λi j hi hj hne b y c v e1 e2=>S.rr i j hi hj hne b y c v (none_ e1) (none_ e2),S.rest.yg ht hr hP (S.rz t ht a z hr).2 (S.j7 t ht a z hr) (S.j8 t ht a z hr) (λi hi hne b y e=>S.rr t i ht hi (λe2=>hne e2.symm) a z b y hr e)⟩
 ·exact(old o h1 h2 _ (Nat.le_refl _) (by have:=gU σ o;omega)).trans (S.hdr o h1 h2)
 ·show(upd _ _ _ (A o+1+j):Int)=_;rw[old o h1 h2 _ (by omega) (by unfold osz;omega)];exact S.ref o h1 h2 j hj
 ·show(upd _ _ _ (A o+1+σ.np (o:Int)+j):Int)=_;rw[old o h1 h2 _ (by omega) (by unfold osz;omega)];exact S.dat o h1 h2 j hj
theorem sV(hS:ah D Q)(hT:Tab W)(H:HM W w L X h x s k ((mb,127,muV L.hb t sb m)::E) D Q)(hne:∀q,q∈E->q.1≠mb)(hst:m.st=5)(hk:m.k=1)(hd:(m.dn:Int)+1<=9223372036854775807)
  (S:Sim h σ A rv) (gk:GOk T L.B σ) (eT:h.T=T) (ht:t<T) (hB:L.B<=64) (hsz:¬ aE M m.a m.b) {I:Nat} (had:m.ad=(I:Int)) (hr:rv t=some (I,(1+m.a+m.b).toNat)) :
  Calls Tryz.prog 19 #[.pointer (some ⟨mb,0,none⟩)] w (dJ W L X x s k E D Q mb t sb M T m h σ A rv):=by
 subst eT;have hlen:(h.st t).length=(σ.st t).length:=by rw[S.st t ht,List.length_map]
 have hle:=gk.len t;obtain⟨k1,k2,k3,k4⟩:=fP hsz;obtain⟨P,hP⟩:=Da k1;obtain⟨z,hz⟩:=Da (show 0<=1+m.a+m.b by omega);have hzn:(1+m.a+m.b).toNat=z:=by rw[hz];simp
 rw[hzn]at hr;obtain⟨z1,z2⟩:=S.rz t ht I z hr;have hb:m.b=((z-1-P:Nat):Int):=by omega
 have hPz:P<z:=by omega
 have hin:=(S.j7 t ht I z hr (I+z-1) (by omega) (by omega)).1;have ea:bq L.B M h.T σ t m.op=⟨ay L.B (h.st t),0,false⟩:=by
  rw[sU _ _ _ _ _ hk];unfold eG ay;rw[if_neg (show ¬ aE M m.op.a m.op.b from hsz),hlen]
 have step:∀ {x2:HT},dr x x2->(Calls Tryz.prog 19 #[.pointer (some ⟨mb,0,none⟩)] w λe w'=>e=.returned (bm (t:Int) (m.dn:Int) ⟨ay L.B (h.st t),0,false⟩ true false false (.slice none 0 0)) /\
   HM W w' L X { h with f:=upd (aB h.f I z (λ_=>0)) I (aY z P),st:=bk h.st t (aH L.B (h.st t) ((I:Int)+1)) } x2 s k ((mb,127,muV L.hb t sb (MU.zero (m.dn+1)))::E) D Q) ->
   Calls Tryz.prog 19 #[.pointer (some ⟨mb,0,none⟩)] w (dJ W L X x s k E D Q mb t sb M h.T m h σ A rv):=λ{x2} y hc=>by
  refine hc.mono ?_;rintro e w' ⟨rfl,hA⟩;by_cases hl:(σ.st t).length<L.B
  ·have hko:∀i,i<h.T->∀r,r∈σ.st i->0<=r/\r<=(σ.N:Int):=λi _ r hm=>gk.mem i r hm;have S1:=S.make ht hr hPz hP hb hko gk.ref;have S2:=S1.push (B:=L.B) (t:=t) ht ((σ.N:Int)+1);have er:bB (ai A (σ.N+1) I) ((σ.N:Int)+1)=(I:Int)+1:=by
    have:=iq (ai A (σ.N+1) I) (o:=σ.N+1) (by omega);rw[aq]at this;rw[<- this]
    congr 1
   rw[er]at S2;have es:(σ.new m.a m.b).push L.B t ((σ.N:Int)+1)=aM L.B M h.T σ t m.op:=by
    rw[oV _ _ _ _ _ hk];unfold bZ;rw[if_neg (show ¬ aE M m.op.a m.op.b from hsz),if_pos hl];rfl
   rw[<- ea];exact⟨_,x2,_,ai A (σ.N+1) I,ai rv t none,MU.zero (m.dn+1),hA,S2,.inl ⟨rfl,aq _ _ _⟩,y,rfl,rfl,rfl,rfl,rfl,λ_ _=>rfl,λi hi=>az _ _ hi,λo ho=>az _ _ (by omega),.inr (.inr ⟨false,rfl,es,rfl,.inr ⟨rfl,rfl⟩,gf.none (λe=>by have:m.k=3:=e.1;omega),λ_ _=>by omega⟩)⟩
  ·have S1:=S.yg ht hr hPz;have e2:bk h.st t (aH L.B (h.st t) ((I:Int)+1))=h.st:=by
    funext j
    unfold bk aH;split
    ·rename_i e
     subst e;rw[if_neg (by omega)]
    ·rfl
   rw[e2]at hA;have es:σ=aM L.B M h.T σ t m.op:=by
    rw[oV _ _ _ _ _ hk];unfold bZ;rw[if_neg (show ¬ aE M m.op.a m.op.b from hsz),if_neg hl]
   rw[<- ea];exact⟨_,x2,σ,A,ai rv t none,MU.zero (m.dn+1),hA,S1,.inl ⟨rfl,aq _ _ _⟩,y,rfl,rfl,rfl,rfl,rfl,λ_ _=>rfl,λi hi=>az _ _ hi,λ_ _=>rfl,.inr (.inr ⟨false,rfl,es,rfl,.inr ⟨rfl,rfl⟩,gf.none (λe=>by have:m.k=3:=e.1;omega),λ_ _=>by omega⟩)⟩
 have hl2:(h.st t).length<=L.B:=by omega
 by_cases hbg:h.g.jS (z:Int)=true
 ·exact step (x2:={ x with O:=obj x.cw x.O I z }) ⟨rfl,rfl,rfl,rfl,rfl,rfl,rfl⟩ (gV hS hT H hne hst (λw1 rb1 c1 n1 n2 H1=>yl hS hT H1 (aL n1 hne) ht hB hl2 hP hb had hPz z2 (by omega) hbg hd))
 ·exact step (dr.refl _) (gV hS hT H hne hst (λw1 rb1 c1 n1 n2 H1=>yk hS hT H1 (aL n1 hne) ht hB hl2 hP hb had hPz z2 (by omega) (by simpa using hbg) hd))
end
section
variable {W w w':World}{L:HL}{X:HX}{h h2:HS}{x x2:HT}{s k:Nat}{E:aK}{D:Nat->Prop}{Q:World->Prop}{mb t sb:Nat}{m m':MU}{r0 r1 r2 r3:Int}{b4 b5 b6 b7:Bool}{A8:Option Addr}{n8 c8:Nat}
theorem qG(hS:ah D Q)(hT:Tab W)(H:HM W w L X h x s k ((mb,127,muV L.hb t sb m)::E) D Q)(hne:∀q,q∈E->q.1≠mb)(hk:m.k=3){sv:Value}(hms:(sb,61,#[.bool false,sv])∈E)
  (hcall:∀w' E',(∀q,q∈E'->q.1≠mb)->(sb,61,#[.bool false,sv])∈E'->HM W w' L X h x s k ((mb,127,muV L.hb t sb m)::E') D Q->Calls Tryz.prog 47 #[.pointer (some ⟨mb,0,none⟩)] w' λe w''=>e=.returned (.agg #[.int .i64 r0,.int .i64 r1,.int .i64 r2,.int .u64 r3,.bool b4,.bool b5,.bool b6,.bool b7,.slice A8 n8 c8])/\HM W w'' L X h2 x2 s k ((mb,127,muV L.hb t sb m')::E') D Q) :
  Calls Tryz.prog 46 #[.pointer (some ⟨mb,0,none⟩)] w λe w'=>e=.returned (.agg #[.int .i64 r0,.int .i64 r1,.int .i64 r2,.int .u64 r3,.bool b4,.bool b5,.bool b6,.bool b7,.slice A8 n8 c8])/\HM W w' L X h2 x2 s k ((mb,127,muV L.hb t sb m')::E) D Q:=by
 have hmb:=H.blk (C0 ..);have hlt:=hmb.lt;have hltE:∀q,q∈E->q.1<w.heap.size:=λq hq=>(H.blk (b:=q.1) (t:=q.2.1) (cs:=q.2.2) (CZ _ hq)).lt;have hrm:w.heap.size≠mb:=by omega
 have hrE:∀q,q∈E->q.1≠w.heap.size:=λq hq=>by have:=hltE q hq;omega
 have hneR:∀cs:Array Value,∀q,q∈((w.heap.size,73,cs)::E:aK)->q.1≠mb:=λcs q hq=>by
  rcases C1.1 hq with rfl|hq
  ·exact hrm
  ·exact hne q hq
 have HX0:Hid (HM W (w.alloc (.cells #[.int .i64 0,.int .i64 0,.int .i64 0,.int .u64 0,.bool false,.bool false,.bool false,.bool false,.slice none 0 0] 73)) L X h x s k ((w.heap.size,73,#[.int .i64 0,.int .i64 0,.int .i64 0,.int .u64 0,.bool false,.bool false,.bool false,.bool false,.slice none 0 0])::(mb,127,muV L.hb t sb m)::E) D Q):=H.alloc hS 73 #[.int .i64 0,.int .i64 0,.int .i64 0,.int .u64 0,.bool false,.bool false,.bool false,.bool false,.slice none 0 0];have HEnd:Hid (∀w' a0 a1 a2 a3 a4 a5 a6 a7 a8 v0 v1 v2 v3 v4 v5 v6 v7 v8,HM W w' L X h2 x2 s k ((mb,127,muV L.hb t sb m')::(w.heap.size,73,#[a0,a1,a2,a3,a4,a5,a6,a7,a8])::E) D Q->HM W (cD w' w.heap.size v0 v1 v2 v3 v4 v5 v6 v7 v8) L X h2 x2 s k ((mb,127,muV L.hb t sb m')::E) D Q):=λw' a0 a1 a2 a3 a4 a5 a6 a7 a8 v0 v1 v2 v3 v4 v5 v6 v7 v8 q=>
  q.swap.cS hS hT (λy hy=>by
   rcases C1.1 hy with rfl|hy
   ·exact λe=>hrm e.symm
   ·exact hrE y hy) v0 v1 v2 v3 v4 v5 v6 v7 v8
 have q0:HM W (((w.alloc (.cells #[.int .i64 0,.int .i64 0,.int .i64 0,.int .u64 0,.bool false,.bool false,.bool false,.bool false,.slice none 0 0] 73)).alloc (.cells #[.int .i64 0,.int .i64 0,.int .i64 0,.int .u64 0,.bool false] 71)).alloc (.cells #[.int .i64 3,.int .i64 m.a,.int .i64 m.b,.int .i64 m.c,.int .u64 m.v] 69)).drew L X h x s k ((w.heap.size+1+1,69,#[.int .i64 3,.int .i64 m.a,.int .i64 m.b,.int .i64 m.c,.int .u64 m.v])::(w.heap.size+1,71,#[.int .i64 0,.int .i64 0,.int .i64 0,.int .u64 0,.bool false])::(w.heap.size,73,#[.int .i64 0,.int .i64 0,.int .i64 0,.int .u64 0,.bool false,.bool false,.bool false,.bool false,.slice none 0 0])::(mb,127,muV L.hb t sb m)::E) D Q:=by
  have q:=((HX0.out.alloc hS 71 #[.int .i64 0,.int .i64 0,.int .i64 0,.int .u64 0,.bool false]).alloc hS 69 #[.int .i64 3,.int .i64 m.a,.int .i64 m.b,.int .i64 m.c,.int .u64 m.v]).fr0 hS (Fr.refl _ _).drew;rw[show((w.alloc (.cells #[.int .i64 0,.int .i64 0,.int .i64 0,.int .u64 0,.bool false,.bool false,.bool false,.bool false,.slice none 0 0] 73)).alloc (.cells #[.int .i64 0,.int .i64 0,.int .i64 0,.int .u64 0,.bool false] 71)).heap.size=w.heap.size+1+1 by simp,show(w.alloc (.cells #[.int .i64 0,.int .i64 0,.int .i64 0,.int .u64 0,.bool false,.bool false,.bool false,.bool false,.slice none 0 0] 73)).heap.size=w.heap.size+1 by simp]at q;exact q
 have hn4:∀q,q∈((w.heap.size+1+1,69,#[.int .i64 3,.int .i64 m.a,.int .i64 m.b,.int .i64 m.c,.int .u64 m.v])::(w.heap.size+1,71,#[.int .i64 0,.int .i64 0,.int .i64 0,.int .u64 0,.bool false])::(w.heap.size,73,#[.int .i64 0,.int .i64 0,.int .i64 0,.int .u64 0,.bool false,.bool false,.bool false,.bool false,.slice none 0 0])::E:aK)->q.1≠mb:=λq hq=>by
  simp only[C1]at hq;rcases hq with e|e|e|e
  ·rw[e];show w.heap.size+1+1≠mb;omega
  ·rw[e];show w.heap.size+1≠mb;omega
  ·rw[e];exact hrm
  ·exact hne q e
 have HC:=aa (hcall _ _ hn4 (CZ _ (CZ _ (CZ _ hms))) (q0.sub (λy hy=>by simp only[C1]at hy ⊢;rcases hy with e|e|e|e|e <;> simp[e])));have HDr:Hid (∀w',HM W w' L X h2 x2 s k ((mb,127,muV L.hb t sb m')::(w.heap.size+1+1,69,#[.int .i64 3,.int .i64 m.a,.int .i64 m.b,.int .i64 m.c,.int .u64 m.v])::(w.heap.size+1,71,#[.int .i64 0,.int .i64 0,.int .i64 0,.int .u64 0,.bool false])::(w.heap.size,73,#[.int .i64 0,.int .i64 0,.int .i64 0,.int .u64 0,.bool false,.bool false,.bool false,.bool false,.slice none 0 0])::E) D Q->HM W w' L X h2 x2 s k ((mb,127,muV L.hb t sb m')::(w.heap.size,73,#[.int .i64 0,.int .i64 0,.int .i64 0,.int .u64 0,.bool false,.bool false,.bool false,.bool false,.slice none 0 0])::E) D Q):=λw' q=>q.sub (λy hy=>by simp only[C1]at hy ⊢;rcases hy with e|e|e <;> simp[e]);have hsb:=H.blk (CZ _ hms);have cs0:=hsb.cell 0;have NS:=hsb.lt;obtain⟨c0,c1,c2,c3,c4,c5,c6,c7,c8,c9,c10⟩:=aJ hmb;rw[hk]at c4;have hl1:mb<w.heap.size+1:=by omega
 have hl2:mb<w.heap.size+1+1:=by omega
 have n0:mb≠w.heap.size:=by omega
 have n1:mb≠w.heap.size+1:=by omega
 have n2:mb≠w.heap.size+1+1:=by omega
 have j1:sb<w.heap.size+1:=by omega
 have j2:sb<w.heap.size+1+1:=by omega
 have i0:sb≠w.heap.size:=by omega
 have i1:sb≠w.heap.size+1:=by omega
 have i2:sb≠w.heap.size+1+1:=by omega
 clear H hmb hltE HX0 hne hneR hrm hrE hk hcall hms hsb q0 hn4;go_enter Tryz.func46,Tryz.ntmps46
 go_wp2_with fail
 go_region
 go_wp2_with fail
 refine HC.out.mono ?_;rintro e w5 ⟨rfl,hA0⟩;have hA:=HDr.out _ hA0;clear hA0 c0 c1 c2 c3 c4 c5 c6 c7 c8 c9 c10 cs0 HC;have HA5:=aa hA;have hrb:=hA.blk (CZ _ (C0 ..));have y0:=hrb.cell 0;have y1:=hrb.cell 1;have y2:=hrb.cell 2;have y3:=hrb.cell 3;have y4:=hrb.cell 4;have y5:=hrb.cell 5;have y6:=hrb.cell 6;have y7:=hrb.cell 7;have y8:=hrb.cell 8;have z0:=hrb.frozen 0;have z1:=hrb.frozen 1;have z2:=hrb.frozen 2;have z3:=hrb.frozen 3;have z4:=hrb.frozen 4;have z5:=hrb.frozen 5;have z6:=hrb.frozen 6;have z7:=hrb.frozen 7;have z8:=hrb.frozen 8;have NR:=hrb.lt;clear hA hrb;go_wp2_with fail
 refine bodyPost_ret (v:=.agg #[.int .i64 r0,.int .i64 r1,.int .i64 r2,.int .u64 r3,.bool b4,.bool b5,.bool b6,.bool b7,.slice A8 n8 c8]) (by simp[results,Tryz.results46,go_sem, *]) rfl ⟨rfl,?_⟩;exact HEnd.out _ _ _ _ _ _ _ _ _ _ _ _ _ _ _ _ _ _ _ HA5.out
theorem vy(hS:ah D Q)(hT:Tab W)(H:HM W w L X h x s k ((mb,127,muV L.hb t sb m)::E) D Q)(hne:∀q,q∈E->q.1≠mb)(hk:m.k=3){sv:Value}(hms:(sb,61,#[.bool true,sv])∈E)
  (hcall:∀w' E',(∀q,q∈E'->q.1≠mb)->(sb,61,#[.bool true,sv])∈E'->HM W w' L X h x s k ((mb,127,muV L.hb t sb m)::E') D Q->Calls Tryz.prog 85 #[.pointer (some ⟨mb,0,none⟩)] w' λe w''=>e=.returned (.agg #[.int .i64 r0,.int .i64 r1,.int .i64 r2,.int .u64 r3,.bool b4,.bool b5,.bool b6,.bool b7,.slice A8 n8 c8])/\HM W w'' L X h2 x2 s k ((mb,127,muV L.hb t sb m')::E') D Q) :
  Calls Tryz.prog 46 #[.pointer (some ⟨mb,0,none⟩)] w λe w'=>e=.returned (.agg #[.int .i64 r0,.int .i64 r1,.int .i64 r2,.int .u64 r3,.bool b4,.bool b5,.bool b6,.bool b7,.slice A8 n8 c8])/\HM W w' L X h2 x2 s k ((mb,127,muV L.hb t sb m')::E) D Q:=by
 have hmb:=H.blk (C0 ..);have hlt:=hmb.lt;have hltE:∀q,q∈E->q.1<w.heap.size:=λq hq=>(H.blk (b:=q.1) (t:=q.2.1) (cs:=q.2.2) (CZ _ hq)).lt;have hrm:w.heap.size≠mb:=by omega
 have hrE:∀q,q∈E->q.1≠w.heap.size:=λq hq=>by have:=hltE q hq;omega
 have hneR:∀cs:Array Value,∀q,q∈((w.heap.size,73,cs)::E:aK)->q.1≠mb:=λcs q hq=>by
  rcases C1.1 hq with rfl|hq
  ·exact hrm
  ·exact hne q hq
 have HX0:Hid (HM W (w.alloc (.cells #[.int .i64 0,.int .i64 0,.int .i64 0,.int .u64 0,.bool false,.bool false,.bool false,.bool false,.slice none 0 0] 73)) L X h x s k ((w.heap.size,73,#[.int .i64 0,.int .i64 0,.int .i64 0,.int .u64 0,.bool false,.bool false,.bool false,.bool false,.slice none 0 0])::(mb,127,muV L.hb t sb m)::E) D Q):=H.alloc hS 73 #[.int .i64 0,.int .i64 0,.int .i64 0,.int .u64 0,.bool false,.bool false,.bool false,.bool false,.slice none 0 0];have HEnd:Hid (∀w' a0 a1 a2 a3 a4 a5 a6 a7 a8 v0 v1 v2 v3 v4 v5 v6 v7 v8,HM W w' L X h2 x2 s k ((mb,127,muV L.hb t sb m')::(w.heap.size,73,#[a0,a1,a2,a3,a4,a5,a6,a7,a8])::E) D Q->HM W (cD w' w.heap.size v0 v1 v2 v3 v4 v5 v6 v7 v8) L X h2 x2 s k ((mb,127,muV L.hb t sb m')::E) D Q):=λw' a0 a1 a2 a3 a4 a5 a6 a7 a8 v0 v1 v2 v3 v4 v5 v6 v7 v8 q=>
  q.swap.cS hS hT (λy hy=>by
   rcases C1.1 hy with rfl|hy
   ·exact λe=>hrm e.symm
   ·exact hrE y hy) v0 v1 v2 v3 v4 v5 v6 v7 v8
 have q0:HM W (((w.alloc (.cells #[.int .i64 0,.int .i64 0,.int .i64 0,.int .u64 0,.bool false,.bool false,.bool false,.bool false,.slice none 0 0] 73)).alloc (.cells #[.int .i64 0,.int .i64 0,.int .i64 0,.int .u64 0,.bool false] 71)).alloc (.cells #[.int .i64 3,.int .i64 m.a,.int .i64 m.b,.int .i64 m.c,.int .u64 m.v] 69)).drew L X h x s k ((w.heap.size+1+1,69,#[.int .i64 3,.int .i64 m.a,.int .i64 m.b,.int .i64 m.c,.int .u64 m.v])::(w.heap.size+1,71,#[.int .i64 0,.int .i64 0,.int .i64 0,.int .u64 0,.bool false])::(w.heap.size,73,#[.int .i64 0,.int .i64 0,.int .i64 0,.int .u64 0,.bool false,.bool false,.bool false,.bool false,.slice none 0 0])::(mb,127,muV L.hb t sb m)::E) D Q:=by
  have q:=((HX0.out.alloc hS 71 #[.int .i64 0,.int .i64 0,.int .i64 0,.int .u64 0,.bool false]).alloc hS 69 #[.int .i64 3,.int .i64 m.a,.int .i64 m.b,.int .i64 m.c,.int .u64 m.v]).fr0 hS (Fr.refl _ _).drew;rw[show((w.alloc (.cells #[.int .i64 0,.int .i64 0,.int .i64 0,.int .u64 0,.bool false,.bool false,.bool false,.bool false,.slice none 0 0] 73)).alloc (.cells #[.int .i64 0,.int .i64 0,.int .i64 0,.int .u64 0,.bool false] 71)).heap.size=w.heap.size+1+1 by simp,show(w.alloc (.cells #[.int .i64 0,.int .i64 0,.int .i64 0,.int .u64 0,.bool false,.bool false,.bool false,.bool false,.slice none 0 0] 73)).heap.size=w.heap.size+1 by simp]at q;exact q
 have hn4:∀q,q∈((w.heap.size+1+1,69,#[.int .i64 3,.int .i64 m.a,.int .i64 m.b,.int .i64 m.c,.int .u64 m.v])::(w.heap.size+1,71,#[.int .i64 0,.int .i64 0,.int .i64 0,.int .u64 0,.bool false])::(w.heap.size,73,#[.int .i64 0,.int .i64 0,.int .i64 0,.int .u64 0,.bool false,.bool false,.bool false,.bool false,.slice none 0 0])::E:aK)->q.1≠mb:=λq hq=>by
  simp only[C1]at hq;rcases hq with e|e|e|e
  ·rw[e];show w.heap.size+1+1≠mb;omega
  ·rw[e];show w.heap.size+1≠mb;omega
  ·rw[e];exact hrm
  ·exact hne q e
 have HC:=aa (hcall _ _ hn4 (CZ _ (CZ _ (CZ _ hms))) (q0.sub (λy hy=>by simp only[C1]at hy ⊢;rcases hy with e|e|e|e|e <;> simp[e])));have HDr:Hid (∀w',HM W w' L X h2 x2 s k ((mb,127,muV L.hb t sb m')::(w.heap.size+1+1,69,#[.int .i64 3,.int .i64 m.a,.int .i64 m.b,.int .i64 m.c,.int .u64 m.v])::(w.heap.size+1,71,#[.int .i64 0,.int .i64 0,.int .i64 0,.int .u64 0,.bool false])::(w.heap.size,73,#[.int .i64 0,.int .i64 0,.int .i64 0,.int .u64 0,.bool false,.bool false,.bool false,.bool false,.slice none 0 0])::E) D Q->HM W w' L X h2 x2 s k ((mb,127,muV L.hb t sb m')::(w.heap.size,73,#[.int .i64 0,.int .i64 0,.int .i64 0,.int .u64 0,.bool false,.bool false,.bool false,.bool false,.slice none 0 0])::E) D Q):=λw' q=>q.sub (λy hy=>by simp only[C1]at hy ⊢;rcases hy with e|e|e <;> simp[e]);have hsb:=H.blk (CZ _ hms);have cs0:=hsb.cell 0;have NS:=hsb.lt;obtain⟨c0,c1,c2,c3,c4,c5,c6,c7,c8,c9,c10⟩:=aJ hmb;rw[hk]at c4;have hl1:mb<w.heap.size+1:=by omega
 have hl2:mb<w.heap.size+1+1:=by omega
 have n0:mb≠w.heap.size:=by omega
 have n1:mb≠w.heap.size+1:=by omega
 have n2:mb≠w.heap.size+1+1:=by omega
 have j1:sb<w.heap.size+1:=by omega
 have j2:sb<w.heap.size+1+1:=by omega
 have i0:sb≠w.heap.size:=by omega
 have i1:sb≠w.heap.size+1:=by omega
 have i2:sb≠w.heap.size+1+1:=by omega
 clear H hmb hltE HX0 hne hneR hrm hrE hk hcall hms hsb q0 hn4;go_enter Tryz.func46,Tryz.ntmps46
 go_wp2_with fail
 go_region
 go_wp2_with fail
 refine HC.out.mono ?_;rintro e w5 ⟨rfl,hA0⟩;have hA:=HDr.out _ hA0;clear hA0 c0 c1 c2 c3 c4 c5 c6 c7 c8 c9 c10 cs0 HC;have HA5:=aa hA;have hrb:=hA.blk (CZ _ (C0 ..));have y0:=hrb.cell 0;have y1:=hrb.cell 1;have y2:=hrb.cell 2;have y3:=hrb.cell 3;have y4:=hrb.cell 4;have y5:=hrb.cell 5;have y6:=hrb.cell 6;have y7:=hrb.cell 7;have y8:=hrb.cell 8;have z0:=hrb.frozen 0;have z1:=hrb.frozen 1;have z2:=hrb.frozen 2;have z3:=hrb.frozen 3;have z4:=hrb.frozen 4;have z5:=hrb.frozen 5;have z6:=hrb.frozen 6;have z7:=hrb.frozen 7;have z8:=hrb.frozen 8;have NR:=hrb.lt;clear hA hrb;go_wp2_with fail
 refine bodyPost_ret (v:=.agg #[.int .i64 r0,.int .i64 r1,.int .i64 r2,.int .u64 r3,.bool b4,.bool b5,.bool b6,.bool b7,.slice A8 n8 c8]) (by simp[results,Tryz.results46,go_sem, *]) rfl ⟨rfl,?_⟩;exact HEnd.out _ _ _ _ _ _ _ _ _ _ _ _ _ _ _ _ _ _ _ HA5.out
end
end Go.Proofs.YtimlkjppaalfaaaGreatDoor
