/- Several texts joined (pack.py): Xf Zj Un Ha Up Zk. -/
import Derived.Test.YtimkofiempcfdaaGreatDoorPW29
import Derived.WalkKit
import Derived.BigQuiet
import Derived.Deep.RegionHeld3
import Derived.Test.YtimkofiempcfdaaGreatDoorPW28
import Derived.Test.YtimkofiempcfdaaGreatDoorPW19
import Derived.Test.YtimkofiempcfdaaGreatDoorPW05
import Derived.Test.YtimkofiempcfdaaGreatDoorPW04
import Derived.Deep.OwnRows
import Derived.Deep.CutRange
import Derived.Test.YtimkofiempcfdaaGreatDoorPW23
set_option linter.unusedVariables false
set_option linter.unusedSimpArgs false
set_option maxHeartbeats 3200000
set_option maxRecDepth 100000
open List renaming mem_cons_of_mem->D3,mem_cons_self->D4,mem_cons->D5
namespace Go.Proofs.YtimkofiempcfdaaGreatDoor
open Go.RowKit Go.Gl HS
section
variable {W w w':World}{L:HL}{X:HX}{h h2:HS}{x x2:HT}{s k:Nat}{E:aK}{D:Nat->Prop}{Q:World->Prop}{mb t sb:Nat}{m:MU}
def lX(W:World)(L:HL)(X:HX)(h:HS)(x:HT)(s k:Nat)(E:aK)(D:Nat->Prop)(Q:World->Prop)(mb t sb:Nat)(dn:Nat)(c:Nat)(e:Ending)(w':World):Prop:=
 ∃(wc:Bool) (er:Int) (C':List Nat),Turned x.C (h.R*x.per) (c:Int) true wc er C' /\
  ((wc=false/\e=.returned (bk 0 0 An.zero false false false (.slice none 0 0))/\HM W w' L X h { x with C:=C' } s k ((mb,122,muV L.hb t sb (MU.zero dn))::E) D Q) \/
  (wc=true/\∃F' A n G,e=.returned (bk 0 0 An.zero false false false (.slice A (cQ x.qm x.qc x.ql t (c:Int)).length n)) /\
    HM W w' L { X with qF:=F' } h { x with C:=C',qc:=eU x.qm x.qc x.ql t (c:Int),ql:=eX x.ql t (c:Int) } s k ((mb,122,muV L.hb t sb (MU.zero dn))::E) D Q/\Lr w' 3 A (cQ x.qm x.qc x.ql t (c:Int)).length n G (zv (cQ x.qm x.qc x.ql t (c:Int)))))
theorem tl(hS:ah D Q)(hT:Tab W)(H:HM W w L X h x s k ((mb,122,muV L.hb t sb m)::E) D Q)(hne:∀q,q∈E->q.1≠mb)(ht:t<h.T)(hk:QOk h.T x.qm x.qc x.ql){I c:Nat}(had:m.ad=(I:Int))(hc:h.g.bV (I:Int)=(c:Int)) :
  Calls Tryz.prog 62 #[.pointer (some ⟨mb,0,none⟩)] w (lX W L X h x s k E D Q mb t sb m.dn c):=by
 have hmb:=H.blk (D4 ..);have hlt:=hmb.lt;have hltE:∀q,q∈E->q.1<w.heap.size:=λq hq=>(H.blk (b:=q.1) (t:=q.2.1) (cs:=q.2.2) (D3 _ hq)).lt;have hrm:w.heap.size≠mb:=by omega
 have hrE:∀q,q∈E->q.1≠w.heap.size:=λq hq=>by have:=hltE q hq;omega
 have hneR:∀cs:Array Value,∀q,q∈((w.heap.size,81,cs)::E:aK)->q.1≠mb:=λcs q hq=>by
  rcases D5.1 hq with rfl|hq
  ·exact hrm
  ·exact hne q hq
 have HX0:Hid (HM W (w.alloc (.cells #[.int .i64 0,.int .i64 0,.int .i64 0,.int .u64 0,.bool false,.bool false,.bool false,.bool false,.slice none 0 0] 81)) L X h x s k ((w.heap.size,81,#[.int .i64 0,.int .i64 0,.int .i64 0,.int .u64 0,.bool false,.bool false,.bool false,.bool false,.slice none 0 0])::(mb,122,muV L.hb t sb m)::E) D Q):=H.alloc hS 81 #[.int .i64 0,.int .i64 0,.int .i64 0,.int .u64 0,.bool false,.bool false,.bool false,.bool false,.slice none 0 0];have HAd:Hid (HM W (w.alloc (.cells #[.int .i64 0,.int .i64 0,.int .i64 0,.int .u64 0,.bool false,.bool false,.bool false,.bool false,.slice none 0 0] 81)).drew L X h x s k ((w.heap.size,81,#[.int .i64 0,.int .i64 0,.int .i64 0,.int .u64 0,.bool false,.bool false,.bool false,.bool false,.slice none 0 0])::(mb,122,muV L.hb t sb m)::E) D Q):=HX0.out.fr0 hS (Fr.refl _ _).drew;have HEnd:Hid (∀X' h' x' w' v0 v1 v2 v3 v4 v5 v6 v7 v8,HM W w' L X' h' x' s k ((mb,122,muV L.hb t sb (MU.zero m.dn))::(w.heap.size,81,#[.int .i64 0,.int .i64 0,.int .i64 0,.int .u64 0,.bool false,.bool false,.bool false,.bool false,.slice none 0 0])::E) D Q->HM W (cD w' w.heap.size v0 v1 v2 v3 v4 v5 v6 v7 v8) L X' h' x' s k ((mb,122,muV L.hb t sb (MU.zero m.dn))::E) D Q):=λX' h' x' w' v0 v1 v2 v3 v4 v5 v6 v7 v8 q=>
  q.swap.cX hS hT (λy hy=>by
   rcases D5.1 hy with rfl|hy
   ·exact λe=>hrm e.symm
   ·exact hrE y hy) v0 v1 v2 v3 v4 v5 v6 v7 v8
 have HCd:Hid (∀w',HM W w' L X h x s k ((w.heap.size,81,#[.int .i64 0,.int .i64 0,.int .i64 0,.int .u64 0,.bool false,.bool false,.bool false,.bool false,.slice none 0 0])::(mb,122,muV L.hb t sb m)::E) D Q->Calls Tryz.prog 16 #[.agg #[.int .i64 h.g.words,.int .i64 h.g.rw,.int .i64 h.g.cw,.int .i64 h.g.regions,.int .i64 h.g.aG,.int .i64 h.g.max],.int .i64 (I:Int)] w' λe w''=>e=.returned (.int .i64 (c:Int))/\HM W w'' L X h x s k ((w.heap.size,81,#[.int .i64 0,.int .i64 0,.int .i64 0,.int .u64 0,.bool false,.bool false,.bool false,.bool false,.slice none 0 0])::(mb,122,muV L.hb t sb m)::E) D Q):=λw' q=>by
  have:=q.Co hS (I:Int);rwa[hc]at this
 have HK1:Hid (∀w',HM W w' L X h x s k ((w.heap.size,81,#[.int .i64 0,.int .i64 0,.int .i64 0,.int .u64 0,.bool false,.bool false,.bool false,.bool false,.slice none 0 0])::(mb,122,muV L.hb t sb m)::E) D Q->w'.cell? ⟨mb,0,none⟩=some (.pointer (some ⟨L.hb,0,none⟩))/\w'.cell? ⟨mb,10,none⟩=some (.int .i64 (I:Int))/\w'.cell? ⟨L.hb,14,none⟩=some (.int .i64 h.g.words)/\w'.cell? ⟨L.hb,15,none⟩=some (.int .i64 h.g.rw)/\w'.cell? ⟨L.hb,16,none⟩=some (.int .i64 h.g.cw)/\w'.cell? ⟨L.hb,17,none⟩=some (.int .i64 h.g.regions)/\w'.cell? ⟨L.hb,18,none⟩=some (.int .i64 h.g.aG)/\w'.cell? ⟨L.hb,19,none⟩=some (.int .i64 h.g.max)):=λw' q=>by
  obtain⟨d14,d15,d16,d17,d18,d19,-,-,-,-,-,-,-,-,-,-⟩:=q.hc;obtain⟨c0,c1,c2,c3,c4,c5,c6,c7,c8,c9,c10⟩:=aL (q.blk (D3 _ (D4 ..)));rw[had]at c10;exact⟨c0,c10,d14,d15,d16,d17,d18,d19⟩
 have HPu:Hid (∀w',HM W w' L X h x s k ((w.heap.size,81,#[.int .i64 0,.int .i64 0,.int .i64 0,.int .u64 0,.bool false,.bool false,.bool false,.bool false,.slice none 0 0])::(mb,122,muV L.hb t sb m)::E) D Q->HM W (BC w' mb (.int .i64 0) (.int .i64 0) (.int .i64 0) (.int .i64 0) (.int .u64 0) (.int .i64 0) (.int .i64 0)) L X h x s k ((mb,122,muV L.hb t sb (MU.zero m.dn))::(w.heap.size,81,#[.int .i64 0,.int .i64 0,.int .i64 0,.int .u64 0,.bool false,.bool false,.bool false,.bool false,.slice none 0 0])::E) D Q):=λw' q=>HM.Cu hS hT q.swap (hneR _) 0 0 0 0 0 0 0;have HDi:Hid (∀w',HM W w' L X h x s k ((mb,122,muV L.hb t sb (MU.zero m.dn))::(w.heap.size,81,#[.int .i64 0,.int .i64 0,.int .i64 0,.int .u64 0,.bool false,.bool false,.bool false,.bool false,.slice none 0 0])::E) D Q->Calls Tryz.prog 113 #[.pointer (some ⟨X.cb,0,none⟩),.int .i64 (c:Int)] w' λe w''=>∃wc er C',e=.returned (.tuple #[.bool wc,.int .i64 er])/\Turned x.C (h.R*x.per) (c:Int) true wc er C'/\HM W w'' L X h { x with C:=C' } s k ((mb,122,muV L.hb t sb (MU.zero m.dn))::(w.heap.size,81,#[.int .i64 0,.int .i64 0,.int .i64 0,.int .u64 0,.bool false,.bool false,.bool false,.bool false,.slice none 0 0])::E) D Q):=λw' q=>q.Cm hS (c:Int);have HQp:Hid (∀w' C',HM W w' L X h { x with C:=C' } s k ((mb,122,muV L.hb t sb (MU.zero m.dn))::(w.heap.size,81,#[.int .i64 0,.int .i64 0,.int .i64 0,.int .u64 0,.bool false,.bool false,.bool false,.bool false,.slice none 0 0])::E) D Q->Calls Tryz.prog 114 #[.pointer (some ⟨X.qb,0,none⟩),.int .i64 (t:Int),.int .i64 (c:Int)] w' λe w''=>∃F' A n G,e=.returned (.tuple #[.slice A (cQ x.qm x.qc x.ql t (c:Int)).length n,.int .i64 0]) /\
   HM W w'' L { X with qF:=F' } h { x with C:=C',qc:=eU x.qm x.qc x.ql t (c:Int),ql:=eX x.ql t (c:Int) } s k ((mb,122,muV L.hb t sb (MU.zero m.dn))::(w.heap.size,81,#[.int .i64 0,.int .i64 0,.int .i64 0,.int .u64 0,.bool false,.bool false,.bool false,.bool false,.slice none 0 0])::E) D Q/\Lr w'' 3 A (cQ x.qm x.qc x.ql t (c:Int)).length n G (zv (cQ x.qm x.qc x.ql t (c:Int)))):=λw' C' q=>HM.Cv (x:={ x with C:=C' }) hS q hk ht (by omega)
 have HK2:Hid (∀w' X' x',X'.qb=X.qb->HM W w' L X' h x' s k ((mb,122,muV L.hb t sb (MU.zero m.dn))::(w.heap.size,81,#[.int .i64 0,.int .i64 0,.int .i64 0,.int .u64 0,.bool false,.bool false,.bool false,.bool false,.slice none 0 0])::E) D Q->w'.cell? ⟨mb,0,none⟩=some (.pointer (some ⟨L.hb,0,none⟩))/\w'.cell? ⟨mb,1,none⟩=some (.int .i64 (t:Int))/\w'.cell? ⟨L.hb,24,none⟩=some (.pointer (some ⟨X.qb,0,none⟩))):=λw' X' x' e1 q=>by
  obtain⟨-,-,-,-,-,-,-,-,-,-,d24,-,-,-,-,-⟩:=q.hc;rw[e1]at d24;obtain⟨c0,c1,c2,c3,c4,c5,c6,c7,c8,c9,c10⟩:=aL (q.blk (D4 ..));exact⟨c0,c1,d24⟩
 have HC23:Hid (∀w' E',HM W w' L X h x s k E' D Q->w'.cell? ⟨L.hb,23,none⟩=some (.pointer (some ⟨X.cb,0,none⟩))):=λw' E' q=>q.hc.c23;have HRb:Hid (∀w' X' x',HM W w' L X' h x' s k ((mb,122,muV L.hb t sb (MU.zero m.dn))::(w.heap.size,81,#[.int .i64 0,.int .i64 0,.int .i64 0,.int .u64 0,.bool false,.bool false,.bool false,.bool false,.slice none 0 0])::E) D Q->Blk w' w.heap.size 81 #[.int .i64 0,.int .i64 0,.int .i64 0,.int .u64 0,.bool false,.bool false,.bool false,.bool false,.slice none 0 0]):=λw' X' x' q=>q.blk (D3 _ (D4 ..));have HFin:Hid (∀e w',lX W L X h x s k E D Q mb t sb m.dn c e w'->lX W L X h x s k E D Q mb t sb m.dn c e w'):=λe w' p=>p;have K1:=HK1.out _ HAd.out;have NHb:L.hb<w.heap.size:=ae H.hc.c20;have NE:mb≠L.hb:=H.blk (D4 ..) |>.apart H.hr.st (by decide)
 have NE':L.hb≠mb:=λe=>NE e.symm;have c0:w.cell? ⟨mb,0,none⟩=some (.pointer (some ⟨L.hb,0,none⟩)):=hmb.cell 0;clear H hmb hltE hne hneR hrm hrE had hc hk ht HX0;go_enter Tryz.func62,Tryz.ntmps62
 go_wp2_with fail
 go_region_held3 (λw'=>w'.cell? ⟨mb,0,none⟩=some (.pointer (some ⟨L.hb,0,none⟩))/\w'.cell? ⟨mb,10,none⟩=some (.int .i64 (I:Int))/\w'.cell? ⟨L.hb,14,none⟩=some (.int .i64 h.g.words)/\w'.cell? ⟨L.hb,15,none⟩=some (.int .i64 h.g.rw)/\w'.cell? ⟨L.hb,16,none⟩=some (.int .i64 h.g.cw)/\w'.cell? ⟨L.hb,17,none⟩=some (.int .i64 h.g.regions)/\w'.cell? ⟨L.hb,18,none⟩=some (.int .i64 h.g.aG)/\w'.cell? ⟨L.hb,19,none⟩=some (.int .i64 h.g.max))
  (first|with_reducible exact K1|go_keep)
  (first|(go_at_call 16;refine(HCd.out _ HAd.out).mono ?_;rintro e w1 ⟨rfl,hA⟩;have HA1:=aa hA;replace K1:=HK1.out _ hA;clear hA))
 all_goals
  clear K1 c0;have hm1:=HA1.out.blk (D3 _ (D4 ..));obtain⟨g0,g1,-,-,g4,g5,g6,g7,g8,g9,g10⟩:=aL hm1;have gz4:=hm1.frozen 4;have gz5:=hm1.frozen 5;have gz6:=hm1.frozen 6;have gz7:=hm1.frozen 7;have gz8:=hm1.frozen 8;have gz9:=hm1.frozen 9;have gz10:=hm1.frozen 10;have k23:=HC23.out _ _ HA1.out;have NM1:=hm1.lt;have NH1:L.hb<w1.heap.size:=ae k23;have HP1:=aa (HPu.out _ HA1.out);have HD1:=aa (HDi.out _ HP1.out);clear hm1;go_wp2_with fail
  refine HD1.out.mono ?_;rintro e w2 ⟨wc,er,C',rfl,hTu,hA⟩;have HTu:=aa hTu;have HA2:=aa hA;have hrb:=HRb.out _ _ _ hA;clear g0 g1 g4 g5 g6 g7 g8 g9 g10 gz4 gz5 gz6 gz7 gz8 gz9 gz10 k23 HD1 hTu;cases wc with
 |false=>
   have y0:=hrb.cell 0;have y1:=hrb.cell 1;have y2:=hrb.cell 2;have y3:=hrb.cell 3;have y4:=hrb.cell 4;have y5:=hrb.cell 5;have y6:=hrb.cell 6;have y7:=hrb.cell 7;have y8:=hrb.cell 8;have z0:=hrb.frozen 0;have z1:=hrb.frozen 1;have z2:=hrb.frozen 2;have z3:=hrb.frozen 3;have z4:=hrb.frozen 4;have z5:=hrb.frozen 5;have z6:=hrb.frozen 6;have z7:=hrb.frozen 7;have z8:=hrb.frozen 8;have NR:=hrb.lt;clear hA hrb;go_wp2_with fail
   refine bodyPost_ret (v:=.agg #[.int .i64 0,.int .i64 0,.int .i64 0,.int .u64 0,.bool false,.bool false,.bool false,.bool false,.slice none 0 0]) (by simp[results,Tryz.results62,go_sem, *]) rfl ?_;exact HFin.out _ _ ⟨false,er,C',HTu.out,.inl ⟨rfl,rfl,HEnd.out _ _ _ _ _ _ _ _ _ _ _ _ _ HA2.out⟩⟩
 |true=>
   have HA2d:=aa (hA.fr0 hS (Fr.refl _ _).drew);have HQ2:=aa (HQp.out _ _ HA2d.out);have K2:=HK2.out _ X _ rfl HA2d.out;clear hA hrb;go_wp2_with fail
   go_region_held3 (λw'=>w'.cell? ⟨mb,0,none⟩=some (.pointer (some ⟨L.hb,0,none⟩))/\w'.cell? ⟨mb,1,none⟩=some (.int .i64 (t:Int))/\w'.cell? ⟨L.hb,24,none⟩=some (.pointer (some ⟨X.qb,0,none⟩)))
    (first|with_reducible exact K2|go_keep)
    (first|(go_at_call 114;refine HQ2.out.mono ?_;rintro e w3 ⟨F',A,n,G,rfl,hA,hL⟩;have HA3:=aa hA;have HL3:=aa hL;have hrb:=HRb.out _ _ _ hA;replace K2:=HK2.out _ { X with qF:=F' } _ rfl hA;have y0:=hrb.cell 0;have z0:=hrb.frozen 0;have y1:=hrb.cell 1;have z1:=hrb.frozen 1;have y2:=hrb.cell 2;have z2:=hrb.frozen 2;have y3:=hrb.cell 3;have z3:=hrb.frozen 3;have y4:=hrb.cell 4;have z4:=hrb.frozen 4;have y5:=hrb.cell 5;have z5:=hrb.frozen 5;have y6:=hrb.cell 6;have z6:=hrb.frozen 6;have y7:=hrb.cell 7;have z7:=hrb.frozen 7;have y8:=hrb.cell 8;have z8:=hrb.frozen 8;have NR:=hrb.lt;clear hA hL hrb))
   all_goals
    clear K2;go_wp2_with fail
    refine bodyPost_ret (v:=.agg #[.int .i64 0,.int .i64 0,.int .i64 0,.int .u64 0,.bool false,.bool false,.bool false,.bool false,.slice A (cQ x.qm x.qc x.ql t (c:Int)).length n]) (by simp[results,Tryz.results62,go_sem, *]) rfl ?_;refine HFin.out _ _ ⟨true,er,C',HTu.out,.inr ⟨rfl,F',A,n,G,rfl,HEnd.out _ _ _ _ _ _ _ _ _ _ _ _ _ HA3.out,?_⟩⟩;exact HL3.out.fr (o9 _ _ _ _ _ _ _ _ _ _ _) (λg hg hx=>by
     simp at hx;exact HL3.out.apart (HRb.out _ _ _ HA3.out) (by decide) (hx ▸ hg))
end
section
variable {W w w':World}{L:HL}{X:HX}{h h2:HS}{x x2:HT}{s k:Nat}{E:aK}{D:Nat->Prop}{Q:World->Prop}{mb t sb:Nat}{m:MU}
theorem qY(hS:ah D Q)(hT:Tab W)(H:HM W w L X h x s k ((mb,122,muV L.hb t sb m)::E) D Q)(hne:∀q,q∈E->q.1≠mb)(hst:m.st=6)(ht:t<h.T)(hk:QOk h.T x.qm x.qc x.ql){I c:Nat}(had:m.ad=(I:Int))(hc:h.g.bV (I:Int)=(c:Int)) :
  Calls Tryz.prog 26 #[.pointer (some ⟨mb,0,none⟩)] w (lX W L X h x s k E D Q mb t sb m.dn c):=by
 have hmb:=H.blk (D4 ..);have hlt:=hmb.lt;have hltE:∀q,q∈E->q.1<w.heap.size:=λq hq=>(H.blk (b:=q.1) (t:=q.2.1) (cs:=q.2.2) (D3 _ hq)).lt;have hr:w.heap.size≠mb:=by omega
 have hq:∀q,q∈E->q.1≠w.heap.size:=λq hq=>by have:=hltE q hq;omega
 have hneR:∀q,q∈((w.heap.size,81,#[.int .i64 0,.int .i64 0,.int .i64 0,.int .u64 0,.bool false,.bool false,.bool false,.bool false,.slice none 0 0])::E:aK)->q.1≠mb:=λq hq=>by
  rcases D5.1 hq with rfl|hq
  ·exact hr
  ·exact hne q hq
 have HC:=aa (tl hS hT ((H.alloc hS 81 #[.int .i64 0,.int .i64 0,.int .i64 0,.int .u64 0,.bool false,.bool false,.bool false,.bool false,.slice none 0 0]).sub (λy hy=>by simp only[D5]at hy ⊢;rcases hy with e|e|e <;> simp[e]):HM W _ L X h x s k ((mb,122,muV L.hb t sb m)::(w.heap.size,81,#[.int .i64 0,.int .i64 0,.int .i64 0,.int .u64 0,.bool false,.bool false,.bool false,.bool false,.slice none 0 0])::E) D Q) hneR ht hk had hc);have HEnd:Hid (∀X' x' w' v0 v1 v2 v3 v4 v5 v6 v7 v8,HM W w' L X' h x' s k ((mb,122,muV L.hb t sb (MU.zero m.dn))::(w.heap.size,81,#[.int .i64 0,.int .i64 0,.int .i64 0,.int .u64 0,.bool false,.bool false,.bool false,.bool false,.slice none 0 0])::E) D Q->HM W (cD w' w.heap.size v0 v1 v2 v3 v4 v5 v6 v7 v8) L X' h x' s k ((mb,122,muV L.hb t sb (MU.zero m.dn))::E) D Q):=λX' x' w' v0 v1 v2 v3 v4 v5 v6 v7 v8 q=>
  q.swap.cX hS hT (λy hy=>by
   rcases D5.1 hy with rfl|hy
   ·exact λe=>hr e.symm
   ·exact hq y hy) v0 v1 v2 v3 v4 v5 v6 v7 v8
 have HFin:Hid (∀e w',lX W L X h x s k E D Q mb t sb m.dn c e w'->lX W L X h x s k E D Q mb t sb m.dn c e w'):=λe w' p=>p;obtain⟨c0,c1,c2,c3,c4,c5,c6,c7,c8,c9,c10⟩:=aL hmb;rw[hst]at c9;clear H hmb hltE hne hneR hst hr hq had hc hk ht;go_enter Tryz.func26,Tryz.ntmps26
 go_wp2_with fail
 refine HC.out.mono ?_;rintro e w5 ⟨wc,er,C',hTu,⟨rfl,rfl,hA⟩|⟨rfl,F',A,n,G,rfl,hA,hL⟩⟩
 ·have HTu:=aa hTu;have HA5:=aa hA;have hrb:=hA.blk (D3 _ (D4 ..));have HRB:=aa hrb;have y0:=hrb.cell 0;have y1:=hrb.cell 1;have y2:=hrb.cell 2;have y3:=hrb.cell 3;have y4:=hrb.cell 4;have y5:=hrb.cell 5;have y6:=hrb.cell 6;have y7:=hrb.cell 7;have y8:=hrb.cell 8;have z0:=hrb.frozen 0;have z1:=hrb.frozen 1;have z2:=hrb.frozen 2;have z3:=hrb.frozen 3;have z4:=hrb.frozen 4;have z5:=hrb.frozen 5;have z6:=hrb.frozen 6;have z7:=hrb.frozen 7;have z8:=hrb.frozen 8;have NR:=hrb.lt;clear hA hTu hrb HC c0 c1 c2 c3 c4 c5 c6 c7 c8 c9 c10;unfold bk An.zero;go_wp2_with fail
  refine bodyPost_ret (v:=.agg #[.int .i64 0,.int .i64 0,.int .i64 0,.int .u64 0,.bool false,.bool false,.bool false,.bool false,.slice none 0 0]) (by simp[results,Tryz.results26,go_sem, *]) rfl ?_;exact HFin.out _ _ ⟨false,er,C',HTu.out,.inl ⟨rfl,rfl,HEnd.out _ _ _ _ _ _ _ _ _ _ _ _ HA5.out⟩⟩
 ·have HTu:=aa hTu;have HA5:=aa hA;have HL5:=aa hL;have hrb:=hA.blk (D3 _ (D4 ..));have HRB:=aa hrb;have y0:=hrb.cell 0;have y1:=hrb.cell 1;have y2:=hrb.cell 2;have y3:=hrb.cell 3;have y4:=hrb.cell 4;have y5:=hrb.cell 5;have y6:=hrb.cell 6;have y7:=hrb.cell 7;have y8:=hrb.cell 8;have z0:=hrb.frozen 0;have z1:=hrb.frozen 1;have z2:=hrb.frozen 2;have z3:=hrb.frozen 3;have z4:=hrb.frozen 4;have z5:=hrb.frozen 5;have z6:=hrb.frozen 6;have z7:=hrb.frozen 7;have z8:=hrb.frozen 8;have NR:=hrb.lt;clear hA hTu hrb HC c0 c1 c2 c3 c4 c5 c6 c7 c8 c9 c10 hL;unfold bk An.zero;go_wp2_with fail
  refine bodyPost_ret (v:=.agg #[.int .i64 0,.int .i64 0,.int .i64 0,.int .u64 0,.bool false,.bool false,.bool false,.bool false,.slice A (cQ x.qm x.qc x.ql t (c:Int)).length n]) (by simp[results,Tryz.results26,go_sem, *]) rfl ?_;refine HFin.out _ _ ⟨true,er,C',HTu.out,.inr ⟨rfl,F',A,n,G,rfl,HEnd.out _ _ _ _ _ _ _ _ _ _ _ _ HA5.out,?_⟩⟩;exact HL5.out.fr (o9 _ _ _ _ _ _ _ _ _ _ _) (λg hg hx=>by
   simp at hx;exact HL5.out.apart HRB.out (by decide) (hx ▸ hg))
end
section
variable {w:World}{hb sb T rc n oc:Nat}{rA oA:Option Addr}
theorem qZ(c27:w.cell? ⟨hb,27,none⟩=some (.slice rA T rc))(c1:w.cell? ⟨sb,1,none⟩=some (.slice oA T oc)){t:Nat}(ht:t<T)(hT:T<=64):Calls Tryz.prog 24 #[.pointer (some ⟨hb,0,none⟩),.int .i64 (t:Int),.pointer (some ⟨sb,0,none⟩)] w λe w'=>
  ∃mb,e=.returned (.tuple #[.pointer (some ⟨mb,0,none⟩),.int .i64 0])/\w.heap.size<=mb/\Blk w' mb 122 (muV hb t sb (MU.zero 0))/\Fr [] w w':=by
 have g1:decide ((t:Int)<0)=false:=by simp
 have g2:decide ((t:Int)>=(T:Int))=false:=by simp;omega
 have g2':decide ((T:Int)<=(t:Int))=false:=by simp;omega
 have g4:decide (T<=t)=false:=by simp;omega
 have g3:((T:Int) !=(T:Int))=false:=by simp
 clear ht;go_enter Tryz.func24,Tryz.ntmps24
 go_wp2_with fail
 go_quiet (fail)
 go_wp2_with fail
 go_ret2
 exact⟨_,rfl,Nat.le_refl _,Blk.new _ _ _,((Fr.refl _ _).drewN _).alloc _⟩
end
open Go.RowKit Go.Gl
def ik(w:World)(tg:TG)(e:TypeId)(kd:Nat)(r:Int)(v:Value)(l:List Int):Prop:=∃A c G,v=.slice A l.length c/\Lr w e A l.length c G (bf l)/\∀g,g∈G->tg g=(kd,r)
structure ML where
 m:Nat
 ov:Value
 sA:Option Addr
 sc:Nat
 sG:List Nat
 S:Nat->Nat
 db:Nat
 rv:Int->Value
 dv:Int->Value
def aO(S:Nat->Nat)(K:Nat):List Value:=(List.range K).map λi=>.pointer (some ⟨S i,0,none⟩)
theorem kK(S:Nat->Nat){K i:Nat}(h:i<K):(aO S K)[i]?=some (.pointer (some ⟨S i,0,none⟩)):=by simp[aO,h]
structure MG(w:World)(tg:TG)(Λ:ML)(K T B M:Nat)(σ:GS):Prop where
 st:Blk w Λ.m 94 #[.int .i64 (M:Int),Λ.ov,.slice Λ.sA K Λ.sc,.slice (some ⟨Λ.db,0,none⟩) T T]
 t1:tg Λ.m=(11,0)
 obj:R2 w 178 Λ.ov σ.N (λk=>Λ.rv ((k:Int)+1)) (λk=>Λ.dv ((k:Int)+1))
 t2:∀b,Λ.ov.ownBlock=some b->tg b=(12,0)
 refs:∀r,1<=r->r<=(σ.N:Int)->ik w tg 67 14 r (Λ.rv r) (kids σ r)
 data:∀r,1<=r->r<=(σ.N:Int)->ik w tg 64 15 r (Λ.dv r) (bp σ r)
 row:Lr w 153 Λ.sA K Λ.sc Λ.sG (aO Λ.S K)
 t3:∀g,g∈Λ.sG->tg g=(13,0)
 stk:∀i,i<K->∃F,HkR w (Λ.S i) F B (σ.st i)/\∀x,x∈F->tg x=(16,(i:Int))
 don:Blk w Λ.db 3 (aJ T λi=>.int .i64 (σ.done i:Int))
 t4:tg Λ.db=(17,0)
 tok:lu w tg
section
variable {w w':World}{tg tg':TG}{F:List Nat}{Λ:ML}{K T B M:Nat}{σ:GS}
theorem ik.fr{e:TypeId}{kd:Nat}{r:Int}{v:Value}{l:List Int}(h:ik w tg e kd r v l)(hf:Fr F w w')(hF:∀x,x∈F->tg x≠(kd,r))(hu:dM w tg tg'):ik w' tg' e kd r v l:=by
 obtain⟨A,c,G,h1,h2,h3⟩:=h;exact⟨A,c,G,h1,h2.fr hf (λg hg hx=>hF g hx (h3 g hg)),λg hg=>(hu g (h2.lt g hg)).trans (h3 g hg)⟩
theorem MG.st'(h:MG w tg Λ K T B M σ)(hf:Fr F w w')(hF:∀x,x∈F->(tg x).1≠11):Blk w' Λ.m 94 #[.int .i64 (M:Int),Λ.ov,.slice Λ.sA K Λ.sc,.slice (some ⟨Λ.db,0,none⟩) T T]:=h.st.fr hf (λhx=>fT hF _ hx h.t1)
theorem MG.vJ(h:MG w tg Λ K T B M σ)(hf:Fr F w w')(hF:∀x,x∈F->(tg x).1≠12):R2 w' 178 Λ.ov σ.N (λk=>Λ.rv ((k:Int)+1)) (λk=>Λ.dv ((k:Int)+1)):=h.obj.fr hf (λb hb hx=>fT hF _ hx (h.t2 b hb))
theorem MG.uk(h:MG w tg Λ K T B M σ)(hf:Fr F w w')(hF:∀x,x∈F->(tg x).1≠14)(hu:dM w tg tg'):∀r,1<=r->r<=(σ.N:Int)->ik w' tg' 67 14 r (Λ.rv r) (kids σ r):=λr h1 h2=>(h.refs r h1 h2).fr hf (fT hF) hu
theorem MG.um(h:MG w tg Λ K T B M σ)(hf:Fr F w w')(hF:∀x,x∈F->(tg x).1≠15)(hu:dM w tg tg'):∀r,1<=r->r<=(σ.N:Int)->ik w' tg' 64 15 r (Λ.dv r) (bp σ r):=λr h1 h2=>(h.data r h1 h2).fr hf (fT hF) hu
theorem MG.vK(h:MG w tg Λ K T B M σ)(hf:Fr F w w')(hF:∀x,x∈F->(tg x).1≠13):Lr w' 153 Λ.sA K Λ.sc Λ.sG (aO Λ.S K):=h.row.fr hf (λg hg hx=>fT hF _ hx (h.t3 g hg))
theorem MG.tn(h:MG w tg Λ K T B M σ)(hf:Fr F w w'){i:Nat}(hi:i<K)(hF:∀x,x∈F->tg x≠(16,(i:Int)))(hu:dM w tg tg'):∃F,HkR w' (Λ.S i) F B (σ.st i)/\∀x,x∈F->tg' x=(16,(i:Int)):=by
 obtain⟨G,h1,h2⟩:=h.stk i hi;exact⟨G,h1.fr hf (λx hx hx'=>hF x hx' (h2 x hx)),λx hx=>(hu x (h1.lt x hx)).trans (h2 x hx)⟩
theorem MG.vL(h:MG w tg Λ K T B M σ)(hf:Fr F w w')(hF:∀x,x∈F->(tg x).1≠17):Blk w' Λ.db 3 (aJ T λi=>.int .i64 (σ.done i:Int)):=h.don.fr hf (λhx=>fT hF _ hx h.t4)
theorem MG.tags(h:MG w tg Λ K T B M σ)(hu:dM w tg tg'):tg' Λ.m=(11,0)/\(∀b,Λ.ov.ownBlock=some b->tg' b=(12,0))/\(∀g,g∈Λ.sG->tg' g=(13,0))/\tg' Λ.db=(17,0):=
 ⟨(hu _ h.st.lt).trans h.t1,λb hb=>(hu _ (h.obj.lt hb)).trans (h.t2 b hb),λg hg=>(hu _ (h.row.lt g hg)).trans (h.t3 g hg),(hu _ h.don.lt).trans h.t4⟩
theorem MG.fr(h:MG w tg Λ K T B M σ)(hf:Fr F w w')(hF:∀x,x∈F->(tg x).1=0):MG w' tg Λ K T B M σ:=by
 have hk:∀k,k≠0->∀x,x∈F->(tg x).1≠k:=λk hk x hx e=>hk (by rw[<- e,hF x hx]);have hu:=dM.refl w tg;exact⟨h.st' hf (hk 11 (by decide)),h.t1,h.vJ hf (hk 12 (by decide)),h.t2,h.uk hf (hk 14 (by decide)) hu,h.um hf (hk 15 (by decide)) hu,h.vK hf (hk 13 (by decide)),h.t3,
  λi hi=>h.tn hf hi (fT (hk 16 (by decide))) hu,h.vL hf (hk 17 (by decide)),h.t4,zf h.tok hf⟩
theorem MG.fr0(h:MG w tg Λ K T B M σ)(hf:Fr [] w w'):MG w' tg Λ K T B M σ:=h.fr hf (by simp)
theorem MG.c0(h:MG w tg Λ K T B M σ):w.cell? ⟨Λ.m,0,none⟩=some (.int .i64 (M:Int)):=by rw[h.st.cell];rfl
theorem MG.c1(h:MG w tg Λ K T B M σ):w.cell? ⟨Λ.m,1,none⟩=some Λ.ov:=by rw[h.st.cell];rfl
theorem MG.c2(h:MG w tg Λ K T B M σ):w.cell? ⟨Λ.m,2,none⟩=some (.slice Λ.sA K Λ.sc):=by rw[h.st.cell];rfl
theorem MG.c3(h:MG w tg Λ K T B M σ):w.cell? ⟨Λ.m,3,none⟩=some (.slice (some ⟨Λ.db,0,none⟩) T T):=by rw[h.st.cell];rfl
theorem MG.stack(h:MG w tg Λ K T B M σ){i:Nat}(hi:i<K){G G':List Nat}{l:List Int}(h1:HkR w (Λ.S i) G B (σ.st i))(h2:∀x,x∈G->tg x=(16,(i:Int)))(hf:Fr G w w')(k1:HkR w' (Λ.S i) G' B l)(k2:∀x,x∈G'->x∈G\/w.heap.size<=x) :
  ∃tg',MG w' tg' Λ K T B M (σ.jA i l)/\GFr w tg w' tg':=by
 have hu:dM w tg (λx=>if w.heap.size<=x/\x<w'.heap.size then (16,(i:Int)) else tg x):=λb hb=>if_neg (by omega);have ht:lu w' (λx=>if w.heap.size<=x/\x<w'.heap.size then (16,(i:Int)) else tg x):=λb hb=>by
  by_cases e:w.heap.size<=b/\b<w'.heap.size
  ·exact e.2
  ·simp only[if_neg e]at hb;exact Nat.lt_of_lt_of_le (h.tok b hb) hf.size
 have hk:∀k,k≠16->∀x,x∈G->(tg x).1≠k:=λk hk x hx e=>hk (by rw[<- e,h2 x hx]);obtain⟨a1,a2,a3,a4⟩:=h.tags hu;refine⟨_,⟨h.st' hf (hk 11 (by decide)),a1,h.vJ hf (hk 12 (by decide)),a2,h.uk hf (hk 14 (by decide)) hu,h.um hf (hk 15 (by decide)) hu,h.vK hf (hk 13 (by decide)),a3,λj hj=>?_,h.vL hf (hk 17 (by decide)),a4,ht⟩,⟨⟨G,hf,hk 0 (by decide)⟩,hu⟩⟩;by_cases e:j=i
 ·subst e;refine⟨G',?_,λx hx=>?_⟩
  ·show HkR w' (Λ.S j) G' B (ai σ.st j l j);rw[aq];exact k1
  ·rcases k2 x hx with h3|h3
   ·have h4:x<w.heap.size:=h1.lt x h3;exact(hu x h4).trans (h2 x h3)
   ·exact if_pos ⟨h3,k1.lt x hx⟩
 ·obtain⟨H,h3,h4⟩:=h.tn hf hj (λx hx e1=>e (by rw[h2 x hx]at e1;injection e1 with _ e1;omega)) hu;refine⟨H,?_,h4⟩;show HkR w' (Λ.S j) H B (ai σ.st i l j);rw[ay _ _ e];exact h3
theorem q8(σ:GS)(r:Int){b:Nat}(y:Int)(x:Int):kids (σ.setRef r (b:Int) y) x=if x=r then (kids σ r).set b y else kids σ x:=by
 unfold kids GS.setRef;by_cases e:x=r
 ·subst e;rw[if_pos rfl];apply List.ext_getElem
  ·simp
  ·intro i h1 h2;simp only[List.getElem_map,List.getElem_range,List.getElem_set];rw[aq];by_cases e2:b=i
   ·subst e2;rw[if_pos rfl,aq]
   ·rw[if_neg e2,ay _ _ (by omega)]
 ·rw[if_neg e];apply List.map_congr_left;intro i _;show ai σ.ref r _ x _=_;rw[ay _ _ e]
theorem pj(σ:GS)(r:Int){b:Nat}(y:Int)(x:Int):bp (σ.cV r (b:Int) y) x=if x=r then (bp σ r).set b y else bp σ x:=by
 unfold bp GS.cV;by_cases e:x=r
 ·subst e;rw[if_pos rfl];apply List.ext_getElem
  ·simp
  ·intro i h1 h2;simp only[List.getElem_map,List.getElem_range,List.getElem_set];rw[aq];by_cases e2:b=i
   ·subst e2;rw[if_pos rfl,aq]
   ·rw[if_neg e2,ay _ _ (by omega)]
 ·rw[if_neg e];apply List.map_congr_left;intro i _;show ai σ.dat r _ x _=_;rw[ay _ _ e]
theorem ik.put{e:TypeId}{kd:Nat}{r:Int}{g off n c b:Nat}{l:List Int}(h:ik w tg e kd r (.slice (some ⟨g,off,none⟩) n c) l)(hb:b<l.length)(y:Int):ik (w.setCell ⟨g,off+b,none⟩ (.int .u64 y)) tg e kd r (.slice (some ⟨g,off,none⟩) n c) (l.set b y)/\tg g=(kd,r):=by
 obtain⟨A,c',G,h1,h2,h3⟩:=h;injection h1 with q1 q2 q3;subst q1 q2 q3;obtain⟨g',off',e1,e2,_⟩:=h2.pos (by omega);injection e1 with e1;injection e1 with e1;subst e1;refine⟨⟨_,c,G,by rw[List.length_set],?_,h3⟩,h3 g (by simp[e2])⟩;rw[List.length_set,xh];exact h2.put hb _
theorem MG.Dl(h:MG w tg Λ K T B M σ){r:Int}{b:Nat}(h1:1<=r)(h2:r<=(σ.N:Int))(hb:b<σ.np r){g off n c:Nat}(hv:Λ.rv r=.slice (some ⟨g,off,none⟩) n c)(y:Int) :
  MG (w.setCell ⟨g,off+b,none⟩ (.int .u64 y)) tg Λ K T B M (σ.setRef r (b:Int) y)/\GFr w tg (w.setCell ⟨g,off+b,none⟩ (.int .u64 y)) tg:=by
 have hr:=h.refs r h1 h2;rw[hv]at hr;obtain⟨hp,ht⟩:=hr.put (by rw[ew];exact hb) y;have hf:Fr [g] w (w.setCell ⟨g,off+b,none⟩ (.int .u64 y)):=(Fr.refl _ _).setCell (p:=⟨g,off+b,none⟩) (.inl (by simp)) _;have hT:∀x,x∈[g]->tg x=(14,r):=λx hx=>by simp at hx;rw[hx];exact ht
 have hk:∀k,k≠14->∀x,x∈[g]->(tg x).1≠k:=λk hk x hx e=>hk (by rw[<- e,hT x hx]);have hu:=dM.refl w tg;refine⟨⟨h.st' hf (hk 11 (by decide)),h.t1,h.vJ hf (hk 12 (by decide)),h.t2,λx x1 x2=>?_,h.um hf (hk 15 (by decide)) hu,h.vK hf (hk 13 (by decide)),h.t3,
  λi hi=>h.tn hf hi (fT (hk 16 (by decide))) hu,h.vL hf (hk 17 (by decide)),h.t4,zf h.tok hf⟩,GFr.of hf (hk 0 (by decide))⟩
 rw[q8];by_cases e:x=r
 ·subst e;rw[if_pos rfl,hv];exact hp
 ·rw[if_neg e];exact(h.refs x x1 x2).fr hf (λz hz=>by rw[hT z hz];simp;exact Ne.symm e) hu
theorem MG.Dm(h:MG w tg Λ K T B M σ){r:Int}{b:Nat}(h1:1<=r)(h2:r<=(σ.N:Int))(hb:b<σ.nw r){g off n c:Nat}(hv:Λ.dv r=.slice (some ⟨g,off,none⟩) n c)(y:Int) :
  MG (w.setCell ⟨g,off+b,none⟩ (.int .u64 y)) tg Λ K T B M (σ.cV r (b:Int) y)/\GFr w tg (w.setCell ⟨g,off+b,none⟩ (.int .u64 y)) tg:=by
 have hr:=h.data r h1 h2;rw[hv]at hr;obtain⟨hp,ht⟩:=hr.put (by unfold bp;simpa using hb) y;have hf:Fr [g] w (w.setCell ⟨g,off+b,none⟩ (.int .u64 y)):=(Fr.refl _ _).setCell (p:=⟨g,off+b,none⟩) (.inl (by simp)) _;have hT:∀x,x∈[g]->tg x=(15,r):=λx hx=>by simp at hx;rw[hx];exact ht
 have hk:∀k,k≠15->∀x,x∈[g]->(tg x).1≠k:=λk hk x hx e=>hk (by rw[<- e,hT x hx]);have hu:=dM.refl w tg;refine⟨⟨h.st' hf (hk 11 (by decide)),h.t1,h.vJ hf (hk 12 (by decide)),h.t2,h.uk hf (hk 14 (by decide)) hu,λx x1 x2=>?_,h.vK hf (hk 13 (by decide)),h.t3,
  λi hi=>h.tn hf hi (fT (hk 16 (by decide))) hu,h.vL hf (hk 17 (by decide)),h.t4,zf h.tok hf⟩,GFr.of hf (hk 0 (by decide))⟩
 rw[pj];by_cases e:x=r
 ·subst e;rw[if_pos rfl,hv];exact hp
 ·rw[if_neg e];exact(h.data x x1 x2).fr hf (λz hz=>by rw[hT z hz];simp;exact Ne.symm e) hu
theorem MG.done(h:MG w tg Λ K T B M σ){i:Nat}(hi:i<T):MG (w.setCell ⟨Λ.db,i,none⟩ (.int .i64 ((σ.done i+1:Nat):Int))) tg Λ K T B M (σ.tick i)/\GFr w tg (w.setCell ⟨Λ.db,i,none⟩ (.int .i64 ((σ.done i+1:Nat):Int))) tg:=by
 have hf:Fr [Λ.db] w (w.setCell ⟨Λ.db,i,none⟩ (.int .i64 ((σ.done i+1:Nat):Int))):=(Fr.refl _ _).setCell (p:=⟨Λ.db,i,none⟩) (.inl (by simp)) _;have hk:∀k,k≠17->∀x,x∈[Λ.db]->(tg x).1≠k:=λk hk x hx e=>hk (by simp at hx;rw[<- e,hx,h.t4]);have hu:=dM.refl w tg;refine⟨⟨h.st' hf (hk 11 (by decide)),h.t1,h.vJ hf (hk 12 (by decide)),h.t2,h.uk hf (hk 14 (by decide)) hu,h.um hf (hk 15 (by decide)) hu,h.vK hf (hk 13 (by decide)),h.t3,
  λi hi=>h.tn hf hi (fT (hk 16 (by decide))) hu,?_,h.t4,zf h.tok hf⟩,GFr.of hf (hk 0 (by decide))⟩
 have:=h.don.put i (.int .i64 ((σ.done i+1:Nat):Int));rw[gy]at this;have e:bz (λi=>Value.int .i64 (σ.done i:Int)) i (.int .i64 ((σ.done i+1:Nat):Int))=λj=>Value.int .i64 ((σ.tick i).done j:Int):=by
  funext j
  show _=Value.int .i64 ((ai σ.done i (σ.done i+1) j:Nat):Int);by_cases e:j=i
  ·subst e;rw[cf,aq]
  ·rw[cN _ _ e,ay _ _ e]
 rw[e]at this;exact this
end
theorem vM(n:Nat)(v:Value)(h:v.cells=#[v]):madeCells #[v] n=aJ n λ_=>v:=by
 have:=cY v h n;rw[h]at this;rw[fl,<- this,Array.toArray_toList]
theorem iU{P:Program}{t e:TypeId}{z:Value}{bytes:Nat}(ht:P.underlying t=some (.slice e))(hi:(P.info? e).map (λi=>(i.zero,i.size,i.bytes))=some (some z,1,bytes))(hz:z.cells=#[z]){n:Nat}(hb:bytes<=64)(hn:n<=4194304)(w:World) :
  (Instr.makeSlice t (.int .i64 (n:Int)) (.int .i64 (n:Int))).run P w=.ok (.slice (some ⟨w.heap.size,0,none⟩) n n) (w.alloc (.cells (aJ n λ_=>z) e)):=by
 have hbn:bytes*n<=64*4194304:=Nat.mul_le_mul hb hn;rw[run_make_row' (P:=P) t e z bytes ht hi hz .i64 .i64 n (by omega) (by omega) w,vM n z hz]
theorem Tryz.lY:(Tryz.prog.info? 62).map (λi=>(i.zero,i.size,i.bytes))=some (some (.slice none 0 0),1,24):=by kernel_rfl
theorem Tryz.vN:(Tryz.prog.info? 55).map (λi=>(i.zero,i.size,i.bytes))=some (some (.slice none 0 0),1,24):=by kernel_rfl
theorem Tryz.nT:(Tryz.prog.info? 3).map (λi=>(i.zero,i.size,i.bytes))=some (some (.int .i64 0),1,8):=by kernel_rfl
theorem Tryz.tu:(Tryz.prog.info? 59).map (λi=>(i.zero,i.size,i.bytes))=some (some (.pointer none),1,8):=by kernel_rfl
theorem tv(S:Nat->Nat)(k s:Nat):aO (ai S k s) (k+1)=aO S k++[.pointer (some ⟨s,0,none⟩)]:=by
 unfold aO;rw[List.range_succ,List.map_append,List.map_singleton,aq]
 congr 1
 apply List.map_congr_left;intro i hi;rw[ay _ _ (by have:=List.mem_range.1 hi;omega)]
section
variable {W w w':World}{L:HL}{X:HX}{h:HS}{x:HT}{s k:Nat}{E:aK}{D D':Nat->Prop}{Q Q':World->Prop}{F:List Nat}
theorem HM.live(hT:Tab W)(H:HM W w L X h x s k E D Q)(hf:Fr F w w')(hF:∀b,b∈F->D b)(hD':∀b,D' b->D b\/w.heap.size<=b)(hq:Q' w'):HM W w' L X h x s k E D' Q':=by
 obtain⟨own,h1,h2,h3,h4⟩:=H;have hlt:=hT.lt;have hsz:=h1.fr.size;have h0:∀b,w.heap.size<=b->own b=0:=λb hb=>by
  obtain⟨tg,FS,H,_⟩:=h1;by_cases e:own b=0
  ·exact e
  ·have:=H.lt b e;omega
 refine⟨own,h1.other hf (λy hy=>h3 y (hF y hy)) (λhx=>by have:=(h3 _ (hF _ hx)).2;omega),λq hq=>?_,λb hb=>?_,hq⟩
 ·obtain⟨k1,k2,k3,k4⟩:=h2 q hq;exact⟨k1.fr hf (λhx=>k4 (hF _ hx)),k2,k3,λhd=>(hD' _ hd).elim k4 (λe=>by have:=k1.lt;omega)⟩
 ·rcases hD' b hb with e|e
  ·exact h3 b e
  ·exact⟨h0 b e,by omega⟩
theorem HM.news(hS:ah D Q)(H:HM W w L X h x s k E D Q)(hf:Fr [] w w')(E2:aK)(h2:∀q,q∈E2->Blk w' q.1 q.2.1 q.2.2/\w.heap.size<=q.1):HM W w' L X h x s k (E2++E) D Q:=by
 obtain⟨own,h1,h3,h4,h5⟩:=H;have hsz:=h1.fr.size;refine⟨own,h1.fr0 hf,λq hq=>?_,h4,hS.stay w w' [] h5 hf (λb hb=>by cases hb)⟩;rcases List.mem_append.1 hq with hq|hq
 ·obtain⟨k1,k2⟩:=h2 q hq;refine⟨k1,?_,by omega,λhd=>by have:=hS.lt w h5 _ hd;omega⟩;obtain⟨tg,FS,H,_⟩:=h1;by_cases e:own q.1=0
  ·exact e
  ·have:=H.lt _ e;omega
 ·exact⟨(h3 q hq).1.fr hf (by simp),(h3 q hq).2⟩
theorem ah.row(hS:ah D Q)(e:TypeId)(A:Option Addr)(n c:Nat)(G:List Nat)(xs:List Value):ah (λb=>b∈G\/D b) (λw=>Lr w e A n c G xs/\Q w):=
 ⟨λw w' F h hf hF=>⟨h.1.fr hf (λg hg hx=>hF g hx (.inl hg)),hS.stay w w' F h.2 hf (λb hb hd=>hF b hb (.inr hd))⟩,λw h b hb=>hb.elim (h.1.lt b) (hS.lt w h.2 b)⟩
def wdV(hb sb:Nat)(mA:Option Addr)(mn mc pb nb T g:Nat)(dl:Value)(wn:Int)(sy:Bool):Array Value:=
 #[.pointer (some ⟨hb,0,none⟩),.pointer (some ⟨sb,0,none⟩),.slice mA mn mc,.slice (some ⟨pb,0,none⟩) T T,.slice (some ⟨nb,0,none⟩) T T,.pointer (some ⟨g,0,none⟩),dl,.int .i64 wn,.bool sy]
structure WL where
 wb:Nat
 sb:Nat
 ob:Nat
 pb:Nat
 nb:Nat
 mA:Option Addr
 mc:Nat
 mG:List Nat
 P:Nat->Nat
def ovE(Λ:WL)(hb g T k:Nat):aK:=
 (Λ.wb,37,wdV hb Λ.sb Λ.mA k Λ.mc Λ.pb Λ.nb T g (.slice none 0 0) 0 false)::(Λ.sb,58,#[.bool false,.slice (some ⟨Λ.ob,0,none⟩) T T])::(Λ.ob,62,aJ T λ_=>.slice none 0 0) ::
  (Λ.pb,55,aJ T λ_=>.slice none 0 0)::(Λ.nb,3,aJ T λ_=>.int .i64 0)::(List.range k).map λi=>(Λ.P i,122,muV hb i Λ.sb (MU.zero 0))
def zS(W w:World)(L:HL)(X:HX)(h:HS)(x:HT)(s k:Nat)(E:aK)(D:Nat->Prop)(Q:World->Prop)(g n:Nat)(Λ:WL):Prop:=
 HM W w L X h x s k (ovE Λ L.hb g h.T n++E) (λb=>b∈Λ.mG\/D b) (λw=>Lr w 59 Λ.mA n Λ.mc Λ.mG (aO Λ.P n)/\Q w)/\(∀b,b∈Λ.mG->¬ D b) /\
  ∀q,q∈E->q.1≠Λ.wb
theorem zS.zero{g wb sb ob pb nb:Nat}(hS:ah D Q)(hT:Tab W)(H:HM W w L X h x s k E D Q)(hf:Fr [] w w')(h1:Blk w' wb 37 (wdV L.hb sb none 0 0 pb nb h.T g (.slice none 0 0) 0 false))(h2:Blk w' sb 58 #[.bool false,.slice (some ⟨ob,0,none⟩) h.T h.T])
  (h3:Blk w' ob 62 (aJ h.T λ_=>.slice none 0 0)) (h4:Blk w' pb 55 (aJ h.T λ_=>.slice none 0 0)) (h5:Blk w' nb 3 (aJ h.T λ_=>.int .i64 0)) (hb:w.heap.size<=wb/\w.heap.size<=sb/\w.heap.size<=ob/\w.heap.size<=pb/\w.heap.size<=nb) :
  zS W w' L X h x s k E D Q g 0 ⟨wb,sb,ob,pb,nb,none,0,[],λ_=>0⟩:=by
 have hl:∀q,q∈E->q.1<w.heap.size:=λq hq=>(H.blk (b:=q.1) (t:=q.2.1) (cs:=q.2.2) hq).lt;have H1:=H.news hS hf (ovE ⟨wb,sb,ob,pb,nb,none,0,[],λ_=>0⟩ L.hb g h.T 0) (λq hq=>by
  simp only[ovE,List.range_zero,List.map_nil,D5,List.not_mem_nil,or_false]at hq;rcases hq with e|e|e|e|e
  ·rw[e];exact⟨h1,hb.1⟩
  ·rw[e];exact⟨h2,hb.2.1⟩
  ·rw[e];exact⟨h3,hb.2.2.1⟩
  ·rw[e];exact⟨h4,hb.2.2.2.1⟩
  ·rw[e];exact⟨h5,hb.2.2.2.2⟩)
 refine⟨H1.live (F:=[]) hT (Fr.refl _ _) (λb hb=>by cases hb) (λb hb=>?_) ⟨Lr.nil _ _,H1.q⟩,(λb hb=>by cases hb),λq hq e=>?_⟩
 ·rcases hb with hb|hb
  ·cases hb
  ·exact .inl hb
 ·have:=hl q hq;have:q.1=wb:=e;omega
theorem po{o1 o2 o3 o4:Obj}{t:TypeId}{cs:Array Value}:Blk (((((w.alloc (.cells cs t)).alloc o1).alloc o2).alloc o3).alloc o4).drew w.heap.size t cs:=(((((Blk.new w t cs).alloc o1).alloc o2).alloc o3).alloc o4).drew
theorem pq{o1 o2 o3 o4:Obj}{t:TypeId}{cs:Array Value}:Blk (((((w.alloc o1).alloc (.cells cs t)).alloc o2).alloc o3).alloc o4).drew (w.heap.size+1) t cs:=((((Blk.aV (w:=w.alloc o1) t cs (by simp)).alloc o2).alloc o3).alloc o4).drew
theorem pr{o1 o2 o3 o4:Obj}{t:TypeId}{cs:Array Value}:Blk (((((w.alloc o1).alloc o2).alloc (.cells cs t)).alloc o3).alloc o4).drew (w.heap.size+1+1) t cs:=(((Blk.aV (w:=(w.alloc o1).alloc o2) t cs (by simp)).alloc o3).alloc o4).drew
theorem pt{o1 o2 o3 o4:Obj}{t:TypeId}{cs:Array Value}:Blk (((((w.alloc o1).alloc o2).alloc o3).alloc (.cells cs t)).alloc o4).drew (w.heap.size+1+1+1) t cs:=((Blk.aV (w:=((w.alloc o1).alloc o2).alloc o3) t cs (by simp)).alloc o4).drew
theorem BD{o1 o2 o3 o4:Obj}{t:TypeId}{cs:Array Value}:Blk (((((w.alloc o1).alloc o2).alloc o3).alloc o4).alloc (.cells cs t)).drew (w.heap.size+1+1+1+1) t cs:=(Blk.aV (w:=(((w.alloc o1).alloc o2).alloc o3).alloc o4) t cs (by simp)).drew
end
section
variable {W w w':World}{L:HL}{X:HX}{h h2:HS}{x x2:HT}{s k:Nat}{E:aK}{D D0:Nat->Prop}{Q Q0:World->Prop}{mb t sb ob:Nat}{m:MU}
theorem vO(hS:ah D Q)(hT:Tab W)(H:HM W w L X h x s k ((mb,122,muV L.hb t sb m)::E) D Q)(hne:∀q,q∈E->q.1≠mb){I:Nat}(had:m.ad=(I:Int))(hI:I<h.n)(hz:h.f I=0) :
  Calls Tryz.prog 103 #[.pointer (some ⟨mb,0,none⟩)] w λe w'=>e=.returned (bk 0 0 An.zero false true false (.slice none 0 0))/\HM W w' L X h x s k ((mb,122,muV L.hb t sb { m with st:=4,ad:=(I:Int) })::E) D Q:=by
 have hmb:=H.blk (D4 ..);have hlt:=hmb.lt;have hltE:∀q,q∈E->q.1<w.heap.size:=λq hq=>(H.blk (b:=q.1) (t:=q.2.1) (cs:=q.2.2) (D3 _ hq)).lt;have hrm:w.heap.size≠mb:=by omega
 have hrE:∀q,q∈E->q.1≠w.heap.size:=λq hq=>by have:=hltE q hq;omega
 have hneR:∀cs:Array Value,∀q,q∈((w.heap.size,81,cs)::E:aK)->q.1≠mb:=λcs q hq=>by
  rcases D5.1 hq with rfl|hq
  ·exact hrm
  ·exact hne q hq
 have HX:Hid (HM W (w.alloc (.cells #[.int .i64 0,.int .i64 0,.int .i64 0,.int .u64 0,.bool false,.bool false,.bool false,.bool false,.slice none 0 0] 81)) L X h x s k ((w.heap.size,81,#[.int .i64 0,.int .i64 0,.int .i64 0,.int .u64 0,.bool false,.bool false,.bool false,.bool false,.slice none 0 0])::(mb,122,muV L.hb t sb m)::E) D Q):=H.alloc hS 81 #[.int .i64 0,.int .i64 0,.int .i64 0,.int .u64 0,.bool false,.bool false,.bool false,.bool false,.slice none 0 0];have HEnd:Hid (∀w' a0 a1 a2 a3 a4 a5 a6 a7 a8 v0 v1 v2 v3 v4 v5 v6 v7 v8,HM W w' L X h x s k ((mb,122,muV L.hb t sb { m with st:=4,ad:=(I:Int) })::(w.heap.size,81,#[a0,a1,a2,a3,a4,a5,a6,a7,a8])::E) D Q->HM W (cD w' w.heap.size v0 v1 v2 v3 v4 v5 v6 v7 v8) L X h x s k ((mb,122,muV L.hb t sb { m with st:=4,ad:=(I:Int) })::E) D Q):=λw' a0 a1 a2 a3 a4 a5 a6 a7 a8 v0 v1 v2 v3 v4 v5 v6 v7 v8 q=>
  q.swap.cX hS hT (λy hy=>by
   rcases D5.1 hy with rfl|hy
   ·exact λe=>hrm e.symm
   ·exact hrE y hy) v0 v1 v2 v3 v4 v5 v6 v7 v8
 have HLd:=aa (HX.out.uj hS hI);have HGo:Hid (∀w',HM W w' L X h x s k ((w.heap.size,81,#[.int .i64 0,.int .i64 0,.int .i64 0,.int .u64 0,.bool false,.bool false,.bool false,.bool false,.slice none 0 0])::(mb,122,muV L.hb t sb m)::E) D Q->Calls Tryz.prog 145 #[.pointer (some ⟨mb,0,none⟩),.int .i64 4,.int .i64 (I:Int)] w' λe w''=>e=.returned (.agg #[.int .i64 0,.int .i64 0,.int .i64 0,.int .u64 0,.bool false,.bool false,.bool true,.bool false,.slice none 0 0])/\HM W w'' L X h x s k ((mb,122,muV L.hb t sb { m with st:=4,ad:=(I:Int) })::(w.heap.size,81,#[.int .i64 0,.int .i64 0,.int .i64 0,.int .u64 0,.bool false,.bool false,.bool false,.bool false,.slice none 0 0])::E) D Q):=λw' q=>HM.BB hS hT q.swap (hneR _) 4 (I:Int);obtain⟨c0,c1,c2,c3,c4,c5,c6,c7,c8,c9,c10⟩:=aL hmb;rw[had]at c10;have d20:=H.hc.c20;have NHb:L.hb<w.heap.size:=ae d20;rw[hz]at HLd;have hb0:(((0:Nat):Int) !=0)=false:=rfl;unfold bk An.zero;clear H hmb hltE HX hne hneR hrm hrE had hI hz;generalize ((0:Nat):Int)=fv at *;go_enter Tryz.func103,Tryz.ntmps103
 go_wp2_with fail
 refine HLd.out.mono ?_;rintro e w1 ⟨rfl,hA⟩;have HA1:=aa hA;clear hA HLd c0 c1 c2 c3 c4 c5 c6 c7 c8 c9 c10 d20;go_wp2_with fail
 go_quiet (fail)
 go_wp2_with fail
 refine(HGo.out _ (HA1.out.fr0 hS ((Fr.refl _ _).drewN _))).mono ?_;rintro e w5 ⟨rfl,hA⟩;have HA5:=aa hA;have hrb:=hA.blk (D3 _ (D4 ..));have y0:=hrb.cell 0;have y1:=hrb.cell 1;have y2:=hrb.cell 2;have y3:=hrb.cell 3;have y4:=hrb.cell 4;have y5:=hrb.cell 5;have y6:=hrb.cell 6;have y7:=hrb.cell 7;have y8:=hrb.cell 8;have z0:=hrb.frozen 0;have z1:=hrb.frozen 1;have z2:=hrb.frozen 2;have z3:=hrb.frozen 3;have z4:=hrb.frozen 4;have z5:=hrb.frozen 5;have z6:=hrb.frozen 6;have z7:=hrb.frozen 7;have z8:=hrb.frozen 8;have NR:=hrb.lt;clear hA hrb;go_wp2_with fail
 refine bodyPost_ret (v:=.agg #[.int .i64 0,.int .i64 0,.int .i64 0,.int .u64 0,.bool false,.bool false,.bool true,.bool false,.slice none 0 0]) (by simp[results,Tryz.results103,go_sem, *]) rfl ⟨rfl,?_⟩;exact HEnd.out _ _ _ _ _ _ _ _ _ _ _ _ _ _ _ _ _ _ _ HA5.out
def tw(W:World)(L:HL)(X:HX)(h:HS)(x:HT)(s k:Nat)(E:aK)(D0:Nat->Prop)(Q0:World->Prop)(mb t sb ob n:Nat)(xs:List Value)(OV:Nat->Value)(m:MU)(I:Nat)(e:Ending)(w':World):Prop:=
 ∃A' c' G',e=.returned (bk 0 0 An.zero false true false (.slice none 0 0)) /\
  HM W w' L X h x s k ((mb,122,muV L.hb t sb { m with st:=4,ad:=(I:Int) })::(ob,62,aJ h.T (bz OV t (.slice A' (n+1) c')))::E) (λb=>b∈G'\/D0 b) (λw=>Lr w 67 A' (n+1) c' G' (xs++[.int .u64 (h.f I:Int)])/\Q0 w)/\∀g,g∈G'->¬ D0 g
theorem vP(hS:ah D0 Q0)(hT:Tab W){A:Option Addr}{n c:Nat}{G:List Nat}{xs:List Value}{OV:Nat->Value}{bv:Value}(H:HM W w L X h x s k ((mb,122,muV L.hb t sb m)::(ob,62,aJ h.T OV)::E) (λb=>b∈G\/D0 b) (λw=>Lr w 67 A n c G xs/\Q0 w))
  (hne0:∀q,q∈E->q.1≠mb) (hob:∀q,q∈E->q.1≠ob) (hms:(sb,58,#[bv,.slice (some ⟨ob,0,none⟩) h.T h.T])∈E) (ht:t<h.T) (hO:OV t=.slice A n c) (hGD:∀g,g∈G->¬ D0 g) (hn:n<=1048576) {I:Nat} (had:m.ad=(I:Int)) (hI:I<h.n) (hz:h.f I≠0) :
  Calls Tryz.prog 103 #[.pointer (some ⟨mb,0,none⟩)] w (tw W L X h x s k E D0 Q0 mb t sb ob n xs OV m I):=by
 obtain⟨i0,hi,hz0,hz1,hz2⟩:=info_parts Tryz.fm;have hS1:=hS.row 67 A n c G xs;have hmb:=H.blk (D4 ..);have hlt:=hmb.lt;have hbo:=H.blk (b:=ob) (D3 _ (D4 ..));have hom:ob≠mb:=hbo.apart hmb (by decide);have hne:∀q,q∈((ob,62,aJ h.T OV)::E:aK)->q.1≠mb:=aM hom hne0;have hltE:∀q,q∈((ob,62,aJ h.T OV)::E:aK)->q.1<w.heap.size:=λq hq=>(H.blk (b:=q.1) (t:=q.2.1) (cs:=q.2.2) (D3 _ hq)).lt;have hlo:ob<w.heap.size:=hbo.lt;have hrm:w.heap.size≠mb:=by omega
 have hro:w.heap.size≠ob:=by omega
 have hrE:∀q,q∈E->q.1≠w.heap.size:=λq hq=>by have:=hltE q (D3 _ hq);omega
 have HX:Hid (HM W (w.alloc (.cells #[.int .i64 0,.int .i64 0,.int .i64 0,.int .u64 0,.bool false,.bool false,.bool false,.bool false,.slice none 0 0] 81)) L X h x s k ((w.heap.size,81,#[.int .i64 0,.int .i64 0,.int .i64 0,.int .u64 0,.bool false,.bool false,.bool false,.bool false,.slice none 0 0])::(mb,122,muV L.hb t sb m)::(ob,62,aJ h.T OV)::E) (λb=>b∈G\/D0 b) (λw=>Lr w 67 A n c G xs/\Q0 w)):=H.alloc hS1 81 #[.int .i64 0,.int .i64 0,.int .i64 0,.int .u64 0,.bool false,.bool false,.bool false,.bool false,.slice none 0 0];obtain⟨fv,hfv⟩:∃fv,fv=h.f I:=⟨_,rfl⟩;have hb1:((fv:Int) !=0)=true:=by rw[hfv];simp;omega
 have hT64:=H.ok.tm;have hlt1:(t:Int)<(h.T:Int):=by omega
 have HLd:=aa (HX.out.uj hS1 hI);rw[<- hfv]at HLd;have HC:Hid (∀w',HM W w' L X h x s k ((w.heap.size,81,#[.int .i64 0,.int .i64 0,.int .i64 0,.int .u64 0,.bool false,.bool false,.bool false,.bool false,.slice none 0 0])::(mb,122,muV L.hb t sb m)::(ob,62,aJ h.T OV)::E) (λb=>b∈G\/D0 b) (λw=>Lr w 67 A n c G xs/\Q0 w)->w'.cell? ⟨mb,1,none⟩=some (.int .i64 (t:Int))/\w'.cell? ⟨mb,2,none⟩=some (.pointer (some ⟨sb,0,none⟩))/\w'.cell? ⟨sb,1,none⟩=some (.slice (some ⟨ob,0,none⟩) h.T h.T)/\w'.cell? ⟨ob,t,none⟩=some (.slice A n c)):=λw' q=>by
  obtain⟨c0,c1,c2,c3,c4,c5,c6,c7,c8,c9,c10⟩:=aL (q.blk (D3 _ (D4 ..)));have hs:=q.blk (b:=sb) (D3 _ (D3 _ (D3 _ hms)));have ho:=q.blk (b:=ob) (D3 _ (D3 _ (D4 ..)));exact⟨c1,c2,hs.cell 1,by rw[ho.cell t,cg ht,hO]⟩
 have HFZ:Hid (∀w1 wq w',HM W w1 L X h x s k ((w.heap.size,81,#[.int .i64 0,.int .i64 0,.int .i64 0,.int .u64 0,.bool false,.bool false,.bool false,.bool false,.slice none 0 0])::(mb,122,muV L.hb t sb m)::(ob,62,aJ h.T OV)::E) (λb=>b∈G\/D0 b) (λw=>Lr w 67 A n c G xs/\Q0 w)->Fr [] w1 wq->Fr G wq w'->w'.cell? ⟨ob,t,none⟩=some (.slice A n c)/\w'.frozen? ⟨ob,t,none⟩=false):=λw1 wq w' q hf hg=>by
  have ho:=q.blk (b:=ob) (D3 _ (D3 _ (D4 ..)));have hnm:ob∉G:=λhx=>q.q.1.apart ho (by decide) hx;have hb1:=(ho.fr hf (by simp)).fr hg hnm;exact⟨by rw[hb1.cell t,cg ht,hO],hb1.frozen t⟩
 have HLR:Hid (∀w1 wq,HM W w1 L X h x s k ((w.heap.size,81,#[.int .i64 0,.int .i64 0,.int .i64 0,.int .u64 0,.bool false,.bool false,.bool false,.bool false,.slice none 0 0])::(mb,122,muV L.hb t sb m)::(ob,62,aJ h.T OV)::E) (λb=>b∈G\/D0 b) (λw=>Lr w 67 A n c G xs/\Q0 w)->Fr [] w1 wq->Lr wq 67 A n c G xs):=λw1 wq q hf=>q.q.1.fr0 hf;have HN:Hid (n+1<=maxLen/\(n+1)*8<=140737488355328):=⟨by unfold maxLen;omega,by omega⟩;have HPost:Hid (∀w1 wq w2 A' c' G',HM W w1 L X h x s k ((w.heap.size,81,#[.int .i64 0,.int .i64 0,.int .i64 0,.int .u64 0,.bool false,.bool false,.bool false,.bool false,.slice none 0 0])::(mb,122,muV L.hb t sb m)::(ob,62,aJ h.T OV)::E) (λb=>b∈G\/D0 b) (λw=>Lr w 67 A n c G xs/\Q0 w)->Fr [] w1 wq->Lr w2 67 A' (n+1) c' G' (xs++[.int .u64 (fv:Int)])->Fr G wq w2->(∀g,g∈G'->g∈G\/(g=wq.heap.size/\0<1)) ->
   HM W (w2.setCell ⟨ob,t,none⟩ (.slice A' (n+1) c')) L X h x s k ((mb,122,muV L.hb t sb m)::(w.heap.size,81,#[.int .i64 0,.int .i64 0,.int .i64 0,.int .u64 0,.bool false,.bool false,.bool false,.bool false,.slice none 0 0])::(ob,62,aJ h.T (bz OV t (.slice A' (n+1) c')))::E) (λb=>b∈G'\/D0 b) (λw=>Lr w 67 A' (n+1) c' G' (xs++[.int .u64 (fv:Int)])/\Q0 w)/\∀g,g∈G'->¬ D0 g):=λw1 wq w2 A' c' G' q hf hL hg hG'=>by
  have q1:=q.fr0 hS1 hf;have hq:=hS.stay _ w2 G q1.q.2 hg hGD;have q2:HM W w2 L X h x s k ((w.heap.size,81,#[.int .i64 0,.int .i64 0,.int .i64 0,.int .u64 0,.bool false,.bool false,.bool false,.bool false,.slice none 0 0])::(mb,122,muV L.hb t sb m)::(ob,62,aJ h.T OV)::E) (λb=>b∈G'\/D0 b) (λw=>Lr w 67 A' (n+1) c' G' (xs++[.int .u64 (fv:Int)])/\Q0 w):=
   q1.live hT hg (λb hb=>.inl hb) (λb hb=>by
    rcases hb with hb|hb
    ·rcases hG' b hb with e|e
     ·exact .inl (.inl e)
     ·exact .inr (by omega)
    ·exact .inl (.inr hb)) ⟨hL,hq⟩
  have hS2:=hS.row 67 A' (n+1) c' G' (xs++[.int .u64 (fv:Int)]);have q3:HM W w2 L X h x s k ((ob,62,aJ h.T OV)::(mb,122,muV L.hb t sb m)::(w.heap.size,81,#[.int .i64 0,.int .i64 0,.int .i64 0,.int .u64 0,.bool false,.bool false,.bool false,.bool false,.slice none 0 0])::E) (λb=>b∈G'\/D0 b) (λw=>Lr w 67 A' (n+1) c' G' (xs++[.int .u64 (fv:Int)])/\Q0 w):=q2.sub (λy hy=>by simp only[D5]at hy ⊢;rcases hy with e|e|e|e <;> simp[e]);have hbo2:=q3.blk (b:=ob) (D4 ..);have hp:=hbo2.put t (.slice A' (n+1) c');rw[gy]at hp;have q4:=q3.mh hS2 hT ((Fr.refl [ob] w2).setCell (p:=⟨ob,t,none⟩) (.inl (by simp)) (.slice A' (n+1) c')) hp (aM (λe=>hom e.symm) (aM hro hob));refine⟨q4.sub (λy hy=>by simp only[D5]at hy ⊢;rcases hy with e|e|e|e <;> simp[e]),λg hgm hd=>?_⟩;rcases hG' g hgm with e|e
  ·exact hGD g e hd
  ·have:=hS.lt _ q1.q.2 g hd;omega
 have HGo:Hid (∀w' A' c' G',HM W w' L X h x s k ((mb,122,muV L.hb t sb m)::(w.heap.size,81,#[.int .i64 0,.int .i64 0,.int .i64 0,.int .u64 0,.bool false,.bool false,.bool false,.bool false,.slice none 0 0])::(ob,62,aJ h.T (bz OV t (.slice A' (n+1) c')))::E) (λb=>b∈G'\/D0 b) (λw=>Lr w 67 A' (n+1) c' G' (xs++[.int .u64 (fv:Int)])/\Q0 w)->Calls Tryz.prog 145 #[.pointer (some ⟨mb,0,none⟩),.int .i64 4,.int .i64 (I:Int)] w' λe w''=>e=.returned (.agg #[.int .i64 0,.int .i64 0,.int .i64 0,.int .u64 0,.bool false,.bool false,.bool true,.bool false,.slice none 0 0]) /\
   HM W w'' L X h x s k ((mb,122,muV L.hb t sb { m with st:=4,ad:=(I:Int) })::(w.heap.size,81,#[.int .i64 0,.int .i64 0,.int .i64 0,.int .u64 0,.bool false,.bool false,.bool false,.bool false,.slice none 0 0])::(ob,62,aJ h.T (bz OV t (.slice A' (n+1) c')))::E) (λb=>b∈G'\/D0 b) (λw=>Lr w 67 A' (n+1) c' G' (xs++[.int .u64 (fv:Int)])/\Q0 w)):=λw' A' c' G' q=>HM.BB (hS.row _ _ _ _ _ _) hT q (aM hrm (aM hom hne0)) 4 (I:Int)
 have HEnd:Hid (∀w' A' c' G' v0 v1 v2 v3 v4 v5 v6 v7 v8,HM W w' L X h x s k ((mb,122,muV L.hb t sb { m with st:=4,ad:=(I:Int) })::(w.heap.size,81,#[.int .i64 0,.int .i64 0,.int .i64 0,.int .u64 0,.bool false,.bool false,.bool false,.bool false,.slice none 0 0])::(ob,62,aJ h.T (bz OV t (.slice A' (n+1) c')))::E) (λb=>b∈G'\/D0 b) (λw=>Lr w 67 A' (n+1) c' G' (xs++[.int .u64 (fv:Int)])/\Q0 w)->(∀g,g∈G'->¬ D0 g) ->
   tw W L X h x s k E D0 Q0 mb t sb ob n xs OV m I (.returned (.agg #[.int .i64 0,.int .i64 0,.int .i64 0,.int .u64 0,.bool false,.bool false,.bool true,.bool false,.slice none 0 0])) (cD w' w.heap.size v0 v1 v2 v3 v4 v5 v6 v7 v8)):=λw' A' c' G' v0 v1 v2 v3 v4 v5 v6 v7 v8 q hg=>by
  rw[hfv]at q;exact⟨A',c',G',rfl,q.swap.cX (hS.row _ _ _ _ _ _) hT (aM (λe=>hrm e.symm) (aM (λe=>hro e.symm) hrE)) v0 v1 v2 v3 v4 v5 v6 v7 v8,hg⟩
 obtain⟨c0,c1,c2,c3,c4,c5,c6,c7,c8,c9,c10⟩:=aL hmb;rw[had]at c10;have d20:=H.hc.c20;have NHb:L.hb<w.heap.size:=ae d20;clear H hmb hbo hltE HX hne hne0 hob hom hrm hro hrE had hI hz hfv hms hO hGD hS hS1 hn hT64 ht hlo;go_enter Tryz.func103,Tryz.ntmps103
 go_wp2_with fail
 refine HLd.out.mono ?_;rintro e w1 ⟨rfl,hA⟩;have HA1:=aa hA;obtain⟨k1,k2,k3,k4⟩:=HC.out _ hA;clear hA HLd c0 c1 c2 c3 c4 c5 c6 c7 c8 c9 c10 d20;go_wp2_with fail
 go_quiet (fail)
 go_wp2_with fail
 go_quiet (fail)
 go_wp2_with (first|(at_builtin;go_loud (refine aF rfl _ _ 62 rfl 67 i0 (.int .u64 0) 8 Tryz.underlying62 hi hz0 hz1 hz2 rfl rfl (HLR.out _ _ HA1.out (((Fr.refl _ _).drewN _).alloc _)) rfl rfl (λ_=>cG (w1.drewN _) (.int .u64 (fv:Int)) 67 rfl _ (Fr.refl _ _)) (by intro u hu;simp at hu;rw[hu];rfl) HN.out.1 HN.out.2 ?_);intro A' c' G' w2 HLn HFn HGn;have d0:=(HFZ.out _ _ _ HA1.out (((Fr.refl _ _).drewN _).alloc _) HFn.out).1;have dz:=(HFZ.out _ _ _ HA1.out (((Fr.refl _ _).drewN _).alloc _) HFn.out).2))
 have HP:=HPost.out _ _ _ _ _ _ HA1.out (((Fr.refl _ _).drewN _).alloc _) HLn.out HFn.out HGn.out;have HG2:=aa HP.2;refine(HGo.out _ _ _ _ HP.1).mono ?_;rintro e w5 ⟨rfl,hA⟩;have HA5:=aa hA;have hrb:=hA.blk (D3 _ (D4 ..));have y0:=hrb.cell 0;have y1:=hrb.cell 1;have y2:=hrb.cell 2;have y3:=hrb.cell 3;have y4:=hrb.cell 4;have y5:=hrb.cell 5;have y6:=hrb.cell 6;have y7:=hrb.cell 7;have y8:=hrb.cell 8;have z0:=hrb.frozen 0;have z1:=hrb.frozen 1;have z2:=hrb.frozen 2;have z3:=hrb.frozen 3;have z4:=hrb.frozen 4;have z5:=hrb.frozen 5;have z6:=hrb.frozen 6;have z7:=hrb.frozen 7;have z8:=hrb.frozen 8;have NR:=hrb.lt;clear hA hrb HP;go_wp2_with fail
 refine bodyPost_ret (v:=.agg #[.int .i64 0,.int .i64 0,.int .i64 0,.int .u64 0,.bool false,.bool false,.bool true,.bool false,.slice none 0 0]) (by simp[results,Tryz.results103,go_sem, *]) rfl ?_;exact HEnd.out _ _ _ _ _ _ _ _ _ _ _ _ _ HA5.out HG2.out
end
end Go.Proofs.YtimkofiempcfdaaGreatDoor
