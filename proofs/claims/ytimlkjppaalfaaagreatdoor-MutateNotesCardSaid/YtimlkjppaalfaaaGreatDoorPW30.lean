/- Package mutate: whole. -/
import Derived.Test.YtimlkjppaalfaaaGreatDoorPW24
import Derived.WalkKit
import Derived.BigQuiet
import Derived.Deep.CutRange
import Derived.Deep.RegionHeld3
set_option linter.unusedVariables false
set_option linter.unusedSimpArgs false
set_option maxHeartbeats 3200000
set_option maxRecDepth 100000
open List renaming mem_cons_of_mem->CZ,mem_cons_self->C0,mem_cons->C1
open Int renaming toNat_natCast->Db
open Nat renaming le_refl->Dd
namespace Go.Proofs.YtimlkjppaalfaaaGreatDoor
open Go.RowKit Go.Gl HS
section
variable {W w w':World}{L:HL}{X:HX}{h h2:HS}{x x2:HT}{s k:Nat}{E:aK}{D:Nat->Prop}{Q:World->Prop}{mb t sb:Nat}{m:MU}
def fL:Array Value:=#[.int .i64 0,.int .i64 0,.int .i64 0,.int .u64 0,.bool false]
def opC(m:MU):Array Value:=#[.int .i64 m.k,.int .i64 m.a,.int .i64 m.b,.int .i64 m.c,.int .u64 m.v]
def Cu(W w:World)(L:HL)(X:HX)(h:HS)(x:HT)(s k:Nat)(E:aK)(D:Nat->Prop)(Q:World->Prop)(mb t sb:Nat)(m:MU)(a1 ob:Nat):Prop:=
 HM W w L X h x s k ((ob,69,opC m)::(a1+1,71,fL)::(a1,71,fL)::(mb,127,muV L.hb t sb m)::E) D Q/\a1+1<ob
theorem vt{B T t:Nat}{σ:GS}(ht:t<T)(a:Int):rh B σ t a=gq B T σ t a (t:Int):=by
 have hf:aA T (t:Int):=by unfold aA;omega
 unfold rh gq;rw[if_pos hf,Db]
theorem vu{B T t:Nat}{σ:GS}(ht:t<T)(a:Int):jc B σ t a=di B T σ t a (t:Int):=by
 have hf:aA T (t:Int):=by unfold aA;omega
 unfold jc di;rw[Db];by_cases e:aG (σ.st t) a
 ·rw[if_pos e,if_pos ⟨e,hf⟩]
 ·rw[if_neg e,if_neg (λx=>e x.1)]
theorem HM.yh(hS:ah D Q)(hT:Tab W){b:Nat}{ty:TypeId}:∀(l:List (Nat×Value)) {w:World}{cs:Array Value},HM W w L X h x s k ((b,ty,cs)::E) D Q->(∀q,q∈E->q.1≠b)->HM W (l.foldl (λw p=>w.setCell ⟨b,p.1,none⟩ p.2) w) L X h x s k E D Q
|[],_,_,H,_=>H.sub (λq hq=>CZ _ hq)
|p::l,_,_,H,hne=>HM.yh hS hT l (H.lO hS hT hne p.1 p.2) hne
theorem qE(hS:ah D Q)(hT:Tab W)(H:HM W w L X h x s k ((mb,127,muV L.hb t sb m)::E) D Q)(hne:∀q,q∈E->q.1≠mb)(ht:t<h.T)(hB:L.B<=64)(hl:∀i,i<h.T->(h.st i).length<=L.B){M:Nat}(hk:¬ (1<=m.k/\m.k<=5)) :
  Calls Tryz.prog 84 #[.pointer (some ⟨mb,0,none⟩)] w λe w'=>e=.returned (gt 0 0 (bq L.B M h.T h.hG t m.op))/\HM W w' L X { h with st:=(aM L.B M h.T h.hG t m.op).st } x s k ((mb,127,muV L.hb t sb m)::E) D Q:=by
 obtain⟨y,hy⟩:∃y,y=bq L.B M h.T h.hG t m.op:=⟨_,rfl⟩;obtain⟨st',hst⟩:∃st',st'=(aM L.B M h.T h.hG t m.op).st:=⟨_,rfl⟩;rw[<- hy,<- hst];have HY:=aa hy;have HSt:=aa hst;have HKk:=aa hk;have HLl:=aa hl;have HBb:=aa hB;have HTt:=aa ht;have HNe:=aa hne;clear hy hst hk;have hmb:=H.blk (C0 ..);have hlt:=hmb.lt;have hltE:∀q,q∈E->q.1<w.heap.size:=λq hq=>(H.blk (b:=q.1) (t:=q.2.1) (cs:=q.2.2) (CZ _ hq)).lt;have HX2:Hid (HM W ((w.alloc (.cells #[.int .i64 0,.int .i64 0,.int .i64 0,.int .u64 0,.bool false] 71)).alloc (.cells #[.int .i64 0,.int .i64 0,.int .i64 0,.int .u64 0,.bool false] 71)) L X h x s k ((w.heap.size+1,71,fL)::(w.heap.size,71,fL)::(mb,127,muV L.hb t sb m)::E) D Q):=by
  have q:=(H.alloc hS 71 #[.int .i64 0,.int .i64 0,.int .i64 0,.int .u64 0,.bool false]).alloc hS 71 #[.int .i64 0,.int .i64 0,.int .i64 0,.int .u64 0,.bool false];rw[show(w.alloc (.cells #[.int .i64 0,.int .i64 0,.int .i64 0,.int .u64 0,.bool false] 71)).heap.size=w.heap.size+1 by simp]at q;exact q
 obtain⟨w2,hw2⟩:∃w2,w2=((w.alloc (.cells #[.int .i64 0,.int .i64 0,.int .i64 0,.int .u64 0,.bool false] 71)).alloc (.cells #[.int .i64 0,.int .i64 0,.int .i64 0,.int .u64 0,.bool false] 71)):=⟨_,rfl⟩;have hsz:w2.heap.size=w.heap.size+1+1:=by rw[hw2];simp
 rw[<- hw2]at HX2;have HSk:Hid (∀w',Fr [] w2 w'->Calls Tryz.prog 89 #[.pointer (some ⟨mb,0,none⟩)] w' λe w''=>e=.returned (.pointer (some ⟨L.S t,0,none⟩))/\∃j,w''=w'.drewN j):=λw' hf=>(HX2.out.fr0 hS hf).stack hS (CZ _ (CZ _ (C0 ..))) ht;have HK:Hid (∀w',Fr [] w2 w'->w'.cell? ⟨mb,4,none⟩=some (.int .i64 m.k)/\w'.cell? ⟨mb,5,none⟩=some (.int .i64 m.a)/\w'.cell? ⟨mb,6,none⟩=some (.int .i64 m.b)/\w'.cell? ⟨mb,7,none⟩=some (.int .i64 m.c)/\w'.cell? ⟨mb,8,none⟩=some (.int .u64 m.v)):=λw' hf=>by
  obtain⟨c0,c1,c2,c3,c4,c5,c6,c7,c8,c9,c10⟩:=aJ ((HX2.out.fr0 hS hf).blk (CZ _ (CZ _ (C0 ..))));exact⟨c4,c5,c6,c7,c8⟩
 have HW:Hid (∀w' ob,Fr [] w2 w'->w2.heap.size<=ob->Blk w' ob 69 (opC m)->Cu W w' L X h x s k E D Q mb t sb m w.heap.size ob):=λw' ob hf hn hb=>⟨HX2.out.new hS hf hb hn,by omega⟩;have K0:=HK.out _ (Fr.refl _ _).drew;have K1:=λj=>HK.out _ (((Fr.refl [] w2).drew).drewN j);have K2:=λj=>HK.out _ ((Fr.refl [] w2).drewN j);have K3:=λo=>HK.out _ (((Fr.refl [] w2).alloc o).drew);have K4:=λo j=>HK.out _ ((((Fr.refl [] w2).alloc o).drewN j));have K5:=λo j=>HK.out _ ((((Fr.refl [] w2).drewN j).alloc o));have N2:mb<w2.heap.size:=by omega
 have HN:=aa hsz;have HLE:=aa hltE;have HLT:=aa hlt;unfold gt;clear hsz hmb hltE hlt H hne ht hB hl;go_enter Tryz.func84,Tryz.ntmps84
 go_wp2_with fail
 rw[<- hw2];clear hw2;go_cut [4,5] from 6 to 12 (λp q wc=>∃ob,p=.pointer (some ⟨L.S t,0,none⟩)/\q=.pointer (some ⟨ob,0,none⟩)/\Cu W wc L X h x s k E D Q mb t sb m w.heap.size ob)
 case first=>
  obtain⟨c4,c5,c6,c7,c8⟩:=HK.out _ (Fr.refl [] w2);have HSA:Hid (Calls Tryz.prog 89 #[.pointer (some ⟨mb,0,none⟩)] w2.drew λe w''=>e=.returned (.pointer (some ⟨L.S t,0,none⟩))/\Fr [] w2 w''):=(HSk.out _ (Fr.refl _ _).drew).mono (by rintro e w' ⟨rfl,j,rfl⟩;exact⟨rfl,((Fr.refl _ _).drew).drewN _⟩);have HSB:Hid (Calls Tryz.prog 89 #[.pointer (some ⟨mb,0,none⟩)] (w2.alloc (.cells #[.int .i64 0,.int .i64 0,.int .i64 0,.int .i64 0,.int .u64 0] 69)).drew λe w''=>e=.returned (.pointer (some ⟨L.S t,0,none⟩))/\Fr [] w2 w''/\Blk w'' w2.heap.size 69 #[.int .i64 0,.int .i64 0,.int .i64 0,.int .i64 0,.int .u64 0]):=(HSk.out _ ((Fr.refl _ _).alloc _).drew).mono (by rintro e w' ⟨rfl,j,rfl⟩;exact⟨rfl,(((Fr.refl _ _).alloc _).drew).drewN _,(Blk.new _ _ _).fr (((Fr.refl [] _).drew).drewN _) (by simp)⟩);have HSC:Hid (Calls Tryz.prog 89 #[.pointer (some ⟨mb,0,none⟩)] (w2.alloc (.cells #[.int .i64 m.k,.int .i64 m.a,.int .i64 m.b,.int .i64 m.c,.int .u64 m.v] 69)).drew λe w''=>e=.returned (.pointer (some ⟨L.S t,0,none⟩))/\Fr [] w2 w''/\Blk w'' w2.heap.size 69 #[.int .i64 m.k,.int .i64 m.a,.int .i64 m.b,.int .i64 m.c,.int .u64 m.v]):=(HSk.out _ ((Fr.refl _ _).alloc _).drew).mono (by rintro e w' ⟨rfl,j,rfl⟩;exact⟨rfl,(((Fr.refl _ _).alloc _).drew).drewN _,(Blk.new _ _ _).fr (((Fr.refl [] _).drew).drewN _) (by simp)⟩);go_region_with (go_at_call 89;first|((with_reducible refine Calls.mono HSA.out ?_);rintro e w1 ⟨rfl,hf1⟩;obtain⟨k4,k5,k6,k7,k8⟩:=HK.out _ hf1;have HF1:=aa hf1;have NW:mb<w1.heap.size:=af k4;clear hf1)|((with_reducible refine Calls.mono HSB.out ?_);rintro e w1 ⟨rfl,hf1,hb1⟩;obtain⟨k4,k5,k6,k7,k8⟩:=HK.out _ hf1;have HF1:=aa hf1;have HB1:=aa hb1;have NW:mb<w1.heap.size:=af k4;have NB:=hb1.lt;have v0:=hb1.cell 0;have v1:=hb1.cell 1;have v2:=hb1.cell 2;have v3:=hb1.cell 3;have v4:=hb1.cell 4;have z0:=hb1.frozen 0;have z1:=hb1.frozen 1;have z2:=hb1.frozen 2;have z3:=hb1.frozen 3;have z4:=hb1.frozen 4;clear hf1 hb1)|((with_reducible refine Calls.mono HSC.out ?_);rintro e w1 ⟨rfl,hf1,hb1⟩;obtain⟨k4,k5,k6,k7,k8⟩:=HK.out _ hf1;have HF1:=aa hf1;have HB1:=aa hb1;have NW:mb<w1.heap.size:=af k4;clear hf1 hb1))
  all_goals
   go_wp2_with fail
   go_meet
   case rel=>
    first
    |exact⟨w1.heap.size,rfl,rfl,HW.out _ _ (HF1.out.alloc _) HF1.out.size (Blk.new _ _ _)⟩
    |exact⟨w2.heap.size,rfl,rfl,HW.out _ _ HF1.out (Dd _) HB1.out⟩
    |exact⟨w2.heap.size,rfl,rfl,HW.out _ _ (by (iterate 5 (refine Fr.setCell ?_ (.inr (Dd _)) _)); exact HF1.out) (Dd _) (by have:=((((HB1.out.put 0 (.int .i64 m.k)).put 1 (.int .i64 m.a)).put 2 (.int .i64 m.b)).put 3 (.int .i64 m.c)).put 4 (.int .u64 m.v); unfold opC; simpa using this)⟩
 case rest=>
  obtain⟨ob,rfl,rfl,hW⟩:=hcut;have H4:=aa hW.1;have hob:=hW.1.blk (C0 ..);have o0:wc.cell? ⟨ob,0,none⟩=some (.int .i64 m.k):=hob.cell 0;have o1:wc.cell? ⟨ob,1,none⟩=some (.int .i64 m.a):=hob.cell 1;have o2:wc.cell? ⟨ob,2,none⟩=some (.int .i64 m.b):=hob.cell 2;have NO:=hob.lt;have HOb:=aa hW.2;have HA2:Hid (∀w' h',HM W w' L X h' x s k ((ob,69,opC m)::(w.heap.size+1,71,fL)::(w.heap.size,71,fL)::(mb,127,muV L.hb t sb m)::E) D Q->Blk w' (w.heap.size+1) 71 #[.int .i64 0,.int .i64 0,.int .i64 0,.int .u64 0,.bool false]):=λw' h' q=>q.blk (CZ _ (C0 ..));have HA1:Hid (∀w' h',HM W w' L X h' x s k ((ob,69,opC m)::(w.heap.size+1,71,fL)::(w.heap.size,71,fL)::(mb,127,muV L.hb t sb m)::E) D Q->Blk w' w.heap.size 71 #[.int .i64 0,.int .i64 0,.int .i64 0,.int .u64 0,.bool false]):=λw' h' q=>q.blk (CZ _ (CZ _ (C0 ..)));have HMb:Hid ((mb,127,muV L.hb t sb m)∈((ob,69,opC m)::(w.heap.size+1,71,fL)::(w.heap.size,71,fL)::(mb,127,muV L.hb t sb m)::E)):=CZ _ (CZ _ (CZ _ (C0 ..)));have HF:Hid (∀w' h' (l2 l1:List (Nat×Value)),HM W w' L X h' x s k ((ob,69,opC m)::(w.heap.size+1,71,fL)::(w.heap.size,71,fL)::(mb,127,muV L.hb t sb m)::E) D Q->HM W (l1.foldl (λw1 p=>w1.setCell ⟨w.heap.size,p.1,none⟩ p.2) (l2.foldl (λw1 p=>w1.setCell ⟨w.heap.size+1,p.1,none⟩ p.2) w')) L X h' x s k ((mb,127,muV L.hb t sb m)::E) D Q):=λw' h' l2 l1 q=>by
   have q1:HM W w' L X h' x s k ((w.heap.size+1,71,fL)::(w.heap.size,71,fL)::(mb,127,muV L.hb t sb m)::E) D Q:=q.sub (λy hy=>CZ _ hy);have hlm:=HLT.out;have q2:=HM.yh hS hT l2 q1 (λz hz=>by
    simp only[C1]at hz;rcases hz with e|e|e
    ·rw[e];show w.heap.size≠_;omega
    ·rw[e];show mb≠_;omega
    ·have:=HLE.out z e;omega)
   exact HM.yh hS hT l1 q2 (λz hz=>by
    simp only[C1]at hz;rcases hz with e|e
    ·rw[e];show mb≠_;omega
    ·have:=HLE.out z e;omega)
  have HCm:Hid (∀w' h',HM W w' L X h' x s k ((ob,69,opC m)::(w.heap.size+1,71,fL)::(w.heap.size,71,fL)::(mb,127,muV L.hb t sb m)::E) D Q->w'.cell? ⟨mb,1,none⟩=some (.int .i64 (t:Int))):=λw' h' q=>(q.blk (CZ _ (CZ _ (CZ _ (C0 ..))))).cell 1;have ne2:ob≠w.heap.size+1:=by have:=HOb.out;omega
  have ne1:ob≠w.heap.size:=by have:=HOb.out;omega
  clear hW hob HX2 HW HK HSk K0 K1 K2 K3 K4 K5 N2;by_cases hk:m.k=6
  ·have HYe:Hid (y=⟨ay L.B (h.st t),0,false⟩):=by
    refine aa ?_;rw[HY.out];unfold bq MU.op;simp only[hk];rfl
   have HSe:Hid (st'=bk h.st t (aH L.B (h.st t) 0)):=by
    refine aa ?_;rw[HSt.out];unfold aM MU.op;simp only[hk];rfl
   rw[hk]at o0;have HC:=aa (H4.out.qv hS HTt.out HBb.out (HLl.out t HTt.out) (r:=0) (by decide));generalize ay L.B (h.st t)=er at *;clear H4;go_wp2_with fail
   refine HC.out.mono ?_;rintro e w5 ⟨rfl,hA⟩;have ha2:=HA2.out _ _ hA;have ha1:=HA1.out _ _ hA;have u0:=ha2.cell 0;have u1:=ha2.cell 1;have u2:=ha2.cell 2;have u3:=ha2.cell 3;have u4:=ha2.cell 4;have uz0:=ha2.frozen 0;have uz1:=ha2.frozen 1;have uz2:=ha2.frozen 2;have uz3:=ha2.frozen 3;have uz4:=ha2.frozen 4;have y0:=ha1.cell 0;have y1:=ha1.cell 1;have y2:=ha1.cell 2;have y3:=ha1.cell 3;have y4:=ha1.cell 4;have z0:=ha1.frozen 0;have z1:=ha1.frozen 1;have z2:=ha1.frozen 2;have z3:=ha1.frozen 3;have z4:=ha1.frozen 4;have NA2:=ha2.lt;have NA1:=ha1.lt;have HA5:=aa hA;clear hA ha2 ha1;clear o0 o1 o2 HC;go_wp2_with fail
   refine bodyPost_ret (v:=.agg #[.int .i64 0,.int .i64 0,.int .i64 er,.int .u64 0,.bool false]) (by simp[results,Tryz.results84,go_sem, *]) rfl ⟨?_,?_⟩
   ·rw[HYe.out]
   ·rw[HSe.out];exact HF.out _ _ [(2,_)] [(0,_),(1,_),(2,_),(3,_),(4,_)] HA5.out
  have n6:=hk;clear hk;by_cases hk:m.k=7
  ·have HYe:Hid (y=⟨cG (h.st t),0,false⟩):=by
    refine aa ?_;rw[HY.out];unfold bq MU.op;simp only[hk];rfl
   have HSe:Hid (st'=bk h.st t (dM (h.st t))):=by
    refine aa ?_;rw[HSt.out];unfold aM MU.op;simp only[hk];rfl
   rw[hk]at o0;have HC:=aa (H4.out.CQ hS HTt.out HBb.out (HLl.out t HTt.out));generalize cG (h.st t)=er at *;generalize fu (h.st t)=pv at *;clear H4;go_wp2_with fail
   refine HC.out.mono ?_;rintro e w5 ⟨rfl,hA⟩;have ha2:=HA2.out _ _ hA;have ha1:=HA1.out _ _ hA;have u0:=ha2.cell 0;have u1:=ha2.cell 1;have u2:=ha2.cell 2;have u3:=ha2.cell 3;have u4:=ha2.cell 4;have uz0:=ha2.frozen 0;have uz1:=ha2.frozen 1;have uz2:=ha2.frozen 2;have uz3:=ha2.frozen 3;have uz4:=ha2.frozen 4;have y0:=ha1.cell 0;have y1:=ha1.cell 1;have y2:=ha1.cell 2;have y3:=ha1.cell 3;have y4:=ha1.cell 4;have z0:=ha1.frozen 0;have z1:=ha1.frozen 1;have z2:=ha1.frozen 2;have z3:=ha1.frozen 3;have z4:=ha1.frozen 4;have NA2:=ha2.lt;have NA1:=ha1.lt;have HA5:=aa hA;clear hA ha2 ha1;clear o0 o1 o2 HC;go_wp2_with fail
   refine bodyPost_ret (v:=.agg #[.int .i64 0,.int .i64 0,.int .i64 er,.int .u64 0,.bool false]) (by simp[results,Tryz.results84,go_sem, *]) rfl ⟨?_,?_⟩
   ·rw[HYe.out]
   ·rw[HSe.out];exact HF.out _ _ [(2,_)] [(0,_),(1,_),(2,_),(3,_),(4,_)] HA5.out
  have n7:=hk;clear hk;by_cases hk:m.k=9
  ·have HYe:Hid (y=⟨eH h.hG t m.a m.b,0,eI h.hG t m.a m.b⟩):=by
    refine aa ?_;rw[HY.out];unfold bq MU.op;simp only[hk];rfl
   have HSe:Hid (st'=h.st):=by
    refine aa ?_;rw[HSt.out];unfold aM MU.op;simp only[hk];rfl
   rw[hk]at o0;have HC:=aa (qx hS H4.out HTt.out m.a m.b);generalize eH h.hG t m.a m.b=er at *;generalize eI h.hG t m.a m.b=bt at *;clear H4;go_wp2_with fail
   refine HC.out.mono ?_;rintro e w5 ⟨rfl,hA⟩;have ha2:=HA2.out _ _ hA;have ha1:=HA1.out _ _ hA;have u0:=ha2.cell 0;have u1:=ha2.cell 1;have u2:=ha2.cell 2;have u3:=ha2.cell 3;have u4:=ha2.cell 4;have uz0:=ha2.frozen 0;have uz1:=ha2.frozen 1;have uz2:=ha2.frozen 2;have uz3:=ha2.frozen 3;have uz4:=ha2.frozen 4;have y0:=ha1.cell 0;have y1:=ha1.cell 1;have y2:=ha1.cell 2;have y3:=ha1.cell 3;have y4:=ha1.cell 4;have z0:=ha1.frozen 0;have z1:=ha1.frozen 1;have z2:=ha1.frozen 2;have z3:=ha1.frozen 3;have z4:=ha1.frozen 4;have NA2:=ha2.lt;have NA1:=ha1.lt;have HA5:=aa hA;clear hA ha2 ha1;clear o0 o1 o2 HC;go_wp2_with fail
   refine bodyPost_ret (v:=.agg #[.int .i64 0,.int .i64 0,.int .i64 er,.int .u64 0,.bool bt]) (by simp[results,Tryz.results84,go_sem, *]) rfl ⟨?_,?_⟩
   ·rw[HYe.out]
   ·rw[HSe.out];exact HF.out _ _ [(4,_),(2,_)] [(0,_),(1,_),(2,_),(3,_),(4,_)] HA5.out
  have n9:=hk;clear hk;by_cases hk:m.k=10
  ·have HYe:Hid (y=⟨am (h.st t) m.a,0,eJ h.hG t m.a⟩):=by
    refine aa ?_;rw[HY.out];unfold bq MU.op;simp only[hk];rfl
   have HSe:Hid (st'=h.st):=by
    refine aa ?_;rw[HSt.out];unfold aM MU.op;simp only[hk];rfl
   rw[hk]at o0;have HC:=aa (qw hS H4.out HTt.out m.a);generalize am (h.st t) m.a=er at *;generalize eJ h.hG t m.a=bt at *;clear H4;go_wp2_with fail
   refine HC.out.mono ?_;rintro e w5 ⟨rfl,hA⟩;have ha2:=HA2.out _ _ hA;have ha1:=HA1.out _ _ hA;have u0:=ha2.cell 0;have u1:=ha2.cell 1;have u2:=ha2.cell 2;have u3:=ha2.cell 3;have u4:=ha2.cell 4;have uz0:=ha2.frozen 0;have uz1:=ha2.frozen 1;have uz2:=ha2.frozen 2;have uz3:=ha2.frozen 3;have uz4:=ha2.frozen 4;have y0:=ha1.cell 0;have y1:=ha1.cell 1;have y2:=ha1.cell 2;have y3:=ha1.cell 3;have y4:=ha1.cell 4;have z0:=ha1.frozen 0;have z1:=ha1.frozen 1;have z2:=ha1.frozen 2;have z3:=ha1.frozen 3;have z4:=ha1.frozen 4;have NA2:=ha2.lt;have NA1:=ha1.lt;have HA5:=aa hA;clear hA ha2 ha1;clear o0 o1 o2 HC;go_wp2_with fail
   refine bodyPost_ret (v:=.agg #[.int .i64 0,.int .i64 0,.int .i64 er,.int .u64 0,.bool bt]) (by simp[results,Tryz.results84,go_sem, *]) rfl ⟨?_,?_⟩
   ·rw[HYe.out]
   ·rw[HSe.out];exact HF.out _ _ [(4,_),(2,_)] [(0,_),(1,_),(2,_),(3,_),(4,_)] HA5.out
  have n10:=hk;clear hk;by_cases hk:m.k=11
  ·have HYe:Hid (y=⟨0,0,false⟩):=by
    refine aa ?_;rw[HY.out];unfold bq MU.op;simp only[hk];rfl
   have HSe:Hid (st'=h.st):=by
    refine aa ?_;rw[HSt.out];unfold aM MU.op;simp only[hk];rfl
   rw[hk]at o0;have hA:=H4.out;have ha2:=HA2.out _ _ hA;have ha1:=HA1.out _ _ hA;have u0:=ha2.cell 0;have u1:=ha2.cell 1;have u2:=ha2.cell 2;have u3:=ha2.cell 3;have u4:=ha2.cell 4;have uz0:=ha2.frozen 0;have uz1:=ha2.frozen 1;have uz2:=ha2.frozen 2;have uz3:=ha2.frozen 3;have uz4:=ha2.frozen 4;have y0:=ha1.cell 0;have y1:=ha1.cell 1;have y2:=ha1.cell 2;have y3:=ha1.cell 3;have y4:=ha1.cell 4;have z0:=ha1.frozen 0;have z1:=ha1.frozen 1;have z2:=ha1.frozen 2;have z3:=ha1.frozen 3;have z4:=ha1.frozen 4;have NA2:=ha2.lt;have NA1:=ha1.lt;have HA5:=aa hA;clear hA ha2 ha1;clear H4;go_wp2_with fail
   refine bodyPost_ret (v:=.agg #[.int .i64 0,.int .i64 0,.int .i64 0,.int .u64 0,.bool false]) (by simp[results,Tryz.results84,go_sem, *]) rfl ⟨?_,?_⟩
   ·rw[HYe.out]
   ·rw[HSe.out];exact HF.out _ _ [] [(0,_),(1,_),(2,_),(3,_),(4,_)] HA5.out
  have n11:=hk;clear hk;by_cases hk:m.k=12
  ·have HYe:Hid (y=⟨eu m.a,0,false⟩):=by
    refine aa ?_;rw[HY.out];unfold bq MU.op;simp only[hk];rfl
   have HSe:Hid (st'=h.st):=by
    refine aa ?_;rw[HSt.out];unfold aM MU.op;simp only[hk];rfl
   rw[hk]at o0;have HC:=aa (me m.a wc);generalize eu m.a=er at *;have H5:=H4;clear H4;go_wp2_with fail
   refine HC.out.mono ?_;rintro e w5 ⟨rfl,rfl⟩;have hA:=H5.out;have ha2:=HA2.out _ _ hA;have ha1:=HA1.out _ _ hA;have u0:=ha2.cell 0;have u1:=ha2.cell 1;have u2:=ha2.cell 2;have u3:=ha2.cell 3;have u4:=ha2.cell 4;have uz0:=ha2.frozen 0;have uz1:=ha2.frozen 1;have uz2:=ha2.frozen 2;have uz3:=ha2.frozen 3;have uz4:=ha2.frozen 4;have y0:=ha1.cell 0;have y1:=ha1.cell 1;have y2:=ha1.cell 2;have y3:=ha1.cell 3;have y4:=ha1.cell 4;have z0:=ha1.frozen 0;have z1:=ha1.frozen 1;have z2:=ha1.frozen 2;have z3:=ha1.frozen 3;have z4:=ha1.frozen 4;have NA2:=ha2.lt;have NA1:=ha1.lt;have HA5:=aa hA;clear hA ha2 ha1;clear o0 o1 o2 HC;go_wp2_with fail
   refine bodyPost_ret (v:=.agg #[.int .i64 0,.int .i64 0,.int .i64 er,.int .u64 0,.bool false]) (by simp[results,Tryz.results84,go_sem, *]) rfl ⟨?_,?_⟩
   ·rw[HYe.out]
   ·rw[HSe.out];exact HF.out _ _ [(2,_)] [(0,_),(1,_),(2,_),(3,_),(4,_)] HA5.out
  have n12:=hk;clear hk;by_cases hk:m.k=13
  ·have HYe:Hid (y=⟨gq L.B h.T h.hG t m.a m.b,0,false⟩):=by
    refine aa ?_;rw[HY.out];unfold bq MU.op;simp only[hk];rfl
   have HSe:Hid (st'=(di L.B h.T h.hG t m.a m.b).st):=by
    refine aa ?_;rw[HSt.out];unfold aM MU.op;simp only[hk];rfl
   rw[hk]at o0;have HC:=aa (lL hS H4.out HMb.out HTt.out HBb.out HLl.out m.a m.b);generalize gq L.B h.T h.hG t m.a m.b=er at *;clear H4;go_wp2_with fail
   refine HC.out.mono ?_;rintro e w5 ⟨rfl,hA⟩;have ha2:=HA2.out _ _ hA;have ha1:=HA1.out _ _ hA;have u0:=ha2.cell 0;have u1:=ha2.cell 1;have u2:=ha2.cell 2;have u3:=ha2.cell 3;have u4:=ha2.cell 4;have uz0:=ha2.frozen 0;have uz1:=ha2.frozen 1;have uz2:=ha2.frozen 2;have uz3:=ha2.frozen 3;have uz4:=ha2.frozen 4;have y0:=ha1.cell 0;have y1:=ha1.cell 1;have y2:=ha1.cell 2;have y3:=ha1.cell 3;have y4:=ha1.cell 4;have z0:=ha1.frozen 0;have z1:=ha1.frozen 1;have z2:=ha1.frozen 2;have z3:=ha1.frozen 3;have z4:=ha1.frozen 4;have NA2:=ha2.lt;have NA1:=ha1.lt;have HA5:=aa hA;clear hA ha2 ha1;clear o0 o1 o2 HC;go_wp2_with fail
   refine bodyPost_ret (v:=.agg #[.int .i64 0,.int .i64 0,.int .i64 er,.int .u64 0,.bool false]) (by simp[results,Tryz.results84,go_sem, *]) rfl ⟨?_,?_⟩
   ·rw[HYe.out]
   ·rw[HSe.out];exact HF.out _ _ [(2,_)] [(0,_),(1,_),(2,_),(3,_),(4,_)] HA5.out
  have n13:=hk;clear hk;by_cases hk:m.k=8
  ·have HYe:Hid (y=⟨gq L.B h.T h.hG t m.a (t:Int),0,false⟩):=by
    refine aa ?_;rw[HY.out];unfold bq MU.op;simp only[hk];show(⟨rh L.B h.hG t m.a,0,false⟩:An)=_;rw[vt HTt.out]
   have HSe:Hid (st'=(di L.B h.T h.hG t m.a (t:Int)).st):=by
    refine aa ?_;rw[HSt.out];unfold aM MU.op;simp only[hk];show(jc L.B h.hG t m.a).st=_;rw[vu HTt.out]
   rw[hk]at o0;have HAd:=aa (H4.out.fr0 hS (Fr.refl _ _).drew);have HC:Hid (Calls Tryz.prog 130 #[.pointer (some ⟨mb,0,none⟩),.int .i64 m.a,.int .i64 (t:Int)] wc.drew λe w'=>e=.returned (.int .i64 (gq L.B h.T h.hG t m.a (t:Int)))/\HM W w' L X { h with st:=(di L.B h.T h.hG t m.a (t:Int)).st } x s k ((ob,69,opC m)::(w.heap.size+1,71,fL)::(w.heap.size,71,fL)::(mb,127,muV L.hb t sb m)::E) D Q):=lL hS HAd.out HMb.out HTt.out HBb.out HLl.out m.a (t:Int);have HK8:Hid (∀w' h',HM W w' L X h' x s k ((ob,69,opC m)::(w.heap.size+1,71,fL)::(w.heap.size,71,fL)::(mb,127,muV L.hb t sb m)::E) D Q->w'.cell? ⟨ob,1,none⟩=some (.int .i64 m.a)/\w'.cell? ⟨mb,1,none⟩=some (.int .i64 (t:Int))):=λw' h' q=>⟨(q.blk (C0 ..)).cell 1,HCm.out _ _ q⟩;have HKS:Hid (∀w' h' v2,HM W w' L X h' x s k ((ob,69,opC m)::(w.heap.size+1,71,fL)::(w.heap.size,71,fL)::(mb,127,muV L.hb t sb m)::E) D Q->(w'.setCell ⟨w.heap.size+1,2,none⟩ v2).cell? ⟨ob,1,none⟩=some (.int .i64 m.a)/\(w'.setCell ⟨w.heap.size+1,2,none⟩ v2).cell? ⟨mb,1,none⟩=some (.int .i64 (t:Int))):=λw' h' v2 q=>by
    obtain⟨g0,g1⟩:=HK8.out w' h' q;have hf:=(Fr.refl [w.heap.size+1] w').setCell (p:=⟨w.heap.size+1,2,none⟩) (.inl (by simp)) v2;have:=HLT.out;exact⟨(hf.cell (af g0) (by simp;omega)).trans g0,(hf.cell (af g1) (by simp;omega)).trans g1⟩
   have K8:=HK8.out _ _ HAd.out;generalize gq L.B h.T h.hG t m.a (t:Int)=er at *;clear H4;go_wp2_with fail
   go_region_held3 (λw'=>w'.cell? ⟨ob,1,none⟩=some (.int .i64 m.a)/\w'.cell? ⟨mb,1,none⟩=some (.int .i64 (t:Int)))
    (first|with_reducible exact K8|with_reducible exact KS|go_keep)
    (first|(go_at_call 130;refine HC.out.mono ?_;rintro e w5 ⟨rfl,hA⟩;have ha2:=HA2.out _ _ hA;have ha1:=HA1.out _ _ hA;have u0:=ha2.cell 0;have uz0:=ha2.frozen 0;have y0:=ha1.cell 0;have z0:=ha1.frozen 0;have u1:=ha2.cell 1;have uz1:=ha2.frozen 1;have y1:=ha1.cell 1;have z1:=ha1.frozen 1;have u2:=ha2.cell 2;have uz2:=ha2.frozen 2;have y2:=ha1.cell 2;have z2:=ha1.frozen 2;have u3:=ha2.cell 3;have uz3:=ha2.frozen 3;have y3:=ha1.cell 3;have z3:=ha1.frozen 3;have u4:=ha2.cell 4;have uz4:=ha2.frozen 4;have y4:=ha1.cell 4;have z4:=ha1.frozen 4;have NA2:=ha2.lt;have NA1:=ha1.lt;replace K8:=HK8.out _ _ hA;have KS:=HKS.out _ _ (.int .i64 er) hA;have HA5:=aa hA;clear hA ha2 ha1))
   all_goals
    go_wp2_with fail
    refine bodyPost_ret (v:=.agg #[.int .i64 0,.int .i64 0,.int .i64 er,.int .u64 0,.bool false]) (by simp[results,Tryz.results84,go_sem, *]) rfl ⟨?_,?_⟩
    ·rw[HYe.out]
    ·rw[HSe.out];exact HF.out _ _ [(2,_)] [(0,_),(1,_),(2,_),(3,_),(4,_)] HA5.out
  have n8:=hk;clear hk;have hk:=HKk.out;have m1:m.k≠1:=by omega
  have m2:m.k≠2:=by omega
  have m3:m.k≠3:=by omega
  have m4:m.k≠4:=by omega
  have m5:m.k≠5:=by omega
  have b6:(m.k==6)=false:=by simpa using n6
  have b7:(m.k==7)=false:=by simpa using n7
  have b8:(m.k==8)=false:=by simpa using n8
  have b9:(m.k==9)=false:=by simpa using n9
  have b10:(m.k==10)=false:=by simpa using n10
  have b11:(m.k==11)=false:=by simpa using n11
  have b12:(m.k==12)=false:=by simpa using n12
  have b13:(m.k==13)=false:=by simpa using n13
  have HYe:Hid (y=⟨17,0,false⟩):=by
   refine aa ?_;rw[HY.out];unfold bq MU.op;simp only[if_neg m1,if_neg m2,if_neg m3,if_neg m4,if_neg m5,if_neg n6,if_neg n7,if_neg n8,if_neg n9,if_neg n10,if_neg n11,if_neg n12,if_neg n13]
  have HSe:Hid (st'=h.st):=by
   refine aa ?_;rw[HSt.out];unfold aM MU.op;simp only[if_neg m1,if_neg m2,if_neg m3,if_neg m5,if_neg n6,if_neg n7,if_neg n8,if_neg n13];rfl
  clear m1 m2 m3 m4 m5 n6 n7 n8 n9 n10 n11 n12 n13 hk;have hA:=H4.out;have ha2:=HA2.out _ _ hA;have ha1:=HA1.out _ _ hA;have u0:=ha2.cell 0;have u1:=ha2.cell 1;have u2:=ha2.cell 2;have u3:=ha2.cell 3;have u4:=ha2.cell 4;have uz0:=ha2.frozen 0;have uz1:=ha2.frozen 1;have uz2:=ha2.frozen 2;have uz3:=ha2.frozen 3;have uz4:=ha2.frozen 4;have y0:=ha1.cell 0;have y1:=ha1.cell 1;have y2:=ha1.cell 2;have y3:=ha1.cell 3;have y4:=ha1.cell 4;have z0:=ha1.frozen 0;have z1:=ha1.frozen 1;have z2:=ha1.frozen 2;have z3:=ha1.frozen 3;have z4:=ha1.frozen 4;have NA2:=ha2.lt;have NA1:=ha1.lt;have HA5:=aa hA;clear hA ha2 ha1;clear H4;generalize m.k=kk at *;go_wp2_with fail
  refine bodyPost_ret (v:=.agg #[.int .i64 0,.int .i64 0,.int .i64 17,.int .u64 0,.bool false]) (by simp[results,Tryz.results84,go_sem, *]) rfl ⟨?_,?_⟩
  ·rw[HYe.out]
  ·rw[HSe.out];exact HF.out _ _ [(2,_)] [(0,_),(1,_),(2,_),(3,_),(4,_)] HA5.out
end
end Go.Proofs.YtimlkjppaalfaaaGreatDoor
