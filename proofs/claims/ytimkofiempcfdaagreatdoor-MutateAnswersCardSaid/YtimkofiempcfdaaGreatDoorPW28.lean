/- Several texts joined (pack.py): Ux Uy Zh Zi. -/
import Derived.Test.YtimkofiempcfdaaGreatDoorPW24
import Derived.Test.YtimkofiempcfdaaGreatDoorPW02
import Derived.WalkKit
import Derived.BigQuiet
import Derived.Deep.RegionHeld3
import Derived.Test.YtimkofiempcfdaaGreatDoorPW27
set_option linter.unusedVariables false
set_option linter.unusedSimpArgs false
set_option maxHeartbeats 3200000
set_option maxRecDepth 100000
open List renaming mem_cons_of_mem->D3,mem_cons_self->D4,mem_cons->D5
open Int renaming eq_ofNat_of_zero_le->Ed
open Nat renaming le_refl->Eg,le_trans->Eh
namespace Go.Proofs.YtimkofiempcfdaaGreatDoor
open Go.RowKit Go.Gl HS
section
variable {W w w':World}{L:HL}{X:HX}{h h2:HS}{x x2:HT}{s k:Nat}{E:aK}{D:Nat->Prop}{Q:World->Prop}{mb t sb:Nat}{m:MU}
abbrev BC(w:World)(b:Nat)(v0 v1 v2 v3 v4 v5 v6:Value):World:=
 ((((((w.setCell ⟨b,4,none⟩ v0).setCell ⟨b,5,none⟩ v1).setCell ⟨b,6,none⟩ v2).setCell ⟨b,7,none⟩ v3).setCell ⟨b,8,none⟩ v4).setCell ⟨b,9,none⟩ v5).setCell ⟨b,10,none⟩ v6
theorem HM.Cu(hS:ah D Q)(hT:Tab W)(H:HM W w L X h x s k ((mb,122,muV L.hb t sb m)::E) D Q)(hne:∀q,q∈E->q.1≠mb)(k0 a0 b0 c0 v0 s0 d0:Int) :
  HM W (BC w mb (.int .i64 k0) (.int .i64 a0) (.int .i64 b0) (.int .i64 c0) (.int .u64 v0) (.int .i64 s0) (.int .i64 d0)) L X h x s k ((mb,122,muV L.hb t sb ⟨m.dn,k0,a0,b0,c0,v0,s0,d0⟩)::E) D Q:=by
 have hb:=H.blk (D4 ..);have hp:=((((((hb.put 4 (.int .i64 k0)).put 5 (.int .i64 a0)).put 6 (.int .i64 b0)).put 7 (.int .i64 c0)).put 8 (.int .u64 v0)).put 9 (.int .i64 s0)).put 10 (.int .i64 d0);refine H.mh hS hT (aR (aR (aR (aR (aR (aR (aR (Fr.refl [mb] w) (by simp) 4 _) (by simp) 5 _) (by simp) 6 _) (by simp) 7 _) (by simp) 8 _) (by simp) 9 _) (by simp) 10 _) ?_ hne;unfold muV at hp ⊢;simpa using hp
theorem HM.tab(H:HM W w L X h x s k E D Q):Tab w:=H.hr.tab
theorem HM.AE(hS:ah D Q)(H:HM W w L X h x s k E D Q)(st field to0:Int) :
  Calls Tryz.prog 107 #[.agg #[.int .i64 h.g.words,.int .i64 h.g.rw,.int .i64 h.g.cw,.int .i64 h.g.regions,.int .i64 h.g.aG,.int .i64 h.g.max],.int .i64 st,.int .i64 field,.int .u64 to0] w λe w'=>e=.returned (.bool (cE h.g st field to0))/\HM W w' L X h x s k E D Q:=
 (wZ h.g H.ok.geo st field to0 w H.tab).mono (by rintro e w' ⟨rfl,hf⟩;exact⟨rfl,H.fr0 hS hf⟩)
theorem tf(hS:ah D Q)(hT:Tab W)(H:HM W w L X h x s k ((mb,122,muV L.hb t sb m)::E) D Q)(hne:∀q,q∈E->q.1≠mb)(ht:t<h.T)(hd:(m.dn:Int)+1<=9223372036854775807){I v:Nat}(had:m.ad=(I:Int))(hI:I<h.n)
  (hc:aH (h.st t) m.c) (hv:aj (h.st t) m.c=(v:Int)) (hnb:cE h.g (h.aQ (h.g.az (I:Int))) (I:Int) (v:Int)=false) :
  Calls Tryz.prog 60 #[.pointer (some ⟨mb,0,none⟩)] w λe w'=>e=.returned (bk (t:Int) (m.dn:Int) ⟨0,0,false⟩ true false false (.slice none 0 0))/\HM W w' L X { h with f:=upd h.f I v } x s k ((mb,122,muV L.hb t sb (MU.zero (m.dn+1)))::E) D Q:=by
 have hmb:=H.blk (D4 ..);have hlt:=hmb.lt;have hltE:∀q,q∈E->q.1<w.heap.size:=λq hq=>(H.blk (b:=q.1) (t:=q.2.1) (cs:=q.2.2) (D3 _ hq)).lt;have hrm:w.heap.size≠mb:=by omega
 have hrE:∀q,q∈E->q.1≠w.heap.size:=λq hq=>by have:=hltE q hq;omega
 have hneR:∀cs:Array Value,∀q,q∈((w.heap.size,81,cs)::E:aK)->q.1≠mb:=λcs q hq=>by
  rcases D5.1 hq with rfl|hq
  ·exact hrm
  ·exact hne q hq
 have HX:Hid (HM W (w.alloc (.cells #[.int .i64 0,.int .i64 0,.int .i64 0,.int .u64 0,.bool false,.bool false,.bool false,.bool false,.slice none 0 0] 81)) L X h x s k ((w.heap.size,81,#[.int .i64 0,.int .i64 0,.int .i64 0,.int .u64 0,.bool false,.bool false,.bool false,.bool false,.slice none 0 0])::(mb,122,muV L.hb t sb m)::E) D Q):=H.alloc hS 81 #[.int .i64 0,.int .i64 0,.int .i64 0,.int .u64 0,.bool false,.bool false,.bool false,.bool false,.slice none 0 0];have HEnd:Hid (∀w' a0 a1 a2 a3 a4 a5 a6 a7 a8 v0 v1 v2 v3 v4 v5 v6 v7 v8,HM W w' L X { h with f:=upd h.f I v } x s k ((mb,122,muV L.hb t sb (MU.zero (m.dn+1)))::(w.heap.size,81,#[a0,a1,a2,a3,a4,a5,a6,a7,a8])::E) D Q->HM W (cD w' w.heap.size v0 v1 v2 v3 v4 v5 v6 v7 v8) L X { h with f:=upd h.f I v } x s k ((mb,122,muV L.hb t sb (MU.zero (m.dn+1)))::E) D Q):=λw' a0 a1 a2 a3 a4 a5 a6 a7 a8 v0 v1 v2 v3 v4 v5 v6 v7 v8 q=>
  q.swap.cX hS hT (λy hy=>by
   rcases D5.1 hy with rfl|hy
   ·exact λe=>hrm e.symm
   ·exact hrE y hy) v0 v1 v2 v3 v4 v5 v6 v7 v8
 have hv2:v<18446744073709551616:=by
  have hc':=hc;unfold aH at hc';have hk:m.c.toNat<(h.st t).length:=by omega
  have:=H.ok.rok t ht _ (show aj (h.st t) m.c∈h.st t by unfold aj;rw[if_pos hc];simp[hk]);omega
 have HF0:Hid (∀i,HM W ((w.alloc (.cells #[.int .i64 0,.int .i64 0,.int .i64 0,.int .u64 0,.bool false,.bool false,.bool false,.bool false,.slice none 0 0] 81)).drewN i) L X h x s k ((w.heap.size,81,#[.int .i64 0,.int .i64 0,.int .i64 0,.int .u64 0,.bool false,.bool false,.bool false,.bool false,.slice none 0 0])::(mb,122,muV L.hb t sb m)::E) D Q):=λi=>HX.out.fr0 hS ((Fr.refl _ _).drewN _);have HSk:Hid (∀i,Calls Tryz.prog 106 #[.pointer (some ⟨mb,0,none⟩)] ((w.alloc (.cells #[.int .i64 0,.int .i64 0,.int .i64 0,.int .u64 0,.bool false,.bool false,.bool false,.bool false,.slice none 0 0] 81)).drewN i) λe w''=>e=.returned (.pointer (some ⟨L.S t,0,none⟩))/\∃j,w''=((w.alloc (.cells #[.int .i64 0,.int .i64 0,.int .i64 0,.int .u64 0,.bool false,.bool false,.bool false,.bool false,.slice none 0 0] 81)).drewN i).drewN j):=λi=>(HF0.out i).stack hS (D3 _ (D4 ..)) ht;have ec:al (h.st t) m.c=0:=by unfold al;rw[if_pos hc]
 have HAc:Hid (∀i,Calls Tryz.prog 47 #[.pointer (some ⟨L.S t,0,none⟩),.int .i64 m.c] ((w.alloc (.cells #[.int .i64 0,.int .i64 0,.int .i64 0,.int .u64 0,.bool false,.bool false,.bool false,.bool false,.slice none 0 0] 81)).drewN i) λe w''=>e=.returned (.tuple #[.int .u64 (v:Int),.int .i64 0])/\(w.alloc (.cells #[.int .i64 0,.int .i64 0,.int .i64 0,.int .u64 0,.bool false,.bool false,.bool false,.bool false,.slice none 0 0] 81)).drewN i=w''):=λi=>by
  have:=(HF0.out i).dI ht m.c;rwa[ec,hv]at this
 have HSt:Hid (∀w',HM W w' L X h x s k ((w.heap.size,81,#[.int .i64 0,.int .i64 0,.int .i64 0,.int .u64 0,.bool false,.bool false,.bool false,.bool false,.slice none 0 0])::(mb,122,muV L.hb t sb m)::E) D Q->Calls Tryz.prog 105 #[.pointer (some ⟨L.ab,0,none⟩),.int .i64 (I:Int),.int .u64 (v:Int)] w' λe w''=>e=.returned (.int .i64 0)/\HM W w'' L X { h with f:=upd h.f I v } x s k ((w.heap.size,81,#[.int .i64 0,.int .i64 0,.int .i64 0,.int .u64 0,.bool false,.bool false,.bool false,.bool false,.slice none 0 0])::(mb,122,muV L.hb t sb m)::E) D Q):=λw' q=>q.sS hS hI rfl hv2;have HRe:Hid (∀w',HM W w' L X { h with f:=upd h.f I v } x s k ((w.heap.size,81,#[.int .i64 0,.int .i64 0,.int .i64 0,.int .u64 0,.bool false,.bool false,.bool false,.bool false,.slice none 0 0])::(mb,122,muV L.hb t sb m)::E) D Q->Calls Tryz.prog 83 #[.agg #[.int .i64 h.g.words,.int .i64 h.g.rw,.int .i64 h.g.cw,.int .i64 h.g.regions,.int .i64 h.g.aG,.int .i64 h.g.max],.int .i64 (I:Int)] w' λe w''=>e=.returned (.int .i64 (h.g.az (I:Int)))/\HM W w'' L X { h with f:=upd h.f I v } x s k ((w.heap.size,81,#[.int .i64 0,.int .i64 0,.int .i64 0,.int .u64 0,.bool false,.bool false,.bool false,.bool false,.slice none 0 0])::(mb,122,muV L.hb t sb m)::E) D Q):=λw' q=>q.region hS (I:Int);have HSa:Hid (∀w',HM W w' L X { h with f:=upd h.f I v } x s k ((w.heap.size,81,#[.int .i64 0,.int .i64 0,.int .i64 0,.int .u64 0,.bool false,.bool false,.bool false,.bool false,.slice none 0 0])::(mb,122,muV L.hb t sb m)::E) D Q->Calls Tryz.prog 38 #[.pointer (some ⟨L.tb,0,none⟩),.int .i64 (h.g.az (I:Int))] w' λe w''=>e=.returned (.int .i64 (h.aQ (h.g.az (I:Int))))/\HM W w'' L X { h with f:=upd h.f I v } x s k ((w.heap.size,81,#[.int .i64 0,.int .i64 0,.int .i64 0,.int .u64 0,.bool false,.bool false,.bool false,.bool false,.slice none 0 0])::(mb,122,muV L.hb t sb m)::E) D Q):=λw' q=>q.state hS _;have HAn:Hid (∀w',HM W w' L X { h with f:=upd h.f I v } x s k ((w.heap.size,81,#[.int .i64 0,.int .i64 0,.int .i64 0,.int .u64 0,.bool false,.bool false,.bool false,.bool false,.slice none 0 0])::(mb,122,muV L.hb t sb m)::E) D Q->Calls Tryz.prog 65 #[.pointer (some ⟨mb,0,none⟩),.agg #[.int .i64 0,.int .i64 0,.int .i64 0,.int .u64 0,.bool false]] w' λe w''=>e=.returned (.agg #[.int .i64 (t:Int),.int .i64 (m.dn:Int),.int .i64 0,.int .u64 0,.bool false,.bool true,.bool false,.bool false,.slice none 0 0])/\HM W w'' L X { h with f:=upd h.f I v } x s k ((mb,122,muV L.hb t sb (MU.zero (m.dn+1)))::(w.heap.size,81,#[.int .i64 0,.int .i64 0,.int .i64 0,.int .u64 0,.bool false,.bool false,.bool false,.bool false,.slice none 0 0])::E) D Q):=λw' q=>HM.answer hS hT q.swap (hneR _) hd 0 0 ⟨0,0,false⟩;have HNt:Hid (∀w' E',HM W w' L X { h with f:=upd h.f I v } x s k E' D Q->Calls Tryz.prog 107 #[.agg #[.int .i64 h.g.words,.int .i64 h.g.rw,.int .i64 h.g.cw,.int .i64 h.g.regions,.int .i64 h.g.aG,.int .i64 h.g.max],.int .i64 (h.aQ (h.g.az (I:Int))),.int .i64 (I:Int),.int .u64 (v:Int)] w' λe w''=>e=.returned (.bool false)/\HM W w'' L X { h with f:=upd h.f I v } x s k E' D Q):=λw' E' q=>by
  have:=HM.AE (h:={ h with f:=upd h.f I v }) hS q (h.aQ (h.g.az (I:Int))) (I:Int) (v:Int);rw[hnb]at this;exact this
 have HCe:Hid (∀w' h' E',h'.g=h.g->h'.T=h.T->HM W w' L X h' x s k E' D Q->w'.cell? ⟨L.hb,14,none⟩=some (.int .i64 h.g.words)/\w'.cell? ⟨L.hb,15,none⟩=some (.int .i64 h.g.rw)/\w'.cell? ⟨L.hb,16,none⟩=some (.int .i64 h.g.cw)/\w'.cell? ⟨L.hb,17,none⟩=some (.int .i64 h.g.regions)/\w'.cell? ⟨L.hb,18,none⟩=some (.int .i64 h.g.aG)/\w'.cell? ⟨L.hb,19,none⟩=some (.int .i64 h.g.max)/\w'.cell? ⟨L.hb,21,none⟩=some (.pointer (some ⟨L.tb,0,none⟩))/\L.hb<w'.heap.size):=λw' h' E' e1 e2 q=>by
  obtain⟨d14,d15,d16,d17,d18,d19,-,d21,-,-,-,-,-,-,-,dh⟩:=q.hc;rw[e1]at d14 d15 d16 d17 d18 d19;exact⟨d14,d15,d16,d17,d18,d19,d21,dh⟩
 obtain⟨c0,c1,c2,c3,c4,c5,c6,c7,c8,c9,c10⟩:=aL hmb;have c20:=H.hc.c20;have N20:L.hb<w.heap.size:=ae c20;rw[had]at c10;have HNE:Hid (∀q,q∈((w.heap.size,81,#[.int .i64 0,.int .i64 0,.int .i64 0,.int .u64 0,.bool false,.bool false,.bool false,.bool false,.slice none 0 0])::E:aK)->q.1≠mb):=hneR _;have hl1:mb<w.heap.size+1:=by omega
 have j1:L.hb<w.heap.size+1:=by omega
 have n0:mb≠w.heap.size:=by omega
 have i0:L.hb≠w.heap.size:=by omega
 unfold bk;clear H hmb hltE HX hne hneR hrm hrE had hI ht hd hc hv hv2 ec hnb;generalize h.aQ (h.g.az (I:Int))=fs at *;generalize h.g.az (I:Int)=rg at *;generalize aj (h.st t) m.c=rc at *;go_enter Tryz.func60,Tryz.ntmps60
 go_wp2_with fail
 go_quiet (fail)
 go_wp2_with fail
 go_quiet ((first|(go_at_call 106;exact bO (HSk.out _))|(go_at_call 47;exact bK (HAc.out _))))
 go_wp2_with fail
 refine(HSt.out _ (HF0.out _)).mono ?_;rintro e w1 ⟨rfl,hA⟩;obtain⟨d14,d15,d16,d17,d18,d19,d21,dh⟩:=HCe.out _ { h with f:=upd h.f I v } _ rfl rfl hA;have HA1:=aa hA;clear hA c0 c1 c2 c3 c4 c5 c6 c7 c8 c9 c10 c20 HF0 HSk HAc HSt;have HA1d:=aa (HA1.out.fr0 hS (Fr.refl _ _).drew);have HKx:Hid (∀w',HM W w' L X { h with f:=upd h.f I v } x s k ((w.heap.size,81,#[.int .i64 0,.int .i64 0,.int .i64 0,.int .u64 0,.bool false,.bool false,.bool false,.bool false,.slice none 0 0])::(mb,122,muV L.hb t sb m)::E) D Q->w'.cell? ⟨L.hb,14,none⟩=some (.int .i64 h.g.words)/\w'.cell? ⟨L.hb,15,none⟩=some (.int .i64 h.g.rw)/\w'.cell? ⟨L.hb,16,none⟩=some (.int .i64 h.g.cw)/\w'.cell? ⟨L.hb,17,none⟩=some (.int .i64 h.g.regions)/\w'.cell? ⟨L.hb,18,none⟩=some (.int .i64 h.g.aG)/\w'.cell? ⟨L.hb,19,none⟩=some (.int .i64 h.g.max)/\w'.cell? ⟨L.hb,21,none⟩=some (.pointer (some ⟨L.tb,0,none⟩))):=λw' q=>by
  obtain⟨d14,d15,d16,d17,d18,d19,d21,dh⟩:=HCe.out _ { h with f:=upd h.f I v } _ rfl rfl q;exact⟨d14,d15,d16,d17,d18,d19,d21⟩
 have K0:=HKx.out _ HA1d.out;go_wp2_with fail
 go_region_held3 (λw'=>w'.cell? ⟨L.hb,14,none⟩=some (.int .i64 h.g.words)/\w'.cell? ⟨L.hb,15,none⟩=some (.int .i64 h.g.rw)/\w'.cell? ⟨L.hb,16,none⟩=some (.int .i64 h.g.cw)/\w'.cell? ⟨L.hb,17,none⟩=some (.int .i64 h.g.regions)/\w'.cell? ⟨L.hb,18,none⟩=some (.int .i64 h.g.aG)/\w'.cell? ⟨L.hb,19,none⟩=some (.int .i64 h.g.max)/\w'.cell? ⟨L.hb,21,none⟩=some (.pointer (some ⟨L.tb,0,none⟩)))
  (first|with_reducible exact K0|go_keep)
  (first|(go_at_call 83;refine(HRe.out _ HA1d.out).mono ?_;rintro e w2 ⟨rfl,hA⟩;have HS2:=aa (HSa.out _ hA);replace K0:=HKx.out _ hA;clear hA)|(go_at_call 38;refine HS2.out.mono ?_;rintro e w3 ⟨rfl,hA⟩;have HAw:=aa (HAn.out _ hA);replace K0:=HKx.out _ hA;clear hA))
 all_goals
  clear d14 d15 d16 d17 d18 d19 d21 dh K0;go_wp2_with fail
  refine HAw.out.mono ?_;rintro e w4 ⟨rfl,hA⟩;have hB:=hA.alloc hS 81 #[.int .i64 (t:Int),.int .i64 (m.dn:Int),.int .i64 0,.int .u64 0,.bool false,.bool true,.bool false,.bool false,.slice none 0 0];obtain⟨d14,d15,d16,d17,d18,d19,d21,dh⟩:=HCe.out _ { h with f:=upd h.f I v } _ rfl rfl hA;have HB4:=aa (HNt.out _ _ hB);have hl4:=(hA.blk (D4 ..)).lt;have hlr:=(hA.blk (D3 _ (D4 ..))).lt;have HL4:Hid (mb<w4.heap.size/\w.heap.size<w4.heap.size/\∀q,q∈E->q.1<w4.heap.size):=⟨hl4,hlr,λq hq=>(hA.blk (b:=q.1) (t:=q.2.1) (cs:=q.2.2) (D3 _ (D3 _ hq))).lt⟩;have m1:L.hb≠w4.heap.size:=by omega
  clear hA hB HAw;go_wp2_with fail
  refine HB4.out.mono ?_;rintro e w5 ⟨rfl,hA⟩;have HA5:=aa hA;have hr2:=hA.blk (D4 ..);have hrb:=hA.blk (D3 _ (D3 _ (D4 ..)));have u0:=hr2.cell 0;have u1:=hr2.cell 1;have u2:=hr2.cell 2;have u3:=hr2.cell 3;have u4:=hr2.cell 4;have u5:=hr2.cell 5;have u6:=hr2.cell 6;have u7:=hr2.cell 7;have u8:=hr2.cell 8;have y0:=hrb.cell 0;have y1:=hrb.cell 1;have y2:=hrb.cell 2;have y3:=hrb.cell 3;have y4:=hrb.cell 4;have y5:=hrb.cell 5;have y6:=hrb.cell 6;have y7:=hrb.cell 7;have y8:=hrb.cell 8;have z0:=hrb.frozen 0;have z1:=hrb.frozen 1;have z2:=hrb.frozen 2;have z3:=hrb.frozen 3;have z4:=hrb.frozen 4;have z5:=hrb.frozen 5;have z6:=hrb.frozen 6;have z7:=hrb.frozen 7;have z8:=hrb.frozen 8;have NR:=hrb.lt;have N2:=hr2.lt;obtain⟨l1,l2,-⟩:=HL4.out;have p1:w4.heap.size≠w.heap.size:=by omega
  have p2:mb≠w4.heap.size:=by omega
  have p3:mb≠w.heap.size:=by omega
  clear hA hr2 hrb HB4 d14 d15 d16 d17 d18 d19 d21 dh;go_wp2_with fail
  refine bodyPost_ret (v:=.agg #[.int .i64 (t:Int),.int .i64 (m.dn:Int),.int .i64 0,.int .u64 0,.bool false,.bool true,.bool false,.bool false,.slice none 0 0]) (by simp[results,Tryz.results60,go_sem, *]) rfl ⟨rfl,?_⟩;exact HEnd.out _ _ _ _ _ _ _ _ _ _ _ _ _ _ _ _ _ _ _ (HA5.out.sub (λy hy=>D3 _ hy))
theorem pg(hS:ah D Q)(hT:Tab W)(H:HM W w L X h x s k ((mb,122,muV L.hb t sb m)::E) D Q)(hne:∀q,q∈E->q.1≠mb)(ht:t<h.T)(hd:(m.dn:Int)+1<=9223372036854775807){I v:Nat}(had:m.ad=(I:Int))(hI:I<h.n)
  (hc:aH (h.st t) m.c) (hv:aj (h.st t) m.c=(v:Int)) (hnb:cE h.g (h.aQ (h.g.az (I:Int))) (I:Int) (v:Int)=true) :
  Calls Tryz.prog 60 #[.pointer (some ⟨mb,0,none⟩)] w λe w'=>e=.returned (bk (t:Int) (m.dn:Int) ⟨0,0,false⟩ true true false (.slice none 0 0))/\HM W w' L X { h with f:=upd h.f I v } x s k ((mb,122,muV L.hb t sb ⟨m.dn+1,0,0,0,0,0,6,(I:Int)⟩)::E) D Q:=by
 have hmb:=H.blk (D4 ..);have hlt:=hmb.lt;have hltE:∀q,q∈E->q.1<w.heap.size:=λq hq=>(H.blk (b:=q.1) (t:=q.2.1) (cs:=q.2.2) (D3 _ hq)).lt;have hrm:w.heap.size≠mb:=by omega
 have hrE:∀q,q∈E->q.1≠w.heap.size:=λq hq=>by have:=hltE q hq;omega
 have hneR:∀cs:Array Value,∀q,q∈((w.heap.size,81,cs)::E:aK)->q.1≠mb:=λcs q hq=>by
  rcases D5.1 hq with rfl|hq
  ·exact hrm
  ·exact hne q hq
 have HX:Hid (HM W (w.alloc (.cells #[.int .i64 0,.int .i64 0,.int .i64 0,.int .u64 0,.bool false,.bool false,.bool false,.bool false,.slice none 0 0] 81)) L X h x s k ((w.heap.size,81,#[.int .i64 0,.int .i64 0,.int .i64 0,.int .u64 0,.bool false,.bool false,.bool false,.bool false,.slice none 0 0])::(mb,122,muV L.hb t sb m)::E) D Q):=H.alloc hS 81 #[.int .i64 0,.int .i64 0,.int .i64 0,.int .u64 0,.bool false,.bool false,.bool false,.bool false,.slice none 0 0];have HEnd:Hid (∀w' a0 a1 a2 a3 a4 a5 a6 a7 a8 v0 v1 v2 v3 v4 v5 v6 v7 v8,HM W w' L X { h with f:=upd h.f I v } x s k ((mb,122,muV L.hb t sb ⟨m.dn+1,0,0,0,0,0,6,(I:Int)⟩)::(w.heap.size,81,#[a0,a1,a2,a3,a4,a5,a6,a7,a8])::E) D Q->HM W (cD w' w.heap.size v0 v1 v2 v3 v4 v5 v6 v7 v8) L X { h with f:=upd h.f I v } x s k ((mb,122,muV L.hb t sb ⟨m.dn+1,0,0,0,0,0,6,(I:Int)⟩)::E) D Q):=λw' a0 a1 a2 a3 a4 a5 a6 a7 a8 v0 v1 v2 v3 v4 v5 v6 v7 v8 q=>
  q.swap.cX hS hT (λy hy=>by
   rcases D5.1 hy with rfl|hy
   ·exact λe=>hrm e.symm
   ·exact hrE y hy) v0 v1 v2 v3 v4 v5 v6 v7 v8
 have hv2:v<18446744073709551616:=by
  have hc':=hc;unfold aH at hc';have hk:m.c.toNat<(h.st t).length:=by omega
  have:=H.ok.rok t ht _ (show aj (h.st t) m.c∈h.st t by unfold aj;rw[if_pos hc];simp[hk]);omega
 have HF0:Hid (∀i,HM W ((w.alloc (.cells #[.int .i64 0,.int .i64 0,.int .i64 0,.int .u64 0,.bool false,.bool false,.bool false,.bool false,.slice none 0 0] 81)).drewN i) L X h x s k ((w.heap.size,81,#[.int .i64 0,.int .i64 0,.int .i64 0,.int .u64 0,.bool false,.bool false,.bool false,.bool false,.slice none 0 0])::(mb,122,muV L.hb t sb m)::E) D Q):=λi=>HX.out.fr0 hS ((Fr.refl _ _).drewN _);have HSk:Hid (∀i,Calls Tryz.prog 106 #[.pointer (some ⟨mb,0,none⟩)] ((w.alloc (.cells #[.int .i64 0,.int .i64 0,.int .i64 0,.int .u64 0,.bool false,.bool false,.bool false,.bool false,.slice none 0 0] 81)).drewN i) λe w''=>e=.returned (.pointer (some ⟨L.S t,0,none⟩))/\∃j,w''=((w.alloc (.cells #[.int .i64 0,.int .i64 0,.int .i64 0,.int .u64 0,.bool false,.bool false,.bool false,.bool false,.slice none 0 0] 81)).drewN i).drewN j):=λi=>(HF0.out i).stack hS (D3 _ (D4 ..)) ht;have ec:al (h.st t) m.c=0:=by unfold al;rw[if_pos hc]
 have HAc:Hid (∀i,Calls Tryz.prog 47 #[.pointer (some ⟨L.S t,0,none⟩),.int .i64 m.c] ((w.alloc (.cells #[.int .i64 0,.int .i64 0,.int .i64 0,.int .u64 0,.bool false,.bool false,.bool false,.bool false,.slice none 0 0] 81)).drewN i) λe w''=>e=.returned (.tuple #[.int .u64 (v:Int),.int .i64 0])/\(w.alloc (.cells #[.int .i64 0,.int .i64 0,.int .i64 0,.int .u64 0,.bool false,.bool false,.bool false,.bool false,.slice none 0 0] 81)).drewN i=w''):=λi=>by
  have:=(HF0.out i).dI ht m.c;rwa[ec,hv]at this
 have HSt:Hid (∀w',HM W w' L X h x s k ((w.heap.size,81,#[.int .i64 0,.int .i64 0,.int .i64 0,.int .u64 0,.bool false,.bool false,.bool false,.bool false,.slice none 0 0])::(mb,122,muV L.hb t sb m)::E) D Q->Calls Tryz.prog 105 #[.pointer (some ⟨L.ab,0,none⟩),.int .i64 (I:Int),.int .u64 (v:Int)] w' λe w''=>e=.returned (.int .i64 0)/\HM W w'' L X { h with f:=upd h.f I v } x s k ((w.heap.size,81,#[.int .i64 0,.int .i64 0,.int .i64 0,.int .u64 0,.bool false,.bool false,.bool false,.bool false,.slice none 0 0])::(mb,122,muV L.hb t sb m)::E) D Q):=λw' q=>q.sS hS hI rfl hv2;have HRe:Hid (∀w',HM W w' L X { h with f:=upd h.f I v } x s k ((w.heap.size,81,#[.int .i64 0,.int .i64 0,.int .i64 0,.int .u64 0,.bool false,.bool false,.bool false,.bool false,.slice none 0 0])::(mb,122,muV L.hb t sb m)::E) D Q->Calls Tryz.prog 83 #[.agg #[.int .i64 h.g.words,.int .i64 h.g.rw,.int .i64 h.g.cw,.int .i64 h.g.regions,.int .i64 h.g.aG,.int .i64 h.g.max],.int .i64 (I:Int)] w' λe w''=>e=.returned (.int .i64 (h.g.az (I:Int)))/\HM W w'' L X { h with f:=upd h.f I v } x s k ((w.heap.size,81,#[.int .i64 0,.int .i64 0,.int .i64 0,.int .u64 0,.bool false,.bool false,.bool false,.bool false,.slice none 0 0])::(mb,122,muV L.hb t sb m)::E) D Q):=λw' q=>q.region hS (I:Int);have HSa:Hid (∀w',HM W w' L X { h with f:=upd h.f I v } x s k ((w.heap.size,81,#[.int .i64 0,.int .i64 0,.int .i64 0,.int .u64 0,.bool false,.bool false,.bool false,.bool false,.slice none 0 0])::(mb,122,muV L.hb t sb m)::E) D Q->Calls Tryz.prog 38 #[.pointer (some ⟨L.tb,0,none⟩),.int .i64 (h.g.az (I:Int))] w' λe w''=>e=.returned (.int .i64 (h.aQ (h.g.az (I:Int))))/\HM W w'' L X { h with f:=upd h.f I v } x s k ((w.heap.size,81,#[.int .i64 0,.int .i64 0,.int .i64 0,.int .u64 0,.bool false,.bool false,.bool false,.bool false,.slice none 0 0])::(mb,122,muV L.hb t sb m)::E) D Q):=λw' q=>q.state hS _;have HAn:Hid (∀w',HM W w' L X { h with f:=upd h.f I v } x s k ((w.heap.size,81,#[.int .i64 0,.int .i64 0,.int .i64 0,.int .u64 0,.bool false,.bool false,.bool false,.bool false,.slice none 0 0])::(mb,122,muV L.hb t sb m)::E) D Q->Calls Tryz.prog 65 #[.pointer (some ⟨mb,0,none⟩),.agg #[.int .i64 0,.int .i64 0,.int .i64 0,.int .u64 0,.bool false]] w' λe w''=>e=.returned (.agg #[.int .i64 (t:Int),.int .i64 (m.dn:Int),.int .i64 0,.int .u64 0,.bool false,.bool true,.bool false,.bool false,.slice none 0 0])/\HM W w'' L X { h with f:=upd h.f I v } x s k ((mb,122,muV L.hb t sb (MU.zero (m.dn+1)))::(w.heap.size,81,#[.int .i64 0,.int .i64 0,.int .i64 0,.int .u64 0,.bool false,.bool false,.bool false,.bool false,.slice none 0 0])::E) D Q):=λw' q=>HM.answer hS hT q.swap (hneR _) hd 0 0 ⟨0,0,false⟩;have HNt:Hid (∀w' E',HM W w' L X { h with f:=upd h.f I v } x s k E' D Q->Calls Tryz.prog 107 #[.agg #[.int .i64 h.g.words,.int .i64 h.g.rw,.int .i64 h.g.cw,.int .i64 h.g.regions,.int .i64 h.g.aG,.int .i64 h.g.max],.int .i64 (h.aQ (h.g.az (I:Int))),.int .i64 (I:Int),.int .u64 (v:Int)] w' λe w''=>e=.returned (.bool true)/\HM W w'' L X { h with f:=upd h.f I v } x s k E' D Q):=λw' E' q=>by
  have:=HM.AE (h:={ h with f:=upd h.f I v }) hS q (h.aQ (h.g.az (I:Int))) (I:Int) (v:Int);rw[hnb]at this;exact this
 have HCe:Hid (∀w' h' E',h'.g=h.g->h'.T=h.T->HM W w' L X h' x s k E' D Q->w'.cell? ⟨L.hb,14,none⟩=some (.int .i64 h.g.words)/\w'.cell? ⟨L.hb,15,none⟩=some (.int .i64 h.g.rw)/\w'.cell? ⟨L.hb,16,none⟩=some (.int .i64 h.g.cw)/\w'.cell? ⟨L.hb,17,none⟩=some (.int .i64 h.g.regions)/\w'.cell? ⟨L.hb,18,none⟩=some (.int .i64 h.g.aG)/\w'.cell? ⟨L.hb,19,none⟩=some (.int .i64 h.g.max)/\w'.cell? ⟨L.hb,21,none⟩=some (.pointer (some ⟨L.tb,0,none⟩))/\L.hb<w'.heap.size):=λw' h' E' e1 e2 q=>by
  obtain⟨d14,d15,d16,d17,d18,d19,-,d21,-,-,-,-,-,-,-,dh⟩:=q.hc;rw[e1]at d14 d15 d16 d17 d18 d19;exact⟨d14,d15,d16,d17,d18,d19,d21,dh⟩
 have HPu:Hid (∀w' E' a0 a1 a2 a3 a4 a5 a6,(∀q,q∈E'->q.1≠mb)->HM W w' L X { h with f:=upd h.f I v } x s k ((mb,122,muV L.hb t sb (MU.zero (m.dn+1)))::E') D Q->HM W (BC w' mb (.int .i64 a0) (.int .i64 a1) (.int .i64 a2) (.int .i64 a3) (.int .u64 a4) (.int .i64 a5) (.int .i64 a6)) L X { h with f:=upd h.f I v } x s k ((mb,122,muV L.hb t sb ⟨m.dn+1,a0,a1,a2,a3,a4,a5,a6⟩)::E') D Q):=λw' E' a0 a1 a2 a3 a4 a5 a6 hn q=>HM.Cu hS hT q hn a0 a1 a2 a3 a4 a5 a6;obtain⟨c0,c1,c2,c3,c4,c5,c6,c7,c8,c9,c10⟩:=aL hmb;have c20:=H.hc.c20;have N20:L.hb<w.heap.size:=ae c20;rw[had]at c10;have HNE:Hid (∀q,q∈((w.heap.size,81,#[.int .i64 0,.int .i64 0,.int .i64 0,.int .u64 0,.bool false,.bool false,.bool false,.bool false,.slice none 0 0])::E:aK)->q.1≠mb):=hneR _;have hl1:mb<w.heap.size+1:=by omega
 have j1:L.hb<w.heap.size+1:=by omega
 have n0:mb≠w.heap.size:=by omega
 have i0:L.hb≠w.heap.size:=by omega
 unfold bk;clear H hmb hltE HX hne hneR hrm hrE had hI ht hd hc hv hv2 ec hnb;generalize h.aQ (h.g.az (I:Int))=fs at *;generalize h.g.az (I:Int)=rg at *;generalize aj (h.st t) m.c=rc at *;go_enter Tryz.func60,Tryz.ntmps60
 go_wp2_with fail
 go_quiet (fail)
 go_wp2_with fail
 go_quiet ((first|(go_at_call 106;exact bO (HSk.out _))|(go_at_call 47;exact bK (HAc.out _))))
 go_wp2_with fail
 refine(HSt.out _ (HF0.out _)).mono ?_;rintro e w1 ⟨rfl,hA⟩;obtain⟨d14,d15,d16,d17,d18,d19,d21,dh⟩:=HCe.out _ { h with f:=upd h.f I v } _ rfl rfl hA;have HA1:=aa hA;clear hA c0 c1 c2 c3 c4 c5 c6 c7 c8 c9 c10 c20 HF0 HSk HAc HSt;have HA1d:=aa (HA1.out.fr0 hS (Fr.refl _ _).drew);have HKx:Hid (∀w',HM W w' L X { h with f:=upd h.f I v } x s k ((w.heap.size,81,#[.int .i64 0,.int .i64 0,.int .i64 0,.int .u64 0,.bool false,.bool false,.bool false,.bool false,.slice none 0 0])::(mb,122,muV L.hb t sb m)::E) D Q->w'.cell? ⟨L.hb,14,none⟩=some (.int .i64 h.g.words)/\w'.cell? ⟨L.hb,15,none⟩=some (.int .i64 h.g.rw)/\w'.cell? ⟨L.hb,16,none⟩=some (.int .i64 h.g.cw)/\w'.cell? ⟨L.hb,17,none⟩=some (.int .i64 h.g.regions)/\w'.cell? ⟨L.hb,18,none⟩=some (.int .i64 h.g.aG)/\w'.cell? ⟨L.hb,19,none⟩=some (.int .i64 h.g.max)/\w'.cell? ⟨L.hb,21,none⟩=some (.pointer (some ⟨L.tb,0,none⟩))):=λw' q=>by
  obtain⟨d14,d15,d16,d17,d18,d19,d21,dh⟩:=HCe.out _ { h with f:=upd h.f I v } _ rfl rfl q;exact⟨d14,d15,d16,d17,d18,d19,d21⟩
 have K0:=HKx.out _ HA1d.out;go_wp2_with fail
 go_region_held3 (λw'=>w'.cell? ⟨L.hb,14,none⟩=some (.int .i64 h.g.words)/\w'.cell? ⟨L.hb,15,none⟩=some (.int .i64 h.g.rw)/\w'.cell? ⟨L.hb,16,none⟩=some (.int .i64 h.g.cw)/\w'.cell? ⟨L.hb,17,none⟩=some (.int .i64 h.g.regions)/\w'.cell? ⟨L.hb,18,none⟩=some (.int .i64 h.g.aG)/\w'.cell? ⟨L.hb,19,none⟩=some (.int .i64 h.g.max)/\w'.cell? ⟨L.hb,21,none⟩=some (.pointer (some ⟨L.tb,0,none⟩)))
  (first|with_reducible exact K0|go_keep)
  (first|(go_at_call 83;refine(HRe.out _ HA1d.out).mono ?_;rintro e w2 ⟨rfl,hA⟩;have HS2:=aa (HSa.out _ hA);replace K0:=HKx.out _ hA;clear hA)|(go_at_call 38;refine HS2.out.mono ?_;rintro e w3 ⟨rfl,hA⟩;have HAw:=aa (HAn.out _ hA);replace K0:=HKx.out _ hA;clear hA))
 all_goals
  clear d14 d15 d16 d17 d18 d19 d21 dh K0;go_wp2_with fail
  refine HAw.out.mono ?_;rintro e w4 ⟨rfl,hA⟩;have hB:=hA.alloc hS 81 #[.int .i64 (t:Int),.int .i64 (m.dn:Int),.int .i64 0,.int .u64 0,.bool false,.bool true,.bool false,.bool false,.slice none 0 0];obtain⟨d14,d15,d16,d17,d18,d19,d21,dh⟩:=HCe.out _ { h with f:=upd h.f I v } _ rfl rfl hA;have HB4:=aa (HNt.out _ _ hB);have hl4:=(hA.blk (D4 ..)).lt;have hlr:=(hA.blk (D3 _ (D4 ..))).lt;have HL4:Hid (mb<w4.heap.size/\w.heap.size<w4.heap.size/\∀q,q∈E->q.1<w4.heap.size):=⟨hl4,hlr,λq hq=>(hA.blk (b:=q.1) (t:=q.2.1) (cs:=q.2.2) (D3 _ (D3 _ hq))).lt⟩;have m1:L.hb≠w4.heap.size:=by omega
  clear hA hB HAw;go_wp2_with fail
  refine HB4.out.mono ?_;rintro e w5 ⟨rfl,hA⟩;have HA5:=aa hA;have hr2:=hA.blk (D4 ..);have hrb:=hA.blk (D3 _ (D3 _ (D4 ..)));have u0:=hr2.cell 0;have u1:=hr2.cell 1;have u2:=hr2.cell 2;have u3:=hr2.cell 3;have u4:=hr2.cell 4;have u5:=hr2.cell 5;have u6:=hr2.cell 6;have u7:=hr2.cell 7;have u8:=hr2.cell 8;have y0:=hrb.cell 0;have y1:=hrb.cell 1;have y2:=hrb.cell 2;have y3:=hrb.cell 3;have y4:=hrb.cell 4;have y5:=hrb.cell 5;have y6:=hrb.cell 6;have y7:=hrb.cell 7;have y8:=hrb.cell 8;have z0:=hrb.frozen 0;have z1:=hrb.frozen 1;have z2:=hrb.frozen 2;have z3:=hrb.frozen 3;have z4:=hrb.frozen 4;have z5:=hrb.frozen 5;have z6:=hrb.frozen 6;have z7:=hrb.frozen 7;have z8:=hrb.frozen 8;have NR:=hrb.lt;have N2:=hr2.lt;obtain⟨l1,l2,-⟩:=HL4.out;have p1:w4.heap.size≠w.heap.size:=by omega
  have p2:mb≠w4.heap.size:=by omega
  have p3:mb≠w.heap.size:=by omega
  have hmb5:=hA.blk (D3 _ (D4 ..));obtain⟨-,-,-,-,g4,g5,g6,g7,g8,g9,g10⟩:=aL hmb5;have gz4:=hmb5.frozen 4;have gz5:=hmb5.frozen 5;have gz6:=hmb5.frozen 6;have gz7:=hmb5.frozen 7;have gz8:=hmb5.frozen 8;have gz9:=hmb5.frozen 9;have gz10:=hmb5.frozen 10;have u6z:=hr2.frozen 6;clear hmb5;clear hA hr2 hrb HB4 d14 d15 d16 d17 d18 d19 d21 dh;go_wp2_with fail
  refine bodyPost_ret (v:=.agg #[.int .i64 (t:Int),.int .i64 (m.dn:Int),.int .i64 0,.int .u64 0,.bool false,.bool true,.bool true,.bool false,.slice none 0 0]) (by simp[results,Tryz.results60,go_sem, *]) rfl ⟨rfl,?_⟩;have q1:=HPu.out _ _ 0 0 0 0 0 6 (I:Int) (λq hq=>by
   simp only[D5]at hq;rcases hq with e|e|e
   ·rw[e];show w4.heap.size≠mb;omega
   ·rw[e];show w.heap.size≠mb;omega
   ·exact HNE.out q (D3 _ e)) HA5.out.swap
  have q2:=HM.lV hS hT q1.swap (λq hq=>by
   simp only[D5]at hq;rcases hq with e|e|e
   ·rw[e];show mb≠w4.heap.size;omega
   ·rw[e];show w.heap.size≠w4.heap.size;omega
   ·have:=HL4.out.2.2 q e;omega) 6 (.bool true)
  exact HEnd.out _ _ _ _ _ _ _ _ _ _ _ _ _ _ _ _ _ _ _ (q2.sub (λy hy=>D3 _ hy))
end
section
variable {W w w':World}{L:HL}{X:HX}{h h2:HS}{x x2:HT}{s k:Nat}{E:aK}{D:Nat->Prop}{Q:World->Prop}{mb t sb:Nat}{m m':MU}{r0 r1 r2 r3:Int}{b4 b5 b6 b7:Bool}{A8:Option Addr}{n8 c8:Nat}
theorem qU(hS:ah D Q)(hT:Tab W)(H:HM W w L X h x s k ((mb,122,muV L.hb t sb m)::E) D Q)(hne:∀q,q∈E->q.1≠mb)(hk:m.k=3){sv:Value}(hms:(sb,58,#[.bool false,sv])∈E)
  (hcall:∀w' E',(∀q,q∈E'->q.1≠mb)->(sb,58,#[.bool false,sv])∈E'->HM W w' L X h x s k ((mb,122,muV L.hb t sb m)::E') D Q->Calls Tryz.prog 60 #[.pointer (some ⟨mb,0,none⟩)] w' λe w''=>e=.returned (.agg #[.int .i64 r0,.int .i64 r1,.int .i64 r2,.int .u64 r3,.bool b4,.bool b5,.bool b6,.bool b7,.slice A8 n8 c8])/\HM W w'' L X h2 x2 s k ((mb,122,muV L.hb t sb m')::E') D Q) :
  Calls Tryz.prog 59 #[.pointer (some ⟨mb,0,none⟩)] w λe w'=>e=.returned (.agg #[.int .i64 r0,.int .i64 r1,.int .i64 r2,.int .u64 r3,.bool b4,.bool b5,.bool b6,.bool b7,.slice A8 n8 c8])/\HM W w' L X h2 x2 s k ((mb,122,muV L.hb t sb m')::E) D Q:=by
 have hmb:=H.blk (D4 ..);have hlt:=hmb.lt;have hltE:∀q,q∈E->q.1<w.heap.size:=λq hq=>(H.blk (b:=q.1) (t:=q.2.1) (cs:=q.2.2) (D3 _ hq)).lt;have hrm:w.heap.size≠mb:=by omega
 have hrE:∀q,q∈E->q.1≠w.heap.size:=λq hq=>by have:=hltE q hq;omega
 have hneR:∀cs:Array Value,∀q,q∈((w.heap.size,81,cs)::E:aK)->q.1≠mb:=λcs q hq=>by
  rcases D5.1 hq with rfl|hq
  ·exact hrm
  ·exact hne q hq
 have HX0:Hid (HM W (w.alloc (.cells #[.int .i64 0,.int .i64 0,.int .i64 0,.int .u64 0,.bool false,.bool false,.bool false,.bool false,.slice none 0 0] 81)) L X h x s k ((w.heap.size,81,#[.int .i64 0,.int .i64 0,.int .i64 0,.int .u64 0,.bool false,.bool false,.bool false,.bool false,.slice none 0 0])::(mb,122,muV L.hb t sb m)::E) D Q):=H.alloc hS 81 #[.int .i64 0,.int .i64 0,.int .i64 0,.int .u64 0,.bool false,.bool false,.bool false,.bool false,.slice none 0 0];have HEnd:Hid (∀w' a0 a1 a2 a3 a4 a5 a6 a7 a8 v0 v1 v2 v3 v4 v5 v6 v7 v8,HM W w' L X h2 x2 s k ((mb,122,muV L.hb t sb m')::(w.heap.size,81,#[a0,a1,a2,a3,a4,a5,a6,a7,a8])::E) D Q->HM W (cD w' w.heap.size v0 v1 v2 v3 v4 v5 v6 v7 v8) L X h2 x2 s k ((mb,122,muV L.hb t sb m')::E) D Q):=λw' a0 a1 a2 a3 a4 a5 a6 a7 a8 v0 v1 v2 v3 v4 v5 v6 v7 v8 q=>
  q.swap.cX hS hT (λy hy=>by
   rcases D5.1 hy with rfl|hy
   ·exact λe=>hrm e.symm
   ·exact hrE y hy) v0 v1 v2 v3 v4 v5 v6 v7 v8
 have q0:HM W (((w.alloc (.cells #[.int .i64 0,.int .i64 0,.int .i64 0,.int .u64 0,.bool false,.bool false,.bool false,.bool false,.slice none 0 0] 81)).alloc (.cells #[.int .i64 0,.int .i64 0,.int .i64 0,.int .u64 0,.bool false] 79)).alloc (.cells #[.int .i64 3,.int .i64 m.a,.int .i64 m.b,.int .i64 m.c,.int .u64 m.v] 66)).drew L X h x s k ((w.heap.size+1+1,66,#[.int .i64 3,.int .i64 m.a,.int .i64 m.b,.int .i64 m.c,.int .u64 m.v])::(w.heap.size+1,79,#[.int .i64 0,.int .i64 0,.int .i64 0,.int .u64 0,.bool false])::(w.heap.size,81,#[.int .i64 0,.int .i64 0,.int .i64 0,.int .u64 0,.bool false,.bool false,.bool false,.bool false,.slice none 0 0])::(mb,122,muV L.hb t sb m)::E) D Q:=by
  have q:=((HX0.out.alloc hS 79 #[.int .i64 0,.int .i64 0,.int .i64 0,.int .u64 0,.bool false]).alloc hS 66 #[.int .i64 3,.int .i64 m.a,.int .i64 m.b,.int .i64 m.c,.int .u64 m.v]).fr0 hS (Fr.refl _ _).drew;rw[show((w.alloc (.cells #[.int .i64 0,.int .i64 0,.int .i64 0,.int .u64 0,.bool false,.bool false,.bool false,.bool false,.slice none 0 0] 81)).alloc (.cells #[.int .i64 0,.int .i64 0,.int .i64 0,.int .u64 0,.bool false] 79)).heap.size=w.heap.size+1+1 by simp,show(w.alloc (.cells #[.int .i64 0,.int .i64 0,.int .i64 0,.int .u64 0,.bool false,.bool false,.bool false,.bool false,.slice none 0 0] 81)).heap.size=w.heap.size+1 by simp]at q;exact q
 have hn4:∀q,q∈((w.heap.size+1+1,66,#[.int .i64 3,.int .i64 m.a,.int .i64 m.b,.int .i64 m.c,.int .u64 m.v])::(w.heap.size+1,79,#[.int .i64 0,.int .i64 0,.int .i64 0,.int .u64 0,.bool false])::(w.heap.size,81,#[.int .i64 0,.int .i64 0,.int .i64 0,.int .u64 0,.bool false,.bool false,.bool false,.bool false,.slice none 0 0])::E:aK)->q.1≠mb:=λq hq=>by
  simp only[D5]at hq;rcases hq with e|e|e|e
  ·rw[e];show w.heap.size+1+1≠mb;omega
  ·rw[e];show w.heap.size+1≠mb;omega
  ·rw[e];exact hrm
  ·exact hne q e
 have HC:=aa (hcall _ _ hn4 (D3 _ (D3 _ (D3 _ hms))) (q0.sub (λy hy=>by simp only[D5]at hy ⊢;rcases hy with e|e|e|e|e <;> simp[e])));have HDr:Hid (∀w',HM W w' L X h2 x2 s k ((mb,122,muV L.hb t sb m')::(w.heap.size+1+1,66,#[.int .i64 3,.int .i64 m.a,.int .i64 m.b,.int .i64 m.c,.int .u64 m.v])::(w.heap.size+1,79,#[.int .i64 0,.int .i64 0,.int .i64 0,.int .u64 0,.bool false])::(w.heap.size,81,#[.int .i64 0,.int .i64 0,.int .i64 0,.int .u64 0,.bool false,.bool false,.bool false,.bool false,.slice none 0 0])::E) D Q->HM W w' L X h2 x2 s k ((mb,122,muV L.hb t sb m')::(w.heap.size,81,#[.int .i64 0,.int .i64 0,.int .i64 0,.int .u64 0,.bool false,.bool false,.bool false,.bool false,.slice none 0 0])::E) D Q):=λw' q=>q.sub (λy hy=>by simp only[D5]at hy ⊢;rcases hy with e|e|e <;> simp[e]);have hsb:=H.blk (D3 _ hms);have cs0:=hsb.cell 0;have NS:=hsb.lt;obtain⟨c0,c1,c2,c3,c4,c5,c6,c7,c8,c9,c10⟩:=aL hmb;rw[hk]at c4;have hl1:mb<w.heap.size+1:=by omega
 have hl2:mb<w.heap.size+1+1:=by omega
 have n0:mb≠w.heap.size:=by omega
 have n1:mb≠w.heap.size+1:=by omega
 have n2:mb≠w.heap.size+1+1:=by omega
 have j1:sb<w.heap.size+1:=by omega
 have j2:sb<w.heap.size+1+1:=by omega
 have i0:sb≠w.heap.size:=by omega
 have i1:sb≠w.heap.size+1:=by omega
 have i2:sb≠w.heap.size+1+1:=by omega
 clear H hmb hltE HX0 hne hneR hrm hrE hk hcall hms hsb q0 hn4;go_enter Tryz.func59,Tryz.ntmps59
 go_wp2_with fail
 go_region
 go_wp2_with fail
 refine HC.out.mono ?_;rintro e w5 ⟨rfl,hA0⟩;have hA:=HDr.out _ hA0;clear hA0 c0 c1 c2 c3 c4 c5 c6 c7 c8 c9 c10 cs0 HC;have HA5:=aa hA;have hrb:=hA.blk (D3 _ (D4 ..));have y0:=hrb.cell 0;have y1:=hrb.cell 1;have y2:=hrb.cell 2;have y3:=hrb.cell 3;have y4:=hrb.cell 4;have y5:=hrb.cell 5;have y6:=hrb.cell 6;have y7:=hrb.cell 7;have y8:=hrb.cell 8;have z0:=hrb.frozen 0;have z1:=hrb.frozen 1;have z2:=hrb.frozen 2;have z3:=hrb.frozen 3;have z4:=hrb.frozen 4;have z5:=hrb.frozen 5;have z6:=hrb.frozen 6;have z7:=hrb.frozen 7;have z8:=hrb.frozen 8;have NR:=hrb.lt;clear hA hrb;go_wp2_with fail
 refine bodyPost_ret (v:=.agg #[.int .i64 r0,.int .i64 r1,.int .i64 r2,.int .u64 r3,.bool b4,.bool b5,.bool b6,.bool b7,.slice A8 n8 c8]) (by simp[results,Tryz.results59,go_sem, *]) rfl ⟨rfl,?_⟩;exact HEnd.out _ _ _ _ _ _ _ _ _ _ _ _ _ _ _ _ _ _ _ HA5.out
theorem vH(hS:ah D Q)(hT:Tab W)(H:HM W w L X h x s k ((mb,122,muV L.hb t sb m)::E) D Q)(hne:∀q,q∈E->q.1≠mb)(hk:m.k=3){sv:Value}(hms:(sb,58,#[.bool true,sv])∈E)
  (hcall:∀w' E',(∀q,q∈E'->q.1≠mb)->(sb,58,#[.bool true,sv])∈E'->HM W w' L X h x s k ((mb,122,muV L.hb t sb m)::E') D Q->Calls Tryz.prog 103 #[.pointer (some ⟨mb,0,none⟩)] w' λe w''=>e=.returned (.agg #[.int .i64 r0,.int .i64 r1,.int .i64 r2,.int .u64 r3,.bool b4,.bool b5,.bool b6,.bool b7,.slice A8 n8 c8])/\HM W w'' L X h2 x2 s k ((mb,122,muV L.hb t sb m')::E') D Q) :
  Calls Tryz.prog 59 #[.pointer (some ⟨mb,0,none⟩)] w λe w'=>e=.returned (.agg #[.int .i64 r0,.int .i64 r1,.int .i64 r2,.int .u64 r3,.bool b4,.bool b5,.bool b6,.bool b7,.slice A8 n8 c8])/\HM W w' L X h2 x2 s k ((mb,122,muV L.hb t sb m')::E) D Q:=by
 have hmb:=H.blk (D4 ..);have hlt:=hmb.lt;have hltE:∀q,q∈E->q.1<w.heap.size:=λq hq=>(H.blk (b:=q.1) (t:=q.2.1) (cs:=q.2.2) (D3 _ hq)).lt;have hrm:w.heap.size≠mb:=by omega
 have hrE:∀q,q∈E->q.1≠w.heap.size:=λq hq=>by have:=hltE q hq;omega
 have hneR:∀cs:Array Value,∀q,q∈((w.heap.size,81,cs)::E:aK)->q.1≠mb:=λcs q hq=>by
  rcases D5.1 hq with rfl|hq
  ·exact hrm
  ·exact hne q hq
 have HX0:Hid (HM W (w.alloc (.cells #[.int .i64 0,.int .i64 0,.int .i64 0,.int .u64 0,.bool false,.bool false,.bool false,.bool false,.slice none 0 0] 81)) L X h x s k ((w.heap.size,81,#[.int .i64 0,.int .i64 0,.int .i64 0,.int .u64 0,.bool false,.bool false,.bool false,.bool false,.slice none 0 0])::(mb,122,muV L.hb t sb m)::E) D Q):=H.alloc hS 81 #[.int .i64 0,.int .i64 0,.int .i64 0,.int .u64 0,.bool false,.bool false,.bool false,.bool false,.slice none 0 0];have HEnd:Hid (∀w' a0 a1 a2 a3 a4 a5 a6 a7 a8 v0 v1 v2 v3 v4 v5 v6 v7 v8,HM W w' L X h2 x2 s k ((mb,122,muV L.hb t sb m')::(w.heap.size,81,#[a0,a1,a2,a3,a4,a5,a6,a7,a8])::E) D Q->HM W (cD w' w.heap.size v0 v1 v2 v3 v4 v5 v6 v7 v8) L X h2 x2 s k ((mb,122,muV L.hb t sb m')::E) D Q):=λw' a0 a1 a2 a3 a4 a5 a6 a7 a8 v0 v1 v2 v3 v4 v5 v6 v7 v8 q=>
  q.swap.cX hS hT (λy hy=>by
   rcases D5.1 hy with rfl|hy
   ·exact λe=>hrm e.symm
   ·exact hrE y hy) v0 v1 v2 v3 v4 v5 v6 v7 v8
 have q0:HM W (((w.alloc (.cells #[.int .i64 0,.int .i64 0,.int .i64 0,.int .u64 0,.bool false,.bool false,.bool false,.bool false,.slice none 0 0] 81)).alloc (.cells #[.int .i64 0,.int .i64 0,.int .i64 0,.int .u64 0,.bool false] 79)).alloc (.cells #[.int .i64 3,.int .i64 m.a,.int .i64 m.b,.int .i64 m.c,.int .u64 m.v] 66)).drew L X h x s k ((w.heap.size+1+1,66,#[.int .i64 3,.int .i64 m.a,.int .i64 m.b,.int .i64 m.c,.int .u64 m.v])::(w.heap.size+1,79,#[.int .i64 0,.int .i64 0,.int .i64 0,.int .u64 0,.bool false])::(w.heap.size,81,#[.int .i64 0,.int .i64 0,.int .i64 0,.int .u64 0,.bool false,.bool false,.bool false,.bool false,.slice none 0 0])::(mb,122,muV L.hb t sb m)::E) D Q:=by
  have q:=((HX0.out.alloc hS 79 #[.int .i64 0,.int .i64 0,.int .i64 0,.int .u64 0,.bool false]).alloc hS 66 #[.int .i64 3,.int .i64 m.a,.int .i64 m.b,.int .i64 m.c,.int .u64 m.v]).fr0 hS (Fr.refl _ _).drew;rw[show((w.alloc (.cells #[.int .i64 0,.int .i64 0,.int .i64 0,.int .u64 0,.bool false,.bool false,.bool false,.bool false,.slice none 0 0] 81)).alloc (.cells #[.int .i64 0,.int .i64 0,.int .i64 0,.int .u64 0,.bool false] 79)).heap.size=w.heap.size+1+1 by simp,show(w.alloc (.cells #[.int .i64 0,.int .i64 0,.int .i64 0,.int .u64 0,.bool false,.bool false,.bool false,.bool false,.slice none 0 0] 81)).heap.size=w.heap.size+1 by simp]at q;exact q
 have hn4:∀q,q∈((w.heap.size+1+1,66,#[.int .i64 3,.int .i64 m.a,.int .i64 m.b,.int .i64 m.c,.int .u64 m.v])::(w.heap.size+1,79,#[.int .i64 0,.int .i64 0,.int .i64 0,.int .u64 0,.bool false])::(w.heap.size,81,#[.int .i64 0,.int .i64 0,.int .i64 0,.int .u64 0,.bool false,.bool false,.bool false,.bool false,.slice none 0 0])::E:aK)->q.1≠mb:=λq hq=>by
  simp only[D5]at hq;rcases hq with e|e|e|e
  ·rw[e];show w.heap.size+1+1≠mb;omega
  ·rw[e];show w.heap.size+1≠mb;omega
  ·rw[e];exact hrm
  ·exact hne q e
 have HC:=aa (hcall _ _ hn4 (D3 _ (D3 _ (D3 _ hms))) (q0.sub (λy hy=>by simp only[D5]at hy ⊢;rcases hy with e|e|e|e|e <;> simp[e])));have HDr:Hid (∀w',HM W w' L X h2 x2 s k ((mb,122,muV L.hb t sb m')::(w.heap.size+1+1,66,#[.int .i64 3,.int .i64 m.a,.int .i64 m.b,.int .i64 m.c,.int .u64 m.v])::(w.heap.size+1,79,#[.int .i64 0,.int .i64 0,.int .i64 0,.int .u64 0,.bool false])::(w.heap.size,81,#[.int .i64 0,.int .i64 0,.int .i64 0,.int .u64 0,.bool false,.bool false,.bool false,.bool false,.slice none 0 0])::E) D Q->HM W w' L X h2 x2 s k ((mb,122,muV L.hb t sb m')::(w.heap.size,81,#[.int .i64 0,.int .i64 0,.int .i64 0,.int .u64 0,.bool false,.bool false,.bool false,.bool false,.slice none 0 0])::E) D Q):=λw' q=>q.sub (λy hy=>by simp only[D5]at hy ⊢;rcases hy with e|e|e <;> simp[e]);have hsb:=H.blk (D3 _ hms);have cs0:=hsb.cell 0;have NS:=hsb.lt;obtain⟨c0,c1,c2,c3,c4,c5,c6,c7,c8,c9,c10⟩:=aL hmb;rw[hk]at c4;have hl1:mb<w.heap.size+1:=by omega
 have hl2:mb<w.heap.size+1+1:=by omega
 have n0:mb≠w.heap.size:=by omega
 have n1:mb≠w.heap.size+1:=by omega
 have n2:mb≠w.heap.size+1+1:=by omega
 have j1:sb<w.heap.size+1:=by omega
 have j2:sb<w.heap.size+1+1:=by omega
 have i0:sb≠w.heap.size:=by omega
 have i1:sb≠w.heap.size+1:=by omega
 have i2:sb≠w.heap.size+1+1:=by omega
 clear H hmb hltE HX0 hne hneR hrm hrE hk hcall hms hsb q0 hn4;go_enter Tryz.func59,Tryz.ntmps59
 go_wp2_with fail
 go_region
 go_wp2_with fail
 refine HC.out.mono ?_;rintro e w5 ⟨rfl,hA0⟩;have hA:=HDr.out _ hA0;clear hA0 c0 c1 c2 c3 c4 c5 c6 c7 c8 c9 c10 cs0 HC;have HA5:=aa hA;have hrb:=hA.blk (D3 _ (D4 ..));have y0:=hrb.cell 0;have y1:=hrb.cell 1;have y2:=hrb.cell 2;have y3:=hrb.cell 3;have y4:=hrb.cell 4;have y5:=hrb.cell 5;have y6:=hrb.cell 6;have y7:=hrb.cell 7;have y8:=hrb.cell 8;have z0:=hrb.frozen 0;have z1:=hrb.frozen 1;have z2:=hrb.frozen 2;have z3:=hrb.frozen 3;have z4:=hrb.frozen 4;have z5:=hrb.frozen 5;have z6:=hrb.frozen 6;have z7:=hrb.frozen 7;have z8:=hrb.frozen 8;have NR:=hrb.lt;clear hA hrb;go_wp2_with fail
 refine bodyPost_ret (v:=.agg #[.int .i64 r0,.int .i64 r1,.int .i64 r2,.int .u64 r3,.bool b4,.bool b5,.bool b6,.bool b7,.slice A8 n8 c8]) (by simp[results,Tryz.results59,go_sem, *]) rfl ⟨rfl,?_⟩;exact HEnd.out _ _ _ _ _ _ _ _ _ _ _ _ _ _ _ _ _ _ _ HA5.out
end
section
variable {W w w':World}{L:HL}{X:HX}{h:HS}{x:HT}{s k:Nat}{E:aK}{D:Nat->Prop}{Q:World->Prop}{mb t sb:Nat}{m:MU}{σ:GS}{A:Nat->Nat}{rv:Nat->Option (Nat×Nat)}{M T:Nat}
theorem cy.aD{o:Po}{q I:Nat}(l:cy σ A t o q I):Go.Proofs.YtimkofiempcfdaaGreatDoor.aD σ t o.a=0:=by
 have:=l.q1;unfold Go.Proofs.YtimkofiempcfdaaGreatDoor.aD;rw[if_pos l.a,if_neg (by rw[l.r];omega)]
theorem kz(hS:ah D Q)(hT:Tab W)(S:Sim h σ A rv)(gk:GOk T L.B σ)(ht:t<h.T)(hd:(m.dn:Int)+1<=9223372036854775807){I v:Nat}(had:m.ad=(I:Int))(hI:I<h.n)(hc:aH (h.st t) m.c)(hv:aj (h.st t) m.c=(v:Int)) :
  ∃b:Bool,b=cE h.g (h.aQ (h.g.az (I:Int))) (I:Int) (v:Int)/\∀w' E',(∀q,q∈E'->q.1≠mb)->HM W w' L X h x s k ((mb,122,muV L.hb t sb m)::E') D Q->Calls Tryz.prog 60 #[.pointer (some ⟨mb,0,none⟩)] w' λe w''=>e=.returned (bk (t:Int) (m.dn:Int) ⟨0,0,false⟩ true b false (.slice none 0 0)) /\
   HM W w'' L X { h with f:=upd h.f I v } x s k ((mb,122,muV L.hb t sb (if b=true then ⟨m.dn+1,0,0,0,0,0,6,(I:Int)⟩ else MU.zero (m.dn+1)))::E') D Q:=by
 cases hnb:cE h.g (h.aQ (h.g.az (I:Int))) (I:Int) (v:Int)with
|false=>exact⟨false,rfl,λw' E' n H2=>tf hS hT H2 n ht hd had hI hc hv hnb⟩
|true=>exact⟨true,rfl,λw' E' n H2=>pg hS hT H2 n ht hd had hI hc hv hnb⟩
theorem qV(hS:ah D Q)(hT:Tab W)(H:HM W w L X h x s k ((mb,122,muV L.hb t sb m)::E) D Q)(hne:∀q,q∈E->q.1≠mb)(hst:m.st=3)(hd:(m.dn:Int)+1<=9223372036854775807)
  (S:Sim h σ A rv) (gk:GOk T L.B σ) (eT:h.T=T) (ht:t<T) (hB:L.B<=64) (hr:rv t=none) {q I:Nat} (l:cy σ A t m.op q I) (had:m.ad=(I:Int)) (hI:I<h.n) (hv:0<=m.v/\m.v<18446744073709551616) (hms:m.k=3->∃sv:Value,(sb,58,#[.bool false,sv])∈E) :
  Calls Tryz.prog 26 #[.pointer (some ⟨mb,0,none⟩)] w (dE W L X x s k E D Q mb t sb M T m h σ A rv):=by
 subst eT;have hle:(h.st t).length<=L.B:=by rw[S.st t ht,List.length_map];exact gk.len t
 have hlen:(h.st t).length=(σ.st t).length:=by rw[S.st t ht,List.length_map]
 have ho:=l.aD;rcases l.f with⟨hk,j,hb,hj,hIe⟩|⟨hk,j,hb,hj,hIe⟩
 ·rcases hk with hk|hk
  ·have hk:m.k=2:=hk;have hf:(h.f I:Int)=bo A (σ.ref (q:Int) (j:Int)):=by rw[hIe];exact S.ref q l.q1 l.q2 j hj
   have hfi:aA (σ.np (aj (σ.st t) m.op.a)) m.op.b:=by rw[l.r,hb];unfold aA;omega
   have ea:bm L.B M h.T σ t m.op=⟨ax L.B (h.st t),0,false⟩:=by
    have:bm L.B M h.T σ t m.op=⟨fK L.B σ t m.op.a m.op.b,0,false⟩:=by unfold bm;rw[if_neg (show m.op.k≠1 by show m.k≠1;omega),if_pos (show m.op.k=2 from hk)]
    rw[this];unfold fK ax;rw[if_neg (by rw[ho];decide),if_pos hfi,hlen]
   have es:σ.push L.B t (σ.ref (q:Int) (j:Int))=aN L.B M h.T σ t m.op:=by
    have:aN L.B M h.T σ t m.op=dK L.B σ t m.op.a m.op.b:=by unfold aN;rw[if_neg (show m.op.k≠1 by show m.k≠1;omega),if_pos (show m.op.k=2 from hk)]
    rw[this];unfold dK;rw[if_pos ⟨ho,hfi⟩,l.r,hb]
   refine(cZ hS hT H hne hst (λw1 rb1 c1 n1 n2 H1=>sV hS hT H1 (aM n1 hne) hk ht hd had hI hB hle)).mono ?_;rintro e w' ⟨rfl,hA⟩;rw[hf]at hA;have:=dE.fD (M:=M) (T:=h.T) (m:=m) (h:=h) (σ:=σ) hA (S.push ht (σ.ref (q:Int) (j:Int))) hr rfl rfl rfl rfl rfl es (λ_ _=>rfl) (λe=>by have:m.k=3:=e.1;omega);rw[ea]at this;exact this
  ·have hk:m.k=3:=hk;obtain⟨sv,hms⟩:=hms hk;have hc:=l.c hk;have hc':aH (h.st t) m.c:=by rw[S.st t ht];exact(bd A _ _).2 hc
   have er:aj (h.st t) m.c=bo A (aj (σ.st t) m.c):=by rw[S.st t ht,cM]
   obtain⟨v,hvv⟩:=Ed (show 0<=bo A (aj (σ.st t) m.c)by unfold bo;split <;> omega);have hfi:aA (σ.np (aj (σ.st t) m.op.a)) m.op.b:=by rw[l.r,hb];unfold aA;omega
   have eE:bg σ t m.op.a m.op.b m.op.c=0:=by
    unfold bg;rw[if_pos hc,if_neg (by rw[ho];decide),if_pos hfi]
   have ea:bm L.B M h.T σ t m.op=⟨0,0,false⟩:=by
    have:bm L.B M h.T σ t m.op=⟨bg σ t m.op.a m.op.b m.op.c,0,false⟩:=by unfold bm;rw[if_neg (show m.op.k≠1 by show m.k≠1;omega),if_neg (show m.op.k≠2 by show m.k≠2;omega),if_pos (show m.op.k=3 from hk)]
    rw[this,eE]
   have es:σ.setRef (q:Int) (j:Int) (aj (σ.st t) m.c)=aN L.B M h.T σ t m.op:=by
    have:aN L.B M h.T σ t m.op=bR σ t m.op.a m.op.b m.op.c:=by unfold aN;rw[if_neg (show m.op.k≠1 by show m.k≠1;omega),if_neg (show m.op.k≠2 by show m.k≠2;omega),if_pos (show m.op.k=3 from hk)]
    rw[this];unfold bR;rw[if_pos eE,l.r,hb];rfl
   obtain⟨b,hbn,hst2⟩:=kz (W:=W) (L:=L) (X:=X) (x:=x) (s:=s) (k:=k) (mb:=mb) (sb:=sb) (m:=m) hS hT S gk ht hd had hI hc' (er.trans hvv);have HNt:∀(b:Bool) (ad:Int) (f':Nat->Nat),b=cE h.g (h.aQ (h.g.az (I:Int))) (I:Int) (v:Int)->(b=true->ad=(I:Int))->gn { h with f:=f' } σ A t m.op b ad:=λb ad f' e1 e2 _ _=>⟨q,j,l.r,hb,l.q1,l.q2,hj,λe3=>by
    rw[<- hIe,show bo A (aj (σ.st t) m.op.c)=(v:Int) from hvv]at e3;rw[<- hIe];exact⟨e1.trans e3,e2 (e1.trans e3)⟩⟩
   refine(cZ hS hT H hne hst (λw1 rb1 c1 n1 n2 H1=>qU hS hT H1 (aM n1 hne) hk (D3 _ hms) (λw2 E2 n3 _ H2=>hst2 w2 E2 n3 H2))).mono ?_;rintro e w' ⟨rfl,hA⟩;have S2:=S.setRef l.q1 l.q2 hj hvv.symm;rw[<- hIe]at S2;rw[<- ea];cases b with
  |false=>exact⟨_,x,_,A,rv,MU.zero (m.dn+1),hA,S2,.inl ⟨rfl,hr⟩,df.refl _,rfl,rfl,rfl,rfl,rfl,λ_ _=>rfl,λ_ _=>rfl,λ_ _=>rfl,.inr (.inr ⟨false,rfl,es,rfl,.inr ⟨rfl,rfl⟩,HNt _ _ _ hbn (λe=>by cases e),λ_ _=>by omega⟩)⟩
  |true=>exact⟨_,x,_,A,rv,⟨m.dn+1,0,0,0,0,0,6,(I:Int)⟩,hA,S2,.inr (.inr (.inr (.inr (.inr (.inl ⟨rfl,hr,I,hI,rfl⟩))))),df.refl _,rfl,rfl,rfl,rfl,rfl,λ_ _=>rfl,λ_ _=>rfl,λ_ _=>rfl,.inr (.inr ⟨true,rfl,es,rfl,.inl ⟨rfl,rfl⟩,HNt _ _ _ hbn (λ_=>rfl),λ_ _=>by omega⟩)⟩
 ·have hfi:aA (σ.nw (aj (σ.st t) m.op.a)) m.op.b:=by rw[l.r,hb];unfold aA;omega
  have eE:bE σ t m.op.a m.op.b=0:=by
   unfold bE;rw[if_neg (by rw[ho];decide),if_pos hfi]
  rcases hk with hk|hk
  ·have hk:m.k=4:=hk;have hf:(h.f I:Int)=σ.dat (q:Int) (j:Int):=by rw[hIe];exact S.dat q l.q1 l.q2 j hj
   have ea:bm L.B M h.T σ t m.op=⟨0,(h.f I:Int),false⟩:=by
    have:bm L.B M h.T σ t m.op=⟨bE σ t m.op.a m.op.b,iy σ t m.op.a m.op.b,false⟩:=by unfold bm;rw[if_neg (show m.op.k≠1 by show m.k≠1;omega),if_neg (show m.op.k≠2 by show m.k≠2;omega),if_neg (show m.op.k≠3 by show m.k≠3;omega),if_pos (show m.op.k=4 from hk)]
    rw[this,eE];unfold iy;rw[if_pos eE,l.r,hb,hf]
   have es:σ=aN L.B M h.T σ t m.op:=by
    unfold aN;rw[if_neg (show m.op.k≠1 by show m.k≠1;omega),if_neg (show m.op.k≠2 by show m.k≠2;omega),if_neg (show m.op.k≠3 by show m.k≠3;omega),if_neg (show m.op.k≠5 by show m.k≠5;omega),if_neg (show m.op.k≠6 by show m.k≠6;omega),if_neg (show m.op.k≠7 by show m.k≠7;omega),if_neg (show m.op.k≠8 by show m.k≠8;omega),if_neg (show m.op.k≠13 by show m.k≠13;omega)]
   refine(cZ hS hT H hne hst (λw1 rb1 c1 n1 n2 H1=>sW hS hT H1 (aM n1 hne) hk ht hd had hI)).mono ?_;rintro e w' ⟨rfl,hA⟩;have:=dE.fD (M:=M) (T:=h.T) (m:=m) (h:=h) (σ:=σ) hA S hr rfl rfl rfl rfl rfl es (λ_ _=>rfl) (λe=>by have:m.k=3:=e.1;omega);rw[ea]at this;exact this
  ·have hk:m.k=5:=hk;obtain⟨v,hvv⟩:=Ed hv.1;have ea:bm L.B M h.T σ t m.op=⟨0,0,false⟩:=by
    have:bm L.B M h.T σ t m.op=⟨bE σ t m.op.a m.op.b,0,false⟩:=by unfold bm;rw[if_neg (show m.op.k≠1 by show m.k≠1;omega),if_neg (show m.op.k≠2 by show m.k≠2;omega),if_neg (show m.op.k≠3 by show m.k≠3;omega),if_neg (show m.op.k≠4 by show m.k≠4;omega),if_pos (show m.op.k=5 from hk)]
    rw[this,eE]
   have es:σ.cV (q:Int) (j:Int) (v:Int)=aN L.B M h.T σ t m.op:=by
    have:aN L.B M h.T σ t m.op=ch σ t m.op.a m.op.b m.op.v:=by unfold aN;rw[if_neg (show m.op.k≠1 by show m.k≠1;omega),if_neg (show m.op.k≠2 by show m.k≠2;omega),if_neg (show m.op.k≠3 by show m.k≠3;omega),if_pos (show m.op.k=5 from hk)]
    rw[this];unfold ch;rw[if_pos eE,l.r,hb,show m.op.v=(v:Int) from hvv]
   refine(cZ hS hT H hne hst (λw1 rb1 c1 n1 n2 H1=>qS hS hT H1 (aM n1 hne) hk ht hd had hI hvv (by omega))).mono ?_;rintro e w' ⟨rfl,hA⟩;have S2:=S.cV (v:=v) l.q1 l.q2 hj;rw[<- hIe]at S2;have:=dE.fD (M:=M) (T:=h.T) (m:=m) (h:=h) (σ:=σ) hA S2 hr rfl rfl rfl rfl rfl es (λ_ _=>rfl) (λe=>by have:m.k=3:=e.1;omega);rw[ea]at this;exact this
theorem qW(hS:ah D Q)(hT:Tab W)(H:HM W w L X h x s k ((mb,122,muV L.hb t sb m)::E) D Q)(hne:∀q,q∈E->q.1≠mb)(hst:m.st=4)(hk:m.k=3)(hd:(m.dn:Int)+1<=9223372036854775807)
  (S:Sim h σ A rv) (gk:GOk T L.B σ) (eT:h.T=T) (ht:t<T) (hr:rv t=none) {q I:Nat} (l:cy σ A t m.op q I) (had:m.ad=(I:Int)) (hI:I<h.n) :
  Calls Tryz.prog 26 #[.pointer (some ⟨mb,0,none⟩)] w (dE W L X x s k E D Q mb t sb M T m h σ A rv):=by
 subst eT;have ho:=l.aD;obtain⟨j,hb,hj,hIe⟩:∃j:Nat,m.op.b=(j:Int)/\j<σ.np (q:Int)/\I=A q+1+j:=by
  rcases l.f with⟨-,y⟩|⟨y,-⟩
  ·exact y
  ·exact absurd y (by rw[show m.op.k=3 from hk];omega)
 have hc:=l.c hk;have hc':aH (h.st t) m.c:=by rw[S.st t ht];exact(bd A _ _).2 hc
 have er:aj (h.st t) m.c=bo A (aj (σ.st t) m.c):=by rw[S.st t ht,cM]
 obtain⟨v,hvv⟩:=Ed (show 0<=bo A (aj (σ.st t) m.c)by unfold bo;split <;> omega);have hfi:aA (σ.np (aj (σ.st t) m.op.a)) m.op.b:=by rw[l.r,hb];unfold aA;omega
 have eE:bg σ t m.op.a m.op.b m.op.c=0:=by
  unfold bg;rw[if_pos hc,if_neg (by rw[ho];decide),if_pos hfi]
 have ea:bm L.B M h.T σ t m.op=⟨0,0,false⟩:=by
  have:bm L.B M h.T σ t m.op=⟨bg σ t m.op.a m.op.b m.op.c,0,false⟩:=by unfold bm;rw[if_neg (show m.op.k≠1 by show m.k≠1;omega),if_neg (show m.op.k≠2 by show m.k≠2;omega),if_pos (show m.op.k=3 from hk)]
  rw[this,eE]
 have es:σ.setRef (q:Int) (j:Int) (aj (σ.st t) m.c)=aN L.B M h.T σ t m.op:=by
  have:aN L.B M h.T σ t m.op=bR σ t m.op.a m.op.b m.op.c:=by unfold aN;rw[if_neg (show m.op.k≠1 by show m.k≠1;omega),if_neg (show m.op.k≠2 by show m.k≠2;omega),if_pos (show m.op.k=3 from hk)]
  rw[this];unfold bR;rw[if_pos eE,l.r,hb];rfl
 obtain⟨b,hbn,hst2⟩:=kz (W:=W) (L:=L) (X:=X) (x:=x) (s:=s) (k:=k) (mb:=mb) (sb:=sb) (m:=m) hS hT S gk ht hd had hI hc' (er.trans hvv);have HNt:∀(b:Bool) (ad:Int) (f':Nat->Nat),b=cE h.g (h.aQ (h.g.az (I:Int))) (I:Int) (v:Int)->(b=true->ad=(I:Int))->gn { h with f:=f' } σ A t m.op b ad:=λb ad f' e1 e2 _ _=>⟨q,j,l.r,hb,l.q1,l.q2,hj,λe3=>by
  rw[<- hIe,show bo A (aj (σ.st t) m.op.c)=(v:Int) from hvv]at e3;rw[<- hIe];exact⟨e1.trans e3,e2 (e1.trans e3)⟩⟩
 refine(mH hS hT H hne hst (λw1 rb1 c1 n1 n2 H1=>hst2 w1 _ (aM n1 hne) H1)).mono ?_;rintro e w' ⟨rfl,hA⟩;have S2:=S.setRef l.q1 l.q2 hj hvv.symm;rw[<- hIe]at S2;rw[<- ea];cases b with
|false=>exact⟨_,x,_,A,rv,MU.zero (m.dn+1),hA,S2,.inl ⟨rfl,hr⟩,df.refl _,rfl,rfl,rfl,rfl,rfl,λ_ _=>rfl,λ_ _=>rfl,λ_ _=>rfl,.inr (.inr ⟨false,rfl,es,rfl,.inr ⟨rfl,rfl⟩,HNt _ _ _ hbn (λe=>by cases e),λ_ _=>by omega⟩)⟩
|true=>exact⟨_,x,_,A,rv,⟨m.dn+1,0,0,0,0,0,6,(I:Int)⟩,hA,S2,.inr (.inr (.inr (.inr (.inr (.inl ⟨rfl,hr,I,hI,rfl⟩))))),df.refl _,rfl,rfl,rfl,rfl,rfl,λ_ _=>rfl,λ_ _=>rfl,λ_ _=>rfl,.inr (.inr ⟨true,rfl,es,rfl,.inl ⟨rfl,rfl⟩,HNt _ _ _ hbn (λ_=>rfl),λ_ _=>by omega⟩)⟩
end
structure dO(σ σ':GS)(t:Nat):Prop where
 n:σ.N<=σ'.N
 st:∀i,i≠t->∃l,σ'.st i=σ.st i++l
 np:∀q:Nat,q<=σ.N->σ'.np (q:Int)=σ.np (q:Int)
 nw:∀q:Nat,q<=σ.N->σ'.nw (q:Int)=σ.nw (q:Int)
section
variable {σ σ' σ'':GS}{t:Nat}
theorem dO.refl(σ:GS)(t:Nat):dO σ σ t:=⟨Eg _,λi _=>⟨[],(List.append_nil _).symm⟩,λ_ _=>rfl,λ_ _=>rfl⟩
theorem dO.trans(h:dO σ σ' t)(h':dO σ' σ'' t):dO σ σ'' t:=
 ⟨Eh h.n h'.n,λi hi=>by
  obtain⟨l,e⟩:=h.st i hi;obtain⟨l',e'⟩:=h'.st i hi;exact⟨l++l',by rw[e',e,List.append_assoc]⟩,λq hq=>(h'.np q (Eh hq h.n)).trans (h.np q hq),λq hq=>(h'.nw q (Eh hq h.n)).trans (h.nw q hq)⟩
theorem tj(B:Nat)(l:List Int)(r:Int):∃z,aI B l r=l++z:=by
 unfold aI;split
 ·exact⟨[r],rfl⟩
 ·exact⟨[],(List.append_nil _).symm⟩
theorem dO.jA(σ:GS)(t:Nat)(l:List Int):dO σ (σ.jA t l) t:=
 ⟨Eg _,λi hi=>⟨[],by show ai σ.st t l i=_;rw[ay _ _ hi,List.append_nil]⟩,λ_ _=>rfl,λ_ _=>rfl⟩
theorem dO.push(σ:GS)(B t j:Nat)(r:Int):dO σ (σ.push B j r) t:=
 ⟨Eg _,λi _=>by
  show ∃l,ai σ.st j (aI B (σ.st j) r) i=_;by_cases e:i=j
  ·subst e;rw[aq];exact tj B _ r
  ·rw[ay _ _ e];exact⟨[],(List.append_nil _).symm⟩,λ_ _=>rfl,λ_ _=>rfl⟩
theorem dO.new(σ:GS)(a b:Int)(t:Nat):dO σ (σ.new a b) t:=
 ⟨Nat.le_succ _,λi _=>⟨[],(List.append_nil _).symm⟩,λq hq=>ay _ _ (by omega),λq hq=>ay _ _ (by omega)⟩
theorem dO.act(B M T:Nat)(σ:GS)(t:Nat)(o:Po):dO σ (aN B M T σ t o) t:=by
 unfold aN
 repeat' split
 ·unfold bW
  repeat' split
  ·exact .refl _ _
  ·exact(dO.new σ _ _ t).trans (.push _ _ _ _ _)
  ·exact .refl _ _
 ·unfold dK;split
  ·exact .push _ _ _ _ _
  ·exact .refl _ _
 ·unfold bR;split
  ·exact⟨Eg _,λi _=>⟨[],(List.append_nil _).symm⟩,λ_ _=>rfl,λ_ _=>rfl⟩
  ·exact .refl _ _
 ·unfold ch;split
  ·exact⟨Eg _,λi _=>⟨[],(List.append_nil _).symm⟩,λ_ _=>rfl,λ_ _=>rfl⟩
  ·exact .refl _ _
 ·exact .push _ _ _ _ _
 ·exact .jA _ _ _
 ·unfold jj;split
  ·exact .push _ _ _ _ _
  ·exact .refl _ _
 ·unfold de;split
  ·exact .push _ _ _ _ _
  ·exact .refl _ _
 ·exact .refl _ _
theorem qX{l z:List Int}{i:Int}(h:aH l i):aH (l++z) i/\aj (l++z) i=aj l i:=by
 have h2:aH (l++z) i:=by
  unfold aH at h ⊢;rw[List.length_append];omega
 refine⟨h2,?_⟩;unfold aj;rw[if_pos h,if_pos h2];unfold aH at h;rw[List.getD_eq_getElem?_getD,List.getD_eq_getElem?_getD,List.getElem?_append_left (show i.toNat<l.length by omega)]
end
section
variable {σ σ':GS}{A A':Nat->Nat}{rv rv':Nat->Option (Nat×Nat)}{t i:Nat}{o:Po}{q I n M:Nat}{m:MU}
theorem cy.later(l:cy σ A i o q I)(h:dO σ σ' t)(hi:i≠t)(hA:∀o,o<=σ.N->A' o=A o):cy σ' A' i o q I:=by
 obtain⟨z,ez⟩:=h.st i hi;obtain⟨h1,h2⟩:=qX (z:=z) l.a;refine⟨l.q1,Eh l.q2 h.n,by rw[ez];exact h1,by rw[ez,h2];exact l.r,λhk=>by rw[ez];exact(qX (l.c hk)).1,?_⟩;rw[h.np q l.q2,h.nw q l.q2,hA q l.q2];exact l.f
theorem Phase.later(p:Phase n M σ A rv i m)(h:dO σ σ' t)(hi:i≠t)(hA:∀o,o<=σ.N->A' o=A o)(hr:rv' i=rv i):Phase n M σ' A' rv' i m:=by
 unfold Phase at p ⊢;rw[hr];rcases p with p|p|p|⟨p1,p2,q,I,l,p3,p4⟩|p|p|⟨p1,p0,p2,q,I,l,p3,p4⟩
 ·exact .inl p
 ·exact .inr (.inl p)
 ·exact .inr (.inr (.inl p))
 ·exact .inr (.inr (.inr (.inl ⟨p1,p2,q,I,l.later h hi hA,p3,p4⟩)))
 ·exact .inr (.inr (.inr (.inr (.inl p))))
 ·exact .inr (.inr (.inr (.inr (.inr (.inl p)))))
 ·exact .inr (.inr (.inr (.inr (.inr (.inr ⟨p1,p0,p2,q,I,l.later h hi hA,p3,p4⟩)))))
end
end Go.Proofs.YtimkofiempcfdaaGreatDoor
