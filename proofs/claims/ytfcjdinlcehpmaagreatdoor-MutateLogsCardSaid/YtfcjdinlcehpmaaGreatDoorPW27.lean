/- Several texts joined (pack.py): Ux Uy. -/
import Derived.Test.YtfcjdinlcehpmaaGreatDoorPW23
import Derived.Test.YtfcjdinlcehpmaaGreatDoorPW02
import Derived.WalkKit
import Derived.BigQuiet
import Derived.Deep.RegionHeld3
namespace Go.Proofs.YtfcjdinlcehpmaaGreatDoor
set_option linter.unusedVariables false
set_option linter.unusedSimpArgs false
set_option maxRecDepth 100000
open Go.RowKit Go.Gl HS
section
variable {W w w':World}{L:HL}{X:HX}{h h2:HS}{x x2:HT}{s k:Nat}{E:Blks}{D:Nat→Prop}{Q:World→Prop}{mb t sb:Nat}{m:MU}
abbrev put7(w:World)(b:Nat)(v0 v1 v2 v3 v4 v5 v6:Value):World:=
 ((((((w.setCell ⟨b,4,none⟩ v0).setCell ⟨b,5,none⟩ v1).setCell ⟨b,6,none⟩ v2).setCell ⟨b,7,none⟩ v3).setCell ⟨b,8,none⟩ v4).setCell ⟨b,9,none⟩ v5).setCell ⟨b,10,none⟩ v6
theorem HM.oput(hS:Lives D Q)(hT:Tab W)(H:HM W w L X h x s k ((mb,96,muV L.hb t sb m)::E) D Q)(hne:∀q,q∈E→q.1≠mb)(k0 a0 b0 c0 v0 s0 d0:Int) :
  HM W (put7 w mb (.int .i64 k0) (.int .i64 a0) (.int .i64 b0) (.int .i64 c0) (.int .u64 v0) (.int .i64 s0) (.int .i64 d0)) L X h x s k ((mb,96,muV L.hb t sb ⟨m.dn,k0,a0,b0,c0,v0,s0,d0⟩)::E) D Q:=by
 have hb:=H.blk (List.mem_cons_self ..)
 have hp:=((((((hb.put 4 (.int .i64 k0)).put 5 (.int .i64 a0)).put 6 (.int .i64 b0)).put 7 (.int .i64 c0)).put 8 (.int .u64 v0)).put 9 (.int .i64 s0)).put 10 (.int .i64 d0)
 refine H.turn hS hT (fr_sets (fr_sets (fr_sets (fr_sets (fr_sets (fr_sets (fr_sets (Fr.refl [mb] w) (by simp) 4 _) (by simp) 5 _) (by simp) 6 _) (by simp) 7 _) (by simp) 8 _) (by simp) 9 _) (by simp) 10 _) ?_ hne
 unfold muV at hp ⊢
 simpa using hp
theorem HM.tab(H:HM W w L X h x s k E D Q):Tab w:=H.hr.tab
theorem HM.noted(hS:Lives D Q)(H:HM W w L X h x s k E D Q)(st field to0:Int) :
  Calls Tryz.prog 59 #[.agg #[.int .i64 h.g.words,.int .i64 h.g.rw,.int .i64 h.g.cw,.int .i64 h.g.regions,.int .i64 h.g.cards,.int .i64 h.g.max],.int .i64 st,.int .i64 field,.int .u64 to0] w fun e w'=>e=.returned (.bool (noteB h.g st field to0))∧HM W w' L X h x s k E D Q:=
 (note_any h.g H.ok.geo st field to0 w H.tab).mono (by rintro e w' ⟨rfl,hf⟩;exact⟨rfl,H.fr0 hS hf⟩)
set_option maxHeartbeats 3200000 in
theorem mtstore_no(hS:Lives D Q)(hT:Tab W)(H:HM W w L X h x s k ((mb,96,muV L.hb t sb m)::E) D Q)(hne:∀q,q∈E→q.1≠mb)(ht:t<h.T)(hd:(m.dn:Int)+1≤9223372036854775807){I v:Nat}(had:m.ad=(I:Int))(hI:I<h.n)
  (hc:hkIn (h.st t) m.c) (hv:hkAt (h.st t) m.c=(v:Int)) (hnb:noteB h.g (h.stateOf (h.g.regionOf (I:Int))) (I:Int) (v:Int)=false) :
  Calls Tryz.prog 33 #[.pointer (some ⟨mb,0,none⟩)] w fun e w'=>e=.returned (resV (t:Int) (m.dn:Int) ⟨0,0,false⟩ true false false (.slice none 0 0))∧HM W w' L X { h with f:=upd h.f I v } x s k ((mb,96,muV L.hb t sb (MU.zero (m.dn+1)))::E) D Q:=by
 have hmb:=H.blk (List.mem_cons_self ..)
 have hlt:=hmb.lt
 have hltE:∀q,q∈E→q.1<w.heap.size:=fun q hq=>(H.blk (b:=q.1) (t:=q.2.1) (cs:=q.2.2) (List.mem_cons_of_mem _ hq)).lt
 have hrm:w.heap.size≠mb:=by omega
 have hrE:∀q,q∈E→q.1≠w.heap.size:=fun q hq=>by have:=hltE q hq;omega
 have hneR:∀cs:Array Value,∀q,q∈((w.heap.size,61,cs)::E:Blks)→q.1≠mb:=fun cs q hq=>by
  rcases List.mem_cons.1 hq with rfl | hq
  ·exact hrm
  ·exact hne q hq
 have HX:Hid (HM W (w.alloc (.cells #[.int .i64 0,.int .i64 0,.int .i64 0,.int .u64 0,.bool false,.bool false,.bool false,.bool false,.slice none 0 0] 61)) L X h x s k ((w.heap.size,61,#[.int .i64 0,.int .i64 0,.int .i64 0,.int .u64 0,.bool false,.bool false,.bool false,.bool false,.slice none 0 0])::(mb,96,muV L.hb t sb m)::E) D Q):=H.alloc hS 61 #[.int .i64 0,.int .i64 0,.int .i64 0,.int .u64 0,.bool false,.bool false,.bool false,.bool false,.slice none 0 0]
 have HEnd:Hid (∀w' a0 a1 a2 a3 a4 a5 a6 a7 a8 v0 v1 v2 v3 v4 v5 v6 v7 v8,HM W w' L X { h with f:=upd h.f I v } x s k ((mb,96,muV L.hb t sb (MU.zero (m.dn+1)))::(w.heap.size,61,#[a0,a1,a2,a3,a4,a5,a6,a7,a8])::E) D Q→HM W (put9 w' w.heap.size v0 v1 v2 v3 v4 v5 v6 v7 v8) L X { h with f:=upd h.f I v } x s k ((mb,96,muV L.hb t sb (MU.zero (m.dn+1)))::E) D Q):=fun w' a0 a1 a2 a3 a4 a5 a6 a7 a8 v0 v1 v2 v3 v4 v5 v6 v7 v8 q=>
  q.swap.res9 hS hT (fun y hy=>by
   rcases List.mem_cons.1 hy with rfl | hy
   ·exact fun e=>hrm e.symm
   ·exact hrE y hy) v0 v1 v2 v3 v4 v5 v6 v7 v8
 have hv2:v<18446744073709551616:=by
  have hc':=hc
  unfold hkIn at hc'
  have hk:m.c.toNat<(h.st t).length:=by omega
  have:=H.ok.rok t ht _ (show hkAt (h.st t) m.c∈h.st t by unfold hkAt;rw [if_pos hc];simp [hk])
  omega
 have HF0:Hid (∀i,HM W ((w.alloc (.cells #[.int .i64 0,.int .i64 0,.int .i64 0,.int .u64 0,.bool false,.bool false,.bool false,.bool false,.slice none 0 0] 61)).drewN i) L X h x s k ((w.heap.size,61,#[.int .i64 0,.int .i64 0,.int .i64 0,.int .u64 0,.bool false,.bool false,.bool false,.bool false,.slice none 0 0])::(mb,96,muV L.hb t sb m)::E) D Q):=fun i=>HX.out.fr0 hS ((Fr.refl _ _).drewN _)
 have HSk:Hid (∀i,Calls Tryz.prog 56 #[.pointer (some ⟨mb,0,none⟩)] ((w.alloc (.cells #[.int .i64 0,.int .i64 0,.int .i64 0,.int .u64 0,.bool false,.bool false,.bool false,.bool false,.slice none 0 0] 61)).drewN i) fun e w''=>e=.returned (.pointer (some ⟨L.S t,0,none⟩))∧∃j,w''=((w.alloc (.cells #[.int .i64 0,.int .i64 0,.int .i64 0,.int .u64 0,.bool false,.bool false,.bool false,.bool false,.slice none 0 0] 61)).drewN i).drewN j):=fun i=>(HF0.out i).stack hS (List.mem_cons_of_mem _ (List.mem_cons_self ..)) ht
 have ec:hkAtE (h.st t) m.c=0:=by unfold hkAtE;rw [if_pos hc]
 have HAc:Hid (∀i,Calls Tryz.prog 18 #[.pointer (some ⟨L.S t,0,none⟩),.int .i64 m.c] ((w.alloc (.cells #[.int .i64 0,.int .i64 0,.int .i64 0,.int .u64 0,.bool false,.bool false,.bool false,.bool false,.slice none 0 0] 61)).drewN i) fun e w''=>e=.returned (.tuple #[.int .u64 (v:Int),.int .i64 0])∧(w.alloc (.cells #[.int .i64 0,.int .i64 0,.int .i64 0,.int .u64 0,.bool false,.bool false,.bool false,.bool false,.slice none 0 0] 61)).drewN i=w''):=fun i=>by
  have:=(HF0.out i).satw ht m.c
  rwa [ec,hv]at this
 have HSt:Hid (∀w',HM W w' L X h x s k ((w.heap.size,61,#[.int .i64 0,.int .i64 0,.int .i64 0,.int .u64 0,.bool false,.bool false,.bool false,.bool false,.slice none 0 0])::(mb,96,muV L.hb t sb m)::E) D Q→Calls Tryz.prog 55 #[.pointer (some ⟨L.ab,0,none⟩),.int .i64 (I:Int),.int .u64 (v:Int)] w' fun e w''=>e=.returned (.int .i64 0)∧HM W w'' L X { h with f:=upd h.f I v } x s k ((w.heap.size,61,#[.int .i64 0,.int .i64 0,.int .i64 0,.int .u64 0,.bool false,.bool false,.bool false,.bool false,.slice none 0 0])::(mb,96,muV L.hb t sb m)::E) D Q):=fun w' q=>q.astore hS hI rfl hv2
 have HRe:Hid (∀w',HM W w' L X { h with f:=upd h.f I v } x s k ((w.heap.size,61,#[.int .i64 0,.int .i64 0,.int .i64 0,.int .u64 0,.bool false,.bool false,.bool false,.bool false,.slice none 0 0])::(mb,96,muV L.hb t sb m)::E) D Q→Calls Tryz.prog 58 #[.agg #[.int .i64 h.g.words,.int .i64 h.g.rw,.int .i64 h.g.cw,.int .i64 h.g.regions,.int .i64 h.g.cards,.int .i64 h.g.max],.int .i64 (I:Int)] w' fun e w''=>e=.returned (.int .i64 (h.g.regionOf (I:Int)))∧HM W w'' L X { h with f:=upd h.f I v } x s k ((w.heap.size,61,#[.int .i64 0,.int .i64 0,.int .i64 0,.int .u64 0,.bool false,.bool false,.bool false,.bool false,.slice none 0 0])::(mb,96,muV L.hb t sb m)::E) D Q):=fun w' q=>q.region hS (I:Int)
 have HSa:Hid (∀w',HM W w' L X { h with f:=upd h.f I v } x s k ((w.heap.size,61,#[.int .i64 0,.int .i64 0,.int .i64 0,.int .u64 0,.bool false,.bool false,.bool false,.bool false,.slice none 0 0])::(mb,96,muV L.hb t sb m)::E) D Q→Calls Tryz.prog 57 #[.pointer (some ⟨L.tb,0,none⟩),.int .i64 (h.g.regionOf (I:Int))] w' fun e w''=>e=.returned (.int .i64 (h.stateOf (h.g.regionOf (I:Int))))∧HM W w'' L X { h with f:=upd h.f I v } x s k ((w.heap.size,61,#[.int .i64 0,.int .i64 0,.int .i64 0,.int .u64 0,.bool false,.bool false,.bool false,.bool false,.slice none 0 0])::(mb,96,muV L.hb t sb m)::E) D Q):=fun w' q=>q.state hS _
 have HAn:Hid (∀w',HM W w' L X { h with f:=upd h.f I v } x s k ((w.heap.size,61,#[.int .i64 0,.int .i64 0,.int .i64 0,.int .u64 0,.bool false,.bool false,.bool false,.bool false,.slice none 0 0])::(mb,96,muV L.hb t sb m)::E) D Q→Calls Tryz.prog 42 #[.pointer (some ⟨mb,0,none⟩),.agg #[.int .i64 0,.int .i64 0,.int .i64 0,.int .u64 0,.bool false]] w' fun e w''=>e=.returned (.agg #[.int .i64 (t:Int),.int .i64 (m.dn:Int),.int .i64 0,.int .u64 0,.bool false,.bool true,.bool false,.bool false,.slice none 0 0])∧HM W w'' L X { h with f:=upd h.f I v } x s k ((mb,96,muV L.hb t sb (MU.zero (m.dn+1)))::(w.heap.size,61,#[.int .i64 0,.int .i64 0,.int .i64 0,.int .u64 0,.bool false,.bool false,.bool false,.bool false,.slice none 0 0])::E) D Q):=fun w' q=>HM.answer hS hT q.swap (hneR _) hd 0 0 ⟨0,0,false⟩
 have HNt:Hid (∀w' E',HM W w' L X { h with f:=upd h.f I v } x s k E' D Q→Calls Tryz.prog 59 #[.agg #[.int .i64 h.g.words,.int .i64 h.g.rw,.int .i64 h.g.cw,.int .i64 h.g.regions,.int .i64 h.g.cards,.int .i64 h.g.max],.int .i64 (h.stateOf (h.g.regionOf (I:Int))),.int .i64 (I:Int),.int .u64 (v:Int)] w' fun e w''=>e=.returned (.bool false)∧HM W w'' L X { h with f:=upd h.f I v } x s k E' D Q):=fun w' E' q=>by
  have:=HM.noted (h:={ h with f:=upd h.f I v }) hS q (h.stateOf (h.g.regionOf (I:Int))) (I:Int) (v:Int)
  rw [hnb]at this
  exact this
 have HCe:Hid (∀w' h' E',h'.g=h.g→h'.T=h.T→HM W w' L X h' x s k E' D Q→w'.cell? ⟨L.hb,14,none⟩=some (.int .i64 h.g.words)∧w'.cell? ⟨L.hb,15,none⟩=some (.int .i64 h.g.rw)∧w'.cell? ⟨L.hb,16,none⟩=some (.int .i64 h.g.cw)∧w'.cell? ⟨L.hb,17,none⟩=some (.int .i64 h.g.regions)∧w'.cell? ⟨L.hb,18,none⟩=some (.int .i64 h.g.cards)∧w'.cell? ⟨L.hb,19,none⟩=some (.int .i64 h.g.max)∧w'.cell? ⟨L.hb,21,none⟩=some (.pointer (some ⟨L.tb,0,none⟩))∧L.hb<w'.heap.size):=fun w' h' E' e1 e2 q=>by
  obtain⟨d14,d15,d16,d17,d18,d19,-,d21,-,-,-,-,-,-,-,dh⟩:=q.hc
  rw [e1]at d14 d15 d16 d17 d18 d19
  exact⟨d14,d15,d16,d17,d18,d19,d21,dh⟩
 obtain⟨c0,c1,c2,c3,c4,c5,c6,c7,c8,c9,c10⟩:=muCells hmb
 have c20:=H.hc.c20
 have N20:L.hb<w.heap.size:=lt_of_cell c20
 rw [had]at c10
 have HNE:Hid (∀q,q∈((w.heap.size,61,#[.int .i64 0,.int .i64 0,.int .i64 0,.int .u64 0,.bool false,.bool false,.bool false,.bool false,.slice none 0 0])::E:Blks)→q.1≠mb):=hneR _
 have hl1:mb<w.heap.size+1:=by omega
 have j1:L.hb<w.heap.size+1:=by omega
 have n0:mb≠w.heap.size:=by omega
 have i0:L.hb≠w.heap.size:=by omega
 unfold resV
 clear H hmb hltE HX hne hneR hrm hrE had hI ht hd hc hv hv2 ec hnb
 generalize h.stateOf (h.g.regionOf (I:Int))=fs at *
 generalize h.g.regionOf (I:Int)=rg at *
 generalize hkAt (h.st t) m.c=rc at *
 go_enter Tryz.func33,Tryz.ntmps33
 go_wp2_with fail
 go_quiet (fail)
 go_wp2_with fail
 go_quiet ((first | (go_at_call 56;exact quiet_more_add (HSk.out _)) | (go_at_call 18;exact quiet_add_left (HAc.out _))))
 go_wp2_with fail
 refine(HSt.out _ (HF0.out _)).mono ?_
 rintro e w1 ⟨rfl,hA⟩
 obtain⟨d14,d15,d16,d17,d18,d19,d21,dh⟩:=HCe.out _ { h with f:=upd h.f I v } _ rfl rfl hA
 have HA1:=hide hA
 clear hA c0 c1 c2 c3 c4 c5 c6 c7 c8 c9 c10 c20 HF0 HSk HAc HSt
 have HA1d:=hide (HA1.out.fr0 hS (Fr.refl _ _).drew)
 have HKx:Hid (∀w',HM W w' L X { h with f:=upd h.f I v } x s k ((w.heap.size,61,#[.int .i64 0,.int .i64 0,.int .i64 0,.int .u64 0,.bool false,.bool false,.bool false,.bool false,.slice none 0 0])::(mb,96,muV L.hb t sb m)::E) D Q→w'.cell? ⟨L.hb,14,none⟩=some (.int .i64 h.g.words)∧w'.cell? ⟨L.hb,15,none⟩=some (.int .i64 h.g.rw)∧w'.cell? ⟨L.hb,16,none⟩=some (.int .i64 h.g.cw)∧w'.cell? ⟨L.hb,17,none⟩=some (.int .i64 h.g.regions)∧w'.cell? ⟨L.hb,18,none⟩=some (.int .i64 h.g.cards)∧w'.cell? ⟨L.hb,19,none⟩=some (.int .i64 h.g.max)∧w'.cell? ⟨L.hb,21,none⟩=some (.pointer (some ⟨L.tb,0,none⟩))):=fun w' q=>by
  obtain⟨d14,d15,d16,d17,d18,d19,d21,dh⟩:=HCe.out _ { h with f:=upd h.f I v } _ rfl rfl q
  exact⟨d14,d15,d16,d17,d18,d19,d21⟩
 have K0:=HKx.out _ HA1d.out
 go_wp2_with fail
 go_region_held3 (fun w'=>w'.cell? ⟨L.hb,14,none⟩=some (.int .i64 h.g.words)∧w'.cell? ⟨L.hb,15,none⟩=some (.int .i64 h.g.rw)∧w'.cell? ⟨L.hb,16,none⟩=some (.int .i64 h.g.cw)∧w'.cell? ⟨L.hb,17,none⟩=some (.int .i64 h.g.regions)∧w'.cell? ⟨L.hb,18,none⟩=some (.int .i64 h.g.cards)∧w'.cell? ⟨L.hb,19,none⟩=some (.int .i64 h.g.max)∧w'.cell? ⟨L.hb,21,none⟩=some (.pointer (some ⟨L.tb,0,none⟩)))
  (first | with_reducible exact K0 | go_keep)
  (first | (go_at_call 58;refine(HRe.out _ HA1d.out).mono ?_;rintro e w2 ⟨rfl,hA⟩;have HS2:=hide (HSa.out _ hA);replace K0:=HKx.out _ hA;clear hA) | (go_at_call 57;refine HS2.out.mono ?_;rintro e w3 ⟨rfl,hA⟩;have HAw:=hide (HAn.out _ hA);replace K0:=HKx.out _ hA;clear hA))
 all_goals
  clear d14 d15 d16 d17 d18 d19 d21 dh K0
  go_wp2_with fail
  refine HAw.out.mono ?_
  rintro e w4 ⟨rfl,hA⟩
  have hB:=hA.alloc hS 61 #[.int .i64 (t:Int),.int .i64 (m.dn:Int),.int .i64 0,.int .u64 0,.bool false,.bool true,.bool false,.bool false,.slice none 0 0]
  obtain⟨d14,d15,d16,d17,d18,d19,d21,dh⟩:=HCe.out _ { h with f:=upd h.f I v } _ rfl rfl hA
  have HB4:=hide (HNt.out _ _ hB)
  have hl4:=(hA.blk (List.mem_cons_self ..)).lt
  have hlr:=(hA.blk (List.mem_cons_of_mem _ (List.mem_cons_self ..))).lt
  have HL4:Hid (mb<w4.heap.size∧w.heap.size<w4.heap.size∧∀q,q∈E→q.1<w4.heap.size):=⟨hl4,hlr,fun q hq=>(hA.blk (b:=q.1) (t:=q.2.1) (cs:=q.2.2) (List.mem_cons_of_mem _ (List.mem_cons_of_mem _ hq))).lt⟩
  have m1:L.hb≠w4.heap.size:=by omega
  clear hA hB HAw
  go_wp2_with fail
  refine HB4.out.mono ?_
  rintro e w5 ⟨rfl,hA⟩
  have HA5:=hide hA
  have hr2:=hA.blk (List.mem_cons_self ..)
  have hrb:=hA.blk (List.mem_cons_of_mem _ (List.mem_cons_of_mem _ (List.mem_cons_self ..)))
  have u0:=hr2.cell 0
  have u1:=hr2.cell 1
  have u2:=hr2.cell 2
  have u3:=hr2.cell 3
  have u4:=hr2.cell 4
  have u5:=hr2.cell 5
  have u6:=hr2.cell 6
  have u7:=hr2.cell 7
  have u8:=hr2.cell 8
  have y0:=hrb.cell 0
  have y1:=hrb.cell 1
  have y2:=hrb.cell 2
  have y3:=hrb.cell 3
  have y4:=hrb.cell 4
  have y5:=hrb.cell 5
  have y6:=hrb.cell 6
  have y7:=hrb.cell 7
  have y8:=hrb.cell 8
  have z0:=hrb.frozen 0
  have z1:=hrb.frozen 1
  have z2:=hrb.frozen 2
  have z3:=hrb.frozen 3
  have z4:=hrb.frozen 4
  have z5:=hrb.frozen 5
  have z6:=hrb.frozen 6
  have z7:=hrb.frozen 7
  have z8:=hrb.frozen 8
  have NR:=hrb.lt
  have N2:=hr2.lt
  obtain⟨l1,l2,-⟩:=HL4.out
  have p1:w4.heap.size≠w.heap.size:=by omega
  have p2:mb≠w4.heap.size:=by omega
  have p3:mb≠w.heap.size:=by omega
  clear hA hr2 hrb HB4 d14 d15 d16 d17 d18 d19 d21 dh
  go_wp2_with fail
  refine bodyPost_ret (v:=.agg #[.int .i64 (t:Int),.int .i64 (m.dn:Int),.int .i64 0,.int .u64 0,.bool false,.bool true,.bool false,.bool false,.slice none 0 0]) (by simp [results,Tryz.results33,go_sem, *]) rfl ⟨rfl,?_⟩
  exact HEnd.out _ _ _ _ _ _ _ _ _ _ _ _ _ _ _ _ _ _ _ (HA5.out.sub (fun y hy=>List.mem_cons_of_mem _ hy))
set_option maxHeartbeats 3200000 in
theorem mtstore_note(hS:Lives D Q)(hT:Tab W)(H:HM W w L X h x s k ((mb,96,muV L.hb t sb m)::E) D Q)(hne:∀q,q∈E→q.1≠mb)(ht:t<h.T)(hd:(m.dn:Int)+1≤9223372036854775807){I v:Nat}(had:m.ad=(I:Int))(hI:I<h.n)
  (hc:hkIn (h.st t) m.c) (hv:hkAt (h.st t) m.c=(v:Int)) (hnb:noteB h.g (h.stateOf (h.g.regionOf (I:Int))) (I:Int) (v:Int)=true) :
  Calls Tryz.prog 33 #[.pointer (some ⟨mb,0,none⟩)] w fun e w'=>e=.returned (resV (t:Int) (m.dn:Int) ⟨0,0,false⟩ true true false (.slice none 0 0))∧HM W w' L X { h with f:=upd h.f I v } x s k ((mb,96,muV L.hb t sb ⟨m.dn+1,0,0,0,0,0,6,(I:Int)⟩)::E) D Q:=by
 have hmb:=H.blk (List.mem_cons_self ..)
 have hlt:=hmb.lt
 have hltE:∀q,q∈E→q.1<w.heap.size:=fun q hq=>(H.blk (b:=q.1) (t:=q.2.1) (cs:=q.2.2) (List.mem_cons_of_mem _ hq)).lt
 have hrm:w.heap.size≠mb:=by omega
 have hrE:∀q,q∈E→q.1≠w.heap.size:=fun q hq=>by have:=hltE q hq;omega
 have hneR:∀cs:Array Value,∀q,q∈((w.heap.size,61,cs)::E:Blks)→q.1≠mb:=fun cs q hq=>by
  rcases List.mem_cons.1 hq with rfl | hq
  ·exact hrm
  ·exact hne q hq
 have HX:Hid (HM W (w.alloc (.cells #[.int .i64 0,.int .i64 0,.int .i64 0,.int .u64 0,.bool false,.bool false,.bool false,.bool false,.slice none 0 0] 61)) L X h x s k ((w.heap.size,61,#[.int .i64 0,.int .i64 0,.int .i64 0,.int .u64 0,.bool false,.bool false,.bool false,.bool false,.slice none 0 0])::(mb,96,muV L.hb t sb m)::E) D Q):=H.alloc hS 61 #[.int .i64 0,.int .i64 0,.int .i64 0,.int .u64 0,.bool false,.bool false,.bool false,.bool false,.slice none 0 0]
 have HEnd:Hid (∀w' a0 a1 a2 a3 a4 a5 a6 a7 a8 v0 v1 v2 v3 v4 v5 v6 v7 v8,HM W w' L X { h with f:=upd h.f I v } x s k ((mb,96,muV L.hb t sb ⟨m.dn+1,0,0,0,0,0,6,(I:Int)⟩)::(w.heap.size,61,#[a0,a1,a2,a3,a4,a5,a6,a7,a8])::E) D Q→HM W (put9 w' w.heap.size v0 v1 v2 v3 v4 v5 v6 v7 v8) L X { h with f:=upd h.f I v } x s k ((mb,96,muV L.hb t sb ⟨m.dn+1,0,0,0,0,0,6,(I:Int)⟩)::E) D Q):=fun w' a0 a1 a2 a3 a4 a5 a6 a7 a8 v0 v1 v2 v3 v4 v5 v6 v7 v8 q=>
  q.swap.res9 hS hT (fun y hy=>by
   rcases List.mem_cons.1 hy with rfl | hy
   ·exact fun e=>hrm e.symm
   ·exact hrE y hy) v0 v1 v2 v3 v4 v5 v6 v7 v8
 have hv2:v<18446744073709551616:=by
  have hc':=hc
  unfold hkIn at hc'
  have hk:m.c.toNat<(h.st t).length:=by omega
  have:=H.ok.rok t ht _ (show hkAt (h.st t) m.c∈h.st t by unfold hkAt;rw [if_pos hc];simp [hk])
  omega
 have HF0:Hid (∀i,HM W ((w.alloc (.cells #[.int .i64 0,.int .i64 0,.int .i64 0,.int .u64 0,.bool false,.bool false,.bool false,.bool false,.slice none 0 0] 61)).drewN i) L X h x s k ((w.heap.size,61,#[.int .i64 0,.int .i64 0,.int .i64 0,.int .u64 0,.bool false,.bool false,.bool false,.bool false,.slice none 0 0])::(mb,96,muV L.hb t sb m)::E) D Q):=fun i=>HX.out.fr0 hS ((Fr.refl _ _).drewN _)
 have HSk:Hid (∀i,Calls Tryz.prog 56 #[.pointer (some ⟨mb,0,none⟩)] ((w.alloc (.cells #[.int .i64 0,.int .i64 0,.int .i64 0,.int .u64 0,.bool false,.bool false,.bool false,.bool false,.slice none 0 0] 61)).drewN i) fun e w''=>e=.returned (.pointer (some ⟨L.S t,0,none⟩))∧∃j,w''=((w.alloc (.cells #[.int .i64 0,.int .i64 0,.int .i64 0,.int .u64 0,.bool false,.bool false,.bool false,.bool false,.slice none 0 0] 61)).drewN i).drewN j):=fun i=>(HF0.out i).stack hS (List.mem_cons_of_mem _ (List.mem_cons_self ..)) ht
 have ec:hkAtE (h.st t) m.c=0:=by unfold hkAtE;rw [if_pos hc]
 have HAc:Hid (∀i,Calls Tryz.prog 18 #[.pointer (some ⟨L.S t,0,none⟩),.int .i64 m.c] ((w.alloc (.cells #[.int .i64 0,.int .i64 0,.int .i64 0,.int .u64 0,.bool false,.bool false,.bool false,.bool false,.slice none 0 0] 61)).drewN i) fun e w''=>e=.returned (.tuple #[.int .u64 (v:Int),.int .i64 0])∧(w.alloc (.cells #[.int .i64 0,.int .i64 0,.int .i64 0,.int .u64 0,.bool false,.bool false,.bool false,.bool false,.slice none 0 0] 61)).drewN i=w''):=fun i=>by
  have:=(HF0.out i).satw ht m.c
  rwa [ec,hv]at this
 have HSt:Hid (∀w',HM W w' L X h x s k ((w.heap.size,61,#[.int .i64 0,.int .i64 0,.int .i64 0,.int .u64 0,.bool false,.bool false,.bool false,.bool false,.slice none 0 0])::(mb,96,muV L.hb t sb m)::E) D Q→Calls Tryz.prog 55 #[.pointer (some ⟨L.ab,0,none⟩),.int .i64 (I:Int),.int .u64 (v:Int)] w' fun e w''=>e=.returned (.int .i64 0)∧HM W w'' L X { h with f:=upd h.f I v } x s k ((w.heap.size,61,#[.int .i64 0,.int .i64 0,.int .i64 0,.int .u64 0,.bool false,.bool false,.bool false,.bool false,.slice none 0 0])::(mb,96,muV L.hb t sb m)::E) D Q):=fun w' q=>q.astore hS hI rfl hv2
 have HRe:Hid (∀w',HM W w' L X { h with f:=upd h.f I v } x s k ((w.heap.size,61,#[.int .i64 0,.int .i64 0,.int .i64 0,.int .u64 0,.bool false,.bool false,.bool false,.bool false,.slice none 0 0])::(mb,96,muV L.hb t sb m)::E) D Q→Calls Tryz.prog 58 #[.agg #[.int .i64 h.g.words,.int .i64 h.g.rw,.int .i64 h.g.cw,.int .i64 h.g.regions,.int .i64 h.g.cards,.int .i64 h.g.max],.int .i64 (I:Int)] w' fun e w''=>e=.returned (.int .i64 (h.g.regionOf (I:Int)))∧HM W w'' L X { h with f:=upd h.f I v } x s k ((w.heap.size,61,#[.int .i64 0,.int .i64 0,.int .i64 0,.int .u64 0,.bool false,.bool false,.bool false,.bool false,.slice none 0 0])::(mb,96,muV L.hb t sb m)::E) D Q):=fun w' q=>q.region hS (I:Int)
 have HSa:Hid (∀w',HM W w' L X { h with f:=upd h.f I v } x s k ((w.heap.size,61,#[.int .i64 0,.int .i64 0,.int .i64 0,.int .u64 0,.bool false,.bool false,.bool false,.bool false,.slice none 0 0])::(mb,96,muV L.hb t sb m)::E) D Q→Calls Tryz.prog 57 #[.pointer (some ⟨L.tb,0,none⟩),.int .i64 (h.g.regionOf (I:Int))] w' fun e w''=>e=.returned (.int .i64 (h.stateOf (h.g.regionOf (I:Int))))∧HM W w'' L X { h with f:=upd h.f I v } x s k ((w.heap.size,61,#[.int .i64 0,.int .i64 0,.int .i64 0,.int .u64 0,.bool false,.bool false,.bool false,.bool false,.slice none 0 0])::(mb,96,muV L.hb t sb m)::E) D Q):=fun w' q=>q.state hS _
 have HAn:Hid (∀w',HM W w' L X { h with f:=upd h.f I v } x s k ((w.heap.size,61,#[.int .i64 0,.int .i64 0,.int .i64 0,.int .u64 0,.bool false,.bool false,.bool false,.bool false,.slice none 0 0])::(mb,96,muV L.hb t sb m)::E) D Q→Calls Tryz.prog 42 #[.pointer (some ⟨mb,0,none⟩),.agg #[.int .i64 0,.int .i64 0,.int .i64 0,.int .u64 0,.bool false]] w' fun e w''=>e=.returned (.agg #[.int .i64 (t:Int),.int .i64 (m.dn:Int),.int .i64 0,.int .u64 0,.bool false,.bool true,.bool false,.bool false,.slice none 0 0])∧HM W w'' L X { h with f:=upd h.f I v } x s k ((mb,96,muV L.hb t sb (MU.zero (m.dn+1)))::(w.heap.size,61,#[.int .i64 0,.int .i64 0,.int .i64 0,.int .u64 0,.bool false,.bool false,.bool false,.bool false,.slice none 0 0])::E) D Q):=fun w' q=>HM.answer hS hT q.swap (hneR _) hd 0 0 ⟨0,0,false⟩
 have HNt:Hid (∀w' E',HM W w' L X { h with f:=upd h.f I v } x s k E' D Q→Calls Tryz.prog 59 #[.agg #[.int .i64 h.g.words,.int .i64 h.g.rw,.int .i64 h.g.cw,.int .i64 h.g.regions,.int .i64 h.g.cards,.int .i64 h.g.max],.int .i64 (h.stateOf (h.g.regionOf (I:Int))),.int .i64 (I:Int),.int .u64 (v:Int)] w' fun e w''=>e=.returned (.bool true)∧HM W w'' L X { h with f:=upd h.f I v } x s k E' D Q):=fun w' E' q=>by
  have:=HM.noted (h:={ h with f:=upd h.f I v }) hS q (h.stateOf (h.g.regionOf (I:Int))) (I:Int) (v:Int)
  rw [hnb]at this
  exact this
 have HCe:Hid (∀w' h' E',h'.g=h.g→h'.T=h.T→HM W w' L X h' x s k E' D Q→w'.cell? ⟨L.hb,14,none⟩=some (.int .i64 h.g.words)∧w'.cell? ⟨L.hb,15,none⟩=some (.int .i64 h.g.rw)∧w'.cell? ⟨L.hb,16,none⟩=some (.int .i64 h.g.cw)∧w'.cell? ⟨L.hb,17,none⟩=some (.int .i64 h.g.regions)∧w'.cell? ⟨L.hb,18,none⟩=some (.int .i64 h.g.cards)∧w'.cell? ⟨L.hb,19,none⟩=some (.int .i64 h.g.max)∧w'.cell? ⟨L.hb,21,none⟩=some (.pointer (some ⟨L.tb,0,none⟩))∧L.hb<w'.heap.size):=fun w' h' E' e1 e2 q=>by
  obtain⟨d14,d15,d16,d17,d18,d19,-,d21,-,-,-,-,-,-,-,dh⟩:=q.hc
  rw [e1]at d14 d15 d16 d17 d18 d19
  exact⟨d14,d15,d16,d17,d18,d19,d21,dh⟩
 have HPu:Hid (∀w' E' a0 a1 a2 a3 a4 a5 a6,(∀q,q∈E'→q.1≠mb)→HM W w' L X { h with f:=upd h.f I v } x s k ((mb,96,muV L.hb t sb (MU.zero (m.dn+1)))::E') D Q→HM W (put7 w' mb (.int .i64 a0) (.int .i64 a1) (.int .i64 a2) (.int .i64 a3) (.int .u64 a4) (.int .i64 a5) (.int .i64 a6)) L X { h with f:=upd h.f I v } x s k ((mb,96,muV L.hb t sb ⟨m.dn+1,a0,a1,a2,a3,a4,a5,a6⟩)::E') D Q):=fun w' E' a0 a1 a2 a3 a4 a5 a6 hn q=>HM.oput hS hT q hn a0 a1 a2 a3 a4 a5 a6
 obtain⟨c0,c1,c2,c3,c4,c5,c6,c7,c8,c9,c10⟩:=muCells hmb
 have c20:=H.hc.c20
 have N20:L.hb<w.heap.size:=lt_of_cell c20
 rw [had]at c10
 have HNE:Hid (∀q,q∈((w.heap.size,61,#[.int .i64 0,.int .i64 0,.int .i64 0,.int .u64 0,.bool false,.bool false,.bool false,.bool false,.slice none 0 0])::E:Blks)→q.1≠mb):=hneR _
 have hl1:mb<w.heap.size+1:=by omega
 have j1:L.hb<w.heap.size+1:=by omega
 have n0:mb≠w.heap.size:=by omega
 have i0:L.hb≠w.heap.size:=by omega
 unfold resV
 clear H hmb hltE HX hne hneR hrm hrE had hI ht hd hc hv hv2 ec hnb
 generalize h.stateOf (h.g.regionOf (I:Int))=fs at *
 generalize h.g.regionOf (I:Int)=rg at *
 generalize hkAt (h.st t) m.c=rc at *
 go_enter Tryz.func33,Tryz.ntmps33
 go_wp2_with fail
 go_quiet (fail)
 go_wp2_with fail
 go_quiet ((first | (go_at_call 56;exact quiet_more_add (HSk.out _)) | (go_at_call 18;exact quiet_add_left (HAc.out _))))
 go_wp2_with fail
 refine(HSt.out _ (HF0.out _)).mono ?_
 rintro e w1 ⟨rfl,hA⟩
 obtain⟨d14,d15,d16,d17,d18,d19,d21,dh⟩:=HCe.out _ { h with f:=upd h.f I v } _ rfl rfl hA
 have HA1:=hide hA
 clear hA c0 c1 c2 c3 c4 c5 c6 c7 c8 c9 c10 c20 HF0 HSk HAc HSt
 have HA1d:=hide (HA1.out.fr0 hS (Fr.refl _ _).drew)
 have HKx:Hid (∀w',HM W w' L X { h with f:=upd h.f I v } x s k ((w.heap.size,61,#[.int .i64 0,.int .i64 0,.int .i64 0,.int .u64 0,.bool false,.bool false,.bool false,.bool false,.slice none 0 0])::(mb,96,muV L.hb t sb m)::E) D Q→w'.cell? ⟨L.hb,14,none⟩=some (.int .i64 h.g.words)∧w'.cell? ⟨L.hb,15,none⟩=some (.int .i64 h.g.rw)∧w'.cell? ⟨L.hb,16,none⟩=some (.int .i64 h.g.cw)∧w'.cell? ⟨L.hb,17,none⟩=some (.int .i64 h.g.regions)∧w'.cell? ⟨L.hb,18,none⟩=some (.int .i64 h.g.cards)∧w'.cell? ⟨L.hb,19,none⟩=some (.int .i64 h.g.max)∧w'.cell? ⟨L.hb,21,none⟩=some (.pointer (some ⟨L.tb,0,none⟩))):=fun w' q=>by
  obtain⟨d14,d15,d16,d17,d18,d19,d21,dh⟩:=HCe.out _ { h with f:=upd h.f I v } _ rfl rfl q
  exact⟨d14,d15,d16,d17,d18,d19,d21⟩
 have K0:=HKx.out _ HA1d.out
 go_wp2_with fail
 go_region_held3 (fun w'=>w'.cell? ⟨L.hb,14,none⟩=some (.int .i64 h.g.words)∧w'.cell? ⟨L.hb,15,none⟩=some (.int .i64 h.g.rw)∧w'.cell? ⟨L.hb,16,none⟩=some (.int .i64 h.g.cw)∧w'.cell? ⟨L.hb,17,none⟩=some (.int .i64 h.g.regions)∧w'.cell? ⟨L.hb,18,none⟩=some (.int .i64 h.g.cards)∧w'.cell? ⟨L.hb,19,none⟩=some (.int .i64 h.g.max)∧w'.cell? ⟨L.hb,21,none⟩=some (.pointer (some ⟨L.tb,0,none⟩)))
  (first | with_reducible exact K0 | go_keep)
  (first | (go_at_call 58;refine(HRe.out _ HA1d.out).mono ?_;rintro e w2 ⟨rfl,hA⟩;have HS2:=hide (HSa.out _ hA);replace K0:=HKx.out _ hA;clear hA) | (go_at_call 57;refine HS2.out.mono ?_;rintro e w3 ⟨rfl,hA⟩;have HAw:=hide (HAn.out _ hA);replace K0:=HKx.out _ hA;clear hA))
 all_goals
  clear d14 d15 d16 d17 d18 d19 d21 dh K0
  go_wp2_with fail
  refine HAw.out.mono ?_
  rintro e w4 ⟨rfl,hA⟩
  have hB:=hA.alloc hS 61 #[.int .i64 (t:Int),.int .i64 (m.dn:Int),.int .i64 0,.int .u64 0,.bool false,.bool true,.bool false,.bool false,.slice none 0 0]
  obtain⟨d14,d15,d16,d17,d18,d19,d21,dh⟩:=HCe.out _ { h with f:=upd h.f I v } _ rfl rfl hA
  have HB4:=hide (HNt.out _ _ hB)
  have hl4:=(hA.blk (List.mem_cons_self ..)).lt
  have hlr:=(hA.blk (List.mem_cons_of_mem _ (List.mem_cons_self ..))).lt
  have HL4:Hid (mb<w4.heap.size∧w.heap.size<w4.heap.size∧∀q,q∈E→q.1<w4.heap.size):=⟨hl4,hlr,fun q hq=>(hA.blk (b:=q.1) (t:=q.2.1) (cs:=q.2.2) (List.mem_cons_of_mem _ (List.mem_cons_of_mem _ hq))).lt⟩
  have m1:L.hb≠w4.heap.size:=by omega
  clear hA hB HAw
  go_wp2_with fail
  refine HB4.out.mono ?_
  rintro e w5 ⟨rfl,hA⟩
  have HA5:=hide hA
  have hr2:=hA.blk (List.mem_cons_self ..)
  have hrb:=hA.blk (List.mem_cons_of_mem _ (List.mem_cons_of_mem _ (List.mem_cons_self ..)))
  have u0:=hr2.cell 0
  have u1:=hr2.cell 1
  have u2:=hr2.cell 2
  have u3:=hr2.cell 3
  have u4:=hr2.cell 4
  have u5:=hr2.cell 5
  have u6:=hr2.cell 6
  have u7:=hr2.cell 7
  have u8:=hr2.cell 8
  have y0:=hrb.cell 0
  have y1:=hrb.cell 1
  have y2:=hrb.cell 2
  have y3:=hrb.cell 3
  have y4:=hrb.cell 4
  have y5:=hrb.cell 5
  have y6:=hrb.cell 6
  have y7:=hrb.cell 7
  have y8:=hrb.cell 8
  have z0:=hrb.frozen 0
  have z1:=hrb.frozen 1
  have z2:=hrb.frozen 2
  have z3:=hrb.frozen 3
  have z4:=hrb.frozen 4
  have z5:=hrb.frozen 5
  have z6:=hrb.frozen 6
  have z7:=hrb.frozen 7
  have z8:=hrb.frozen 8
  have NR:=hrb.lt
  have N2:=hr2.lt
  obtain⟨l1,l2,-⟩:=HL4.out
  have p1:w4.heap.size≠w.heap.size:=by omega
  have p2:mb≠w4.heap.size:=by omega
  have p3:mb≠w.heap.size:=by omega
  have hmb5:=hA.blk (List.mem_cons_of_mem _ (List.mem_cons_self ..))
  obtain⟨-,-,-,-,g4,g5,g6,g7,g8,g9,g10⟩:=muCells hmb5
  have gz4:=hmb5.frozen 4
  have gz5:=hmb5.frozen 5
  have gz6:=hmb5.frozen 6
  have gz7:=hmb5.frozen 7
  have gz8:=hmb5.frozen 8
  have gz9:=hmb5.frozen 9
  have gz10:=hmb5.frozen 10
  have u6z:=hr2.frozen 6
  clear hmb5
  clear hA hr2 hrb HB4 d14 d15 d16 d17 d18 d19 d21 dh
  go_wp2_with fail
  refine bodyPost_ret (v:=.agg #[.int .i64 (t:Int),.int .i64 (m.dn:Int),.int .i64 0,.int .u64 0,.bool false,.bool true,.bool true,.bool false,.slice none 0 0]) (by simp [results,Tryz.results33,go_sem, *]) rfl ⟨rfl,?_⟩
  have q1:=HPu.out _ _ 0 0 0 0 0 6 (I:Int) (fun q hq=>by
   simp only [List.mem_cons]at hq
   rcases hq with e | e | e
   ·rw [e];show w4.heap.size≠mb;omega
   ·rw [e];show w.heap.size≠mb;omega
   ·exact HNE.out q (List.mem_cons_of_mem _ e)) HA5.out.swap
  have q2:=HM.poke hS hT q1.swap (fun q hq=>by
   simp only [List.mem_cons]at hq
   rcases hq with e | e | e
   ·rw [e];show mb≠w4.heap.size;omega
   ·rw [e];show w.heap.size≠w4.heap.size;omega
   ·have:=HL4.out.2.2 q e;omega) 6 (.bool true)
  exact HEnd.out _ _ _ _ _ _ _ _ _ _ _ _ _ _ _ _ _ _ _ (q2.sub (fun y hy=>List.mem_cons_of_mem _ hy))
end
section
variable {W w w':World}{L:HL}{X:HX}{h h2:HS}{x x2:HT}{s k:Nat}{E:Blks}{D:Nat→Prop}{Q:World→Prop}{mb t sb:Nat}{m m':MU}{r0 r1 r2 r3:Int}{b4 b5 b6 b7:Bool}{A8:Option Addr}{n8 c8:Nat}
set_option maxHeartbeats 3200000 in
theorem mtuse_store(hS:Lives D Q)(hT:Tab W)(H:HM W w L X h x s k ((mb,96,muV L.hb t sb m)::E) D Q)(hne:∀q,q∈E→q.1≠mb)(hk:m.k=3){sv:Value}(hms:(sb,40,#[.bool false,sv])∈E)
  (hcall:∀w' E',(∀q,q∈E'→q.1≠mb)→(sb,40,#[.bool false,sv])∈E'→HM W w' L X h x s k ((mb,96,muV L.hb t sb m)::E') D Q→Calls Tryz.prog 33 #[.pointer (some ⟨mb,0,none⟩)] w' fun e w''=>e=.returned (.agg #[.int .i64 r0,.int .i64 r1,.int .i64 r2,.int .u64 r3,.bool b4,.bool b5,.bool b6,.bool b7,.slice A8 n8 c8])∧HM W w'' L X h2 x2 s k ((mb,96,muV L.hb t sb m')::E') D Q) :
  Calls Tryz.prog 32 #[.pointer (some ⟨mb,0,none⟩)] w fun e w'=>e=.returned (.agg #[.int .i64 r0,.int .i64 r1,.int .i64 r2,.int .u64 r3,.bool b4,.bool b5,.bool b6,.bool b7,.slice A8 n8 c8])∧HM W w' L X h2 x2 s k ((mb,96,muV L.hb t sb m')::E) D Q:=by
 have hmb:=H.blk (List.mem_cons_self ..)
 have hlt:=hmb.lt
 have hltE:∀q,q∈E→q.1<w.heap.size:=fun q hq=>(H.blk (b:=q.1) (t:=q.2.1) (cs:=q.2.2) (List.mem_cons_of_mem _ hq)).lt
 have hrm:w.heap.size≠mb:=by omega
 have hrE:∀q,q∈E→q.1≠w.heap.size:=fun q hq=>by have:=hltE q hq;omega
 have hneR:∀cs:Array Value,∀q,q∈((w.heap.size,61,cs)::E:Blks)→q.1≠mb:=fun cs q hq=>by
  rcases List.mem_cons.1 hq with rfl | hq
  ·exact hrm
  ·exact hne q hq
 have HX0:Hid (HM W (w.alloc (.cells #[.int .i64 0,.int .i64 0,.int .i64 0,.int .u64 0,.bool false,.bool false,.bool false,.bool false,.slice none 0 0] 61)) L X h x s k ((w.heap.size,61,#[.int .i64 0,.int .i64 0,.int .i64 0,.int .u64 0,.bool false,.bool false,.bool false,.bool false,.slice none 0 0])::(mb,96,muV L.hb t sb m)::E) D Q):=H.alloc hS 61 #[.int .i64 0,.int .i64 0,.int .i64 0,.int .u64 0,.bool false,.bool false,.bool false,.bool false,.slice none 0 0]
 have HEnd:Hid (∀w' a0 a1 a2 a3 a4 a5 a6 a7 a8 v0 v1 v2 v3 v4 v5 v6 v7 v8,HM W w' L X h2 x2 s k ((mb,96,muV L.hb t sb m')::(w.heap.size,61,#[a0,a1,a2,a3,a4,a5,a6,a7,a8])::E) D Q→HM W (put9 w' w.heap.size v0 v1 v2 v3 v4 v5 v6 v7 v8) L X h2 x2 s k ((mb,96,muV L.hb t sb m')::E) D Q):=fun w' a0 a1 a2 a3 a4 a5 a6 a7 a8 v0 v1 v2 v3 v4 v5 v6 v7 v8 q=>
  q.swap.res9 hS hT (fun y hy=>by
   rcases List.mem_cons.1 hy with rfl | hy
   ·exact fun e=>hrm e.symm
   ·exact hrE y hy) v0 v1 v2 v3 v4 v5 v6 v7 v8
 have q0:HM W (((w.alloc (.cells #[.int .i64 0,.int .i64 0,.int .i64 0,.int .u64 0,.bool false,.bool false,.bool false,.bool false,.slice none 0 0] 61)).alloc (.cells #[.int .i64 0,.int .i64 0,.int .i64 0,.int .u64 0,.bool false] 59)).alloc (.cells #[.int .i64 3,.int .i64 m.a,.int .i64 m.b,.int .i64 m.c,.int .u64 m.v] 44)).drew L X h x s k ((w.heap.size+1+1,44,#[.int .i64 3,.int .i64 m.a,.int .i64 m.b,.int .i64 m.c,.int .u64 m.v])::(w.heap.size+1,59,#[.int .i64 0,.int .i64 0,.int .i64 0,.int .u64 0,.bool false])::(w.heap.size,61,#[.int .i64 0,.int .i64 0,.int .i64 0,.int .u64 0,.bool false,.bool false,.bool false,.bool false,.slice none 0 0])::(mb,96,muV L.hb t sb m)::E) D Q:=by
  have q:=((HX0.out.alloc hS 59 #[.int .i64 0,.int .i64 0,.int .i64 0,.int .u64 0,.bool false]).alloc hS 44 #[.int .i64 3,.int .i64 m.a,.int .i64 m.b,.int .i64 m.c,.int .u64 m.v]).fr0 hS (Fr.refl _ _).drew
  rw [show((w.alloc (.cells #[.int .i64 0,.int .i64 0,.int .i64 0,.int .u64 0,.bool false,.bool false,.bool false,.bool false,.slice none 0 0] 61)).alloc (.cells #[.int .i64 0,.int .i64 0,.int .i64 0,.int .u64 0,.bool false] 59)).heap.size=w.heap.size+1+1 by simp,show(w.alloc (.cells #[.int .i64 0,.int .i64 0,.int .i64 0,.int .u64 0,.bool false,.bool false,.bool false,.bool false,.slice none 0 0] 61)).heap.size=w.heap.size+1 by simp]at q
  exact q
 have hn4:∀q,q∈((w.heap.size+1+1,44,#[.int .i64 3,.int .i64 m.a,.int .i64 m.b,.int .i64 m.c,.int .u64 m.v])::(w.heap.size+1,59,#[.int .i64 0,.int .i64 0,.int .i64 0,.int .u64 0,.bool false])::(w.heap.size,61,#[.int .i64 0,.int .i64 0,.int .i64 0,.int .u64 0,.bool false,.bool false,.bool false,.bool false,.slice none 0 0])::E:Blks)→q.1≠mb:=fun q hq=>by
  simp only [List.mem_cons]at hq
  rcases hq with e | e | e | e
  ·rw [e];show w.heap.size+1+1≠mb;omega
  ·rw [e];show w.heap.size+1≠mb;omega
  ·rw [e];exact hrm
  ·exact hne q e
 have HC:=hide (hcall _ _ hn4 (List.mem_cons_of_mem _ (List.mem_cons_of_mem _ (List.mem_cons_of_mem _ hms))) (q0.sub (fun y hy=>by simp only [List.mem_cons]at hy ⊢;rcases hy with e | e | e | e | e <;> simp [e])))
 have HDr:Hid (∀w',HM W w' L X h2 x2 s k ((mb,96,muV L.hb t sb m')::(w.heap.size+1+1,44,#[.int .i64 3,.int .i64 m.a,.int .i64 m.b,.int .i64 m.c,.int .u64 m.v])::(w.heap.size+1,59,#[.int .i64 0,.int .i64 0,.int .i64 0,.int .u64 0,.bool false])::(w.heap.size,61,#[.int .i64 0,.int .i64 0,.int .i64 0,.int .u64 0,.bool false,.bool false,.bool false,.bool false,.slice none 0 0])::E) D Q→HM W w' L X h2 x2 s k ((mb,96,muV L.hb t sb m')::(w.heap.size,61,#[.int .i64 0,.int .i64 0,.int .i64 0,.int .u64 0,.bool false,.bool false,.bool false,.bool false,.slice none 0 0])::E) D Q):=fun w' q=>q.sub (fun y hy=>by simp only [List.mem_cons]at hy ⊢;rcases hy with e | e | e <;> simp [e])
 have hsb:=H.blk (List.mem_cons_of_mem _ hms)
 have cs0:=hsb.cell 0
 have NS:=hsb.lt
 obtain⟨c0,c1,c2,c3,c4,c5,c6,c7,c8,c9,c10⟩:=muCells hmb
 rw [hk]at c4
 have hl1:mb<w.heap.size+1:=by omega
 have hl2:mb<w.heap.size+1+1:=by omega
 have n0:mb≠w.heap.size:=by omega
 have n1:mb≠w.heap.size+1:=by omega
 have n2:mb≠w.heap.size+1+1:=by omega
 have j1:sb<w.heap.size+1:=by omega
 have j2:sb<w.heap.size+1+1:=by omega
 have i0:sb≠w.heap.size:=by omega
 have i1:sb≠w.heap.size+1:=by omega
 have i2:sb≠w.heap.size+1+1:=by omega
 clear H hmb hltE HX0 hne hneR hrm hrE hk hcall hms hsb q0 hn4
 go_enter Tryz.func32,Tryz.ntmps32
 go_wp2_with fail
 go_region
 go_wp2_with fail
 refine HC.out.mono ?_
 rintro e w5 ⟨rfl,hA0⟩
 have hA:=HDr.out _ hA0
 clear hA0 c0 c1 c2 c3 c4 c5 c6 c7 c8 c9 c10 cs0 HC
 have HA5:=hide hA
 have hrb:=hA.blk (List.mem_cons_of_mem _ (List.mem_cons_self ..))
 have y0:=hrb.cell 0
 have y1:=hrb.cell 1
 have y2:=hrb.cell 2
 have y3:=hrb.cell 3
 have y4:=hrb.cell 4
 have y5:=hrb.cell 5
 have y6:=hrb.cell 6
 have y7:=hrb.cell 7
 have y8:=hrb.cell 8
 have z0:=hrb.frozen 0
 have z1:=hrb.frozen 1
 have z2:=hrb.frozen 2
 have z3:=hrb.frozen 3
 have z4:=hrb.frozen 4
 have z5:=hrb.frozen 5
 have z6:=hrb.frozen 6
 have z7:=hrb.frozen 7
 have z8:=hrb.frozen 8
 have NR:=hrb.lt
 clear hA hrb
 go_wp2_with fail
 refine bodyPost_ret (v:=.agg #[.int .i64 r0,.int .i64 r1,.int .i64 r2,.int .u64 r3,.bool b4,.bool b5,.bool b6,.bool b7,.slice A8 n8 c8]) (by simp [results,Tryz.results32,go_sem, *]) rfl ⟨rfl,?_⟩
 exact HEnd.out _ _ _ _ _ _ _ _ _ _ _ _ _ _ _ _ _ _ _ HA5.out
set_option maxHeartbeats 3200000 in
theorem mtuse_log(hS:Lives D Q)(hT:Tab W)(H:HM W w L X h x s k ((mb,96,muV L.hb t sb m)::E) D Q)(hne:∀q,q∈E→q.1≠mb)(hk:m.k=3){sv:Value}(hms:(sb,40,#[.bool true,sv])∈E)
  (hcall:∀w' E',(∀q,q∈E'→q.1≠mb)→(sb,40,#[.bool true,sv])∈E'→HM W w' L X h x s k ((mb,96,muV L.hb t sb m)::E') D Q→Calls Tryz.prog 53 #[.pointer (some ⟨mb,0,none⟩)] w' fun e w''=>e=.returned (.agg #[.int .i64 r0,.int .i64 r1,.int .i64 r2,.int .u64 r3,.bool b4,.bool b5,.bool b6,.bool b7,.slice A8 n8 c8])∧HM W w'' L X h2 x2 s k ((mb,96,muV L.hb t sb m')::E') D Q) :
  Calls Tryz.prog 32 #[.pointer (some ⟨mb,0,none⟩)] w fun e w'=>e=.returned (.agg #[.int .i64 r0,.int .i64 r1,.int .i64 r2,.int .u64 r3,.bool b4,.bool b5,.bool b6,.bool b7,.slice A8 n8 c8])∧HM W w' L X h2 x2 s k ((mb,96,muV L.hb t sb m')::E) D Q:=by
 have hmb:=H.blk (List.mem_cons_self ..)
 have hlt:=hmb.lt
 have hltE:∀q,q∈E→q.1<w.heap.size:=fun q hq=>(H.blk (b:=q.1) (t:=q.2.1) (cs:=q.2.2) (List.mem_cons_of_mem _ hq)).lt
 have hrm:w.heap.size≠mb:=by omega
 have hrE:∀q,q∈E→q.1≠w.heap.size:=fun q hq=>by have:=hltE q hq;omega
 have hneR:∀cs:Array Value,∀q,q∈((w.heap.size,61,cs)::E:Blks)→q.1≠mb:=fun cs q hq=>by
  rcases List.mem_cons.1 hq with rfl | hq
  ·exact hrm
  ·exact hne q hq
 have HX0:Hid (HM W (w.alloc (.cells #[.int .i64 0,.int .i64 0,.int .i64 0,.int .u64 0,.bool false,.bool false,.bool false,.bool false,.slice none 0 0] 61)) L X h x s k ((w.heap.size,61,#[.int .i64 0,.int .i64 0,.int .i64 0,.int .u64 0,.bool false,.bool false,.bool false,.bool false,.slice none 0 0])::(mb,96,muV L.hb t sb m)::E) D Q):=H.alloc hS 61 #[.int .i64 0,.int .i64 0,.int .i64 0,.int .u64 0,.bool false,.bool false,.bool false,.bool false,.slice none 0 0]
 have HEnd:Hid (∀w' a0 a1 a2 a3 a4 a5 a6 a7 a8 v0 v1 v2 v3 v4 v5 v6 v7 v8,HM W w' L X h2 x2 s k ((mb,96,muV L.hb t sb m')::(w.heap.size,61,#[a0,a1,a2,a3,a4,a5,a6,a7,a8])::E) D Q→HM W (put9 w' w.heap.size v0 v1 v2 v3 v4 v5 v6 v7 v8) L X h2 x2 s k ((mb,96,muV L.hb t sb m')::E) D Q):=fun w' a0 a1 a2 a3 a4 a5 a6 a7 a8 v0 v1 v2 v3 v4 v5 v6 v7 v8 q=>
  q.swap.res9 hS hT (fun y hy=>by
   rcases List.mem_cons.1 hy with rfl | hy
   ·exact fun e=>hrm e.symm
   ·exact hrE y hy) v0 v1 v2 v3 v4 v5 v6 v7 v8
 have q0:HM W (((w.alloc (.cells #[.int .i64 0,.int .i64 0,.int .i64 0,.int .u64 0,.bool false,.bool false,.bool false,.bool false,.slice none 0 0] 61)).alloc (.cells #[.int .i64 0,.int .i64 0,.int .i64 0,.int .u64 0,.bool false] 59)).alloc (.cells #[.int .i64 3,.int .i64 m.a,.int .i64 m.b,.int .i64 m.c,.int .u64 m.v] 44)).drew L X h x s k ((w.heap.size+1+1,44,#[.int .i64 3,.int .i64 m.a,.int .i64 m.b,.int .i64 m.c,.int .u64 m.v])::(w.heap.size+1,59,#[.int .i64 0,.int .i64 0,.int .i64 0,.int .u64 0,.bool false])::(w.heap.size,61,#[.int .i64 0,.int .i64 0,.int .i64 0,.int .u64 0,.bool false,.bool false,.bool false,.bool false,.slice none 0 0])::(mb,96,muV L.hb t sb m)::E) D Q:=by
  have q:=((HX0.out.alloc hS 59 #[.int .i64 0,.int .i64 0,.int .i64 0,.int .u64 0,.bool false]).alloc hS 44 #[.int .i64 3,.int .i64 m.a,.int .i64 m.b,.int .i64 m.c,.int .u64 m.v]).fr0 hS (Fr.refl _ _).drew
  rw [show((w.alloc (.cells #[.int .i64 0,.int .i64 0,.int .i64 0,.int .u64 0,.bool false,.bool false,.bool false,.bool false,.slice none 0 0] 61)).alloc (.cells #[.int .i64 0,.int .i64 0,.int .i64 0,.int .u64 0,.bool false] 59)).heap.size=w.heap.size+1+1 by simp,show(w.alloc (.cells #[.int .i64 0,.int .i64 0,.int .i64 0,.int .u64 0,.bool false,.bool false,.bool false,.bool false,.slice none 0 0] 61)).heap.size=w.heap.size+1 by simp]at q
  exact q
 have hn4:∀q,q∈((w.heap.size+1+1,44,#[.int .i64 3,.int .i64 m.a,.int .i64 m.b,.int .i64 m.c,.int .u64 m.v])::(w.heap.size+1,59,#[.int .i64 0,.int .i64 0,.int .i64 0,.int .u64 0,.bool false])::(w.heap.size,61,#[.int .i64 0,.int .i64 0,.int .i64 0,.int .u64 0,.bool false,.bool false,.bool false,.bool false,.slice none 0 0])::E:Blks)→q.1≠mb:=fun q hq=>by
  simp only [List.mem_cons]at hq
  rcases hq with e | e | e | e
  ·rw [e];show w.heap.size+1+1≠mb;omega
  ·rw [e];show w.heap.size+1≠mb;omega
  ·rw [e];exact hrm
  ·exact hne q e
 have HC:=hide (hcall _ _ hn4 (List.mem_cons_of_mem _ (List.mem_cons_of_mem _ (List.mem_cons_of_mem _ hms))) (q0.sub (fun y hy=>by simp only [List.mem_cons]at hy ⊢;rcases hy with e | e | e | e | e <;> simp [e])))
 have HDr:Hid (∀w',HM W w' L X h2 x2 s k ((mb,96,muV L.hb t sb m')::(w.heap.size+1+1,44,#[.int .i64 3,.int .i64 m.a,.int .i64 m.b,.int .i64 m.c,.int .u64 m.v])::(w.heap.size+1,59,#[.int .i64 0,.int .i64 0,.int .i64 0,.int .u64 0,.bool false])::(w.heap.size,61,#[.int .i64 0,.int .i64 0,.int .i64 0,.int .u64 0,.bool false,.bool false,.bool false,.bool false,.slice none 0 0])::E) D Q→HM W w' L X h2 x2 s k ((mb,96,muV L.hb t sb m')::(w.heap.size,61,#[.int .i64 0,.int .i64 0,.int .i64 0,.int .u64 0,.bool false,.bool false,.bool false,.bool false,.slice none 0 0])::E) D Q):=fun w' q=>q.sub (fun y hy=>by simp only [List.mem_cons]at hy ⊢;rcases hy with e | e | e <;> simp [e])
 have hsb:=H.blk (List.mem_cons_of_mem _ hms)
 have cs0:=hsb.cell 0
 have NS:=hsb.lt
 obtain⟨c0,c1,c2,c3,c4,c5,c6,c7,c8,c9,c10⟩:=muCells hmb
 rw [hk]at c4
 have hl1:mb<w.heap.size+1:=by omega
 have hl2:mb<w.heap.size+1+1:=by omega
 have n0:mb≠w.heap.size:=by omega
 have n1:mb≠w.heap.size+1:=by omega
 have n2:mb≠w.heap.size+1+1:=by omega
 have j1:sb<w.heap.size+1:=by omega
 have j2:sb<w.heap.size+1+1:=by omega
 have i0:sb≠w.heap.size:=by omega
 have i1:sb≠w.heap.size+1:=by omega
 have i2:sb≠w.heap.size+1+1:=by omega
 clear H hmb hltE HX0 hne hneR hrm hrE hk hcall hms hsb q0 hn4
 go_enter Tryz.func32,Tryz.ntmps32
 go_wp2_with fail
 go_region
 go_wp2_with fail
 refine HC.out.mono ?_
 rintro e w5 ⟨rfl,hA0⟩
 have hA:=HDr.out _ hA0
 clear hA0 c0 c1 c2 c3 c4 c5 c6 c7 c8 c9 c10 cs0 HC
 have HA5:=hide hA
 have hrb:=hA.blk (List.mem_cons_of_mem _ (List.mem_cons_self ..))
 have y0:=hrb.cell 0
 have y1:=hrb.cell 1
 have y2:=hrb.cell 2
 have y3:=hrb.cell 3
 have y4:=hrb.cell 4
 have y5:=hrb.cell 5
 have y6:=hrb.cell 6
 have y7:=hrb.cell 7
 have y8:=hrb.cell 8
 have z0:=hrb.frozen 0
 have z1:=hrb.frozen 1
 have z2:=hrb.frozen 2
 have z3:=hrb.frozen 3
 have z4:=hrb.frozen 4
 have z5:=hrb.frozen 5
 have z6:=hrb.frozen 6
 have z7:=hrb.frozen 7
 have z8:=hrb.frozen 8
 have NR:=hrb.lt
 clear hA hrb
 go_wp2_with fail
 refine bodyPost_ret (v:=.agg #[.int .i64 r0,.int .i64 r1,.int .i64 r2,.int .u64 r3,.bool b4,.bool b5,.bool b6,.bool b7,.slice A8 n8 c8]) (by simp [results,Tryz.results32,go_sem, *]) rfl ⟨rfl,?_⟩
 exact HEnd.out _ _ _ _ _ _ _ _ _ _ _ _ _ _ _ _ _ _ _ HA5.out
end
end Go.Proofs.YtfcjdinlcehpmaaGreatDoor
