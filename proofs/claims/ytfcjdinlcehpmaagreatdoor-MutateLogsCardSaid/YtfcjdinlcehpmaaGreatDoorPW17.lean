/- Several texts joined (pack.py): Ud Ue Yz Za. -/
import Derived.Test.YtfcjdinlcehpmaaGreatDoorPW16
import Derived.WalkKit
import Derived.BigQuiet
import Derived.Deep.CutRange
import Derived.Deep.RegionHeld3
namespace Go.Proofs.YtfcjdinlcehpmaaGreatDoor
set_option linter.unusedVariables false
set_option linter.unusedSimpArgs false
set_option maxRecDepth 100000
open Go.RowKit Go.Gl HS
section
variable {W w w':World}{L:HL}{X:HX}{h:HS}{x:HT}{s k:Nat}{E:Blks}{D:Nat→Prop}{Q:World→Prop}{mb t sb:Nat}{m:MU}
noncomputable def dropT (h:HS) (i:Nat):Nat→Int:=if h.bx i<h.be i then put1 h.t (h.g.regionOf (h.bx i)).toNat (h.bx i) else h.t
noncomputable def dropH (h:HS) (i:Nat):HS:={ h with t:=dropT h i,bx:=put1 h.bx i 0,be:=put1 h.be i 0 }
set_option maxHeartbeats 1600000 in
theorem mtretire_any(hS:Lives D Q)(H:HM W w L X h x s k E D Q)(hm:(mb,96,muV L.hb t sb m)∈E)(ht:t<h.T)(hB:h.BufIn) :
  Calls Tryz.prog 105 #[.pointer (some ⟨mb,0,none⟩)] w fun e w'=>e=.returned (.tuple #[])∧HM W w' L X (dropH h t) x s k E D Q:=by
 have ok:=H.ok
 have HMu:Hid (∀w' h' x',HM W w' L X h' x' s k E D Q→w'.cell? ⟨mb,0,none⟩=some (.pointer (some ⟨L.hb,0,none⟩))∧w'.cell? ⟨mb,1,none⟩=some (.int .i64 (t:Int))):=fun w' h' x' q=>by
  have hb:=q.blk hm
  exact⟨hb.cell 0,hb.cell 1⟩
 have HAd:=hide (H.fr0 hS (Fr.refl _ _).drew)
 have HDr:Hid (∀w',HM W w' L X h x s k E D Q→Calls Tryz.prog 118 #[.pointer (some ⟨L.bb,t*2,none⟩)] w' fun e w''=>e=.returned (.tuple #[.int .i64 (h.bx t),.int .i64 (h.be t)])∧HM W w'' L X { h with bx:=put1 h.bx t 0,be:=put1 h.be t 0 } x s k E D Q):=fun w' q=>q.bdrop hS ht
 have HCe:Hid (∀w' a b c,HM W w' L X { h with t:=a,bx:=b,be:=c } x s k E D Q→Hcells w' L X h.g h.T):=fun w' a b c q=>q.hc
 have HC0:Hid (∀w',HM W w' L X h x s k E D Q→Hcells w' L X h.g h.T):=fun w' q=>q.hc
 have HRg:Hid (∀w' a b c z,HM W w' L X { h with t:=a,bx:=b,be:=c } x s k E D Q→Calls Tryz.prog 58 #[.agg #[.int .i64 h.g.words,.int .i64 h.g.rw,.int .i64 h.g.cw,.int .i64 h.g.regions,.int .i64 h.g.cards,.int .i64 h.g.max],.int .i64 z] w' fun e w''=>e=.returned (.int .i64 (h.g.regionOf z))∧HM W w'' L X { h with t:=a,bx:=b,be:=c } x s k E D Q):=fun w' a b c z q=>q.region hS z
 have HIn:Hid (h.bx t<h.be t→∃r:Nat,h.g.regionOf (h.bx t)=(r:Int)∧r<h.R∧Filled (h.s r)∧((r*h.W:Nat):Int)≤h.bx t∧h.bx t≤((r*h.W+h.W:Nat):Int)):=fun e=>by
  obtain⟨r,r1,r2,r3,r4⟩:=hB t ht e
  exact⟨r,ok.reg r1 r3 (by omega),r1,r2,r3,by omega⟩
 have HTp:Hid (∀w' b c (r:Nat) z,r<h.R→Filled (h.s r)→((r*h.W:Nat):Int)≤z→z≤((r*h.W+h.W:Nat):Int)→HM W w' L X { h with bx:=b,be:=c } x s k E D Q→Calls Tryz.prog 119 #[.pointer (some ⟨L.tb,0,none⟩),.int .i64 (r:Int),.int .i64 z] w' fun e w''=>e=.returned (.int .i64 0)∧HM W w'' L X { h with t:=put1 h.t r z,bx:=b,be:=c } x s k E D Q):=fun w' b c r z h1 h2 h3 h4 q=>q.setTop hS h1 h2 h3 h4
 have HOut:Hid (dropH h t={ h with t:=dropT h t,bx:=put1 h.bx t 0,be:=put1 h.be t 0 }):=rfl
 have HDt:Hid (dropT h t=if h.bx t<h.be t then put1 h.t (h.g.regionOf (h.bx t)).toNat (h.bx t) else h.t):=rfl
 have ht1:(t:Int)<(h.T:Int):=by omega
 obtain⟨k0,k1⟩:=HMu.out _ _ _ HAd.out
 have c28:=(HC0.out _ HAd.out).c28
 have K0:w.drew.cell? ⟨mb,0,none⟩=some (.pointer (some ⟨L.hb,0,none⟩))∧w.drew.cell? ⟨mb,1,none⟩=some (.int .i64 (t:Int))∧w.drew.cell? ⟨L.hb,28,none⟩=some (.slice (some ⟨L.bb,0,none⟩) h.T h.T):=⟨k0,k1,c28⟩
 have HK:Hid (∀w' h',h'.T=h.T→HM W w' L X h' x s k E D Q→w'.cell? ⟨mb,0,none⟩=some (.pointer (some ⟨L.hb,0,none⟩))∧w'.cell? ⟨mb,1,none⟩=some (.int .i64 (t:Int))∧w'.cell? ⟨L.hb,28,none⟩=some (.slice (some ⟨L.bb,0,none⟩) h.T h.T)):=fun w' h' e q=>by
  have hb:=q.blk hm
  have:=q.hc.c28
  rw [e]at this
  exact⟨hb.cell 0,hb.cell 1,this⟩
 clear H hB ok ht hm k0 k1 c28
 generalize h.bx t=y0 at *
 generalize h.be t=y1 at *
 go_enter Tryz.func105,Tryz.ntmps105
 go_wp2_with fail
 go_region_held3 (fun w'=>w'.cell? ⟨mb,0,none⟩=some (.pointer (some ⟨L.hb,0,none⟩))∧w'.cell? ⟨mb,1,none⟩=some (.int .i64 (t:Int))∧w'.cell? ⟨L.hb,28,none⟩=some (.slice (some ⟨L.bb,0,none⟩) h.T h.T))
  (first | with_reducible exact K0 | go_keep)
  (first | (go_at_call 118;refine(HDr.out _ HAd.out).mono ?_;rintro e w1 ⟨rfl,hA⟩;have HA1:=hide hA;have K0:=HK.out _ { h with bx:=put1 h.bx t 0,be:=put1 h.be t 0 } rfl hA;clear hA))
 clear K0 HAd HDr
 by_cases hxy:y0<y1
 ·obtain⟨r,er,r1,r2,r3,r4⟩:=HIn.out hxy
  have HR:=hide (And.intro r1 (And.intro r2 (And.intro r3 r4)))
  have HDt2:Hid (dropT h t=put1 h.t r y0):=hide (by rw [HDt.out,if_pos hxy,er];rfl)
  clear r1 r2 r3 r4 HIn HDt
  go_wp2_with fail
  have HAd:=hide (HA1.out.fr0 hS (Fr.refl _ _).drew)
  have HK8:Hid (∀w',HM W w' L X { h with bx:=put1 h.bx t 0,be:=put1 h.be t 0 } x s k E D Q→w'.cell? ⟨mb,0,none⟩=some (.pointer (some ⟨L.hb,0,none⟩))∧w'.cell? ⟨L.hb,14,none⟩=some (.int .i64 h.g.words)∧w'.cell? ⟨L.hb,15,none⟩=some (.int .i64 h.g.rw)∧w'.cell? ⟨L.hb,16,none⟩=some (.int .i64 h.g.cw)∧w'.cell? ⟨L.hb,17,none⟩=some (.int .i64 h.g.regions)∧w'.cell? ⟨L.hb,18,none⟩=some (.int .i64 h.g.cards)∧w'.cell? ⟨L.hb,19,none⟩=some (.int .i64 h.g.max)∧w'.cell? ⟨L.hb,21,none⟩=some (.pointer (some ⟨L.tb,0,none⟩))):=fun w' q=>by
   have hb:=(HMu.out _ _ _ q).1
   obtain⟨a1,a2,a3,a4,a5,a6,a7,a8,a9,a10,a11,a12,a13,a14,a15,a16⟩:=HCe.out _ _ _ _ q
   exact⟨hb,a1,a2,a3,a4,a5,a6,a8⟩
  have HK9:Hid (∀w',HM W w' L X { h with t:=put1 h.t r y0,bx:=put1 h.bx t 0,be:=put1 h.be t 0 } x s k E D Q→w'.cell? ⟨mb,0,none⟩=some (.pointer (some ⟨L.hb,0,none⟩))∧w'.cell? ⟨L.hb,14,none⟩=some (.int .i64 h.g.words)∧w'.cell? ⟨L.hb,15,none⟩=some (.int .i64 h.g.rw)∧w'.cell? ⟨L.hb,16,none⟩=some (.int .i64 h.g.cw)∧w'.cell? ⟨L.hb,17,none⟩=some (.int .i64 h.g.regions)∧w'.cell? ⟨L.hb,18,none⟩=some (.int .i64 h.g.cards)∧w'.cell? ⟨L.hb,19,none⟩=some (.int .i64 h.g.max)∧w'.cell? ⟨L.hb,21,none⟩=some (.pointer (some ⟨L.tb,0,none⟩))):=fun w' q=>by
   have hb:=(HMu.out _ _ _ q).1
   obtain⟨a1,a2,a3,a4,a5,a6,a7,a8,a9,a10,a11,a12,a13,a14,a15,a16⟩:=HCe.out _ _ _ _ q
   exact⟨hb,a1,a2,a3,a4,a5,a6,a8⟩
  have K0:=HK8.out _ HAd.out
  have HRD:=hide (fun w' q=>HRg.out w' h.t (put1 h.bx t 0) (put1 h.be t 0) y0 q)
  rw [er]at HRD
  have HSet:=hide (fun w' q=>HTp.out w' (put1 h.bx t 0) (put1 h.be t 0) r y0 HR.out.1 HR.out.2.1 HR.out.2.2.1 HR.out.2.2.2 q)
  clear er hxy
  go_region_held3 (fun w'=>w'.cell? ⟨mb,0,none⟩=some (.pointer (some ⟨L.hb,0,none⟩))∧w'.cell? ⟨L.hb,14,none⟩=some (.int .i64 h.g.words)∧w'.cell? ⟨L.hb,15,none⟩=some (.int .i64 h.g.rw)∧w'.cell? ⟨L.hb,16,none⟩=some (.int .i64 h.g.cw)∧w'.cell? ⟨L.hb,17,none⟩=some (.int .i64 h.g.regions)∧w'.cell? ⟨L.hb,18,none⟩=some (.int .i64 h.g.cards)∧w'.cell? ⟨L.hb,19,none⟩=some (.int .i64 h.g.max)∧w'.cell? ⟨L.hb,21,none⟩=some (.pointer (some ⟨L.tb,0,none⟩)))
   (first | with_reducible exact K0 | go_keep)
   (first | (go_at_call 58;refine(HRD.out _ HAd.out).mono ?_;rintro e w3 ⟨rfl,hA⟩;replace HAd:=hide hA;have K0:=HK8.out _ hA;clear hA) | (go_at_call 119;refine(HSet.out _ HAd.out).mono ?_;rintro e w4 ⟨rfl,hA⟩;have HA2:=hide hA;have K0:=HK9.out _ hA;clear hA))
  all_goals
   go_wp2_with fail
   go_end0
   refine⟨rfl,?_⟩
   rw [HOut.out,HDt2.out]
   exact HA2.out
 ·have HDt2:Hid (dropT h t=h.t):=hide (by rw [HDt.out,if_neg hxy])
  clear HIn HDt
  go_wp2_with fail
  go_end0
  refine⟨rfl,?_⟩
  rw [HOut.out,HDt2.out]
  exact HA1.out
end
section
variable {W w w':World}{L:HL}{X:HX}{h:HS}{x:HT}{s k:Nat}{E:Blks}{D:Nat→Prop}{Q:World→Prop}{mb t sb:Nat}{m:MU}
theorem HM.rlist(hS:Lives D Q)(H:HM W w L X h x s k E D Q)(y:Int) :
  Calls Tryz.prog 120 #[.pointer (some ⟨L.tb,0,none⟩),.int .i64 y] w fun e w'=>(∃A c,e=.returned (.slice A (those h.s y h.R).length c))∧HM W w' L X h x s k E D Q:=
 H.see hS fun own ⟨tg,FS,H⟩=>(rlist_any H.rg y).mono (by
  rintro e w' ⟨v,rfl,ho,hf⟩
  obtain⟨A,c,rfl,_⟩:=Sl.own ho
  exact⟨⟨A,c,rfl⟩,hf⟩)
theorem HM.take(hS:Lives D Q)(H:HM W w L X h x s k E D Q){y:Int}(hy:Filled y){j:Nat}(hl:LowFree h.s h.R j) :
  Calls Tryz.prog 121 #[.pointer (some ⟨L.tb,0,none⟩),.int .i64 y] w fun e w'=>e=.returned (.tuple #[.int .i64 (j:Int),.int .i64 0])∧HM W w' L X { h with s:=put1 h.s j y } x s k E D Q:=
 H.post hS fun own q=>q.claim hy hl
theorem HM.take_no(hS:Lives D Q)(H:HM W w L X h x s k E D Q){y:Int}(hy:Filled y)(hl:NoneFree h.s h.R) :
  Calls Tryz.prog 121 #[.pointer (some ⟨L.tb,0,none⟩),.int .i64 y] w fun e w'=>e=.returned (.tuple #[.int .i64 0,.int .i64 6])∧HM W w' L X h x s k E D Q:=
 H.see hS fun own ⟨tg,FS,H⟩=>(claim_full H.rg hy hl).mono (by rintro e w' ⟨rfl,rfl⟩;exact⟨rfl,Fr.refl _ _⟩)
theorem HM.young(H:HM W w L X h x s k E D Q):w.cell? ⟨L.hb,7,none⟩=some (.int .i64 L.cfg.young):=H.hr.st.cell 7
def fillH(h:HS)(i j:Nat):HS:={ h with s:=put1 h.s j 1,t:=put1 h.t j ((j*h.W+h.W:Nat):Int),bx:=put1 h.bx i ((j*h.W:Nat):Int),be:=put1 h.be i ((j*h.W+h.W:Nat):Int) }
set_option maxHeartbeats 1600000 in
theorem mtrefill_full(hS:Lives D Q)(H:HM W w L X h x s k E D Q)(hm:(mb,96,muV L.hb t sb m)∈E)(hy:((those h.s 1 h.R).length:Int)≥L.cfg.young) :
  Calls Tryz.prog 106 #[.pointer (some ⟨mb,0,none⟩)] w fun e w'=>e=.returned (.tuple #[])∧HM W w' L X h x s k E D Q:=by
 have HAd:=hide (H.fr0 hS (Fr.refl _ _).drew)
 have HL:=hide (fun w' (q:HM W w' L X h x s k E D Q)=>q.rlist hS 1)
 have HK:Hid (∀w',HM W w' L X h x s k E D Q→w'.cell? ⟨L.hb,21,none⟩=some (.pointer (some ⟨L.tb,0,none⟩))∧w'.cell? ⟨L.hb,7,none⟩=some (.int .i64 L.cfg.young)):=fun w' q=>⟨q.hc.c21,q.young⟩
 have k0:w.cell? ⟨mb,0,none⟩=some (.pointer (some ⟨L.hb,0,none⟩)):=(H.blk hm).cell 0
 have K0:=HK.out _ HAd.out
 have NH:=lt_of_cell K0.1
 have hwl:IntKind.i64.wrap ((those h.s 1 h.R).length:Int)=((those h.s 1 h.R).length:Int):=by
  have h1:(those h.s 1 h.R).length≤h.R:=by unfold those;exact Nat.le_trans (List.length_filter_le _ _) (by simp)
  have:=H.dim.r3
  exact IntWalk.i64_in _ ⟨by omega,by omega⟩
 have hyB:decide (((those h.s 1 h.R).length:Int)≥L.cfg.young)=true:=by simpa using hy
 have hyC:decide (L.cfg.young≤((those h.s 1 h.R).length:Int))=true:=by simpa using hy
 clear H hm
 generalize (those h.s 1 h.R).length=n9 at *
 generalize L.cfg.young=y9 at *
 go_enter Tryz.func106,Tryz.ntmps106
 go_wp2_with fail
 go_region_held3 (fun w'=>w'.cell? ⟨L.hb,21,none⟩=some (.pointer (some ⟨L.tb,0,none⟩))∧w'.cell? ⟨L.hb,7,none⟩=some (.int .i64 y9))
  (first | with_reducible exact K0 | go_keep)
  (first | (go_at_call 120;refine(HL.out _ HAd.out).mono ?_;rintro e w1 ⟨⟨A1,c1,rfl⟩,hA⟩;have HA1:=hide hA;have K0:=HK.out _ hA;clear hA))
 all_goals
  go_wp2_with fail
  exact bodyPost_ret (results_none rfl _ _ _) rfl ⟨rfl,HA1.out⟩
set_option maxHeartbeats 1600000 in
theorem mtrefill_none(hS:Lives D Q)(H:HM W w L X h x s k E D Q)(hm:(mb,96,muV L.hb t sb m)∈E)(hy:((those h.s 1 h.R).length:Int)<L.cfg.young)(hn:NoneFree h.s h.R) :
  Calls Tryz.prog 106 #[.pointer (some ⟨mb,0,none⟩)] w fun e w'=>e=.returned (.tuple #[])∧HM W w' L X h x s k E D Q:=by
 have HAd:=hide (H.fr0 hS (Fr.refl _ _).drew)
 have HL:=hide (fun w' (q:HM W w' L X h x s k E D Q)=>q.rlist hS 1)
 have HN:=hide (fun w' (q:HM W w' L X h x s k E D Q)=>q.take_no hS (y:=1) (.inl rfl) hn)
 have HK:Hid (∀w',HM W w' L X h x s k E D Q→w'.cell? ⟨L.hb,21,none⟩=some (.pointer (some ⟨L.tb,0,none⟩))∧w'.cell? ⟨L.hb,7,none⟩=some (.int .i64 L.cfg.young)):=fun w' q=>⟨q.hc.c21,q.young⟩
 have k0:w.cell? ⟨mb,0,none⟩=some (.pointer (some ⟨L.hb,0,none⟩)):=(H.blk hm).cell 0
 have K0:=HK.out _ HAd.out
 have NH:=lt_of_cell K0.1
 have hyB:decide (((those h.s 1 h.R).length:Int)≥L.cfg.young)=false:=by simpa using hy
 have hyC:decide (L.cfg.young≤((those h.s 1 h.R).length:Int))=false:=by simpa using hy
 clear H hm hn
 generalize (those h.s 1 h.R).length=n9 at *
 generalize L.cfg.young=y9 at *
 go_enter Tryz.func106,Tryz.ntmps106
 go_wp2_with fail
 go_region_held3 (fun w'=>w'.cell? ⟨L.hb,21,none⟩=some (.pointer (some ⟨L.tb,0,none⟩))∧w'.cell? ⟨L.hb,7,none⟩=some (.int .i64 y9))
  (first | with_reducible exact K0 | go_keep)
  (first | (go_at_call 120;refine(HL.out _ HAd.out).mono ?_;rintro e w1 ⟨⟨A1,c1,rfl⟩,hA⟩;have HA1:=hide hA;have K0:=HK.out _ hA;clear hA))
 all_goals
  have k21:=(HK.out _ HA1.out).1
  have NH1:=lt_of_cell k21
  have HN1:=hide (HN.out _ HA1.out)
  clear k0
  go_wp2_with fail
  refine HN1.out.mono ?_
  rintro e w2 ⟨rfl,hA⟩
  have HA2:=hide hA
  clear hA k21 NH1
  go_wp2_with fail
  exact bodyPost_ret (results_none rfl _ _ _) rfl ⟨rfl,HA2.out⟩
end
def HS.Used(h:HS)(u:Nat):Prop:=u<h.n∧h.s (u / h.W)≠0∧(u:Int)<h.t (u / h.W)∧∀i,i<h.T→¬ (h.bx i≤(u:Int)∧(u:Int)<h.be i)
def osz(σ:GS)(o:Nat):Nat:=1+σ.np (o:Int)+σ.nw (o:Int)
theorem osz_pos(σ:GS)(o:Nat):1≤osz σ o:=by unfold osz;omega
def HS.Lies(h:HS)(a z:Nat):Prop:=
 ((h.s (a / h.W)=1∨h.s (a / h.W)=2∨h.s (a / h.W)=3)∧a+z≤a / h.W*h.W+h.W) ∨
 (h.s (a / h.W)=4∧a=a / h.W*h.W∧∀i,1≤i→i*h.W<z→a / h.W+i<h.R∧h.s (a / h.W+i)=5)
theorem HS.Lies.up{h h':HS}{a z:Nat}(l:h.Lies a z)(eW:h'.W=h.W)(eR:h'.R=h.R)(hs:∀q,h.s q≠0→h'.s q=h.s q):h'.Lies a z:=by
 unfold HS.Lies
 rw [eW,eR]
 rcases l with⟨l1,l2⟩ | ⟨l1,l2,l3⟩
 ·refine .inl ⟨?_,l2⟩
  rw [hs _ (by omega)]
  exact l1
 ·refine .inr ⟨by rw [hs _ (by omega)];exact l1,l2,fun i h1 h2=>?_⟩
  obtain⟨k1,k2⟩:=l3 i h1 h2
  exact⟨k1,by rw [hs _ (by omega)];exact k2⟩
structure RestZ(h:HS)(σ:GS)(A:Nat→Nat)(rv:Nat→Option (Nat×Nat))(Zs:List (Nat×Nat×Nat)):Prop where
 hdr:∀a z P,(a,z,P)∈Zs→h.f a=objW z P∧P<z∧z≤1048576∧∀j,j<P→h.f (a+1+j)=0
 use:∀a z P,(a,z,P)∈Zs→∀u,a≤u→u<a+z→h.Used u
 dis:∀a z P,(a,z,P)∈Zs→∀o,1≤o→o≤σ.N→∀u,a≤u→u<a+z→¬ (A o≤u∧u<A o+osz σ o)
 rdi:∀a z P,(a,z,P)∈Zs→∀i,i<h.T→∀b y,rv i=some (b,y)→∀u,a≤u→u<a+z→¬ (b≤u∧u<b+y)
 one:∀a z P b y Q,(a,z,P)∈Zs→(b,y,Q)∈Zs→∀u,a≤u→u<a+z→b≤u→u<b+y→a=b∧z=y∧P=Q
 lz:∀a z P,(a,z,P)∈Zs→h.Lies a z
 lo:∀o,1≤o→o≤σ.N→h.Lies (A o) (osz σ o)
 lr:∀i,i<h.T→∀a z,rv i=some (a,z)→h.Lies a z
 cov:∀u,h.Used u→(∃o,1≤o∧o≤σ.N∧A o≤u∧u<A o+osz σ o)∨(∃a z P,(a,z,P)∈Zs∧a≤u∧u<a+z)∨∃i a z,i<h.T∧rv i=some (a,z)∧a≤u∧u<a+z
 hum:∀r,r<h.R→h.s r=4→((r*h.W:Nat):Int)<h.t r
def Rest(h:HS)(σ:GS)(A:Nat→Nat)(rv:Nat→Option (Nat×Nat)):Prop:=∃Zs,RestZ h σ A rv Zs
section
variable {h:HS}{σ:GS}{A:Nat→Nat}{rv:Nat→Option (Nat×Nat)}{Zs:List (Nat×Nat×Nat)}
theorem Rest.stk(m:Rest h σ A rv){l:Nat→List Int}{σ':GS}(eN:σ'.N=σ.N)(ez:∀p,osz σ' p=osz σ p):Rest { h with st:=l } σ' A rv:=by
 obtain⟨Zs,m⟩:=m
 exact⟨Zs,⟨m.hdr,m.use,fun a z P hm o h1 h2=>by rw [ez];exact m.dis a z P hm o h1 (by omega),m.rdi,m.one,m.lz,fun o h1 h2=>by rw [ez];exact m.lo o h1 (by omega),m.lr,
  fun u hu=>(m.cov u hu).imp (fun ⟨o,h1,h2,h3,h4⟩=>⟨o,h1,by omega,h3,by rw [ez];exact h4⟩) id,m.hum⟩⟩
theorem Rest.word(m:Rest h σ A rv){o u0 v:Nat}(h1:1≤o)(h2:o≤σ.N)(hu:A o≤u0∧u0<A o+osz σ o){σ':GS}(eN:σ'.N=σ.N)(ez:∀p,osz σ' p=osz σ p):Rest { h with f:=upd h.f u0 v } σ' A rv:=by
 obtain⟨Zs,m⟩:=m
 have far:∀a z P,(a,z,P)∈Zs→∀u,a≤u→u<a+z→upd h.f u0 v u=h.f u:=fun a z P hm u k1 k2=>by
  unfold upd
  rw [if_neg]
  intro e
  exact m.dis a z P hm o h1 h2 u k1 k2 (by omega)
 refine⟨Zs,⟨fun a z P hm=>?_,m.use,fun a z P hm o h1 h2=>by rw [ez];exact m.dis a z P hm o h1 (by omega),m.rdi,m.one,m.lz,fun o h1 h2=>by rw [ez];exact m.lo o h1 (by omega),m.lr,
  fun u hu=>(m.cov u hu).imp (fun ⟨o,h1,h2,h3,h4⟩=>⟨o,h1,by omega,h3,by rw [ez];exact h4⟩) id,m.hum⟩⟩
 obtain⟨k1,k2,k3,k4⟩:=m.hdr a z P hm
 exact⟨(far a z P hm a (Nat.le_refl _) (by omega)).trans k1,k2,k3,fun j hj=>(far a z P hm _ (by omega) (by omega)).trans (k4 j hj)⟩
theorem Rest.move(m:Rest h σ A rv){h':HS}(eT:h'.T=h.T)(eW:h'.W=h.W)(eR:h'.R=h.R)(ef:h'.f=h.f)(hu:∀u,h.Used u→h'.Used u)(hb:∀u,h'.Used u→h.Used u)(hs:∀q,h.s q≠0→h'.s q=h.s q)
  (hh:∀r,r<h.R→h'.s r=4→((r*h.W:Nat):Int)<h'.t r):Rest h' σ A rv:=by
 obtain⟨Zs,m⟩:=m
 exact⟨Zs,⟨fun a z P hm=>by rw [ef];exact m.hdr a z P hm,fun a z P hm u k1 k2=>hu u (m.use a z P hm u k1 k2),m.dis,fun a z P hm i hi=>m.rdi a z P hm i (by omega),m.one,fun a z P hm=>(m.lz a z P hm).up eW eR hs,
  fun o h1 h2=>(m.lo o h1 h2).up eW eR hs,fun i hi a z e=>(m.lr i (by omega) a z e).up eW eR hs,
  fun u k=>(m.cov u (hb u k)).imp id (Or.imp id (fun ⟨i,a,z,q1,q2⟩=>⟨i,a,z,by omega,q2⟩)),fun r hr h4=>by rw [eW];exact hh r (by omega) h4⟩⟩
theorem Rest.take(m:Rest h σ A rv){h':HS}{t a z:Nat}(ht:t<h.T)(eT:h'.T=h.T)(eW:h'.W=h.W)(eR:h'.R=h.R)(ef:h'.f=h.f)(hu:∀u,h.Used u→h'.Used u)(hb:∀u,h'.Used u→h.Used u∨(a≤u∧u<a+z))(hs:∀q,h.s q≠0→h'.s q=h.s q)
  (hh:∀r,r<h.R→h'.s r=4→((r*h.W:Nat):Int)<h'.t r) (hr:rv t=none) (hn:∀u,a≤u→u<a+z→¬ h.Used u) (hl:h'.Lies a z):Rest h' σ A (setF rv t (some (a,z))):=by
 obtain⟨Zs,m⟩:=m
 refine⟨Zs,⟨fun a z P hm=>by rw [ef];exact m.hdr a z P hm,fun a z P hm u k1 k2=>hu u (m.use a z P hm u k1 k2),m.dis,fun b y P hm i hi c v e u k1 k2 k3=>?_,m.one,fun a z P hm=>(m.lz a z P hm).up eW eR hs,
  fun o h1 h2=>(m.lo o h1 h2).up eW eR hs,fun i hi b y e=>?_,fun u k=>?_,fun r hr h4=>by rw [eW];exact hh r (by omega) h4⟩⟩
 ·unfold setF at e
  split at e
  ·obtain⟨rfl,rfl⟩:=Prod.mk.inj (Option.some.inj e);exact hn u k3.1 k3.2 (m.use b y P hm u k1 k2)
  ·exact m.rdi b y P hm i (by omega) c v e u k1 k2 k3
 ·unfold setF at e
  split at e
  ·obtain⟨rfl,rfl⟩:=Prod.mk.inj (Option.some.inj e);exact hl
  ·exact(m.lr i (by omega) b y e).up eW eR hs
 ·rcases hb u k with k | k
  ·refine(m.cov u k).imp id (Or.imp id ?_)
   rintro⟨i,b,y,q1,q2,q3⟩
   refine⟨i,b,y,by omega,?_,q3⟩
   unfold setF
   split
   ·rename_i e;rw [e,hr]at q2;cases q2
   ·exact q2
  ·exact .inr (.inr ⟨t,a,z,by omega,setF_at _ _ _,k⟩)
theorem Rest.make(m:Rest h σ A rv){t a z P:Nat}(ht:t<h.T)(hr:rv t=some (a,z))(hP:P<z){g:Nat→Nat}{x:Nat} :
  Rest { h with f:=upd (updRow h.f a z g) a x } (σ.new (P:Int) ((z-1-P:Nat):Int)) (setF A (σ.N+1) a) (setF rv t none):=by
 obtain⟨Zs,m⟩:=m
 have eA:∀o,o≤σ.N→setF A (σ.N+1) a o=A o:=fun o ho=>setF_ne _ _ (by omega)
 have ez:∀o,o≤σ.N→osz (σ.new (P:Int) ((z-1-P:Nat):Int)) o=osz σ o:=fun o ho=>by
  unfold osz
  rw [show(σ.new (P:Int) ((z-1-P:Nat):Int)).np (o:Int)=σ.np (o:Int) from setF_ne _ _ (by omega),show(σ.new (P:Int) ((z-1-P:Nat):Int)).nw (o:Int)=σ.nw (o:Int) from setF_ne _ _ (by omega)]
 have eZ:osz (σ.new (P:Int) ((z-1-P:Nat):Int)) (σ.N+1)=z:=by
  have e:(((σ.N+1:Nat)):Int)=(σ.N:Int)+1:=by omega
  unfold osz
  rw [e,show(σ.new (P:Int) ((z-1-P:Nat):Int)).np ((σ.N:Int)+1)=P from (setF_at _ _ _).trans (by simp),show(σ.new (P:Int) ((z-1-P:Nat):Int)).nw ((σ.N:Int)+1)=z-1-P from (setF_at _ _ _).trans (by simp)]
  omega
 have two:∀o,o≤(σ.new (P:Int) ((z-1-P:Nat):Int)).N→o≤σ.N∨o=σ.N+1:=fun o ho=>by
  have:o≤σ.N+1:=ho
  omega
 have old:∀b y Q,(b,y,Q)∈Zs→∀u,b≤u→u<b+y→upd (updRow h.f a z g) a x u=h.f u:=fun b y Q hm u h3 h4=>by
  have:¬ (a≤u∧u<a+z):=m.rdi b y Q hm t ht a z hr u h3 h4
  unfold upd updRow
  rw [if_neg (by omega),if_neg this]
 have none_:∀ {i:Nat} {p:Nat×Nat},setF rv t none i=some p→rv i=some p:=fun {i p} e=>by
  unfold setF at e
  split at e
  ·cases e
  ·exact e
 refine⟨Zs,⟨fun b y Q hm=>?_,m.use,fun b y Q hm o h1 h2 u k1 k2 k3=>?_,fun b y Q hm i hi c v e=>m.rdi b y Q hm i hi c v (none_ e),m.one,m.lz,fun o h1 h2=>?_,fun i hi b y e=>m.lr i hi b y (none_ e),fun u k=>?_,m.hum⟩⟩
 ·obtain⟨k1,k2,k3,k4⟩:=m.hdr b y Q hm
  exact⟨(old b y Q hm b (Nat.le_refl _) (by omega)).trans k1,k2,k3,fun j hj=>(old b y Q hm _ (by omega) (by omega)).trans (k4 j hj)⟩
 ·rcases two o h2 with e | e
  ·rw [eA o e,ez o e]at k3;exact m.dis b y Q hm o h1 e u k1 k2 k3
  ·subst e;rw [setF_at,eZ]at k3;exact m.rdi b y Q hm t ht a z hr u k1 k2 k3
 ·rcases two o h2 with e | e
  ·rw [eA o e,ez o e];exact m.lo o h1 e
  ·subst e;rw [setF_at,eZ];exact m.lr t ht a z hr
 ·rcases m.cov u k with⟨o,q1,q2,q3,q4⟩ | q | ⟨i,b,y,q1,q2,q3⟩
  ·exact .inl ⟨o,q1,Nat.le_succ_of_le q2,by rw [eA o q2];exact q3,by rw [eA o q2,ez o q2];exact q4⟩
  ·exact .inr (.inl q)
  ·by_cases e:i=t
   ·subst e
    rw [hr]at q2
    obtain⟨rfl,rfl⟩:=Prod.mk.inj (Option.some.inj q2)
    exact .inl ⟨σ.N+1,by omega,Nat.le_refl _,by rw [setF_at];exact q3.1,by rw [setF_at,eZ];exact q3.2⟩
   ·exact .inr (.inr ⟨i,b,y,q1,(setF_ne _ _ e).trans q2,q3⟩)
theorem Rest.waste(m:Rest h σ A rv){t a z P:Nat}(ht:t<h.T)(hr:rv t=some (a,z))(hP:P<z)(hz:z≤1048576)(hu:∀u,a≤u→u<a+z→h.Used u)(hd:∀o,1≤o→o≤σ.N→∀u,a≤u→u<a+z→¬ (A o≤u∧u<A o+osz σ o))
  (hrr:∀i,i<h.T→i≠t→∀b y,rv i=some (b,y)→∀u,a≤u→u<a+z→¬ (b≤u∧u<b+y)) :
  Rest { h with f:=upd (updRow h.f a z (fun _=>0)) a (objW z P) } σ A (setF rv t none):=by
 obtain⟨Zs,m⟩:=m
 have old:∀b y Q,(b,y,Q)∈Zs→∀u,b≤u→u<b+y→upd (updRow h.f a z (fun _=>0)) a (objW z P) u=h.f u:=fun b y Q hm u h3 h4=>by
  have:¬ (a≤u∧u<a+z):=m.rdi b y Q hm t ht a z hr u h3 h4
  unfold upd updRow
  rw [if_neg (by omega),if_neg this]
 have none_:∀ {i:Nat} {p:Nat×Nat},setF rv t none i=some p→i≠t∧rv i=some p:=fun {i p} e=>by
  unfold setF at e
  split at e
  ·cases e
  ·exact⟨by assumption,e⟩
 have two:∀ {b y Q},(b,y,Q)∈(a,z,P)::Zs→(b=a∧y=z∧Q=P)∨(b,y,Q)∈Zs:=fun {b y Q} hm=>by
  rcases List.mem_cons.1 hm with e | e
  ·injection e with e1 e2
   injection e2 with e2 e3
   exact .inl ⟨e1,e2,e3⟩
  ·exact .inr e
 refine⟨(a,z,P)::Zs,⟨fun b y Q hm=>?_,fun b y Q hm=>?_,fun b y Q hm=>?_,fun b y Q hm i hi c v e=>?_,fun b y Q c v S h1 h2 u k1 k2 k3 k4=>?_,fun b y Q hm=>?_,m.lo,fun i hi b y e=>m.lr i hi b y (none_ e).2,fun u k=>?_,m.hum⟩⟩
 ·rcases two hm with⟨rfl,rfl,rfl⟩ | hm
  ·refine⟨by show upd _ _ _ _=_;unfold upd;rw [if_pos rfl],hP,hz,fun j hj=>?_⟩
   show upd _ _ _ _=_
   unfold upd updRow
   rw [if_neg (by omega),if_pos (by omega)]
  ·obtain⟨k1,k2,k3,k4⟩:=m.hdr b y Q hm
   exact⟨(old b y Q hm b (Nat.le_refl _) (by omega)).trans k1,k2,k3,fun j hj=>(old b y Q hm _ (by omega) (by omega)).trans (k4 j hj)⟩
 ·rcases two hm with⟨rfl,rfl,rfl⟩ | hm
  ·exact hu
  ·exact m.use b y Q hm
 ·rcases two hm with⟨rfl,rfl,rfl⟩ | hm
  ·exact hd
  ·exact m.dis b y Q hm
 ·obtain⟨e1,e2⟩:=none_ e
  rcases two hm with⟨rfl,rfl,rfl⟩ | hm
  ·exact hrr i hi e1 c v e2
  ·exact m.rdi b y Q hm i hi c v e2
 ·rcases two h1 with⟨rfl,rfl,rfl⟩ | g1
  ·rcases two h2 with⟨rfl,rfl,rfl⟩ | g2
   ·exact⟨rfl,rfl,rfl⟩
   ·exact absurd ⟨k1,k2⟩ (m.rdi c v S g2 t ht _ _ hr u k3 k4)
  ·rcases two h2 with⟨rfl,rfl,rfl⟩ | g2
   ·exact absurd ⟨k3,k4⟩ (m.rdi b y Q g1 t ht _ _ hr u k1 k2)
   ·exact m.one b y Q c v S g1 g2 u k1 k2 k3 k4
 ·rcases two hm with⟨rfl,rfl,rfl⟩ | hm
  ·exact m.lr t ht _ _ hr
  ·exact m.lz b y Q hm
 ·rcases m.cov u k with q | ⟨b,y,Q,q1,q2⟩ | ⟨i,b,y,q1,q2,q3⟩
  ·exact .inl q
  ·exact .inr (.inl ⟨b,y,Q,List.mem_cons_of_mem _ q1,q2⟩)
  ·by_cases e:i=t
   ·subst e
    rw [hr]at q2
    obtain⟨rfl,rfl⟩:=Prod.mk.inj (Option.some.inj q2)
    exact .inr (.inl ⟨_,_,P,List.mem_cons_self ..,q3⟩)
   ·exact .inr (.inr ⟨i,b,y,q1,(setF_ne _ _ e).trans q2,q3⟩)
end
structure HS.BufEnd(h:HS):Prop where
 reg:∀i,i<h.T→h.bx i<h.be i→∃r,r<h.R∧h.s r=1∧((r*h.W:Nat):Int)≤h.bx i∧h.be i=((r*h.W+h.W:Nat):Int)∧h.t r=((r*h.W+h.W:Nat):Int)
 one:∀i j,i<h.T→j<h.T→i≠j→h.bx i<h.be i→h.bx j<h.be j→h.be i≠h.be j
theorem HS.BufEnd.bufIn{h:HS}(b:h.BufEnd):h.BufIn:=fun i hi hb=>by
 obtain⟨r,h1,h2,h3,h4,h5⟩:=b.reg i hi hb
 exact⟨r,h1,.inl h2,h3,by omega⟩
def refO(A:Nat→Nat)(r:Int):Int:=if r=0 then 0 else ((A r.toNat:Nat):Int)+1
structure Sim(h:HS)(σ:GS)(A:Nat→Nat)(rv:Nat→Option (Nat×Nat)):Prop where
 buf:h.BufEnd
 st:∀i,i<h.T→h.st i=(σ.st i).map (refO A)
 zm:∀o,1≤o→o≤σ.N→osz σ o≤1048576
 hdr:∀o,1≤o→o≤σ.N→h.f (A o)=objW (osz σ o) (σ.np (o:Int))
 ref:∀o,1≤o→o≤σ.N→∀j,j<σ.np (o:Int)→(h.f (A o+1+j):Int)=refO A (σ.ref (o:Int) (j:Int))
 dat:∀o,1≤o→o≤σ.N→∀j,j<σ.nw (o:Int)→(h.f (A o+1+σ.np (o:Int)+j):Int)=σ.dat (o:Int) (j:Int)
 use:∀o,1≤o→o≤σ.N→∀u,A o≤u→u<A o+osz σ o→h.Used u
 dis:∀o p,1≤o→o≤σ.N→1≤p→p≤σ.N→∀u,A o≤u→u<A o+osz σ o→A p≤u→u<A p+osz σ p→o=p
 rz:∀i,i<h.T→∀a z,rv i=some (a,z)→1≤z∧z≤1048576
 ruse:∀i,i<h.T→∀a z,rv i=some (a,z)→∀u,a≤u→u<a+z→h.Used u
 rdis:∀i,i<h.T→∀a z,rv i=some (a,z)→∀o,1≤o→o≤σ.N→∀u,a≤u→u<a+z→¬ (A o≤u∧u<A o+osz σ o)
 rr:∀i j,i<h.T→j<h.T→i≠j→∀a z b y,rv i=some (a,z)→rv j=some (b,y)→∀u,a≤u→u<a+z→¬ (b≤u∧u<b+y)
 rest:Rest h σ A rv
section
variable {h:HS}{σ:GS}{A:Nat→Nat}{rv:Nat→Option (Nat×Nat)}
theorem refO_zero(A:Nat→Nat):refO A 0=0:=by simp [refO]
theorem refO_nat(A:Nat→Nat){o:Nat}(h:1≤o):refO A (o:Int)=((A o:Nat):Int)+1:=by unfold refO;rw [if_neg (by omega)];simp
theorem refO_nz(A:Nat→Nat){r:Int}(h:r≠0):refO A r≠0:=by unfold refO;rw [if_neg h];omega
theorem Sim.inj(m:Sim h σ A rv){r q:Int}(hr:0≤r∧r≤(σ.N:Int))(hq:0≤q∧q≤(σ.N:Int))(e:refO A r=refO A q):r=q:=by
 by_cases e1:r=0
 ·by_cases e2:q=0
  ·omega
  ·rw [e1,refO_zero]at e;exact absurd e.symm (refO_nz A e2)
 ·by_cases e2:q=0
  ·rw [e2,refO_zero]at e;exact absurd e (refO_nz A e1)
  ·unfold refO at e
   rw [if_neg e1,if_neg e2]at e
   have:=m.dis r.toNat q.toNat (by omega) (by omega) (by omega) (by omega) (A r.toNat) (Nat.le_refl _) (by have:=osz_pos σ r.toNat;omega) (by omega) (by have:=osz_pos σ q.toNat;omega)
   omega
theorem Sim.stk(m:Sim h σ A rv){t:Nat}{l:List Int}:Sim { h with st:=setN h.st t (l.map (refO A)) } (σ.setSt t l) A rv:=by
 refine⟨⟨m.buf.reg,m.buf.one⟩,fun i hi=>?_,m.zm,m.hdr,m.ref,m.dat,m.use,m.dis,m.rz,m.ruse,m.rdis,m.rr,m.rest.stk rfl (fun _=>rfl)⟩
 show setN h.st t (l.map (refO A)) i=(setF σ.st t l i).map (refO A)
 unfold setN setF
 split
 ·rfl
 ·exact m.st i hi
theorem Sim.tick(m:Sim h σ A rv)(t:Nat):Sim h (σ.tick t) A rv:=⟨m.buf,m.st,m.zm,m.hdr,m.ref,m.dat,m.use,m.dis,m.rz,m.ruse,m.rdis,m.rr,m.rest.stk (l:=h.st) rfl (fun _=>rfl)⟩
theorem hkPush_map(A:Nat→Nat)(B:Nat)(l:List Int)(r:Int):hkPush B (l.map (refO A)) (refO A r)=(hkPush B l r).map (refO A):=by
 unfold hkPush
 simp only [List.length_map]
 split <;> simp
theorem hkPop_map(A:Nat→Nat)(l:List Int):hkPop (l.map (refO A))=(hkPop l).map (refO A):=by
 unfold hkPop
 simp
theorem hkIn_map(A:Nat→Nat)(l:List Int)(i:Int):hkIn (l.map (refO A)) i↔hkIn l i:=by
 unfold hkIn
 simp
theorem hkAtE_map(A:Nat→Nat)(l:List Int)(i:Int):hkAtE (l.map (refO A)) i=hkAtE l i:=by
 unfold hkAtE hkIn
 simp
theorem hkAt_map(A:Nat→Nat)(l:List Int)(i:Int):hkAt (l.map (refO A)) i=refO A (hkAt l i):=by
 unfold hkAt
 by_cases e:hkIn l i
 ·rw [if_pos e,if_pos ((hkIn_map A l i).2 e)]
  unfold hkIn at e
  have hk:i.toNat<l.length:=by omega
  simp [hk]
 ·rw [if_neg e,if_neg (fun x=>e ((hkIn_map A l i).1 x)),refO_zero]
theorem Sim.push(m:Sim h σ A rv){t B:Nat}(ht:t<h.T)(r:Int):Sim { h with st:=setN h.st t (hkPush B (h.st t) (refO A r)) } (σ.push B t r) A rv:=by
 rw [m.st t ht,hkPush_map]
 exact m.stk
theorem Sim.pop(m:Sim h σ A rv){t:Nat}(ht:t<h.T):Sim { h with st:=setN h.st t (hkPop (h.st t)) } (popS σ t) A rv:=by
 rw [m.st t ht,hkPop_map]
 exact m.stk
theorem Sim.setRef(m:Sim h σ A rv){o j v:Nat}{y:Int}(h1:1≤o)(h2:o≤σ.N)(hj:j<σ.np (o:Int))(hv:(v:Int)=refO A y):Sim { h with f:=upd h.f (A o+1+j) v } (σ.setRef (o:Int) (j:Int) y) A rv:=by
 have ez:∀p,osz (σ.setRef (o:Int) (j:Int) y) p=osz σ p:=fun _=>rfl
 have far:∀p,1≤p→p≤σ.N→∀u,A p≤u→u<A p+osz σ p→(p≠o∨u≠A o+1+j)→upd h.f (A o+1+j) v u=h.f u:=fun p p1 p2 u u1 u2 e=>by
  unfold upd
  rw [if_neg]
  intro e2
  rcases e with e | e
  ·refine e (m.dis p o p1 p2 h1 h2 u u1 u2 (by omega) ?_)
   unfold osz
   omega
  ·exact e e2
 refine⟨⟨m.buf.reg,m.buf.one⟩,m.st,m.zm,fun p p1 p2=>?_,fun p p1 p2 i hi=>?_,fun p p1 p2 i hi=>?_,m.use,m.dis,m.rz,m.ruse,m.rdis,m.rr,m.rest.word h1 h2 ⟨by omega,by unfold osz;omega⟩ rfl (fun _=>rfl)⟩
 ·rw [ez]
  refine(far p p1 p2 _ (Nat.le_refl _) (by have:=osz_pos σ p;omega) ?_).trans (m.hdr p p1 p2)
  by_cases e:p=o
  ·subst e;right;omega
  ·exact .inl e
 ·have hi:i<σ.np (p:Int):=hi
  show(upd h.f (A o+1+j) v (A p+1+i):Int)=refO A (setF σ.ref (o:Int) (setF (σ.ref (o:Int)) (j:Int) y) (p:Int) (i:Int))
  by_cases e:p=o
  ·subst e
   rw [setF_at]
   by_cases e2:i=j
   ·subst e2
    rw [setF_at]
    unfold upd
    rw [if_pos rfl,hv]
   ·rw [setF_ne _ _ (by omega),far p p1 p2 _ (by omega) (by unfold osz;omega) (.inr (by omega))]
    exact m.ref p p1 p2 i hi
  ·rw [setF_ne _ _ (by omega),far p p1 p2 _ (by omega) (by unfold osz;omega) (.inl e)]
   exact m.ref p p1 p2 i hi
 ·have hi:i<σ.nw (p:Int):=hi
  show(upd h.f (A o+1+j) v (A p+1+σ.np (p:Int)+i):Int)=σ.dat (p:Int) (i:Int)
  rw [far p p1 p2 _ (by omega) (by unfold osz;omega) ?_]
  ·exact m.dat p p1 p2 i hi
  ·by_cases e:p=o
   ·subst e;right;omega
   ·exact .inl e
theorem Sim.setDat(m:Sim h σ A rv){o j v:Nat}(h1:1≤o)(h2:o≤σ.N)(hj:j<σ.nw (o:Int)):Sim { h with f:=upd h.f (A o+1+σ.np (o:Int)+j) v } (σ.setDat (o:Int) (j:Int) (v:Int)) A rv:=by
 have ez:∀p,osz (σ.setDat (o:Int) (j:Int) (v:Int)) p=osz σ p:=fun _=>rfl
 have far:∀p,1≤p→p≤σ.N→∀u,A p≤u→u<A p+osz σ p→(p≠o∨u≠A o+1+σ.np (o:Int)+j)→upd h.f (A o+1+σ.np (o:Int)+j) v u=h.f u:=fun p p1 p2 u u1 u2 e=>by
  unfold upd
  rw [if_neg]
  intro e2
  rcases e with e | e
  ·refine e (m.dis p o p1 p2 h1 h2 u u1 u2 (by omega) ?_)
   unfold osz
   omega
  ·exact e e2
 refine⟨⟨m.buf.reg,m.buf.one⟩,m.st,m.zm,fun p p1 p2=>?_,fun p p1 p2 i hi=>?_,fun p p1 p2 i hi=>?_,m.use,m.dis,m.rz,m.ruse,m.rdis,m.rr,m.rest.word h1 h2 ⟨by omega,by unfold osz;omega⟩ rfl (fun _=>rfl)⟩
 ·rw [ez]
  refine(far p p1 p2 _ (Nat.le_refl _) (by have:=osz_pos σ p;omega) ?_).trans (m.hdr p p1 p2)
  by_cases e:p=o
  ·subst e;right;omega
  ·exact .inl e
 ·have hi:i<σ.np (p:Int):=hi
  show(upd h.f _ v (A p+1+i):Int)=refO A (σ.ref (p:Int) (i:Int))
  rw [far p p1 p2 _ (by omega) (by unfold osz;omega) ?_]
  ·exact m.ref p p1 p2 i hi
  ·by_cases e:p=o
   ·subst e;right;omega
   ·exact .inl e
 ·have hi:i<σ.nw (p:Int):=hi
  show(upd h.f _ v (A p+1+σ.np (p:Int)+i):Int)=setF σ.dat (o:Int) (setF (σ.dat (o:Int)) (j:Int) (v:Int)) (p:Int) (i:Int)
  by_cases e:p=o
  ·subst e
   rw [setF_at]
   by_cases e2:i=j
   ·subst e2
    rw [setF_at]
    unfold upd
    rw [if_pos rfl]
   ·rw [setF_ne _ _ (by omega),far p p1 p2 _ (by omega) (by unfold osz;omega) (.inr (by omega))]
    exact m.dat p p1 p2 i hi
  ·rw [setF_ne _ _ (by omega),far p p1 p2 _ (by omega) (by unfold osz;omega) (.inl e)]
   exact m.dat p p1 p2 i hi
theorem Sim.take(m:Sim h σ A rv){h':HS}{t a z:Nat}(hb:h'.BufEnd)(eT:h'.T=h.T)(ef:h'.f=h.f)(es:h'.st=h.st)(hu:∀u,h.Used u→h'.Used u)(hr:rv t=none)(hz:1≤z∧z≤1048576)
  (hn:∀u,a≤u→u<a+z→¬ h.Used u∧h'.Used u) (ht:t<h.T) (eW:h'.W=h.W) (eR:h'.R=h.R) (hc:∀u,h'.Used u→h.Used u∨(a≤u∧u<a+z)) (hs:∀q,h.s q≠0→h'.s q=h.s q)
  (hh:∀r,r<h.R→h'.s r=4→((r*h.W:Nat):Int)<h'.t r) (hl:h'.Lies a z):Sim h' σ A (setF rv t (some (a,z))):=by
 refine⟨hb,fun i hi=>by rw [es];exact m.st i (by omega),m.zm,fun o h1 h2=>by rw [ef];exact m.hdr o h1 h2,fun o h1 h2=>by rw [ef];exact m.ref o h1 h2,fun o h1 h2=>by rw [ef];exact m.dat o h1 h2,
  fun o h1 h2 u h3 h4=>hu u (m.use o h1 h2 u h3 h4),m.dis,fun i hi b y e=>?_,fun i hi b y e u h3 h4=>?_,fun i hi b y e o h1 h2 u h3 h4 h5=>?_,fun i j hi hj hne b y c x e1 e2 u h3 h4 h5=>?_,m.rest.take ht eT eW eR ef hu hc hs hh hr (fun u k1 k2=>(hn u k1 k2).1) hl⟩
 ·unfold setF at e
  split at e
  ·obtain⟨rfl,rfl⟩:=Prod.mk.inj (Option.some.inj e);exact hz
  ·exact m.rz i (by omega) b y e
 ·unfold setF at e
  split at e
  ·obtain⟨rfl,rfl⟩:=Prod.mk.inj (Option.some.inj e);exact(hn u h3 h4).2
  ·exact hu u (m.ruse i (by omega) b y e u h3 h4)
 ·unfold setF at e
  split at e
  ·obtain⟨rfl,rfl⟩:=Prod.mk.inj (Option.some.inj e);exact(hn u h3 h4).1 (m.use o h1 h2 u h5.1 h5.2)
  ·exact m.rdis i (by omega) b y e o h1 h2 u h3 h4 h5
 ·unfold setF at e1 e2
  split at e1
  ·split at e2
   ·omega
   ·obtain⟨rfl,rfl⟩:=Prod.mk.inj (Option.some.inj e1);exact(hn u h3 h4).1 (m.ruse j (by omega) c x e2 u h5.1 h5.2)
  ·split at e2
   ·obtain⟨rfl,rfl⟩:=Prod.mk.inj (Option.some.inj e2);exact(hn u h5.1 h5.2).1 (m.ruse i (by omega) b y e1 u h3 h4)
   ·exact m.rr i j (by omega) (by omega) hne b y c x e1 e2 u h3 h4 h5
theorem Sim.move(m:Sim h σ A rv){h':HS}(hb:h'.BufEnd)(eT:h'.T=h.T)(ef:h'.f=h.f)(es:h'.st=h.st)(hu:∀u,h.Used u→h'.Used u)(eW:h'.W=h.W)(eR:h'.R=h.R)(hc:∀u,h'.Used u→h.Used u)(hs:∀q,h.s q≠0→h'.s q=h.s q)
  (hh:∀r,r<h.R→h'.s r=4→((r*h.W:Nat):Int)<h'.t r):Sim h' σ A rv:=
 ⟨hb,fun i hi=>by rw [es];exact m.st i (by omega),m.zm,fun o h1 h2=>by rw [ef];exact m.hdr o h1 h2,fun o h1 h2=>by rw [ef];exact m.ref o h1 h2,fun o h1 h2=>by rw [ef];exact m.dat o h1 h2,
  fun o h1 h2 u h3 h4=>hu u (m.use o h1 h2 u h3 h4),m.dis,fun i hi=>m.rz i (by omega),fun i hi b y e u h3 h4=>hu u (m.ruse i (by omega) b y e u h3 h4),fun i hi=>m.rdis i (by omega),fun i j hi hj=>m.rr i j (by omega) (by omega),m.rest.move eT eW eR ef hu hc hs hh⟩
theorem Sim.make(m:Sim h σ A rv){t a z P:Nat}(ht:t<h.T)(hr:rv t=some (a,z))(hP:P<z){α β:Int}(hα:α=(P:Int))(hβ:β=((z-1-P:Nat):Int))(hk:∀i,i<h.T→∀r,r∈σ.st i→0≤r∧r≤(σ.N:Int))(hkr:∀r j,0≤σ.ref r j∧σ.ref r j≤(σ.N:Int)) :
  Sim { h with f:=upd (updRow h.f a z (fun _=>0)) a (objW z P) } (σ.new α β) (setF A (σ.N+1) a) (setF rv t none):=by
 subst hα hβ
 have hz:=m.rz t ht a z hr
 have eA:∀o,o≤σ.N→setF A (σ.N+1) a o=A o:=fun o ho=>setF_ne _ _ (by omega)
 have eR:∀r:Int,0≤r→r≤(σ.N:Int)→refO (setF A (σ.N+1) a) r=refO A r:=fun r h1 h2=>by
  unfold refO
  rw [eA r.toNat (by omega)]
 have en:∀o:Nat,o≤σ.N→(σ.new (P:Int) ((z-1-P:Nat):Int)).np (o:Int)=σ.np (o:Int)∧(σ.new (P:Int) ((z-1-P:Nat):Int)).nw (o:Int)=σ.nw (o:Int):=fun o ho=>⟨setF_ne _ _ (by omega),setF_ne _ _ (by omega)⟩
 have ez:∀o,o≤σ.N→osz (σ.new (P:Int) ((z-1-P:Nat):Int)) o=osz σ o:=fun o ho=>by unfold osz;rw [(en o ho).1,(en o ho).2]
 have eN:(σ.new (P:Int) ((z-1-P:Nat):Int)).np ((σ.N+1:Nat):Int)=P∧(σ.new (P:Int) ((z-1-P:Nat):Int)).nw ((σ.N+1:Nat):Int)=z-1-P:=by
  have e:(((σ.N+1:Nat)):Int)=(σ.N:Int)+1:=by omega
  rw [e]
  exact⟨(setF_at _ _ _).trans (by simp),(setF_at _ _ _).trans (by simp)⟩
 have eZ:osz (σ.new (P:Int) ((z-1-P:Nat):Int)) (σ.N+1)=z:=by unfold osz;rw [eN.1,eN.2];omega
 have old:∀o,1≤o→o≤σ.N→∀u,A o≤u→u<A o+osz σ o→upd (updRow h.f a z (fun _=>0)) a (objW z P) u=h.f u:=fun o h1 h2 u h3 h4=>by
  have:¬ (a≤u∧u<a+z):=fun e=>m.rdis t ht a z hr o h1 h2 u e.1 e.2 ⟨h3,h4⟩
  unfold upd updRow
  rw [if_neg (by omega),if_neg this]
 have two:∀o,o≤(σ.new (P:Int) ((z-1-P:Nat):Int)).N→o≤σ.N∨o=σ.N+1:=fun o ho=>by
  have:o≤σ.N+1:=ho
  omega
 refine⟨⟨m.buf.reg,m.buf.one⟩,fun i hi=>?_,fun o h1 h2=>?_,fun o h1 h2=>?_,fun o h1 h2 j hj=>?_,fun o h1 h2 j hj=>?_,fun o h1 h2 u h3 h4=>?_,fun o p h1 h2 h3 h4 u h5 h6 h7 h8=>?_,fun i hi b y e=>?_,fun i hi b y e u h3 h4=>?_,fun i hi b y e o h1 h2 u h3 h4 h5=>?_,fun i j hi hj hne b y c x e1 e2 u h3 h4 h5=>?_,m.rest.make ht hr hP⟩
 ·show h.st i=(σ.st i).map _
  rw [m.st i hi]
  exact List.map_congr_left fun r hrm=>(eR r (hk i hi r hrm).1 (hk i hi r hrm).2).symm
 ·rcases two o h2 with e | e
  ·rw [ez o e];exact m.zm o h1 e
  ·subst e;rw [eZ];exact hz.2
 ·show upd _ _ _ (setF A (σ.N+1) a o)=_
  rcases two o h2 with e | e
  ·rw [eA o e,ez o e,(en o e).1,old o h1 e _ (Nat.le_refl _) (by have:=osz_pos σ o;omega)];exact m.hdr o h1 e
  ·subst e;rw [setF_at,eZ,eN.1];unfold upd;rw [if_pos rfl]
 ·show(upd _ _ _ (setF A (σ.N+1) a o+1+j):Int)=refO _ (setF σ.ref ((σ.N:Int)+1) (fun _=>0) (o:Int) (j:Int))
  rcases two o h2 with e | e
  ·rw [(en o e).1]at hj
   rw [eA o e,setF_ne _ _ (by omega),old o h1 e _ (by omega) (by unfold osz;omega),eR _ (hkr _ _).1 (hkr _ _).2];exact m.ref o h1 e j hj
  ·subst e
   rw [eN.1]at hj
   rw [setF_at,show(((σ.N+1:Nat)):Int)=(σ.N:Int)+1 by omega,setF_at,refO_zero]
   unfold upd updRow
   rw [if_neg (by omega),if_pos (by omega)]
   rfl
 ·show(upd _ _ _ (setF A (σ.N+1) a o+1+(σ.new (P:Int) ((z-1-P:Nat):Int)).np (o:Int)+j):Int)=setF σ.dat ((σ.N:Int)+1) (fun _=>0) (o:Int) (j:Int)
  rcases two o h2 with e | e
  ·rw [(en o e).2]at hj
   rw [(en o e).1,eA o e,setF_ne _ _ (by omega),old o h1 e _ (by omega) (by unfold osz;omega)];exact m.dat o h1 e j hj
  ·subst e
   rw [eN.2]at hj
   rw [eN.1,setF_at,show(((σ.N+1:Nat)):Int)=(σ.N:Int)+1 by omega,setF_at]
   unfold upd updRow
   rw [if_neg (by omega),if_pos (by omega)]
   rfl
 ·rcases two o h2 with e | e
  ·rw [eA o e]at h3 h4;rw [ez o e]at h4;exact m.use o h1 e u h3 h4
  ·subst e;rw [setF_at]at h3 h4;rw [eZ]at h4;exact m.ruse t ht a z hr u h3 h4
 ·rcases two o h2 with e | e
  ·rw [eA o e]at h5 h6;rw [ez o e]at h6
   rcases two p h4 with e' | e'
   ·rw [eA p e']at h7 h8;rw [ez p e']at h8;exact m.dis o p h1 e h3 e' u h5 h6 h7 h8
   ·subst e';rw [setF_at]at h7 h8;rw [eZ]at h8;exact absurd ⟨h5,h6⟩ (m.rdis t ht a z hr o h1 e u h7 h8)
  ·subst e;rw [setF_at]at h5 h6;rw [eZ]at h6
   rcases two p h4 with e' | e'
   ·rw [eA p e']at h7 h8;rw [ez p e']at h8;exact absurd ⟨h7,h8⟩ (m.rdis t ht a z hr p h3 e' u h5 h6)
   ·exact e'.symm
 ·unfold setF at e
  split at e
  ·cases e
  ·exact m.rz i hi b y e
 ·unfold setF at e
  split at e
  ·cases e
  ·exact m.ruse i hi b y e u h3 h4
 ·unfold setF at e
  split at e
  ·cases e
  ·rename_i hit
   rcases two o h2 with e' | e'
   ·rw [eA o e']at h5;rw [ez o e']at h5;exact m.rdis i hi b y e o h1 e' u h3 h4 h5
   ·subst e';rw [setF_at,eZ]at h5;exact m.rr t i ht hi (by omega) a z b y hr e u h5.1 h5.2 ⟨h3,h4⟩
 ·unfold setF at e1 e2
  split at e1
  ·cases e1
  ·split at e2
   ·cases e2
   ·exact m.rr i j hi hj hne b y c x e1 e2 u h3 h4 h5
end
end Go.Proofs.YtfcjdinlcehpmaaGreatDoor
