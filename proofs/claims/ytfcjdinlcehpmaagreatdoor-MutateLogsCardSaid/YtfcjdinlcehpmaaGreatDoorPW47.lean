/- Several texts joined (pack.py): L15Lg. -/
import Derived.Test.YtfcjdinlcehpmaaGreatDoorPW46
import Derived.Test.YtfcjdinlcehpmaaGreatDoorPW43
import Derived.Test.YtfcjdinlcehpmaaGreatDoorPW38
import Derived.StillTailTactics
import Derived.WalkKit
import Derived.BigQuiet
import Derived.Deep.CutRange
import Derived.Deep.RegionHeld3
namespace Go.Proofs.YtfcjdinlcehpmaaGreatDoor.MutateLogs
set_option linter.unusedVariables false
set_option linter.unusedSimpArgs false
set_option maxRecDepth 100000
open Go.RowKit Go.Gl HS
theorem opsFr{w w':World}{v:Value}{n:Nat}{f:Nat→Po}(h:OpsAt w v n f)(hf:Fr [] w w'):OpsAt w' v n f:=by
 obtain⟨A,c,e,h2⟩:=h
 refine⟨A,c,e,fun hn=>?_⟩
 obtain⟨b,off,e1,e2,e3⟩:=h2 hn
 have tr:∀j,w'.cell? ⟨b,j,none⟩=w.cell? ⟨b,j,none⟩:=fun j=>hf.cell (p:=⟨b,j,none⟩) e2 (by simp)
 refine⟨b,off,e1,Nat.lt_of_lt_of_le e2 hf.size,fun j hj=>?_⟩
 rw [tr,tr,tr,tr,tr]
 exact e3 j hj
theorem opsRow{w:World}{zA:Option Addr}{zn zc b:Nat}{f:Nat→Po}(hO:OpsAt w (.slice zA zn zc) zn f)(hz:zn≤zc∧zn≤maxLen)(hb:b<w.heap.size)(hc:w.cell? ⟨b,0,none⟩=some (.slice zA zn zc)) :
  OpsIn w (some ⟨b,0,none⟩) 1 (fun _=>zA) (fun _=>zn) (fun _=>zc) (fun _=>f):=by
 refine⟨fun _=>⟨b,0,rfl,hb,fun i hi=>?_⟩,fun _ _=>hz,fun _ _=>hO⟩
 obtain rfl:i=0:=by omega
 exact hc
def LgO(W wr:World)(L:HL)(s k:Nat)(Λ:WL)(g M T:Nat)(Ops:Nat→Nat→Po)(On:Nat→Nat)(v:Value)(j:Nat):Prop:=
 ∃wA wn wc wG l V h x σ A Γ,v=.slice wA wn wc∧AtL wA wn wc wG l W wr L s k Λ g M T Ops On V h x σ A Γ∧V.sy=false∧(V.mu 0).st=0∧V.nx 0=j∧Γ.ox 0=l∧l.length≤j∧∀u,u∈l→∃z,u=.int .u64 z
def LgIn(wA:Option Addr)(wn wc:Nat)(wG:List Nat)(l:List Value)(W wr:World)(L:HL)(s k:Nat)(Λ:WL)(g M T:Nat)(Ops:Nat→Nat→Po)(On:Nat→Nat)(j:Nat)(mg is:Bool)(was:Int)(o:Po):Prop:=
 ∃V h x σ A Γ,AtL wA wn wc wG l W wr L s k Λ g M T Ops On V h x σ A Γ∧LgJ j l mg is was o V h σ A Γ
set_option maxHeartbeats 6400000 in
theorem walk(c:Cfg){zA:Option Addr}{zn zc:Nat}{f:Nat→Po}(fm:Int)(w:World)(hT:Tab w)(hO:OpsAt w (.slice zA zn zc) zn f)(hz:zn≤zc∧zn≤maxLen)
  (hwf:∀j,j<zn→PoOk (f j)∧0≤(f j).v∧(f j).v<18446744073709551616) :
  Calls Tryz.prog 3 #[c.val,.slice zA zn zc,.int .i64 fm] w fun e w'=>e=.returned (.bool true)∧Fr [] w w':=by
 obtain⟨i0,hi,hz0,hz1,hz2⟩:=info_parts Tryz.info_ref
 have HT:=hide hT
 have HBg:Hid (∀w' b,Fr [] w w'→b<w'.heap.size→w'.cell? ⟨b,0,none⟩=some (.slice zA zn zc)→Calls Tryz.prog 5 #[c.val,.slice (some ⟨b,0,none⟩) 1 1] w' (BegA w' c 1 (fun _=>zA) (fun _=>zn) (fun _=>zc) (fun _=>f))):=fun w' b hf hb hc=>
  begin_any c w' (hT.fr hf (by simp)) (opsRow (opsFr hO hf) hz hb hc) (fun i j _ hj=>hwf j hj)
 clear hT hO hwf hz
 unfold Cfg.val at HBg ⊢
 go_enter Tryz.func3,Tryz.ntmps3
 go_wp2_with fail
 refine(awake15_any _ ((HT.out.alloc _))).mono ?_
 rintro e w1 ⟨rfl,hf⟩
 have hb:=(Blk.new w 23 c.cells).fr hf (by simp)
 have HF1:Hid (Fr [] w w1):=((Fr.refl _ _).alloc _).trans_same hf
 obtain⟨a0,a1,a2,a3,a4,a5,a6,a7,a8,a9,a10,a11,a12,a13⟩:=CfgAt.of hb
 have N0:w.heap.size<w1.heap.size:=lt_of_cell a0
 have HB1:=hide (HBg.out (w1.alloc (.cells #[.slice zA zn zc] 24)) w1.heap.size (HF1.out.alloc _) (by simp) ((Blk.new w1 24 #[.slice zA zn zc]).cell 0))
 clear hf hb HBg
 go_wp2_with fail
 refine HB1.out.mono ?_
 intro e w2 hB
 clear a0 a1 a2 a3 a4 a5 a6 a7 a8 a9 a10 a11 a12 a13 N0 HB1
 obtain⟨w3,hw3⟩:∃w3,w3=w1.alloc (.cells #[.slice zA zn zc] 24):=⟨_,rfl⟩
 rw [← hw3]at hB
 have HF3:Hid (Fr [] w w3):=by rw [hw3];exact HF1.out.alloc _
 clear hw3 HF1
 rcases hB with⟨rfl,hf⟩ | ⟨T,M,g,s,k,tg,L,X,Λ,h,x,rfl,hth,hT1,hT64,hA,hP0⟩
 ·have HF2:=hide (HF3.out.trans_same hf)
  clear hf
  go_wp2_with fail
  go_ret
  exact⟨rfl,HF2.out⟩
 ·have HTT:Hid (1≤T∧T≤64):=⟨hT1,hT64⟩
  have HT3:Hid (Tab w3):=HT.out.fr HF3.out (by simp)
  have ht0:0<T:=by omega
  obtain⟨On,hOn⟩:∃On,On=on15 1 (fun _=>zn):=⟨_,rfl⟩
  obtain⟨Ops,hOps⟩:∃Ops,Ops=ops15 1 (fun _=>zn) (fun _=>f):=⟨_,rfl⟩
  rw [← hOn,← hOps]at hP0
  have HI0:Hid (LgO w3 w2 L s k Λ g M T Ops On (.slice none 0 0) 0):=⟨none,0,0,[],[],_,h,x,G0,_,_,rfl,AtL.start HT3.out hA hP0,rfl,rfl,rfl,rfl,Nat.zero_le _,fun u hu=>by cases hu⟩
  have HL60:Hid (On 0≤60):=hP0.ol 0
  clear hA hP0 hth hT1 hT64 hOn hOps
  go_wp2_with fail
  go_loopw [9,10] (fun v i wr=>∃j:Nat,i=.int .i64 j∧j≤On 0∧LgO w3 wr L s k Λ g M T Ops On v j) (fun _ i _=>60-(intOf i).toNat)
  case atStart=>exact⟨0,rfl,Nat.zero_le _,HI0.out⟩
  case round=>
   obtain⟨j,rfl,hj,wA,wn,wc,wG,l,V,hh,xx,σ,A,Γ,rfl,q,v1,v2,v3,v4,v5,v6⟩:=hrel
   obtain⟨gm,om,oA,oc,hmA,d0,e0,e1,e2,e3,e4,dn,dp,hsb,cov,hops,-,hnx,-⟩:=q.cells ht0
   have HOps:=hide hops
   have HQ:=hide q
   have HV:=hide (⟨v1,v2,v3,v4,v5⟩:V.sy=false∧(V.mu 0).st=0∧V.nx 0=j∧Γ.ox 0=l∧l.length≤j)
   have HV6:=hide v6
   rw [v3]at dn
   obtain⟨nn,hnn⟩:∃nn,nn=On 0:=⟨_,rfl⟩
   have HNN:=hide hnn
   have HJ:=hide hj
   rw [← hnn]at dp hj
   have s0:=hsb.cell 0
   have z0:=hsb.frozen 0
   have HSB:=hide hsb
   have hT1:(0:Int)<(T:Int):=by omega
   have NW:=lt_of_cell e0
   have NB:=lt_of_cell dn
   have NP:=lt_of_cell dp
   have NS:=lt_of_cell s0
   clear q v1 v2 v3 v4 v5 v6 hsb hops hnx hnn HI0
   by_cases hgo:j<nn
   ·have h1:decide ((j:Int)<(nn:Int))=true:=by simpa using hgo
    have hgi:(j:Int)<(nn:Int):=by omega
    obtain⟨mg,hmg⟩:∃mg,mg=decide (fm≤(j:Int)):=⟨_,rfl⟩
    have HG:=hide hgo
    clear hgo
    go_wp2_with fail
    go_quiet (fail)
    go_wp2_with fail
    go_region
    go_wp2_with fail
    rw [← hmg]
    clear hmg
    have hF5:Fr [Λ.sb] wr ((wr.drewN (nq+1)).setCell ⟨Λ.sb,0,none⟩ (.bool mg)):=((Fr.refl _ _).drewN _).setCell (p:=⟨Λ.sb,0,none⟩) (.inl (by simp)) _
    have hB5:Blk ((wr.drewN (nq+1)).setCell ⟨Λ.sb,0,none⟩ (.bool mg)) Λ.sb 40 #[.bool mg,.slice (some ⟨Λ.ob,0,none⟩) T T]:=(HSB.out.fr (F:=[]) ((Fr.refl _ _).drewN _) (by simp)).put 0 (.bool mg)
    have q5:=HQ.out.mark (lLives _ _ _ _ _) HT3.out hF5 hB5
    generalize (wr.drewN (nq+1)).setCell ⟨Λ.sb,0,none⟩ (.bool mg)=w5 at *
    clear hF5 hB5 e0 e1 e2 e3 e4 d0 dn dp s0 z0 NW NB NP NS
    have HQ5:=hide q5
    obtain⟨gm5,om5,oA5,oc5,-,d0,e0,e1,e2,e3,e4,dn,dp,-,-,⟨oA6,oc6,hoe,hob0⟩,-,-,-⟩:=q5.cells ht0
    injection hoe with hoe1 hoe2 hoe3
    subst hoe1 hoe3
    have hj0:j<On 0:=by have:=HNN.out;have:=HG.out;omega
    obtain⟨ob,oo,hoA,hob,hoc⟩:=hob0 (by omega)
    obtain⟨o0,o1,o2,o3,o4⟩:=hoc j hj0
    have cW:∀ {p:Addr} {v:Value},w3.cell? p=some v→w5.cell? p=some v:=fun h=>(HQ5.out.fr.cell (lt_of_cell h) (by simp)).trans h
    replace o0:=cW o0
    replace o1:=cW o1
    replace o2:=cW o2
    replace o3:=cW o3
    replace o4:=cW o4
    have NO:=lt_of_cell o0
    have HTh:Hid (∀w',Fr [] w5 w'→Calls Tryz.prog 6 #[.pointer (some ⟨Λ.wb,0,none⟩),opV (Ops 0 j)] w' fun e w''=>AtL wA wn wc wG l w3 w'' L s k Λ g M T Ops On { V with mg:=mg } hh xx σ A Γ∧∃r b,e=.returned (.tuple #[.int .u64 r,.bool b])∧ThG hh σ A (Ops 0 j) r b):=fun w' hf=>(HQ5.out.fr0 (lLives _ _ _ _ _) hf).there (lLives _ _ _ _ _) ht0 (Ops 0 j)
    change w5.cell? _=some (.int .i64 (V.nx 0:Int))at dn
    rw [HV.out.2.2.1]at dn
    rw [← HNN.out]at dp
    rw [hoA]at dp
    obtain⟨O,hO⟩:∃O,O=Ops 0 j:=⟨_,rfl⟩
    have HOe:=hide hO
    rw [← hO]at o0 o1 o2 o3 o4 HTh
    unfold opV at HTh
    have NW:=lt_of_cell e0
    have NB:=lt_of_cell dn
    have NP:=lt_of_cell dp
    clear q5 hob0 hoc hO cW hoA hob
    go_region
    go_wp2_with fail
    refine(HTh.out _ (by first | exact(((Fr.refl _ _).drewN _).alloc _) | exact(((Fr.refl _ _).alloc _).drewN _) | exact((Fr.refl _ _).alloc _).drew | exact(((Fr.refl _ _).drewN _).alloc _).drewN _)).mono ?_
    rintro e w6 ⟨q6,was,is,rfl,HThG⟩
    have HQ6:=hide q6
    have HTG:=hide HThG
    obtain⟨gm6,om6,oA6,oc6,-,d0',e0',e1',e2',e3',e4',dn',dp',-,-,-,-,-,-⟩:=q6.cells ht0
    change w6.cell? _=some (.int .i64 (V.nx 0:Int))at dn'
    rw [HV.out.2.2.1]at dn'
    clear q6 HThG d0 e0 e1 e2 e3 e4 dn dp NW NB NP NO o0 o1 o2 o3 o4 HTh HOps
    have HJ0:Hid (LgIn wA wn wc wG l w3 w6 L s k Λ g M T Ops On j mg is was O):=⟨_,_,_,_,_,_,HQ6.out,HV.out.1,rfl,.inl ⟨HV.out.2.2.1,by have:=HV.out.2.1;show(V.mu 0).st≠6;omega,HTG.out,fun _=>HV.out.2.2.2.1,fun e=>by have:=HV.out.2.1;have e':(V.mu 0).st=4:=e;omega⟩⟩
    clear d0' e0' e1' e2' e3' dp'
    go_wp2_with fail
    have HG0:Hid (j<On 0):=hj0
    clear hj0 HQ HSB HQ5 HJ HQ6 HTG dn'
    go_loopw [85] (fun _ wr=>LgIn wA wn wc wG l w3 wr L s k Λ g M T Ops On j mg is was O) (fun _ wr=>mW Λ (On 0) wr)
    case atStart=>exact HJ0.out
    case round=>
     obtain⟨V2,h2,x2,σ2,A2,Γ2,q,J⟩:=hrel
     obtain⟨gm2,om2,oA2,oc2,-,d0,-,e1,e2,-,e4,dn,-,hsb2,-,-,-,hnx,hcur⟩:=q.cells ht0
     have hs0:wr.cell? ⟨Λ.sb,0,none⟩=some (.bool mg):=by rw [← J.2.1];exact hsb2.cell 0
     have NS:=lt_of_cell hs0
     clear hsb2
     rw [Nat.add_zero]at d0
     have HId:=hide (q.idle ht0)
     have HQ2:=hide q
     have HJ2:=hide J
     have HCur:=hide hcur
     have NW:=lt_of_cell e4
     have NB:=lt_of_cell dn
     have NM:=lt_of_cell d0
     have HSt:Hid (∀w',Fr [] wr w'→Calls Tryz.prog 8 #[.pointer (some ⟨Λ.wb,0,none⟩),.int .i64 0] w' fun e w''=>e=.returned (.bool true)∧∃V' h' x' σ' A' Γ',AtL wA wn wc wG l w3 w'' L s k Λ g M T Ops On V' h' x' σ' A' Γ'∧WR 0 On Ops h2 h' Γ2 Γ' V2 V' σ2 σ' A2 A'):=fun w' hf=>(HQ2.out.fr0 (lLives _ _ _ _ _) hf).step (lLives _ _ _ _ _) HT3.out ht0
     have hway:V2.nx 0=j∨(V2.nx 0=j+1∧(V2.mu 0).st=6)∨(V2.nx 0=j+1∧(V2.mu 0).st=0∧Γ2.ox 0=l++lgW mg is was):=by
      rcases J.2.2 with e | ⟨e1,e2 | e2,e3⟩
      ·exact .inl e.1
      ·exact .inr (.inr ⟨e1,e2,e3⟩)
      ·exact .inr (.inl ⟨e1,e2⟩)
     clear q J hnx hcur
     rcases hway with e | ⟨e,e6⟩ | ⟨e,e60,eox⟩
     ·as_aux_lemma=>
      have HGo:Hid (V2.nx 0=j∨(V2.mu 0).st≠0):=.inl e
      rw [e]at dn
      have hb:((j:Int)==(j:Int))=true:=by simp
      clear e
      go_wp2_with fail
      refine(HSt.out _ (Fr.refl _ _)).mono ?_
      rintro e w7 ⟨rfl,V3,h3,x3,σ3,A3,Γ3,q3,r3⟩
      have J3:=LgJ.step HQ2.out q3 r3 ht0 HOe.out.symm HG0.out HGo.out HJ2.out
      have HM7:Hid (mW Λ (On 0) w7<mW Λ (On 0) wr):=by
       rw [AtD.mW q3 ht0,AtD.mW HQ2.out ht0]
       exact r3.left HJ2.out.1 HCur.out (by rcases HGo.out with e | e;exact .inr (by have:=HG0.out;omega);exact .inl e)
      have HE7:Hid (LgIn wA wn wc wG l w3 w7 L s k Λ g M T Ops On j mg is was O):=⟨V3,h3,x3,σ3,A3,Γ3,q3,J3⟩
      clear q3 r3 J3 HSt HQ2 HJ2
      go_wp2_with fail
      go_roundw
      case rel=>exact HE7.out
      case measure=>exact HM7.out
     ·as_aux_lemma=>
      have HGo:Hid (V2.nx 0=j∨(V2.mu 0).st≠0):=.inr (by omega)
      rw [e]at dn
      rw [show((V2.mu 0).st==0)=false by rw [e6];rfl]at HId
      have hb:(((j+1:Nat):Int)==(j:Int))=false:=by simp;omega
      clear e e6
      go_wp2_with fail
      refine HId.out.mono ?_
      rintro e w71 ⟨rfl,rfl⟩
      go_wp2_with fail
      refine(HSt.out _ (Fr.refl _ _)).mono ?_
      rintro e w7 ⟨rfl,V3,h3,x3,σ3,A3,Γ3,q3,r3⟩
      have J3:=LgJ.step HQ2.out q3 r3 ht0 HOe.out.symm HG0.out HGo.out HJ2.out
      have HM7:Hid (mW Λ (On 0) w7<mW Λ (On 0) wr):=by
       rw [AtD.mW q3 ht0,AtD.mW HQ2.out ht0]
       exact r3.left HJ2.out.1 HCur.out (by rcases HGo.out with e | e;exact .inr (by have:=HG0.out;omega);exact .inl e)
      have HE7:Hid (LgIn wA wn wc wG l w3 w7 L s k Λ g M T Ops On j mg is was O):=⟨V3,h3,x3,σ3,A3,Γ3,q3,J3⟩
      clear q3 r3 J3 HSt HQ2 HJ2
      go_wp2_with fail
      go_roundw
      case rel=>exact HE7.out
      case measure=>exact HM7.out
     ·rw [show((V2.mu 0).st==0)=true by rw [e60];rfl]at HId
      have HN2:Hid (V2.nx 0=j+1∧(V2.mu 0).st=0∧Γ2.ox 0=l++lgW mg is was):=⟨e,e60,eox⟩
      rw [e]at dn
      have hb:(((j+1:Nat):Int)==(j:Int))=false:=by simp;omega
      clear e e60 eox HSt
      have HLr:Hid (∀w',Fr [] wr w'→Lr w' 45 wA wn wc wG l):=fun w' hf=>(AtD.qx HQ2.out).fr0 hf
      have HLen:Hid (l.length=wn):=(AtD.qx HQ2.out).len
      have HNo:Hid (lgW mg is was=[]→LgO w3 wr L s k Λ g M T Ops On (.slice wA wn wc) (j+1)):=fun e=>⟨wA,wn,wc,wG,l,V2,h2,x2,σ2,A2,Γ2,rfl,HQ2.out,HJ2.out.1,HN2.out.2.1,HN2.out.1,by rw [HN2.out.2.2,e,List.append_nil],by have:=HV.out.2.2.2.2;omega,HV6.out⟩
      have HYes:Hid (lgW mg is was=[.int .u64 was]→∀wq w8 A' c' G',Fr [] wr wq→Lr w8 45 A' (wn+1) c' G' (l++[.int .u64 was])→Fr wG wq w8→(∀b,b∈G'→b∈wG∨(b=wq.heap.size∧0<1))→LgO w3 w8 L s k Λ g M T Ops On (.slice A' (wn+1) c') (j+1)):=fun e wq w8 A' c' G' hf hl hg hG=>
       ⟨A',wn+1,c',G',l++[.int .u64 was],V2,h2,x2,σ2,A2,Γ2,rfl,AtL.push HT3.out HQ2.out hf hl hg (fun b hb=>(hG b hb).elim .inl (fun e=>.inr (by omega))),HJ2.out.1,HN2.out.2.1,HN2.out.1,by rw [HN2.out.2.2,e],by rw [List.length_append];have:=HV.out.2.2.2.2;simp;omega,fun u hu=>by
        rcases List.mem_append.1 hu with hu | hu
        ·exact HV6.out u hu
        ·exact⟨was,by simpa using hu⟩⟩
      have HWn:Hid (wn+1≤maxLen∧(wn+1)*8≤140737488355328):=by
       have h9:=HLen.out
       have h8:=HV.out.2.2.2.2
       have h7:=HL60.out
       have h6:=HG0.out
       exact⟨by unfold maxLen;omega,by omega⟩
      have HJn:Hid (j+1≤On 0∧On 0≤60):=⟨HG0.out,HL60.out⟩
      clear HQ2 HJ2 HN2 HLen HCur
      have hlg:(mg=false∧lgW mg is was=[])∨(mg=true∧is=false∧lgW mg is was=[])∨(mg=true∧is=true∧was=0∧lgW mg is was=[])∨(mg=true∧is=true∧(was !=0)=true∧lgW mg is was=[.int .u64 was]):=by
       cases mg
       ·exact .inl ⟨rfl,by simp [lgW]⟩
       ·cases is
        ·exact .inr (.inl ⟨rfl,rfl,by simp [lgW]⟩)
        ·by_cases e:was=0
         ·exact .inr (.inr (.inl ⟨rfl,rfl,e,by simp [lgW,e]⟩))
         ·exact .inr (.inr (.inr ⟨rfl,rfl,by simpa using e,by simp [lgW,e]⟩))
      have hj60:j<60:=by have:=HJn.out;omega
      have HLG:=hide hlg
      clear hlg
      go_wp2_with fail
      refine HId.out.mono ?_
      rintro e w71 ⟨rfl,rfl⟩
      have hlg:=HLG.out
      clear HLG
      rcases hlg with⟨rfl,hl⟩ | ⟨rfl,rfl,hl⟩ | ⟨rfl,rfl,rfl,hl⟩ | ⟨rfl,rfl,hw,hl⟩
      ·as_aux_lemma=>
       have HE:=hide (HNo.out hl)
       clear HNo HYes hl
       go_wp2_with fail
       go_roundw
       case rel=>exact⟨j+1,by go_num,HJn.out.1,HE.out⟩
       case measure=>simp [intOf];have:=HJn.out;omega
      ·as_aux_lemma=>
       have HE:=hide (HNo.out hl)
       clear HNo HYes hl
       go_wp2_with fail
       go_roundw
       case rel=>exact⟨j+1,by go_num,HJn.out.1,HE.out⟩
       case measure=>simp [intOf];have:=HJn.out;omega
      ·as_aux_lemma=>
       have HE:=hide (HNo.out hl)
       clear HNo HYes hl
       go_wp2_with fail
       go_roundw
       case rel=>exact⟨j+1,by go_num,HJn.out.1,HE.out⟩
       case measure=>simp [intOf];have:=HJn.out;omega
      ·as_aux_lemma=>
       have HE:=hide (HYes.out hl)
       clear HNo HYes hl
       go_wp2_with (first | (at_builtin;go_loud (refine wpList_append_lr rfl _ _ 30 rfl 45 i0 (.int .u64 0) 8 Tryz.underlying30 hi hz0 hz1 hz2 rfl rfl (HLr.out _ ((Fr.refl _ _).alloc _)) rfl rfl (fun _=>one_of wr (.int .u64 was) 45 rfl _ (Fr.refl _ _)) (by intro u hu;simp at hu;rw [hu];rfl) HWn.out.1 HWn.out.2 ?_);intro A' c' G' w8 HLn HFn HGn))
       go_roundw
       case rel=>exact⟨j+1,by go_num,HJn.out.1,HE.out _ _ _ _ _ ((Fr.refl _ _).alloc _) HLn.out HFn.out HGn.out⟩
       case measure=>simp [intOf];have:=HJn.out;omega
   ·as_aux_lemma=>
    have h1:decide ((j:Int)<(nn:Int))=false:=by simp;omega
    have h2:decide (j<nn)=false:=by simpa using hgo
    have s1:=HSB.out.cell 1
    obtain⟨hov,hlr⟩:=AtD.log HQ.out ht0
    have hlw:Lr wr 45 wA wn wc wG l:=AtD.qx HQ.out
    rw [HV.out.2.2.2.1]at hlr
    have hon:Γ.on 0=wn:=hlr.len.symm.trans hlw.len
    rw [hov,hon]at cov
    rw [hon]at hlr
    generalize Γ.oA 0=bA at *
    generalize Γ.oc 0=bc at *
    generalize Γ.oG 0=bG at *
    obtain⟨w9,hw9⟩:∃w9,w9=wr:=⟨_,rfl⟩
    subst hw9
    have HF9:Hid (Fr [] w w9):=HF3.out.trans_same (AtD.fr HQ.out)
    have HL1:=hide hlr
    have HL2:=hide hlw
    have HWn:Hid (wn≤60):=by
     have h9:=hlw.len
     have h8:=HV.out.2.2.2.2
     have h7:=HL60.out
     have h6:=HJ.out
     show wn≤60
     omega
    clear hlr hlw hov hon hgo HQ HSB HOps
    go_wp2_with fail
    go_quiet (fail)
    go_wp2_with fail
    clear e0 e1 e2 e3 e4 d0 dn dp s0 s1 z0 cov NW NB NP NS h1 h2
    go_loopw [16] (fun i wr=>∃m:Nat,i=.int .i64 m∧m≤wn∧Fr [] w9 wr) (fun i _=>wn-(intOf i).toNat)
    case atStart=>exact⟨0,rfl,Nat.zero_le _,(Fr.refl _ _).drewN _⟩
    case round=>
     obtain⟨m,rfl,hm,hfr⟩:=hrel
     have HFr:=hide hfr
     have HM:=hide hm
     have hwn6:wn≤60:=HWn.out
     by_cases hgo:m<wn
     ·have h3:decide ((m:Int)<(wn:Int))=true:=by simpa using hgo
      have hmi:(m:Int)<(wn:Int):=by omega
      obtain⟨g1,f1,hb1,-,-,hc1,-,-⟩:=(HL1.out.fr0 hfr).pos (by omega)
      obtain⟨g2,f2,hb2,-,-,hc2,-,-⟩:=(HL2.out.fr0 hfr).pos (by omega)
      have k1:=hc1 m hgo
      have k2:=hc2 m hgo
      have hlen:=HL2.out.len
      obtain⟨z,hz⟩:∃z,l[m]?=some (.int .u64 z):=by
       obtain⟨z,e⟩:=HV6.out _ (List.getElem_mem (show m<l.length by omega))
       exact⟨z,by rw [List.getElem?_eq_getElem (show m<l.length by omega),e]⟩
      rw [hz]at k1 k2
      have hzz:(z !=z)=false:=by simp
      have HG:=hide hgo
      rw [hb1,hb2]
      have N1:=lt_of_cell k1
      have N2:=lt_of_cell k2
      have hm6:m<60:=by omega
      clear hb1 hb2 hc1 hc2 hz hlen hfr hm hgo HL1 HL2
      go_wp2_with fail
      go_quiet (fail)
      go_wp2_with fail
      go_roundw
      case rel=>exact⟨m+1,by go_num,by have:=HG.out;omega,HFr.out.trans_same ((Fr.refl _ _).drewN _)⟩
      case measure=>simp [intOf];have:=HG.out;omega
     ·have h3:decide ((m:Int)<(wn:Int))=false:=by simpa using hgo
      have h4:decide (m<wn)=false:=by simpa using hgo
      have HE:Hid (Fr [] w wr):=HF9.out.trans_same hfr
      clear hfr hm hgo
      go_wp2_with fail
      go_ret
      exact⟨rfl,HE.out⟩
end Go.Proofs.YtfcjdinlcehpmaaGreatDoor.MutateLogs
