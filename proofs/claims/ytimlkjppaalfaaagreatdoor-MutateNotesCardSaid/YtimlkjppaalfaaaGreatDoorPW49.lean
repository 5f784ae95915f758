/- MutateNotes: the walk. -/
import Derived.Test.YtimlkjppaalfaaaGreatDoorPW48
import Derived.StillTailTactics
import Derived.Deep.CutRange
set_option linter.unusedVariables false
set_option linter.unusedSimpArgs false
set_option maxHeartbeats 6400000
set_option maxRecDepth 100000
open List renaming getElem_cons_succ->C3,getElem_cons_zero->C4,getElem_toArray->C5,setIfInBounds_toArray->C6,set_cons_zero->C7,set_cons_succ->C8
open Nat renaming zero_le->Df
namespace Go.Proofs.YtimlkjppaalfaaaGreatDoor.MutateNotes
open Go.RowKit Go.Gl HS
theorem walk(c:Cfg){oA pA:Option Addr}{on oc pn pc:Nat}{zA:Nat->Option Addr}{zn zc:Nat->Nat}{f:Nat->Nat->Po}{ps:List Int}(w:World)(hT:Tab w)(hO:ky w oA on zA zn zc f)
  (hwf:∀i j,i<on->j<zn i->dH (f i j)/\0<=(f i j).v/\(f i j).v<18446744073709551616) (hP:Sl w pA pn (λk=>.int .i64 (ps.getD k 0))) (hps:∀z,z∈ps->-9223372036854775808<=z/\z<=9223372036854775807) (hpn:pn<=maxLen) :
  Calls Tryz.prog 3 #[c.val,.slice oA on oc,.slice pA pn pc] w λe w'=>e=.returned (.bool true)/\Fr [] w w':=by
 have HT:=aa hT;have HBg:Hid (∀w',Fr [] w w'->Calls Tryz.prog 5 #[c.val,.slice oA on oc] w' (qU w' c on zA zn zc f)):=λw' hf=>vQ c w' (hT.fr hf (by simp)) (hO.fr0 hf) hwf;obtain⟨i0,hi,hz0,hz1,hz2⟩:=info_parts Tryz.ce;have HPk:Hid (∀k w',k<pn->Fr [] w w'->∃b off,pA=some ⟨b,off,none⟩/\w'.cell? ⟨b,off+k,none⟩=some (.int .i64 (ps.getD k 0))):=λk w' hk hf=>by
  obtain⟨b,off,e1,e2,e3⟩:=hP (by omega);exact⟨b,off,e1,(hf.cell (p:=⟨b,off+k,none⟩) e2 (by simp)).trans (e3 k hk)⟩
 have HPb:Hid (∀k,-9223372036854775808<=ps.getD k 0/\ps.getD k 0<=9223372036854775807):=λk=>by
  rw[List.getD_eq_getElem?_getD];by_cases h:k<ps.length
  ·rw[List.getElem?_eq_getElem h];exact hps _ (List.getElem_mem h)
  ·rw[List.getElem?_eq_none (by omega)];exact⟨by decide,by decide⟩
 have hpm:pn<=9223372036854775807:=by unfold maxLen at hpn;omega
 clear hT hO hwf hP hps hpn;unfold Cfg.val at HBg ⊢;go_enter Tryz.func3,Tryz.ntmps3
 go_wp2_with fail
 refine(qS _ ((HT.out.alloc _))).mono ?_;rintro e w1 ⟨rfl,hf⟩;have hb:=(Blk.new w 23 c.cells).fr hf (by simp);have HF1:Hid (Fr [] w w1):=((Fr.refl _ _).alloc _).ae hf;obtain⟨a0,a1,a2,a3,a4,a5,a6,a7,a8,a9,a10,a11,a12,a13⟩:=mD.of hb;have N0:w.heap.size<w1.heap.size:=af a0;have HB1:=aa (HBg.out w1 HF1.out);clear hf hb HBg;go_wp2_with fail
 refine HB1.out.mono ?_;intro e w2 hB;clear a0 a1 a2 a3 a4 a5 a6 a7 a8 a9 a10 a11 a12 a13 N0 HB1;rcases hB with⟨rfl,hf⟩|⟨T,M,g,s,k,tg,L,X,Λ,h,x,rfl,hth,hT1,hT64,hA,hP0⟩
 ·have HF2:=aa (HF1.out.ae hf);clear hf;go_wp2_with fail
  go_ret
  exact⟨rfl,HF2.out⟩
 ·have HI0:Hid (kD w1 w2 L s k Λ g M T (iQ on zn f) (po on zn) (λV _ _ _ _ _=>V.sy=false)):=⟨_,h,x,G0,_,_,⟨rfl,X,_,hA,hP0⟩,rfl⟩;have HTT:Hid (1<=T/\T<=64):=⟨hT1,hT64⟩;have hT1i:(1:Int)<=(T:Int):=by omega
  have hT64i:(T:Int)<=64:=by omega
  have HT1:Hid (Tab w1):=HT.out.fr HF1.out (by simp);clear hA hP0 hth hT1 hT64;go_wp2_with fail
  go_loopw [9] (λi wr=>∃n:Nat,i=.int .i64 n/\n<=400/\kD w1 wr L s k Λ g M T (iQ on zn f) (po on zn) (λV _ _ _ _ _=>V.sy=false)) (λi _=>400-(intOf i).toNat)
  case atStart=>exact⟨0,rfl,by omega,HI0.out⟩
  case round=>
   obtain⟨n,rfl,hn,hI⟩:=hrel;have HI:=aa hI;have HFr:Hid (Fr [] w wr):=HF1.out.ae hI.fr;by_cases hgo:n<pn/\n<400
   ·have h1:(n:Int)<(pn:Int):=by omega
    have h2:(n:Int)<400:=by omega
    have h3:decide ((n:Int)<(pn:Int))=true:=by simpa using h1
    have HL:=aa hgo;obtain⟨b,off,hpA,q0⟩:=HPk.out n wr hgo.1 HFr.out;obtain⟨V,hh,xx,σ,A,Γ,g1,g2⟩:=hI;have d2:=g1.cells;have HPick:=aa (λw'=>yJ (ps.getD n 0) (HPb.out n) HTT.out.1 HTT.out.2 w');subst hpA;obtain⟨p,hp⟩:∃p,p=ps.getD n 0:=⟨_,rfl⟩;rw[<- hp]at q0 HPick;have HG1:=aa g1;have HG2:=aa g2;have NQ:=af q0;have ND:=af d2;have HStp:Hid (∀t,t<T->Calls Tryz.prog 6 #[.pointer (some ⟨Λ.wb,0,none⟩),.int .i64 (t:Int)] wr.drew λe w'=>e=.returned (.bool true)/\∃V' h' x' σ' A' Γ',iw w1 w' L s k Λ g M T (iQ on zn f) (po on zn) V' h' x' σ' A' Γ'/\WR t (po on zn) (iQ on zn f) hh h' Γ Γ' V V' σ σ' A A'):=λt ht=>(HG1.out.fr0 (Fr.refl _ _).drew).step HT1.out ht;have HK:Hid (∀w4,Fr [] w1 w4->w4.cell? ⟨Λ.wb,2,none⟩=some (.slice Λ.mA T Λ.mc)->w4.cell? ⟨b,off+n,none⟩=some (.int .i64 p)/\w4.cell? ⟨Λ.wb,2,none⟩=some (.slice Λ.mA T Λ.mc)):=λw4 hf h2=>by
     obtain⟨b',off',e1,e2⟩:=HPk.out n w4 HL.out.1 (HF1.out.ae hf);injection e1 with e1;injection e1 with e1 e3;subst e1 e3;rw[hp];exact⟨e2,h2⟩
    clear hp g1 g2 HI0 hgo HPk HPb;go_wp2_with fail
    go_region_held3 (λw'=>w'.cell? ⟨b,off+n,none⟩=some (.int .i64 p)/\w'.cell? ⟨Λ.wb,2,none⟩=some (.slice Λ.mA T Λ.mc))
     (first|exact⟨q0,d2⟩|exact HK4.out|go_keep)
     (first|(go_at_call 7;refine(HPick.out _).mono ?_;rintro e w3 ⟨t,ht,rfl,rfl⟩;have HT3:=aa ht;have HS3:=aa (HStp.out _ ht))|(go_at_call 6;refine HS3.out.mono ?_;rintro e w4 ⟨rfl,V',h',x',σ',A',Γ',r1,r2⟩;have HK4:=aa (HK.out _ r1.fr r1.cells);have HR1:=aa r1;have HR2:=aa r2))
    all_goals
     have HE:Hid (kD w1 w4 L s k Λ g M T (iQ on zn f) (po on zn) (λV _ _ _ _ _=>V.sy=false)):=⟨V',h',x',σ',A',Γ',HR1.out,HR2.out.sy.1.trans HG2.out⟩;clear r1 r2 HR1 HR2 HS3 HG1 HG2 HStp HK4;go_wp2_with fail
     go_roundw
     case rel=>exact⟨n+1,by go_num,by have:=HL.out;omega,HE.out⟩
     case measure=>simp[intOf];have:=HL.out;omega
   ·have hcond:(¬ n<pn/\decide ((n:Int)<(pn:Int))=false)\/(n<pn/\¬ n<400/\decide ((n:Int)<400)=false):=by
     by_cases e:n<pn
     ·exact .inr ⟨e,by omega,by simp;omega⟩
     ·exact .inl ⟨e,by simpa using e⟩
    have HR:=aa (yK HT1.out HTT.out.2 HI.out);clear hI hgo HI0 HPk HPb hn;go_upto_region 7 with fail
    go_cut [38] from 31 to 38 (λp wc=>p=.bool false/\wc=wr)
    case first=>
     rcases hcond with⟨h0,h1⟩|⟨h0,h1,h2⟩;all_goals
      go_wp2_with fail
      go_meet
      case rel=>exact⟨rfl,rfl⟩
    case rest=>
     obtain⟨rfl,hwc⟩:=hcut;subst hwc;clear hcond;go_wp2_with fail
     refine HR.out.mono ?_;rintro e w3 ⟨rfl,V,hh,xx,σ,A,Γ,r1,r2,r3⟩;obtain⟨X,E,D,Q,dl,dA,dc,dG,n1,n2,n3,n4,n5,n6,n7,n8⟩:=r1.notes r3;have HS:=aa n1;have HM0:=aa (HMl.nil HT1.out n2);have HCl:=aa n3;have HRd0:=aa n4;have HNL:=aa n5;have HPm:=aa n6;have HQK:=aa n7;have HDB:=aa n8;have HOK:=aa n2.ok;clear n1 n2 n3 n4 n5 n6 n7 n8 r1 r2 r3 HR;have hRb:hh.R<=65536:=by have:=HOK.out.geo.jb;have:=HOK.out.rg;omega
     have HGc:Hid (∀w' X' x' D' Q',HM w1 w' L X' hh x' s k E D' Q'->w'.cell? ⟨L.hb,17,none⟩=some (.int .i64 (hh.R:Int))):=λw' X' x' D' Q' q=>by rw[q.hr.geo.2.2.2.1,q.ok.rg]
     go_wp2_with fail
     go_loopw [10,11] (λv i wr=>∃n:Nat,∃A c G,i=.int .i64 n/\n<=hh.R/\v=.slice A n c/\HMl w1 wr L X hh xx s k E D Q A n c G (zv (rgn n))) (λ_ i _=>hh.R-(intOf i).toNat)
     case atStart=>exact⟨0,none,0,[],rfl,Df _,rfl,HM0.out⟩
     case round=>
      obtain⟨n,hA,hc,hG,rfl,hn,rfl,ho⟩:=hrel;have HO:=aa ho;clear ho HM0;obtain⟨d0,d6⟩:=HCl.out _ _ _ _ _ HO.out.hm;have g3:=HGc.out _ _ _ _ _ HO.out.hm;by_cases hlt:n<hh.R
      ·have hlt1:(n:Int)<(hh.R:Int):=by omega
       have HLA:Hid (Lr (wr.alloc (.cells #[.int .i64 (n:Int)] 3)) 3 hA n hc hG (zv (rgn n))):=HO.out.lr.alloc _;have HNB:Hid (n+1<=maxLen/\(n+1)*8<=140737488355328):=⟨by unfold maxLen;omega,by omega⟩;clear d6;go_wp2_with (at_builtin;refine aS rfl _ _ 25 rfl 3 i0 (.int .i64 0) 8 Tryz.underlying25 hi hz0 hz1 hz2 rfl rfl HLA.out rfl (by rfl) (λ_=>fq wr (.int .i64 (n:Int)) 3 rfl _ (Fr.refl _ _)) (by intro u hu;simp at hu;subst hu;rfl) HNB.out.1 HNB.out.2 ?_;intro A' c' G' w7 HLn HFn HGn)
       go_roundw
       case rel=>exact⟨n+1,A',c',G',by go_num,by omega,rfl,(HO.out.fr0 HS.out ((Fr.refl _ _).alloc _)).app HS.out HT1.out (by rw[yL,gK];exact HLn.out) HFn.out (λg hg=>(HGn.out g hg).imp id (λh9=>by rw[h9.1];exact Nat.le_refl _))⟩
       case measure=>simp[intOf];omega
      ·obtain rfl:n=hh.R:=by omega
       clear d6;go_wp2_with fail
       go_loopw [12] (λi wr=>∃j:Nat,i=.int .i64 j/\j<=hh.R/\HMl w1 wr L X hh xx s k E D Q hA hh.R hc hG (zv (rgn hh.R))) (λi _=>hh.R-(intOf i).toNat)
       case atStart=>exact⟨0,rfl,Df _,HO.out⟩
       case round=>
        obtain⟨j,rfl,hj,ho2⟩:=hrel;have HO2:=aa ho2;clear ho2 HO d0 g3 hn hlt;obtain⟨d0,d6⟩:=HCl.out _ _ _ _ _ HO2.out.hm;have g3:=HGc.out _ _ _ _ _ HO2.out.hm;by_cases hlt:j<hh.R
        ·have hlt1:(j:Int)<(hh.R:Int):=by omega
         obtain⟨wo,hwo⟩:∃wo,wo=wr:=⟨_,rfl⟩;subst hwo;have HLo:=aa (HO2.out.hm.CG (HMl.iR HS.out _ _ _ _ _) (j:=j) (by omega));have HZL:=aa (HNL.out [(j:Int)]);generalize hh.dQ xx.σ xx.per [(j:Int)]=zl at *;obtain⟨zn,hzn⟩:∃zn,zn=zl.length:=⟨_,rfl⟩;have HZN:=aa hzn;rw[<- hzn]at HLo;clear hzn d6;go_wp2_with fail
         refine HLo.out.mono ?_;rintro e w4 ⟨A4,c4,G4,rfl,hl4,hm4⟩;have hzb:zn<=9223372036854775807:=by have a:=hl4.le;have b:=hl4.max;unfold maxLen at b;omega
         have HL4:=aa hl4;have HM4:Hid (HMl w1 w4 L X hh xx s k E D Q hA hh.R hc hG (zv (rgn hh.R))):=⟨hm4,HO2.out.ap⟩;clear hl4 hm4 HLo d0 g3 HO2;go_wp2_with fail
         go_loopw [14] (λi wr=>∃m:Nat,i=.int .i64 m/\m<=zn/\Fr [] w4 wr) (λi _=>zn-(intOf i).toNat)
         case atStart=>exact⟨0,rfl,Df _,Fr.refl _ _⟩
         case round=>
          obtain⟨m,rfl,hm,hf⟩:=hrel;have HF:=aa hf;have HM5:=aa (HM4.out.fr0 HS.out hf);by_cases hlt2:m<zn
          ·have hlt3:(m:Int)<(zn:Int):=by omega
           have hml:m<zl.length:=by have:=HZN.out;omega
           have HL5:=aa (HL4.out.fr0 hf);obtain⟨b,off,rfl,hb0,hcl⟩:=HL5.out.slz (by omega);have HZM:=aa (HZL.out (zl.getD m 0) (by simp[hml]));have hc0:wr.cell? ⟨b,off+m,none⟩=some (.int .i64 (zl.getD m 0)):=hcl m hlt2;clear hcl hf;have HH2:=aa HM5.out.hm.hr;have HMZ:=aa HM5.out.hm;obtain⟨d0,d6⟩:=HCl.out _ _ _ _ _ HM5.out.hm;have S2:Hid (kK (Fr [] wr)):=λa b h1 h2=>h1.ae h2;have c0:∀u:Cls (Fr [] wr),u.w.cell? ⟨Λ.wb,0,none⟩=some (.pointer (some ⟨L.hb,0,none⟩)):=λu=>u.cell d0 (by simp);have c23:∀u:Cls (Fr [] wr),u.w.cell? ⟨L.hb,23,none⟩=some (.pointer (some ⟨X.cb,0,none⟩)):=λu=>u.cell HMZ.out.Aa.2.1 (by simp);have g0:∀u:Cls (Fr [] wr),u.w.cell? ⟨L.hb,14,none⟩=some (.int .i64 hh.g.words):=λu=>u.cell HH2.out.geo.1 (by simp);have g1:∀u:Cls (Fr [] wr),u.w.cell? ⟨L.hb,15,none⟩=some (.int .i64 hh.g.rw):=λu=>u.cell HH2.out.geo.2.1 (by simp);have g2:∀u:Cls (Fr [] wr),u.w.cell? ⟨L.hb,16,none⟩=some (.int .i64 hh.g.cw):=λu=>u.cell HH2.out.geo.2.2.1 (by simp);have g3:∀u:Cls (Fr [] wr),u.w.cell? ⟨L.hb,17,none⟩=some (.int .i64 hh.g.regions):=λu=>u.cell HH2.out.geo.2.2.2.1 (by simp);have g4:∀u:Cls (Fr [] wr),u.w.cell? ⟨L.hb,18,none⟩=some (.int .i64 hh.g.aF):=λu=>u.cell HH2.out.geo.2.2.2.2.1 (by simp);have g5:∀u:Cls (Fr [] wr),u.w.cell? ⟨L.hb,19,none⟩=some (.int .i64 hh.g.max):=λu=>u.cell HH2.out.geo.2.2.2.2.2 (by simp);have x0:∀u:Cls (Fr [] wr),u.w.cell? ⟨b,off+m,none⟩=some (.int .i64 (zl.getD m 0)):=λu=>u.cell hc0 (by simp);have HCD:Hid (∀u:Cls (Fr [] wr),Calls Tryz.prog 11 #[.agg #[.int .i64 hh.g.words,.int .i64 hh.g.rw,.int .i64 hh.g.cw,.int .i64 hh.g.regions,.int .i64 hh.g.aF,.int .i64 hh.g.max],.int .i64 (zl.getD m 0)] u.w λe w3=>e=.returned (.int .i64 (hh.g.aV (zl.getD m 0)))/\∃u':Cls (Fr [] wr),w3=u'.w):=λu=>Cls.grow (HH2.out.card (zl.getD m 0) u.ok);have HIS:Hid (∀u:Cls (Fr [] wr),Calls Tryz.prog 10 #[.pointer (some ⟨X.cb,0,none⟩),.int .i64 (hh.g.aV (zl.getD m 0))] u.w λe w3=>e=.returned (.bool true)/\∃u':Cls (Fr [] wr),w3=u'.w):=λu=>Cls.grow (((HMZ.out.fr0 (HMl.iR HS.out _ _ _ _ _) u.ok).zZ (hh.g.aV (zl.getD m 0))).mono (λe w3 q=>⟨by rw[q.1,HZM.out],by obtain⟨k3,e3⟩:=q.2;rw[e3];exact(Fr.refl _ _).drewN k3⟩));clear d0 d6 hc0;have N0:Nonempty (Cls (Fr [] wr)):=⟨⟨wr,Fr.refl _ _⟩⟩;generalize hh.g.aV (zl.getD m 0)=cd at *;generalize zl.getD m 0=z at *;go_wp2_with fail
           refine bV (Fr [] wr) (by kernel_rfl) (by kernel_rfl) (Cls.drew S2.out ⟨wr,Fr.refl _ _⟩) ?_
           repeat (go_big_quiet_step (first|(go_at_call 11;exact HCD.out _)|(go_at_call 10;exact HIS.out _)))
           refine wpQuiet_nil ?_;rintro _ ⟨u1,rfl⟩;have HF6:=aa (HF.out.ae u1.ok);clear HCD HIS c0 c23 g0 g1 g2 g3 g4 g5 x0;generalize u1.w=w6 at *;go_wp2_with fail
           go_roundw
           case rel=>exact⟨m+1,by go_num,by omega,HF6.out⟩
           case measure=>simp[intOf];omega
          ·obtain rfl:m=zn:=by omega
           go_wp2_with fail
           go_roundw
           case rel=>exact⟨j+1,by go_num,by omega,HM5.out⟩
           case measure=>simp[intOf];omega
        ·obtain rfl:j=hh.R:=by omega
         clear hlt hj;go_wp2_with fail
         have HK0:Hid (wr.cell? ⟨Λ.wb,0,none⟩=some (.pointer (some ⟨L.hb,0,none⟩))/\wr.cell? ⟨L.hb,24,none⟩=some (.pointer (some ⟨X.qb,0,none⟩))/\wr.cell? ⟨Λ.wb,6,none⟩=some (.slice dA dl.length dc)):=⟨d0,HO2.out.hm.Aa.2.2.1,d6⟩;have HDr0:=aa ((HO2.out.hm.fr0 (HMl.iR HS.out _ _ _ _ _) ((Fr.refl [] wr).drew)).Aw (HMl.iR HS.out _ _ _ _ _) HQK.out);have HPl:Hid ((below xx.C (hh.R*xx.per)).length=(xx.qc++bi xx.ql hh.T).length+dl.length):=by
          have:=HPm.out.length_eq;rw[List.length_append,List.length_map]at this;exact this.symm
         have HPi:Hid (∀c:Nat,c∈below xx.C (hh.R*xx.per)->(c:Int)∈(xx.qc++bi xx.ql hh.T)++dl):=λc hc=>HPm.out.mem_iff.2 (List.mem_map.2 ⟨c,hc,rfl⟩);have HWB:Hid ((xx.qc++bi xx.ql hh.T).length<=65728):=by
          show _<=_;have h1:=HQK.out.cat;have h2:=HQK.out.c;have h3:=HQK.out.b;rw[List.length_append];omega
         have HBL0:Hid (∀w' F A n c G xs,HMl w1 w' L { X with qF:=F } hh { xx with qc:=[],ql:=λ_=>[] } s k E (λb=>D b\/b∈hG) (λw=>Q w/\Lr w 3 hA hh.R hc hG (zv (rgn hh.R))) A n c G xs->Calls Tryz.prog 13 #[.pointer (some ⟨X.cb,0,none⟩)] w' (gB w' (below xx.C (hh.R*xx.per)))):=λw' F A n c G xs q=>q.hm.Cr;unfold gB at HBL0;generalize below xx.C (hh.R*xx.per)=bl at *;generalize xx.qc++bi xx.ql hh.T=wl at *;obtain⟨wn,hwn⟩:∃wn,wn=wl.length:=⟨_,rfl⟩;obtain⟨dn,hdn⟩:∃dn,dn=dl.length:=⟨_,rfl⟩;have HWN:=aa hwn;have HDN:=aa hdn;rw[<- hwn]at HDr0 HPl HWB;rw[<- hdn]at HPl HDB HK0;obtain⟨tn,htn⟩:∃tn,tn=wn+dn:=⟨_,rfl⟩;have HTN:=aa htn;rw[HPl.out,<- htn]at HBL0;have HDr:=HDr0;clear HDr0 d0 d6 g3 hwn hdn htn;have HKq:Hid (∀w' F A n c G xs,HMl w1 w' L { X with qF:=F } hh { xx with qc:=[],ql:=λ_=>[] } s k E (λb=>D b\/b∈hG) (λw=>Q w/\Lr w 3 hA hh.R hc hG (zv (rgn hh.R))) A n c G xs->w'.cell? ⟨Λ.wb,0,none⟩=some (.pointer (some ⟨L.hb,0,none⟩))/\w'.cell? ⟨L.hb,24,none⟩=some (.pointer (some ⟨X.qb,0,none⟩))/\w'.cell? ⟨Λ.wb,6,none⟩=some (.slice dA dn dc)):=λw' F A n c G xs q=>by
          obtain⟨q0,q6⟩:=HCl.out _ _ _ _ _ q.hm;rw[<- HDN.out]at q6;exact⟨q0,q.hm.Aa.2.2.1,q6⟩
         have HNW:Hid ((zv dl).length=dn/\(∀u∈zv dl,u.oneCell'=true)/\wn+dn<=maxLen/\(wn+dn)*8<=140737488355328):=by
          have h1:=HDB.out;have h2:=HWB.out;refine⟨by rw[HDN.out];simp[zv],λu hu=>?_,by unfold maxLen;omega,by omega⟩;obtain⟨z,_,rfl⟩:=List.mem_map.1 hu;rfl
         have HRd:Hid (∀w',(Q w'/\Lr w' 3 hA hh.R hc hG (zv (rgn hh.R)))->0<dn->∃ad,dA=some ad/\∀j u,(zv dl)[j]?=some u->w'.cell? (ad.add j)=some u):=λw' q hp=>by
          have:=HRd0.out w' q.1;rw[<- HDN.out]at this;exact this.read hp
         have HZV:Hid (zv (wl++dl)=zv wl++zv dl):=gK _ _;clear HRd0;refine wp_region_held_drew (S:=λw'=>w'.cell? ⟨Λ.wb,0,none⟩=some (.pointer (some ⟨L.hb,0,none⟩))/\w'.cell? ⟨L.hb,24,none⟩=some (.pointer (some ⟨X.qb,0,none⟩))/\w'.cell? ⟨Λ.wb,6,none⟩=some (.slice dA dn dc)) (by kernel_rfl) (HK0.out) (λhHeld=>?_);refine wpAnyH_take (i:=0) (v:=?v0x1) rfl (by kernel_rfl) (by kernel_rfl) (by kernel_rfl) (λ_ _ _ h=>h) (Or.inl ⟨by rfl,?hy0x1⟩) (by assumption) ?rest0x1;case hy0x1=>(intro w' hSw;(try dsimp only at hSw);(try simp only[C5,C3,C4]);(first|(go_simp;done)|(go_simp;with_reducible rfl)))
         (try simp only[Act.put,C5,C3,C4,C6,C7,C8])
         refine wpAnyH_take (i:=1) (v:=?v1x2) rfl (by kernel_rfl) (by kernel_rfl) (by kernel_rfl) (λ_ _ _ h=>h) (Or.inl ⟨by rfl,?hy1x2⟩) (by assumption) ?rest1x2;case hy1x2=>(intro w' hSw;(try dsimp only at hSw);(try simp only[C5,C3,C4]);(first|(go_simp;done)|(go_simp;with_reducible rfl)))
         (try simp only[Act.put,C5,C3,C4,C6,C7,C8])
         refine wpAnyH_take (i:=2) (v:=?v2x3) rfl (by kernel_rfl) (by kernel_rfl) (by kernel_rfl) (λ_ _ _ h=>h) (Or.inl ⟨by rfl,?hy2x3⟩) (by assumption) ?rest2x3;case hy2x3=>(intro w' hSw;(try dsimp only at hSw);(try simp only[C5,C3,C4]);(first|(go_simp;done)|(go_simp;with_reducible rfl)))
         (try simp only[Act.put,C5,C3,C4,C6,C7,C8])
         refine wpAnyH_take (i:=3) (v:=?v3x4) rfl (by kernel_rfl) (by kernel_rfl) (by kernel_rfl) (λ_ _ _ h=>h) (Or.inl ⟨by rfl,?hy3x4⟩) (by assumption) ?rest3x4;case hy3x4=>(intro w' hSw;(try dsimp only at hSw);(try simp only[C5,C3,C4]);(first|(go_simp;done)|(go_simp;with_reducible rfl)))
         (try simp only[Act.put,C5,C3,C4,C6,C7,C8])
         refine wpAnyH_take (i:=4) (v:=?v4x5) rfl (by kernel_rfl) (by kernel_rfl) (by kernel_rfl) (λ_ _ _ h=>h) (Or.inl ⟨by rfl,?hy4x5⟩) (by assumption) ?rest4x5;case hy4x5=>(intro w' hSw;(try dsimp only at hSw);(try simp only[C5,C3,C4]);(first|(go_simp;done)|(go_simp;with_reducible rfl)))
         (try simp only[Act.put,C5,C3,C4,C6,C7,C8])
         refine wpAnyH_take (i:=5) (v:=?v5x6) rfl (by kernel_rfl) (by kernel_rfl) (by kernel_rfl) (λ_ _ _ h=>h) (Or.inl ⟨by rfl,?hy5x6⟩) (by assumption) ?rest5x6;case hy5x6=>(intro w' hSw;(try dsimp only at hSw);(try simp only[C5,C3,C4]);(first|(go_simp;done)|(go_simp;with_reducible rfl)))
         (try simp only[Act.put,C5,C3,C4,C6,C7,C8])
         refine wpAnyH_take (i:=6) (v:=?v6x7) rfl (by kernel_rfl) (by kernel_rfl) (by kernel_rfl) (λ_ _ _ h=>h) (Or.inl ⟨by rfl,?hy6x7⟩) (by assumption) ?rest6x7;case hy6x7=>(intro w' hSw;(try dsimp only at hSw);(try simp only[C5,C3,C4]);(first|(go_simp;done)|(go_simp;with_reducible rfl)))
         (try simp only[Act.put,C5,C3,C4,C6,C7,C8])
         refine wpAnyH_take (i:=8) (v:=?v8x8) rfl (by kernel_rfl) (by kernel_rfl) (by kernel_rfl) (λ_ _ _ h=>h) (Or.inl ⟨by rfl,?hy8x8⟩) (by assumption) ?rest8x8;case hy8x8=>(intro w' hSw;(try dsimp only at hSw);(try simp only[C5,C3,C4]);(first|(go_simp;done)|(go_simp;with_reducible rfl)))
         (try simp only[Act.put,C5,C3,C4,C6,C7,C8])
         refine wpAnyH_take (i:=9) (v:=?v9x9) rfl (by kernel_rfl) (by kernel_rfl) (by kernel_rfl) (λ_ _ _ h=>h) (Or.inl ⟨by rfl,?hy9x9⟩) (by assumption) ?rest9x9;case hy9x9=>(intro w' hSw;(try dsimp only at hSw);(try simp only[C5,C3,C4]);(first|(go_simp;done)|(go_simp;with_reducible rfl)))
         (try simp only[Act.put,C5,C3,C4,C6,C7,C8])
         refine wpAnyH_take (i:=10) (v:=?v10x10) rfl (by kernel_rfl) (by kernel_rfl) (by kernel_rfl) (λ_ _ _ h=>h) (Or.inl ⟨by rfl,?hy10x10⟩) (by assumption) ?rest10x10;case hy10x10=>(intro w' hSw;(try dsimp only at hSw);(try simp only[C5,C3,C4]);(first|(go_simp;done)|(go_simp;with_reducible rfl)))
         (try simp only[Act.put,C5,C3,C4,C6,C7,C8])
         refine wpAnyH_take (i:=11) (v:=?v11x11) rfl (by kernel_rfl) (by kernel_rfl) (by kernel_rfl) (λ_ _ _ h=>h) (Or.inl ⟨by rfl,?hy11x11⟩) (by assumption) ?rest11x11;case hy11x11=>(intro w' hSw;(try dsimp only at hSw);(try simp only[C5,C3,C4]);(first|(go_simp;done)|(go_simp;with_reducible rfl)))
         (try simp only[Act.put,C5,C3,C4,C6,C7,C8])
         refine wpAnyH_ready (rs:=[7]) (by kernel_rfl) (by simp) ?_;refine AllReadyH.cons rfl (λK hK=>?_) AllReadyH.nil;(try simp only[C5,C3,C4])
         go_simp
         go_at_call 12
         refine HDr.out.mono ?_;rintro e w5 ⟨F5,A5,c5,G5,rfl,hM5⟩;have HM5:=aa hM5;have HK5:=aa (HKq.out _ _ _ _ _ _ _ hM5);clear hM5;(try go_wp2_with fail)
         refine hK.out _ _ (HK5.out) (λhHeld=>?_);clear hK K;(try simp only[Act.put,C6,C7,C8])
         refine wpAnyH_ready (rs:=[12]) (by kernel_rfl) (by simp) ?_;refine AllReadyH.cons rfl (λK hK=>?_) AllReadyH.nil;(try simp only[C5,C3,C4])
         rw[if_pos (by rfl)];refine nV _ _ 25 rfl 3 i0 (.int .i64 0) 8 Tryz.underlying25 hi hz0 hz1 hz2 rfl rfl HM5.out.lr rfl HNW.out.1 (HRd.out _ HM5.out.hm.q.1) HNW.out.2.1 HNW.out.2.2.1 HNW.out.2.2.2 ?_;intro A6 c6 G6 w6 HLn HFn HGn;have HM6:Hid (HMl w1 w6 L { X with qF:=F5 } hh { xx with qc:=[],ql:=λ_=>[] } s k E (λb=>D b\/b∈hG) (λw=>Q w/\Lr w 3 hA hh.R hc hG (zv (rgn hh.R))) A6 (wn+dn) c6 G6 (zv (wl++dl))):=HM5.out.app (HMl.iR HS.out _ _ _ _ _) HT1.out (by rw[HZV.out];exact HLn.out) HFn.out (λg hg=>(HGn.out g hg).imp id (λh9=>by rw[h9.1];exact Nat.le_refl _));have HK6:=aa (HKq.out _ _ _ _ _ _ _ HM6.out);refine hK.out _ _ (HK6.out) (λhHeld=>?_);clear hK K;(try simp only[Act.put,C6,C7,C8])
         refine wpAnyH_take (i:=13) (v:=?v13x12) rfl (by kernel_rfl) (by kernel_rfl) (by kernel_rfl) (λ_ _ _ h=>h) (Or.inl ⟨by rfl,?hy13x12⟩) (by assumption) ?rest13x12;case hy13x12=>(intro w' hSw;(try dsimp only at hSw);(try simp only[C5,C3,C4]);(first|(go_simp;done)|(go_simp;with_reducible rfl)))
         (try simp only[Act.put,C5,C3,C4,C6,C7,C8])
         refine wpAnyH_done (by kernel_rfl) ?_ _;rw[<- HTN.out]at HM6 ⊢;clear HDr HM5 HK5 HK6 HKq HNW HRd HLn HFn HGn;obtain⟨d0,d6⟩:=HCl.out _ _ _ _ _ HM6.out.hm;have d23:=HM6.out.hm.Aa.2.1;have HBL:=aa (HBL0.out _ _ _ _ _ _ _ HM6.out);clear d6 HBL0;go_wp2_with fail
         refine HBL.out.mono ?_;rintro e w7 ⟨v7,rfl,hown,hf7⟩;obtain⟨A7,c7,G7,rfl,hl7,hG7⟩:=Lr.wI hown;have HL7:=aa hl7;have HM7:=aa (HM6.out.fr0 (HMl.iR HS.out _ _ _ _ _) hf7);have hbl:tn=bl.length:=by rw[HTN.out,HPl.out]
         have hwl:tn=(wl++dl).length:=by rw[HTN.out,HWN.out,HDN.out,List.length_append]
         have HBN:=aa hbl;have HWL:=aa hwl;have HTB:Hid (tn<=81088):=by show _<=_;have h1:=HDB.out;have h2:=HWB.out;have h3:=HTN.out;omega
         have htb:tn<=81088:=HTB.out;clear hown hf7 hl7 hG7 hbl hwl HBL d0 d23 HM6;generalize wl++dl=al at *;go_wp2_with fail
         go_loopw [17] (λi wr=>∃a:Nat,i=.int .i64 a/\a<=tn/\Fr [] w7 wr) (λi _=>tn-(intOf i).toNat)
         case atStart=>exact⟨0,rfl,Df _,Fr.refl _ _⟩
         case round=>
          obtain⟨a,rfl,ha,hf8⟩:=hrel;obtain⟨wo,hwo⟩:∃wo,wo=wr:=⟨_,rfl⟩;subst hwo;have HF8:=aa hf8;clear hf8;by_cases hlt:a<tn
          ·have hlt1:(a:Int)<(tn:Int):=by omega
           have hal:a<bl.length:=by have:=HBN.out;omega
           have HIN:=aa (HPi.out (bl.getD a 0) (by simp[hal]));have HX7:Hid (∀w',Fr [] wo w'->∃b off,A7=some ⟨b,off,none⟩/\w'.cell? ⟨b,off+a,none⟩=some (.int .i64 ((bl.getD a 0:Nat):Int))):=λw' hf=>by
            obtain⟨b,off,e1,e2,e3⟩:=(HL7.out.fr0 (HF8.out.ae hf)).sl (by omega);refine⟨b,off,e1,(e3 a hlt).trans ?_⟩;simp[jU,hal]
           generalize ((bl.getD a 0:Nat):Int)=y at *;go_wp2_with fail
           go_loopw [18,19] (λv i wr=>∃q:Nat,i=.int .i64 q/\q<=tn/\v=.bool ((al.take q).any (·==y))/\Fr [] wo wr) (λ_ i _=>tn-(intOf i).toNat)
           case atStart=>exact⟨0,rfl,Df _,rfl,Fr.refl _ _⟩
           case round=>
            obtain⟨q,rfl,hq,rfl,hf9⟩:=hrel;have HF9:=aa hf9;clear hf9;by_cases hlt2:q<tn
            ·have hlt3:(q:Int)<(tn:Int):=by omega
             have hql:q<al.length:=by have:=HWL.out;omega
             obtain⟨b7,o7,rfl,x7⟩:=HX7.out wr HF9.out;obtain⟨b6,o6,rfl,hb6,hcl⟩:=(HM7.out.lr.fr0 (HF8.out.ae HF9.out)).slz (by omega);have x6:wr.cell? ⟨b6,o6+q,none⟩=some (.int .i64 (al.getD q 0)):=hcl q hlt2;clear hcl;have HTK1:∀z,al.getD q 0=z->(al.take (q+1)).any (·==y)=((al.take q).any (·==y)||z==y):=λz hz=>by
              rw[fj hql,List.any_append,<- hz];simp
             generalize hz:al.getD q 0=z at x6;have HTK:=aa (HTK1 z hz);clear HTK1 hz;generalize (al.take q).any (·==y)=fd at *;cases fd
             ·rw[Bool.false_or]at HTK;generalize hzy:(z==y)=zy at *;go_wp2_with fail
              go_quiet (fail)
              all_goals
               go_wp2_with fail
               go_roundw
               case rel=>exact⟨q+1,by go_num,by omega,by rw[HTK.out],HF9.out.ae ((Fr.refl _ _).drewN _)⟩
               case measure=>simp[intOf];omega
             ·rw[Bool.true_or]at HTK;go_wp2_with fail
              go_quiet (fail)
              all_goals
               go_wp2_with fail
               go_roundw
               case rel=>exact⟨q+1,by go_num,by omega,by rw[HTK.out],HF9.out.ae ((Fr.refl _ _).drewN _)⟩
               case measure=>simp[intOf];omega
            ·obtain rfl:q=tn:=by omega
             have hfd:(al.take q).any (·==y)=true:=by
              rw[List.take_of_length_le (by have:=HWL.out;omega)];exact List.any_eq_true.2 ⟨y,HIN.out,by simp⟩
             rw[hfd];clear hfd;go_wp2_with fail
             go_roundw
             case rel=>exact⟨a+1,by go_num,by omega,HF8.out.ae HF9.out⟩
             case measure=>simp[intOf];omega
          ·obtain rfl:a=tn:=by omega
           have HM8:=aa (HM7.out.fr0 (HMl.iR HS.out _ _ _ _ _) HF8.out);obtain⟨d0,d6⟩:=HCl.out _ _ _ _ _ HM8.out.hm;have HLo:=aa (HM8.out.hm.Az (HMl.iR (HMl.iR HS.out _ _ _ _ _) _ _ _ _ _) HM8.out.hm.q.1.2 hRb);clear d6;go_wp2_with (go_at_call 9;refine HLo.out.mono ?_;rintro e w9 ⟨A9,c9,rfl,hf9⟩;have HF9:=aa hf9;clear hf9)
           go_ret
           exact⟨rfl,HF1.out.ae HF9.out⟩
end Go.Proofs.YtimlkjppaalfaaaGreatDoor.MutateNotes
