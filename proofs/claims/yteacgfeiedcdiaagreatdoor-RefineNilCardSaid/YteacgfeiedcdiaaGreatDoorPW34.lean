/- Several texts joined (pack.py): RfEb RfF Tr Ts. -/
import Derived.Test.YteacgfeiedcdiaaGreatDoorPW33
import Derived.WalkKit
import Derived.BigQuiet
import Derived.StillTailTactics
import Derived.Deep.RegionHeld3
import Derived.Test.YteacgfeiedcdiaaGreatDoorPW31
namespace Go.Proofs.YteacgfeiedcdiaaGreatDoor
set_option linter.unusedVariables false
set_option linter.unusedSimpArgs false
set_option maxRecDepth 100000
open Go.RowKit Go.Gl HS
section
variable {W w w':World}{L:HL}{X:HX}{h:HS}{x:HT}{s k:Nat}{E:Blks}{D:Nat→Prop}{Q:World→Prop}
set_option maxHeartbeats 6400000 in
theorem rfbegin_at(hS:Lives D Q)(H:HM W w L X h x s k E D Q)(sh:Shf L s k){c:Nat}(hc:c<h.R*x.per) :
  Calls Tryz.prog 41 #[.pointer (some ⟨L.hb,0,none⟩),.int .i64 (c:Int)] w fun e w'=>e=.returned (.tuple #[(h.begP x.O x.cw c).val,.int .i64 0])∧Fr [] w w':=by
 obtain⟨FI,hFI⟩:∃FI,FI=c*x.cw:=⟨_,rfl⟩
 obtain⟨BE,hBE⟩:∃BE,BE=c*x.cw+x.cw:=⟨_,rfl⟩
 obtain⟨r,hr⟩:∃r,r=FI / h.W:=⟨_,rfl⟩
 have dm:=H.setDim
 have hok:=H.ok
 have hfn:BE≤4194304∧r<h.R:=by
  have h1:c*x.cw+x.cw≤h.n:=by
   rw [hok.nn,dm.wp,← Nat.mul_assoc]
   exact mul_add_le hc
  have h2:=hok.nmax
  have h3:=dm.c1
  refine⟨by omega,?_⟩
  rw [hr,Nat.div_lt_iff_lt_mul (by have:=hok.wpos;omega),← hok.nn]
  omega
 have hfb:FI≤BE:=by omega
 have HH:=hide (fun w' (hf:Fr [] w w')=>H.fr0 hS hf)
 have HF:=hide (fun w' (hf:Fr [] w w')=>(H.fr0 hS hf).firstC (c:Int))
 have eF:(if 0≤(c:Int)∧(c:Int)<((h.R*x.per:Nat):Int) then (c:Int)*(x.cw:Int) else 0)=(FI:Int):=by rw [if_pos ⟨by omega,by omega⟩,← Int.natCast_mul,← hFI]
 have eE:(if 0≤(c:Int)∧(c:Int)<((h.R*x.per:Nat):Int) then (0:Int) else 2)=0:=if_pos ⟨by omega,by omega⟩
 rw [eF,eE]at HF
 have eB:IntKind.i64.wrap ((FI:Int)+(x.cw:Int))=(BE:Int):=(IntWalk.i64_in _ ⟨by omega,by omega⟩).trans (by omega)
 have HCW:Hid (h.g.cw=(x.cw:Int)):=dm.cw
 have HRG:Hid (∀w',Fr [] w w'→Calls Tryz.prog 91 #[.pointer (some ⟨L.hb,0,none⟩),.int .i64 (FI:Int)] w' fun e w''=>e=.returned (.int .i64 (r:Int))∧w'=w''):=fun w' hf=>by
  have:=rfregion_at (H.fr0 hS hf) sh (a:=FI) (by omega)
  rw [← hr]at this
  exact this
 have HST:Hid (∀w',Fr [] w w'→Calls Tryz.prog 62 #[.pointer (some ⟨L.tb,0,none⟩),.int .i64 (r:Int)] w' fun e w''=>e=.returned (.int .i64 (h.s r))∧w'=w''):=fun w' hf=>by
  have:=hstate_any (H.fr0 hS hf).hr (r:Int)
  unfold HS.stateOf at this
  rw [if_pos ⟨by omega,by omega⟩,Int.toNat_natCast]at this
  exact this
 have HEN:Hid (∀w',Fr [] w w'→Calls Tryz.prog 92 #[.pointer (some ⟨L.hb,0,none⟩),.int .i64 (r:Int)] w' fun e w''=>e=.returned (.int .i64 (h.endOf r))∧Fr [] w' w''):=fun w' hf=>rfend_any (H.fr0 hS hf).hr sh hfn.2
 have HFI:Hid (∀w',Fr [] w w'→Calls Tryz.prog 93 #[.pointer (some ⟨L.hb,0,none⟩),.int .i64 (c:Int),.int .i64 (r:Int)] w' fun e w''=>e=.returned (.int .i64 (h.firstH x.O c r))∧w'=w''):=fun w' hf=>rffirst_any (H.fr0 hS hf) sh hc hfn.2 (H.offsB c)
 have HBG:Hid (∀w',Fr [] w w'→Calls Tryz.prog 94 #[.pointer (some ⟨L.hb,0,none⟩),.int .i64 (r:Int)] w' fun e w''=>e=.returned (.tuple #[.int .i64 (bigI h r),.bool (bigB h r)])∧w'=w''):=fun w' hf=>rfbig_any (H.fr0 hS hf) sh hfn.2
 have hbi:=bigI_in hok hfn.2
 have HBO:=hide (begP_old (h:=h) (O:=x.O) (cw:=x.cw) (c:=c) hFI hBE hr)
 have HBB:=hide (begP_big (h:=h) (O:=x.O) (cw:=x.cw) (c:=c) hFI hBE hr)
 have HBE:=hide (begP_else (h:=h) (O:=x.O) (cw:=x.cw) (c:=c) hFI hBE hr)
 have cc:=H.hc
 obtain⟨g0,g1,g2,g3,g4,g5⟩:=H.hr.geo
 have NL:=cc.lt
 clear cc H sh hr hFI hBE dm hok eF eE hc
 generalize h.begP x.O x.cw c=Z at *
 generalize h.firstH x.O c r=fh at *
 generalize h.endOf r=en at *
 generalize bigI h r=bi at *
 generalize bigB h r=bb at *
 generalize h.s r=st at *
 generalize x.cw=CW at *
 go_enter Tryz.func41,Tryz.ntmps41
 go_wp2_with fail
 refine(HF.out _ ((Fr.refl _ _).alloc _)).mono ?_
 rintro e w1 ⟨rfl,hf⟩
 have HF1:=hide (((Fr.refl [] w).alloc (.cells #[.int .i64 0,.int .i64 0,.int .i64 0,.int .i64 0,.int .i64 0,.int .i64 0,.bool false] 93)).trans_same hf)
 have HB:=hide ((Blk.new w 93 #[.int .i64 0,.int .i64 0,.int .i64 0,.int .i64 0,.int .i64 0,.int .i64 0,.bool false]).fr hf (by simp))
 obtain⟨g0,g1,g2,g3,g4,g5⟩:=(HH.out w1 HF1.out).hr.geo
 rw [HCW.out]at g2
 clear hf HF
 go_wp2_with fail
 have HF2:Hid (Fr [] w (w1.alloc (.cells #[.int .i64 (FI:Int),.int .i64 (BE:Int),.int .i64 0,.int .i64 0,.int .i64 0,.int .i64 0,.bool false] 93))):=HF1.out.alloc _
 have hlt1:w.heap.size<w1.heap.size:=HB.out.lt
 obtain⟨rb,hrb⟩:∃rb,rb=w.heap.size:=⟨_,rfl⟩
 obtain⟨pb,hpb⟩:∃pb,pb=w1.heap.size:=⟨_,rfl⟩
 have HRB:Hid (w.heap.size=rb):=hrb.symm
 have HPB:Hid (w.heap.size≤pb):=by
  show _≤_
  omega
 have hne:rb≠pb:=by omega
 have hne2:pb≠rb:=by omega
 have HPB0:Hid (∀w',Fr [] (w1.alloc (.cells #[.int .i64 (FI:Int),.int .i64 (BE:Int),.int .i64 0,.int .i64 0,.int .i64 0,.int .i64 0,.bool false] 93)) w'→Blk w' pb 93 #[.int .i64 (FI:Int),.int .i64 (BE:Int),.int .i64 0,.int .i64 0,.int .i64 0,.int .i64 0,.bool false]):=fun w' hf=>by
  rw [hpb]
  exact(Blk.new w1 93 #[.int .i64 (FI:Int),.int .i64 (BE:Int),.int .i64 0,.int .i64 0,.int .i64 0,.int .i64 0,.bool false]).fr hf (by simp)
 have HZB0:Hid (∀w',Fr [] (w1.alloc (.cells #[.int .i64 (FI:Int),.int .i64 (BE:Int),.int .i64 0,.int .i64 0,.int .i64 0,.int .i64 0,.bool false] 93)) w'→Blk w' rb 93 #[.int .i64 0,.int .i64 0,.int .i64 0,.int .i64 0,.int .i64 0,.int .i64 0,.bool false]):=fun w' hf=>by
  rw [hrb]
  exact(HB.out.alloc _).fr hf (by simp)
 rw [← hrb,← hpb]
 clear hrb hpb HB HCW g0 g1 g2 g3 g4 g5 hlt1 eB
 generalize w1.alloc (.cells #[.int .i64 (FI:Int),.int .i64 (BE:Int),.int .i64 0,.int .i64 0,.int .i64 0,.int .i64 0,.bool false] 93)=w2 at *
 have c21:=(HH.out w2 HF2.out).hc.c21
 refine(HRG.out _ HF2.out).mono ?_
 rintro e w' ⟨rfl,rfl⟩
 have HS2:=hide (HST.out _ HF2.out)
 clear HRG HST HF1
 by_cases h3:st=3
 ·subst h3
  have hB1:=HBO.out rfl
  have HE2:=hide (HEN.out _ HF2.out)
  clear HBO HBB HBE HEN
  go_wp2_with fail
  refine HS2.out.mono ?_
  rintro e w' ⟨rfl,rfl⟩
  go_wp2_with fail
  refine HE2.out.mono ?_
  rintro e w3 ⟨rfl,hf3⟩
  have HF3:=hide (HF2.out.trans_same hf3)
  have hp:=HPB0.out w3 hf3
  have hz:=HZB0.out w3 hf3
  have NP:=hp.lt
  have NZ:=hz.lt
  have q0:w3.cell? ⟨pb,0,none⟩=some (.int .i64 (FI:Int)):=hp.cell 0
  have fq0:w3.frozen? ⟨pb,0,none⟩=false:=hp.frozen 0
  have z0:w3.cell? ⟨rb,0,none⟩=some (.int .i64 0):=hz.cell 0
  have fz0:w3.frozen? ⟨rb,0,none⟩=false:=hz.frozen 0
  have q1:w3.cell? ⟨pb,1,none⟩=some (.int .i64 (BE:Int)):=hp.cell 1
  have fq1:w3.frozen? ⟨pb,1,none⟩=false:=hp.frozen 1
  have z1:w3.cell? ⟨rb,1,none⟩=some (.int .i64 0):=hz.cell 1
  have fz1:w3.frozen? ⟨rb,1,none⟩=false:=hz.frozen 1
  have q2:w3.cell? ⟨pb,2,none⟩=some (.int .i64 0):=hp.cell 2
  have fq2:w3.frozen? ⟨pb,2,none⟩=false:=hp.frozen 2
  have z2:w3.cell? ⟨rb,2,none⟩=some (.int .i64 0):=hz.cell 2
  have fz2:w3.frozen? ⟨rb,2,none⟩=false:=hz.frozen 2
  have q3:w3.cell? ⟨pb,3,none⟩=some (.int .i64 0):=hp.cell 3
  have fq3:w3.frozen? ⟨pb,3,none⟩=false:=hp.frozen 3
  have z3:w3.cell? ⟨rb,3,none⟩=some (.int .i64 0):=hz.cell 3
  have fz3:w3.frozen? ⟨rb,3,none⟩=false:=hz.frozen 3
  have q4:w3.cell? ⟨pb,4,none⟩=some (.int .i64 0):=hp.cell 4
  have fq4:w3.frozen? ⟨pb,4,none⟩=false:=hp.frozen 4
  have z4:w3.cell? ⟨rb,4,none⟩=some (.int .i64 0):=hz.cell 4
  have fz4:w3.frozen? ⟨rb,4,none⟩=false:=hz.frozen 4
  have q5:w3.cell? ⟨pb,5,none⟩=some (.int .i64 0):=hp.cell 5
  have fq5:w3.frozen? ⟨pb,5,none⟩=false:=hp.frozen 5
  have z5:w3.cell? ⟨rb,5,none⟩=some (.int .i64 0):=hz.cell 5
  have fz5:w3.frozen? ⟨rb,5,none⟩=false:=hz.frozen 5
  have q6:w3.cell? ⟨pb,6,none⟩=some (.bool false):=hp.cell 6
  have fq6:w3.frozen? ⟨pb,6,none⟩=false:=hp.frozen 6
  have z6:w3.cell? ⟨rb,6,none⟩=some (.bool false):=hz.cell 6
  have fz6:w3.frozen? ⟨rb,6,none⟩=false:=hz.frozen 6
  clear hp hz
  have hpd:=HPB0.out w3 hf3
  have HPD:=hide hpd
  have HZD:=hide (HZB0.out w3 hf3)
  clear hf3 c21
  by_cases hlt:(FI:Int)<en
  ·rw [if_pos hlt]at hB1
   have HB1:=hide hB1
   have HFi:=hide (HFI.out w3.drew (HF3.out.trans_same (Fr.refl _ _).drew))
   clear hB1
   go_wp2_with fail
   have K0:=q1
   have K4:∀v,(w3.setCell ⟨pb,4,none⟩ v).drew.cell? ⟨pb,1,none⟩=some (.int .i64 (BE:Int)):=fun v=>(Blk.drew (hpd.put 4 v)).cell 1
   have K45:∀v v',((w3.setCell ⟨pb,4,none⟩ v).setCell ⟨pb,5,none⟩ v').drew.cell? ⟨pb,1,none⟩=some (.int .i64 (BE:Int)):=fun v v'=>(Blk.drew ((hpd.put 4 v).put 5 v')).cell 1
   clear hpd
   go_region_held3 (fun w'=>w'.cell? ⟨pb,1,none⟩=some (.int .i64 (BE:Int)))
    (first | with_reducible exact K0 | with_reducible exact K4 _ | with_reducible exact K45 _ _ | go_keep)
    (first | (go_at_call 93;refine HFi.out.mono ?_;rintro e w' ⟨rfl,rfl⟩))
   all_goals
    clear K0 K4 K45 q0 q1 q2 q3 q4 q5 q6 fq0 fq1 fq2 fq3 fq4 fq5 fq6 z0 z1 z2 z3 z4 z5 z6 fz0 fz1 fz2 fz3 fz4 fz5 fz6 NP NZ HFi
    have hp5:Blk ((w3.setCell ⟨pb,4,none⟩ (.int .i64 fh)).setCell ⟨pb,5,none⟩ (.int .i64 (min en (BE:Int)))).drew pb 93 #[.int .i64 (FI:Int),.int .i64 (BE:Int),.int .i64 0,.int .i64 0,.int .i64 fh,.int .i64 (min en (BE:Int)),.bool false]:=Blk.drew ((HPD.out.put 4 _).put 5 _)
    have hz5:Blk ((w3.setCell ⟨pb,4,none⟩ (.int .i64 fh)).setCell ⟨pb,5,none⟩ (.int .i64 (min en (BE:Int)))).drew rb 93 #[.int .i64 0,.int .i64 0,.int .i64 0,.int .i64 0,.int .i64 0,.int .i64 0,.bool false]:=Blk.drew ((HZD.out.far (p:=⟨pb,4,none⟩) hne _).far (p:=⟨pb,5,none⟩) hne _)
    have hf5:Fr [] w ((w3.setCell ⟨pb,4,none⟩ (.int .i64 fh)).setCell ⟨pb,5,none⟩ (.int .i64 (min en (BE:Int)))).drew:=((HF3.out.setCell (p:=⟨pb,4,none⟩) (.inr HPB.out) _).setCell (p:=⟨pb,5,none⟩) (.inr HPB.out) _).drew
    obtain⟨w5,hw5⟩:∃w5,w5=((w3.setCell ⟨pb,4,none⟩ (.int .i64 fh)).setCell ⟨pb,5,none⟩ (.int .i64 (min en (BE:Int)))).drew:=⟨_,rfl⟩
    rw [← hw5]at hp5 hz5 hf5 ⊢
    have HF5:=hide hf5
    obtain⟨mn,hmn⟩:∃mn,mn=min en (BE:Int):=⟨_,rfl⟩
    rw [← hmn]at hp5
    have HMN:=hide hmn
    clear hw5 hf5 hmn
    have NP:=hp5.lt
    have NZ:=hz5.lt
    have q0:w5.cell? ⟨pb,0,none⟩=some (.int .i64 (FI:Int)):=hp5.cell 0
    have z0:w5.cell? ⟨rb,0,none⟩=some (.int .i64 0):=hz5.cell 0
    have fz0:w5.frozen? ⟨rb,0,none⟩=false:=hz5.frozen 0
    have q1:w5.cell? ⟨pb,1,none⟩=some (.int .i64 (BE:Int)):=hp5.cell 1
    have z1:w5.cell? ⟨rb,1,none⟩=some (.int .i64 0):=hz5.cell 1
    have fz1:w5.frozen? ⟨rb,1,none⟩=false:=hz5.frozen 1
    have q2:w5.cell? ⟨pb,2,none⟩=some (.int .i64 0):=hp5.cell 2
    have z2:w5.cell? ⟨rb,2,none⟩=some (.int .i64 0):=hz5.cell 2
    have fz2:w5.frozen? ⟨rb,2,none⟩=false:=hz5.frozen 2
    have q3:w5.cell? ⟨pb,3,none⟩=some (.int .i64 0):=hp5.cell 3
    have z3:w5.cell? ⟨rb,3,none⟩=some (.int .i64 0):=hz5.cell 3
    have fz3:w5.frozen? ⟨rb,3,none⟩=false:=hz5.frozen 3
    have q4:w5.cell? ⟨pb,4,none⟩=some (.int .i64 fh):=hp5.cell 4
    have z4:w5.cell? ⟨rb,4,none⟩=some (.int .i64 0):=hz5.cell 4
    have fz4:w5.frozen? ⟨rb,4,none⟩=false:=hz5.frozen 4
    have q5:w5.cell? ⟨pb,5,none⟩=some (.int .i64 mn):=hp5.cell 5
    have z5:w5.cell? ⟨rb,5,none⟩=some (.int .i64 0):=hz5.cell 5
    have fz5:w5.frozen? ⟨rb,5,none⟩=false:=hz5.frozen 5
    have q6:w5.cell? ⟨pb,6,none⟩=some (.bool false):=hp5.cell 6
    have z6:w5.cell? ⟨rb,6,none⟩=some (.bool false):=hz5.cell 6
    have fz6:w5.frozen? ⟨rb,6,none⟩=false:=hz5.frozen 6
    clear hp5 hz5
    go_wp2_with fail
    refine bodyPost_ret (v:=.tuple #[.agg #[.int .i64 (FI:Int),.int .i64 (BE:Int),.int .i64 0,.int .i64 0,.int .i64 fh,.int .i64 mn,.bool false],.int .i64 0]) (by simp [results,Tryz.results41,go_sem, *]) rfl ⟨by rw [HB1.out,HMN.out];rfl,?_⟩
    iterate 7 (refine Fr.setCell ?_ (by first | exact .inr (Nat.le_of_eq HRB.out) | exact .inr HPB.out) _)
    exact HF5.out
  ·rw [if_neg hlt]at hB1
   have HB1:=hide hB1
   clear hB1
   go_wp2_with fail
   refine bodyPost_ret (v:=.tuple #[.agg #[.int .i64 (FI:Int),.int .i64 (BE:Int),.int .i64 0,.int .i64 0,.int .i64 0,.int .i64 0,.bool false],.int .i64 0]) (by simp [results,Tryz.results41,go_sem, *]) rfl ⟨by rw [HB1.out];rfl,?_⟩
   iterate 7 (refine Fr.setCell ?_ (by first | exact .inr (Nat.le_of_eq HRB.out) | exact .inr HPB.out) _)
   exact HF3.out
 ·have h3':(st==3)=false:=by simpa using h3
  have HB2:Hid (Blk w2 pb 93 #[.int .i64 (FI:Int),.int .i64 (BE:Int),.int .i64 0,.int .i64 0,.int .i64 0,.int .i64 0,.bool false]):=HPB0.out w2 (Fr.refl _ _)
  by_cases h45:st=4∨st=5
  ·have hB1:=HBB.out h3 h45
   have HG2:=hide (HBG.out _ HF2.out)
   clear HBO HBB HBE HEN
   have hp:=HPB0.out w2 (Fr.refl _ _)
   have hz:=HZB0.out w2 (Fr.refl _ _)
   have NP:=hp.lt
   have NZ:=hz.lt
   have q0:w2.cell? ⟨pb,0,none⟩=some (.int .i64 (FI:Int)):=hp.cell 0
   have fq0:w2.frozen? ⟨pb,0,none⟩=false:=hp.frozen 0
   have z0:w2.cell? ⟨rb,0,none⟩=some (.int .i64 0):=hz.cell 0
   have fz0:w2.frozen? ⟨rb,0,none⟩=false:=hz.frozen 0
   have q1:w2.cell? ⟨pb,1,none⟩=some (.int .i64 (BE:Int)):=hp.cell 1
   have fq1:w2.frozen? ⟨pb,1,none⟩=false:=hp.frozen 1
   have z1:w2.cell? ⟨rb,1,none⟩=some (.int .i64 0):=hz.cell 1
   have fz1:w2.frozen? ⟨rb,1,none⟩=false:=hz.frozen 1
   have q2:w2.cell? ⟨pb,2,none⟩=some (.int .i64 0):=hp.cell 2
   have fq2:w2.frozen? ⟨pb,2,none⟩=false:=hp.frozen 2
   have z2:w2.cell? ⟨rb,2,none⟩=some (.int .i64 0):=hz.cell 2
   have fz2:w2.frozen? ⟨rb,2,none⟩=false:=hz.frozen 2
   have q3:w2.cell? ⟨pb,3,none⟩=some (.int .i64 0):=hp.cell 3
   have fq3:w2.frozen? ⟨pb,3,none⟩=false:=hp.frozen 3
   have z3:w2.cell? ⟨rb,3,none⟩=some (.int .i64 0):=hz.cell 3
   have fz3:w2.frozen? ⟨rb,3,none⟩=false:=hz.frozen 3
   have q4:w2.cell? ⟨pb,4,none⟩=some (.int .i64 0):=hp.cell 4
   have fq4:w2.frozen? ⟨pb,4,none⟩=false:=hp.frozen 4
   have z4:w2.cell? ⟨rb,4,none⟩=some (.int .i64 0):=hz.cell 4
   have fz4:w2.frozen? ⟨rb,4,none⟩=false:=hz.frozen 4
   have q5:w2.cell? ⟨pb,5,none⟩=some (.int .i64 0):=hp.cell 5
   have fq5:w2.frozen? ⟨pb,5,none⟩=false:=hp.frozen 5
   have z5:w2.cell? ⟨rb,5,none⟩=some (.int .i64 0):=hz.cell 5
   have fz5:w2.frozen? ⟨rb,5,none⟩=false:=hz.frozen 5
   have q6:w2.cell? ⟨pb,6,none⟩=some (.bool false):=hp.cell 6
   have fq6:w2.frozen? ⟨pb,6,none⟩=false:=hp.frozen 6
   have z6:w2.cell? ⟨rb,6,none⟩=some (.bool false):=hz.cell 6
   have fz6:w2.frozen? ⟨rb,6,none⟩=false:=hz.frozen 6
   clear hp hz
   have w5:IntKind.i64.wrap (bi+1)=bi+1:=IntWalk.i64_in _ ⟨by omega,by omega⟩
   by_cases hbb:bb=true
   ·subst hbb
    rw [if_pos rfl]at hB1
    have HB1:=hide hB1
    clear hB1
    rcases h45 with rfl | rfl
    all_goals
     go_wp2_with fail
     refine HS2.out.mono ?_
     rintro e w' ⟨rfl,rfl⟩
     go_wp2_with fail
     refine HG2.out.mono ?_
     rintro e w' ⟨rfl,rfl⟩
     go_wp2_with fail
     refine bodyPost_ret (v:=.tuple #[.agg #[.int .i64 (FI:Int),.int .i64 (BE:Int),.int .i64 0,.int .i64 0,.int .i64 bi,.int .i64 (bi+1),.bool true],.int .i64 0]) (by simp [results,Tryz.results41,go_sem, *]) rfl ⟨by rw [HB1.out];rfl,?_⟩
     iterate 10 (refine Fr.setCell ?_ (by first | exact .inr (Nat.le_of_eq HRB.out) | exact .inr HPB.out) _)
     exact HF2.out
   ·have hbf:bb=false:=by simpa using hbb
    subst hbf
    rw [if_neg (by decide)]at hB1
    have HB1:=hide hB1
    clear hB1
    rcases h45 with rfl | rfl
    all_goals
     go_wp2_with fail
     refine HS2.out.mono ?_
     rintro e w' ⟨rfl,rfl⟩
     go_wp2_with fail
     refine HG2.out.mono ?_
     rintro e w' ⟨rfl,rfl⟩
     go_wp2_with fail
     refine bodyPost_ret (v:=.tuple #[.agg #[.int .i64 (FI:Int),.int .i64 (BE:Int),.int .i64 0,.int .i64 0,.int .i64 0,.int .i64 0,.bool false],.int .i64 0]) (by simp [results,Tryz.results41,go_sem, *]) rfl ⟨by rw [HB1.out];rfl,?_⟩
     iterate 7 (refine Fr.setCell ?_ (by first | exact .inr (Nat.le_of_eq HRB.out) | exact .inr HPB.out) _)
     exact HF2.out
  ·have h4':(st==4)=false:=by simp;omega
   have h5':(st==5)=false:=by simp;omega
   have HB1:=hide (HBE.out h3 h45)
   clear HBO HBB HBE HEN
   have hp:=HPB0.out w2 (Fr.refl _ _)
   have hz:=HZB0.out w2 (Fr.refl _ _)
   have NP:=hp.lt
   have NZ:=hz.lt
   have q0:w2.cell? ⟨pb,0,none⟩=some (.int .i64 (FI:Int)):=hp.cell 0
   have fq0:w2.frozen? ⟨pb,0,none⟩=false:=hp.frozen 0
   have z0:w2.cell? ⟨rb,0,none⟩=some (.int .i64 0):=hz.cell 0
   have fz0:w2.frozen? ⟨rb,0,none⟩=false:=hz.frozen 0
   have q1:w2.cell? ⟨pb,1,none⟩=some (.int .i64 (BE:Int)):=hp.cell 1
   have fq1:w2.frozen? ⟨pb,1,none⟩=false:=hp.frozen 1
   have z1:w2.cell? ⟨rb,1,none⟩=some (.int .i64 0):=hz.cell 1
   have fz1:w2.frozen? ⟨rb,1,none⟩=false:=hz.frozen 1
   have q2:w2.cell? ⟨pb,2,none⟩=some (.int .i64 0):=hp.cell 2
   have fq2:w2.frozen? ⟨pb,2,none⟩=false:=hp.frozen 2
   have z2:w2.cell? ⟨rb,2,none⟩=some (.int .i64 0):=hz.cell 2
   have fz2:w2.frozen? ⟨rb,2,none⟩=false:=hz.frozen 2
   have q3:w2.cell? ⟨pb,3,none⟩=some (.int .i64 0):=hp.cell 3
   have fq3:w2.frozen? ⟨pb,3,none⟩=false:=hp.frozen 3
   have z3:w2.cell? ⟨rb,3,none⟩=some (.int .i64 0):=hz.cell 3
   have fz3:w2.frozen? ⟨rb,3,none⟩=false:=hz.frozen 3
   have q4:w2.cell? ⟨pb,4,none⟩=some (.int .i64 0):=hp.cell 4
   have fq4:w2.frozen? ⟨pb,4,none⟩=false:=hp.frozen 4
   have z4:w2.cell? ⟨rb,4,none⟩=some (.int .i64 0):=hz.cell 4
   have fz4:w2.frozen? ⟨rb,4,none⟩=false:=hz.frozen 4
   have q5:w2.cell? ⟨pb,5,none⟩=some (.int .i64 0):=hp.cell 5
   have fq5:w2.frozen? ⟨pb,5,none⟩=false:=hp.frozen 5
   have z5:w2.cell? ⟨rb,5,none⟩=some (.int .i64 0):=hz.cell 5
   have fz5:w2.frozen? ⟨rb,5,none⟩=false:=hz.frozen 5
   have q6:w2.cell? ⟨pb,6,none⟩=some (.bool false):=hp.cell 6
   have fq6:w2.frozen? ⟨pb,6,none⟩=false:=hp.frozen 6
   have z6:w2.cell? ⟨rb,6,none⟩=some (.bool false):=hz.cell 6
   have fz6:w2.frozen? ⟨rb,6,none⟩=false:=hz.frozen 6
   clear hp hz
   go_wp2_with fail
   refine HS2.out.mono ?_
   rintro e w' ⟨rfl,rfl⟩
   go_wp2_with fail
   refine bodyPost_ret (v:=.tuple #[.agg #[.int .i64 (FI:Int),.int .i64 (BE:Int),.int .i64 0,.int .i64 0,.int .i64 0,.int .i64 0,.bool false],.int .i64 0]) (by simp [results,Tryz.results41,go_sem, *]) rfl ⟨by rw [HB1.out];rfl,?_⟩
   iterate 7 (refine Fr.setCell ?_ (by first | exact .inr (Nat.le_of_eq HRB.out) | exact .inr HPB.out) _)
   exact HF2.out
end
def intAt(w:World)(b i:Nat):Int:=match w.cell? ⟨b,i,none⟩with | some (.int _ z)=>z | _=>0
theorem intAt_eq{w:World}{b i:Nat}{kd:IntKind}{z:Int}(h:w.cell? ⟨b,i,none⟩=some (.int kd z)):intAt w b i=z:=by unfold intAt;rw [h]
def plM(w:World)(b:Nat):Nat:=mPl (intAt w b 2) (intAt w b 3) (intAt w b 4) (intAt w b 5)
theorem plM_eq{w:World}{b:Nat}{t:TypeId}{q:Pla}(hb:Blk w b t q.cells):plM w b=q.m:=by
 unfold plM Pla.m
 rw [intAt_eq (hb.cell 2),intAt_eq (hb.cell 3),intAt_eq (hb.cell 4),intAt_eq (hb.cell 5)]
section
variable {W w w':World}{L:HL}{X:HX}{h:HS}{x:HT}{s k:Nat}{E:Blks}{D:Nat→Prop}{Q:World→Prop}
set_option maxHeartbeats 3200000 in
theorem rfask_any(hS:Lives D Q)(hT:Tab W){p:Pla}(H:HM W w L X h x s k E D Q)(o:p.Ok)(a:h.AskOk p) :
  Calls Tryz.prog 42 #[p.val,.pointer (some ⟨L.hb,0,none⟩)] w fun e w'=>e=.returned (.int .i64 0)∧HM W w' L X h x s k E D Q:=by
 have HH:=hide (H.alloc hS 93 p.cells)
 have hltE:∀q,q∈E→q.1<w.heap.size:=fun q hq=>(H.blk (b:=q.1) (t:=q.2.1) (cs:=q.2.2) hq).lt
 have HNE:Hid (∀q,q∈E→q.1≠w.heap.size):=fun q hq=>by have:=hltE q hq;omega
 have HOk:=hide H.ok
 have HO:=hide o
 have HA:=hide a
 have HTW:=hide hT
 clear H hltE o a hT
 unfold Pla.cells at HH
 unfold Pla.val Pla.cells
 go_enter Tryz.func42,Tryz.ntmps42
 go_wp2_with fail
 generalize w.alloc (.cells #[.int .i64 p.fi,.int .i64 p.be,.int .i64 p.fd,.int .i64 p.la,.int .i64 p.hd,.int .i64 p.en,.bool p.bg] 93)=w1 at *
 generalize w.heap.size=pb at *
 go_loopw [] (fun wr=>∃q:Pla,q.Ok∧h.AskOk q∧HM W wr L X h x s k ((pb,93,q.cells)::E) D Q) (fun wr=>plM wr pb)
 case atStart=>exact⟨p,HO.out,HA.out,HH.out⟩
 case round=>
  obtain⟨q,ho,ha,hH⟩:=hrel
  have hb:=hH.blk (List.mem_cons_self ..)
  have c4:wr.cell? ⟨pb,4,none⟩=some (.int .i64 q.hd):=hb.cell 4
  have c5:wr.cell? ⟨pb,5,none⟩=some (.int .i64 q.en):=hb.cell 5
  have N0:=hb.lt
  have HM0:=hide (plM_eq hb)
  have HHq:=hide hH
  by_cases hlt:q.hd<q.en
  ·obtain⟨e1,e2⟩:=ask_more ha hlt
   have HEn:=hide (rfenter_any hS HTW.out hH HNE.out ho)
   rw [e1]at HEn
   have e3:h.enter q=h.entS q:=by unfold HS.enter;rw [if_pos e1]
   have HO2:=hide (ho.enter HOk.out)
   have HLt:=hide (entS_m ho HOk.out hlt e1).1
   rw [e3]at HEn HO2
   have HA2:=hide e2
   clear e1 e2 e3 hb hH ho ha
   go_wp2_with fail
   refine HEn.out.mono ?_
   rintro e w2 ⟨rfl,hH2,-⟩
   have HH2:=hide hH2
   have HM2:=hide (plM_eq (hH2.blk (List.mem_cons_self ..)))
   clear hH2 c4 c5 N0
   go_wp2_with fail
   go_roundw
   case rel=>exact⟨_,HO2.out,HA2.out,HH2.out⟩
   case measure=>rw [HM2.out,HM0.out];exact HLt.out
  ·have HH3:=hide (hH.sub (E':=E) (fun y hy=>List.mem_cons_of_mem _ hy))
   clear hb hH ho ha
   go_wp2_with fail
   go_ret
   exact⟨rfl,HH3.out⟩
theorem begP_Ok(H:HM W w L X h x s k E D Q){c:Nat}(hc:c<h.R*x.per):(h.begP x.O x.cw c).Ok:=by
 obtain⟨r,hr⟩:∃r,r=c*x.cw / h.W:=⟨_,rfl⟩
 have dm:=H.setDim
 have hok:=H.ok
 have h1:c*x.cw+x.cw≤h.n:=by
  rw [hok.nn,dm.wp,← Nat.mul_assoc]
  exact mul_add_le hc
 have h2:=hok.nmax
 have h3:=dm.c1
 have h4:r<h.R:=by
  rw [hr,Nat.div_lt_iff_lt_mul (by have:=hok.wpos;omega),← hok.nn]
  omega
 have h5:=mul_add_le (W:=h.W) h4
 have h6:=hok.nn
 have hO:=H.offsB c
 have hen:=endOf_in hok h4
 by_cases s3:h.s r=3
 ·rw [begP_old (FI:=c*x.cw) (BE:=c*x.cw+x.cw) rfl rfl hr s3]
  have hf:0≤h.firstH x.O c r∧h.firstH x.O c r≤4194304:=by
   unfold HS.firstH
   split
   ·rename_i hc;omega
   ·omega
  generalize h.firstH x.O c r=fh at *
  generalize h.endOf r=en at *
  generalize c*x.cw=FI at *
  generalize r*h.W=RW at *
  split
  ·refine⟨⟨?_,?_⟩,⟨?_,?_⟩,⟨?_,?_⟩,⟨?_,?_⟩,⟨?_,?_⟩,⟨?_,?_⟩⟩ <;> dsimp only <;> omega
  ·refine⟨⟨?_,?_⟩,⟨?_,?_⟩,⟨?_,?_⟩,⟨?_,?_⟩,⟨?_,?_⟩,⟨?_,?_⟩⟩ <;> dsimp only <;> omega
 ·by_cases s45:h.s r=4∨h.s r=5
  ·rw [begP_big (FI:=c*x.cw) (BE:=c*x.cw+x.cw) rfl rfl hr s3 s45]
   by_cases hbb:bigB h r=true
   ·have hq:bigI h r+1≤4194304∧0≤bigI h r:=by
     unfold bigB at hbb
     unfold bigI
     cases e:bigAt h.s r with
     | none=>rw [e]at hbb;cases hbb
     | some q=>
      have q1:=(bigAt_in e).1
      have q2:=mul_add_le (k:=q) (R:=h.R) (W:=h.W) (by omega)
      have q3:=hok.wpos
      show((q*h.W:Nat):Int)+1≤4194304∧0≤((q*h.W:Nat):Int)
      omega
    rw [if_pos hbb]
    generalize bigI h r=bi at *
    generalize c*x.cw=FI at *
    refine⟨⟨?_,?_⟩,⟨?_,?_⟩,⟨?_,?_⟩,⟨?_,?_⟩,⟨?_,?_⟩,⟨?_,?_⟩⟩ <;> dsimp only <;> omega
   ·rw [if_neg hbb]
    generalize c*x.cw=FI at *
    refine⟨⟨?_,?_⟩,⟨?_,?_⟩,⟨?_,?_⟩,⟨?_,?_⟩,⟨?_,?_⟩,⟨?_,?_⟩⟩ <;> dsimp only <;> omega
  ·rw [begP_else (FI:=c*x.cw) (BE:=c*x.cw+x.cw) rfl rfl hr s3 s45]
   generalize c*x.cw=FI at *
   refine⟨⟨?_,?_⟩,⟨?_,?_⟩,⟨?_,?_⟩,⟨?_,?_⟩,⟨?_,?_⟩,⟨?_,?_⟩⟩ <;> dsimp only <;> omega
set_option maxHeartbeats 1600000 in
theorem rfcard_out(hS:Lives D Q)(H:HM W w L X h x s k E D Q){c:Int}(hc:¬ (0≤c∧c<((h.R*x.per:Nat):Int))) :
  Calls Tryz.prog 9 #[.pointer (some ⟨L.hb,0,none⟩),.int .i64 c] w fun e w'=>e=.returned (.int .i64 2)∧Fr [] w w':=by
 have HBeg:=hide (rfbegin_out hS H hc)
 clear H hc hS
 unfold Pla.val Pla.zero Pla.cells at HBeg
 go_enter Tryz.func9,Tryz.ntmps9
 go_wp2_with fail
 refine HBeg.out.mono ?_
 rintro e w1 ⟨rfl,hf⟩
 have HF:=hide hf
 clear hf
 go_wp2_with fail
 go_ret
 exact⟨rfl,HF.out.alloc _⟩
def CardP(W:World)(L:HL)(X:HX)(h:HS)(x:HT)(s k:Nat)(E:Blks)(D:Nat→Prop)(Q:World→Prop)(c:Nat)(e:Ending)(w':World):Prop:=
 e=.returned (.int .i64 0)∧∃(C':List Nat) (τ:RS) (cb:Bool) (er:Int),HM W w' L X h { x with C:=C',σ:=τ } s k E D Q∧Turned x.C (h.R*x.per) (c:Int) false cb er C'∧h.Ends x.per (h.begP x.O x.cw c,x.σ) τ
set_option maxHeartbeats 6400000 in
theorem rfcard_ok(hS:Lives D Q)(hT:Tab W)(H:HM W w L X h x s k E D Q)(sh:Shf L s k){c:Nat}(hc:c<h.R*x.per)(a:h.AskOk (h.begP x.O x.cw c)) :
  Calls Tryz.prog 9 #[.pointer (some ⟨L.hb,0,none⟩),.int .i64 (c:Int)] w (CardP W L X h x s k E D Q c):=by
 have HO:=hide (begP_Ok H hc)
 have HA:=hide a
 have HBeg:=hide (rfbegin_at hS H sh hc)
 have HH:=hide H
 have HSh:=hide sh
 have HOk:=hide H.ok
 have HTW:=hide hT
 unfold CardP
 clear H sh a hT
 generalize h.begP x.O x.cw c=Z at *
 unfold Pla.val Pla.cells at HBeg
 go_enter Tryz.func9,Tryz.ntmps9
 go_wp2_with fail
 refine HBeg.out.mono ?_
 rintro e w1 ⟨rfl,hf⟩
 have HH1:=hide (HH.out.fr0 hS hf)
 clear hf HBeg
 go_wp2_with fail
 have hM2:=HH1.out.alloc hS 93 Z.cells
 have HNE:Hid (∀q,q∈E→q.1≠w1.heap.size):=fun q hq=>by
  have:=(HH1.out.blk (b:=q.1) (t:=q.2.1) (cs:=q.2.2) hq).lt
  omega
 have HAs:=hide (rfask_any hS HTW.out hM2 HO.out HA.out)
 unfold Pla.val Pla.cells at HAs
 unfold Pla.cells at hM2
 clear hM2 HH
 generalize w1.heap.size=pb at *
 refine HAs.out.mono ?_
 rintro e w3 ⟨rfl,hH3⟩
 have c23:=hH3.hc.c23
 have HCl:=hide (hH3.clean hS (c:Int))
 clear hH3 HAs HH1
 go_wp2_with fail
 refine HCl.out.mono ?_
 rintro e w4 ⟨cb,er,C',rfl,ht,hH4⟩
 have HTn:=hide ht
 have HH4:Hid (HM W w4 L X h { x with C:=C' } s k ((pb,93,Z.cells)::E) D Q):=hH4
 clear hH4 ht HCl c23
 go_wp2_with fail
 go_loopw [] (fun wr=>∃j,(∀i,i<j→(h.itr x.per i (Z,x.σ)).1.more=true)∧HM W wr L X h { x with C:=C',σ:=(h.itr x.per j (Z,x.σ)).2 } s k ((pb,93,(h.itr x.per j (Z,x.σ)).1.cells)::E) D Q) (fun wr=>plM wr pb)
 case atStart=>exact⟨0,fun i hi=>absurd hi (Nat.not_lt_zero _),HH4.out⟩
 case round=>
  obtain⟨j,hm,hH⟩:=hrel
  obtain⟨o1,a1⟩:=itr_keeps (per:=x.per) (σ:=x.σ) HO.out HOk.out HA.out j hm
  have hit:h.itr x.per (j+1) (Z,x.σ)=h.stp x.per (h.itr x.per j (Z,x.σ)):=rfl
  have HEnd:Hid ((h.itr x.per j (Z,x.σ)).1.more=false→h.Ends x.per (Z,x.σ) (h.itr x.per j (Z,x.σ)).2):=fun e=>⟨j,e,hm,rfl⟩
  have HNext:Hid ((h.itr x.per j (Z,x.σ)).1.more=true→∀i,i<j+1→(h.itr x.per i (Z,x.σ)).1.more=true):=fun e i hi=>by
   by_cases e2:i=j
   ·rw [e2];exact e
   ·exact hm i (by omega)
  generalize h.itr x.per j (Z,x.σ)=q at *
  obtain⟨q1,q2⟩:=q
  have hb:=hH.blk (List.mem_cons_self ..)
  have HMr:=hide (rfmore_any hb)
  have HPm:=hide (plM_eq hb)
  have HHq:=hide hH
  by_cases hmo:q1.more=true
  ·rw [hmo]at HMr
   have HN:=hide (HNext.out hmo)
   have HSt:=hide (fun w' (hf:Fr [] wr w')=>rfstep_any hS HTW.out (hH.fr0 hS hf) HNE.out HSh.out o1)
   have e0:=(ask_stp (per:=x.per) (σ:=q2) a1 hmo).1
   have HLt:=hide (stp_m (per:=x.per) (σ:=q2) o1 HOk.out a1 hmo)
   dsimp only at HSt
   rw [e0]at HSt
   have HIt:=hide hit
   clear hit e0 hb hH hm HNext HEnd a1 o1 hmo
   go_wp2_with fail
   refine HMr.out.mono ?_
   rintro e w5 ⟨rfl,hf5⟩
   have HS5:=hide (HSt.out w5 hf5)
   clear hf5 HSt HMr
   go_wp2_with fail
   refine HS5.out.mono ?_
   rintro e w6 ⟨rfl,hH6,-⟩
   have HH6:=hide hH6
   have HP6:=hide (plM_eq (hH6.blk (List.mem_cons_self ..)))
   clear hH6
   go_wp2_with fail
   go_roundw
   case rel=>exact⟨j+1,HN.out,by rw [HIt.out];exact HH6.out⟩
   case measure=>rw [HP6.out,HPm.out];exact HLt.out
  ·have hmf:q1.more=false:=by simpa using hmo
   rw [hmf]at HMr
   have HE2:=hide (HEnd.out hmf)
   clear hb hm HNext HEnd a1 o1 hmo hmf hit
   go_wp2_with fail
   refine HMr.out.mono ?_
   rintro e w5 ⟨rfl,hf5⟩
   have HH5:=hide ((hH.fr0 hS hf5).sub (E':=E) (fun y hy=>List.mem_cons_of_mem _ hy))
   clear hf5 hH
   go_wp2_with fail
   go_ret
   exact⟨rfl,C',q2,cb,er,HH5.out,HTn.out,HE2.out⟩
end
noncomputable def objRem (h:HS) (per:Nat) (fi be:Int) (σ:RS) (x:Int):RS:=remL h per σ (max (x+1) fi) (min (x+1+(atH h.n h.f x).ptrs) be-max (x+1) fi).toNat
section
variable {h:HS}{per:Nat}{σ τ:RS}
theorem objRem_far{fi be x:Int}(hx:be≤x):objRem h per fi be σ x=σ:=by
 unfold objRem
 rw [show(min (x+1+(atH h.n h.f x).ptrs) be-max (x+1) fi).toNat=0 by omega]
 rfl
theorem foldl_far{fi be:Int}:∀(l:List Int) (σ:RS),(∀x,x∈l→be≤x)→l.foldl (objRem h per fi be) σ=σ
 | [],σ,_=>rfl
 | x::l,σ,hx=>by
  rw [List.foldl_cons,objRem_far (hx x (List.mem_cons_self ..))]
  exact foldl_far l σ (fun y hy=>hx y (List.mem_cons_of_mem _ hy))
theorem isRow_ge{f:Nat→Nat}:∀ {l:List Int} {a b:Nat},IsRow f a l b→∀x,x∈l→(a:Int)≤x
 | [],_,_,_,x,hx=>by cases hx
 | y::l,a,b,r,x,hx=>by
  obtain⟨rfl,s,h1,h2,h3,h4,h5⟩:=r
  rcases List.mem_cons.1 hx with rfl | hx
  ·omega
  ·have:=isRow_ge h5 x hx;omega
theorem ent_row{p:Pla}{a:Nat}(ha:a<h.n)(hd:p.hd=(a:Int))(hb:p.bg=false)(hk:(Hd.of ((h.f a:Nat):Int)).kind=1∨(Hd.of ((h.f a:Nat):Int)).kind=2):h.entE p=0:=by
 obtain⟨e1,e2⟩:=at_in (n:=h.n) (f:=h.f) ha
 unfold HS.entE
 refine if_pos ?_
 rw [hd,e1,e2]
 refine⟨if_neg (by omega),?_⟩
 rcases hk with e | e
 ·exact .inl e
 ·exact .inr ⟨hb,e⟩
theorem EndsN.row:∀(l:List Int) {a b:Nat} {p:Pla} {σ:RS},IsRow h.f a l b→b≤h.n→p.hd=(a:Int)→p.bg=false→p.la≤p.fd→p.en≤(b:Int)→(p.en=(b:Int)∨p.be≤p.en)→EndsN h per (b-a) (p,σ) (l.foldl (objRem h per p.fi p.be) σ)
 | [],a,b,p,σ,r,hn,hd,hb,hla,hen,hbe=>by
  have:a=b:=r
  exact(EndsN.done (by unfold Pla.more;simp;omega)).le (Nat.zero_le _)
 | x::l,a,b,p,σ,r,hn,hd,hb,hla,hen,hbe=>by
  have r0:=r
  obtain⟨rfl,s,h1,h2,h3,h4,h5⟩:=r
  by_cases c:p.hd<p.en
  ·have hE:=ent_row (h:=h) (p:=p) (a:=a) (by omega) hd hb h3
   have e1:=(at_in (n:=h.n) (f:=h.f) (k:=a) (by omega)).1
   have:=EndsN.row l (p:={ h.entS p with fd:=max (h.entS p).fd (h.entS p).la }) (σ:=objRem h per p.fi p.be σ (a:Int)) h5 hn (by show p.hd+(atH h.n h.f p.hd).size=_;rw [hd,e1,h2];omega) hb (by show(h.entS p).la≤max (h.entS p).fd (h.entS p).la;omega) hen hbe
   have hE0:=hE
   unfold HS.entE at hE0
   have hp:(atH h.n h.f p.hd).ptrs<(s:Int):=by
    split at hE0
    ·rename_i q
     obtain⟨i0,i1,i2,i3,i4,i5,i6⟩:=atH_in q.1
     rcases at_out h.n h.f p.hd with⟨k1,_⟩ | ⟨k1,_⟩ | ⟨k1,k2,k3,k4⟩
     ·omega
     ·omega
     ·have k5:=k4.ways
      have k6:(atH h.n h.f p.hd).size=(s:Int):=by rw [hd,e1,h2]
      omega
    ·cases hE0
   have key:=EndsN.obj (per:=per) (σ:=σ) (τ:=l.foldl (objRem h per p.fi p.be) (objRem h per p.fi p.be σ (a:Int))) (N:=b-(a+s)) hla c hE (by
    refine cast ?_ this
    unfold objRem HS.entS
    rw [hd])
   rw [List.foldl_cons]
   refine key.le ?_
   show b-(a+s)+(min (p.hd+1+(atH h.n h.f p.hd).ptrs) p.be-max (p.hd+1) p.fi).toNat+1≤b-a
   omega
  ·rw [foldl_far _ _ (fun y hy=>by have:=isRow_ge r0 y hy;omega)]
   exact(EndsN.done (by unfold Pla.more;simp;omega)).le (Nat.zero_le _)
theorem ask_row:∀(n:Nat) (l:List Int) {a b:Nat} {p:Pla},IsRow h.f a l b→b≤h.n→p.hd=(a:Int)→p.bg=false→p.en≤(b:Int)→h.askE n p=0
 | 0,_,_,_,_,_,_,_,_,_=>rfl
 | n+1,l,a,b,p,r,hn,hd,hb,hen=>by
  unfold HS.askE
  by_cases c:p.hd<p.en
  ·rw [if_pos c]
   cases l with
   | nil=>
    have:a=b:=r
    omega
   | cons x l=>
    obtain⟨rfl,s,h1,h2,h3,h4,h5⟩:=r
    have e1:=(at_in (n:=h.n) (f:=h.f) (k:=a) (by omega)).1
    rw [if_pos (ent_row (h:=h) (p:=p) (a:=a) (by omega) hd hb h3)]
    exact ask_row n l h5 hn (by show p.hd+(atH h.n h.f p.hd).size=_;rw [hd,e1,h2];omega) hb hen
  ·rw [if_neg c]
theorem EndsN.big{p:Pla}{a S P:Nat}(o:ObjAt h a S P)(hd:p.hd=(a:Int))(hla:p.la≤p.fd)(hen:p.en=p.hd+1):h.entE p=0∧EndsN h per S (p,σ) (objRem h per p.fi p.be σ (a:Int))∧∀n,h.askE n p=0:=by
 have hE:h.entE p=0:=by
  unfold HS.entE
  rw [hd,if_pos ⟨o.e,.inl o.kind⟩]
 have hp:=o.pos
 have hps:=o.ps
 refine⟨hE,?_,fun n=>?_⟩
 ·have:EndsN h per 0 ({ h.entS p with fd:=max (h.entS p).fd (h.entS p).la },objRem h per p.fi p.be σ (a:Int)) (objRem h per p.fi p.be σ (a:Int)):=EndsN.done (by
   unfold Pla.more HS.entS
   dsimp only
   rw [hd,o.size]
   simp
   omega)
  have key:=EndsN.obj (per:=per) (σ:=σ) (τ:=objRem h per p.fi p.be σ (a:Int)) (N:=0) hla (by omega) hE (by
   refine cast ?_ this
   unfold objRem HS.entS
   rw [hd])
  refine key.le ?_
  show 0+(min (p.hd+1+(atH h.n h.f p.hd).ptrs) p.be-max (p.hd+1) p.fi).toNat+1≤S
  rw [hd,o.ptrs]
  omega
 ·cases n with
  | zero=>rfl
  | succ n=>
   unfold HS.askE
   rw [if_pos (by omega),if_pos hE]
   cases n with
   | zero=>rfl
   | succ n=>
    unfold HS.askE
    rw [if_neg]
    unfold HS.entS
    dsimp only
    rw [hd,o.size]
    omega
end
def HS.LeadsTo(h:HS)(v r:Nat):Prop:=∃t:Nat,h.f v=t+1∧t<h.n∧t / h.W=r∧v / h.W≠r
section
variable {h:HS}{s k cw per c:Nat}{H:Nat→Bool}
theorem remS_one(ok:h.Ok s k)(d:GDims h.g h.W h.R cw per){v:Nat}(hv:v<h.n)(hc:v / cw=c) :
  ∃H',h.remS per (oneS per c H) (v:Int)=oneS per c H'∧∀r,H' r=true↔H r=true∨h.LeadsTo v r:=by
 have hW:=ok.wpos
 have hn:=ok.nn
 have hnm:=ok.nmax
 have hcw:=d.c1
 have hw:h.wordAt (v:Int)=(h.f v:Int):=by unfold HS.wordAt;rw [if_pos ⟨by omega,by omega⟩,Int.toNat_natCast]
 unfold HS.remS
 rw [hw]
 by_cases hl:∃t:Nat,h.f v=t+1∧t<h.n
 ·obtain⟨t,e1,e2⟩:=hl
  have ha:adr ((h.f v:Nat):Int)=(t:Int):=by
   rw [e1,adr_in (by omega) (by omega)];omega
  have rg:∀u:Nat,u<h.n→h.g.regionOf (u:Int)=((u / h.W:Nat):Int):=fun u hu=>by
   unfold Geo.regionOf
   rw [if_pos ⟨by omega,by rw [ok.wd];omega⟩,ok.rw,← Int.natCast_ediv]
  have hcd:h.g.cardOf (v:Int)=(c:Int):=by
   unfold Geo.cardOf
   rw [if_pos ⟨by omega,by rw [ok.wd];omega⟩,d.cw,← Int.natCast_ediv,hc]
  rw [ha]
  have hx:h.g.crossB (v:Int) (t:Int)=decide (v / h.W≠t / h.W):=by
   unfold Geo.crossB
   rw [ok.wd,ok.rw,decide_eq_true (show(0:Int)≤(v:Int)by omega),decide_eq_true (show(v:Int)<(h.n:Int)by omega),decide_eq_true (show(0:Int)≤(t:Int)by omega),decide_eq_true (show(t:Int)<(h.n:Int)by omega),← Int.natCast_ediv,← Int.natCast_ediv]
   simp only [Bool.and_self,Bool.true_and]
   by_cases e:v / h.W=t / h.W
   ·rw [e];simp
   ·have e':¬ ((v / h.W:Nat):Int)=((t / h.W:Nat):Int):=fun q=>e (Int.ofNat.inj q)
    simp only [ne_eq,e,e',not_false_eq_true,decide_true]
  rw [hx]
  by_cases e:v / h.W=t / h.W
  ·rw [decide_eq_false (by simpa using e),if_neg (by simp)]
   refine⟨H,rfl,fun r=>⟨.inl,fun q=>q.elim id (fun ⟨t',k1,k2,k3,k4⟩=>?_)⟩⟩
   obtain rfl:t=t':=by omega
   exact absurd (e.trans k3) k4
  ·rw [decide_eq_true e,if_pos rfl,rg t e2,hcd]
   have h1:t / h.W<h.R:=by rw [Nat.div_lt_iff_lt_mul (by omega),← hn];exact e2
   have h2:c<h.R*per:=by
    rw [← hc,Nat.div_lt_iff_lt_mul (by omega),Nat.mul_assoc,← d.wp,← hn];exact hv
   have h3:c / per=v / h.W:=by rw [← hc,Nat.div_div_eq_div_mul,d.wp,Nat.mul_comm]
   rw [oneS_add h1 h2 (by rw [h3];exact e)]
   refine⟨_,rfl,fun r=>?_⟩
   rw [Bool.or_eq_true,decide_eq_true_eq]
   constructor
   ·rintro(rfl | q)
    ·exact .inr ⟨t,e1,e2,rfl,e⟩
    ·exact .inl q
   ·rintro(q | ⟨t',k1,k2,k3,k4⟩)
    ·exact .inr q
    ·obtain rfl:t=t':=by omega
     exact .inl k3.symm
 ·have hx:h.g.crossB (v:Int) (adr ((h.f v:Nat):Int))=false:=by
   refine cross_no ?_
   have hf:=ok.fok v
   by_cases e:h.f v=0
   ·rw [e];exact .inl (by decide)
   ·by_cases e2:(h.f v:Int)≤9223372036854775808
    ·rw [adr_in (by omega) e2,ok.wd]
     refine .inr ?_
     have:¬ h.f v-1<h.n:=fun q=>hl ⟨h.f v-1,by omega,q⟩
     omega
    ·exact .inl (adr_out (by omega) (by omega) (.inr (by omega)))
  rw [hx,if_neg (by simp)]
  exact⟨H,rfl,fun r=>⟨.inl,fun q=>q.elim id (fun ⟨t',k1,k2,_⟩=>absurd ⟨t',k1,k2⟩ hl)⟩⟩
theorem remL_one(ok:h.Ok s k)(d:GDims h.g h.W h.R cw per):∀(n:Nat) {v:Nat} {H:Nat→Bool},(∀j,j<n→v+j<h.n∧(v+j) / cw=c)→∃H',remL h per (oneS per c H) (v:Int) n=oneS per c H'∧∀r,H' r=true↔H r=true∨∃j,j<n∧h.LeadsTo (v+j) r
 | 0,v,H,_=>⟨H,rfl,fun r=>⟨.inl,fun q=>q.elim id (fun ⟨j,hj,_⟩=>absurd hj (by omega))⟩⟩
 | n+1,v,H,hv=>by
  obtain⟨H1,e1,e2⟩:=remS_one (H:=H) ok d (hv 0 (by omega)).1 (hv 0 (by omega)).2
  obtain⟨H2,e3,e4⟩:=remL_one ok d n (v:=v+1) (H:=H1) (fun j hj=>by
   have:=hv (j+1) (by omega)
   rw [show v+1+j=v+(j+1)by omega]
   exact this)
  refine⟨H2,?_,fun r=>?_⟩
  ·show remL h per (h.remS per (oneS per c H) (v:Int)) ((v:Int)+1) n=_
   rw [Nat.add_zero]at e1
   rw [e1,← e3]
   rfl
  ·rw [e4,e2,Nat.add_zero]
   constructor
   ·rintro((q | q) | ⟨j,hj,q⟩)
    ·exact .inl q
    ·exact .inr ⟨0,by omega,q⟩
    ·exact .inr ⟨j+1,by omega,by rw [show v+(j+1)=v+1+j by omega];exact q⟩
   ·rintro(q | ⟨j,hj,q⟩)
    ·exact .inl (.inl q)
    ·cases j with
     | zero=>exact .inl (.inr q)
     | succ j=>exact .inr ⟨j,by omega,by rw [show v+1+j=v+(j+1)by omega];exact q⟩
theorem objRem_one(ok:h.Ok s k)(d:GDims h.g h.W h.R cw per){a:Nat}(hP:0≤(atH h.n h.f (a:Int)).ptrs)(hfit:(a:Int)+1+(atH h.n h.f (a:Int)).ptrs≤(h.n:Int)){H:Nat→Bool} :
  ∃H',objRem h per ((c*cw:Nat):Int) ((c*cw+cw:Nat):Int) (oneS per c H) (a:Int)=oneS per c H'∧∀r,H' r=true↔H r=true∨∃v,a+1≤v∧(v:Int)<(a:Int)+1+(atH h.n h.f (a:Int)).ptrs∧v / cw=c∧h.LeadsTo v r:=by
 have hcw:=d.c1
 obtain⟨P,hP'⟩:=Int.eq_ofNat_of_zero_le hP
 unfold objRem
 rw [hP']at hfit ⊢
 have e0:max ((a:Int)+1) ((c*cw:Nat):Int)=((max (a+1) (c*cw):Nat):Int):=by omega
 rw [e0]
 obtain⟨n,hn⟩:∃n,(min ((a:Int)+1+(P:Int)) ((c*cw+cw:Nat):Int)-((max (a+1) (c*cw):Nat):Int)).toNat=n:=⟨_,rfl⟩
 rw [hn]
 obtain⟨H',e1,e2⟩:=remL_one (c:=c) (H:=H) ok d n (v:=max (a+1) (c*cw)) (fun j hj=>by
  refine⟨by omega,?_⟩
  rw [Nat.div_eq_iff (by omega)]
  constructor <;> omega)
 refine⟨H',e1,fun r=>(e2 r).trans ⟨fun q=>q.imp id fun ⟨j,hj,q⟩=>⟨max (a+1) (c*cw)+j,by omega,by omega,?_,q⟩,fun q=>q.imp id fun ⟨v,v1,v2,v3,q⟩=>?_⟩⟩
 ·rw [Nat.div_eq_iff (by omega)]
  constructor <;> omega
 ·have hv:=Nat.div_add_mod v cw
  have hm:=Nat.mod_lt v (show 0<cw by omega)
  rw [v3,Nat.mul_comm]at hv
  exact⟨v-max (a+1) (c*cw),by omega,by rw [show max (a+1) (c*cw)+(v-max (a+1) (c*cw))=v by omega];exact q⟩
theorem row_one(ok:h.Ok s k)(d:GDims h.g h.W h.R cw per):∀(l:List Int) {H:Nat→Bool},(∀x,x∈l→∃a:Nat,x=(a:Int)∧0≤(atH h.n h.f (a:Int)).ptrs∧(a:Int)+1+(atH h.n h.f (a:Int)).ptrs≤(h.n:Int)) →
  ∃H',l.foldl (objRem h per ((c*cw:Nat):Int) ((c*cw+cw:Nat):Int)) (oneS per c H)=oneS per c H'∧∀r,H' r=true↔H r=true∨∃a v:Nat,(a:Int)∈l∧a+1≤v∧(v:Int)<(a:Int)+1+(atH h.n h.f (a:Int)).ptrs∧v / cw=c∧h.LeadsTo v r
 | [],H,_=>⟨H,rfl,fun r=>⟨.inl,fun q=>q.elim id (fun ⟨_,_,h,_⟩=>by cases h)⟩⟩
 | x::l,H,hl=>by
  obtain⟨a,rfl,h1,h2⟩:=hl x (List.mem_cons_self ..)
  obtain⟨H1,e1,e2⟩:=objRem_one (c:=c) (H:=H) ok d h1 h2
  obtain⟨H2,e3,e4⟩:=row_one ok d l (H:=H1) (fun y hy=>hl y (List.mem_cons_of_mem _ hy))
  refine⟨H2,by rw [List.foldl_cons,e1];exact e3,fun r=>?_⟩
  rw [e4,e2]
  constructor
  ·rintro((q | ⟨v,q⟩) | ⟨b,v,hb,q⟩)
   ·exact .inl q
   ·exact .inr ⟨a,v,List.mem_cons_self ..,q⟩
   ·exact .inr ⟨b,v,List.mem_cons_of_mem _ hb,q⟩
  ·rintro(q | ⟨b,v,hb,q⟩)
   ·exact .inl (.inl q)
   ·rcases List.mem_cons.1 hb with e | hb
    ·obtain rfl:b=a:=by omega
     exact .inl (.inr ⟨v,q⟩)
    ·exact .inr ⟨b,v,hb,q⟩
end
end Go.Proofs.YteacgfeiedcdiaaGreatDoor
