/- Package remset: remember. -/
import Derived.Test.YteacgfeiedcdiaaGreatDoorPW18
import Derived.Deep.CutRange
import Derived.Test.YteacgfeiedcdiaaGreatDoorPW17
import Derived.Test.YteacgfeiedcdiaaGreatDoorPW02
import Derived.Deep.RegionHeld3
import Derived.Deep.OwnRows
namespace Go.Proofs.YteacgfeiedcdiaaGreatDoor
set_option maxRecDepth 100000
set_option linter.unusedVariables false
set_option linter.unusedSimpArgs false
open Go.RowKit Go.Gl
theorem Bet.total(σ:RS)(per h a b:Nat):Bet σ per h a b∨Bet σ per h b a:=by unfold Bet;omega
theorem best_ex{σ:RS}{per h:Nat}:∀N:Nat,(∃x,x<N∧σ.way h x=2)→∃m,BestOf σ per N h m
 | 0,⟨x,hx,_⟩=>absurd hx (by omega)
 | N+1,⟨x,hx,hw⟩=>by
  by_cases hN:σ.way h N=2
  ·by_cases hex:∃x,x<N∧σ.way h x=2
   ·obtain⟨m,h1,h2,h3⟩:=best_ex (per:=per) N hex
    rcases Bet.total σ per h m N with hb | hb
    ·refine⟨m,by omega,h2,fun y hy hy2=>?_⟩
     rcases Nat.lt_or_ge y N with h4 | h4
     ·exact h3 y h4 hy2
     ·obtain rfl:y=N:=by omega
      exact hb
    ·refine⟨N,by omega,hN,fun y hy hy2=>?_⟩
     rcases Nat.lt_or_ge y N with h4 | h4
     ·exact hb.trans (h3 y h4 hy2)
     ·obtain rfl:y=N:=by omega
      exact Bet.refl _ _ _ _
   ·refine⟨N,by omega,hN,fun y hy hy2=>?_⟩
    rcases Nat.lt_or_ge y N with h4 | h4
    ·exact absurd ⟨y,h4,hy2⟩ hex
    ·obtain rfl:y=N:=by omega
     exact Bet.refl _ _ _ _
  ·have hxN:x<N:=by
    rcases Nat.lt_or_ge x N with h4 | h4
    ·exact h4
    ·obtain rfl:x=N:=by omega
     exact absurd hw hN
   obtain⟨m,h1,h2,h3⟩:=best_ex (per:=per) N ⟨x,hxN,hw⟩
   refine⟨m,by omega,h2,fun y hy hy2=>?_⟩
   rcases Nat.lt_or_ge y N with h4 | h4
   ·exact h3 y h4 hy2
   ·obtain rfl:y=N:=by omega
    exact absurd hy2 hN
theorem nFine_ex{σ:RS}{n h:Nat}(h0:0<nFine σ n h):∃x,x<n∧σ.way h x=2:=by
 rcases Classical.em (∃x,x<n∧σ.way h x=2)with h1 | h1
 ·exact h1
 ·exfalso
  have:nFine σ n h=0:=cnt_none fun j hj=>by
   rw [Nat.zero_add]
   simp
   exact fun e=>h1 ⟨j,hj,e⟩
  omega
theorem bestOf_spec{σ:RS}{per n h:Nat}(h0:4<nFine σ n h):BestOf σ per n h (bestOf σ per n h):=by
 obtain⟨m,hm⟩:=best_ex (per:=per) n (nFine_ex (σ:=σ) (h:=h) (by omega))
 rw [bestOf_eq hm];exact hm
theorem coarsen_way(σ:RS)(per n h a b:Nat):(coarsen σ per n h).way a b≠0↔σ.way a b≠0:=by
 unfold coarsen
 split
 ·rename_i h0
  by_cases e:a=h∧b=bestOf σ per n h
  ·obtain⟨rfl,rfl⟩:=e
   rw [RS.way_at,(bestOf_spec h0).2.1];simp
  ·rw [RS.way_ne _ _ _ _ e]
 ·exact Iff.rfl
theorem coarsen_ok{σ:RS}{per n h:Nat}(ok:SOk per n σ):SOk per n (coarsen σ per n h):=by
 unfold coarsen
 split
 ·rename_i h0
  obtain⟨h1,h2,_⟩:=bestOf_spec (per:=per) h0
  have h3:=ok.rng h _ (by rw [h2];decide)
  exact ok.put (fun _=>⟨h3.1,h3.2.1,h3.2.2.1,by decide⟩) (fun c _ h=>by cases h)
 ·exact ok
def RemPost(w:World)(tg:Tg)(sb kb sB hB fB per n:Nat)(σ':RS)(e:Ending)(w':World):Prop:=
 ∃tg' fk' Vs' Vh' Vf' F,e=.returned (.tuple #[])∧Rs w' tg' sb kb sB hB fB per n σ' fk' Vs' Vh' Vf'∧Fr F w w'∧(∀b,b∈F→(tg b).1≠0)∧TgUp w tg tg'
theorem known{w:World}{tg:Tg}{kb per n:Nat}{σ:RS}{fk:Value→Option Value}(hk:Kn w tg kb per n σ fk)(ok:SOk per n σ){h s:Nat}(hh:h<n)(hs:s<n)(h3:σ.way h s≠3) :
  (σ.way h s=2∧∃bs bw ws,fk (pairV h s)=some (memOf 2 (.slice none 0 0) (.pointer (some ⟨bs,0,none⟩)))∧BSet w bs bw per ws∧tg bs=(10,h,s)∧tg bw=(10,h,s)∧∀i,i<per→wbit ws i=σ.has h (s*per+i)) ∨
  (σ.way h s≤1∧∃A c G,∃l:List Int,(fk (pairV h s)).getD (memOf 0 (.slice none 0 0) (.pointer none))=memOf (σ.way h s:Nat) (.slice A l.length c) (.pointer none)∧Lr w 3 A l.length c G (zv l)∧(∀g,g∈G→tg g=(9,h,s))∧l.Pairwise (·<·)∧(∀x,x∈l↔∃c:Nat,x=(c:Int)∧c / per=s∧σ.has h c=true)∧l.length≤4∧(σ.way h s=0→l=[])):=by
 by_cases hw:σ.way h s=0
 ·refine .inr ⟨by omega,none,0,[],[],?_,Lr.nil _ _,(fun _ hg=>by cases hg),List.Pairwise.nil,fun x=>?_,by decide,fun _=>rfl⟩
  ·have:fk (pairV h s)=none:=by
    cases hf:fk (pairV h s)with
    | none=>rfl
    | some v=>
     obtain⟨a,b,_,_,e1,e2⟩:=hk.key _ _ hf
     obtain⟨e3,e4⟩:=pairV_inj e1
     obtain rfl:h=a:=by omega
     obtain rfl:s=b:=by omega
     exact absurd hw e2
   rw [this,hw];rfl
  ·constructor
   ·intro hx;cases hx
   ·rintro⟨c,_,hc,hb⟩
    have:=(ok.can h c hb).2
    rw [hc]at this;omega
 ·obtain⟨v,hv,hm⟩:=hk.mem h s hh hs hw
  rcases hm with⟨e,A,c,G,l,rfl,e2,e3,e4⟩ | ⟨e,bs,bw,ws,rfl,e2,e3,e4,e5⟩ | ⟨e,_⟩
  ·exact .inr ⟨by omega,A,c,G,l,by rw [hv,e];rfl,e2,e3,e4.up,e4.mem,e4.len,fun h0=>absurd h0 hw⟩
  ·exact .inl ⟨e,bs,bw,ws,hv,e2,e3,e4,e5⟩
  ·exact absurd e h3
set_option maxRecDepth 100000 in
set_option maxHeartbeats 3200000 in
theorem remember_any{w:World}{tg:Tg}{sb kb sB hB fB per n:Nat}{σ:RS}{fk:Value→Option Value}{Vs Vh Vf:Nat→Value}(H:Rs w tg sb kb sB hB fB per n σ fk Vs Vh Vf){h s c:Nat}(hh:h<n)(hc:c<n*per)(hcs:c / per=s)(hne:h≠s)(hno:hasN σ per h c=false) :
  Calls Tryz.prog 141 #[.pointer (some ⟨sb,0,none⟩),.agg #[.int .i64 (h:Int),.int .i64 (s:Int)],.int .i64 (c:Int)] w (RemPost w tg sb kb sB hB fB per n (addS σ per n h c)):=by
 have hd:=H.ok.dim
 have hn:=hd.n2
 have hs:s<n:=hcs ▸ hd.div hc
 have hw3:σ.way h s≠3:=fun e=>by unfold hasN at hno;rw [hcs,e]at hno;simp at hno
 have hhc:σ.has h c=false:=by
  unfold hasN at hno
  simpa using (Bool.or_eq_false_iff.1 hno).2
 obtain⟨lt,hlt⟩:=pairKey (h:Int) (s:Int) (wf_nat (by omega)) (wf_nat (by omega))
 have c2:=H.st.c2
 have N0:sb<w.heap.size:=Blk.lt H.st
 have HL:Hid (∀w' v,Fr [] w w'→(fk (pairV h s)).getD (memOf 0 (.slice none 0 0) (.pointer none))=v→(Instr.lookup 98 (.map (some kb)) (.agg #[.int .i64 (h:Int),.int .i64 (s:Int)]) false).run Tryz.prog w'=.ok v w'):=fun w' v hf hv=>by
  rw [← hv];exact(H.kn.mp.fr0 hf).look Tryz.pairLaw Tryz.underlying98 (zeroMem w') hlt
 have hkn:=known H.kn H.ok hh hs hw3
 obtain⟨W,A,ln,ca,k,hget⟩:∃(W:Nat) (A:Option Addr) (ln ca:Nat) (k:Option Addr),(fk (pairV h s)).getD (memOf 0 (.slice none 0 0) (.pointer none))=.agg #[.int .i64 (W:Int),.slice A ln ca,.pointer k]:=by
  rcases hkn with⟨e,bs,bw,ws,e1,_⟩ | ⟨e,A,c,G,l,e1,_⟩
  ·exact⟨2,none,0,0,_,by rw [e1];rfl⟩
  ·exact⟨_,A,_,c,none,e1⟩
 have K1:=HL.out (w.alloc (.cells #[.int .i64 (h:Int),.int .i64 (s:Int)] 105)).drew _ (((Fr.refl _ _).alloc _).drew) hget
 have K2:=fun o=>HL.out ((w.alloc (.cells #[.int .i64 (h:Int),.int .i64 (s:Int)] 105)).alloc o).drew _ ((((Fr.refl _ _).alloc _).alloc o).drew) hget
 have HR:=hide H
 have HKn:=hide hkn
 have HGet:=hide hget
 have HD:=hide hd
 have HCs:=hide hcs
 have HHc:=hide hhc
 have HKy:=hide hlt
 clear H hkn hget HL hlt hd hcs hno hhc
 go_enter Tryz.func141,Tryz.ntmps141
 go_wp2_with fail
 go_cut [6] from 9 to 14 (fun p wx=>p=.pointer (some ⟨w.heap.size+1,0,none⟩)∧wx=((w.alloc (.cells #[.int .i64 (h:Int),.int .i64 (s:Int)] 105)).alloc (.cells #[.int .i64 (W:Int),.slice A ln ca,.pointer k] 131)).drew)
 case first=>
  go_region_with (fail)
  all_goals
   go_wp2_with fail
   go_meet
   case rel=>exact⟨rfl,rfl⟩
 case rest=>
  obtain⟨rfl,rfl⟩:=hcut
  obtain⟨w1,hw1⟩:∃w1,w1=((w.alloc (.cells #[.int .i64 (h:Int),.int .i64 (s:Int)] 105)).alloc (.cells #[.int .i64 (W:Int),.slice A ln ca,.pointer k] 131)).drew:=⟨_,rfl⟩
  have hF:Fr [] w w1:=hw1 ▸ (((Fr.refl _ _).alloc _).alloc _).drew
  have hpb:Blk w1 w.heap.size 105 #[.int .i64 (h:Int),.int .i64 (s:Int)]:=by rw [hw1];exact((Blk.new w _ _).alloc _).drew
  have hmb:Blk w1 (w.heap.size+1) 131 #[.int .i64 (W:Int),.slice A ln ca,.pointer k]:=by rw [hw1];exact(Blk.new_at _ _ (by simp)).drew
  have hsz:w1.heap.size=w.heap.size+2:=by rw [hw1];simp
  rw [← hw1]
  have HF:=hide hF
  have HPb:=hide hpb
  have HMb:=hide hmb
  have HSz:=hide hsz
  clear hw1 hF hpb hmb hsz K1 K2 c2
  rcases HKn.out with⟨e,bs,bw,ws,e1,hset,ht1,ht2,hws⟩ | ⟨e,A0,c0,G,l,e1,hl,hG,hup,hmem,hlen,h0l⟩
  ·have hg2:=HGet.out
   rw [e1]at hg2
   obtain⟨rfl,rfl,rfl,rfl,rfl⟩:W=2∧A=none∧ln=0∧ca=0∧k=some ⟨bs,0,none⟩:=by
    simp [memOf]at hg2
    obtain⟨h1,⟨h2,h3,h4⟩,h5⟩:=hg2
    exact⟨by omega,h2.symm,h3.symm,h4.symm,h5.symm⟩
   have HSet:=hide hset
   have HW:=hide (fun w' (hf:Fr [] w1 w')=>swithin_any (HR.out.st.fr (HF.out.trans_nil hf) (by simp)) HD.out hc)
   have HP:=hide (fun w' (hf:Fr [] w1 w')=>put_any ((HSet.out.fr (HF.out.trans_nil hf) (by simp) (by simp))) ((c % per:Nat):Int))
   have hS1:w1.cell? ⟨w.heap.size+1,2,none⟩=some (.pointer (some ⟨bs,0,none⟩)):=by rw [HMb.out.cell];rfl
   have hS0:w1.cell? ⟨w.heap.size+1,0,none⟩=some (.int .i64 2):=by rw [HMb.out.cell];rfl
   have HS:Hid (∀w' w'',Fr [] w1 w'→Fr [bw] w' w''→w''.cell? ⟨w.heap.size+1,2,none⟩=some (.pointer (some ⟨bs,0,none⟩))):=fun w' w'' hf hf2=>by
    have h1:=HSet.out.row.lt
    exact((hf2.cell (Nat.lt_of_lt_of_le HMb.out.lt hf.size) (by simp;omega)).trans (hf.cell HMb.out.lt (by simp))).trans hS1
   have HE1:=hide e1
   have HE:=hide e
   have HT1:=hide ht1
   have HT2:=hide ht2
   have HWs:=hide hws
   clear hset e1 e ht1 ht2 hws hg2
   generalize hr:c % per=r at *
   have HRr:=hide hr
   clear hr
   go_wp2_with fail
   go_region_held3 (fun w'=>w'.cell? ⟨w.heap.size+1,2,none⟩=some (.pointer (some ⟨bs,0,none⟩)))
    (first | exact HS.out _ _ (Fr.refl _ _) ((Fr.refl _ _).drew) | exact HS.out _ _ ((Fr.refl _ _).drew) (by assumption))
    (first | (go_at_call 68;refine(HW.out _ ((Fr.refl _ _).drew)).mono ?_;rintro e w' ⟨rfl,rfl⟩) | (go_at_call 49;refine(HP.out _ ((Fr.refl _ _).drew)).mono ?_;rintro e w3 ⟨cb,er,ws',rfl,hb3,hF3,hT3⟩;have HB3:=hide hb3;have HT3:=hide hT3;clear hb3 hT3))
   all_goals
    go_wp2_with fail
    go_end0
    have hfw3:Fr [bw] w w3:=((HF.out.mono (G:=[bw]) (fun _ hx=>by cases hx)).drew).trans_same hF3
    have hbwt:(tg bw).1=10:=by rw [HT2.out]
    have hadd:addS σ per n h c=σ.put per h s 2 (plus σ h c):=by unfold addS;rw [HCs.out,if_pos HE.out]
    rw [hadd]
    have hbk:=HD.out.back (c:=c)
    rw [HCs.out,HRr.out]at hbk
    have hbits:∀i,i<per→wbit ws' i=plus σ h c (s*per+i):=fun i hi=>by
     rcases HT3.out with⟨_,_,_,_,h3⟩ | ⟨h1,_⟩
     ·rw [h3 i,Int.toNat_natCast,HWs.out i hi]
      unfold plus
      by_cases e:i=r
      ·subst e;rw [if_pos rfl,hbk.1];simp
      ·rw [if_neg e]
       have:¬ (s*per+i=c):=by omega
       simp [this]
     ·exact absurd ⟨Int.natCast_nonneg _,by have:=hbk.2;omega⟩ h1
    have hkn3:=HR.out.kn.keep (k:=2) (g:=plus σ h c) (tg':=tg) (by decide) (by rw [HE.out];decide) HE1.out hfw3 (fun b hb=>by simp at hb;subst hb;rw [HT2.out];simp) (TgUp.refl _ _) (.inr (.inl ⟨rfl,bs,bw,ws',rfl,HB3.out,HT1.out,HT2.out,hbits⟩))
    have hw2:∀a b,(σ.put per h s 2 (plus σ h c)).way a b=σ.way a b:=fun a b=>by
     by_cases e:a=h∧b=s
     ·obtain⟨rfl,rfl⟩:=e;rw [RS.way_at,HE.out]
     ·rw [RS.way_ne _ _ _ _ e]
    refine⟨tg,fk,Vs,Vh,Vf,[bw],rfl,⟨HR.out.ok.put (fun _=>⟨hh,hs,hne,by decide⟩) (fun x hx hp=>?_),HR.out.st.fr hfw3 (fun hb=>by simp at hb;subst hb;rw [HR.out.tst]at hbwt;simp at hbwt),HR.out.tst,fun b hb=>Nat.lt_of_lt_of_le (HR.out.tok b hb) hfw3.size,hkn3,
     (HR.out.src.fr hfw3 (fun b hb=>by simp at hb;subst hb;rw [hbwt];decide) (TgUp.refl _ _)).congr (fun a _ b _=>by rw [hw2]),(HR.out.hom.fr hfw3 (fun b hb=>by simp at hb;subst hb;rw [hbwt];decide) (TgUp.refl _ _)).congr (fun a _ b _=>by rw [hw2]),
     (HR.out.fin.fr hfw3 (fun b hb=>by simp at hb;subst hb;rw [hbwt];decide) (TgUp.refl _ _)).congr (fun a _ b _=>by rw [hw2])⟩,hfw3,fun b hb=>by simp at hb;subst hb;rw [hbwt];decide,TgUp.refl _ _⟩
    unfold plus at hp
    rcases Bool.or_eq_true_iff.1 hp with h1 | h1
    ·exact⟨(HR.out.ok.can h x h1).1,.inr rfl⟩
    ·have:x=c:=by simpa using h1
     subst this
     exact⟨hc,.inr rfl⟩
  ·have hg2:=HGet.out
   rw [e1]at hg2
   obtain⟨rfl,rfl,rfl,rfl,rfl⟩:W=σ.way h s∧A=A0∧ln=l.length∧ca=c0∧k=none:=by
    simp [memOf]at hg2
    obtain⟨h1,⟨h2,h3,h4⟩,h5⟩:=hg2
    exact⟨by omega,h2.symm,h3.symm,h4.symm,h5.symm⟩
   have hxl:(c:Int)∉l:=fun h0=>by
    obtain⟨c',h1,h2,h3⟩:=(hmem _).1 h0
    obtain rfl:c=c':=by omega
    rw [HHc.out]at h3;cases h3
   obtain⟨D,hD⟩:∃D,D=insAt l (c:Int):=⟨_,rfl⟩
   have hDl:D.length=l.length+1:=by rw [hD,insAt_len]
   have hDup:D.Pairwise (·<·):=by rw [hD];exact insAt_up hup hxl
   have hDm:∀x,x∈D↔∃c':Nat,x=(c':Int)∧c' / per=s∧plus σ h c c'=true:=fun x=>by
    rw [hD,insAt_mem,hmem x]
    unfold plus
    constructor
    ·rintro(rfl | ⟨c',h1,h2,h3⟩)
     ·exact⟨c,rfl,HCs.out,by simp⟩
     ·exact⟨c',h1,h2,by rw [h3];rfl⟩
    ·rintro⟨c',h1,h2,h3⟩
     rcases Bool.or_eq_true_iff.1 h3 with h4 | h4
     ·exact .inr ⟨c',h1,h2,h4⟩
     ·have:c'=c:=by simpa using h4
      subst this
      exact .inl h1
   have hcnt:D.length=cntS (σ.put per h s 1 (plus σ h c)) per h s:=few_cnt HD.out.p1 hDup hDm
   have hws0:l.Pairwise (·≤·):=hup.imp fun h=>by omega
   have hsl:=(hl.fr0 HF.out).slz
   have HBin:=hide (binary_sl (c:=ca) hsl (by omega) hws0 (c:Int))
   have hmbG:w.heap.size+1∉G:=fun h0=>by have:=hl.lt _ h0;omega
   have hpbG:w.heap.size∉G:=fun h0=>by have:=hl.lt _ h0;omega
   have HI:Hid (∀q,Calls Tryz.prog 163 #[.slice A l.length ca,.int .i64 ((l.countP (·<(c:Int)):Nat):Int),.slice (some ⟨(w1.drewN q).heap.size,0,none⟩) 1 1] ((w1.drewN q).alloc (.cells #[.int .i64 (c:Int)] 3)) (InsPost ((w1.drewN q).alloc (.cells #[.int .i64 (c:Int)] 3)) G D)):=fun q=>by
    rw [hD]
    exact insert_lr ((hl.fr0 (HF.out.drewN q)).alloc _) (List.countP_le_length) (Blk.new _ _ _) (fun h0=>by have h1:=hl.lt _ h0;have h2:=HSz.out;have h3:(w1.drewN q).heap.size=w1.heap.size:=rfl;omega) (by omega)
   have HMem:=hide hmem
   have HDm:=hide hDm
   have HDup:=hide hDup
   have HCnt:=hide hcnt
   have HLl:=hide hlen
   have HDl:=hide hDl
   have HE:=hide e
   have HG:=hide hG
   have H0l:=hide h0l
   have HLf:=hide hl
   have HMbG:=hide hmbG
   have HPbG:=hide hpbG
   have hS1:w1.cell? ⟨w.heap.size+1,1,none⟩=some (.slice A l.length ca):=by rw [HMb.out.cell];rfl
   have hS0:w1.cell? ⟨w.heap.size+1,0,none⟩=some (.int .i64 ((σ.way h s:Nat):Int)):=by rw [HMb.out.cell];rfl
   have hwn2:(((σ.way h s:Nat):Int)==2)=false:=by
    have:=HE.out
    simp
    omega
   have HCB:Hid (∀q w3,Fr G ((w1.drewN q).alloc (.cells #[.int .i64 (c:Int)] 3)) w3→Fr G w w3∧Blk w3 (w.heap.size+1) 131 #[.int .i64 ((σ.way h s:Nat):Int),.slice A l.length ca,.pointer none]∧Blk w3 w.heap.size 105 #[.int .i64 (h:Int),.int .i64 (s:Int)]):=fun q w3 hf=>by
    refine⟨(((HF.out.drewN q).alloc (.cells #[.int .i64 (c:Int)] 3)).mono (G:=G) (fun _ hx=>by cases hx)).trans_same hf,((HMb.out.drewN q).alloc _).fr hf HMbG.out,((HPb.out.drewN q).alloc _).fr hf HPbG.out⟩
   clear hxl hD hDup hDm hcnt hws0 hsl hl hG hup hmem hlen e h0l hg2 e1 hmbG hpbG hDl
   generalize hdl:D.length=dl at *
   have HDL:=hide hdl
   clear hdl
   unfold InsPost at HI
   have hdle:dl≤5:=by have:=HDl.out;have:=HLl.out;omega
   generalize hll:l.length=ll at *
   generalize hat:l.countP (·<(c:Int))=atp at *
   generalize decide ((c:Int)∈l)=fnd at *
   clear hat
   have HLL:=hide hll
   clear hll
   generalize hWY:σ.way h s=W at *
   have HWY:=hide hWY
   clear hWY
   rw [HDL.out]at HI
   by_cases hgt:4<dl
   ·have hgt1:((dl:Int)>4):=by omega
    have HMF:Hid (∀q w3 A' c' G',Lr w3 3 A' dl c' G' (zv D)→Fr G ((w1.drewN q).alloc (.cells #[.int .i64 (c:Int)] 3)) w3→(∀g,g∈G'→g∈G∨g=((w1.drewN q).alloc (.cells #[.int .i64 (c:Int)] 3)).heap.size) →
      Fr G w (w3.setCell ⟨w.heap.size+1,1,none⟩ (.slice A' dl c'))∧Calls Tryz.prog 164 #[.pointer (some ⟨sb,0,none⟩),.agg #[.int .i64 (h:Int),.int .i64 (s:Int)],.slice A' dl c'] (w3.setCell ⟨w.heap.size+1,1,none⟩ (.slice A' dl c')) (MfPost (w3.setCell ⟨w.heap.size+1,1,none⟩ (.slice A' dl c')) tg kb fB per n (coarsen (σ.put per h s 2 (fun x=>decide ((x:Int)∈D))) per n h))):=fun q w3 A' c' G' hl3 hf3 hg3=>by
     have hfw3:=(HCB.out q w3 hf3).1
     have hfw4:Fr G w (w3.setCell ⟨w.heap.size+1,1,none⟩ (.slice A' dl c')):=hfw3.setCell (p:=⟨w.heap.size+1,1,none⟩) (.inr (by simp)) _
     have hf34:Fr [w.heap.size+1] w3 (w3.setCell ⟨w.heap.size+1,1,none⟩ (.slice A' dl c')):=(Fr.refl _ _).setCell (p:=⟨w.heap.size+1,1,none⟩) (.inl (by simp)) _
     have hmG':∀g,g∈G'→g∉[w.heap.size+1]:=fun g hg h0=>by
      simp at h0
      subst h0
      rcases hg3 _ hg with h1 | h1
      ·exact HMbG.out h1
      ·have h2:=HSz.out
       simp at h1
       have h3:(w1.drewN q).heap.size=w1.heap.size:=rfl
       omega
     have hk0:∀b,b∈G→(tg b).1=9:=fun b hb=>by rw [HG.out b hb]
     refine⟨hfw4,?_⟩
     have hl4:=hl3.fr hf34 hmG'
     rw [← HDL.out]at hl4 ⊢
     rw [← HDL.out]at hfw4
     exact makeFine_any (F0:=G) (HR.out.st.fr hfw4 (fun hb=>by have:=hk0 _ hb;rw [HR.out.tst]at this;simp at this)) HR.out.tst (fun b hb=>Nat.lt_of_lt_of_le (HR.out.tok b hb) hfw4.size) HD.out HR.out.kn hfw4 HG.out
      (HR.out.fin.fr hfw4 (fun b hb=>by rw [hk0 b hb];decide) (TgUp.refl _ _)) hh hs (by rw [HWY.out];have:=HE.out;omega) hl4 (by rw [HDL.out];omega) (fun x hx=>by
       obtain⟨c',h1,h2,h3⟩:=(HDm.out x).1 hx
       refine⟨c',h1,?_,h2⟩
       unfold plus at h3
       rcases Bool.or_eq_true_iff.1 h3 with h4 | h4
       ·exact(HR.out.ok.can h c' h4).1
       ·have:c'=c:=by simpa using h4
        subst this;exact hc)
    go_wp2_with (first
     | (go_at_call 162;refine HBin.out.mono ?_;rintro e w2 ⟨rfl,q,rfl⟩)
     | (go_at_call 163;refine(HI.out q).mono ?_;rintro e w3 ⟨A',c',G',rfl,hl3,hf3,hg3⟩;have hcb:=(HCB.out q w3 hf3).2;have m1:=hcb.1.cell 1;have m0:=hcb.1.cell 0;have mf:=hcb.1.frozen 1;have p0:=hcb.2.cell 0;have p1:=hcb.2.cell 1;simp only [List.getElem?_toArray,List.getElem?_cons_zero,List.getElem?_cons_succ]at m0 m1 p0 p1;have HM:=hide (HMF.out q w3 A' c' G' hl3 hf3 hg3);clear hl3 hf3 hg3 hcb)
     | (go_at_call 164;refine HM.out.2.mono ?_;rintro e w5 ⟨tg',fk',V',F,rfl,hkn5,hfi5,hf5,hF5,hu5,ht5⟩))
    go_end0
    have hw1:W≠0:=fun e=>by
     have h1:=H0l.out e
     have h2:=HLL.out
     have h3:=HDl.out
     rw [h1]at h2
     simp at h2
     omega
    have hway1:σ.way h s=1:=by have h1:=HWY.out;have h2:=HE.out;omega
    have hadd:addS σ per n h c=coarsen (σ.put per h s 2 (fun x=>decide ((x:Int)∈D))) per n h:=by
     unfold addS
     rw [HCs.out,if_neg (by rw [hway1];decide),if_neg (by rw [← HCnt.out];omega)]
     congr 1
     refine RS.put_congr fun x hx=>?_
     cases hp:plus σ h c x with
     | true=>exact(decide_eq_true ((HDm.out _).2 ⟨x,rfl,hx,hp⟩)).symm
     | false=>exact(decide_eq_false (fun h0=>by
       obtain⟨x',h1,_,h3⟩:=(HDm.out _).1 h0
       obtain rfl:x=x':=by omega
       rw [hp]at h3;cases h3)).symm
    rw [hadd]
    have hfw4:=HM.out.1
    have hk0:∀b,b∈G→(tg b).1=9:=fun b hb=>by rw [HG.out b hb]
    have hfw5:Fr (G++F) w w5:=(hfw4.mono (G:=G++F) (fun x hx=>.inl (List.mem_append_left _ hx))).trans hf5 (fun x hx=>.inl (List.mem_append_right _ hx))
    have hkF:∀b,b∈G++F→(tg b).1=9∨(tg b).1=2∨(tg b).1=5∨(tg b).1=8:=fun b hb=>by
     rcases List.mem_append.1 hb with hb | hb
     ·exact .inl (hk0 b hb)
     ·exact .inr (hF5 b hb)
    have huw:TgUp w tg tg':=fun b hb=>hu5 b (Nat.lt_of_lt_of_le hb hfw4.size)
    have hokp:SOk per n (σ.put per h s 2 (fun x=>decide ((x:Int)∈D))):=HR.out.ok.put (fun _=>⟨hh,hs,hne,by decide⟩) (fun x hx hp=>by
     obtain⟨x',h1,_,h3⟩:=(HDm.out _).1 (of_decide_eq_true hp)
     obtain rfl:x=x':=by omega
     unfold plus at h3
     rcases Bool.or_eq_true_iff.1 h3 with h4 | h4
     ·exact⟨(HR.out.ok.can h x h4).1,.inr rfl⟩
     ·have:x=c:=by simpa using h4
      subst this;exact⟨hc,.inr rfl⟩)
    have hwp:∀a b,(σ.put per h s 2 (fun x=>decide ((x:Int)∈D))).way a b≠0↔σ.way a b≠0:=fun a b=>by
     by_cases e:a=h∧b=s
     ·obtain⟨rfl,rfl⟩:=e;rw [RS.way_at,hway1];decide
     ·rw [RS.way_ne _ _ _ _ e]
    refine⟨tg',fk',Vs,Vh,V',G++F,rfl,⟨coarsen_ok hokp,HR.out.st.fr hfw5 (fun hb=>by have:=hkF _ hb;rw [HR.out.tst]at this;omega),(huw _ N0).trans HR.out.tst,ht5,hkn5,
     (HR.out.src.fr hfw5 (fun b hb=>by have:=hkF b hb;omega) huw).congr (fun a _ b _=>by rw [coarsen_way,hwp]),(HR.out.hom.fr hfw5 (fun b hb=>by have:=hkF b hb;omega) huw).congr (fun a _ b _=>by rw [coarsen_way,hwp]),hfi5⟩,hfw5,fun b hb=>by have:=hkF b hb;omega,huw⟩
   ·have hgt1:¬ ((dl:Int)>4):=by omega
    have HAft:Hid (∀q w3 A' c' G',Lr w3 3 A' dl c' G' (zv D)→Fr G ((w1.drewN q).alloc (.cells #[.int .i64 (c:Int)] 3)) w3→(∀g,g∈G'→g∈G∨g=((w1.drewN q).alloc (.cells #[.int .i64 (c:Int)] 3)).heap.size) →
      Fr G w (w3.setCell ⟨w.heap.size+1,1,none⟩ (.slice A' dl c'))∧Lr (w3.setCell ⟨w.heap.size+1,1,none⟩ (.slice A' dl c')) 3 A' dl c' G' (zv D)∧(∀g,g∈G'→g∈G∨g=w1.heap.size+1)∧Blk (w3.setCell ⟨w.heap.size+1,1,none⟩ (.slice A' dl c')) w.heap.size 105 #[.int .i64 (h:Int),.int .i64 (s:Int)] ∧
      (w3.setCell ⟨w.heap.size+1,1,none⟩ (.slice A' dl c')).cell? ⟨w.heap.size+1,1,none⟩=some (.slice A' dl c')):=fun q w3 A' c' G' hl3 hf3 hg3=>by
     have hcb:=HCB.out q w3 hf3
     have hf34:Fr [w.heap.size+1] w3 (w3.setCell ⟨w.heap.size+1,1,none⟩ (.slice A' dl c')):=(Fr.refl _ _).setCell (p:=⟨w.heap.size+1,1,none⟩) (.inl (by simp)) _
     have hs3:((w1.drewN q).alloc (.cells #[.int .i64 (c:Int)] 3)).heap.size=w1.heap.size+1:=by simp [World.drewN]
     have hmG':∀g,g∈G'→g∉[w.heap.size+1]:=fun g hg h0=>by
      simp at h0
      subst h0
      rcases hg3 _ hg with h1 | h1
      ·exact HMbG.out h1
      ·have h2:=HSz.out
       rw [hs3]at h1
       omega
     refine⟨hcb.1.setCell (p:=⟨w.heap.size+1,1,none⟩) (.inr (by simp)) _,hl3.fr hf34 hmG',fun g hg=>(hg3 g hg).imp id (fun h0=>by rw [h0,hs3]),hcb.2.2.far (p:=⟨w.heap.size+1,1,none⟩) (by simp) _,?_⟩
     rw [(hcb.2.1.put 1 (.slice A' dl c')).cell];rfl
    go_wp2_with (first
     | (go_at_call 162;refine HBin.out.mono ?_;rintro e w2 ⟨rfl,q,rfl⟩)
     | (go_at_call 163;refine(HI.out q).mono ?_;rintro e w3 ⟨A',c',G',rfl,hl3,hf3,hg3⟩;have hcb:=(HCB.out q w3 hf3).2;have m1:=hcb.1.cell 1;have m0:=hcb.1.cell 0;have mf:=hcb.1.frozen 1;simp only [List.getElem?_toArray,List.getElem?_cons_zero,List.getElem?_cons_succ]at m0 m1;have HM:=hide (HAft.out q w3 A' c' G' hl3 hf3 hg3);clear hl3 hf3 hg3 hcb))
    clear m0 m1 mf hS1 hS0 HI HBin HAft HCB
    generalize w3.setCell ⟨w.heap.size+1,1,none⟩ (.slice A' dl c')=w4 at *
    obtain⟨hfw4,hl4,hg4,hpb4,hm4⟩:=HM.out
    have hk0:∀b,b∈G→(tg b).1=9:=fun b hb=>by rw [HG.out b hb]
    have hnG:∀b,(tg b).1≠9→b∉G:=fun b hb h0=>hb (hk0 b h0)
    have hst4:St w4 sb kb sB hB fB per n:=HR.out.st.fr hfw4 (hnG _ (by rw [HR.out.tst];decide))
    have hc2:=hst4.c2
    have hp0:w4.cell? ⟨w.heap.size,0,none⟩=some (.int .i64 (h:Int)):=by rw [hpb4.cell];rfl
    have hp1:w4.cell? ⟨w.heap.size,1,none⟩=some (.int .i64 (s:Int)):=by rw [hpb4.cell];rfl
    have HMp:Hid (Mp Tryz.prog 105 w4 kb fk):=HR.out.kn.mp.fr hfw4 (hnG _ (by rw [HR.out.kn.tag];decide))
    have HSt4:=hide hst4
    have HPb4:=hide hpb4
    have HFw4:=hide hfw4
    have HL4:=hide hl4
    have HG4:=hide hg4
    have HNG:=hide hnG
    have HK0:=hide hk0
    clear hst4 hpb4 hfw4 hl4 hg4 hnG hk0 HM
    refine region_tail 8 (by kernel_rfl) (by kernel_rfl) ?_
    simp only [List.take_succ_cons,List.take_zero,List.drop_succ_cons,List.drop_zero]
    repeat still_step
    refine wpStill_nil ?_
    go_wp2_with (at_mapUpdate;refine list_of rfl fun K hK=>wp_update (key:=pairV h s) (v:=memOf 1 (.slice A' dl c') (.pointer none)) _ _ _ 98 rfl Tryz.pairLaw Tryz.underlying98 HMp.out ((Fr.refl _ _).drew) rfl rfl HKy.out rfl ?_;intro w5 hM5 hF5;refine hK _ _ ?_)
    clear hc2 hp0 hp1 hm4
    have hkb5:∀b,(tg b).1≠2→b∉[kb]:=fun b hb h0=>by simp at h0;subst h0;rw [HR.out.kn.tag]at hb;exact hb rfl
    have hst5:St w5 sb kb sB hB fB per n:=St.fr (St.fr HSt4.out ((Fr.refl [] w4).drew) (by simp)) hF5.out (hkb5 _ (by rw [HR.out.tst];decide))
    have hpb5:Blk w5 w.heap.size 105 #[.int .i64 (h:Int),.int .i64 (s:Int)]:=(HPb4.out.drew).fr hF5.out (hkb5 _ (fun e=>absurd (HR.out.tok _ (by omega)) (Nat.lt_irrefl _)))
    have hc3:=hst5.c3
    have hp0:w5.cell? ⟨w.heap.size,0,none⟩=some (.int .i64 (h:Int)):=by rw [hpb5.cell];rfl
    have hp1:w5.cell? ⟨w.heap.size,1,none⟩=some (.int .i64 (s:Int)):=by rw [hpb5.cell];rfl
    obtain⟨tg1,htg1⟩:∃tg1:Tg,tg1=if w1.heap.size+1∈G' then setTg tg (w1.heap.size+1) (9,h,s) else tg:=⟨_,rfl⟩
    have hu1:TgUp w tg tg1:=fun b hb=>by
     rw [htg1]
     split
     ·exact setTg_ne _ _ (by have:=HSz.out;omega)
     ·rfl
    have hG1:∀g,g∈G'→tg1 g=(9,h,s):=fun g hg=>by
     rcases HG4.out g hg with h1 | h1
     ·rw [hu1 g (HLf.out.lt g h1),HG.out g h1]
     ·subst h1;rw [htg1,if_pos hg,setTg_at]
    have hk1:TgOk w5.drew tg1:=fun b hb=>by
     have h45:w4.heap.size≤w5.heap.size:=hF5.out.size
     show b<w5.heap.size
     rw [htg1]at hb
     split at hb
     ·rename_i hin
      by_cases e:b=w1.heap.size+1
      ·have:=HL4.out.lt _ hin;omega
      ·rw [setTg_ne _ _ e]at hb
       have:=HR.out.tok b hb
       have:=HFw4.out.size
       omega
     ·have:=HR.out.tok b hb
      have:=HFw4.out.size
      omega
    have hfw5:Fr (kb::G) w w5:=((HFw4.out.drew).mono (G:=kb::G) (fun x hx=>.inl (List.mem_cons_of_mem _ hx))).trans hF5.out (fun x hx=>.inl (by simp at hx;simp [hx]))
    have hk5:∀b,b∈kb::G→(tg b).1=2∨(tg b).1=9:=fun b hb=>by
     rcases List.mem_cons.1 hb with rfl | hb
     ·left;rw [HR.out.kn.tag]
     ·right;exact HK0.out b hb
    have hkn5:Kn w5 tg1 kb per n (σ.put per h s 1 (plus σ h c)) _:=HR.out.kn.up (k:=1) (g:=plus σ h c) (tg':=tg1) hh hs (by decide) (HFw4.out.drew) (fun b hb=>by rw [HG.out b hb];simp) hu1 hM5.out hF5.out
     (.inl ⟨rfl,A',c',G',D,by rw [HDL.out],by rw [HDL.out];exact HL4.out.drew,hG1,HDup.out,HDm.out,by rw [HDL.out];omega⟩)
    have hX5:Ix w5.drew tg1 6 sB n (fun h s=>σ.way h s≠0) Vs:=(HR.out.src.fr hfw5 (fun b hb=>by have:=hk5 b hb;omega) hu1).fr ((Fr.refl [] w5).drew) (fun _ hb=>by cases hb) (TgUp.refl _ _)
    have hY5:Ix w5.drew tg1 7 hB n (fun s h=>σ.way h s≠0) Vh:=(HR.out.hom.fr hfw5 (fun b hb=>by have:=hk5 b hb;omega) hu1).fr ((Fr.refl [] w5).drew) (fun _ hb=>by cases hb) (TgUp.refl _ _)
    have hZ5:Fi w5.drew tg1 fB n (fun h s=>σ.way h s=2) Vf:=(HR.out.fin.fr hfw5 (fun b hb=>by have:=hk5 b hb;omega) hu1).fr ((Fr.refl [] w5).drew) (fun _ hb=>by cases hb) (TgUp.refl _ _)
    have HP1:=hide (rput_any hX5 (by decide) hh hs hn)
    have HKn5:=hide (hkn5.fr ((Fr.refl [] w5).drew) (fun _ hb=>by cases hb) (TgUp.refl _ _))
    have HY5:=hide hY5
    have HZ5:=hide hZ5
    have HU1:=hide hu1
    have HK1:=hide hk1
    have HSt5:=hide hst5
    have HPb5:=hide hpb5
    have HFw5:=hide hfw5
    have HKk5:=hide hk5
    have htp1:(tg1 w.heap.size).1=0∧tg1 sb=(1,0,0):=by
     refine⟨?_,(hu1 _ N0).trans HR.out.tst⟩
     have e:tg1 w.heap.size=tg w.heap.size:=by
      rw [htg1]
      split
      ·exact setTg_ne _ _ (by have:=HSz.out;omega)
      ·rfl
     rw [e]
     rcases Nat.eq_zero_or_pos (tg w.heap.size).1 with h0 | h0
     ·exact h0
     ·exact absurd (HR.out.tok _ (by omega)) (Nat.lt_irrefl _)
    have HTp1:=hide htp1
    have N5:sb<w5.heap.size:=Blk.lt hst5
    clear hkb5 hst5 hpb5 htg1 hu1 hG1 hk1 hfw5 hk5 hkn5 hX5 hY5 hZ5 htp1
    refine region_tail 8 (by kernel_rfl) (by kernel_rfl) ?_
    simp only [List.take_succ_cons,List.take_zero,List.drop_succ_cons,List.drop_zero]
    repeat still_step
    refine wpStill_nil ?_
    go_wp2_with (go_at_call 165;refine HP1.out.mono ?_;rintro e w6 ⟨V1,tg2,F1,rfl,hix6,hf6,hk6,hu6,ht6⟩)
    clear hc3 hp0 hp1
    have hst6:St w6 sb kb sB hB fB per n:=St.fr (St.fr HSt5.out ((Fr.refl [] w5).drew) (by simp)) hf6 (fun hb=>by have:=hk6 _ hb;rw [HTp1.out.2]at this;simp at this)
    have hpb6:Blk w6 w.heap.size 105 #[.int .i64 (h:Int),.int .i64 (s:Int)]:=(HPb5.out.drew).fr hf6 (fun hb=>by have:=hk6 _ hb;rw [HTp1.out.1]at this;simp at this)
    have hc4:=hst6.c4
    have hp0:w6.cell? ⟨w.heap.size,0,none⟩=some (.int .i64 (h:Int)):=by rw [hpb6.cell];rfl
    have hp1:w6.cell? ⟨w.heap.size,1,none⟩=some (.int .i64 (s:Int)):=by rw [hpb6.cell];rfl
    have hY6:Ix w6.drew tg2 7 hB n (fun s h=>σ.way h s≠0) Vh:=(HY5.out.fr hf6 (fun b hb=>by have:=hk6 b hb;omega) hu6).fr ((Fr.refl [] w6).drew) (fun _ hb=>by cases hb) (TgUp.refl _ _)
    have HP2:=hide (rput_any hY6 (by decide) hs hh hn)
    have HKn6:=hide ((HKn5.out.fr hf6 (fun b hb=>by have:=hk6 b hb;omega) hu6).fr ((Fr.refl [] w6).drew) (fun _ hb=>by cases hb) (TgUp.refl _ _))
    have HZ6:=hide ((HZ5.out.fr hf6 (fun b hb=>by have:=hk6 b hb;omega) hu6).fr ((Fr.refl [] w6).drew) (fun _ hb=>by cases hb) (TgUp.refl _ _))
    have HX6:=hide (hix6.fr ((Fr.refl [] w6).drew) (fun _ hb=>by cases hb) (TgUp.refl _ _))
    have HF6:=hide hf6
    have HK6:=hide hk6
    have HU6:=hide hu6
    have HT6:=hide ht6
    clear hix6 hf6 hk6 hu6 ht6 hst6 hpb6 hY6
    refine region_tail 8 (by kernel_rfl) (by kernel_rfl) ?_
    simp only [List.take_succ_cons,List.take_zero,List.drop_succ_cons,List.drop_zero]
    repeat still_step
    refine wpStill_nil ?_
    go_wp2_with (go_at_call 165;refine HP2.out.mono ?_;rintro e w7 ⟨V2,tg3,F2,rfl,hix7,hf7,hk7,hu7,ht7⟩)
    go_end0
    have hwW:=HWY.out
    have hWl:=HE.out
    have hadd:addS σ per n h c=σ.put per h s 1 (plus σ h c):=by
     unfold addS
     rw [HCs.out,if_neg (by rw [hwW];omega),if_pos (by rw [← HCnt.out];omega)]
    rw [hadd]
    have hF7:Fr ((kb::G)++F1++F2) w w7:=(((HFw5.out.drew).mono (G:=(kb::G)++F1++F2) (fun x hx=>.inl (List.mem_append_left _ (List.mem_append_left _ hx)))).trans HF6.out (fun x hx=>.inl (by simp [hx]))).drew.trans hf7 (fun x hx=>.inl (by simp [hx]))
    have hu13:TgUp w tg tg3:=(HU1.out.trans HU6.out HFw5.out.size).trans hu7 (Nat.le_trans HFw5.out.size (show w5.drew.heap.size≤w6.drew.heap.size from HF6.out.size))
    have hu12:TgUp w tg tg2:=HU1.out.trans HU6.out HFw5.out.size
    have hkall:∀b,b∈((kb::G)++F1++F2).filter (·<w.heap.size)→(tg b).1≠0∧(tg b).1≠1:=fun b hb=>by
     obtain⟨h1,h2⟩:=List.mem_filter.1 hb
     have hbl:b<w.heap.size:=by simpa using h2
     rcases List.mem_append.1 h1 with h3 | h3
     ·rcases List.mem_append.1 h3 with h4 | h4
      ·have:=HKk5.out b h4;omega
      ·have:=HK6.out b h4;rw [HU1.out b hbl]at this;omega
     ·have:=hk7 b h3;rw [hu12 b hbl]at this;omega
    refine⟨tg3,_,V1,V2,Vf,_,rfl,⟨HR.out.ok.put (fun _=>⟨hh,hs,hne,by decide⟩) (fun x hx hp=>?_),HR.out.st.fr (Fr_old hF7) (fun hb=>by have:=(hkall _ hb).2;rw [HR.out.tst]at this;simp at this),(hu13 _ N0).trans HR.out.tst,ht7 (HT6.out HK1.out),HKn6.out.fr hf7 (fun b hb=>by have:=hk7 b hb;omega) hu7,
     (HX6.out.fr hf7 (fun b hb=>by have:=hk7 b hb;omega) hu7).congr (fun a _ b _=>?_),hix7.congr (fun a _ b _=>?_),(HZ6.out.fr hf7 (fun b hb=>by have:=hk7 b hb;omega) hu7).congr (fun a _ b _=>?_)⟩,Fr_old hF7,fun b hb=>(hkall b hb).1,hu13⟩
    ·unfold plus at hp
     rcases Bool.or_eq_true_iff.1 hp with h4 | h4
     ·exact⟨(HR.out.ok.can h x h4).1,.inl rfl⟩
     ·have:x=c:=by simpa using h4
      subst this;exact⟨hc,.inl rfl⟩
    ·by_cases e:a=h∧b=s
     ·obtain⟨rfl,rfl⟩:=e;simp [RS.way_at]
     ·rw [RS.way_ne _ _ _ _ e];simp [e]
    ·by_cases e:b=h∧a=s
     ·obtain⟨rfl,rfl⟩:=e;simp [RS.way_at]
     ·rw [RS.way_ne _ _ _ _ e]
      constructor
      ·rintro(h1 | ⟨h1,h2⟩)
       ·exact h1
       ·exact absurd ⟨h2,h1⟩ e
      ·exact fun h1=>.inl h1
    ·by_cases e:a=h∧b=s
     ·obtain⟨rfl,rfl⟩:=e;rw [RS.way_at,hwW];omega
     ·rw [RS.way_ne _ _ _ _ e]
open Classical in
noncomputable def addR (σ:RS) (per n:Nat) (a c:Int):Bool×Int×RS:=
 if ¬ (0≤a∧a<(n:Int))∨¬ (0≤c∧c<((n*per:Nat):Int)) then (false,2,σ)
 else if c.toNat / per=a.toNat then (false,3,σ)
 else if hasN σ per a.toNat c.toNat=true then (false,0,σ)
 else (true,0,addS σ per n a.toNat c.toNat)
theorem addR_bad{σ:RS}{per n:Nat}{a c:Int}(h:¬ (0≤a∧a<(n:Int))∨¬ (0≤c∧c<((n*per:Nat):Int))):addR σ per n a c=(false,2,σ):=by unfold addR;rw [if_pos h]
theorem addR_at{σ:RS}{per n a c:Nat}(ha:a<n)(hc:c<n*per):addR σ per n (a:Int) (c:Int)=if c / per=a then (false,3,σ) else if hasN σ per a c=true then (false,0,σ) else (true,0,addS σ per n a c):=by
 unfold addR
 rw [if_neg (by omega)]
 simp only [Int.toNat_natCast]
def AddPost(w:World)(tg:Tg)(sb kb sB hB fB per n:Nat)(r:Bool×Int×RS)(e:Ending)(w':World):Prop:=
 ∃tg' fk' Vs' Vh' Vf' F,e=.returned (.tuple #[.bool r.1,.int .i64 r.2.1])∧Rs w' tg' sb kb sB hB fB per n r.2.2 fk' Vs' Vh' Vf'∧Fr F w w'∧(∀b,b∈F→(tg b).1≠0)∧TgUp w tg tg'
set_option maxRecDepth 100000 in
set_option maxHeartbeats 1600000 in
theorem radd_any{w:World}{tg:Tg}{sb kb sB hB fB per n:Nat}{σ:RS}{fk:Value→Option Value}{Vs Vh Vf:Nat→Value}(H:Rs w tg sb kb sB hB fB per n σ fk Vs Vh Vf)(a c:Int) :
  Calls Tryz.prog 89 #[.pointer (some ⟨sb,0,none⟩),.int .i64 a,.int .i64 c] w (AddPost w tg sb kb sB hB fB per n (addR σ per n a c)):=by
 have HRg:=hide (isRegion_any H.st H.ok.dim a)
 have HCd:=hide (isCard_any H.st H.ok.dim c)
 have hn:=H.ok.dim.n2
 by_cases ha:0≤a∧a<(n:Int)
 case neg=>
  have hd:decide (0≤a∧a<(n:Int))=false:=decide_eq_false ha
  rw [hd]at HRg
  rw [addR_bad (.inl ha)]
  have HR:=hide H
  clear H ha hd HCd
  go_enter Tryz.func89,Tryz.ntmps89
  go_wp2_with (go_at_call 46;refine HRg.out.mono ?_;rintro e w' ⟨rfl,rfl⟩)
  go_ret2
  exact⟨tg,_,_,_,_,[],rfl,HR.out,Fr.refl _ _,(fun _ hb=>by cases hb),TgUp.refl _ _⟩
 case pos=>
 have hd:decide (0≤a∧a<(n:Int))=true:=decide_eq_true ha
 rw [hd]at HRg
 clear hd
 by_cases hc:0≤c∧c<((n*per:Nat):Int)
 case neg=>
  have hd:decide (0≤c∧c<((n*per:Nat):Int))=false:=decide_eq_false hc
  rw [hd]at HCd
  rw [addR_bad (.inr hc)]
  have HR:=hide H
  clear H ha hc hd
  go_enter Tryz.func89,Tryz.ntmps89
  go_wp2_with (first | (go_at_call 46;refine HRg.out.mono ?_;rintro e w' ⟨rfl,rfl⟩) | (go_at_call 65;refine HCd.out.mono ?_;rintro e w' ⟨rfl,rfl⟩))
  go_ret2
  exact⟨tg,_,_,_,_,[],rfl,HR.out,Fr.refl _ _,(fun _ hb=>by cases hb),TgUp.refl _ _⟩
 case pos=>
 have hd:decide (0≤c∧c<((n*per:Nat):Int))=true:=decide_eq_true hc
 rw [hd]at HCd
 clear hd
 obtain⟨h,rfl⟩:=Int.eq_ofNat_of_zero_le ha.1
 obtain⟨m,rfl⟩:=Int.eq_ofNat_of_zero_le hc.1
 have hh:h<n:=by omega
 have hm:m<n*per:=by omega
 rw [addR_at hh hm]
 have HSo:=hide (sourceOf_any H.st H.ok.dim hm)
 clear ha hc
 by_cases he:m / per=h
 ·rw [if_pos he]
  rw [he]at HSo
  have HR:=hide H
  clear H he
  go_enter Tryz.func89,Tryz.ntmps89
  go_wp2_with (first | (go_at_call 46;refine HRg.out.mono ?_;rintro e w' ⟨rfl,rfl⟩) | (go_at_call 65;refine HCd.out.mono ?_;rintro e w' ⟨rfl,rfl⟩) | (go_at_call 66;refine HSo.out.mono ?_;rintro e w' ⟨rfl,rfl⟩))
  go_ret2
  exact⟨tg,_,_,_,_,[],rfl,HR.out.fr0 ((Fr.refl _ _).alloc _),(Fr.refl _ _).alloc _,(fun _ hb=>by cases hb),TgUp.refl _ _⟩
 ·rw [if_neg he]
  have hq:m / per<n:=H.ok.dim.div hm
  obtain⟨w1,hw1⟩:∃w1,w1=w.alloc (.cells #[.int .i64 (h:Int),.int .i64 ((m / per:Nat):Int)] 105):=⟨_,rfl⟩
  have hF1:Fr [] w w1:=hw1 ▸ (Fr.refl _ _).alloc _
  have hpb:Blk w1 w.heap.size 105 #[.int .i64 (h:Int),.int .i64 ((m / per:Nat):Int)]:=by rw [hw1];exact Blk.new w _ _
  have HHas:Hid (Calls Tryz.prog 28 #[.pointer (some ⟨sb,0,none⟩),.int .i64 (h:Int),.int .i64 (m:Int)] w1 fun e w'=>e=.returned (.bool (hasN σ per h m))∧Fr [] w1 w'):=by
   have:=rhas_any (H.fr0 hF1) (h:Int) (m:Int) (wf_nat (by omega))
   rw [hasI_at σ per n h m hm]at this
   exact this
  have HRem:Hid (∀w',Fr [] w1 w'→hasN σ per h m=false→Calls Tryz.prog 141 #[.pointer (some ⟨sb,0,none⟩),.agg #[.int .i64 (h:Int),.int .i64 ((m / per:Nat):Int)],.int .i64 (m:Int)] w' (RemPost w' tg sb kb sB hB fB per n (addS σ per n h m))):=fun w' hf hno=>remember_any (H.fr0 (hF1.trans_nil hf)) hh hm rfl (fun e=>he e.symm) hno
  have HPb:Hid (∀w',Fr [] w1 w'→w'.cell? ⟨w.heap.size,0,none⟩=some (.int .i64 (h:Int))∧w'.cell? ⟨w.heap.size,1,none⟩=some (.int .i64 ((m / per:Nat):Int))):=fun w' hf=>by
   have:=hpb.fr hf (by simp)
   exact⟨by rw [this.cell];rfl,by rw [this.cell];rfl⟩
  have HR:=hide H
  have HF1:=hide hF1
  clear H hpb hF1
  subst hw1
  generalize addS σ per n h m=σ' at *
  generalize m / per=q at *
  have hqh:((q:Int)==(h:Int))=false:=by simp;omega
  cases hno:hasN σ per h m with
  | true=>
   rw [hno]at HHas
   rw [if_pos rfl]
   clear HRem hno
   go_enter Tryz.func89,Tryz.ntmps89
   go_wp2_with (first | (go_at_call 46;refine HRg.out.mono ?_;rintro e w' ⟨rfl,rfl⟩) | (go_at_call 65;refine HCd.out.mono ?_;rintro e w' ⟨rfl,rfl⟩) | (go_at_call 66;refine HSo.out.mono ?_;rintro e w' ⟨rfl,rfl⟩) | (go_at_call 28;refine HHas.out.mono ?_;rintro e w2 ⟨rfl,hf2⟩))
   go_ret2
   have hf:=HF1.out.trans_nil hf2
   exact⟨tg,_,_,_,_,[],rfl,HR.out.fr0 hf,hf,(fun _ hb=>by cases hb),TgUp.refl _ _⟩
  | false=>
   rw [hno]at HHas
   rw [if_neg (by decide)]
   have HNo:=hide hno
   clear hno
   go_enter Tryz.func89,Tryz.ntmps89
   go_wp2_with (first | (go_at_call 46;refine HRg.out.mono ?_;rintro e w' ⟨rfl,rfl⟩) | (go_at_call 65;refine HCd.out.mono ?_;rintro e w' ⟨rfl,rfl⟩) | (go_at_call 66;refine HSo.out.mono ?_;rintro e w' ⟨rfl,rfl⟩) | (go_at_call 28;refine HHas.out.mono ?_;rintro e w2 ⟨rfl,hf2⟩;have p0:=(HPb.out w2 hf2).1;have p1:=(HPb.out w2 hf2).2;have HRm:=hide (HRem.out w2 hf2 HNo.out);have HF2:=hide hf2;clear hf2) | (go_at_call 141;refine HRm.out.mono ?_;rintro e w3 ⟨tg',fk',Vs',Vh',Vf',F,rfl,hr3,hf3,hk3,hu3⟩))
   go_ret2
   have hf:=HF1.out.trans_nil HF2.out
   exact⟨tg',_,_,_,_,F,rfl,hr3,(hf.mono (fun _ hx=>by cases hx)).trans_same hf3,hk3,fun b hb=>hu3 b (Nat.lt_of_lt_of_le hb hf.size)⟩
def GeoMay(g:Geo):Prop:=1≤g.regions∧g.regions≤65536∧1≤g.cw∧1≤g.rw∧g.rw≤4194304 / g.regions∧g.rw % g.cw=0∧g.words=g.regions*g.rw∧g.cards=g.words / g.cw
def MayPost(g:Geo)(w:World)(e:Ending)(w':World):Prop:=∃b,e=.returned (.bool b)∧(b=true↔GeoMay g)∧Fr [] w w'
set_option maxRecDepth 100000 in
set_option maxHeartbeats 1600000 in
theorem rmayBe_any(g:Geo)(w:World):Calls Tryz.prog 129 #[g.val] w (MayPost g w):=by
 obtain⟨words,rw0,cw,regions,cards,max⟩:=g
 unfold MayPost Geo.val
 by_cases h1:regions≥1
 case neg=>
  have HM:Hid ((false=true)↔GeoMay ⟨words,rw0,cw,regions,cards,max⟩):=⟨fun h=>(by cases h),fun h=>(by obtain⟨a1,a2,a3,a4,a5,a6,a7,a8⟩:=h;exact absurd a1 h1)⟩
  have hbd:decide (regions≥1)=false:=decide_eq_false h1
  go_enter Tryz.func129,Tryz.ntmps129
  go_wp2_with fail
  go_quiet (fail)
  go_wp2
  go_ret
  exact⟨_,rfl,HM.out,((Fr.refl _ _).alloc _).drewN _⟩
 case pos=>
 by_cases h2:regions≤65536
 case neg=>
  have HM:Hid ((false=true)↔GeoMay ⟨words,rw0,cw,regions,cards,max⟩):=⟨fun h=>(by cases h),fun h=>(by obtain⟨a1,a2,a3,a4,a5,a6,a7,a8⟩:=h;exact absurd a2 h2)⟩
  have hbd:decide (regions≤65536)=false:=decide_eq_false h2
  go_enter Tryz.func129,Tryz.ntmps129
  go_wp2_with fail
  go_quiet (fail)
  go_wp2
  go_ret
  exact⟨_,rfl,HM.out,((Fr.refl _ _).alloc _).drewN _⟩
 case pos=>
 by_cases h3:cw≥1
 case neg=>
  have HM:Hid ((false=true)↔GeoMay ⟨words,rw0,cw,regions,cards,max⟩):=⟨fun h=>(by cases h),fun h=>(by obtain⟨a1,a2,a3,a4,a5,a6,a7,a8⟩:=h;exact absurd a3 h3)⟩
  have hbd:decide (cw≥1)=false:=decide_eq_false h3
  go_enter Tryz.func129,Tryz.ntmps129
  go_wp2_with fail
  go_quiet (fail)
  go_wp2
  go_ret
  exact⟨_,rfl,HM.out,((Fr.refl _ _).alloc _).drewN _⟩
 case pos=>
 by_cases h4:rw0≥1
 case neg=>
  have HM:Hid ((false=true)↔GeoMay ⟨words,rw0,cw,regions,cards,max⟩):=⟨fun h=>(by cases h),fun h=>(by obtain⟨a1,a2,a3,a4,a5,a6,a7,a8⟩:=h;exact absurd a4 h4)⟩
  have hbd:decide (rw0≥1)=false:=decide_eq_false h4
  go_enter Tryz.func129,Tryz.ntmps129
  go_wp2_with fail
  go_quiet (fail)
  go_wp2
  go_ret
  exact⟨_,rfl,HM.out,((Fr.refl _ _).alloc _).drewN _⟩
 case pos=>
 have hr0:¬ (regions=0):=by omega
 have htd:(4194304:Int).tdiv regions=4194304 / regions:=Int.tdiv_eq_ediv_of_nonneg (by decide)
 have hD0:0≤(4194304:Int) / regions:=Int.ediv_nonneg (by decide) (by omega)
 have hD1:(4194304:Int) / regions≤4194304:=Int.ediv_le_self _ (by decide)
 have hwD:IntKind.i64.wrap ((4194304:Int) / regions)=4194304 / regions:=by rw [IntKind.wrap_i64];omega
 by_cases h5:rw0≤4194304 / regions
 case neg=>
  have HM:Hid ((false=true)↔GeoMay ⟨words,rw0,cw,regions,cards,max⟩):=⟨fun h=>(by cases h),fun h=>(by obtain⟨a1,a2,a3,a4,a5,a6,a7,a8⟩:=h;exact absurd a5 h5)⟩
  have hbd:decide (rw0≤4194304 / regions)=false:=decide_eq_false h5
  generalize (4194304:Int) / regions=D at *
  go_enter Tryz.func129,Tryz.ntmps129
  go_wp2_with fail
  go_quiet (fail)
  go_wp2
  go_ret
  exact⟨_,rfl,HM.out,((Fr.refl _ _).alloc _).drewN _⟩
 case pos=>
 have hc0:¬ (cw=0):=by omega
 have htm:rw0.tmod cw=rw0 % cw:=Int.tmod_eq_emod_of_nonneg (by omega)
 have hE0:0≤rw0 % cw:=Int.emod_nonneg _ (by omega)
 have hE1:rw0 % cw<cw:=Int.emod_lt_of_pos _ (by omega)
 have hrw:rw0≤4194304:=by omega
 have hM:regions*rw0≤4194304:=Int.le_trans (Int.mul_le_mul_of_nonneg_left h5 (by omega)) (Int.mul_ediv_self_le hr0)
 have hM0:0≤regions*rw0:=Int.mul_nonneg (by omega) (by omega)
 obtain⟨M,hMM⟩:∃M,regions*rw0=M:=⟨_,rfl⟩
 rw [hMM]at hM hM0
 have hwM:IntKind.i64.wrap M=M:=by rw [IntKind.wrap_i64];omega
 have hE2:rw0 % cw≤rw0:=by
  have h0:=Int.mul_ediv_add_emod rw0 cw
  have h1:0≤cw*(rw0 / cw):=Int.mul_nonneg (by omega) (Int.ediv_nonneg (by omega) (by omega))
  omega
 have hwE:IntKind.i64.wrap (rw0 % cw)=rw0 % cw:=by rw [IntKind.wrap_i64];omega
 by_cases h6:rw0 % cw=0
 case neg=>
  have HM:Hid ((false=true)↔GeoMay ⟨words,rw0,cw,regions,cards,max⟩):=⟨fun h=>(by cases h),fun h=>(by obtain⟨a1,a2,a3,a4,a5,a6,a7,a8⟩:=h;exact absurd a6 h6)⟩
  have hb:(rw0 % cw==0)=false:=by simpa using h6
  generalize (4194304:Int) / regions=D at *
  generalize rw0 % cw=E at *
  go_enter Tryz.func129,Tryz.ntmps129
  go_wp2_with fail
  go_quiet (fail)
  go_wp2
  go_ret
  exact⟨_,rfl,HM.out,((Fr.refl _ _).alloc _).drewN _⟩
 case pos=>
 by_cases h7:words=M
 case neg=>
  have HM:Hid ((false=true)↔GeoMay ⟨words,rw0,cw,regions,cards,max⟩):=⟨fun h=>(by cases h),fun h=>(by obtain⟨a1,a2,a3,a4,a5,a6,a7,a8⟩:=h;exact absurd (a7.trans hMM) h7)⟩
  have hb:(words==M)=false:=by simpa using h7
  generalize (4194304:Int) / regions=D at *
  generalize rw0 % cw=E at *
  go_enter Tryz.func129,Tryz.ntmps129
  go_wp2_with fail
  go_quiet (fail)
  go_wp2
  go_ret
  exact⟨_,rfl,HM.out,((Fr.refl _ _).alloc _).drewN _⟩
 case pos=>
 subst h7
 have htw:words.tdiv cw=words / cw:=Int.tdiv_eq_ediv_of_nonneg hM0
 have hq0:0≤words / cw:=Int.ediv_nonneg hM0 (by omega)
 have hq1:words / cw≤4194304:=Int.le_trans (Int.ediv_le_self _ hM0) hM
 have hwQ:IntKind.i64.wrap (words / cw)=words / cw:=by rw [IntKind.wrap_i64];omega
 by_cases h8:cards=words / cw
 case neg=>
  have HM:Hid ((false=true)↔GeoMay ⟨words,rw0,cw,regions,cards,max⟩):=⟨fun h=>(by cases h),fun h=>(by obtain⟨a1,a2,a3,a4,a5,a6,a7,a8⟩:=h;exact absurd a8 h8)⟩
  have hb:(cards==words / cw)=false:=by simpa using h8
  generalize (4194304:Int) / regions=D at *
  generalize rw0 % cw=E at *
  generalize words / cw=Q at *
  go_enter Tryz.func129,Tryz.ntmps129
  go_wp2_with fail
  go_quiet (fail)
  go_wp2
  go_ret
  exact⟨_,rfl,HM.out,((Fr.refl _ _).alloc _).drewN _⟩
 case pos=>
 have HM:Hid (GeoMay ⟨words,rw0,cw,regions,cards,max⟩):=⟨h1,h2,h3,h4,h5,h6,hMM.symm,h8⟩
 generalize (4194304:Int) / regions=D at *
 generalize rw0 % cw=E at *
 generalize words / cw=Q at *
 go_enter Tryz.func129,Tryz.ntmps129
 go_wp2_with fail
 go_quiet (fail)
 go_wp2
 go_ret
 exact⟨_,rfl,⟨fun _=>HM.out,fun _=>rfl⟩,((Fr.refl _ _).alloc _).drewN _⟩
theorem bool_yes{p:Prop}{b:Bool}(h:b=true↔p)(hp:p):Ending.returned (.bool b)=.returned (.bool true):=by rw [h.2 hp]
structure OkG(g:Geo)(per n:Nat):Prop where
 dim:Dim per n
 regions:g.regions=n
 cards:g.cards=((n*per:Nat):Int)
 quo:g.rw.tdiv g.cw=(per:Int)
 cw0:¬ g.cw=0
 may:GeoMay g
theorem Tryz.info_mapI:(Tryz.prog.info? 97).map (fun i=>(i.zero,i.size,i.bytes))=some (some (.map none),1,8):=by kernel_rfl
theorem Tryz.info_intsS:(Tryz.prog.info? 31).map (fun i=>(i.zero,i.size,i.bytes))=some (some (.slice none 0 0),1,24):=by kernel_rfl
theorem made_rowF(n:Nat)(v:Value)(h:v.cells=#[v]):madeCells #[v] n=rowF n fun _=>v:=by
 have:=made_one v h n
 rw [h]at this
 rw [rowF_const,← this,Array.toArray_toList]
theorem make_rowF{P:Program}{t e:TypeId}{z:Value}{by':Nat}(ht:P.underlying t=some (.slice e))(hi:(P.info? e).map (fun i=>(i.zero,i.size,i.bytes))=some (some z,1,by'))(hz:z.cells=#[z]){n:Nat}(hb:by'≤64)(hn:n≤65536)(w:World) :
  (Instr.makeSlice t (.int .i64 (n:Int)) (.int .i64 (n:Int))).run P w=.ok (.slice (some ⟨w.heap.size,0,none⟩) n n) (w.alloc (.cells (rowF n fun _=>z) e)):=by
 rw [run_make_row' (P:=P) t e z by' ht hi hz .i64 .i64 n (Nat.le_trans (Nat.mul_le_mul hb hn) (by decide)) (by omega) w,made_rowF n z hz]
def freshS:RS:=⟨fun _ _=>0,fun _ _=>false⟩
def NewSets(w:World)(per n:Nat)(e:Ending)(w':World):Prop:=
 ∃tg sb kb sB hB fB fk Vs Vh Vf,e=.returned (.tuple #[.pointer (some ⟨sb,0,none⟩),.int .i64 0])∧Rs w' tg sb kb sB hB fB per n freshS fk Vs Vh Vf∧Fr [] w w'∧∀b,b<w.heap.size→(tg b).1=0
theorem rs_fresh{w W:World}{sb kb sB hB fB per n:Nat}(d:Dim per n)(hs:St W sb kb sB hB fB per n)(hk:Mp Tryz.prog 105 W kb (fun _=>none))(h3:Blk W sB 97 (rowF n fun _=>.map none))(h4:Blk W hB 97 (rowF n fun _=>.map none))
  (h5:Blk W fB 31 (rowF n fun _=>.slice none 0 0)) (hf:Fr [] w W) (hl:w.heap.size≤sb∧w.heap.size≤kb∧w.heap.size≤sB∧w.heap.size≤hB∧w.heap.size≤fB) (hne:sB≠hB) :
  NewSets w per n (.returned (.tuple #[.pointer (some ⟨sb,0,none⟩),.int .i64 0])) W:=by
 obtain⟨l1,l2,l3,l4,l5⟩:=hl
 have n1:kb≠sb:=hk.blk_ne hs
 have n2:kb≠sB:=hk.blk_ne h3
 have n3:kb≠hB:=hk.blk_ne h4
 have n4:kb≠fB:=hk.blk_ne h5
 have n5:sB≠sb:=Blk.apart h3 hs (by decide)
 have n6:hB≠sb:=Blk.apart h4 hs (by decide)
 have n7:fB≠sb:=Blk.apart h5 hs (by decide)
 have n8:sB≠fB:=Blk.apart h3 h5 (by decide)
 have n9:hB≠fB:=Blk.apart h4 h5 (by decide)
 let tg:Tg:=setTg (setTg (setTg (setTg (setTg (fun _=>(0,0,0)) kb (2,0,0)) sB (3,0,0)) hB (4,0,0)) fB (5,0,0)) sb (1,0,0)
 have t1:tg sb=(1,0,0):=setTg_at _ _ _
 have t5:tg fB=(5,0,0):=(setTg_ne _ _ n7).trans (setTg_at _ _ _)
 have t4:tg hB=(4,0,0):=(setTg_ne _ _ n6).trans ((setTg_ne _ _ n9).trans (setTg_at _ _ _))
 have t3:tg sB=(3,0,0):=(setTg_ne _ _ n5).trans ((setTg_ne _ _ n8).trans ((setTg_ne _ _ hne).trans (setTg_at _ _ _)))
 have t2:tg kb=(2,0,0):=(setTg_ne _ _ n1).trans ((setTg_ne _ _ n4).trans ((setTg_ne _ _ n3).trans ((setTg_ne _ _ n2).trans (setTg_at _ _ _))))
 have t0:∀b,b≠sb→b≠kb→b≠sB→b≠hB→b≠fB→tg b=(0,0,0):=fun b b1 b2 b3 b4 b5=>
  (setTg_ne _ _ b1).trans ((setTg_ne _ _ b5).trans ((setTg_ne _ _ b4).trans ((setTg_ne _ _ b3).trans (setTg_ne _ _ b2))))
 refine⟨tg,sb,kb,sB,hB,fB,_,_,_,_,rfl,⟨⟨d,fun _ _ h=>absurd rfl h,fun _ _ h=>by cases h⟩,hs,t1,fun b hb=>?_,⟨hk,t2,fun _ _ h=>(by cases h),fun _ _ _ _ h=>absurd rfl h⟩,
  ⟨h3,t3,fun r hr=>.inl ⟨rfl,fun _ _ h=>absurd rfl h⟩⟩,⟨h4,t4,fun r hr=>.inl ⟨rfl,fun _ _ h=>absurd rfl h⟩⟩,
  ⟨h5,t5,fun r hr=>⟨none,0,[],[],rfl,Lr.nil _ _,fun _ h=>(by cases h),List.nodup_nil,fun s=>⟨fun h=>(by cases h),fun h=>(by cases h.2)⟩⟩⟩⟩,hf,fun b hb=>?_⟩
 ·by_cases b1:b=sb
  ·exact b1 ▸ Blk.lt hs
  by_cases b2:b=kb
  ·exact b2 ▸ hk.lt
  by_cases b3:b=sB
  ·exact b3 ▸ h3.lt
  by_cases b4:b=hB
  ·exact b4 ▸ h4.lt
  by_cases b5:b=fB
  ·exact b5 ▸ h5.lt
  rw [t0 b b1 b2 b3 b4 b5]at hb
  exact absurd rfl hb
 ·rw [t0 b (by omega) (by omega) (by omega) (by omega) (by omega)]
section
variable (w:World)(t:TypeId)(cs:Array Value)(o1 o2 o3 o4 o5:Obj)
theorem blk5_1:Blk (((((w.alloc (.cells cs t)).alloc o2).alloc o3).alloc o4).alloc o5).drew w.heap.size t cs:=(((((Blk.new w t cs).alloc o2).alloc o3).alloc o4).alloc o5).drew
theorem blk5_2:Blk (((((w.alloc o1).alloc (.cells cs t)).alloc o3).alloc o4).alloc o5).drew (w.heap.size+1) t cs:=((((Blk.new_at (w:=w.alloc o1) t cs (by simp)).alloc o3).alloc o4).alloc o5).drew
theorem blk5_3:Blk (((((w.alloc o1).alloc o2).alloc (.cells cs t)).alloc o4).alloc o5).drew (w.heap.size+1+1) t cs:=(((Blk.new_at (w:=(w.alloc o1).alloc o2) t cs (by simp)).alloc o4).alloc o5).drew
theorem blk5_4:Blk (((((w.alloc o1).alloc o2).alloc o3).alloc (.cells cs t)).alloc o5).drew (w.heap.size+1+1+1) t cs:=((Blk.new_at (w:=((w.alloc o1).alloc o2).alloc o3) t cs (by simp)).alloc o5).drew
theorem blk5_5:Blk (((((w.alloc o1).alloc o2).alloc o3).alloc o4).alloc (.cells cs t)).drew (w.heap.size+1+1+1+1) t cs:=(Blk.new_at (w:=(((w.alloc o1).alloc o2).alloc o3).alloc o4) t cs (by simp)).drew
theorem mp_made{P:Program}{k:TypeId}{w:World}{n:Nat}(h:w.heap.size=n):Mp P k (w.alloc (.map #[] 0)) n (fun _=>none):=h ▸ Mp.made w
theorem mp5_1{P:Program}{k:TypeId}:Mp P k (((((w.alloc (.map #[] 0)).alloc o2).alloc o3).alloc o4).alloc o5).drew w.heap.size (fun _=>none):=(Mp.made w).fr0 ((((((Fr.refl _ _).alloc o2).alloc o3).alloc o4).alloc o5).drew)
theorem mp5_2{P:Program}{k:TypeId}:Mp P k (((((w.alloc o1).alloc (.map #[] 0)).alloc o3).alloc o4).alloc o5).drew (w.heap.size+1) (fun _=>none):=(mp_made (w:=w.alloc o1) (by simp)).fr0 (((((Fr.refl _ _).alloc o3).alloc o4).alloc o5).drew)
theorem mp5_3{P:Program}{k:TypeId}:Mp P k (((((w.alloc o1).alloc o2).alloc (.map #[] 0)).alloc o4).alloc o5).drew (w.heap.size+1+1) (fun _=>none):=(mp_made (w:=(w.alloc o1).alloc o2) (by simp)).fr0 ((((Fr.refl _ _).alloc o4).alloc o5).drew)
theorem mp5_4{P:Program}{k:TypeId}:Mp P k (((((w.alloc o1).alloc o2).alloc o3).alloc (.map #[] 0)).alloc o5).drew (w.heap.size+1+1+1) (fun _=>none):=(mp_made (w:=((w.alloc o1).alloc o2).alloc o3) (by simp)).fr0 (((Fr.refl _ _).alloc o5).drew)
end
set_option maxRecDepth 100000 in
set_option maxHeartbeats 3200000 in
theorem snew_ok(g:Geo){per n:Nat}(ok:OkG g per n)(w:World):Calls Tryz.prog 77 #[g.val] w (NewSets w per n):=by
 have HM:Hid (∀w',Calls Tryz.prog 129 #[g.val] w' fun e w''=>e=.returned (.bool true)∧Fr [] w' w''):=fun w'=>(rmayBe_any g w').mono fun e w'' ⟨b,h1,h2,h3⟩=>⟨by rw [h1];exact bool_yes h2 ok.may,h3⟩
 obtain⟨Wd,rw',C,R,N,M⟩:=g
 obtain⟨hd,rfl,rfl,hq,hc0,hmay⟩:=ok
 simp only at hq hc0
 have HD:=hide hd
 have hn:=hd.n2
 have hp:=hd.p3
 have hp1:=hd.p1
 have hwp:IntKind.i64.wrap (per:Int)=(per:Int):=by rw [IntKind.wrap_i64];omega
 have hmk1:∀w',(Instr.makeSlice 100 (.int .i64 (n:Int)) (.int .i64 (n:Int))).run Tryz.prog w'=.ok (.slice (some ⟨w'.heap.size,0,none⟩) n n) (w'.alloc (.cells (rowF n fun _=>.map none) 97)):=make_rowF Tryz.underlying100 Tryz.info_mapI rfl (by decide) hn
 have hmk2:∀w',(Instr.makeSlice 25 (.int .i64 (n:Int)) (.int .i64 (n:Int))).run Tryz.prog w'=.ok (.slice (some ⟨w'.heap.size,0,none⟩) n n) (w'.alloc (.cells (rowF n fun _=>.slice none 0 0) 31)):=make_rowF Tryz.underlying25 Tryz.info_intsS rfl (by decide) hn
 have hmm:=@run_makeMap Tryz.prog
 unfold Geo.val at HM ⊢
 clear hd hmay
 go_enter Tryz.func77,Tryz.ntmps77
 go_wp2_with fail
 refine(HM.out _).mono ?_
 rintro e w1 ⟨rfl,hf⟩
 have hg:=GeoAt.of ((Blk.new w 39 (Geo.cells ⟨Wd,rw',C,(n:Int),((n*per:Nat):Int),M⟩)).fr hf (by simp))
 have g1:=hg.c1
 have g2:=hg.c2
 have g3:=hg.c3
 have g4:=hg.c4
 simp only at g1 g2 g3 g4
 have HF:Hid (Fr [] w w1):=((Fr.refl _ _).alloc _).trans_same hf
 have hlt:w.heap.size<w1.heap.size:=lt_of_cell g1
 clear hf hg HM
 generalize hNP:((n*per:Nat):Int)=NP at *
 have K:∀w2,Fr [] w1 w2→w2.cell? ⟨w.heap.size,1,none⟩=some (.int .i64 rw')∧w2.cell? ⟨w.heap.size,2,none⟩=some (.int .i64 C)∧w2.cell? ⟨w.heap.size,3,none⟩=some (.int .i64 (n:Int))∧w2.cell? ⟨w.heap.size,4,none⟩=some (.int .i64 NP):=fun w2 hf=>
  ⟨(hf.cell (lt_of_cell g1) (by simp)).trans g1,(hf.cell (lt_of_cell g2) (by simp)).trans g2,(hf.cell (lt_of_cell g3) (by simp)).trans g3,(hf.cell (lt_of_cell g4) (by simp)).trans g4⟩
 have K0:=K _ (Fr.refl [] w1).drew
 have K1:=fun o1=>K _ ((Fr.refl [] w1).alloc o1).drew
 have K2:=fun o1 o2=>K _ (((Fr.refl [] w1).alloc o1).alloc o2).drew
 have K3:=fun o1 o2 o3=>K _ ((((Fr.refl [] w1).alloc o1).alloc o2).alloc o3).drew
 have K4:=fun o1 o2 o3 o4=>K _ (((((Fr.refl [] w1).alloc o1).alloc o2).alloc o3).alloc o4).drew
 have K5:=fun o1 o2 o3 o4 o5=>K _ ((((((Fr.refl [] w1).alloc o1).alloc o2).alloc o3).alloc o4).alloc o5).drew
 clear K
 go_wp2_with fail
 go_region_held3 (fun w'=>w'.cell? ⟨w.heap.size,1,none⟩=some (.int .i64 rw')∧w'.cell? ⟨w.heap.size,2,none⟩=some (.int .i64 C)∧w'.cell? ⟨w.heap.size,3,none⟩=some (.int .i64 (n:Int))∧w'.cell? ⟨w.heap.size,4,none⟩=some (.int .i64 NP))
  (first | with_reducible exact K0 | with_reducible exact K1 _ | with_reducible exact K2 _ _ | with_reducible exact K3 _ _ _ | with_reducible exact K4 _ _ _ _ | with_reducible exact K5 _ _ _ _ _)
  (first | fail)
 all_goals
  clear K0 K1 K2 K3 K4 K5
  go_wp2_with fail
  go_ret2
  subst hNP
  refine rs_fresh HD.out (blk5_5 _ _ _ _ _ _ _) ?mp ?b3 ?b4 ?b5 ?hf ?hl ?hne
  case mp=>first | with_reducible exact mp5_1 _ _ _ _ _ | with_reducible exact mp5_2 _ _ _ _ _ | with_reducible exact mp5_3 _ _ _ _ _ | with_reducible exact mp5_4 _ _ _ _ _
  case b3=>first | with_reducible exact blk5_1 _ _ _ _ _ _ _ | with_reducible exact blk5_2 _ _ _ _ _ _ _ | with_reducible exact blk5_3 _ _ _ _ _ _ _ | with_reducible exact blk5_4 _ _ _ _ _ _ _
  case b4=>first | with_reducible exact blk5_1 _ _ _ _ _ _ _ | with_reducible exact blk5_2 _ _ _ _ _ _ _ | with_reducible exact blk5_3 _ _ _ _ _ _ _ | with_reducible exact blk5_4 _ _ _ _ _ _ _
  case b5=>first | with_reducible exact blk5_1 _ _ _ _ _ _ _ | with_reducible exact blk5_2 _ _ _ _ _ _ _ | with_reducible exact blk5_3 _ _ _ _ _ _ _ | with_reducible exact blk5_4 _ _ _ _ _ _ _
  case hf=>exact HF.out.trans_same ((((((Fr.refl [] w1).alloc _).alloc _).alloc _).alloc _).alloc _).drew
  case hl=>refine⟨?_,?_,?_,?_,?_⟩ <;> omega
  case hne=>omega
end Go.Proofs.YteacgfeiedcdiaaGreatDoor
