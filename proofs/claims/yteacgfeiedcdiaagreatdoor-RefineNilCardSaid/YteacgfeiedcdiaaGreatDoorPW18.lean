/- Package remset: the abstract addition; lists of fine sources. -/
import Derived.Test.YteacgfeiedcdiaaGreatDoorPW17
import Derived.Deep.RegionHeld3
import Derived.Deep.CutRange
namespace Go.Proofs.YteacgfeiedcdiaaGreatDoor
set_option maxRecDepth 100000
set_option linter.unusedVariables false
set_option linter.unusedSimpArgs false
open Go.RowKit Go.Gl
theorem nodup_cnt(q:Nat→Bool):∀(n:Nat) (l:List Nat),l.Nodup→(∀s,s∈l↔s<n∧q s=true)→l.length=cnt q 0 n
 | 0,l,_,h=>by
  cases l with
  | nil=>rfl
  | cons a r=>exact absurd ((h a).1 (by simp)).1 (by omega)
 | n+1,l,hn,h=>by
  have ih:=nodup_cnt q n (l.filter fun x=>!(x==n)) (hn.filter _) (fun s=>by
   rw [List.mem_filter,h s]
   simp
   constructor
   ·rintro⟨⟨h1,h2⟩,h3⟩;exact⟨by omega,h2⟩
   ·rintro⟨h1,h2⟩;exact⟨⟨by omega,h2⟩,by omega⟩)
  have h1:=List.length_eq_countP_add_countP (fun x=>x==n) (l:=l)
  have h2:l.countP (fun x=>x==n)=if q n=true then 1 else 0:=by
   split
   ·rename_i hq
    exact List.Nodup.count (hn) |>.trans (if_pos ((h n).2 ⟨by omega,hq⟩))
   ·rename_i hq
    refine List.countP_eq_zero.2 fun x hx=>?_
    simp
    rintro rfl
    exact hq ((h x).1 hx).2
  rw [← List.countP_eq_length_filter]at ih
  simp only [cnt,Nat.zero_add]
  rw [h1,h2]
  have e:l.countP (fun x=>decide ¬(x==n)=true)=l.countP (fun x=>!(x==n)):=by congr 1;funext x;cases (x==n) <;> rfl
  rw [e,ih]
  omega
def nFine(σ:RS)(n h:Nat):Nat:=cnt (fun s=>σ.way h s==2) 0 n
def BestOf(σ:RS)(per n h m:Nat):Prop:=m<n∧σ.way h m=2∧∀x,x<n→σ.way h x=2→Bet σ per h m x
theorem BestOf.uniq{σ:RS}{per n h m m':Nat}(h1:BestOf σ per n h m)(h2:BestOf σ per n h m'):m=m':=(h1.2.2 _ h2.1 h2.2.1).antisymm (h2.2.2 _ h1.1 h1.2.1)
noncomputable def bestOf (σ:RS) (per n h:Nat):Nat:=Classical.epsilon fun m=>BestOf σ per n h m
theorem bestOf_eq{σ:RS}{per n h m:Nat}(hb:BestOf σ per n h m):bestOf σ per n h=m:=(Classical.epsilon_spec (p:=fun m=>BestOf σ per n h m) ⟨m,hb⟩).uniq hb
noncomputable def coarsen (σ:RS) (per n h:Nat):RS:=if 4<nFine σ n h then σ.put per h (bestOf σ per n h) 3 (fun _=>false) else σ
def plus(σ:RS)(h c:Nat):Nat→Bool:=fun x=>σ.has h x||decide (x=c)
noncomputable def addS (σ:RS) (per n h c:Nat):RS:=
 if σ.way h (c / per)=2 then σ.put per h (c / per) 2 (plus σ h c)
 else if cntS (σ.put per h (c / per) 1 (plus σ h c)) per h (c / per)≤4 then σ.put per h (c / per) 1 (plus σ h c)
 else coarsen (σ.put per h (c / per) 2 (plus σ h c)) per n h
theorem Fi.upd{w w3:World}{tg tg':Tg}{fB n h:Nat}{p:Nat→Nat→Prop}{q:Nat→Prop}{V:Nat→Value}{F G:List Nat}{A:Option Addr}{c:Nat}{l:List Nat}(H:Fi w tg fB n p V)(hh:h<n)(hf:Fr F w w3)(hF:∀b,b∈F→tg b=(8,h,0)∨((tg b).1≠5∧(tg b).1≠8))
  (hu:TgUp w tg tg') (hl:Lr w3 3 A l.length c G (zv (ints l))) (hG:∀g,g∈G→tg' g=(8,h,0)) (hnd:l.Nodup) (hm:∀s,s∈l↔s<n∧q s) :
  Fi (w3.setCell ⟨fB,h,none⟩ (.slice A l.length c)) tg' fB n (fun a b=>if a=h then q b else p a b) (putF V h (.slice A l.length c)):=by
 have hF5:Fr [fB] w3 (w3.setCell ⟨fB,h,none⟩ (.slice A l.length c)):=(Fr.refl _ _).setCell (p:=⟨fB,h,none⟩) (.inl (by simp)) _
 have hb:fB∉F:=fun hb=>by rcases hF _ hb with e | e <;> rw [H.tag]at e <;> simp at e
 have htB:tg' fB=(5,0,0):=(hu _ H.row.lt).trans H.tag
 have hrow:=(H.row.fr hf hb).put h (.slice A l.length c)
 rw [rowF_set]at hrow
 refine⟨hrow,htB,fun r hr=>?_⟩
 by_cases e:r=h
 ·subst e
  rw [putF_at]
  exact⟨A,c,G,l,rfl,hl.fr hF5 (fun g hg hg2=>by simp at hg2;subst hg2;have:=hG _ hg;rw [htB]at this;cases this),hG,hnd,fun s=>by rw [hm s];simp⟩
 ·rw [putF_ne _ _ e]
  refine(((H.own r hr).fr hf (fun b hb hq=>?_) hu).fr hF5 (fun b hb hq=>?_) (TgUp.refl _ _)).congr fun x hx=>by simp [e]
  ·rcases hF b hb with e2 | e2
   ·rw [e2]at hq;injection hq with _ h2;injection h2 with h2;exact e h2.symm
   ·rw [hq]at e2;exact e2.2 rfl
  ·simp at hb;subst hb;rw [htB]at hq;cases hq
theorem Fi.len{w:World}{tg:Tg}{fB n h:Nat}{σ:RS}{V:Nat→Value}(H:Fi w tg fB n (fun a b=>σ.way a b=2) V)(hh:h<n):∃A c G,∃l:List Nat,V h=.slice A l.length c∧Lr w 3 A l.length c G (zv (ints l))∧(∀g,g∈G→tg g=(8,h,0))∧l.Nodup∧(∀s,s∈l↔s<n∧σ.way h s=2)∧l.length=nFine σ n h:=by
 obtain⟨A,c,G,l,e1,e2,e3,e4,e5⟩:=H.own h hh
 exact⟨A,c,G,l,e1,e2,e3,e4,e5,nodup_cnt _ n l e4 fun s=>by rw [e5 s];simp⟩
def SGrew(w:World)(fB h len:Nat)(l:List Nat)(s:Nat)(G:List Nat)(wc:World):Prop:=
 ∃A' c' G',∃w':World,Lr w' 3 A' (len+1) c' G' (zv (ints l)++[.int .i64 (s:Int)])∧Fr G (w.alloc (.cells #[.int .i64 (s:Int)] 3)).drew w'∧(∀g,g∈G'→g∈G∨(g=(w.alloc (.cells #[.int .i64 (s:Int)] 3)).drew.heap.size∧0<1))∧wc=w'.setCell ⟨fB,h,none⟩ (.slice A' (len+1) c')
def MfPost(w:World)(tg:Tg)(kb fB per n:Nat)(σ':RS)(e:Ending)(w':World):Prop:=
 ∃tg' fk' V' F,e=.returned (.tuple #[])∧Kn w' tg' kb per n σ' fk'∧Fi w' tg' fB n (fun a b=>σ'.way a b=2) V'∧Fr F w w'∧(∀b,b∈F→(tg b).1=2∨(tg b).1=5∨(tg b).1=8)∧TgUp w tg tg'∧TgOk w' tg'
theorem wbit_rep(L i:Nat):wbit (List.replicate L 0) i=false:=wbit_zero L i
set_option maxRecDepth 100000 in
set_option maxHeartbeats 3200000 in
theorem makeFine_any{w0 w:World}{tg:Tg}{F0:List Nat}{sb kb sB hB fB per n h s:Nat}{σ:RS}{fk:Value→Option Value}{V:Nat→Value}(hst:St w sb kb sB hB fB per n)(tst:tg sb=(1,0,0))(tok:TgOk w tg)(hd:Dim per n)(hk:Kn w0 tg kb per n σ fk)(hf0:Fr F0 w0 w)(hF0:∀b,b∈F0→tg b=(9,h,s))
  (hfi:Fi w tg fB n (fun a b=>σ.way a b=2) V) (hh:h<n) (hs:s<n) (hw:σ.way h s≠2) {A:Option Addr} {c:Nat} {G0:List Nat} {l:List Int} (hl:Lr w 3 A l.length c G0 (zv l)) (hll:l.length≤5) (hlm:∀x,x∈l→∃c:Nat,x=(c:Int)∧c<n*per∧c / per=s) :
  Calls Tryz.prog 164 #[.pointer (some ⟨sb,0,none⟩),.agg #[.int .i64 (h:Int),.int .i64 (s:Int)],.slice A l.length c] w (MfPost w tg kb fB per n (coarsen (σ.put per h s 2 (fun x=>decide ((x:Int)∈l))) per n h)):=by
 have hn:=hd.n2
 have hp3:=hd.p3
 obtain⟨lt,hlt⟩:=pairKey (h:Int) (s:Int) (wf_nat (by omega)) (wf_nat (by omega))
 have hh1:(h:Int)<(n:Int):=by omega
 have c1:=hst.c1
 have N0:sb<w.heap.size:=Blk.lt hst
 obtain⟨w1,hw1⟩:∃w1,w1=w.alloc (.cells #[.int .i64 (h:Int),.int .i64 (s:Int)] 105):=⟨_,rfl⟩
 have hF1:Fr [] w w1:=hw1 ▸ (Fr.refl _ _).alloc _
 have hpb:Blk w1 w.heap.size 105 #[.int .i64 (h:Int),.int .i64 (s:Int)]:=by rw [hw1];exact Blk.new w _ _
 have hNew:Hid (Calls Tryz.prog 78 #[.int .i64 (per:Int)] w1 (NewPost w1 per)):=sNew_any per hp3 w1
 have HK:=hide hlt
 have HST:=hide hst
 have HKn:=hide hk
 have HF0:=hide hf0
 have HT0:=hide hF0
 have HFi:=hide hfi
 have HL:=hide hl
 have HLm:=hide hlm
 have HF1:=hide hF1
 have HPb:=hide hpb
 have HD:=hide hd
 have HTok:=hide tok
 have HHl:=hide hll
 obtain⟨A1,ca1,G1,l1,hv1,hl1,hG1,hnd1,hm1,hlen1⟩:=hfi.len hh
 obtain⟨i0,hi,hz0,hz1,hz2⟩:=info_parts Tryz.info_int
 have HV1:=hide hv1
 have HL1:=hide hl1
 have HG1:=hide hG1
 have HND1:=hide hnd1
 have HM1:=hide hm1
 have HLn1:Hid (l1.length≤65536):=Nat.le_trans (nodup_below n l1 hnd1 (fun x hx=>((hm1 x).1 hx).1)) hn
 clear hv1 hl1 hG1 hnd1 hm1 hlen1
 clear hst hk hf0 hF0 hfi hl hlm hF1 hpb hlt hd tok
 subst hw1
 go_enter Tryz.func164,Tryz.ntmps164
 go_wp2_with (go_at_call 78;refine hNew.out.mono ?_;rintro e w2 ⟨bs,bw,rfl,hset,hF2,hbs,hbw⟩;have HSet:=hide hset;have HF2:=hide hF2;have HBs:=hide hbs;have HBw:=hide hbw;clear hset hF2 hbs hbw)
 go_loopw [20] (fun i wr=>∃(k:Nat) (ws:List Nat),i=.int .i64 k∧k≤l.length∧BSet wr bs bw per ws∧(∀i,i<per→(wbit ws i=true↔∃j,j<k∧l.getD j 0=((s*per+i:Nat):Int)))∧Fr [bw] w2 wr) (fun i _=>l.length-(intOf i).toNat)
 case atStart=>exact⟨0,_,rfl,Nat.zero_le _,HSet.out,fun i hi=>by rw [wbit_rep];simp,Fr.refl _ _⟩
 case round=>
  obtain⟨k,ws,rfl,hkl,hset,hbit,hFr⟩:=hrel
  have hF12:Fr [] (w.alloc (.cells #[.int .i64 (h:Int),.int .i64 (s:Int)] 105)) wr:=HF2.out.trans hFr (fun x hx=>.inr (by simp at hx;subst hx;exact HBw.out))
  have hFw:Fr [] w wr:=HF1.out.trans_nil hF12
  have HSetr:=hide hset
  have HBit:=hide hbit
  have HFr:=hide hFr
  have HF12:=hide hF12
  have HFw:=hide hFw
  clear hset hbit hFr hF12 hFw
  by_cases hlt:k<l.length
  ·have hlt1:(k:Int)<(l.length:Int):=by omega
   obtain⟨g,off,rfl,_,hgl,hcell,_⟩:=HL.out.pos (by omega)
   have ck:wr.cell? ⟨g,off+k,none⟩=some (.int .i64 (l.getD k 0)):=(HFw.out.cell hgl (by simp)).trans ((hcell k hlt).trans (zv_get _ hlt))
   obtain⟨cc,hcc,hc1,hc2⟩:=HLm.out (l.getD k 0) (by rw [List.getD_eq_getElem?_getD,List.getElem?_eq_getElem hlt];exact List.getElem_mem hlt)
   rw [hcc]at ck
   have HW:=hide (swithin_any (HST.out.fr HFw.out (by simp)) HD.out hc1)
   have HP:=hide (put_any HSetr.out ((cc % per:Nat):Int))
   have HCc:=hide hcc
   have HC2:=hide hc2
   have HB2:=hide (HD.out.back (c:=cc))
   clear hcell hcc hc1 hc2
   generalize cc % per=r at *
   go_wp2_with (first | (go_at_call 68;refine HW.out.mono ?_;rintro e w' ⟨rfl,rfl⟩) | (go_at_call 49;refine HP.out.mono ?_;rintro e w3 ⟨cb,er,ws',rfl,hb3,hF3,hT3⟩;have HB3:=hide hb3;have HF3:=hide hF3;have HT3:=hide hT3;clear hb3 hF3 hT3))
   go_roundw
   case rel=>
    refine⟨k+1,ws',by go_num,by omega,HB3.out,fun i hi=>?_,HFr.out.trans_same HF3.out⟩
    rcases HT3.out with⟨h1,h2,_,_,h3⟩ | ⟨h1,_⟩
    ·rw [h3 i,Int.toNat_natCast]
     have hrp:=HB2.out.2
     have hrb:=HB2.out.1
     rw [HC2.out]at hrb
     by_cases e:i=r
     ·subst e
      simp only [if_true,true_iff]
      exact⟨k,by omega,by rw [HCc.out,← hrb]⟩
     ·rw [if_neg e,HBit.out i hi]
      constructor
      ·rintro⟨j,hj,h5⟩;exact⟨j,by omega,h5⟩
      ·rintro⟨j,hj,h5⟩
       rcases Nat.lt_or_ge j k with h6 | h6
       ·exact⟨j,h6,h5⟩
       ·obtain rfl:j=k:=by omega
        rw [HCc.out,← hrb]at h5
        exact absurd (by omega) e
    ·exact absurd ⟨Int.natCast_nonneg _,by have:=HB2.out.2;omega⟩ h1
   case measure=>simp [intOf];omega
  ·obtain rfl:l.length=k:=by omega
   have c2r:wr.cell? ⟨sb,2,none⟩=some (.map (some kb)):=(HST.out.fr HFw.out (by simp)).c2
   have p0r:wr.cell? ⟨w.heap.size,0,none⟩=some (.int .i64 (h:Int)):=by rw [(HPb.out.fr HF12.out (by simp)).cell];rfl
   have p1r:wr.cell? ⟨w.heap.size,1,none⟩=some (.int .i64 (s:Int)):=by rw [(HPb.out.fr HF12.out (by simp)).cell];rfl
   have hkbF:kb∉F0:=fun hb=>by have:=HT0.out _ hb;rw [HKn.out.tag]at this;cases this
   have HMr:Hid (Mp Tryz.prog 105 wr kb fk):=(HKn.out.mp.fr HF0.out hkbF).fr0 HFw.out
   clear hkbF
   go_wp2_with fail
   refine region_tail 7 (by kernel_rfl) (by kernel_rfl) ?_
   simp only [List.take_succ_cons,List.take_zero,List.drop_succ_cons,List.drop_zero]
   repeat still_step
   refine wpStill_nil ?_
   go_wp2_with (at_mapUpdate;refine list_of rfl fun K hK=>wp_update (key:=pairV h s) (v:=memOf 2 (.slice none 0 0) (.pointer (some ⟨bs,0,none⟩))) _ _ _ 98 rfl Tryz.pairLaw Tryz.underlying98 HMr.out ((Fr.refl _ _).drew) rfl rfl HK.out rfl ?_;intro w4 hM4 hF4;refine hK _ _ ?_)
   have hsk:∀y,(tg y).1≠2→y∉[kb]:=fun y hy h0=>by simp at h0;subst h0;rw [HKn.out.tag]at hy;exact hy rfl
   have hpk:w.heap.size∉[kb]:=hsk _ (by
    intro e
    exact absurd (HTok.out _ (by omega)) (Nat.lt_irrefl _))
   have HStr:=hide (HST.out.fr HFw.out (by simp))
   have hst4:=St.fr (St.fr HStr.out ((Fr.refl [] wr).drew) (by simp)) hF4.out (hsk sb (by rw [tst];decide))
   have hpb4:=((HPb.out.fr HF12.out (by simp)).drew).fr hF4.out hpk
   have hrow4:=(((HFi.out.row.fr HFw.out (by simp)).drew).fr hF4.out (hsk fB (by rw [HFi.out.tag];decide)))
   have HL4:Hid (Lr w4 3 A1 l1.length ca1 G1 (zv (ints l1))):=((HL1.out.fr0 HFw.out).drew).fr hF4.out (fun g hg=>hsk g (by rw [HG1.out g hg];simp))
   have HN:Hid (([Value.int .i64 (s:Int)]).length=1∧(∀u∈[Value.int .i64 (s:Int)],u.oneCell'=true)∧l1.length+1≤maxLen∧(l1.length+1)*8≤140737488355328):=⟨rfl,by simp [Value.oneCell'],by have:=HLn1.out;unfold maxLen;omega,by have:=HLn1.out;omega⟩
   have hcf4:w4.cell? ⟨fB,h,none⟩=some (.slice A1 l1.length ca1):=by rw [hrow4.cell,rowF_at hh,HV1.out]
   have hff4:=hrow4.frozen h
   have HC4:Hid (∀w',Fr G1 (w4.alloc (.cells #[.int .i64 (s:Int)] 3)).drew w'→(w'.cell? ⟨sb,5,none⟩=some (.slice (some ⟨fB,0,none⟩) n n)∧w'.cell? ⟨w.heap.size,0,none⟩=some (.int .i64 (h:Int))∧w'.cell? ⟨w.heap.size,1,none⟩=some (.int .i64 (s:Int))) ∧
     (∀v,(w'.setCell ⟨fB,h,none⟩ v).cell? ⟨sb,5,none⟩=some (.slice (some ⟨fB,0,none⟩) n n)∧(w'.setCell ⟨fB,h,none⟩ v).cell? ⟨w.heap.size,0,none⟩=some (.int .i64 (h:Int))∧(w'.setCell ⟨fB,h,none⟩ v).cell? ⟨w.heap.size,1,none⟩=some (.int .i64 (s:Int))) ∧
     w'.cell? ⟨fB,h,none⟩=some (V h)∧w'.frozen? ⟨fB,h,none⟩=false∧Blk w' fB 31 (rowF n V)):=fun w' hfr=>by
    have hs':=St.fr (St.fr hst4 (((Fr.refl [] w4).alloc _).drew) (by simp)) hfr (fun hb=>by have:=HG1.out _ hb;rw [tst]at this;cases this)
    have hp':=((hpb4.alloc (.cells #[.int .i64 (s:Int)] 3)).drew).fr hfr (fun hb=>by have h1:=HG1.out _ hb;exact absurd (HTok.out _ (by rw [h1];simp)) (Nat.lt_irrefl _))
    have hb':=((hrow4.alloc (.cells #[.int .i64 (s:Int)] 3)).drew).fr hfr (fun hb=>by have:=HG1.out _ hb;rw [HFi.out.tag]at this;cases this)
    have hsf:sb≠fB:=fun e=>by rw [e,HFi.out.tag]at tst;cases tst
    have hpf:w.heap.size≠fB:=fun e=>by have:=HFi.out.row.lt;omega
    refine⟨⟨hs'.c5,by rw [hp'.cell];rfl,by rw [hp'.cell];rfl⟩,fun v=>⟨St.c5 (Blk.far hs' (p:=⟨fB,h,none⟩) hsf v),?_,?_⟩,by rw [hb'.cell,rowF_at hh],hb'.frozen h,hb'⟩
    ·rw [(hp'.far (p:=⟨fB,h,none⟩) hpf v).cell];rfl
    ·rw [(hp'.far (p:=⟨fB,h,none⟩) hpf v).cell];rfl
   have K1:Hid (∀o,(w4.alloc o).drew.cell? ⟨sb,5,none⟩=some (.slice (some ⟨fB,0,none⟩) n n)∧(w4.alloc o).drew.cell? ⟨w.heap.size,0,none⟩=some (.int .i64 (h:Int))∧(w4.alloc o).drew.cell? ⟨w.heap.size,1,none⟩=some (.int .i64 (s:Int))):=fun o=>⟨St.c5 (St.fr hst4 (((Fr.refl [] w4).alloc o).drew) (by simp)),by rw [((hpb4.alloc o).drew).cell];rfl,by rw [((hpb4.alloc o).drew).cell];rfl⟩
   have K0:Hid (w4.drew.cell? ⟨sb,5,none⟩=some (.slice (some ⟨fB,0,none⟩) n n)∧w4.drew.cell? ⟨w.heap.size,0,none⟩=some (.int .i64 (h:Int))∧w4.drew.cell? ⟨w.heap.size,1,none⟩=some (.int .i64 (s:Int))):=⟨St.c5 (St.fr hst4 ((Fr.refl [] w4).drew) (by simp)),by rw [(hpb4.drew).cell];rfl,by rw [(hpb4.drew).cell];rfl⟩
   have N4:fB<w4.heap.size:=hrow4.lt
   have HSt4:=hide hst4
   have HRow4:=hide hrow4
   have HSk:=hide hsk
   clear hst4 hpb4 hrow4 hsk hpk c2r p0r p1r c1
   go_frame
   go_cut [] from 37 to 55 (fun wc=>SGrew w4 fB h l1.length l1 s G1 wc)
   case first=>
    refine wp_region_held_drew (S:=fun w'=>w'.cell? ⟨sb,5,none⟩=some (.slice (some ⟨fB,0,none⟩) n n)∧w'.cell? ⟨w.heap.size,0,none⟩=some (.int .i64 (h:Int))∧w'.cell? ⟨w.heap.size,1,none⟩=some (.int .i64 (s:Int))) (by kernel_rfl) (K0.out) (fun hHeld=>?_)
    refine wpAnyH_take (i:=0) (v:=?v0x1) rfl (by kernel_rfl) (by kernel_rfl) (by kernel_rfl) (fun _ _ _ h=>h) (Or.inl ⟨by rfl,?hy0x1⟩) (by assumption) ?rest0x1
    case hy0x1=>(intro w' hSw;(try dsimp only at hSw);(try simp only [List.getElem_toArray,List.getElem_cons_succ,List.getElem_cons_zero]);(first | (go_simp;done) | (go_simp;with_reducible rfl)))
    (try simp only [Act.put,List.getElem_toArray,List.getElem_cons_succ,List.getElem_cons_zero,List.setIfInBounds_toArray,List.set_cons_zero,List.set_cons_succ])
    refine wpAnyH_take (i:=1) (v:=?v1x2) rfl (by kernel_rfl) (by kernel_rfl) (by kernel_rfl) (fun _ _ _ h=>h) (Or.inl ⟨by rfl,?hy1x2⟩) (by assumption) ?rest1x2
    case hy1x2=>(intro w' hSw;(try dsimp only at hSw);(try simp only [List.getElem_toArray,List.getElem_cons_succ,List.getElem_cons_zero]);(first | (go_simp;done) | (go_simp;with_reducible rfl)))
    (try simp only [Act.put,List.getElem_toArray,List.getElem_cons_succ,List.getElem_cons_zero,List.setIfInBounds_toArray,List.set_cons_zero,List.set_cons_succ])
    refine wpAnyH_take (i:=2) (v:=?v2x3) rfl (by kernel_rfl) (by kernel_rfl) (by kernel_rfl) (fun _ _ _ h=>h) (Or.inl ⟨by rfl,?hy2x3⟩) (by assumption) ?rest2x3
    case hy2x3=>(intro w' hSw;(try dsimp only at hSw);(try simp only [List.getElem_toArray,List.getElem_cons_succ,List.getElem_cons_zero]);(first | (go_simp;done) | (go_simp;with_reducible rfl)))
    (try simp only [Act.put,List.getElem_toArray,List.getElem_cons_succ,List.getElem_cons_zero,List.setIfInBounds_toArray,List.set_cons_zero,List.set_cons_succ])
    refine wpAnyH_take (i:=3) (v:=?v3x4) rfl (by kernel_rfl) (by kernel_rfl) (by kernel_rfl) (fun _ _ _ h=>h) (Or.inl ⟨by rfl,?hy3x4⟩) (by assumption) ?rest3x4
    case hy3x4=>(intro w' hSw;(try dsimp only at hSw);(try simp only [List.getElem_toArray,List.getElem_cons_succ,List.getElem_cons_zero]);(first | (go_simp;done) | (go_simp;with_reducible rfl)))
    (try simp only [Act.put,List.getElem_toArray,List.getElem_cons_succ,List.getElem_cons_zero,List.setIfInBounds_toArray,List.set_cons_zero,List.set_cons_succ])
    refine wpAnyH_take (i:=4) (v:=?v4x5) rfl (by kernel_rfl) (by kernel_rfl) (by kernel_rfl) (fun _ _ _ h=>h) (Or.inl ⟨by rfl,?hy4x5⟩) (by assumption) ?rest4x5
    case hy4x5=>(intro w' hSw;(try dsimp only at hSw);(try simp only [List.getElem_toArray,List.getElem_cons_succ,List.getElem_cons_zero]);(first | (go_simp;done) | (go_simp;with_reducible rfl)))
    (try simp only [Act.put,List.getElem_toArray,List.getElem_cons_succ,List.getElem_cons_zero,List.setIfInBounds_toArray,List.set_cons_zero,List.set_cons_succ])
    refine wpAnyH_take (i:=5) (v:=?v5x6) rfl (by kernel_rfl) (by kernel_rfl) (by kernel_rfl) (fun _ _ _ h=>h) (Or.inl ⟨by rfl,?hy5x6⟩) (by assumption) ?rest5x6
    case hy5x6=>(intro w' hSw;(try dsimp only at hSw);(try simp only [List.getElem_toArray,List.getElem_cons_succ,List.getElem_cons_zero]);(first | (go_simp;done) | (go_simp;with_reducible rfl)))
    (try simp only [Act.put,List.getElem_toArray,List.getElem_cons_succ,List.getElem_cons_zero,List.setIfInBounds_toArray,List.set_cons_zero,List.set_cons_succ])
    refine wpAnyH_take (i:=6) (v:=?v6x7) rfl (by kernel_rfl) (by kernel_rfl) (by kernel_rfl) (fun _ _ _ h=>h) (Or.inl ⟨by rfl,?hy6x7⟩) (by assumption) ?rest6x7
    case hy6x7=>(intro w' hSw;(try dsimp only at hSw);(try simp only [List.getElem_toArray,List.getElem_cons_succ,List.getElem_cons_zero]);(first | (go_simp;done) | (go_simp;with_reducible rfl)))
    (try simp only [Act.put,List.getElem_toArray,List.getElem_cons_succ,List.getElem_cons_zero,List.setIfInBounds_toArray,List.set_cons_zero,List.set_cons_succ])
    refine wpAnyH_take (i:=7) (v:=?v7x8) rfl (by kernel_rfl) (by kernel_rfl) (by kernel_rfl) (fun _ _ _ h=>h) (Or.inl ⟨by rfl,?hy7x8⟩) (by assumption) ?rest7x8
    case hy7x8=>(intro w' hSw;(try dsimp only at hSw);(try simp only [List.getElem_toArray,List.getElem_cons_succ,List.getElem_cons_zero]);(first | (go_simp;done) | (go_simp;with_reducible rfl)))
    (try simp only [Act.put,List.getElem_toArray,List.getElem_cons_succ,List.getElem_cons_zero,List.setIfInBounds_toArray,List.set_cons_zero,List.set_cons_succ])
    refine wpAnyH_take (i:=8) (v:=?v8x9) rfl (by kernel_rfl) (by kernel_rfl) (by kernel_rfl) (fun _ _ _ h=>h) (Or.inl ⟨by rfl,?hy8x9⟩) (by assumption) ?rest8x9
    case hy8x9=>(intro w' hSw;(try dsimp only at hSw);(try simp only [List.getElem_toArray,List.getElem_cons_succ,List.getElem_cons_zero]);(first | (go_simp;done) | (go_simp;with_reducible rfl)))
    (try simp only [Act.put,List.getElem_toArray,List.getElem_cons_succ,List.getElem_cons_zero,List.setIfInBounds_toArray,List.set_cons_zero,List.set_cons_succ])
    refine wpAnyH_take (i:=9) (v:=?v9x10) rfl (by kernel_rfl) (by kernel_rfl) (by kernel_rfl) (fun _ _ _ h=>h) (Or.inl ⟨by rfl,?hy9x10⟩) (by assumption) ?rest9x10
    case hy9x10=>(intro w' hSw;(try dsimp only at hSw);(try simp only [List.getElem_toArray,List.getElem_cons_succ,List.getElem_cons_zero]);(first | (go_simp;done) | (go_simp;with_reducible rfl)))
    (try simp only [Act.put,List.getElem_toArray,List.getElem_cons_succ,List.getElem_cons_zero,List.setIfInBounds_toArray,List.set_cons_zero,List.set_cons_succ])
    refine wpAnyH_take (i:=10) (v:=?v10x11) rfl (by kernel_rfl) (by kernel_rfl) (by kernel_rfl) (fun _ _ _ h=>h) (Or.inl ⟨by rfl,?hy10x11⟩) (by assumption) ?rest10x11
    case hy10x11=>(intro w' hSw;(try dsimp only at hSw);(try simp only [List.getElem_toArray,List.getElem_cons_succ,List.getElem_cons_zero]);(first | (go_simp;done) | (go_simp;with_reducible rfl)))
    (try simp only [Act.put,List.getElem_toArray,List.getElem_cons_succ,List.getElem_cons_zero,List.setIfInBounds_toArray,List.set_cons_zero,List.set_cons_succ])
    refine wpAnyH_take (i:=11) (v:=?v11x12) rfl (by kernel_rfl) (by kernel_rfl) (by kernel_rfl) (fun _ _ _ h=>h) (Or.inl ⟨by rfl,?hy11x12⟩) (by assumption) ?rest11x12
    case hy11x12=>(intro w' hSw;(try dsimp only at hSw);(try simp only [List.getElem_toArray,List.getElem_cons_succ,List.getElem_cons_zero]);(first | (go_simp;done) | (go_simp;with_reducible rfl)))
    (try simp only [Act.put,List.getElem_toArray,List.getElem_cons_succ,List.getElem_cons_zero,List.setIfInBounds_toArray,List.set_cons_zero,List.set_cons_succ])
    refine wpAnyH_take (i:=12) (v:=?v12x13) rfl (by kernel_rfl) (by kernel_rfl) (by kernel_rfl) (fun _ _ _ h=>h) (Or.inl ⟨by rfl,?hy12x13⟩) (by assumption) ?rest12x13
    case hy12x13=>(intro w' hSw;(try dsimp only at hSw);(try simp only [List.getElem_toArray,List.getElem_cons_succ,List.getElem_cons_zero]);(first | (go_simp;done) | (go_simp;with_reducible rfl)))
    (try simp only [Act.put,List.getElem_toArray,List.getElem_cons_succ,List.getElem_cons_zero,List.setIfInBounds_toArray,List.set_cons_zero,List.set_cons_succ])
    refine wpAnyH_take (i:=14) (v:=?v14x14) rfl (by kernel_rfl) (by kernel_rfl) (by kernel_rfl) (fun _ _ _ h=>h) (Or.inl ⟨by rfl,?hy14x14⟩) (by assumption) ?rest14x14
    case hy14x14=>(intro w' hSw;(try dsimp only at hSw);(try simp only [List.getElem_toArray,List.getElem_cons_succ,List.getElem_cons_zero]);(first | (go_simp;done) | (go_simp;with_reducible rfl)))
    (try simp only [Act.put,List.getElem_toArray,List.getElem_cons_succ,List.getElem_cons_zero,List.setIfInBounds_toArray,List.set_cons_zero,List.set_cons_succ])
    refine wpAnyH_take (i:=15) (v:=?v15x15) rfl (by kernel_rfl) (by kernel_rfl) (by kernel_rfl) (fun _ _ _ h=>h) (Or.inl ⟨by rfl,?hy15x15⟩) (by assumption) ?rest15x15
    case hy15x15=>(intro w' hSw;(try dsimp only at hSw);(try simp only [List.getElem_toArray,List.getElem_cons_succ,List.getElem_cons_zero]);(first | (go_simp;done) | (go_simp;with_reducible rfl)))
    (try simp only [Act.put,List.getElem_toArray,List.getElem_cons_succ,List.getElem_cons_zero,List.setIfInBounds_toArray,List.set_cons_zero,List.set_cons_succ])
    refine wpAnyH_ready (rs:=[13,16]) (by kernel_rfl) (by simp) ?_
    refine AllReadyH.cons rfl (fun K hK=>?_) (AllReadyH.cons rfl (fun K hK=>?_) AllReadyH.nil)
    ·(try simp only [List.getElem_toArray,List.getElem_cons_succ,List.getElem_cons_zero])
     go_simp
     refine hK.out _ _ (K0.out) (fun hHeld=>?_)
     clear hK K
     (try simp only [Act.put,List.setIfInBounds_toArray,List.set_cons_zero,List.set_cons_succ])
     refine wpAnyH_ready (rs:=[16]) (by kernel_rfl) (by simp) ?_
     refine AllReadyH.cons rfl (fun K hK=>?_) AllReadyH.nil
     (try simp only [List.getElem_toArray,List.getElem_cons_succ,List.getElem_cons_zero])
     go_simp
     refine hK.out _ _ (K1.out _) (fun hHeld=>?_)
     clear hK K
     (try simp only [Act.put,List.setIfInBounds_toArray,List.set_cons_zero,List.set_cons_succ])
     refine wpAnyH_ready (rs:=[17]) (by kernel_rfl) (by simp) ?_
     refine AllReadyH.cons rfl (fun K hK=>?_) AllReadyH.nil
     (try simp only [List.getElem_toArray,List.getElem_cons_succ,List.getElem_cons_zero])
     rw [if_pos (by rfl)]
     refine wp_append_lr _ _ 31 rfl 3 i0 (.int .i64 0) 8 Tryz.underlying31 hi hz0 hz1 hz2 rfl rfl (HL4.out.fr0 (((Fr.refl _ _).alloc _).drew)) rfl HN.out.1 (fun _=>one_of w4 _ 3 rfl _ ((Fr.refl _ _).drew)) HN.out.2.1 HN.out.2.2.1 HN.out.2.2.2 ?_
     intro A' c' G' w' HLn HFn HGn
     have d4:=(HC4.out w' HFn.out).2.2.1
     have d5:=(HC4.out w' HFn.out).2.2.2
     refine hK.out _ _ ((HC4.out w' HFn.out).1) (fun hHeld=>?_)
     clear hK K
     (try simp only [Act.put,List.setIfInBounds_toArray,List.set_cons_zero,List.set_cons_succ])
     refine wpAnyH_take (i:=18) (v:=?v18x16) rfl (by kernel_rfl) (by kernel_rfl) (by kernel_rfl) (fun _ _ _ h=>h) (Or.inl ⟨by rfl,?hy18x16⟩) (by assumption) ?rest18x16
     case hy18x16=>(intro w' hSw;(try dsimp only at hSw);(try simp only [List.getElem_toArray,List.getElem_cons_succ,List.getElem_cons_zero]);(first | (go_simp;done) | (go_simp;with_reducible rfl)))
     (try simp only [Act.put,List.getElem_toArray,List.getElem_cons_succ,List.getElem_cons_zero,List.setIfInBounds_toArray,List.set_cons_zero,List.set_cons_succ])
     refine wpAnyH_ready (rs:=[19]) (by kernel_rfl) (by simp) ?_
     refine AllReadyH.cons rfl (fun K hK=>?_) AllReadyH.nil
     (try simp only [List.getElem_toArray,List.getElem_cons_succ,List.getElem_cons_zero])
     go_simp
     refine hK.out _ _ ((HC4.out w' HFn.out).2.1 _) (fun hHeld=>?_)
     clear hK K
     (try simp only [Act.put,List.setIfInBounds_toArray,List.set_cons_zero,List.set_cons_succ])
     refine wpAnyH_done (by kernel_rfl) ?_ _
     go_wp2_with fail
     go_meet
     case rel=>exact⟨A',c',G',w',HLn.out,HFn.out,HGn.out,rfl⟩
    ·(try simp only [List.getElem_toArray,List.getElem_cons_succ,List.getElem_cons_zero])
     go_simp
     refine hK.out _ _ (K1.out _) (fun hHeld=>?_)
     clear hK K
     (try simp only [Act.put,List.setIfInBounds_toArray,List.set_cons_zero,List.set_cons_succ])
     refine wpAnyH_ready (rs:=[13]) (by kernel_rfl) (by simp) ?_
     refine AllReadyH.cons rfl (fun K hK=>?_) AllReadyH.nil
     (try simp only [List.getElem_toArray,List.getElem_cons_succ,List.getElem_cons_zero])
     go_simp
     refine hK.out _ _ (K1.out _) (fun hHeld=>?_)
     clear hK K
     (try simp only [Act.put,List.setIfInBounds_toArray,List.set_cons_zero,List.set_cons_succ])
     refine wpAnyH_ready (rs:=[17]) (by kernel_rfl) (by simp) ?_
     refine AllReadyH.cons rfl (fun K hK=>?_) AllReadyH.nil
     (try simp only [List.getElem_toArray,List.getElem_cons_succ,List.getElem_cons_zero])
     rw [if_pos (by rfl)]
     refine wp_append_lr _ _ 31 rfl 3 i0 (.int .i64 0) 8 Tryz.underlying31 hi hz0 hz1 hz2 rfl rfl (HL4.out.fr0 (((Fr.refl _ _).alloc _).drew)) rfl HN.out.1 (fun _=>one_of w4 _ 3 rfl _ ((Fr.refl _ _).drew)) HN.out.2.1 HN.out.2.2.1 HN.out.2.2.2 ?_
     intro A' c' G' w' HLn HFn HGn
     have d4:=(HC4.out w' HFn.out).2.2.1
     have d5:=(HC4.out w' HFn.out).2.2.2
     refine hK.out _ _ ((HC4.out w' HFn.out).1) (fun hHeld=>?_)
     clear hK K
     (try simp only [Act.put,List.setIfInBounds_toArray,List.set_cons_zero,List.set_cons_succ])
     refine wpAnyH_take (i:=18) (v:=?v18x17) rfl (by kernel_rfl) (by kernel_rfl) (by kernel_rfl) (fun _ _ _ h=>h) (Or.inl ⟨by rfl,?hy18x17⟩) (by assumption) ?rest18x17
     case hy18x17=>(intro w' hSw;(try dsimp only at hSw);(try simp only [List.getElem_toArray,List.getElem_cons_succ,List.getElem_cons_zero]);(first | (go_simp;done) | (go_simp;with_reducible rfl)))
     (try simp only [Act.put,List.getElem_toArray,List.getElem_cons_succ,List.getElem_cons_zero,List.setIfInBounds_toArray,List.set_cons_zero,List.set_cons_succ])
     refine wpAnyH_ready (rs:=[19]) (by kernel_rfl) (by simp) ?_
     refine AllReadyH.cons rfl (fun K hK=>?_) AllReadyH.nil
     (try simp only [List.getElem_toArray,List.getElem_cons_succ,List.getElem_cons_zero])
     go_simp
     refine hK.out _ _ ((HC4.out w' HFn.out).2.1 _) (fun hHeld=>?_)
     clear hK K
     (try simp only [Act.put,List.setIfInBounds_toArray,List.set_cons_zero,List.set_cons_succ])
     refine wpAnyH_done (by kernel_rfl) ?_ _
     go_wp2_with fail
     go_meet
     case rel=>exact⟨A',c',G',w',HLn.out,HFn.out,HGn.out,rfl⟩
   case rest=>
    obtain⟨A',c',G',w5,hl5,hf5,hg5,rfl⟩:=hcut
    have hnsl:s∉l1:=fun h0=>hw ((HM1.out s).1 h0).2
    have hfw5:Fr (kb::G1) w w5:=(((HFw.out.drew.mono (G:=kb::G1) (fun _ hx=>by cases hx)).trans hF4.out (fun x hx=>.inl (by simp at hx;simp [hx])))).trans (((Fr.refl [] w4).alloc (.cells #[.int .i64 (s:Int)] 3)).drew.mono (G:=[]) (fun _ hx=>.inl hx)) (fun _ hx=>by cases hx) |>.trans hf5 (fun x hx=>.inl (List.mem_cons_of_mem _ hx))
    have hsz4:wr.heap.size≤w4.heap.size:=hF4.out.size
    have hbsr:bs<wr.heap.size:=HSetr.out.set.lt
    have hbwr:bw<wr.heap.size:=HSetr.out.row.lt
    have hw1s:w.heap.size≤bs∧w.heap.size≤bw:=by
     have h1:=HBs.out
     have h2:=HBw.out
     simp at h1 h2
     omega
    have hg6:∀g,g∈G'→g∈G1∨g=w4.heap.size+1:=fun g hg=>(hg5 g hg).imp id (fun h0=>by rw [h0.1];simp)
    obtain⟨tg1,htg1⟩:∃tg1,tg1=setTg (setTg tg bs (10,h,s)) bw (10,h,s):=⟨_,rfl⟩
    have htbs:tg1 bs=(10,h,s):=by
     rw [htg1]
     by_cases e:bs=bw
     ·rw [e,setTg_at]
     ·rw [setTg_ne _ _ e,setTg_at]
    have htbw:tg1 bw=(10,h,s):=by rw [htg1,setTg_at]
    have hu1:TgUp w tg tg1:=fun b hb=>by rw [htg1,setTg_ne _ _ (by omega),setTg_ne _ _ (by omega)]
    have ht1k:∀b,(tg1 b).1≠0→b<wr.heap.size:=fun b hb=>by
     by_cases e:b=bw
     ·omega
     ·by_cases e2:b=bs
      ·omega
      ·rw [htg1,setTg_ne _ _ e,setTg_ne _ _ e2]at hb
       exact Nat.lt_of_lt_of_le (HTok.out b hb) HFw.out.size
    obtain⟨tg2,htg2⟩:∃tg2:Tg,tg2=if w4.heap.size+1∈G' then setTg tg1 (w4.heap.size+1) (8,h,0) else tg1:=⟨_,rfl⟩
    have ht12:∀b,b≤w4.heap.size→tg2 b=tg1 b:=fun b hb=>by
     rw [htg2]
     split
     ·exact setTg_ne _ _ (by omega)
     ·rfl
    have hu2:TgUp w tg tg2:=fun b hb=>(ht12 b (by have:=HFw.out.size;omega)).trans (hu1 b hb)
    have hG2:∀g,g∈G'→tg2 g=(8,h,0):=fun g hg=>by
     rcases hg6 g hg with h1 | h1
     ·have:=HL1.out.lt g h1
      rw [hu2 g this,HG1.out g h1]
     ·subst h1
      rw [htg2,if_pos hg,setTg_at]
    have hw56:w5.heap.size≤(w5.setCell ⟨fB,h,none⟩ (.slice A' (l1.length+1) c')).heap.size:=by simp
    have hk2:TgOk (w5.setCell ⟨fB,h,none⟩ (.slice A' (l1.length+1) c')) tg2:=fun b hb=>by
     have h45:=hf5.size
     simp at h45
     by_cases e:b=w4.heap.size+1
     ·by_cases e2:w4.heap.size+1∈G'
      ·have:=hl5.lt _ e2
       omega
      ·rw [htg2,if_neg e2]at hb
       have:=ht1k b hb
       omega
     ·have e3:tg2 b=tg1 b:=by
       rw [htg2]
       split
       ·exact setTg_ne _ _ e
       ·rfl
      rw [e3]at hb
      have:=ht1k b hb
      omega
    obtain⟨gg,hgg⟩:∃gg:Nat→Bool,gg=fun (x:Nat)=>decide ((x:Int)∈l):=⟨_,rfl⟩
    have hmem:MemIs wr.drew tg2 per gg 2 h s (memOf 2 (.slice none 0 0) (.pointer (some ⟨bs,0,none⟩))):=by
     refine .inr (.inl ⟨rfl,bs,bw,ws,rfl,HSetr.out.drew,(ht12 bs (by omega)).trans htbs,(ht12 bw (by omega)).trans htbw,fun i hi=>?_⟩)
     have h1:=HBit.out i hi
     rw [hgg]
     cases hb:wbit ws i with
     | true=>
      obtain⟨j,hj,h2⟩:=h1.1 hb
      have:((s*per+i:Nat):Int)∈l:=by
       rw [← h2,List.getD_eq_getElem?_getD,List.getElem?_eq_getElem hj];exact List.getElem_mem hj
      simp only [this,decide_true]
     | false=>
      have:((s*per+i:Nat):Int)∉l:=fun h2=>by
       obtain⟨j,hj,h3⟩:=List.getElem_of_mem h2
       have:=h1.2 ⟨j,hj,by rw [List.getD_eq_getElem?_getD,List.getElem?_eq_getElem hj];exact h3⟩
       rw [hb]at this;cases this
      simp only [this,decide_false]
    have hkn4:=HKn.out.up (k:=2) (g:=gg) (tg':=tg2) (w1:=wr.drew) hh hs (by decide) ((HF0.out.trans HFw.out (fun _ hx=>by cases hx)).drew) (fun b hb=>by rw [HT0.out b hb];simp) (fun b hb=>hu2 b (Nat.lt_of_lt_of_le hb HF0.out.size)) hM4.out hF4.out hmem
    have hfr45:Fr G1 w4 w5:=(((Fr.refl G1 w4).alloc (.cells #[.int .i64 (s:Int)] 3)).drew).trans_same hf5
    have hkn5:=(hkn4.fr hfr45 (fun b hb=>by rw [hu2 b (HL1.out.lt b hb),HG1.out b hb];simp) (TgUp.refl _ _)).fr (F:=[fB]) (w':=w5.setCell ⟨fB,h,none⟩ (.slice A' (l1.length+1) c')) ((Fr.refl _ _).setCell (p:=⟨fB,h,none⟩) (.inl (by simp)) _) (fun b hb=>by simp at hb;subst hb;rw [hu2 _ HFi.out.row.lt,HFi.out.tag];simp) (TgUp.refl _ _)
    have hlen1:(l1++[s]).length=l1.length+1:=by simp
    have hzz1:zv (ints (l1++[s]))=zv (ints l1)++[.int .i64 (s:Int)]:=by simp [zv,ints]
    have hnd2:(l1++[s]).Nodup:=List.nodup_append.2 ⟨HND1.out,by simp,fun a ha b hb=>by simp at hb;subst hb;rintro rfl;exact hnsl ha⟩
    have hmm2:∀x,x∈l1++[s]↔x<n∧(x=s∨σ.way h x=2):=fun x=>by
     rw [List.mem_append,HM1.out x]
     simp
     constructor
     ·rintro(⟨h1,h2⟩ | rfl)
      ·exact⟨h1,.inr h2⟩
      ·exact⟨hs,.inl rfl⟩
     ·rintro⟨h1,rfl | h2⟩
      ·exact .inr rfl
      ·exact .inl ⟨h1,h2⟩
    have hfi2:=HFi.out.upd (tg':=tg2) (q:=fun x=>x=s∨σ.way h x=2) (l:=l1++[s]) (A:=A') (c:=c') hh hfw5 (fun b hb=>by
     rcases List.mem_cons.1 hb with rfl | hb
     ·right;rw [HKn.out.tag];simp
     ·left;exact HG1.out b hb) hu2 (by rw [hlen1,hzz1];exact hl5) hG2 hnd2 hmm2
    rw [hlen1]at hfi2
    have hfi3:=hfi2.congr (q:=fun a b=>(σ.put per h s 2 gg).way a b=2) (fun a ha b hb=>by
     by_cases e:a=h
     ·subst e
      rw [if_pos rfl]
      by_cases e2:b=s
      ·subst e2;simp [RS.way_at]
      ·rw [RS.way_ne _ _ _ _ (fun e3=>e2 e3.2)];simp [e2]
     ·rw [if_neg e,RS.way_ne _ _ _ _ (fun e3=>e e3.1)])
    have hnf:nFine (σ.put per h s 2 gg) n h=l1.length+1:=by
     rw [← hlen1]
     refine(nodup_cnt _ n _ hnd2 fun x=>(hmm2 x).trans (and_congr_right fun hx=>?_)).symm
     by_cases e2:x=s
     ·subst e2;simp [RS.way_at]
     ·rw [RS.way_ne _ _ _ _ (fun e3=>e2 e3.2)];simp [e2]
    have hfr6:Fr (kb::fB::G1) w (w5.setCell ⟨fB,h,none⟩ (.slice A' (l1.length+1) c')):=(hfw5.mono (G:=kb::fB::G1) (fun x hx=>.inl (by
     rcases List.mem_cons.1 hx with rfl | hx
     ·simp
     ·simp [hx]))).setCell (p:=⟨fB,h,none⟩) (.inl (by simp)) _
    have hkd6:∀b,b∈kb::fB::G1→(tg b).1=2∨(tg b).1=5∨(tg b).1=8:=fun b hb=>by
     rcases List.mem_cons.1 hb with rfl | hb
     ·left;rw [HKn.out.tag]
     ·rcases List.mem_cons.1 hb with rfl | hb
      ·right;left;rw [HFi.out.tag]
      ·right;right;rw [HG1.out b hb]
    have hS6:=(HC4.out w5 hf5).2.1 (.slice A' (l1.length+1) c')
    have hcf6:(w5.setCell ⟨fB,h,none⟩ (.slice A' (l1.length+1) c')).cell? ⟨fB,h,none⟩=some (.slice A' (l1.length+1) c'):=by
     have h0:=((HC4.out w5 hf5).2.2.2.2).put h (.slice A' (l1.length+1) c')
     rw [h0.cell,rowF_set,rowF_at hh,putF_at]
    have hst6:St (w5.setCell ⟨fB,h,none⟩ (.slice A' (l1.length+1) c')) sb kb sB hB fB per n:=HST.out.fr hfr6 (fun hb=>by have:=hkd6 _ hb;rw [tst]at this;omega)
    have HS6:=hide hS6
    have hs50:=hS6.1
    have hp60:=hS6.2.1
    have hp61:=hS6.2.2
    have HKn6:=hide hkn5
    have HFi6:=hide hfi3
    have HNf:=hide hnf
    have HFr6:=hide hfr6
    have HKd6:=hide hkd6
    have HU2:=hide hu2
    have HK2:=hide hk2
    have HSt6:=hide hst6
    have HGg:=hide hgg
    have hts6:tg2 sb=(1,0,0):=(hu2 sb N0).trans tst
    have hkb6:tg2 kb=(2,0,0):=hkn5.tag
    have hfb6:tg2 fB=(5,0,0):=hfi3.tag
    have HTs:=hide (And.intro hts6 (And.intro hkb6 hfb6))
    have hpl6:w.heap.size<(w5.setCell ⟨fB,h,none⟩ (.slice A' (l1.length+1) c')).heap.size:=by
     have h1:=hf5.size
     have h2:=HFw.out.size
     simp at h1 ⊢
     omega
    have htp6:(tg2 w.heap.size).1=0:=by
     have h2:=HFw.out.size
     rw [ht12 _ (by omega),htg1,setTg_ne,setTg_ne]
     ·rcases Nat.eq_zero_or_pos (tg w.heap.size).1 with h0 | h0
      ·exact h0
      ·exact absurd (HTok.out _ (by omega)) (Nat.lt_irrefl _)
     ·have:=HBs.out;simp at this;omega
     ·have:=HBw.out;simp at this;omega
    have HTp:=hide htp6
    have hll1:=HLn1.out
    clear hS6 hkn5 hkn4 hfi2 hfi3 hnf hfr6 hkd6 hu2 hk2 hst6 hmem hfr45 hG2 htbs htbw hu1 ht1k ht12 hg6 hw1s hbsr hbwr hsz4 hfw5 hl5 hf5 hg5 hnsl hnd2 hmm2 hts6 hkb6 hfb6 htp6 htg1 htg2 hlen1 hzz1 hw56 hgg hM4 hF4 HC4 K0 K1 hi hz0 hz1 hz2 hcf4 hff4 N4 HN HSt4 HRow4 HSk HL4
    generalize hW:w5.setCell ⟨fB,h,none⟩ (.slice A' (l1.length+1) c')=w6 at *
    clear hW
    go_wp2_with fail
    by_cases hle:4<l1.length+1
    ·have hgt:((l1.length:Int)+1>4):=by omega
     go_quiet (fail)
     obtain⟨bm,hbm⟩:∃bm,bm=bestOf (σ.put per h s 2 gg) per n h:=⟨_,rfl⟩
     have hMost:Hid (∀w',Fr [] w6 w'→Calls Tryz.prog 183 #[.pointer (some ⟨sb,0,none⟩),.int .i64 (h:Int)] w' fun e w''=>e=.returned (.int .i64 (bm:Int))∧bm<n∧Fr [] w' w''):=fun w' hf=>
      (mostCards_any (HSt6.out.fr hf (by simp)) HD.out (HKn6.out.fr hf (fun _ hb=>by cases hb) (TgUp.refl _ _)) hh (HFi6.out.fr hf (fun _ hb=>by cases hb) (TgUp.refl _ _)) (fun s _ h=>h) ⟨s,hs,RS.way_at ..⟩).mono fun e w'' ⟨m,h1,h2,h3,h4,h5⟩=>by
       have:=bestOf_eq ⟨h2,h3,h4⟩
       rw [← hbm]at this
       subst this
       exact⟨h1,h2,h5⟩
     have hCo:Hid (∀w',bm<n→Fr [] w6 w'→Calls Tryz.prog 182 #[.pointer (some ⟨sb,0,none⟩),.agg #[.int .i64 (h:Int),.int .i64 (bm:Int)]] w' (CoarsePost w' tg2 kb fB per n h bm (σ.put per h s 2 gg) (fun a b=>(σ.put per h s 2 gg).way a b=2))):=fun w' hb hf=>
      makeCoarse_any (HSt6.out.fr hf (by simp)) HTs.out.1 (HKn6.out.fr hf (fun _ hb=>by cases hb) (TgUp.refl _ _)) (HFi6.out.fr hf (fun _ hb=>by cases hb) (TgUp.refl _ _)) hn hh hb
     have HBm:=hide hbm
     have HSk:Hid (∀w',Fr [] w6 w'→w'.cell? ⟨w.heap.size,0,none⟩=some (.int .i64 (h:Int))∧w'.cell? ⟨w.heap.size,1,none⟩=some (.int .i64 (s:Int))):=fun w' hf=>⟨(hf.cell hpl6 (by simp)).trans hp60,(hf.cell hpl6 (by simp)).trans hp61⟩
     have HSf:Hid (∀w' w'' F,Fr [] w6 w'→Fr F w' w''→(∀b,b∈F→(tg2 b).1=2∨(tg2 b).1=5∨(tg2 b).1=8)→w''.cell? ⟨w.heap.size,0,none⟩=some (.int .i64 (h:Int))∧w''.cell? ⟨w.heap.size,1,none⟩=some (.int .i64 (s:Int))):=fun w' w'' F hf hf2 hk=>by
      have hp:w.heap.size∉F:=fun hb=>by have:=hk _ hb;rw [HTp.out]at this;omega
      have h1:=HSk.out w' hf
      exact⟨(hf2.cell (Nat.lt_of_lt_of_le hpl6 hf.size) hp).trans h1.1,(hf2.cell (Nat.lt_of_lt_of_le hpl6 hf.size) hp).trans h1.2⟩
     clear hbm
     go_wp2_with fail
     go_region_held3 (fun w'=>w'.cell? ⟨w.heap.size,0,none⟩=some (.int .i64 (h:Int))∧w'.cell? ⟨w.heap.size,1,none⟩=some (.int .i64 (s:Int)))
      (first | exact HSk.out _ (((Fr.refl _ _).drewN _).drew) | exact HSk.out _ hf67 | exact HSf.out _ _ _ hf67 hf8 hF8)
      (first
       | (go_at_call 183;(with_reducible refine Calls.mono (hMost.out _ (((Fr.refl _ _).drewN _).drew)) ?_);rintro e w7 ⟨rfl,hbn,hf7⟩;have hf67:Fr [] w6 w7:=((((Fr.refl [] w6).drewN _).drew).trans_nil hf7);have HC1:=hide (hCo.out w7 hbn hf67))
       | (go_at_call 182;(with_reducible refine Calls.mono HC1.out ?_);rintro e w8 ⟨V8,F8,fk8,rfl,hkn8,hfi8,hf8,hF8⟩))
     all_goals
      go_wp2_with fail
      go_end0
      rw [← HGg.out]
      have hco:coarsen (σ.put per h s 2 gg) per n h=(σ.put per h s 2 gg).put per h bm 3 (fun _=>false):=by unfold coarsen;rw [if_pos (by rw [HNf.out];exact hle),HBm.out]
      rw [hco]
      refine⟨tg2,fk8,V8,(kb::fB::G1)++F8.filter (·<w.heap.size),rfl,hkn8,hfi8.congr (fun a ha b hb=>?_),(((HFr6.out.trans_nil hf67).mono (G:=(kb::fB::G1)++F8.filter (·<w.heap.size)) (fun x hx=>.inl (List.mem_append_left _ hx)))).trans hf8 (fun x hx=>?_),fun b hb=>?_,HU2.out,fun b hb=>Nat.lt_of_lt_of_le (HK2.out b hb) (Nat.le_trans hf67.size hf8.size)⟩
      ·by_cases e:a=h∧b=bm
       ·obtain⟨rfl,rfl⟩:=e;simp [RS.way_at]
       ·rw [RS.way_ne _ _ _ _ e];simp [e]
      ·by_cases e:x<w.heap.size
       ·exact .inl (List.mem_append_right _ (List.mem_filter.2 ⟨hx,by simpa using e⟩))
       ·exact .inr (by omega)
      ·rcases List.mem_append.1 hb with hb | hb
       ·exact HKd6.out b hb
       ·obtain⟨h1,h2⟩:=List.mem_filter.1 hb
        have:=hF8 b h1
        rw [HU2.out b (by simpa using h2)]at this
        exact this
    ·have hgt:¬ ((l1.length:Int)+1>4):=by omega
     go_quiet (fail)
     go_wp2
     go_end0
     rw [← HGg.out]
     have hco:coarsen (σ.put per h s 2 gg) per n h=σ.put per h s 2 gg:=by unfold coarsen;rw [if_neg (by rw [HNf.out];exact hle)]
     rw [hco]
     exact⟨tg2,_,_,_,rfl,HKn6.out.fr ((Fr.refl [] _).drewN _) (fun _ hb=>by cases hb) (TgUp.refl _ _),HFi6.out.fr ((Fr.refl [] _).drewN _) (fun _ hb=>by cases hb) (TgUp.refl _ _),(HFr6.out.drewN _),HKd6.out,HU2.out,HK2.out⟩
theorem IxAt.shape{w:World}{tg:Tg}{kd n r:Nat}{p:Nat→Prop}{v:Value}(h:IxAt w tg kd n r p v):∃mb,v=.map mb:=by
 rcases h with⟨e,_⟩ | ⟨b,f,e,_⟩
 ·exact⟨_,e⟩
 ·exact⟨_,e⟩
theorem Ix.drop{w w':World}{tg:Tg}{kd rB n r x:Nat}{p:Nat→Nat→Prop}{V:Nat→Value}{b:Nat}(h:Ix w tg kd rB n p V)(hkd:4≤kd)(hr:r<n)(hv:V r=.map (some b)){f:Value→Option Value}
  (hm:Mp Tryz.prog 3 w b f) (ht:tg b=(kd,r,0)) (hfs:∀x v,f x=some v→∃s:Nat,s<n∧x=.int .i64 (s:Int)) (hfp:∀s:Nat,s<n→(f (.int .i64 (s:Int))≠none↔p r s)) (hM:Mp Tryz.prog 3 w' b (offF f (.int .i64 (x:Int)))) (hF:Fr [b] w w') :
  Ix w' tg kd rB n (fun a c=>p a c∧¬ (a=r∧c=x)) V:=by
 have hbB:b≠rB:=hm.blk_ne h.row
 refine⟨h.row.fr hF (by simpa using Ne.symm hbB),h.tag,fun r' hr'=>?_⟩
 by_cases e:r'=r
 ·subst e
  rw [hv]
  refine .inr ⟨b,_,rfl,hM,ht,fun y v hy=>?_,fun s hs=>?_⟩
  ·by_cases e2:y=.int .i64 (x:Int)
   ·subst e2;rw [offF_at]at hy;cases hy
   ·rw [offF_ne _ e2]at hy;exact hfs y v hy
  ·by_cases e2:s=x
   ·subst e2;rw [offF_at];simp
   ·rw [offF_ne _ (by simp;omega),hfp s hs];simp [e2]
 ·exact((h.own r' hr').fr hF (fun y hy hq=>by simp at hy;subst hy;rw [ht]at hq;injection hq with _ h2;injection h2 with h2;exact e h2.symm) (TgUp.refl _ _)).congr fun y hy=>by simp [e]
theorem Ix.drop0{w:World}{tg:Tg}{kd rB n r x:Nat}{p:Nat→Nat→Prop}{V:Nat→Value}(h:Ix w tg kd rB n p V)(hno:∀y,y<n→¬ p r y):Ix w tg kd rB n (fun a c=>p a c∧¬ (a=r∧c=x)) V:=
 h.congr fun a ha c hc=>by
  by_cases e:a=r
  ·subst e;simp [hno c hc]
  ·simp [e]
theorem wp_drop_ix{w w0:World}{tg:Tg}{kd rB n r x:Nat}{p:Nat→Nat→Prop}{V:Nat→Value}{mb:Option Nat}{o:Oper}{a:Act}{K:Act→World→Prop}{Q:Exit→Act→World→Prop}(m xo:Operand)
  (hop:o.op=.call { callee:=.builtin .delete,args:=#[m,xo],argTypes:=#[97,3] }) (h:Ix w0 tg kd rB n p V) (hf:Fr [] w0 w) (hkd:4≤kd) (hr:r<n) (hv:V r=.map mb) (hm:a.eval m=.map mb) (hx:a.eval xo=.int .i64 (x:Int)) (hxn:x≤65536)
  (hK:∀w' F,Hid (Ix w' tg kd rB n (fun a c=>p a c∧¬ (a=r∧c=x)) V)→Hid (Fr F w w')→Hid (∀b,b∈F→tg b=(kd,r,0))→Hid (∀b,V r=.map (some b)→Lost w w' b (.int .i64 (x:Int)))→K (a.put o.dst (.tuple #[])) w'):Oper.wp Tryz.prog o a w K Q:=by
 have h':=h.fr hf (fun _ hb=>by cases hb) (TgUp.refl _ _)
 have hkey:=intKey (x:Int) (wf_nat (by omega))
 rcases h'.own r hr with⟨e,hno⟩ | ⟨b,f,e,hM,ht,hfs,hfp⟩
 ·rw [hv]at e
  cases e
  exact wp_drop_nil m xo _ hop Tryz.intLaw Tryz.underlying97 hm hx hkey (hK w [] (h'.drop0 hno) (Fr.refl _ _) (fun _ hb=>by cases hb) (fun b hb=>by rw [hv]at hb;cases hb))
 ·have e0:=e
  rw [hv]at e
  cases e
  refine wp_drop m xo _ hop Tryz.intLaw Tryz.underlying97 hM (Fr.refl _ _) hm hx hkey fun w' hM' hF hL=>hK w' [b] (h'.drop hkd hr e0 hM ht hfs hfp hM'.out hF.out) hF (fun y hy=>by simp at hy;subst hy;exact ht) (fun y hy=>by rw [e0]at hy;cases hy;exact hL.out)
def ForPost(w:World)(tg:Tg)(sb kb sB hB fB per n h s:Nat)(σ:RS)(Vs Vh:Nat→Value)(e:Ending)(w':World):Prop:=
 ∃fk' Vf' F,e=.returned (.tuple #[])∧Rs w' tg sb kb sB hB fB per n (σ.put per h s 0 (fun _=>false)) fk' Vs Vh Vf'∧Fr F w w'∧(∀b,b∈F→(tg b).1≠0) ∧
  (∀b,Vs h=.map (some b)→Lost w w' b (.int .i64 (s:Int)))∧∀b,Vh s=.map (some b)→Lost w w' b (.int .i64 (h:Int))
set_option maxRecDepth 100000 in
set_option maxHeartbeats 1600000 in
theorem forget_any{w:World}{tg:Tg}{sb kb sB hB fB per n h s:Nat}{σ:RS}{fk:Value→Option Value}{Vs Vh Vf:Nat→Value}(H:Rs w tg sb kb sB hB fB per n σ fk Vs Vh Vf)(hh:h<n)(hs:s<n) :
  Calls Tryz.prog 47 #[.pointer (some ⟨sb,0,none⟩),.agg #[.int .i64 (h:Int),.int .i64 (s:Int)]] w (ForPost w tg sb kb sB hB fB per n h s σ Vs Vh):=by
 have hn:=H.ok.dim.n2
 obtain⟨lt,hlt⟩:=pairKey (h:Int) (s:Int) (wf_nat (by omega)) (wf_nat (by omega))
 have hh1:(h:Int)<(n:Int):=by omega
 have hs1:(s:Int)<(n:Int):=by omega
 obtain⟨ms,hms⟩:=(H.src.own h hh).shape
 obtain⟨mh,hmh⟩:=(H.hom.own s hs).shape
 have c2:=H.st.c2
 have N0:sb<w.heap.size:=Blk.lt H.st
 obtain⟨w2,hw2⟩:∃w2,w2=(w.alloc (.cells #[.int .i64 (h:Int),.int .i64 (s:Int)] 105)).drew:=⟨_,rfl⟩
 have hF2:Fr [] w w2:=hw2 ▸ ((Fr.refl _ _).alloc _).drew
 have htp:tg w.heap.size=tg w.heap.size∧(tg w.heap.size).1=0:=⟨rfl,by
  rcases Nat.eq_zero_or_pos (tg w.heap.size).1 with h0 | h0
  ·exact h0
  ·exact absurd (H.tok _ (by omega)) (Nat.lt_irrefl _)⟩
 have HC:Hid (∀w3 F,Fr F w2 w3→(∀b,b∈F→(tg b).1=2∨(tg b).1=6∨(tg b).1=7)→(w3.cell? ⟨sb,3,none⟩=some (.slice (some ⟨sB,0,none⟩) n n)∧w3.cell? ⟨sb,4,none⟩=some (.slice (some ⟨hB,0,none⟩) n n))∧(w3.cell? ⟨w.heap.size,0,none⟩=some (.int .i64 (h:Int))∧w3.cell? ⟨w.heap.size,1,none⟩=some (.int .i64 (s:Int)))∧w3.cell? ⟨sB,h,none⟩=some (.map ms)∧w3.cell? ⟨hB,s,none⟩=some (.map mh)):=fun w3 F hf3 hF=>by
  have hpb:Blk w2 w.heap.size 105 #[.int .i64 (h:Int),.int .i64 (s:Int)]:=by rw [hw2];exact(Blk.new w _ _).drew
  have hp:=hpb.fr hf3 (fun hb=>by have:=hF _ hb;rw [htp.2]at this;omega)
  have hst:=St.fr (H.st.fr hF2 (by simp)) hf3 (fun hb=>by have:=hF _ hb;rw [H.tst]at this;omega)
  have hsr:=(H.src.row.fr hF2 (by simp)).fr hf3 (fun hb=>by have:=hF _ hb;rw [H.src.tag]at this;omega)
  have hhr:=(H.hom.row.fr hF2 (by simp)).fr hf3 (fun hb=>by have:=hF _ hb;rw [H.hom.tag]at this;omega)
  exact⟨⟨hst.c3,hst.c4⟩,⟨by rw [hp.cell];rfl,by rw [hp.cell];rfl⟩,by rw [hsr.cell,rowF_at hh,hms],by rw [hhr.cell,rowF_at hs,hmh]⟩
 have HK:=hide hlt
 have HM:=hide H.kn.mp
 have HF2:=hide hF2
 have HR:=hide H
 have HMs:=hide hms
 have HMh:=hide hmh
 have HN:=hide hn
 clear H hlt hF2 hms hmh htp hn
 subst hw2
 go_enter Tryz.func47,Tryz.ntmps47
 go_wp2_with fail
 refine region_tail 5 (by kernel_rfl) (by kernel_rfl) ?_
 simp only [List.take_succ_cons,List.take_zero,List.drop_succ_cons,List.drop_zero]
 repeat still_step
 refine wpStill_nil ?_
 go_wp2_with (at_delete;refine list_of rfl fun K hK=>wp_drop (key:=pairV h s) _ _ 98 rfl Tryz.pairLaw Tryz.underlying98 HM.out (((Fr.refl _ _).alloc _).drew) rfl rfl HK.out ?_;intro w3 hM hF3 hL;refine hK _ _ ?_)
 have hC3:=HC.out w3 _ hF3.out (fun b hb=>by simp at hb;subst hb;left;rw [HR.out.kn.tag])
 obtain⟨⟨e3,e4⟩,⟨e0,e1⟩,es,eh⟩:=hC3
 have hX3:Ix w3 tg 6 sB n (fun h s=>σ.way h s≠0) Vs:=(HR.out.src.fr HF2.out (fun _ hb=>by cases hb) (TgUp.refl _ _)).fr hF3.out (fun b hb=>by simp at hb;subst hb;rw [HR.out.kn.tag];decide) (TgUp.refl _ _)
 have hY3:Ix w3 tg 7 hB n (fun s h=>σ.way h s≠0) Vh:=(HR.out.hom.fr HF2.out (fun _ hb=>by cases hb) (TgUp.refl _ _)).fr hF3.out (fun b hb=>by simp at hb;subst hb;rw [HR.out.kn.tag];decide) (TgUp.refl _ _)
 have HX3:=hide hX3
 have HY3:=hide hY3
 clear hX3 hY3 c2
 refine region_tail 10 (by kernel_rfl) (by kernel_rfl) ?_
 simp only [List.take_succ_cons,List.take_zero,List.drop_succ_cons,List.drop_zero]
 repeat still_step
 refine wpStill_nil ?_
 go_wp2_with (at_delete;refine list_of rfl fun K hK=>wp_drop_ix _ _ rfl HX3.out ((Fr.refl _ _).drew) (by decide) hh HMs.out rfl rfl (by have:=HN.out;omega) ?_;intro w4 F4 hX4 hF4 hT4 hL4;refine hK _ _ ?_)
 have hF24:Fr (kb::F4) (w.alloc (.cells #[.int .i64 (h:Int),.int .i64 (s:Int)] 105)).drew w4:=((hF3.out.drew).mono (G:=kb::F4) (fun x hx=>.inl (by simp at hx;simp [hx]))).trans hF4.out (fun x hx=>.inl (List.mem_cons_of_mem _ hx))
 have hK4:∀b,b∈kb::F4→(tg b).1=2∨(tg b).1=6∨(tg b).1=7:=fun b hb=>by
  rcases List.mem_cons.1 hb with rfl | hb
  ·left;rw [HR.out.kn.tag]
  ·right;left;rw [hT4.out b hb]
 have hC4:=HC.out w4 _ hF24 hK4
 have HF24:=hide hF24
 have HK4:=hide hK4
 clear e3 e4 e0 e1 es eh hF24 hK4
 obtain⟨⟨e3,e4⟩,⟨e0,e1⟩,es,eh⟩:=hC4
 have HY4:=hide ((HY3.out.fr ((Fr.refl [] w3).drew) (fun _ hb=>by cases hb) (TgUp.refl _ _)).fr hF4.out (fun b hb=>by rw [hT4.out b hb];simp) (TgUp.refl _ _))
 have hF25:Hid (∀w5 F5,Fr F5 w4.drew w5→(∀b,b∈F5→tg b=(7,s,0))→Fr (kb::(F4++F5)) (w.alloc (.cells #[.int .i64 (h:Int),.int .i64 (s:Int)] 105)).drew w5∧∀b,b∈kb::(F4++F5)→(tg b).1=2∨(tg b).1=6∨(tg b).1=7):=fun w5 F5 hF5 hT5=>by
  refine⟨((HF24.out.drew).mono (G:=kb::(F4++F5)) (fun x hx=>.inl ?_)).trans hF5 (fun x hx=>.inl (by simp [hx])),fun b hb=>?_⟩
  ·rcases List.mem_cons.1 hx with rfl | hx
   ·exact List.mem_cons_self ..
   ·exact List.mem_cons_of_mem _ (List.mem_append_left _ hx)
  ·rcases List.mem_cons.1 hb with rfl | hb
   ·left;rw [HR.out.kn.tag]
   ·rcases List.mem_append.1 hb with hb | hb
    ·right;left;rw [hT4.out b hb]
    ·right;right;rw [hT5 b hb]
 have HLv:Hid (∀w5 F5,Fr F5 w4.drew w5→(∀b,b∈F5→tg b=(7,s,0))→Calls Tryz.prog 98 #[.pointer (some ⟨sb,0,none⟩),.agg #[.int .i64 (h:Int),.int .i64 (s:Int)]] w5 (FinPost w5 tg fB n (fun a b=>σ.way a b=2∧¬ (a=h∧b=s)))):=fun w5 F5 hF5 hT5=>
  leaveFine_any (St.fr (HR.out.st.fr HF2.out (by simp)) (hF25.out w5 F5 hF5 hT5).1 (fun hb=>by have:=(hF25.out w5 F5 hF5 hT5).2 _ hb;rw [HR.out.tst]at this;omega)) HR.out.tst ((HR.out.fin.fr HF2.out (fun _ hb=>by cases hb) (TgUp.refl _ _)).fr (hF25.out w5 F5 hF5 hT5).1 (fun b hb=>by have:=(hF25.out w5 F5 hF5 hT5).2 _ hb;omega) (TgUp.refl _ _)) HN.out hh
 refine region_tail 10 (by kernel_rfl) (by kernel_rfl) ?_
 simp only [List.take_succ_cons,List.take_zero,List.drop_succ_cons,List.drop_zero]
 repeat still_step
 refine wpStill_nil ?_
 go_wp2_with (first | (at_delete;refine list_of rfl fun K hK=>wp_drop_ix _ _ rfl HY4.out ((Fr.refl _ _).drew) (by decide) hs HMh.out rfl rfl (by have:=HN.out;omega) ?_;intro w5 F5 hY5 hF5 hT5 hL5;have g0:=(HC.out w5 _ (hF25.out w5 F5 hF5.out hT5.out).1 (hF25.out w5 F5 hF5.out hT5.out).2).2.1.1;have g1:=(HC.out w5 _ (hF25.out w5 F5 hF5.out hT5.out).1 (hF25.out w5 F5 hF5.out hT5.out).2).2.1.2;have HLw:=hide (HLv.out w5 F5 hF5.out hT5.out);refine hK _ _ ?_) | (go_at_call 98;refine HLw.out.mono ?_;rintro e w6 ⟨Vf',F6,rfl,hfi,hf6,hF6⟩))
 have HF25:=hide (hF25.out w5 F5 hF5.out hT5.out).1
 have HK5:=hide (hF25.out w5 F5 hF5.out hT5.out).2
 go_end0
 have hF06:Fr ((kb::(F4++F5))++F6) w w6:=(((HF2.out.mono (G:=(kb::(F4++F5))++F6) (fun _ hx=>by cases hx)).trans HF25.out (fun x hx=>.inl (List.mem_append_left _ hx)))).trans hf6 (fun x hx=>.inl (List.mem_append_right _ hx))
 have hK6:∀b,b∈(kb::(F4++F5))++F6→(tg b).1=2∨(tg b).1=6∨(tg b).1=7∨(tg b).1=5∨(tg b).1=8:=fun b hb=>by
  rcases List.mem_append.1 hb with hb | hb
  ·have:=HK5.out b hb;omega
  ·have:=hF6 b hb;omega
 have hkn3:=(HR.out.kn.fr HF2.out (fun _ hb=>by cases hb) (TgUp.refl _ _)).off hM.out hF3.out
 have hkn6:=(((hkn3.fr ((Fr.refl [] w3).drew) (fun _ hb=>by cases hb) (TgUp.refl _ _)).fr hF4.out (fun b hb=>by rw [hT4.out b hb];simp) (TgUp.refl _ _)).fr (w':=w5) (F:=F5) (((Fr.refl F5 w4).drew).trans_same hF5.out) (fun b hb=>by rw [hT5.out b hb];simp) (TgUp.refl _ _)).fr hf6 (fun b hb=>by have:=hF6 b hb;omega) (TgUp.refl _ _)
 have hX6:=(hX4.out.fr (w':=w5) (F:=F5) (((Fr.refl F5 w4).drew).trans_same hF5.out) (fun b hb=>by rw [hT5.out b hb];simp) (TgUp.refl _ _)).fr hf6 (fun b hb=>by have:=hF6 b hb;omega) (TgUp.refl _ _)
 have hY6:=hY5.out.fr hf6 (fun b hb=>by have:=hF6 b hb;omega) (TgUp.refl _ _)
 refine⟨_,Vf',_,rfl,⟨HR.out.ok.put (fun h=>absurd rfl h) (fun c _ h=>by cases h),HR.out.st.fr hF06 (fun hb=>by have:=hK6 _ hb;rw [HR.out.tst]at this;omega),HR.out.tst,fun b hb=>Nat.lt_of_lt_of_le (HR.out.tok b hb) hF06.size,hkn6,
  hX6.congr fun a _ c _=>?_,hY6.congr fun a _ c _=>?_,hfi.congr fun a _ c _=>?_⟩,hF06,fun b hb=>by have:=hK6 b hb;omega,fun b hb=>?_,fun b hb=>?_⟩
 ·by_cases e:a=h∧c=s
  ·obtain⟨rfl,rfl⟩:=e;simp [RS.way_at]
  ·rw [RS.way_ne _ _ _ _ e];simp [e]
 ·by_cases e:c=h∧a=s
  ·obtain⟨rfl,rfl⟩:=e;simp [RS.way_at]
  ·rw [RS.way_ne _ _ _ _ e];simp [fun h1 h2=>e ⟨h2,h1⟩];intro _ h1 h2;exact e ⟨h2,h1⟩
 ·by_cases e:a=h∧c=s
  ·obtain⟨rfl,rfl⟩:=e;simp [RS.way_at]
  ·rw [RS.way_ne _ _ _ _ e];simp [e]
 ·have hbt:∃f,Mp Tryz.prog 3 w b f∧tg b=(6,h,0):=by
   rcases HR.out.src.own h hh with⟨e,_⟩ | ⟨b',f,e,hm,ht,_⟩
   ·rw [hb]at e;cases e
   ·rw [hb]at e;cases e;exact⟨f,hm,ht⟩
  obtain⟨f,hm,ht⟩:=hbt
  have hm3:=(hm.fr0 HF2.out).fr hF3.out (fun h0=>by simp at h0;subst h0;rw [HR.out.kn.tag]at ht;cases ht)
  have l4:Lost w3 w4 b (.int .i64 (s:Int)):=hL4.out b hb
  have l0:Lost w w4 b (.int .i64 (s:Int)):=l4.before hm.lt (F:=[kb]) ((HF2.out.mono (fun _ hx=>by cases hx)).trans_same hF3.out) (fun h0=>by simp at h0;subst h0;rw [HR.out.kn.tag]at ht;cases ht)
  have s4:b<w4.heap.size:=Nat.lt_of_lt_of_le hm3.lt hF4.out.size
  have l5:=l0.fr s4 (w':=w5) (F:=F5) (((Fr.refl F5 w4).drew).trans_same hF5.out) (fun h0=>by rw [hT5.out b h0]at ht;cases ht)
  exact l5.fr (Nat.lt_of_lt_of_le s4 (((Fr.refl F5 w4).drew).trans_same hF5.out).size) hf6 (fun h0=>by have:=hF6 b h0;rw [ht]at this;omega)
 ·have hbt:∃f,Mp Tryz.prog 3 w b f∧tg b=(7,s,0):=by
   rcases HR.out.hom.own s hs with⟨e,_⟩ | ⟨b',f,e,hm,ht,_⟩
   ·rw [hb]at e;cases e
   ·rw [hb]at e;cases e;exact⟨f,hm,ht⟩
  obtain⟨f,hm,ht⟩:=hbt
  have hF02:Fr (kb::F4) w w4:=(HF2.out.mono (fun _ hx=>by cases hx)).trans_same HF24.out
  have l4:Lost w4 w5 b (.int .i64 (h:Int)):=hL5.out b hb
  have l0:Lost w w5 b (.int .i64 (h:Int)):=l4.before hm.lt hF02 (fun h0=>by
   rcases List.mem_cons.1 h0 with rfl | h0
   ·rw [HR.out.kn.tag]at ht;cases ht
   ·rw [hT4.out b h0]at ht;cases ht)
  exact l0.fr (Nat.lt_of_lt_of_le hm.lt (Nat.le_trans hF02.size (((Fr.refl F5 w4).drew).trans_same hF5.out).size)) hf6 (fun h0=>by have:=hF6 b h0;rw [ht]at this;omega)
theorem mp_unique{P:Program}{k:TypeId}{w:World}{b:Nat}{f g:Value→Option Value}(h:Mp P k w b f)(h':Mp P k w b g):f=g:=by
 obtain⟨es,c,hb,E⟩:=h
 obtain⟨es',c',hb',E'⟩:=h'
 rw [hb]at hb'
 cases hb'
 funext x
 cases hf:f x with
 | some v=>
  obtain⟨e,he,rfl,rfl⟩:=E.ofF x v hf
  exact(E'.val e he).symm
 | none=>
  cases hg:g x with
  | none=>rfl
  | some v=>
   obtain⟨e,he,rfl,rfl⟩:=E'.ofF x v hg
   rw [E.val e he]at hf;cases hf
theorem wp_nextI{P:Program}{k:TypeId}{w:World}{b r cnt n:Nat}{f:Value→Option Value}{left:Value→Prop}{o:Oper}{a:Act}{K:Act→World→Prop}{Q:Exit→Act→World→Prop}(it:Operand)(hop:o.op=Op.next it false)(hit:a.eval it=.pointer (some ⟨r,0,none⟩))(h:Rng P k w b r f left cnt)
  (hks:∀x v,f x=some v→∃s:Nat,s<n∧x=.int .i64 (s:Int)) (hDone:Hid (∀x v,f x=some v→¬ left x)→K (a.put o.dst (.tuple #[.bool false])) w)
  (hMore:∀(s:Nat) v w' cnt',Hid (s<n)→Hid (f (.int .i64 (s:Int))=some v)→Hid (left (.int .i64 (s:Int)))→Hid (Rng P k w' b r f (fun x=>left x∧x≠.int .i64 (s:Int)) cnt')→Hid (cnt'<cnt)→Hid (Fr [r] w w')→(Instr.entry (.pointer (some ⟨r,0,none⟩))).run P w'=.ok (.tuple #[.int .i64 (s:Int),v]) w'→K (a.put o.dst (.tuple #[.bool true,.int .i64 (s:Int),v])) w'):Oper.wp P o a w K Q:=
 wp_next it hop hit h (fun _ hd=>hDone hd) fun key v w' cnt' hf hl hg hlt hF hen=>by
  obtain⟨s,hs,rfl⟩:=hks key v hf
  exact hMore s v w' cnt' hs hf hl hg hlt hF hen
def RS.clear(σ:RS)(h:Nat):RS:=⟨fun a b=>if a=h then 0 else σ.way a b,fun a c=>if a=h then false else σ.has a c⟩
theorem RS.ext{σ τ:RS}(h1:∀a b,σ.way a b=τ.way a b)(h2:∀a c,σ.has a c=τ.has a c):σ=τ:=by
 cases σ;cases τ
 simp only [RS.mk.injEq]
 exact⟨funext fun a=>funext fun b=>h1 a b,funext fun a=>funext fun c=>h2 a c⟩
def ClrPost(w:World)(tg:Tg)(sb kb sB hB fB per n:Nat)(σ σ':RS)(Vs Vh:Nat→Value)(er:Int)(e:Ending)(w':World):Prop:=
 ∃fk' Vf' F,e=.returned (.int .i64 er)∧Rs w' tg sb kb sB hB fB per n σ' fk' Vs Vh Vf'∧Fr F w w'∧∀b,b∈F→(tg b).1≠0
section
variable {w:World}{tg:Tg}{sb kb sB hB fB per n:Nat}{σ:RS}{fk:Value→Option Value}{Vs Vh Vf:Nat→Value}
structure Half(per h:Nat)(σ τ:RS):Prop where
 way:∀a b,a≠h→τ.way a b=σ.way a b
 has:∀a c,a≠h→τ.has a c=σ.has a c
set_option maxRecDepth 100000 in
set_option maxHeartbeats 1600000 in
theorem clear_any(H:Rs w tg sb kb sB hB fB per n σ fk Vs Vh Vf){h:Nat}(hh:h<n):Calls Tryz.prog 10 #[.pointer (some ⟨sb,0,none⟩),.int .i64 (h:Int)] w (ClrPost w tg sb kb sB hB fB per n σ (σ.clear h) Vs Vh 0):=by
 have hn:=H.ok.dim.n2
 have HR:=hide (isRegion_any H.st H.ok.dim (h:Int))
 have hd:decide ((0:Int)≤(h:Int)∧(h:Int)<(n:Int))=true:=decide_eq_true (by omega)
 rw [hd]at HR
 have hh1:(h:Int)<(n:Int):=by omega
 have c3:=H.st.c3
 have N0:sb<w.heap.size:=Blk.lt H.st
 have cr:w.cell? ⟨sB,h,none⟩=some (Vs h):=by rw [H.src.row.cell,rowF_at hh]
 have hsh:=H.src.own h hh
 have hend:∀τ:RS,Half per h σ τ→SOk per n τ→(∀b,b<n→τ.way h b=0)→τ=σ.clear h:=fun τ hτ ok hz=>RS.ext (fun a b=>by
   by_cases e:a=h
   ·subst e
    have:τ.way a b=0:=by
     rcases Nat.eq_zero_or_pos (τ.way a b)with h0 | h0
     ·exact h0
     ·exact hz b (ok.rng a b (by omega)).2.1
    rw [this];simp [RS.clear]
   ·rw [hτ.way a b e];simp [RS.clear,e]) (fun a c=>by
   by_cases e:a=h
   ·subst e
    have:τ.has a c=false:=by
     cases hc:τ.has a c with
     | false=>rfl
     | true=>
      have:=ok.can a c hc
      have h2:=hz _ (ok.dim.div this.1)
      omega
    rw [this];simp [RS.clear]
   ·rw [hτ.has a c e];simp [RS.clear,e])
 have HE:=hide hend
 clear hd hend
 rcases hsh with⟨hv,hno⟩ | ⟨b,f,hv,hm,ht,hfs,hfp⟩
 ·rw [hv]at cr
  have HNo:=hide hno
  have H1:=hide H
  have hrn:=run_range_nilMap (P:=Tryz.prog) w 97 3 113 Tryz.underlying97
  have hnx:=fun ty=>run_next_nilMap (P:=Tryz.prog) w ty 0 0 #[]
  clear H hv hno
  go_enter Tryz.func10,Tryz.ntmps10
  go_wp2_with (go_at_call 46;refine HR.out.mono ?_;rintro e w' ⟨rfl,rfl⟩)
  go_loopw [5] (fun _ wr=>wr=w.alloc (.mapIter none 0 #[] 0)) (fun _ _=>0)
  case atStart=>rfl
  case round=>
   subst hrel
   go_wp2
   go_ret
   have hF:Fr [] w (w.alloc (.mapIter none 0 #[] 0)):=(Fr.refl _ _).alloc _
   have e:=HE.out σ ⟨fun _ _ _=>rfl,fun _ _ _=>rfl⟩ H1.out.ok (fun b hb=>by have:=HNo.out b hb;omega)
   exact⟨_,_,[],rfl,e ▸ H1.out.fr0 hF,hF,fun _ hb=>by cases hb⟩
 ·rw [hv]at cr
  have H1:=hide H
  have HV:=hide hv
  have HM:=hide hm
  have HT:=hide ht
  have HFs:=hide hfs
  have HFp:=hide hfp
  have hr0:(tg w.heap.size).1=0:=by
   rcases Nat.eq_zero_or_pos (tg w.heap.size).1 with h0 | h0
   ·exact h0
   ·exact absurd (H.tok _ (by omega)) (Nat.lt_irrefl _)
  have HR0:=hide hr0
  clear H hv hm ht hfs hfp hr0
  go_enter Tryz.func10,Tryz.ntmps10
  go_wp2_with (first | (go_at_call 46;refine HR.out.mono ?_;rintro e w' ⟨rfl,rfl⟩) | (at_range;refine list_of rfl fun K hK=>wp_range _ 97 rfl Tryz.underlying97 rfl HM.out ?_;intro w1 cnt hg hF;refine hK _ _ ?_))
  go_frame
  go_loopw [5] (fun _ wr=>∃τ fk' Vf' F f' left cnt,Rs wr tg sb kb sB hB fB per n τ fk' Vs Vh Vf'∧Half per h σ τ∧Rng Tryz.prog 3 wr b w.heap.size f' left cnt∧(∀x v,f' x=some v→left x)∧Fr F w wr∧∀y,y∈F→(tg y).1≠0) (fun _ wr=>rngLeft wr b w.heap.size)
  case atStart=>exact⟨σ,fk,Vf,[],f,_,cnt,H1.out.fr0 hF.out,⟨fun _ _ _=>rfl,fun _ _ _=>rfl⟩,hg.out,fun _ _ _=>trivial,hF.out,fun _ hb=>by cases hb⟩
  case round=>
   obtain⟨τ,fk',Vf',F,f',left,cnt,hr,hτ,hg,hl,hF,hFt⟩:=hrel
   have hsh:(∀x v,f' x=some v→∃s:Nat,s<n∧x=.int .i64 (s:Int))∧∀s:Nat,s<n→(f' (.int .i64 (s:Int))≠none↔τ.way h s≠0):=by
    rcases hr.src.own h hh with⟨e,_⟩ | ⟨b',f2,e,hm2,_,h3,h4⟩
    ·rw [HV.out]at e;cases e
    ·rw [HV.out]at e
     cases e
     obtain rfl:=mp_unique hm2 hg.mp
     exact⟨h3,h4⟩
   have HG:=hide hg
   have HRs:=hide hr
   have Hτ:=hide hτ
   have HL:=hide hl
   have HF:=hide hF
   have HFt:=hide hFt
   have HK:=hide hsh.1
   have HKw:=hide hsh.2
   have HC:Hid (∀(s:Nat) w2,s<n→Fr [w.heap.size] wr w2→Calls Tryz.prog 47 #[.pointer (some ⟨sb,0,none⟩),.agg #[.int .i64 (h:Int),.int .i64 (s:Int)]] w2 (ForPost w2 tg sb kb sB hB fB per n h s τ Vs Vh)):=fun s w2 hs hf2=>forget_any (hr.fr hf2 (fun y hy=>by simp at hy;subst hy;exact HR0.out)) hh hs
   clear hr hτ hg hl hF hFt hsh
   go_wp2_with (first | (at_next;refine list_of rfl fun K hK=>wp_nextI _ rfl rfl HG.out HK.out (fun hd=>hK _ _ ?_) (fun s v w2 cnt2 hs hf hlk hg2 hlt hF2 hen=>hK _ _ ?_)) | (go_at_call 47;refine(HC.out s w2 hs.out hF2.out).mono ?_;rintro e w3 ⟨fk2,Vf2,F2,rfl,hr3,hF3,hF3t,hL1,hL2⟩;have HRs3:=hide hr3;have HF3:=hide hF3;have HF3t:=hide hF3t;have HL1:=hide hL1;clear hr3 hF3 hF3t hL1 hL2))
   ·go_ret
    have hz:∀x,x<n→τ.way h x=0:=fun x hx=>by
     rcases Nat.eq_zero_or_pos (τ.way h x)with h0 | h0
     ·exact h0
     ·obtain⟨v,hv⟩:=Option.ne_none_iff_exists'.1 ((HKw.out x hx).2 (by omega))
      exact absurd (HL.out _ _ hv) (hd.out _ _ hv)
    exact⟨fk',Vf',F,rfl,HE.out τ Hτ.out HRs.out.ok hz ▸ HRs.out,HF.out,HFt.out⟩
   ·have hsh3:∃f3,Mp Tryz.prog 3 w3 b f3∧(∀x v,f3 x=some v→∃s:Nat,s<n∧x=.int .i64 (s:Int))∧∀y:Nat,y<n→(f3 (.int .i64 (y:Int))≠none↔(τ.put per h s 0 (fun _=>false)).way h y≠0):=by
     rcases HRs3.out.src.own h hh with⟨e,_⟩ | ⟨b',f2,e,hm2,_,h3,h4⟩
     ·rw [HV.out]at e;cases e
     ·rw [HV.out]at e
      cases e
      exact⟨f2,hm2,h3,h4⟩
    obtain⟨f3,hm3,hk3,hw3⟩:=hsh3
    have hrt:w.heap.size∉F2:=fun h0=>HF3t.out _ h0 HR0.out
    obtain⟨cnt3,hg3,hle⟩:=hg2.out.lost (HL1.out b HV.out) hm3 HF3.out hrt
    have hmeas:rngLeft w3 b w.heap.size<rngLeft wr b w.heap.size:=by
     rw [hg3.left_eq,HG.out.left_eq]
     have:=hlt.out
     omega
    refine⟨⟨_,_,_,F++F2,f3,_,cnt3,HRs3.out,⟨fun a c e=>?_,fun a c e=>?_⟩,hg3,fun x v hx=>?_,?_,fun y hy=>?_⟩,hmeas⟩
    ·rw [RS.way_ne _ _ _ _ (fun e2=>e e2.1)];exact Hτ.out.way a c e
    ·rw [RS.has_ne _ _ _ _ (fun e2=>e e2.1)];exact Hτ.out.has a c e
    ·obtain⟨y,hy,rfl⟩:=hk3 x v hx
     have h5:=(hw3 y hy).1 (by rw [hx];simp)
     have hys:y≠s:=fun e=>by subst e;exact h5 (RS.way_at ..)
     rw [RS.way_ne _ _ _ _ (fun e2=>hys e2.2)]at h5
     obtain⟨v',hv'⟩:=Option.ne_none_iff_exists'.1 ((HKw.out y hy).2 h5)
     exact⟨HL.out _ _ hv',by simp;omega⟩
    ·exact((HF.out.mono (G:=F++F2) (fun x hx=>.inl (List.mem_append_left _ hx))).trans hF2.out (fun x hx=>.inr (by simp at hx;omega))).trans HF3.out (fun x hx=>.inl (List.mem_append_right _ hx))
    ·rcases List.mem_append.1 hy with hy | hy
     ·exact HFt.out y hy
     ·exact HF3t.out y hy
end
def RS.scrub(σ:RS)(per s:Nat):RS:=⟨fun a b=>if b=s then 0 else σ.way a b,fun a c=>if c / per=s then false else σ.has a c⟩
section
variable {w:World}{tg:Tg}{sb kb sB hB fB per n:Nat}{σ:RS}{fk:Value→Option Value}{Vs Vh Vf:Nat→Value}
structure Half2(per h:Nat)(σ τ:RS):Prop where
 way:∀a b,b≠h→τ.way a b=σ.way a b
 has:∀a c,c / per≠h→τ.has a c=σ.has a c
end
theorem Fr_old{F:List Nat}{w w':World}(h:Fr F w w'):Fr (F.filter (·<w.heap.size)) w w':=h.mono fun x hx=>by
 by_cases e:x<w.heap.size
 ·exact .inl (List.mem_filter.2 ⟨hx,by simpa using e⟩)
 ·exact .inr (by omega)
theorem RS.put_congr{σ:RS}{per h s k:Nat}{g g':Nat→Bool}(e:∀x,x / per=s→g x=g' x):σ.put per h s k g=σ.put per h s k g':=
 RS.ext (fun a b=>rfl) fun a c=>by
  simp only [RS.put]
  split
  ·rename_i h1;exact e c h1.2
  ·rfl
theorem Kn.keep{w w':World}{tg tg':Tg}{F:List Nat}{per n h s kb k:Nat}{g:Nat→Bool}{σ:RS}{fk:Value→Option Value}{v:Value}(hK:Kn w tg kb per n σ fk)(hk:k≠0)(hw:σ.way h s≠0)(hv:fk (pairV h s)=some v)(hf:Fr F w w')(hF:∀b,b∈F→(tg b).1≠2∧((tg b).1=9∨(tg b).1=10→(tg b).2=(h,s)))(hu:TgUp w tg tg')
  (hm:MemIs w' tg' per g k h s v):Kn w' tg' kb per n (σ.put per h s k g) fk:=by
 refine⟨hK.mp.fr hf (fun hb=>(hF _ hb).1 (by rw [hK.tag])),(hu _ hK.mp.lt).trans hK.tag,fun x v' hx=>?_,fun a b ha hb hwab=>?_⟩
 ·obtain⟨a,b,h1,h2,h3,h4⟩:=hK.key _ _ hx
  refine⟨a,b,h1,h2,h3,?_⟩
  by_cases e:a=h∧b=s
  ·obtain⟨rfl,rfl⟩:=e;rw [RS.way_at];exact hk
  ·rw [RS.way_ne _ _ _ _ e];exact h4
 ·by_cases e:a=h∧b=s
  ·obtain⟨rfl,rfl⟩:=e
   refine⟨v,hv,?_⟩
   rw [RS.way_at]
   exact hm.congr fun c hc=>(RS.has_at _ _ _ _ _ _ hc).symm
  ·rw [RS.way_ne _ _ _ _ e]at hwab ⊢
   obtain⟨v',e1,e2⟩:=hK.mem a b ha hb hwab
   refine⟨v',e1,((e2.fr hf (fun y hy=>?_) hu)).congr fun c hc=>(RS.has_ne _ _ _ _ (fun e4=>e ⟨e4.1,hc.symm.trans e4.2⟩)).symm⟩
   have h1:=(hF y hy).2
   constructor
   ·intro e5;rw [e5]at h1;have:=h1 (.inl rfl);injection this with h6 h7;exact e ⟨h6,h7⟩
   ·intro e5;rw [e5]at h1;have:=h1 (.inr rfl);injection this with h6 h7;exact e ⟨h6,h7⟩
def insAt(l:List Int)(x:Int):List Int:=l.take (l.countP (·<x))++x::l.drop (l.countP (·<x))
theorem insAt_mem{l:List Int}{x y:Int}:y∈insAt l x↔y=x∨y∈l:=by
 unfold insAt
 rw [List.mem_append,List.mem_cons]
 conv=>rhs;rw [← List.take_append_drop (l.countP (·<x)) l,List.mem_append]
 constructor
 ·rintro(h | h | h)
  ·exact .inr (.inl h)
  ·exact .inl h
  ·exact .inr (.inr h)
 ·rintro(h | h | h)
  ·exact .inr (.inl h)
  ·exact .inl h
  ·exact .inr (.inr h)
theorem insAt_len(l:List Int)(x:Int):(insAt l x).length=l.length+1:=by
 have:l.countP (·<x)≤l.length:=List.countP_le_length
 simp [insAt];omega
theorem sorted_cut{x:Int}:∀ {l:List Int},l.Pairwise (·<·)→x∉l→(∀y,y∈l.take (l.countP (·<x))→y<x)∧∀y,y∈l.drop (l.countP (·<x))→x<y
 | [],_,_=>by simp
 | a::r,hp,hx=>by
  obtain⟨h1,h2⟩:=List.pairwise_cons.1 hp
  have hxa:x≠a:=fun e=>hx (by simp [e])
  have hxr:x∉r:=fun e=>hx (by simp [e])
  by_cases ha:a<x
  ·have ih:=sorted_cut h2 hxr
   rw [List.countP_cons_of_pos (by simpa using ha)]
   simp only [List.take_succ_cons,List.drop_succ_cons,List.mem_cons]
   exact⟨fun y hy=>by rcases hy with rfl | hy;exact ha;exact ih.1 y hy,ih.2⟩
  ·have h0:(a::r).countP (·<x)=0:=List.countP_eq_zero.2 fun y hy=>by
    simp
    rcases List.mem_cons.1 hy with rfl | hy
    ·omega
    ·have:=h1 y hy;omega
   rw [h0]
   simp only [List.take_zero,List.drop_zero]
   refine⟨by simp,fun y hy=>?_⟩
   rcases List.mem_cons.1 hy with rfl | hy
   ·omega
   ·have:=h1 y hy;omega
theorem insAt_up{l:List Int}{x:Int}(hp:l.Pairwise (·<·))(hx:x∉l):(insAt l x).Pairwise (·<·):=by
 obtain⟨h1,h2⟩:=sorted_cut hp hx
 unfold insAt
 refine List.pairwise_append.2 ⟨hp.sublist (List.take_sublist _ _),List.pairwise_cons.2 ⟨fun y hy=>h2 y hy,hp.sublist (List.drop_sublist _ _)⟩,fun a ha b hb=>?_⟩
 rcases List.mem_cons.1 hb with rfl | hb
 ·exact h1 a ha
 ·have:=h1 a ha;have:=h2 b hb;omega
theorem few_cnt{per s:Nat}{g:Nat→Bool}{σ:RS}{h k:Nat}(hp:1≤per){l:List Int}(hup:l.Pairwise (·<·))(hm:∀x,x∈l↔∃c:Nat,x=(c:Int)∧c / per=s∧g c=true):l.length=cntS (σ.put per h s k g) per h s:=by
 unfold cntS
 have key:∀c:Nat,c / per=s→s*per≤c∧c-s*per<per∧s*per+(c-s*per)=c:=fun c hc=>by
  have h1:c / per*per+c % per=c:=by rw [Nat.mul_comm];exact Nat.div_add_mod c per
  have h2:c % per<per:=Nat.mod_lt _ hp
  rw [hc]at h1
  omega
 have:(l.map fun x=>x.toNat-s*per).length=cnt (fun i=>(σ.put per h s k g).has h (s*per+i)) 0 per:=by
  refine nodup_cnt _ per _ (List.pairwise_map.2 (hup.imp_of_mem fun {a b} ha hb hab=>?_)) fun i=>?_
  ·obtain⟨c,rfl,hc,_⟩:=(hm a).1 ha
   obtain⟨d,rfl,hd,_⟩:=(hm b).1 hb
   have h1:=key c hc
   have h2:=key d hd
   simp only [Int.toNat_natCast,ne_eq]
   omega
  ·rw [List.mem_map]
   constructor
   ·rintro⟨x,hx,rfl⟩
    obtain⟨c,rfl,hc,hg⟩:=(hm x).1 hx
    have h1:=key c hc
    simp only [Int.toNat_natCast]
    refine⟨h1.2.1,?_⟩
    rw [h1.2.2,RS.has_at _ _ _ _ _ _ hc]
    exact hg
   ·rintro⟨hi,hg⟩
    have hc:(s*per+i) / per=s:=by rw [Nat.mul_comm,Nat.mul_add_div (by omega),Nat.div_eq_of_lt hi,Nat.add_zero]
    rw [RS.has_at _ _ _ _ _ _ hc]at hg
    exact⟨((s*per+i:Nat):Int),(hm _).2 ⟨_,rfl,hc,hg⟩,by simp only [Int.toNat_natCast];omega⟩
 rw [← this,List.length_map]
end Go.Proofs.YteacgfeiedcdiaaGreatDoor
