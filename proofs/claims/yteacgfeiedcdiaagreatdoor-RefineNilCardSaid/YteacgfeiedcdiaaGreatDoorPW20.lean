/- Package remset: list. -/
import Derived.Test.YteacgfeiedcdiaaGreatDoorPW19
import Derived.Test.YteacgfeiedcdiaaGreatDoorPW15
import Derived.Test.YteacgfeiedcdiaaGreatDoorPW09
import Derived.Deep.RegionHeld3
import Derived.Deep.CutRange
namespace Go.Proofs.YteacgfeiedcdiaaGreatDoor
set_option maxRecDepth 100000
set_option linter.unusedVariables false
set_option linter.unusedSimpArgs false
open Go.RowKit Go.Gl
theorem up_ext:∀ {a b:List Int},a.Pairwise (·<·)→b.Pairwise (·<·)→(∀x,x∈a↔x∈b)→a=b
 | [],[],_,_,_=>rfl
 | [],y::b,_,_,h=>absurd ((h y).2 (by simp)) (by simp)
 | x::a,[],_,_,h=>absurd ((h x).1 (by simp)) (by simp)
 | x::a,y::b,ha,hb,h=>by
  rw [List.pairwise_cons]at ha hb
  have h1:x=y:=by
   have p1:=(h x).1 (by simp)
   have p2:=(h y).2 (by simp)
   rw [List.mem_cons]at p1 p2
   rcases p1 with p1 | p1
   ·exact p1
   rcases p2 with p2 | p2
   ·exact p2.symm
   have:=hb.1 x p1
   have:=ha.1 y p2
   omega
  subst h1
  refine congrArg (x::·) (up_ext ha.2 hb.2 fun z=>?_)
  have:=h z
  rw [List.mem_cons,List.mem_cons]at this
  constructor
  ·intro hz
   have h2:=ha.1 z hz
   rcases this.1 (.inr hz)with h3 | h3
   ·omega
   ·exact h3
  ·intro hz
   have h2:=hb.1 z hz
   rcases this.2 (.inr hz)with h3 | h3
   ·omega
   ·exact h3
def part(per s:Nat)(p:Nat→Bool)(k:Nat):List Int:=((List.range k).filter p).map fun i=>((s*per+i:Nat):Int)
theorem part_zero(per s:Nat)(p:Nat→Bool):part per s p 0=[]:=rfl
theorem part_yes{per s:Nat}{p:Nat→Bool}{k:Nat}(h:p k=true):part per s p (k+1)=part per s p k++[((s*per+k:Nat):Int)]:=by
 unfold part
 rw [List.range_succ,List.filter_append,List.map_append]
 simp [h]
theorem part_no{per s:Nat}{p:Nat→Bool}{k:Nat}(h:p k=false):part per s p (k+1)=part per s p k:=by
 unfold part
 rw [List.range_succ,List.filter_append,List.map_append]
 simp [h]
theorem part_skip{per s:Nat}{p:Nat→Bool}{k:Nat}:∀d,(∀j,k≤j→j<k+d→p j=false)→part per s p (k+d)=part per s p k
 | 0,_=>rfl
 | d+1,h=>by rw [← Nat.add_assoc,part_no (h (k+d) (by omega) (by omega)),part_skip d fun j h1 h2=>h j h1 (by omega)]
theorem part_to{per s:Nat}{p:Nat→Bool}{k m:Nat}(hkm:k≤m)(h:∀j,k≤j→j<m→p j=false):part per s p m=part per s p k:=by
 obtain⟨d,rfl⟩:=Nat.exists_eq_add_of_le hkm
 exact part_skip d h
theorem part_len(per s:Nat)(p:Nat→Bool)(k:Nat):(part per s p k).length≤k:=by
 unfold part
 rw [List.length_map]
 exact Nat.le_trans (List.length_filter_le _ _) (by simp)
theorem part_mem{per s:Nat}{p:Nat→Bool}{k:Nat}{x:Int}:x∈part per s p k↔∃i,i<k∧p i=true∧x=((s*per+i:Nat):Int):=by
 unfold part
 rw [List.mem_map]
 constructor
 ·rintro⟨i,hi,rfl⟩
  obtain⟨h1,h2⟩:=List.mem_filter.1 hi
  exact⟨i,List.mem_range.1 h1,h2,rfl⟩
 ·rintro⟨i,h1,h2,rfl⟩
  exact⟨i,List.mem_filter.2 ⟨List.mem_range.2 h1,h2⟩,rfl⟩
theorem part_up(per s:Nat)(p:Nat→Bool)(k:Nat):(part per s p k).Pairwise (·<·):=by
 unfold part
 refine List.pairwise_map.2 ((List.Pairwise.filter _ List.pairwise_lt_range).imp fun {a b} h=>by omega)
def cardsOf(σ:RS)(per h s:Nat):List Int:=part per s (fun i=>hasN σ per h (s*per+i)) per
def ListPost(w:World)(G0:List Nat)(xs:List Int)(e:Ending)(w':World):Prop:=
 ∃A c G,e=.returned (.slice A xs.length c)∧Lr w' 3 A xs.length c G (zv xs)∧Fr G0 w w'∧∀g,g∈G→g∈G0∨w.heap.size≤g
def toCome(per:Nat)(v:Value):Nat:=if intOf v<0 then 0 else per-(intOf v).toNat
theorem toCome_end(per:Nat):toCome per (.int .i64 (-1))=0:=by unfold toCome;exact if_pos (by decide)
theorem toCome_at(per R:Nat):toCome per (.int .i64 (R:Int))=per-R:=by
 have h:¬ intOf (.int .i64 (R:Int))<0:=by show ¬ (R:Int)<0;omega
 unfold toCome;rw [if_neg h];rfl
theorem next_part{ws:List Nat}{per s k:Nat}{p:Nat→Bool}{r:Int}(hp:∀i,i<per→wbit ws i=p i)(top:∀i,per≤i→wbit ws i=false)(hk:k≤per)(h:NextIs ws (k:Int) r) :
  (r=-1∧part per s p per=part per s p k)∨∃R:Nat,r=(R:Int)∧R<per∧k≤R∧p R=true∧part per s p R=part per s p k:=by
 rcases h with⟨rfl,h⟩ | ⟨R,rfl,h1,h2,h3⟩
 ·exact .inl ⟨rfl,part_to hk fun j h1 h2=>by rw [← hp j h2];exact h j (by omega)⟩
 ·have hR:R<per:=by
   rcases Nat.lt_or_ge R per with h | h
   ·exact h
   ·rw [top R h]at h2;cases h2
  exact .inr ⟨R,rfl,hR,by omega,by rw [← hp R hR];exact h2,part_to (by omega) fun j a b=>by rw [← hp j (by omega)];exact h3 j (by omega) b⟩
section
variable {w:World}{tg:Tg}{sb kb sB hB fB per n:Nat}{σ:RS}{fk:Value→Option Value}{Vs Vh Vf:Nat→Value}
set_option maxRecDepth 100000 in
set_option maxHeartbeats 3200000 in
theorem slist_any(H:Rs w tg sb kb sB hB fB per n σ fk Vs Vh Vf)(hT:Tab w){h s:Nat}(hh:h<n)(hs:s<n)(hw:σ.way h s≠0){A0:Option Addr}{c0:Nat}{G0:List Nat}{l:List Int}(hL:Lr w 3 A0 l.length c0 G0 (zv l))(hG:∀g,g∈G0→(tg g).1=0)(hTG:0∉G0)(hlen:l.length+per≤16777216) :
  Calls Tryz.prog 55 #[.pointer (some ⟨sb,0,none⟩),.slice A0 l.length c0,.agg #[.int .i64 (h:Int),.int .i64 (s:Int)]] w (ListPost w G0 (l++cardsOf σ per h s)):=by
 have hd:=H.ok.dim
 have hn:=hd.n2
 have hp3:=hd.p3
 have hsp:s*per+per≤n*per:=by rw [← Nat.succ_mul];exact Nat.mul_le_mul_right _ hs
 have hnp:=hd.p2
 obtain⟨lt,hlt⟩:=pairKey (h:Int) (s:Int) (wf_nat (by omega)) (wf_nat (by omega))
 have c1:=H.st.c1
 have c2:=H.st.c2
 have N0:sb<w.heap.size:=Blk.lt H.st
 obtain⟨v,hv,hm⟩:=H.kn.mem h s hh hs hw
 have HL:Hid (∀w',Fr [] w w'→(Instr.lookup 98 (.map (some kb)) (.agg #[.int .i64 (h:Int),.int .i64 (s:Int)]) false).run Tryz.prog w'=.ok v w'):=fun w' hf=>by
  have:=(H.kn.mp.fr0 hf).look Tryz.pairLaw Tryz.underlying98 (zeroMem w') hlt
  rw [hv]at this;exact this
 have hmw:∀w',Fr [] w w'→MemIs w' tg per (σ.has h) (σ.way h s) h s v:=fun w' hf=>hm.fr hf (fun _ hb=>by cases hb) (TgUp.refl _ _)
 obtain⟨W,A,ln,ca,k,rfl⟩:∃(W:Int) (A:Option Addr) (ln ca:Nat) (k:Option Addr),v=.agg #[.int .i64 W,.slice A ln ca,.pointer k]:=by
  rcases hm with⟨e,A,c,G,l,rfl,_⟩ | ⟨e,bs,bw,ws,rfl,_⟩ | ⟨e,rfl⟩
  ·exact⟨1,A,_,c,none,rfl⟩
  ·exact⟨2,none,0,0,_,rfl⟩
  ·exact⟨3,none,0,0,none,rfl⟩
 obtain⟨SP,hSP⟩:∃SP,s*per=SP:=⟨_,rfl⟩
 have hmul:IntKind.i64.wrap ((s:Int)*(per:Int))=(SP:Int):=by
  have e:(s:Int)*(per:Int)=((s*per:Nat):Int):=(Int.natCast_mul s per).symm
  rw [e,hSP,IntKind.wrap_i64]
  omega
 have HSP:=hide hSP
 have L1:=HL.out ((w.alloc (.cells #[.int .i64 (h:Int),.int .i64 (s:Int)] 105))).drew (((Fr.refl _ _).alloc _).drew)
 have L2:=fun o=>HL.out (((w.alloc (.cells #[.int .i64 (h:Int),.int .i64 (s:Int)] 105))).alloc o).drew ((((Fr.refl _ _).alloc _).alloc o).drew)
 have KK:∀w',Fr [] (w.alloc (.cells #[.int .i64 (h:Int),.int .i64 (s:Int)] 105)) w'→w'.cell? ⟨sb,1,none⟩=some (.int .i64 (per:Int))∧w'.cell? ⟨sb,2,none⟩=some (.map (some kb))∧w'.cell? ⟨w.heap.size,0,none⟩=some (.int .i64 (h:Int))∧w'.cell? ⟨w.heap.size,1,none⟩=some (.int .i64 (s:Int)):=fun w' hf=>by
  have hb:=(Blk.new w 105 #[.int .i64 (h:Int),.int .i64 (s:Int)]).fr hf (by simp)
  have hf0:=((Fr.refl [] w).alloc _).trans_same hf
  exact⟨(hf0.cell N0 (by simp)).trans c1,(hf0.cell N0 (by simp)).trans c2,hb.cell 0,hb.cell 1⟩
 have K0:=KK _ ((Fr.refl _ _).drew)
 have K1:=fun o=>KK _ (((Fr.refl _ _).alloc o).drew)
 have HH:=hide H
 have HMW:=hide hmw
 have HLr:=hide hL
 have HGd:=hide hG
 have HT:=hide hT
 have HTG:=hide hTG
 have HLen:=hide hlen
 have HB:Hid (SP+per≤4194304∧per≤4194304∧1≤per):=⟨by omega,hp3,hd.p1⟩
 have HMul:=hide hmul
 clear H HL hm hmw KK hL hG hT hTG hd hlen hsp hnp c1 c2 hlt hv hSP
 go_enter Tryz.func55,Tryz.ntmps55
 go_wp2_with fail
 go_cut [7,8] from 11 to 23 (fun p q wx=>p=.pointer (some ⟨w.heap.size+1,0,none⟩)∧q=.int .i64 (SP:Int)∧wx=((w.alloc (.cells #[.int .i64 (h:Int),.int .i64 (s:Int)] 105)).alloc (.cells #[.int .i64 W,.slice A ln ca,.pointer k] 131)).drew)
 case first=>
  go_region_held3 (fun w'=>w'.cell? ⟨sb,1,none⟩=some (.int .i64 (per:Int))∧w'.cell? ⟨sb,2,none⟩=some (.map (some kb))∧w'.cell? ⟨w.heap.size,0,none⟩=some (.int .i64 (h:Int))∧w'.cell? ⟨w.heap.size,1,none⟩=some (.int .i64 (s:Int)))
   (first | with_reducible exact K0 | with_reducible exact K1 _)
   (first | fail)
  all_goals
   go_wp2_with fail
   go_meet
   case rel=>exact⟨rfl,rfl,rfl⟩
 case rest=>
  obtain⟨rfl,rfl,rfl⟩:=hcut
  have hF:Fr [] w ((w.alloc (.cells #[.int .i64 (h:Int),.int .i64 (s:Int)] 105)).alloc (.cells #[.int .i64 W,.slice A ln ca,.pointer k] 131)).drew:=(((Fr.refl _ _).alloc _).alloc _).drew
  have hb:=(Blk.new_at (w:=w.alloc (.cells #[.int .i64 (h:Int),.int .i64 (s:Int)] 105)) (n:=w.heap.size+1) 131 #[.int .i64 W,.slice A ln ca,.pointer k] (by simp)).drew
  have hb0:=hb.cell 0
  have hb1:=hb.cell 1
  have hb2:=hb.cell 2
  simp only [List.getElem?_toArray,List.getElem?_cons_zero,List.getElem?_cons_succ]at hb0 hb1 hb2
  have hm:=HMW.out _ hF
  have hst:=HH.out.st.fr hF (by simp)
  have hl2:=HLr.out.fr0 hF
  have hT2:=HT.out.fr hF (by simp)
  have hHn:∀i,i<per→(s*per+i) / per=s:=fun i hi=>by
   rw [Nat.mul_comm,Nat.mul_add_div (by omega),Nat.div_eq_of_lt hi,Nat.add_zero]
  have hi0:=Tryz.info_int
  obtain⟨i0,hi,hz0,hz1,hz2⟩:=info_parts Tryz.info_int
  have hGw:∀g,g∈G0→g<w.heap.size:=HLr.out.lt
  have hsz:w.heap.size+1<(((w.alloc (.cells #[.int .i64 (h:Int),.int .i64 (s:Int)] 105)).alloc (.cells #[.int .i64 W,.slice A ln ca,.pointer k] 131)).drew).heap.size:=hb.lt
  have c1:=hst.c1
  have HS:=hide hst
  have HFw:=hide hF
  have HHn:=hide hHn
  have HGw:=hide hGw
  have HL2:=hide hl2
  have HT2:=hide hT2
  clear K0 K1 L1 L2 hF hb hst hHn hGw hl2 hT2 hi0 HMW HLr HT
  generalize ((w.alloc (.cells #[.int .i64 (h:Int),.int .i64 (s:Int)] 105)).alloc (.cells #[.int .i64 W,.slice A ln ca,.pointer k] 131)).drew=w2 at *
  rcases hm with⟨e,A1,c1',G1,l1,ev,hl1,hg1,hfew⟩ | ⟨e,bs,bw,ws,ev,hset,hgs,hgw,hbits⟩ | ⟨e,ev⟩
  ·simp only [memOf,Value.agg.injEq,Array.mk.injEq,List.cons.injEq,Value.int.injEq,Value.slice.injEq,Value.pointer.injEq,and_true,true_and]at ev
   obtain⟨rfl,⟨rfl,rfl,rfl⟩,rfl⟩:=ev
   have hE:l1=cardsOf σ per h s:=up_ext hfew.up (part_up _ _ _ _) fun x=>by
    unfold cardsOf
    rw [part_mem,hfew.mem]
    constructor
    ·rintro⟨c,rfl,h1,h2⟩
     have h3:=Nat.div_add_mod c per
     have h4:=Nat.mod_lt c HB.out.2.2
     rw [h1,Nat.mul_comm]at h3
     refine⟨c % per,h4,?_,by rw [h3]⟩
     rw [h3]
     unfold hasN
     rw [h2,Bool.or_true]
    ·rintro⟨i,h1,h2,rfl⟩
     refine⟨_,rfl,HHn.out i h1,?_⟩
     unfold hasN at h2
     rw [HHn.out i h1,e]at h2
     simpa using h2
   have HE:=hide hE
   have HX:=hide (Lr.read hl1)
   have HN:Hid ((zv l1).length=l1.length∧∀u∈zv l1,u.oneCell'=true):=⟨zv_len _,zv_one _⟩
   have HM1:Hid (l1.length≤4):=hfew.len
   clear hE hl1 hg1 hfew e
   go_wp2_with (first | (at_builtin;refine wpList_append_lr rfl _ _ 31 rfl 3 i0 (.int .i64 0) 8 Tryz.underlying31 hi hz0 hz1 hz2 rfl rfl HL2.out rfl HN.out.1 HX.out HN.out.2 (by have:=HM1.out;have:=HLen.out;unfold maxLen;omega) (by have:=HM1.out;have:=HLen.out;omega) ?_;intro A3 c3 G3 w3 HL3 HF3 HG3))
   go_ret
   have h2:=HL3.out
   rw [← zv_app,show l.length+l1.length=(l++l1).length by simp,HE.out]at h2
   refine⟨A3,c3,G3,by rw [HE.out];simp,h2,(HFw.out.mono (fun x hx=>by cases hx)).trans_same HF3.out,fun g hg=>?_⟩
   rcases HG3.out g hg with h | ⟨h,_⟩
   ·exact .inl h
   ·have:=HFw.out.size;exact .inr (by omega)
  ·simp only [memOf,Value.agg.injEq,Array.mk.injEq,List.cons.injEq,Value.int.injEq,Value.slice.injEq,Value.pointer.injEq,and_true,true_and]at ev
   obtain⟨rfl,⟨rfl,rfl,rfl⟩,rfl⟩:=ev
   have HP:Hid (∀i,i<per→wbit ws i=hasN σ per h (s*per+i)):=fun i hi=>by
    rw [hbits i hi]
    unfold hasN
    rw [HHn.out i hi,e]
    rfl
   have HNx:Hid (∀wr,Fr G0 w2 wr→∀i:Int,Calls Tryz.prog 106 #[.pointer (some ⟨bs,0,none⟩),.int .i64 i] wr (NextPost ws i wr)):=fun wr hf i=>
    next_any (hset.fr hf (fun hg=>by have:=HGd.out _ hg;rw [hgs]at this;cases this) (fun hg=>by have:=HGd.out _ hg;rw [hgw]at this;cases this)) (HT2.out.fr hf HTG.out) i
   have HTop:Hid (∀i,per≤i→wbit ws i=false):=hset.top
   clear hset hgs hgw hbits e
   have HN0:=hide (HNx.out w2 (Fr.refl _ _) 0)
   go_wp2_with (go_at_call 106;refine HN0.out.mono ?_;rintro e w' ⟨r,rfl,rfl,hr⟩;have HR0:=hide hr;clear hr)
   obtain⟨pp,hpp⟩:∃pp:Nat→Bool,(fun i=>hasN σ per h (s*per+i))=pp:=⟨_,rfl⟩
   have HC:Hid (cardsOf σ per h s=part per s pp per):=by show _=_;unfold cardsOf;rw [hpp]
   have HPp:Hid (∀i,i<per→wbit ws i=pp i):=fun i hi=>by rw [← hpp];exact HP.out i hi
   have hr:=next_part (s:=s) HPp.out HTop.out (Nat.zero_le _) HR0.out
   have HRr:=hide hr
   clear HR0 HN0 hr hpp HP
   go_loopw [1,9] (fun v i wr=>∃(A2:Option Addr) (c2:Nat) (G2:List Nat) (xs:List Int),v=.slice A2 (l++xs).length c2∧Lr wr 3 A2 (l++xs).length c2 G2 (zv (l++xs))∧Fr G0 w2 wr∧(∀g,g∈G2→g∈G0∨w2.heap.size≤g)∧xs.length≤per∧((i=.int .i64 (-1)∧xs=part per s pp per)∨∃R:Nat,i=.int .i64 R∧R<per∧pp R=true∧xs=part per s pp R)) (fun _ i _=>toCome per i)
   case atStart=>
    refine⟨A0,c0,G0,[],by simp,by simpa using HL2.out,Fr.refl _ _,fun g hg=>.inl hg,by simp,?_⟩
    rcases HRr.out with⟨rfl,h1⟩ | ⟨R,rfl,h1,_,h2,h3⟩
    ·exact .inl ⟨rfl,by rw [h1];rfl⟩
    ·exact .inr ⟨R,rfl,h1,h2,by rw [h3];rfl⟩
   case round=>
    obtain⟨A2,c2,G2,xs,rfl,hl,hf,hg,hxl,hrel⟩:=hrel
    have HLx:=hide hl
    have HFx:=hide hf
    have HGx:=hide hg
    have hb2r:=(hf.cell (p:=⟨w.heap.size+1,2,none⟩) hsz (fun hg=>by have:=HGw.out _ hg;simp at this;omega)).trans hb2
    clear hl hf hg
    rcases hrel with⟨rfl,rfl⟩ | ⟨R,rfl,hR,hpR,rfl⟩
    ·go_wp2_with fail
     go_ret
     rw [HC.out]
     exact⟨A2,c2,G2,rfl,HLx.out,(HFw.out.mono (fun x hx=>by cases hx)).trans_same HFx.out,fun g hg=>by
      rcases HGx.out g hg with h | h
      ·exact .inl h
      ·have:=HFw.out.size;exact .inr (by omega)⟩
    ·have HLn:Hid ((l++part per s pp R).length≤16777215):=by
      have:=part_len per s pp R
      have:=HLen.out
      show _≤_
      rw [List.length_append];omega
     have hlen2:(l++part per s pp R).length+1=(l++part per s pp (R+1)).length:=by rw [part_yes hpR];simp;omega
     have HLe:=hide hlen2
     have HZ:Hid (zv (l++part per s pp R)++[.int .i64 ((SP:Int)+(R:Int))]=zv (l++part per s pp (R+1))):=by
      rw [part_yes hpR,HSP.out,← List.append_assoc,zv_app (l++part per s pp R),Int.natCast_add];rfl
     have hB1:(SP:Int)+(R:Int)≤4194304:=by have:=HB.out.1;omega
     have hR0:(R:Int)≥0:=by omega
     have hR1:(R:Int)≤4194304:=by have:=HB.out.2.1;omega
     clear hxl hlen2
     generalize hpl:(l++part per s pp R).length=ln at *
     have HPl:=hide hpl
     clear hpl
     have HFa:Hid (∀(wa w3:World),Fr [] wr wa→Fr G2 wa w3→Fr G0 w2 w3∧w3.cell? ⟨w.heap.size+1,2,none⟩=some (.pointer (some ⟨bs,0,none⟩))):=fun wa w3 ha hf=>by
      have h1:Fr G0 w2 w3:=(HFx.out.trans ha (fun x hx=>by cases hx)).trans hf (fun x hx=>HGx.out x hx)
      exact⟨h1,(h1.cell (p:=⟨w.heap.size+1,2,none⟩) hsz (fun hg=>by have:=HGw.out _ hg;simp at this;omega)).trans hb2⟩
     go_wp2_with (first | (at_builtin;refine wpList_append_lr rfl _ _ 31 rfl 3 i0 (.int .i64 0) 8 Tryz.underlying31 hi hz0 hz1 hz2 rfl rfl (HLx.out.alloc _) rfl rfl (fun _=>one_of wr _ 3 rfl _ (Fr.refl _ _)) (by simp [Value.oneCell']) (by have:=HLn.out;unfold maxLen;omega) (by have:=HLn.out;omega) ?_;intro A3 c3 G3 w3 HL3 HF3 HG3;have hb3:=(HFa.out _ _ ((Fr.refl _ _).alloc _) HF3.out).2) | (go_at_call 106;refine(HNx.out _ (HFa.out _ _ ((Fr.refl _ _).alloc _) HF3.out).1 _).mono ?_;rintro e w' ⟨r,rfl,rfl,hr⟩;have HR3:Hid (NextIs ws ((R+1:Nat):Int) r):=hr;clear hr))
     have hf3:=(HFa.out _ _ ((Fr.refl _ _).alloc _) HF3.out).1
     have hg3:∀g,g∈G3→g∈G0∨w2.heap.size≤g:=fun g hg=>by
      rcases HG3.out g hg with h | ⟨h,_⟩
      ·exact HGx.out g h
      ·have:=HFx.out.size;simp at h;exact .inr (by omega)
     have hl3:=HL3.out
     rw [HZ.out,HLe.out]at hl3
     have hxl:(part per s pp (R+1)).length≤per:=Nat.le_trans (part_len _ _ _ _) hR
     rcases next_part (s:=s) (fun i hi=>by rw [HPp.out i hi]) HTop.out hR HR3.out with⟨rfl,h1⟩ | ⟨R',rfl,h1,h2,h3,h4⟩
     ·go_roundw
      case rel=>exact⟨A3,c3,G3,part per s pp (R+1),by rw [HLe.out],hl3,hf3,hg3,hxl,.inl ⟨rfl,h1.symm⟩⟩
      case measure=>rw [toCome_end,toCome_at];omega
     ·go_roundw
      case rel=>exact⟨A3,c3,G3,part per s pp (R+1),by rw [HLe.out],hl3,hf3,hg3,hxl,.inr ⟨R',rfl,h1,h3,h4.symm⟩⟩
      case measure=>rw [toCome_at,toCome_at];omega
  ·simp only [memOf,Value.agg.injEq,Array.mk.injEq,List.cons.injEq,Value.int.injEq,Value.slice.injEq,Value.pointer.injEq,and_true,true_and]at ev
   obtain⟨rfl,⟨rfl,rfl,rfl⟩,rfl⟩:=ev
   have HP:Hid (∀i,i<per→hasN σ per h (s*per+i)=true):=fun i hi=>by
    unfold hasN
    rw [HHn.out i hi,e]
    rfl
   clear e
   obtain⟨pp,hpp⟩:∃pp:Nat→Bool,(fun i=>hasN σ per h (s*per+i))=pp:=⟨_,rfl⟩
   have HC:Hid (cardsOf σ per h s=part per s pp per):=by show _=_;unfold cardsOf;rw [hpp]
   have HPp:Hid (∀i,i<per→pp i=true):=fun i hi=>by rw [← hpp];exact HP.out i hi
   clear hpp HP
   go_wp2_with fail
   go_loopw [1,56] (fun v i wr=>∃(A2:Option Addr) (c2:Nat) (G2:List Nat) (j:Nat),i=.int .i64 j∧j≤per∧v=.slice A2 (l++part per s pp j).length c2∧Lr wr 3 A2 (l++part per s pp j).length c2 G2 (zv (l++part per s pp j))∧Fr G0 w2 wr∧(∀g,g∈G2→g∈G0∨w2.heap.size≤g)) (fun _ i _=>per-(intOf i).toNat)
   case atStart=>exact⟨A0,c0,G0,0,rfl,Nat.zero_le _,by rw [part_zero];simp,by rw [part_zero];simpa using HL2.out,Fr.refl _ _,fun g hg=>.inl hg⟩
   case round=>
    obtain⟨A2,c2,G2,R,rfl,hR,rfl,hl,hf,hg⟩:=hrel
    have HLx:=hide hl
    have HFx:=hide hf
    have HGx:=hide hg
    clear hl hf hg
    by_cases hlt:R<per
    ·have hlt1:(R:Int)<(per:Int):=by omega
     have hpR:=HPp.out R hlt
     have HLn:Hid ((l++part per s pp R).length≤16777215):=by
      have:=part_len per s pp R
      have:=HLen.out
      show _≤_
      rw [List.length_append];omega
     have hlen2:(l++part per s pp R).length+1=(l++part per s pp (R+1)).length:=by rw [part_yes hpR];simp;omega
     have HLe:=hide hlen2
     have HZ:Hid (zv (l++part per s pp R)++[.int .i64 ((SP:Int)+(R:Int))]=zv (l++part per s pp (R+1))):=by
      rw [part_yes hpR,HSP.out,← List.append_assoc,zv_app (l++part per s pp R),Int.natCast_add];rfl
     have hB1:(SP:Int)+(R:Int)≤4194304:=by have:=HB.out.1;omega
     clear hlen2 hpR
     generalize hpl:(l++part per s pp R).length=ln at *
     have HPl:=hide hpl
     clear hpl
     go_wp2_with (first | (at_builtin;refine wpList_append_lr rfl _ _ 31 rfl 3 i0 (.int .i64 0) 8 Tryz.underlying31 hi hz0 hz1 hz2 rfl rfl (HLx.out.alloc _) rfl rfl (fun _=>one_of wr _ 3 rfl _ (Fr.refl _ _)) (by simp [Value.oneCell']) (by have:=HLn.out;unfold maxLen;omega) (by have:=HLn.out;omega) ?_;intro A3 c3 G3 w3 HL3 HF3 HG3))
     have hf3:Fr G0 w2 w3:=(HFx.out.alloc _).trans HF3.out (fun x hx=>HGx.out x hx)
     have hg3:∀g,g∈G3→g∈G0∨w2.heap.size≤g:=fun g hg=>by
      rcases HG3.out g hg with h | ⟨h,_⟩
      ·exact HGx.out g h
      ·have:=HFx.out.size;simp at h;exact .inr (by omega)
     have hl3:=HL3.out
     rw [HZ.out,HLe.out]at hl3
     go_roundw
     case rel=>exact⟨A3,c3,G3,R+1,by go_num,by omega,by rw [HLe.out],hl3,hf3,hg3⟩
     case measure=>simp [intOf];omega
    ·have hlt1:¬ (R:Int)<(per:Int):=by omega
     obtain rfl:R=per:=by omega
     go_wp2_with fail
     go_ret
     rw [HC.out]
     exact⟨A2,c2,G2,(show Ending.returned (.slice A2 (l.length+(part R s pp R).length) c2)=_ by rw [List.length_append]),HLx.out,(HFw.out.mono (fun x hx=>by cases hx)).trans_same HFx.out,fun g hg=>by
      rcases HGx.out g hg with h | h
      ·exact .inl h
      ·have:=HFw.out.size;exact .inr (by omega)⟩
end
theorem part_add(N per s a:Nat)(p:Nat→Bool)(ha:s*per=a):∀b,part N 0 p (a+b)=part N 0 p a++part per s (fun i=>p (a+i)) b
 | 0=>by rw [part_zero];simp
 | b+1=>by
  rw [← Nat.add_assoc]
  cases h:p (a+b)with
  | true=>rw [part_yes h,part_add N per s a p ha b,part_yes (p:=fun i=>p (a+i)) h,← List.append_assoc,ha,Nat.zero_mul,Nat.zero_add]
  | false=>rw [part_no h,part_add N per s a p ha b,part_no (p:=fun i=>p (a+i)) h]
def srcs(σ:RS)(n h:Nat):List Nat:=(List.range n).filter fun s=>decide (σ.way h s≠0)
def allOf(σ:RS)(per n h:Nat):List Int:=part (n*per) 0 (hasN σ per h) (n*per)
theorem srcs_mem{σ:RS}{n h s:Nat}:s∈srcs σ n h↔s<n∧σ.way h s≠0:=by simp [srcs]
theorem srcs_len(σ:RS)(n h:Nat):(srcs σ n h).length≤n:=by
 unfold srcs
 exact Nat.le_trans (List.length_filter_le _ _) (by simp)
theorem hasN_none{σ:RS}{per n h:Nat}(ok:SOk per n σ){c:Nat}(hw:σ.way h (c / per)=0):hasN σ per h c=false:=by
 unfold hasN
 rw [hw]
 cases hh:σ.has h c with
 | false=>rfl
 | true=>have:=(ok.can h c hh).2;omega
theorem flat_all{σ:RS}{per n h:Nat}(ok:SOk per n σ):∀m,((List.range m).filter fun s=>decide (σ.way h s≠0)).flatMap (cardsOf σ per h)=part (n*per) 0 (hasN σ per h) (m*per)
 | 0=>by simp [part_zero]
 | m+1=>by
  rw [List.range_succ,List.filter_append,List.flatMap_append,flat_all ok m,Nat.succ_mul]
  by_cases hw:σ.way h m=0
  ·rw [show List.filter (fun s=>decide (σ.way h s≠0)) [m]=[]by simp [hw],part_to (p:=hasN σ per h) (k:=m*per) (m:=m*per+per) (by omega) fun j h1 h2=>?_]
   ·simp
   ·refine hasN_none ok ?_
    have:j / per=m:=by
     rw [Nat.div_eq_iff (by have:=ok.dim.p1;omega)]
     have:(m+1)*per=m*per+per:=Nat.succ_mul _ _
     omega
    rw [this,hw]
  ·rw [show List.filter (fun s=>decide (σ.way h s≠0)) [m]=[m]by simp [hw],part_add (n*per) per m (m*per) _ rfl per]
   simp [cardsOf]
theorem flat_srcs{σ:RS}{per n h:Nat}(ok:SOk per n σ):(srcs σ n h).flatMap (cardsOf σ per h)=allOf σ per n h:=flat_all ok n
theorem flat_len(σ:RS)(per h:Nat):∀l:List Nat,(l.flatMap (cardsOf σ per h)).length≤l.length*per
 | []=>by simp
 | a::l=>by
  rw [List.flatMap_cons,List.length_append,List.length_cons,Nat.succ_mul]
  have h1:=flat_len σ per h l
  have h2:(cardsOf σ per h a).length≤per:=part_len _ _ _ _
  omega
theorem srcs_up(σ:RS)(n h:Nat):(ints (srcs σ n h)).Pairwise (·<·):=by
 unfold ints srcs
 refine List.pairwise_map.2 ((List.Pairwise.filter _ List.pairwise_lt_range).imp fun {a b} h=>by omega)
section
variable {w:World}{tg:Tg}{sb kb sB hB fB per n:Nat}{σ:RS}{fk:Value→Option Value}{Vs Vh Vf:Nat→Value}
theorem sorted_src{h:Nat}{V:Value}(hn:n≤1048576)(hi:IxAt w tg 6 n h (fun s=>σ.way h s≠0) V):∃mb,V=.map mb ∧
  ∀(w':World),Fr [] w w'→∀kb,w'.heap.size=kb→Calls Tryz.prog 53 #[.func (.func 105) #[] #[.pointer (some ⟨kb,0,none⟩)]] (w'.alloc (.cells #[.map mb] 97)) fun e w''=>∃(A:Option Addr) (c:Nat) (G:List Nat),
   e=.returned (.slice A (srcs σ n h).length c)∧Lr w'' 3 A (srcs σ n h).length c G (zv (ints (srcs σ n h)))∧Fr [] (w'.alloc (.cells #[.map mb] 97)) w'':=by
 have fin:∀(p:Int→Prop) (w1:World),(∀x,p x↔x∈ints (srcs σ n h))→∀e w'',KeysPost w1 p e w''→∃(A:Option Addr) (c:Nat) (G:List Nat),
   e=.returned (.slice A (srcs σ n h).length c)∧Lr w'' 3 A (srcs σ n h).length c G (zv (ints (srcs σ n h)))∧Fr [] w1 w'':=by
  rintro p w1 hp e w'' ⟨A,c,G,ks,rfl,hl,hu,hm,hf,_⟩
  obtain rfl:ks=ints (srcs σ n h):=up_ext hu (srcs_up _ _ _) fun x=>(hm x).trans (hp x)
  rw [ints_len]at hl ⊢
  exact⟨A,c,G,rfl,hl,hf⟩
 have hmem:∀x:Int,x∈ints (srcs σ n h)↔∃s:Nat,x=s∧s<n∧σ.way h s≠0:=fun x=>by
  unfold ints
  rw [List.mem_map]
  constructor
  ·rintro⟨s,hs,rfl⟩
   exact⟨s,rfl,srcs_mem.1 hs⟩
  ·rintro⟨s,rfl,hs⟩
   exact⟨s,srcs_mem.2 hs,rfl⟩
 rcases hi with⟨rfl,hno⟩ | ⟨b,f,rfl,hmp,_,hk,hp⟩
 ·refine⟨none,rfl,fun w' hf kb hkb=>(sortedI_nil hkb rfl).mono (fin _ _ fun x=>?_)⟩
  rw [hmem]
  constructor
  ·intro h;cases h
  ·rintro⟨s,_,h1,h2⟩
   exact hno s h1 h2
 ·refine⟨some b,rfl,fun w' hf kb hkb=>(sortedI_any (hmp.fr0 hf) hn hk hkb rfl).mono (fin _ _ fun x=>?_)⟩
  rw [hmem]
  constructor
  ·intro hx
   obtain⟨v,hv⟩:=Option.ne_none_iff_exists'.1 hx
   obtain⟨s,h1,h2⟩:=hk _ _ hv
   cases h2
   exact⟨s,rfl,h1,(hp s h1).1 hx⟩
  ·rintro⟨s,rfl,h1,h2⟩
   exact(hp s h1).2 h2
set_option maxRecDepth 100000 in
set_option maxHeartbeats 3200000 in
theorem rcards_ok(H:Rs w tg sb kb sB hB fB per n σ fk Vs Vh Vf)(hT:Tab w){h:Nat}(hh:h<n):Calls Tryz.prog 17 #[.pointer (some ⟨sb,0,none⟩),.int .i64 (h:Int)] w (ListPost w [] (allOf σ per n h)):=by
 have HC:=hide (isRegion_any H.st H.ok.dim (h:Int))
 rw [decide_eq_true (show 0≤(h:Int)∧(h:Int)<(n:Int)by omega)]at HC
 have hd:=H.ok.dim
 have hn:=hd.n2
 obtain⟨mb,hV,hS⟩:=sorted_src (σ:=σ) (n:=n) (h:=h) (by omega) (H.src.own h hh)
 have c3:=H.st.c3
 have hr1:(h:Int)<(n:Int):=by omega
 have cr:w.cell? ⟨sB,h,none⟩=some (.map mb):=by rw [H.src.row.cell,rowF_at hh,hV]
 have HH:=hide H
 have HT:=hide hT
 have HSo:=hide hS
 have hsl:=srcs_len σ n h
 have HSl:=hide hsl
 have HFlat:Hid ((srcs σ n h).flatMap (cardsOf σ per h)=allOf σ per n h):=flat_srcs H.ok
 have HW:Hid (∀k,k<(srcs σ n h).length→(srcs σ n h).getD k 0<n∧σ.way h ((srcs σ n h).getD k 0)≠0):=fun k hk=>by
  have:=List.getElem_mem hk
  rw [srcs_mem]at this
  simpa [hk] using this
 have HNP:Hid (n*per≤4194304∧per≤4194304∧1≤per):=⟨hd.p2,hd.p3,hd.p1⟩
 have hsb:=Nat.le_trans hsl hn
 clear H hT hS hV hd hsl
 generalize srcs σ n h=ss at *
 go_enter Tryz.func17,Tryz.ntmps17
 go_wp2_with (first | (go_at_call 46;refine HC.out.mono ?_;rintro e w' ⟨rfl,rfl⟩) | (go_at_call 54;refine(keysI_any mb _).mono ?_;rintro e w' ⟨rfl,rfl⟩) | (go_at_call 53;refine(HSo.out _ (Fr.refl _ _) _ rfl).mono ?_;rintro e w2 ⟨A2,c2,G2,rfl,hl2,hf2⟩;have HL2:=hide hl2;have HF2:Hid (Fr [] w w2):=((Fr.refl _ _).alloc _).trans_same hf2;clear hl2 hf2))
 have HG2:=hide HL2.out.lt
 go_loopw [5,26] (fun v i wr=>∃(k:Nat) (A:Option Addr) (c:Nat) (G:List Nat),i=.int .i64 k∧k≤ss.length∧v=.slice A ((ss.take k).flatMap (cardsOf σ per h)).length c∧Lr wr 3 A ((ss.take k).flatMap (cardsOf σ per h)).length c G (zv ((ss.take k).flatMap (cardsOf σ per h)))∧Fr [] w2 wr∧∀g,g∈G→w2.heap.size≤g) (fun _ i _=>ss.length-(intOf i).toNat)
 case atStart=>exact⟨0,none,0,[],rfl,Nat.zero_le _,rfl,Lr.nil _ _,Fr.refl _ _,fun g hg=>by cases hg⟩
 case round=>
  obtain⟨k,A,c,G,rfl,hk,rfl,hl,hf,hg⟩:=hrel
  have HLx:=hide hl
  have HFx:=hide hf
  have HGx:=hide hg
  clear hl hf hg
  by_cases hlt:k<ss.length
  ·have hlt1:(k:Int)<(ss.length:Int):=by omega
   obtain⟨hs,hw⟩:=HW.out k hlt
   obtain⟨g,off,rfl,hgG,hgl,hcell⟩:∃g off,A2=some ⟨g,off,none⟩∧G2=[g]∧g<w2.heap.size∧∀k,k<ss.length→w2.cell? ⟨g,off+k,none⟩=(zv (ints ss))[k]?:=by
    obtain⟨g,off,h1,h2,h3,h4,_⟩:=HL2.out.pos (by omega)
    exact⟨g,off,h1,h2,h3,h4⟩
   have hz:(zv (ints ss))[k]?=some (.int .i64 ((ss.getD k 0:Nat):Int)):=by
    rw [zv_get _ (by rw [ints_len];exact hlt)]
    unfold ints
    simp [hlt]
   have hck:=(HFx.out.cell (p:=⟨g,off+k,none⟩) hgl (by simp)).trans ((hcell k hlt).trans hz)
   have hlen:((ss.take k).flatMap (cardsOf σ per h)).length+per≤16777216:=by
    have h1:=flat_len σ per h (ss.take k)
    have h2:(ss.take k).length*per≤n*per:=Nat.mul_le_mul_right _ (by rw [List.length_take];have:=HSl.out;omega)
    have:=HNP.out
    omega
   have htk:ss.take (k+1)=ss.take k++[ss.getD k 0]:=by
    rw [List.take_add_one,List.getElem?_eq_getElem hlt]
    simp [hlt]
   have HE:Hid ((ss.take (k+1)).flatMap (cardsOf σ per h)=(ss.take k).flatMap (cardsOf σ per h)++cardsOf σ per h (ss.getD k 0)):=by
    show _=_
    rw [htk,List.flatMap_append]
    simp
   have HX:=hide (slist_any (HH.out.fr0 ((HF2.out.trans_same HFx.out))) ((HT.out.fr HF2.out (by simp)).fr HFx.out (by simp)) hh hs hw HLx.out
    (fun g hg=>by
     rcases Nat.eq_zero_or_pos (tg g).1 with h0 | h0
     ·exact h0
     ·have h1:=HH.out.tok g (by omega)
      have h2:=HGx.out g hg
      have h3:=HF2.out.size
      omega)
    (fun hg=>by
     have h1:=HGx.out _ hg
     have h2:=HT.out.lt
     have h3:=HF2.out.size
     omega) hlen)
   rw [← HE.out]at HX
   clear hlen htk hz hcell hw
   generalize ss.getD k 0=s at *
   generalize hxs:(ss.take k).flatMap (cardsOf σ per h)=xs at *
   generalize hln:xs.length=ln at *
   generalize hys:(ss.take (k+1)).flatMap (cardsOf σ per h)=ys at *
   generalize hyn:ys.length=yn at *
   have HYs:=hide hys
   have HYn:=hide hyn
   clear hys hyn
   have HXs:=hide hxs
   have HLn:=hide hln
   clear hxs hln
   go_wp2_with (first | (go_at_call 55;refine HX.out.mono ?_;rintro e w4 ⟨A4,c4,G4,rfl,hl4,hf4,hg4⟩;have HL4:=hide hl4;have HF4:=hide hf4;have HG4:=hide hg4;clear hl4 hf4 hg4))
   go_roundw
   case rel=>exact⟨k+1,A4,c4,G4,by go_num,by omega,by rw [HYs.out,HYn.out],by rw [HYs.out];exact HL4.out,HFx.out.trans HF4.out (fun x hx=>.inr (HGx.out x hx)),fun g hg=>by
    rcases HG4.out g hg with h | h
    ·exact HGx.out g h
    ·have:=HFx.out.size;omega⟩
   case measure=>simp [intOf];omega
  ·have hlt1:¬ (k:Int)<(ss.length:Int):=by omega
   obtain rfl:k=ss.length:=by omega
   have hE:(ss.take ss.length).flatMap (cardsOf σ per h)=allOf σ per n h:=by rw [List.take_length];exact HFlat.out
   rw [hE]at HLx ⊢
   go_wp2_with fail
   go_ret
   exact⟨A,c,G,rfl,HLx.out,HF2.out.trans_same HFx.out,fun g hg=>by have h1:=HGx.out g hg;have h2:=HF2.out.size;exact .inr (by omega)⟩
end
def SAt(w:World)(tg:Tg)(sb per n:Nat)(σ:RS):Prop:=∃kb sB hB fB fk Vs Vh Vf,Rs w tg sb kb sB hB fB per n σ fk Vs Vh Vf
def Old(B:Nat)(tg:Tg):Prop:=∀b,b<B→(tg b).1=0
def Upd(w:World)(tg:Tg)(sb per n:Nat)(v:Value)(σ:RS)(e:Ending)(w':World):Prop:=
 ∃tg' F,e=.returned v∧SAt w' tg' sb per n σ∧Fr F w w'∧(∀b,b∈F→(tg b).1≠0)∧TgUp w tg tg'
section
variable {w w':World}{tg tg':Tg}{F:List Nat}{sb per n B:Nat}{σ:RS}
theorem SAt.fr(h:SAt w tg sb per n σ)(hf:Fr F w w')(hF:∀b,b∈F→(tg b).1=0):SAt w' tg sb per n σ:=by
 obtain⟨kb,sB,hB,fB,fk,Vs,Vh,Vf,h⟩:=h
 exact⟨kb,sB,hB,fB,fk,Vs,Vh,Vf,h.fr hf hF⟩
theorem SAt.fr0(h:SAt w tg sb per n σ)(hf:Fr [] w w'):SAt w' tg sb per n σ:=h.fr hf (fun _ h=>by cases h)
theorem SAt.ok(h:SAt w tg sb per n σ):SOk per n σ:=by
 obtain⟨kb,sB,hB,fB,fk,Vs,Vh,Vf,h⟩:=h
 exact h.ok
theorem SAt.tok(h:SAt w tg sb per n σ):TgOk w tg:=by
 obtain⟨kb,sB,hB,fB,fk,Vs,Vh,Vf,h⟩:=h
 exact h.tok
theorem SAt.add(h:SAt w tg sb per n σ)(a c:Int):Calls Tryz.prog 89 #[.pointer (some ⟨sb,0,none⟩),.int .i64 a,.int .i64 c] w (Upd w tg sb per n (.tuple #[.bool (addR σ per n a c).1,.int .i64 (addR σ per n a c).2.1]) (addR σ per n a c).2.2):=by
 obtain⟨kb,sB,hB,fB,fk,Vs,Vh,Vf,h⟩:=h
 refine(radd_any h a c).mono ?_
 rintro e w' ⟨tg',fk',Vs',Vh',Vf',F,rfl,h1,h2,h3,h4⟩
 exact⟨tg',F,rfl,⟨_,_,_,_,_,_,_,_,h1⟩,h2,h3,h4⟩
theorem SAt.has(h:SAt w tg sb per n σ)(a c:Int)(wa:(Lit.int .i64 a).wf=true):Calls Tryz.prog 28 #[.pointer (some ⟨sb,0,none⟩),.int .i64 a,.int .i64 c] w fun e w'=>e=.returned (.bool (hasI σ per n a c))∧Fr [] w w':=by
 obtain⟨kb,sB,hB,fB,fk,Vs,Vh,Vf,h⟩:=h
 exact rhas_any h a c wa
theorem SAt.cards(h:SAt w tg sb per n σ)(hT:Tab w){a:Nat}(ha:a<n):Calls Tryz.prog 17 #[.pointer (some ⟨sb,0,none⟩),.int .i64 (a:Int)] w (ListPost w [] (allOf σ per n a)):=by
 obtain⟨kb,sB,hB,fB,fk,Vs,Vh,Vf,h⟩:=h
 exact rcards_ok h hT ha
theorem SAt.clear(h:SAt w tg sb per n σ){a:Nat}(ha:a<n):Calls Tryz.prog 10 #[.pointer (some ⟨sb,0,none⟩),.int .i64 (a:Int)] w (Upd w tg sb per n (.int .i64 0) (σ.clear a)):=by
 obtain⟨kb,sB,hB,fB,fk,Vs,Vh,Vf,h⟩:=h
 refine(clear_any h ha).mono ?_
 rintro e w' ⟨fk',Vf',F,rfl,h1,h2,h3⟩
 exact⟨tg,F,rfl,⟨_,_,_,_,_,_,_,_,h1⟩,h2,h3,TgUp.refl _ _⟩
theorem Old.up(h:Old B tg)(hB:B≤w.heap.size)(hu:TgUp w tg tg'):Old B tg':=fun b hb=>by rw [hu b (by omega)];exact h b hb
theorem Old.out(h:Old B tg)(hF:∀b,b∈F→(tg b).1≠0):∀b,b∈F→B≤b:=fun b hb=>by
 rcases Nat.lt_or_ge b B with h1 | h1
 ·exact absurd (h b h1) (hF b hb)
 ·exact h1
end
def OwnS(W w:World)(sb per n:Nat)(σ:RS):Prop:=Fr [] W w∧∃tg,SAt w tg sb per n σ∧Old W.heap.size tg
section
variable {W w w':World}{sb per n:Nat}{σ σ':RS}{v:Value}{e:Ending}
theorem OwnS.fr0(h:OwnS W w sb per n σ)(hf:Fr [] w w'):OwnS W w' sb per n σ:=⟨h.1.trans_same hf,by obtain⟨tg,h1,h2⟩:=h.2;exact⟨tg,h1.fr0 hf,h2⟩⟩
theorem OwnS.upd{P:Program}{f:FuncId}{args:Array Value}(h:OwnS W w sb per n σ)(hc:∀tg,SAt w tg sb per n σ→Calls P f args w (Upd w tg sb per n v σ')):Calls P f args w fun e w'=>e=.returned v∧OwnS W w' sb per n σ':=by
 obtain⟨h1,tg,h2,h3⟩:=h
 refine(hc tg h2).mono ?_
 rintro e w' ⟨tg',F,rfl,k1,k2,k3,k4⟩
 exact⟨rfl,h1.trans k2 (fun x hx=>.inr (h3.out k3 x hx)),tg',k1,h3.up h1.size k4⟩
end
def smallG:Geo:=⟨512,64,8,8,64,448⟩
def tau(k:Nat):RS:=⟨fun a b=>if a=0∧b=1 then (if k≤8 then 0 else if k≤12 then 1 else 2) else 0,fun a c=>decide (a=0∧8≤c∧c<k)⟩
end Go.Proofs.YteacgfeiedcdiaaGreatDoor
