/- Several texts joined (pack.py): Vyd Vye Vyf Vyg Vyi. -/
import Derived.Test.YteacgfeiedcdiaaGreatDoorPW37
import Derived.Test.YteacgfeiedcdiaaGreatDoorPW30
import Derived.Test.YteacgfeiedcdiaaGreatDoorPW02
namespace Go.Proofs.YteacgfeiedcdiaaGreatDoor
set_option linter.unusedVariables false
set_option linter.unusedSimpArgs false
set_option maxRecDepth 100000
open Go.RowKit Go.Gl
def LsP(W:World)(I:World→Prop)(w:World)(L:HL)(h:HS)(s k mb:Nat)(t:Int→Bool)(G:List Nat)(l:List Int)(e:Ending)(w':World):Prop:=
 ∃A' c' G',e=.returned (.slice A' l.length c')∧LsAt W I w' L h s k mb t l A' c' G'∧(∀g,g∈G'→g∈G∨w.heap.size≤g)∧∃F,Fr F w w'∧∀x,x∈F→x=L.ab∨x∈G∨w.heap.size≤x
section
variable {sb per:Nat}{σ:RS}{I:World→Prop}{W w w':World}{L:HL}{h:HS}{s k mb:Nat}{t:Int→Bool}{acc:List Int}{A:Option Addr}{c:Nat}{G:List Nat}
set_option maxHeartbeats 6400000 in
theorem hlost_list(H0:Hr W L h s k)(LI:LsI L h W.heap.size sb per σ I)(a0:LsAt W I w L h s k mb t acc A c G)(hacc:acc.length≤1099511627776)(a:Int) :
  Calls Tryz.prog 64 #[.pointer (some ⟨L.hb,0,none⟩),.slice A acc.length c,.int .i64 a,.map (some mb)] w (LsP W I w L h s k mb t G (acc++h.lostAt σ per t a)):=by
 obtain⟨i0,hi,hz0,hz1,hz2⟩:=info_parts Tryz.info_int
 have HOK:=hide H0.ok
 have HI:=hide LI
 have HA0:=hide a0
 have HPF:Hid (∃c9,Ar w L.ab L.aw h.n h.f c9∧Calls Tryz.prog 120 #[.pointer (some ⟨L.ab,0,none⟩),.int .i64 a] w (ListAns w L.ab L.aw h.n h.f (fieldsL h.n h.f a) (fieldsE h.n h.f a))):=by
  obtain⟨c9,h9⟩:=a0.hr.ar
  exact⟨c9,h9,pfields_any h9 a⟩
 obtain⟨c9,h9,hpf⟩:=HPF.out
 have HP:=hide hpf
 have HH:=hide H0
 have cA:=a0.hr.cA
 have HLA:Hid (h.lostAt σ per t a=(fieldsL h.n h.f a).filter fun x=>t (h.homeAt x)&&!hasI σ per h.R (h.homeAt x) (h.g.cardOf x)):=rfl
 have HFM:Hid (∀m,m<(fieldsL h.n h.f a).length→∃i:Nat,(fieldsL h.n h.f a).getD m 0=(i:Int)∧i<h.n):=fun m hm=>fields_mem HOK.out (a:=a) (by simp [hm])
 have hFL:=fields_len (h:=h) a
 unfold ListAns at HP
 generalize h.lostAt σ per t a=lo at *
 generalize fieldsL h.n h.f a=fl at *
 generalize fieldsE h.n h.f a=fe at *
 have HWS:Hid (L.ab<w.heap.size∧mb<w.heap.size):=⟨h9.set.lt,a0.kn.lt⟩
 clear hpf h9 a0 LI H0 HPF
 obtain⟨n,hn⟩:∃n,n=fl.length:=⟨_,rfl⟩
 have HN:=hide hn
 rw [← hn]at HP hFL
 clear hn
 go_enter Tryz.func64,Tryz.ntmps64
 go_wp2_with (go_at_call 120;refine HP.out.mono ?_;rintro e w1 ⟨A1,cap1,c1,rfl,ho1,ha1,hf1⟩;have HO1:=hide ho1;have HF1:=hide hf1;have HA1:=hide (HA0.out.look HI.out (HA0.out.hr.fr1 hf1 ⟨_,ha1⟩) hf1);clear ho1 ha1 hf1)
 go_loopw [1,27] (fun v i wr=>∃m:Nat,∃A c G',i=.int .i64 m∧m≤n∧v=.slice A (acc++(fl.take m).filter fun x=>t (h.homeAt x)&&!hasI σ per h.R (h.homeAt x) (h.g.cardOf x)).length c∧LsAt W I wr L h s k mb t (acc++(fl.take m).filter fun x=>t (h.homeAt x)&&!hasI σ per h.R (h.homeAt x) (h.g.cardOf x)) A c G'∧(∀g,g∈G'→g∈G∨w1.heap.size≤g)∧∃F,Fr F w1 wr∧∀x,x∈F→x=L.ab∨x∈G∨w1.heap.size≤x) (fun _ i _=>n-(intOf i).toNat)
 case atStart=>exact⟨0,A,c,G,rfl,Nat.zero_le _,by simp,by rw [List.take_zero,List.filter_nil,List.append_nil];exact HA1.out,fun g hg=>.inl hg,[],Fr.refl _ _,fun x hx=>by cases hx⟩
 case round=>
  obtain⟨m,Ar0,cr,G2,rfl,hm,rfl,ho2,hg2,hk2⟩:=hrel
  obtain⟨wo,hwo⟩:∃wo,wo=wr:=⟨_,rfl⟩
  subst hwo
  have HO2:=hide ho2
  have HG2:=hide hg2
  have HK2:=hide hk2
  clear ho2 hg2 hk2
  by_cases hlt:m<n
  ·have hlt1:(m:Int)<(n:Int):=by omega
   have hml:m<fl.length:=by have:=HN.out;omega
   obtain⟨i,hgi,hin⟩:=HFM.out m hml
   obtain⟨b,off,rfl,hb0,hb1,hcl⟩:=HO1.out (by omega)
   have x0:wo.cell? ⟨b,off+m,none⟩=some (.int .i64 (i:Int)):=by
    obtain⟨F,k1,k2⟩:=HK2.out
    rw [k1.cell (p:=⟨b,off+m,none⟩) hb1 (fun hx=>?_),hcl m hml,hgi]
    have q1:=HWS.out
    rcases k2 _ hx with e | e | e
    ·simp at e;omega
    ·have:=HA0.out.lr.lt b e;omega
    ·simp at e;omega
   have HTK:Hid ((fl.take (m+1)).filter (fun x=>t (h.homeAt x)&&!hasI σ per h.R (h.homeAt x) (h.g.cardOf x))=(fl.take m).filter (fun x=>t (h.homeAt x)&&!hasI σ per h.R (h.homeAt x) (h.g.cardOf x))++(if (t (h.homeAt (i:Int))&&!hasI σ per h.R (h.homeAt (i:Int)) (h.g.cardOf (i:Int)))=true then [(i:Int)] else [])):=by
    show _=_
    rw [take_getD hml,hgi,List.filter_append]
    congr 1
    simp only [List.filter_cons,List.filter_nil]
   have hme:h.homeAt (i:Int)=h.g.regionOf (adr (h.f i:Int)):=by unfold HS.homeAt;rw [Int.toNat_natCast]
   have HRG:Hid (∀w' w'',Hr w' L h s k→Fr [] w' w''→Calls Tryz.prog 14 #[.agg #[.int .i64 h.g.words,.int .i64 h.g.rw,.int .i64 h.g.cw,.int .i64 h.g.regions,.int .i64 h.g.cards,.int .i64 h.g.max],.int .i64 (adr (h.f i:Int))] w'' fun e w3=>e=.returned (.int .i64 (h.homeAt (i:Int)))∧Fr [] w'' w3):=fun w' w'' h' hf=>by rw [hme];exact h'.region _ hf
   have HWD:Hid (∀w',Hr w' L h s k→Calls Tryz.prog 122 #[.pointer (some ⟨L.hb,0,none⟩),.int .i64 (i:Int)] w' (HrP w' L h s k (.int .u64 (h.f i:Int)))):=fun w' h'=>hword_at h' hin
   unfold HrP at HWD
   have HAD:=hide (fun w'=>haddr_any (h.f i:Int) w')
   have HFK:Hid (∀wz,Fr [L.ab] wo wz→∃F,Fr F w1 wz∧∀x,x∈F→x=L.ab∨x∈G∨w1.heap.size≤x):=fun wz hz=>by
    obtain⟨F,k1,k2⟩:=HK2.out
    exact⟨L.ab::F,(k1.mono (fun x hx=>by simp [hx])).trans_same (hz.mono (fun x hx=>by simp at hx;simp [hx])),fun x hx=>by
     rcases List.mem_cons.1 hx with e | e
     ·exact .inl e
     ·exact k2 x e⟩
   obtain⟨g0,g1,g2,g3,g4,g5⟩:=HO2.out.hr.geo
   have hwx:(Lit.int .i64 (h.homeAt (i:Int))).wf=true:=by
    refine wf_i64_of ?_
    rw [hme]
    have q1:=HOK.out.geo.wmax
    unfold Geo.regionOf
    split
    ·rename_i hc
     have e1:=Int.ediv_le_self h.g.rw hc.1
     have e2:=Int.ediv_nonneg hc.1 (show 0≤h.g.rw by rw [HOK.out.rw];omega)
     generalize adr (h.f i:Int) / h.g.rw=z at *
     omega
    ·omega
   have HWX:=hide hwx
   clear hwx hcl hb0 hme hgi
   obtain⟨ac,hac⟩:∃ac,ac=acc++(fl.take m).filter (fun x=>t (h.homeAt x)&&!hasI σ per h.R (h.homeAt x) (h.g.cardOf x)):=⟨_,rfl⟩
   have HAC:Hid (acc++(fl.take m).filter (fun x=>t (h.homeAt x)&&!hasI σ per h.R (h.homeAt x) (h.g.cardOf x))=ac):=hac.symm
   rw [← hac]at HO2 ⊢
   clear hac
   obtain⟨an,han⟩:∃an,an=ac.length:=⟨_,rfl⟩
   have HAN:=hide han
   rw [← han]
   clear han
   go_wp2_with fail
   go_region_with (first | (go_at_call 122;refine(HWD.out _ (HO2.out.hr.fr0 ((Fr.refl _ _).drew))).mono ?_;rintro e w2 ⟨rfl,hH2,hf2⟩;have HO3:=hide ((HO2.out.look0 HI.out ((Fr.refl _ _).drew)).look HI.out hH2 hf2);obtain⟨e0,e1,e2,e3,e4,e5⟩:=hH2.geo;have HF3:=hide hf2;clear hH2 hf2) | (go_at_call 121;refine(HAD.out _).mono ?_;rintro e w' ⟨rfl,rfl⟩) | (go_at_call 14;refine(HRG.out _ _ HO3.out.hr (Fr.refl _ _)).mono ?_;rintro e w3 ⟨rfl,hf3⟩;have HO4:=hide (HO3.out.look0 HI.out hf3);have HF4:=hide hf3;clear hf3))
   all_goals
    have HFZ:Hid (Fr [L.ab] wo w3):=(((Fr.refl [L.ab] wo).drew).trans_same HF3.out).trans_nil HF4.out
    have hlook:=HO4.out.kn.look HWX.out
    clear g0 g1 g2 g3 g4 g5 e0 e1 e2 e3 e4 e5 x0
    by_cases ht:t (h.homeAt (i:Int))=true
    ·rw [ht]at hlook
     rw [ht,Bool.true_and]at HTK
     clear ht
     go_wp2_with fail
     generalize hw5:w3.alloc (.cells #[] 113)=w5
     have HF5:Hid (Fr [] w3 w5):=hw5 ▸ (Fr.refl _ _).alloc _
     clear hw5
     have HO5:=hide (HO4.out.look0 HI.out HF5.out)
     have HH2:=hide HO5.out.hr
     have HVS:=hide HI.out.vs
     have S2:Hid (Stable (Fr [] w5)):=fun a b h1 h2=>h1.trans_same h2
     have g0:∀u:Cls (Fr [] w5),u.w.cell? ⟨L.hb,14,none⟩=some (.int .i64 h.g.words):=fun u=>u.cell HH2.out.geo.1 (by simp)
     have g1:∀u:Cls (Fr [] w5),u.w.cell? ⟨L.hb,15,none⟩=some (.int .i64 h.g.rw):=fun u=>u.cell HH2.out.geo.2.1 (by simp)
     have g2:∀u:Cls (Fr [] w5),u.w.cell? ⟨L.hb,16,none⟩=some (.int .i64 h.g.cw):=fun u=>u.cell HH2.out.geo.2.2.1 (by simp)
     have g3:∀u:Cls (Fr [] w5),u.w.cell? ⟨L.hb,17,none⟩=some (.int .i64 h.g.regions):=fun u=>u.cell HH2.out.geo.2.2.2.1 (by simp)
     have g4:∀u:Cls (Fr [] w5),u.w.cell? ⟨L.hb,18,none⟩=some (.int .i64 h.g.cards):=fun u=>u.cell HH2.out.geo.2.2.2.2.1 (by simp)
     have g5:∀u:Cls (Fr [] w5),u.w.cell? ⟨L.hb,19,none⟩=some (.int .i64 h.g.max):=fun u=>u.cell HH2.out.geo.2.2.2.2.2 (by simp)
     have g6:∀u:Cls (Fr [] w5),u.w.cell? ⟨L.hb,25,none⟩=some (.pointer (some ⟨sb,0,none⟩)):=fun u=>u.cell (by rw [← HVS.out];exact HH2.out.st.cell 25) (by simp)
     have HCD:Hid (∀u:Cls (Fr [] w5),Calls Tryz.prog 15 #[.agg #[.int .i64 h.g.words,.int .i64 h.g.rw,.int .i64 h.g.cw,.int .i64 h.g.regions,.int .i64 h.g.cards,.int .i64 h.g.max],.int .i64 (i:Int)] u.w fun e w3=>e=.returned (.int .i64 (h.g.cardOf (i:Int)))∧∃u':Cls (Fr [] w5),w3=u'.w):=fun u=>Cls.grow (HH2.out.card (i:Int) u.ok)
     have HHS:Hid (∀u:Cls (Fr [] w5),Calls Tryz.prog 28 #[.pointer (some ⟨sb,0,none⟩),.int .i64 (h.homeAt (i:Int)),.int .i64 (h.g.cardOf (i:Int))] u.w fun e w3=>e=.returned (.bool (hasI σ per h.R (h.homeAt (i:Int)) (h.g.cardOf (i:Int))))∧∃u':Cls (Fr [] w5),w3=u'.w):=fun u=>Cls.grow (HI.out.has _ (HO5.out.look0 HI.out u.ok).inv _ _ HWX.out)
     generalize hasI σ per h.R (h.homeAt (i:Int)) (h.g.cardOf (i:Int))=hs at *
     refine wp_region_cls (Fr [] w5) (by kernel_rfl) (by kernel_rfl) (Cls.drew S2.out ⟨w5,Fr.refl _ _⟩) ?_
     repeat (go_big_quiet_step (first | (go_at_call 15;exact HCD.out _) | (go_at_call 28;exact HHS.out _)))
     refine wpQuiet_nil ?_
     rintro _ ⟨u1,rfl⟩
     have HO6:=hide (HO5.out.look0 HI.out u1.ok)
     have HF6:=hide (HFK.out _ ((HFZ.out.trans_nil HF5.out).trans_nil u1.ok))
     clear HCD HHS g0 g1 g2 g3 g4 g5 g6
     have HO1Z:=HK2.out
     cases hs
     ·rw [if_pos (by simp)]at HTK
      have HLA:Hid (Lr (u1.w.alloc (.cells #[.int .i64 (i:Int)] 3)) 3 Ar0 an cr G2 (zv ac)):=by
       show Lr _ _ _ _ _ _ _
       have:=HO6.out.lr
       rw [← HAN.out]at this
       exact this.alloc _
      have HNB:Hid (an+1≤maxLen∧(an+1)*8≤140737488355328):=by
       show _∧_
       have h2:ac.length≤acc.length+fl.length:=by
        rw [← HAC.out,List.length_append]
        exact Nat.add_le_add_left (Nat.le_trans (List.length_filter_le _ _) (by rw [List.length_take];exact Nat.min_le_right _ _)) _
       have h3:=HN.out
       rw [← HAN.out]at h2
       unfold maxLen
       omega
      go_wp2_with (at_builtin;refine wpList_append_lr rfl _ _ 31 rfl 3 i0 (.int .i64 0) 8 Tryz.underlying31 hi hz0 hz1 hz2 rfl rfl HLA.out rfl (by rfl) (fun _=>one_of u1.w (.int .i64 (i:Int)) 3 rfl _ (Fr.refl _ _)) (by intro u hu;simp at hu;subst hu;rfl) HNB.out.1 HNB.out.2 ?_;intro A' c' G' w7 HLn HFn HGn)
      go_roundw
      case rel=>
       obtain⟨F,k1,k2⟩:=HF6.out
       have HX:Hid (∀g,g∈G'→g∈G∨w1.heap.size≤g):=fun g hg=>by
        rcases HGn.out g hg with e | e
        ·exact HG2.out g e
        ·have:=k1.size
         refine .inr ?_
         rw [e.1]
         simp
         omega
       exact⟨m+1,A',c',G',by go_num,by omega,by rw [HTK.out,← List.append_assoc,HAC.out,List.length_append,← HAN.out];rfl,by rw [HTK.out,← List.append_assoc,HAC.out];exact LsAt.app HH.out HI.out (HO6.out.look0 HI.out ((Fr.refl [] u1.w).alloc (.cells #[.int .i64 (i:Int)] 3))) (by rw [← HAN.out];exact HLn.out) HFn.out (fun g hg=>(HGn.out g hg).imp id (fun x=>by rw [x.1];exact Nat.le_refl _)),HX.out,F++G2,Fr_union (k1.trans_nil ((Fr.refl [] u1.w).alloc (.cells #[.int .i64 (i:Int)] 3))) HFn.out,fun x hx=>by
        rcases List.mem_append.1 hx with e | e
        ·exact k2 x e
        ·exact .inr (HG2.out x e)⟩
      case measure=>simp [intOf];omega
     ·rw [if_neg (by simp),List.append_nil]at HTK
      go_wp2_with fail
      go_roundw
      case rel=>exact⟨m+1,Ar0,cr,G2,by go_num,by omega,by rw [HTK.out,HAC.out,HAN.out],by rw [HTK.out,HAC.out];exact HO6.out,HG2.out,HF6.out⟩
      case measure=>simp [intOf];omega
    ·have ht':t (h.homeAt (i:Int))=false:=by simpa using ht
     rw [ht']at hlook
     rw [ht',Bool.false_and,if_neg (by simp),List.append_nil]at HTK
     clear ht ht'
     have HF7:=hide (HFZ.out.trans_nil ((Fr.refl [] w3).alloc (.cells #[] 113)))
     have HO5:=hide (HO4.out.look0 HI.out ((Fr.refl [] w3).alloc (.cells #[] 113)))
     go_wp2_with fail
     generalize w3.alloc (.cells #[] 113)=w5 at *
     refine wp_region_cls (Fr [] w5) (by kernel_rfl) (by kernel_rfl) (Cls.drew (fun a b h1 h2=>h1.trans_same h2) ⟨w5,Fr.refl _ _⟩) ?_
     repeat (go_big_quiet_step (fail))
     refine wpQuiet_nil ?_
     rintro _ ⟨u1,rfl⟩
     have HO6:=hide (HO5.out.look0 HI.out u1.ok)
     have HF6:=hide (HFK.out _ (HF7.out.trans_nil u1.ok))
     go_wp2_with fail
     go_roundw
     case rel=>exact⟨m+1,Ar0,cr,G2,by go_num,by omega,by rw [HTK.out,HAC.out,HAN.out],by rw [HTK.out,HAC.out];exact HO6.out,HG2.out,HF6.out⟩
     case measure=>simp [intOf];omega
  ·obtain rfl:m=n:=by omega
   have HTL:Hid (acc++(fl.take m).filter (fun x=>t (h.homeAt x)&&!hasI σ per h.R (h.homeAt x) (h.g.cardOf x))=acc++lo):=by show _=_;rw [HLA.out,List.take_of_length_le];have:=HN.out;omega
   rw [HTL.out]at HO2
   rw [HTL.out]
   obtain⟨F,k1,k2⟩:=HK2.out
   have HFF:Hid (∃F,Fr F w wo∧∀x,x∈F→x=L.ab∨x∈G∨w.heap.size≤x):=⟨L.ab::F,(HF1.out.mono (fun x hx=>by simp at hx;simp [hx])).trans_same (k1.mono (fun x hx=>by simp [hx])),fun x hx=>by
    rcases List.mem_cons.1 hx with e | e
    ·exact .inl e
    ·rcases k2 x e with e | e | e
     ·exact .inl e
     ·exact .inr (.inl e)
     ·exact .inr (.inr (Nat.le_trans HF1.out.size e))⟩
   generalize acc++lo=z at *
   obtain⟨zn,hzn⟩:∃zn,zn=z.length:=⟨_,rfl⟩
   have HZ:=hide hzn
   rw [← hzn]
   clear hzn
   go_wp2_with fail
   go_ret
   exact⟨Ar0,cr,G2,by rw [HZ.out];rfl,HO2.out,fun g hg=>(HG2.out g hg).imp id (fun e=>Nat.le_trans HF1.out.size e),HFF.out⟩
end
theorem fields_le{n:Nat}{f:Nat→Nat}{a:Nat}(ha:a<n)(h1:1≤(Hd.of ((f a:Nat):Int)).size):(fieldsL n f (a:Int)).length≤(Hd.of ((f a:Nat):Int)).size.toNat:=by
 unfold fieldsL
 split
 ·rename_i hc
  obtain⟨c1,c2⟩:=hc
  have e1:=(at_in (f:=f) ha).1
  rcases at_out n f (a:Int)with⟨h1,_⟩ | ⟨h1,_⟩ | ⟨h1,h2,h3,h4⟩
  ·omega
  ·omega
  ·have:=h4.ways
   rw [refs_len]
   rw [e1]at this ⊢
   omega
 ·simp
theorem strF_fields{n:Nat}{f:Nat→Nat}{b:Nat}(hb:b≤n):∀ {k a:Nat} {l:List Int},strF f b k a=some l→(l.flatMap (fieldsL n f)).length≤b-a:=by
 intro k
 induction k with
 | zero=>
  intro a l h
  by_cases hab:a<b
  ·simp [strF,hab]at h
  ·rw [rowF_end hab]at h;injection h with h;subst h;simp
 | succ k ih=>
  intro a l h
  by_cases hab:a<b
  ·by_cases hs:StepOk f a b
   ·simp only [strF,if_pos hab,if_pos hs]at h
    cases hr:strF f b k (a+(Hd.of (f a)).size.toNat)with
    | none=>rw [hr]at h;cases h
    | some l'=>
     rw [hr]at h
     injection h with h
     subst h
     have h1:=ih hr
     have h2:=hs.2
     rw [List.flatMap_cons,List.length_append]
     by_cases h0:1≤(Hd.of ((f a:Nat):Int)).size
     ·have h3:=fields_le (f:=f) (show a<n by omega) h0
      omega
     ·have h3:(fieldsL n f (a:Int)).length=0:=by
       unfold fieldsL
       split
       ·rename_i hc
        obtain⟨c1,c2⟩:=hc
        have e1:=(at_in (f:=f) (show a<n by omega)).1
        rcases at_out n f (a:Int)with⟨h1,_⟩ | ⟨h1,_⟩ | ⟨h1,h2,h3,h4⟩
        ·omega
        ·omega
        ·have:=h4.ways
         rw [refs_len]
         rw [e1]at this ⊢
         omega
       ·rfl
      omega
   ·rw [rowF_no hab hs]at h;cases h
  ·rw [rowF_end hab]at h;injection h with h;subst h;simp
theorem row_fields{h:HS}{s k:Nat}(ok:h.Ok s k)(a:Int):((h.rowL a).flatMap (fieldsL h.n h.f)).length≤4194304:=by
 have hn:=ok.nmax
 rcases rowE_ways h a with⟨_,_,e⟩ | ⟨r,rfl,hr,⟨_,_,e⟩ | ⟨_,_,e⟩ | ⟨_,_,_,_,_,e⟩⟩
 ·rw [e];simp
 ·rw [e]
  unfold startsL
  by_cases hb:bndE h.n ((r*h.W:Nat):Int) (h.endOf r)=0
  ·rw [if_pos hb]
   cases hr:startsO h.f ((r*h.W:Nat):Int).toNat (h.endOf r).toNat with
   | none=>simp
   | some l=>
    have hb:h.endOf r≤(h.n:Int):=by
     rcases bnd_ways h.n ((r*h.W:Nat):Int) (h.endOf r)with⟨_,_,h1,h2,h3,h4,_⟩ | h1 | h1 | h1 <;> omega
    have:=strF_fields (n:=h.n) (f:=h.f) (b:=(h.endOf r).toNat) (by omega) hr
    show(l.flatMap _).length≤_
    omega
  ·rw [if_neg hb];simp
 ·rw [e]
  split
  ·have:=fields_len (h:=h) ((r*h.W:Nat):Int)
   rw [List.flatMap_cons,List.flatMap_nil,List.append_nil]
   exact Nat.le_trans this (by decide)
  ·simp
 ·rw [e];simp
theorem flat_filter{α:Type}(f g:α→List Int)(hfg:∀a,(f a).length≤(g a).length):∀l:List α,(l.flatMap f).length≤(l.flatMap g).length
 | []=>by simp
 | a::l=>by
  rw [List.flatMap_cons,List.flatMap_cons,List.length_append,List.length_append]
  have:=hfg a
  have:=flat_filter f g hfg l
  omega
theorem flat_take{α:Type}(f:α→List Int)(l:List α)(m:Nat):((l.take m).flatMap f).length≤(l.flatMap f).length:=by
 have e:l.flatMap f=(l.take m).flatMap f++(l.drop m).flatMap f:=by rw [← List.flatMap_append,List.take_append_drop]
 rw [e,List.length_append]
 omega
theorem lostAt_le{h:HS}{s k:Nat}(ok:h.Ok s k)(σ:RS)(per:Nat)(t:Int→Bool)(a:Int)(m:Nat):(((h.rowL a).take m).flatMap (h.lostAt σ per t)).length≤4194304:=by
 have h1:=flat_take (h.lostAt σ per t) (h.rowL a) m
 have h2:=flat_filter (h.lostAt σ per t) (fieldsL h.n h.f) (fun x=>by unfold HS.lostAt;exact List.length_filter_le _ _) (h.rowL a)
 have h3:=row_fields ok a
 omega
theorem lostK_le{h:HS}{s k:Nat}(ok:h.Ok s k)(σ:RS)(per:Nat)(t:Int→Bool)(r:Nat):(h.lostK σ per t r).length≤4194304:=by
 unfold HS.lostK
 split
 ·simp
 ·have:=lostAt_le ok σ per t (r:Int) (h.rowL (r:Int)).length
  rw [List.take_length]at this
  exact this
def LostP(W:World)(I:World→Prop)(L:HL)(h:HS)(s k:Nat)(l:List Int)(e:Ending)(w':World):Prop:=
 ∃A c G,e=.returned (.slice A l.length c)∧Lr w' 3 A l.length c G (zv l)∧(∀g,g∈G→W.heap.size≤g)∧Hr w' L h s k∧Fr [L.ab] W w'∧I w'
section
variable {sb per:Nat}{σ:RS}{I:World→Prop}{w:World}{L:HL}{h:HS}{s k:Nat}
set_option maxHeartbeats 6400000 in
theorem hlost_any(H:Hr w L h s k)(LI:LsI L h w.heap.size sb per σ I)(hI:I w){l:List Int}{A:Option Addr}{c:Nat}(hl:Sl w A l.length (fun m=>.int .i64 (l.getD m 0)))(hll:l.length≤4611686018427387904)(hlw:∀m,m<l.length→(Lit.int .i64 (l.getD m 0)).wf=true)(hab:0<l.length→∀b off,A=some ⟨b,off,none⟩→b≠L.ab) :
  Calls Tryz.prog 27 #[.pointer (some ⟨L.hb,0,none⟩),.slice A l.length c] w (LostP w I L h s k (h.lostL σ per l)):=by
 have HH:=hide H
 have HOK:=hide H.ok
 have HI:=hide LI
 have HI0:=hide hI
 have HC:=hide (hcheck_any H)
 unfold HrP at HC
 have HKeep:Hid (∀a b,I a→Fr [L.ab] a b→I b):=fun a b h1 h2=>LI.keep a b _ h1 h2 (fun x hx=>.inl (by simpa using hx))
 have HT:Hid (∀w1,Hr w1 L h s k→Fr [L.ab] w w1→Calls Tryz.prog 61 #[.pointer (some ⟨L.hb,0,none⟩),.slice A l.length c] w1 (TakP w1 L h s k l)):=fun w1 h1 hf=>htaken_any h1 (fun hp=>by
  obtain⟨b,off,e1,e2,e3⟩:=hl hp
  obtain⟨c9,h9⟩:=H.ar
  refine⟨b,off,e1,Nat.lt_of_lt_of_le e2 hf.size,fun m hm=>?_⟩
  have hz:=e3 m hm
  refine(hf.cell (p:=⟨b,off+m,none⟩) e2 (fun hx=>?_)).trans hz
  simp at hx
  exact hab hp b off e1 hx) hll hlw
 obtain⟨ln,hln⟩:∃ln,ln=l.length:=⟨_,rfl⟩
 rw [← hln]at HT ⊢
 clear hln hl hll hlw hab
 by_cases hS:h.Sound
 ·rw [checkE_ok hS]at HC
  have HLL:Hid (h.lostL σ per l=(List.range h.R).flatMap (h.lostK σ per (h.takF l))):=by show _=_;unfold HS.lostL;rw [if_pos hS]
  obtain⟨t,ht⟩:∃t,t=h.takF l:=⟨_,rfl⟩
  have HTT:=hide ht
  rw [← ht]at HLL
  unfold TakP at HT
  rw [← ht]at HT
  clear ht H LI hI hS
  have hRb:h.R≤65536:=by have:=HOK.out.geo.r65536;have:=HOK.out.rg;omega
  go_enter Tryz.func27,Tryz.ntmps27
  go_wp2_with (go_at_call 60;refine HC.out.mono ?_;rintro e w1 ⟨rfl,hH1,hf1⟩;have HH1:=hide hH1;have HF1:=hide hf1;have HTC:=hide (HT.out w1 hH1 hf1);clear hH1 hf1)
  refine HTC.out.mono ?_
  rintro e w2 ⟨mb,rfl,hk⟩
  have HA0:Hid (LsAt w I w2 L h s k mb t [] none 0 []):=⟨hk.hr,hk.kn,HKeep.out _ _ HI0.out (HF1.out.trans_same hk.fr),Lr.nil _ _,fun g hg=>(by cases hg),HF1.out.trans_same hk.fr⟩
  have g3:w2.cell? ⟨L.hb,17,none⟩=some (.int .i64 (h.R:Int)):=by rw [hk.hr.geo.2.2.2.1,hk.hr.ok.rg]
  clear hk HTC HT HC HH1 HF1
  go_wp2_with fail
  go_loopw [6,26] (fun v i wr=>∃j:Nat,∃A c G,i=.int .i64 j∧j≤h.R∧v=.slice A ((List.range j).flatMap (h.lostK σ per t)).length c∧LsAt w I wr L h s k mb t ((List.range j).flatMap (h.lostK σ per t)) A c G∧((List.range j).flatMap (h.lostK σ per t)).length≤j*4194304) (fun _ i _=>h.R-(intOf i).toNat)
  case atStart=>exact⟨0,none,0,[],rfl,Nat.zero_le _,by simp,by simpa using HA0.out,by simp⟩
  case round=>
   obtain⟨j,A0,c0,G0,rfl,hj,rfl,ho,hlen⟩:=hrel
   obtain⟨wo,hwo⟩:∃wo,wo=wr:=⟨_,rfl⟩
   subst hwo
   have HO:=hide ho
   have HLEN:=hide hlen
   clear ho hlen HA0 g3
   by_cases hlt:j<h.R
   ·have hlt1:(j:Int)<(h.R:Int):=by omega
    have HFL:Hid ((List.range (j+1)).flatMap (h.lostK σ per t)=(List.range j).flatMap (h.lostK σ per t)++h.lostK σ per t j):=by
     show _=_
     rw [List.range_succ,List.flatMap_append]
     simp
    have HKL:=hide (lostK_le HOK.out σ per t j)
    have HKD:Hid (h.lostK σ per t j=if t (j:Int)||!(decide (h.s j=3)||decide (h.s j=4)) then [] else (h.rowL (j:Int)).flatMap (h.lostAt σ per t)):=rfl
    have HAL:=hide (lostAt_le HOK.out σ per t (j:Int))
    have HST:=hide (fun w' (h':Hr w' L h s k)=>hstate_any h' (j:Int))
    have hse:h.stateOf (j:Int)=h.s j:=by unfold HS.stateOf;rw [if_pos ⟨by omega,by omega⟩,Int.toNat_natCast]
    rw [hse]at HST
    clear hse
    have HROW:=hide (fun w' (h':Hr w' L h s k)=>hrow_any h' (j:Int))
    unfold HrL at HROW
    have HRM:=hide (fun m (hm:m<(h.rowL (j:Int)).length)=>rowL_mem HOK.out (a:=(j:Int)) (x:=(h.rowL (j:Int)).getD m 0) (by simp [hm]))
    have HRLn:=rowL_len HOK.out (j:Int)
    have hnm:=HOK.out.nmax
    have cT:=HO.out.hr.cT
    have hwx:(Lit.int .i64 (j:Int)).wf=true:=wf_i64_of ⟨by omega,by omega⟩
    have hlook:=HO.out.kn.look hwx
    clear hwx
    obtain⟨ac,hac⟩:∃ac,ac=(List.range j).flatMap (h.lostK σ per t):=⟨_,rfl⟩
    rw [← hac]at HO HLEN HFL ⊢
    clear hac
    obtain⟨an,han⟩:∃an,an=ac.length:=⟨_,rfl⟩
    have HAN:=hide han
    rw [← han]
    clear han
    have hway:(Hid (h.lostK σ per t j=[])∧(t (j:Int)=true∨(t (j:Int)=false∧(h.s j !=3)=true∧(h.s j !=4)=true)))∨(Hid (h.lostK σ per t j=(h.rowL (j:Int)).flatMap (h.lostAt σ per t))∧t (j:Int)=false∧(h.s j=3∨h.s j=4)):=by
     have:=HKD.out
     cases e:t (j:Int)with
     | true=>rw [e]at this;exact .inl ⟨(by show _=_;simpa using this),.inl rfl⟩
     | false=>
      rw [e]at this
      by_cases e3:h.s j=3
      ·exact .inr ⟨(by show _=_;simpa [e3] using this),rfl,.inl e3⟩
      ·by_cases e4:h.s j=4
       ·exact .inr ⟨(by show _=_;simpa [e4] using this),rfl,.inr e4⟩
       ·exact .inl ⟨(by show _=_;simpa [e3,e4] using this),.inr ⟨rfl,by simpa using e3,by simpa using e4⟩⟩
    clear HKD
    generalize h.lostK σ per t j=lk at *
    generalize h.s j=st at *
    rcases hway with⟨HK0,hw⟩ | ⟨HK1,ht,hw⟩
    ·have HRel:Hid (∀w',Fr [] wo w'→∃j':Nat,∃A c G,(Value.int .i64 ((j:Int)+1))=.int .i64 j'∧j'≤h.R∧(Value.slice A0 an c0)=.slice A ((List.range j').flatMap (h.lostK σ per t)).length c∧LsAt w I w' L h s k mb t ((List.range j').flatMap (h.lostK σ per t)) A c G∧((List.range j').flatMap (h.lostK σ per t)).length≤j'*4194304):=fun w' hf=>by
      refine⟨j+1,A0,c0,G0,rfl,by omega,?_,?_,?_⟩
      ·rw [HFL.out,HK0.out,List.append_nil,HAN.out]
      ·rw [HFL.out,HK0.out,List.append_nil];exact HO.out.look0 HI.out hf
      ·rw [HFL.out,HK0.out,List.append_nil];exact Nat.le_trans HLEN.out (Nat.mul_le_mul_right _ (Nat.le_succ j))
     rcases hw with ht | ⟨ht,h3,h4⟩
     all_goals
      rw [ht]at hlook
      go_wp2_with (go_at_call 62;refine(HST.out _ HO.out.hr).mono ?_;rintro e w' ⟨rfl,rfl⟩)
      exact⟨HRel.out _ ((Fr.refl _ _).alloc _),by simp [intOf];omega⟩
    ·rw [ht]at hlook
     clear HKL
     generalize hrl:h.rowL (j:Int)=rl at *
     clear hrl
     obtain⟨n,hn⟩:∃n,n=rl.length:=⟨_,rfl⟩
     have HN:=hide hn
     rw [← hn]at HROW HRLn
     clear hn
     have HNX:Hid (∀w3 (v:Value) (A:Option Addr) (c:Nat) (G:List Nat),v=.slice A (ac++rl.flatMap (h.lostAt σ per t)).length c→LsAt w I w3 L h s k mb t (ac++rl.flatMap (h.lostAt σ per t)) A c G→∃j':Nat,∃A c G,(Value.int .i64 ((j:Int)+1))=.int .i64 j'∧j'≤h.R∧v=.slice A ((List.range j').flatMap (h.lostK σ per t)).length c∧LsAt w I w3 L h s k mb t ((List.range j').flatMap (h.lostK σ per t)) A c G∧((List.range j').flatMap (h.lostK σ per t)).length≤j'*4194304):=fun w3 v A c G e1 e2=>by
      refine⟨j+1,A,c,G,rfl,by omega,by rw [HFL.out,HK1.out];exact e1,by rw [HFL.out,HK1.out];exact e2,?_⟩
      rw [HFL.out,HK1.out,List.length_append]
      have h1:=HLEN.out
      have h2:=HAL.out rl.length
      rw [List.take_length]at h2
      omega
     have HDone:True:=trivial
     rcases hw with rfl | rfl
     all_goals
      have HQ:Hid (L.ab<wo.heap.size):=by
       obtain⟨c9,h9⟩:=HO.out.hr.ar
       exact h9.set.lt
      go_wp2_with (go_at_call 62;refine(HST.out _ HO.out.hr).mono ?_;rintro e w' ⟨rfl,rfl⟩)
      generalize hwq:wo.alloc _=wq
      have HFQ:Hid (Fr [] wo wq):=hwq ▸ (Fr.refl _ _).alloc _
      clear hwq
      have HAQ:=hide (HO.out.look0 HI.out HFQ.out)
      go_wp2_with fail
      refine(HROW.out _ HAQ.out.hr).mono ?_
      rintro e w3 ⟨A1,cap1,rfl,ho1,hH1,hf1⟩
      have HO1:=hide (ho1.low HFQ.out.size)
      have HA1:=hide (HAQ.out.look HI.out hH1 hf1)
      have HS3:Hid (wo.heap.size≤w3.heap.size):=Nat.le_trans HFQ.out.size hf1.size
      clear ho1 hH1 hf1 HAQ HFQ
      go_wp2_with fail
      go_loopw [6,58] (fun v i wr=>∃m:Nat,∃A c G,i=.int .i64 m∧m≤n∧v=.slice A (ac++(rl.take m).flatMap (h.lostAt σ per t)).length c∧LsAt w I wr L h s k mb t (ac++(rl.take m).flatMap (h.lostAt σ per t)) A c G∧(∀g,g∈G→g<wo.heap.size∨w3.heap.size≤g)∧Keep wo.heap.size w3 wr) (fun _ i _=>n-(intOf i).toNat)
      case atStart=>exact⟨0,A0,c0,G0,rfl,Nat.zero_le _,by rw [List.take_zero,List.flatMap_nil,List.append_nil,HAN.out],by rw [List.take_zero,List.flatMap_nil,List.append_nil];exact HA1.out,fun g hg=>.inl (HO.out.lr.lt g hg),Keep.refl _ _⟩
      case round=>
       obtain⟨m,A2,c2,G2,rfl,hm,rfl,ho2,hg2,hk2⟩:=hrel
       have HO2:=hide ho2
       have HG2:=hide hg2
       have HK2:=hide hk2
       clear ho2 hg2 hk2 HA1
       by_cases hltm:m<n
       ·have hltm1:(m:Int)<(n:Int):=by omega
        have hln:m<rl.length:=by have:=HN.out;omega
        obtain⟨b,off,rfl,hb0,hb1,hcl⟩:=(HK2.out.own HO1.out) (by omega)
        have x0:wr.cell? ⟨b,off+m,none⟩=some (.int .i64 (rl.getD m 0)):=hcl m hln
        have HTK:Hid ((rl.take (m+1)).flatMap (h.lostAt σ per t)=(rl.take m).flatMap (h.lostAt σ per t)++h.lostAt σ per t (rl.getD m 0)):=by
         show _=_
         rw [take_getD hln,List.flatMap_append]
         simp
        have HLB:Hid ((ac++(rl.take m).flatMap (h.lostAt σ per t)).length≤1099511627776):=by
         show _≤_
         have h1:=HLEN.out
         have h2:=HAL.out m
         rw [List.length_append]
         have h3:j*4194304≤65536*4194304:=Nat.mul_le_mul_right _ (by omega)
         omega
        have HLS:=hide (hlost_list HH.out HI.out HO2.out HLB.out (rl.getD m 0))
        generalize rl.getD m 0=x at *
        obtain⟨ax,hax⟩:∃ax,ax=ac++(rl.take m).flatMap (h.lostAt σ per t):=⟨_,rfl⟩
        have HAX:=hide hax
        rw [← hax]at HLS HO2 ⊢
        obtain⟨axn,haxn⟩:∃axn,axn=ax.length:=⟨_,rfl⟩
        rw [← haxn]at HLS ⊢
        clear hax haxn hcl hb0 hb1 HLB
        go_wp2_with fail
        refine HLS.out.mono ?_
        rintro e w4 ⟨A4,c4,G4,rfl,ha4,hg4,F4,hf4,hF4⟩
        have HZ:Hid (ax++h.lostAt σ per t x=ac++(rl.take (m+1)).flatMap (h.lostAt σ per t)):=by
         show _=_
         rw [HTK.out,HAX.out,List.append_assoc]
        have HA4:Hid (LsAt w I w4 L h s k mb t (ac++(rl.take (m+1)).flatMap (h.lostAt σ per t)) A4 c4 G4):=by rw [← HZ.out];exact ha4
        have HSZ:Hid (w3.heap.size≤wr.heap.size):=by
         obtain⟨F,k1,_⟩:=HK2.out
         exact k1.size
        have HG4:Hid (∀g,g∈G4→g<wo.heap.size∨w3.heap.size≤g):=fun g hg=>(hg4 g hg).elim (HG2.out g) (fun e=>.inr (Nat.le_trans HSZ.out e))
        have HK4:Hid (Keep wo.heap.size w3 w4):=HK2.out.step hf4 (fun y hy=>by
         rcases hF4 y hy with e | e | e
         ·rw [e];exact .inl HQ.out
         ·exact HG2.out y e
         ·exact .inr (Nat.le_trans HSZ.out e))
        rw [HZ.out]
        clear ha4 hg4 hf4 hF4 HLS x0
        generalize hzn:(ac++(rl.take (m+1)).flatMap (h.lostAt σ per t)).length=zn
        have HZN:=hide hzn
        clear hzn
        go_wp2_with fail
        go_roundw
        case rel=>exact⟨m+1,A4,c4,G4,by go_num,by omega,by rw [HZN.out],HA4.out,HG4.out,HK4.out⟩
        case measure=>simp [intOf];omega
       ·obtain rfl:m=n:=by omega
        have HTL:Hid (rl.take m=rl):=by show _=_;rw [List.take_of_length_le];have:=HN.out;omega
        have HX:=hide (HNX.out wr (.slice A2 (ac++(rl.take m).flatMap (h.lostAt σ per t)).length c2) A2 c2 G2 (by rw [HTL.out]) (by have:=HO2.out;rw [HTL.out]at this;exact this))
        clear HO2 HNX
        generalize (ac++(rl.take m).flatMap (h.lostAt σ per t)).length=zn at *
        go_wp2_with fail
        go_roundw
        case rel=>exact HX.out
        case measure=>simp [intOf];omega
   ·obtain rfl:j=h.R:=by omega
    rw [← HLL.out]at HO ⊢
    generalize h.lostL σ per l=z at *
    go_wp2_with fail
    go_ret
    exact⟨A0,c0,G0,rfl,HO.out.lr,HO.out.far,HO.out.hr,HO.out.fr,HO.out.inv⟩
 ·rw [checkE_bad hS]at HC
  have HLL:Hid (h.lostL σ per l=[]):=by show _=_;unfold HS.lostL;rw [if_neg hS]
  rw [HLL.out]
  clear H LI hI hS
  go_enter Tryz.func27,Tryz.ntmps27
  go_wp2_with (go_at_call 60;refine HC.out.mono ?_;rintro e w1 ⟨rfl,hH1,hf1⟩;have HH1:=hide hH1;have HF1:=hide hf1;clear hH1 hf1)
  go_ret
  exact⟨none,0,[],rfl,Lr.nil _ _,fun g hg=>(by cases hg),HH1.out,HF1.out,HKeep.out _ _ HI0.out HF1.out⟩
end
open Go.RowKit Go.Gl HS
section
variable {W w w':World}{L:HL}{X:HX}{tg:Tg}{own:Nat→Nat}{FS:Nat→List Nat}{h:HS}{x:HT}{s k:Nat}{E:Blks}{D:Nat→Prop}{Q:World→Prop}
theorem HM.lost(hS:Lives D Q)(H:HM W w L X h x s k E D Q){l:List Int}{A:Option Addr}{c:Nat}(hl:Sl w A l.length (fun m=>.int .i64 (l.getD m 0)))(hll:l.length≤4611686018427387904)(hlw:∀m,m<l.length→(Lit.int .i64 (l.getD m 0)).wf=true)(hab:0<l.length→∀b off,A=some ⟨b,off,none⟩→b≠L.ab) :
  Calls Tryz.prog 27 #[.pointer (some ⟨L.hb,0,none⟩),.slice A l.length c] w fun e w'=>∃A' c' G',e=.returned (.slice A' (h.lostL x.σ x.per l).length c')∧Lr w' 3 A' (h.lostL x.σ x.per l).length c' G' (zv (h.lostL x.σ x.per l))∧(∀g,g∈G'→w.heap.size≤g)∧HM W w' L X h x s k E D Q∧Fr [L.ab] w w':=by
 have H0:=H
 obtain⟨own,⟨tg,FS,Hh,h1,h2⟩,hE,hD,hQ⟩:=H
 have hr:=H0.hr
 refine(hlost_any (sb:=X.zb) (per:=x.per) (σ:=x.σ) (I:=fun b=>SAt b tg X.zb x.per h.R x.σ) hr ⟨Hh.vs,fun a b F q hf hF=>q.fr hf (fun y hy=>?_),fun a q y z hy=>q.has y z hy⟩ Hh.se hl hll hlw hab).mono ?_
 ·by_cases e:(tg y).1=0
  ·exact e
  ·exfalso
   rcases hF y hy with e1 | e1
   ·have:=Hh.o7 y e
    rw [e1,Hh.o2.1]at this
    cases this
   ·have:=Hh.se.tok y e
    omega
 ·rintro e w' ⟨A',c',G',e1,e2,e3,e4,e5,e6⟩
  exact⟨A',c',G',e1,e2,e3,H0.looked hS e4 e5,e5⟩
theorem HM.qdrain(hS:Lives D Q)(H:HM W w L X h x s k E D Q)(hk:QOk h.T x.qm x.qc x.ql) :
  Calls Tryz.prog 59 #[.pointer (some ⟨X.qb,0,none⟩)] w fun e w'=>∃F' A c G,e=.returned (.slice A (x.qc++catL x.ql h.T).length c) ∧
   HM W w' L { X with qF:=F' } h { x with qc:=[],ql:=fun _=>[] } s k E (fun b=>D b∨b∈G) (fun w=>Q w∧Lr w 3 A (x.qc++catL x.ql h.T).length c G (zv (x.qc++catL x.ql h.T)))∧∀g,g∈G→w.heap.size≤g:=by
 obtain⟨own,⟨tg,FS,H,h1,h2⟩,hE,hD,hQ⟩:=H
 refine(qdrain_new H.qu hk).mono ?_
 rintro e w' ⟨F',A,n,G,rfl,hq,hl,hf,hn,hg⟩
 have hsz:=h1.size
 have hs:=hf.size
 have k3:∀b,b<w.heap.size→ownNew own w.heap.size (fun b=>b∈F') 6 b=own b:=fun b hb=>by unfold ownNew;rw [if_pos hb]
 have r:=H.rest (own':=ownNew own w.heap.size (fun b=>b∈F') 6) hf (fun b hb=>H.o6 b hb) (by decide) k3
 have hw:Hw w' L { X with qF:=F' } tg (ownNew own w.heap.size (fun b=>b∈F') 6) FS h { x with qc:=[],ql:=fun _=>[] } s k:=by
  refine⟨(r.r1 (by decide)).1,r.r2 (by decide),r.r3 (by decide),(r.r1 (by decide)).2.1,fun i hi=>r.r9 i hi (by omega),(r.r1 (by decide)).2.2,H.ok,r.rt,H.dim,r.r4 (by decide),r.r5 (by decide),hq,r.r7 (by decide),r.r8 (by decide),H.vo,H.vc,H.vq,H.vs,H.vm,r.o1,r.o2,r.o3,r.o4,r.o5,fun b hb=>?_,r.o7,r.o8,r.o100,r.o0,fun b hb=>?_⟩
  ·rcases hn b hb with e | e
   ·have:=H.o6 b e
    rw [k3 b (H.lt b (by rw [this];decide))]
    exact this
   ·unfold ownNew
    rw [if_neg (by omega),if_pos hb]
  ·by_cases e:b<w.heap.size
   ·omega
   ·unfold ownNew at hb
    rw [if_neg e]at hb
    by_cases e2:b∈F'
    ·exact hq.lt b e2
    ·rw [if_neg e2]at hb
     exact absurd rfl hb
 have hF:∀b,b∈X.qF→own b≠0:=fun b hb=>by rw [H.o6 b hb];decide
 refine⟨F',A,n,G,rfl,⟨_,⟨tg,FS,hw,h1.trans hf (fun b hb=>.inr (h2 b (hF b hb))),fun b hb=>?_⟩,fun q hq=>?_,fun b hb=>?_,hS.stay w w' _ hQ hf (fun b hb hd=>hF b hb (hD b hd).1),hl⟩,fun g hg'=>(hg g hg').2⟩
 ·by_cases e:b<w.heap.size
  ·rw [k3 b e]at hb
   exact h2 b hb
  ·omega
 ·obtain⟨q1,q2,q3,q4⟩:=hE q hq
  refine⟨q1.fr hf (fun hx=>hF _ hx q2),(k3 _ q1.lt).trans q2,q3,fun hd=>hd.elim q4 (fun hg'=>?_)⟩
  have:=(hg _ hg').2
  have:=q1.lt
  omega
 ·rcases hb with hb | hb
  ·exact⟨(k3 b (hS.lt w hQ b hb)).trans (hD b hb).1,(hD b hb).2⟩
  ·obtain⟨g1,g2⟩:=hg b hb
   refine⟨?_,by omega⟩
   unfold ownNew
   rw [if_neg (by omega),if_neg g1]
end
structure HMl(W w:World)(L:HL)(X:HX)(h:HS)(x:HT)(s k:Nat)(E:Blks)(D:Nat→Prop)(Q:World→Prop)(A:Option Addr)(n c:Nat)(G:List Nat)(xs:List Value):Prop where
 hm:HM W w L X h x s k E (fun b=>D b∨b∈G) (fun w=>Q w∧Lr w 3 A n c G xs)
 ap:∀g,g∈G→¬ D g
section
variable {W w w':World}{L:HL}{X:HX}{h:HS}{x:HT}{s k:Nat}{E:Blks}{D:Nat→Prop}{Q:World→Prop}{A:Option Addr}{n c:Nat}{G:List Nat}{xs:List Value}
theorem HMl.lives(hS:Lives D Q)(A:Option Addr)(n c:Nat)(G:List Nat)(xs:List Value):Lives (fun b=>D b∨b∈G) (fun w=>Q w∧Lr w 3 A n c G xs):=hS.and (Lives.lr _ _ _ _ _ _)
theorem HMl.nil(hT:Tab W)(H:HM W w L X h x s k E D Q):HMl W w L X h x s k E D Q none 0 0 [] []:=
 ⟨H.live hT (F:=[]) (Fr.refl _ _) (fun b hb=>by cases hb) (fun b hb=>.inl (hb.elim id (fun h=>by cases h))) ⟨H.q,Lr.nil _ _⟩,fun g hg=>by cases hg⟩
theorem HMl.lr(H:HMl W w L X h x s k E D Q A n c G xs):Lr w 3 A n c G xs:=H.hm.q.2
theorem HMl.fr0(hS:Lives D Q)(H:HMl W w L X h x s k E D Q A n c G xs)(hf:Fr [] w w'):HMl W w' L X h x s k E D Q A n c G xs:=
 ⟨H.hm.fr0 (HMl.lives hS _ _ _ _ _) hf,H.ap⟩
theorem HMl.app(hS:Lives D Q)(hT:Tab W)(H:HMl W w L X h x s k E D Q A n c G xs){A':Option Addr}{n' c':Nat}{G':List Nat}{xs':List Value}(hl:Lr w' 3 A' n' c' G' xs')(hf:Fr G w w')(hG:∀g,g∈G'→g∈G∨w.heap.size≤g):HMl W w' L X h x s k E D Q A' n' c' G' xs':=by
 have hq:=H.hm.q
 refine⟨H.hm.live hT hf (fun b hb=>.inr hb) (fun b hb=>?_) ⟨hS.stay w w' G hq.1 hf H.ap,hl⟩,fun g hg hd=>?_⟩
 ·rcases hb with e | e
  ·exact .inl (.inl e)
  ·exact(hG b e).imp .inr id
 ·rcases hG g hg with e | e
  ·exact H.ap g e hd
  ·have:=hS.lt w hq.1 g hd;omega
theorem HMl.drop(hT:Tab W)(H:HMl W w L X h x s k E D Q A n c G xs):HM W w L X h x s k E D Q:=
 H.hm.live hT (F:=[]) (Fr.refl _ _) (fun b hb=>by cases hb) (fun b hb=>.inl (.inl hb)) H.hm.q.1
theorem HMl.look(hS:Lives D Q)(H:HMl W w L X h x s k E D Q A n c G xs)(hr:Hr w' L h s k)(hf:Fr [L.ab] w w'):HMl W w' L X h x s k E D Q A n c G xs:=
 ⟨H.hm.looked (HMl.lives hS _ _ _ _ _) hr hf,H.ap⟩
theorem HM.qdrainl(hS:Lives D Q)(H:HM W w L X h x s k E D Q)(hk:QOk h.T x.qm x.qc x.ql) :
  Calls Tryz.prog 59 #[.pointer (some ⟨X.qb,0,none⟩)] w fun e w'=>∃F' A c G,e=.returned (.slice A (x.qc++catL x.ql h.T).length c)∧HMl W w' L { X with qF:=F' } h { x with qc:=[],ql:=fun _=>[] } s k E D Q A (x.qc++catL x.ql h.T).length c G (zv (x.qc++catL x.ql h.T)):=by
 have hq:=H.q
 refine(H.qdrain hS hk).mono ?_
 rintro e w' ⟨F',A,c,G,e1,e2,e3⟩
 exact⟨F',A,c,G,e1,e2,fun g hg hd=>by have:=hS.lt w hq g hd;have:=e3 g hg;omega⟩
theorem HM.lost1(hS:Lives D Q)(H:HM W w L X h x s k E D Q){j:Nat}(hj:j≤65536):Calls Tryz.prog 27 #[.pointer (some ⟨L.hb,0,none⟩),.slice (some ⟨w.heap.size,0,none⟩) 1 1] (w.alloc (.cells #[.int .i64 (j:Int)] 3))
  fun e w'=>∃A' c' G',e=.returned (.slice A' (h.lostL x.σ x.per [(j:Int)]).length c')∧Lr w' 3 A' (h.lostL x.σ x.per [(j:Int)]).length c' G' (zv (h.lostL x.σ x.per [(j:Int)]))∧HM W w' L X h x s k E D Q:=by
 have hab:L.ab<w.heap.size:=by
  obtain⟨c9,h9⟩:=H.hr.ar
  exact h9.set.lt
 refine((H.fr0 hS ((Fr.refl _ _).alloc (.cells #[.int .i64 (j:Int)] 3))).lost hS (l:=[(j:Int)]) (A:=some ⟨w.heap.size,0,none⟩) (c:=1) (fun _=>⟨w.heap.size,0,rfl,by simp,fun k hk=>?_⟩) (by simp) (fun m hm=>?_) (fun _ b off e=>?_)).mono ?_
 ·obtain rfl:k=0:=by simpa using hk
  exact(Blk.new w 3 #[.int .i64 (j:Int)]).cell 0
 ·obtain rfl:m=0:=by simpa using hm
  show(Lit.int .i64 (j:Int)).wf=true
  exact wf_i64_of ⟨by omega,by omega⟩
 ·injection e with e
  injection e with e1 e2
  omega
 ·rintro e w' ⟨A',c',G',e1,e2,e3,e4,e5⟩
  exact⟨A',c',G',e1,e2,e4⟩
def rgn(n:Nat):List Int:=(List.range n).map fun (j:Nat)=>(j:Int)
end
end Go.Proofs.YteacgfeiedcdiaaGreatDoor
