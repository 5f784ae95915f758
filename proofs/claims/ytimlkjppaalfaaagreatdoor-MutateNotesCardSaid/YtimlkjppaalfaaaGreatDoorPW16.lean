/- heap.listLost: the walk. -/
import Derived.Test.YtimlkjppaalfaaaGreatDoorPW15
set_option linter.unusedVariables false
set_option linter.unusedSimpArgs false
set_option maxHeartbeats 6400000
set_option maxRecDepth 100000
open List renaming mem_cons->C1
open Nat renaming le_trans->De
namespace Go.Proofs.YtimlkjppaalfaaaGreatDoor
open Go.RowKit Go.Gl
def LsP(W:World)(I:World->Prop)(w:World)(L:HL)(h:HS)(s k mb:Nat)(t:Int->Bool)(G:List Nat)(l:List Int)(e:Ending)(w':World):Prop:=
 ∃A' c' G',e=.returned (.slice A' l.length c')/\gC W I w' L h s k mb t l A' c' G'/\(∀g,g∈G'->g∈G\/w.heap.size<=g)/\∃F,Fr F w w'/\∀x,x∈F->x=L.ab\/x∈G\/w.heap.size<=x
section
variable {sb per:Nat}{σ:RS}{I:World->Prop}{W w w':World}{L:HL}{h:HS}{s k mb:Nat}{t:Int->Bool}{acc:List Int}{A:Option Addr}{c:Nat}{G:List Nat}
theorem sj(H0:Hr W L h s k)(LI:LsI L h W.heap.size sb per σ I)(a0:gC W I w L h s k mb t acc A c G)(hacc:acc.length<=1099511627776)(a:Int) :
  Calls Tryz.prog 30 #[.pointer (some ⟨L.hb,0,none⟩),.slice A acc.length c,.int .i64 a,.map (some mb)] w (LsP W I w L h s k mb t G (acc++h.bL σ per t a)):=by
 obtain⟨i0,hi,hz0,hz1,hz2⟩:=info_parts Tryz.ce;have HOK:=aa H0.ok;have HI:=aa LI;have HA0:=aa a0;have HPF:Hid (∃c9,Ar w L.ab L.aw h.n h.f c9/\Calls Tryz.prog 67 #[.pointer (some ⟨L.ab,0,none⟩),.int .i64 a] w (ei w L.ab L.aw h.n h.f (bc h.n h.f a) (du h.n h.f a))):=by
  obtain⟨c9,h9⟩:=a0.hr.ar;exact⟨c9,h9,ko h9 a⟩
 obtain⟨c9,h9,hpf⟩:=HPF.out;have HP:=aa hpf;have HH:=aa H0;have cA:=a0.hr.cA;have HLA:Hid (h.bL σ per t a=(bc h.n h.f a).filter λx=>t (h.bu x)&&!gR σ per h.R (h.bu x) (h.g.aV x)):=rfl;have HFM:Hid (∀m,m<(bc h.n h.f a).length->∃i:Nat,(bc h.n h.f a).getD m 0=(i:Int)/\i<h.n):=λm hm=>si HOK.out (a:=a) (by simp[hm]);have hFL:=iW (h:=h) a;unfold ei at HP;generalize h.bL σ per t a=lo at *;generalize bc h.n h.f a=fl at *;generalize du h.n h.f a=fe at *;have HWS:Hid (L.ab<w.heap.size/\mb<w.heap.size):=⟨h9.set.lt,a0.kn.lt⟩;clear hpf h9 a0 LI H0 HPF;obtain⟨n,hn⟩:∃n,n=fl.length:=⟨_,rfl⟩;have HN:=aa hn;rw[<- hn]at HP hFL;clear hn;go_enter Tryz.func30,Tryz.ntmps30
 go_wp2_with (go_at_call 67;refine HP.out.mono ?_;rintro e w1 ⟨A1,cap1,c1,rfl,ho1,ha1,hf1⟩;have HO1:=aa ho1;have HF1:=aa hf1;have HA1:=aa (HA0.out.look HI.out (HA0.out.hr.fr1 hf1 ⟨_,ha1⟩) hf1);clear ho1 ha1 hf1)
 go_loopw [1,27] (λv i wr=>∃m:Nat,∃A c G',i=.int .i64 m/\m<=n/\v=.slice A (acc++(fl.take m).filter λx=>t (h.bu x)&&!gR σ per h.R (h.bu x) (h.g.aV x)).length c/\gC W I wr L h s k mb t (acc++(fl.take m).filter λx=>t (h.bu x)&&!gR σ per h.R (h.bu x) (h.g.aV x)) A c G'/\(∀g,g∈G'->g∈G\/w1.heap.size<=g)/\∃F,Fr F w1 wr/\∀x,x∈F->x=L.ab\/x∈G\/w1.heap.size<=x) (λ_ i _=>n-(intOf i).toNat)
 case atStart=>exact⟨0,A,c,G,rfl,Nat.zero_le _,by simp,by rw[List.take_zero,List.filter_nil,List.append_nil];exact HA1.out,λg hg=>.inl hg,[],Fr.refl _ _,λx hx=>by cases hx⟩
 case round=>
  obtain⟨m,Ar0,cr,G2,rfl,hm,rfl,ho2,hg2,hk2⟩:=hrel;obtain⟨wo,hwo⟩:∃wo,wo=wr:=⟨_,rfl⟩;subst hwo;have HO2:=aa ho2;have HG2:=aa hg2;have HK2:=aa hk2;clear ho2 hg2 hk2;by_cases hlt:m<n
  ·have hlt1:(m:Int)<(n:Int):=by omega
   have hml:m<fl.length:=by have:=HN.out;omega
   obtain⟨i,hgi,hin⟩:=HFM.out m hml;obtain⟨b,off,rfl,hb0,hb1,hcl⟩:=HO1.out (by omega);have x0:wo.cell? ⟨b,off+m,none⟩=some (.int .i64 (i:Int)):=by
    obtain⟨F,k1,k2⟩:=HK2.out;rw[k1.cell (p:=⟨b,off+m,none⟩) hb1 (λhx=>?_),hcl m hml,hgi];have q1:=HWS.out;rcases k2 _ hx with e|e|e
    ·simp at e;omega
    ·have:=HA0.out.lr.lt b e;omega
    ·simp at e;omega
   have HTK:Hid ((fl.take (m+1)).filter (λx=>t (h.bu x)&&!gR σ per h.R (h.bu x) (h.g.aV x))=(fl.take m).filter (λx=>t (h.bu x)&&!gR σ per h.R (h.bu x) (h.g.aV x))++(if (t (h.bu (i:Int))&&!gR σ per h.R (h.bu (i:Int)) (h.g.aV (i:Int)))=true then [(i:Int)] else [])):=by
    show _=_;rw[fj hml,hgi,List.filter_append]
    congr 1
    simp only[List.filter_cons,List.filter_nil]
   have hme:h.bu (i:Int)=h.g.av (adr (h.f i:Int)):=by unfold HS.bu;rw[Int.toNat_natCast]
   have HRG:Hid (∀w' w'',Hr w' L h s k->Fr [] w' w''->Calls Tryz.prog 68 #[.agg #[.int .i64 h.g.words,.int .i64 h.g.rw,.int .i64 h.g.cw,.int .i64 h.g.regions,.int .i64 h.g.aF,.int .i64 h.g.max],.int .i64 (adr (h.f i:Int))] w'' λe w3=>e=.returned (.int .i64 (h.bu (i:Int)))/\Fr [] w'' w3):=λw' w'' h' hf=>by rw[hme];exact h'.region _ hf
   have HWD:Hid (∀w',Hr w' L h s k->Calls Tryz.prog 70 #[.pointer (some ⟨L.hb,0,none⟩),.int .i64 (i:Int)] w' (HrP w' L h s k (.int .u64 (h.f i:Int)))):=λw' h'=>pV h' hin;unfold HrP at HWD;have HAD:=aa (λw'=>uT (h.f i:Int) w');have HFK:Hid (∀wz,Fr [L.ab] wo wz->∃F,Fr F w1 wz/\∀x,x∈F->x=L.ab\/x∈G\/w1.heap.size<=x):=λwz hz=>by
    obtain⟨F,k1,k2⟩:=HK2.out;exact⟨L.ab::F,(k1.mono (λx hx=>by simp[hx])).ae (hz.mono (λx hx=>by simp at hx;simp[hx])),λx hx=>by
     rcases C1.1 hx with e|e
     ·exact .inl e
     ·exact k2 x e⟩
   obtain⟨g0,g1,g2,g3,g4,g5⟩:=HO2.out.hr.geo;have hwx:(Lit.int .i64 (h.bu (i:Int))).wf=true:=by
    refine fi ?_;rw[hme];have q1:=HOK.out.geo.nU;unfold Geo.av;split
    ·rename_i hc
     have e1:=Int.ediv_le_self h.g.rw hc.1;have e2:=Int.ediv_nonneg hc.1 (show 0<=h.g.rw by rw[HOK.out.rw];omega);generalize adr (h.f i:Int) / h.g.rw=z at *;omega
    ·omega
   have HWX:=aa hwx;clear hwx hcl hb0 hme hgi;obtain⟨ac,hac⟩:∃ac,ac=acc++(fl.take m).filter (λx=>t (h.bu x)&&!gR σ per h.R (h.bu x) (h.g.aV x)):=⟨_,rfl⟩;have HAC:Hid (acc++(fl.take m).filter (λx=>t (h.bu x)&&!gR σ per h.R (h.bu x) (h.g.aV x))=ac):=hac.symm;rw[<- hac]at HO2 ⊢;clear hac;obtain⟨an,han⟩:∃an,an=ac.length:=⟨_,rfl⟩;have HAN:=aa han;rw[<- han];clear han;go_wp2_with fail
   go_region_with (first|(go_at_call 70;refine(HWD.out _ (HO2.out.hr.fr0 ((Fr.refl _ _).drew))).mono ?_;rintro e w2 ⟨rfl,hH2,hf2⟩;have HO3:=aa ((HO2.out.cY HI.out ((Fr.refl _ _).drew)).look HI.out hH2 hf2);obtain⟨e0,e1,e2,e3,e4,e5⟩:=hH2.geo;have HF3:=aa hf2;clear hH2 hf2)|(go_at_call 69;refine(HAD.out _).mono ?_;rintro e w' ⟨rfl,rfl⟩)|(go_at_call 68;refine(HRG.out _ _ HO3.out.hr (Fr.refl _ _)).mono ?_;rintro e w3 ⟨rfl,hf3⟩;have HO4:=aa (HO3.out.cY HI.out hf3);have HF4:=aa hf3;clear hf3))
   all_goals
    have HFZ:Hid (Fr [L.ab] wo w3):=(((Fr.refl [L.ab] wo).drew).ae HF3.out).aO HF4.out;have hlook:=HO4.out.kn.look HWX.out;clear g0 g1 g2 g3 g4 g5 e0 e1 e2 e3 e4 e5 x0;by_cases ht:t (h.bu (i:Int))=true
    ·rw[ht]at hlook;rw[ht,Bool.true_and]at HTK;clear ht;go_wp2_with fail
     generalize hw5:w3.alloc (.cells #[] 95)=w5;have HF5:Hid (Fr [] w3 w5):=hw5 ▸ (Fr.refl _ _).alloc _;clear hw5;have HO5:=aa (HO4.out.cY HI.out HF5.out);have HH2:=aa HO5.out.hr;have HVS:=aa HI.out.vs;have S2:Hid (kK (Fr [] w5)):=λa b h1 h2=>h1.ae h2;have g0:∀u:Cls (Fr [] w5),u.w.cell? ⟨L.hb,14,none⟩=some (.int .i64 h.g.words):=λu=>u.cell HH2.out.geo.1 (by simp);have g1:∀u:Cls (Fr [] w5),u.w.cell? ⟨L.hb,15,none⟩=some (.int .i64 h.g.rw):=λu=>u.cell HH2.out.geo.2.1 (by simp);have g2:∀u:Cls (Fr [] w5),u.w.cell? ⟨L.hb,16,none⟩=some (.int .i64 h.g.cw):=λu=>u.cell HH2.out.geo.2.2.1 (by simp);have g3:∀u:Cls (Fr [] w5),u.w.cell? ⟨L.hb,17,none⟩=some (.int .i64 h.g.regions):=λu=>u.cell HH2.out.geo.2.2.2.1 (by simp);have g4:∀u:Cls (Fr [] w5),u.w.cell? ⟨L.hb,18,none⟩=some (.int .i64 h.g.aF):=λu=>u.cell HH2.out.geo.2.2.2.2.1 (by simp);have g5:∀u:Cls (Fr [] w5),u.w.cell? ⟨L.hb,19,none⟩=some (.int .i64 h.g.max):=λu=>u.cell HH2.out.geo.2.2.2.2.2 (by simp);have g6:∀u:Cls (Fr [] w5),u.w.cell? ⟨L.hb,25,none⟩=some (.pointer (some ⟨sb,0,none⟩)):=λu=>u.cell (by rw[<- HVS.out];exact HH2.out.st.cell 25) (by simp);have HCD:Hid (∀u:Cls (Fr [] w5),Calls Tryz.prog 11 #[.agg #[.int .i64 h.g.words,.int .i64 h.g.rw,.int .i64 h.g.cw,.int .i64 h.g.regions,.int .i64 h.g.aF,.int .i64 h.g.max],.int .i64 (i:Int)] u.w λe w3=>e=.returned (.int .i64 (h.g.aV (i:Int)))/\∃u':Cls (Fr [] w5),w3=u'.w):=λu=>Cls.grow (HH2.out.card (i:Int) u.ok);have HHS:Hid (∀u:Cls (Fr [] w5),Calls Tryz.prog 71 #[.pointer (some ⟨sb,0,none⟩),.int .i64 (h.bu (i:Int)),.int .i64 (h.g.aV (i:Int))] u.w λe w3=>e=.returned (.bool (gR σ per h.R (h.bu (i:Int)) (h.g.aV (i:Int))))/\∃u':Cls (Fr [] w5),w3=u'.w):=λu=>Cls.grow (HI.out.has _ (HO5.out.cY HI.out u.ok).inv _ _ HWX.out);generalize gR σ per h.R (h.bu (i:Int)) (h.g.aV (i:Int))=hs at *;refine bV (Fr [] w5) (by kernel_rfl) (by kernel_rfl) (Cls.drew S2.out ⟨w5,Fr.refl _ _⟩) ?_
     repeat (go_big_quiet_step (first|(go_at_call 11;exact HCD.out _)|(go_at_call 71;exact HHS.out _)))
     refine wpQuiet_nil ?_;rintro _ ⟨u1,rfl⟩;have HO6:=aa (HO5.out.cY HI.out u1.ok);have HF6:=aa (HFK.out _ ((HFZ.out.aO HF5.out).aO u1.ok));clear HCD HHS g0 g1 g2 g3 g4 g5 g6;have HO1Z:=HK2.out;cases hs
     ·rw[if_pos (by simp)]at HTK;have HLA:Hid (Lr (u1.w.alloc (.cells #[.int .i64 (i:Int)] 3)) 3 Ar0 an cr G2 (zv ac)):=by
       show Lr _ _ _ _ _ _ _;have:=HO6.out.lr;rw[<- HAN.out]at this;exact this.alloc _
      have HNB:Hid (an+1<=maxLen/\(an+1)*8<=140737488355328):=by
       show _/\_;have h2:ac.length<=acc.length+fl.length:=by
        rw[<- HAC.out,List.length_append];exact Nat.add_le_add_left (De (List.length_filter_le _ _) (by rw[List.length_take];exact Nat.min_le_right _ _)) _
       have h3:=HN.out;rw[<- HAN.out]at h2;unfold maxLen;omega
      go_wp2_with (at_builtin;refine aS rfl _ _ 25 rfl 3 i0 (.int .i64 0) 8 Tryz.underlying25 hi hz0 hz1 hz2 rfl rfl HLA.out rfl (by rfl) (λ_=>fq u1.w (.int .i64 (i:Int)) 3 rfl _ (Fr.refl _ _)) (by intro u hu;simp at hu;subst hu;rfl) HNB.out.1 HNB.out.2 ?_;intro A' c' G' w7 HLn HFn HGn)
      go_roundw
      case rel=>
       obtain⟨F,k1,k2⟩:=HF6.out;have HX:Hid (∀g,g∈G'->g∈G\/w1.heap.size<=g):=λg hg=>by
        rcases HGn.out g hg with e|e
        ·exact HG2.out g e
        ·have:=k1.size;refine .inr ?_;rw[e.1];simp;omega
       exact⟨m+1,A',c',G',by go_num,by omega,by rw[HTK.out,<- List.append_assoc,HAC.out,List.length_append,<- HAN.out];rfl,by rw[HTK.out,<- List.append_assoc,HAC.out];exact gC.app HH.out HI.out (HO6.out.cY HI.out ((Fr.refl [] u1.w).alloc (.cells #[.int .i64 (i:Int)] 3))) (by rw[<- HAN.out];exact HLn.out) HFn.out (λg hg=>(HGn.out g hg).imp id (λx=>by rw[x.1];exact Nat.le_refl _)),HX.out,F++G2,p6 (k1.aO ((Fr.refl [] u1.w).alloc (.cells #[.int .i64 (i:Int)] 3))) HFn.out,λx hx=>by
        rcases List.mem_append.1 hx with e|e
        ·exact k2 x e
        ·exact .inr (HG2.out x e)⟩
      case measure=>simp[intOf];omega
     ·rw[if_neg (by simp),List.append_nil]at HTK;go_wp2_with fail
      go_roundw
      case rel=>exact⟨m+1,Ar0,cr,G2,by go_num,by omega,by rw[HTK.out,HAC.out,HAN.out],by rw[HTK.out,HAC.out];exact HO6.out,HG2.out,HF6.out⟩
      case measure=>simp[intOf];omega
    ·have ht':t (h.bu (i:Int))=false:=by simpa using ht
     rw[ht']at hlook;rw[ht',Bool.false_and,if_neg (by simp),List.append_nil]at HTK;clear ht ht';have HF7:=aa (HFZ.out.aO ((Fr.refl [] w3).alloc (.cells #[] 95)));have HO5:=aa (HO4.out.cY HI.out ((Fr.refl [] w3).alloc (.cells #[] 95)));go_wp2_with fail
     generalize w3.alloc (.cells #[] 95)=w5 at *;refine bV (Fr [] w5) (by kernel_rfl) (by kernel_rfl) (Cls.drew (λa b h1 h2=>h1.ae h2) ⟨w5,Fr.refl _ _⟩) ?_
     repeat (go_big_quiet_step (fail))
     refine wpQuiet_nil ?_;rintro _ ⟨u1,rfl⟩;have HO6:=aa (HO5.out.cY HI.out u1.ok);have HF6:=aa (HFK.out _ (HF7.out.aO u1.ok));go_wp2_with fail
     go_roundw
     case rel=>exact⟨m+1,Ar0,cr,G2,by go_num,by omega,by rw[HTK.out,HAC.out,HAN.out],by rw[HTK.out,HAC.out];exact HO6.out,HG2.out,HF6.out⟩
     case measure=>simp[intOf];omega
  ·obtain rfl:m=n:=by omega
   have HTL:Hid (acc++(fl.take m).filter (λx=>t (h.bu x)&&!gR σ per h.R (h.bu x) (h.g.aV x))=acc++lo):=by show _=_;rw[HLA.out,List.take_of_length_le];have:=HN.out;omega
   rw[HTL.out]at HO2;rw[HTL.out];obtain⟨F,k1,k2⟩:=HK2.out;have HFF:Hid (∃F,Fr F w wo/\∀x,x∈F->x=L.ab\/x∈G\/w.heap.size<=x):=⟨L.ab::F,(HF1.out.mono (λx hx=>by simp at hx;simp[hx])).ae (k1.mono (λx hx=>by simp[hx])),λx hx=>by
    rcases C1.1 hx with e|e
    ·exact .inl e
    ·rcases k2 x e with e|e|e
     ·exact .inl e
     ·exact .inr (.inl e)
     ·exact .inr (.inr (De HF1.out.size e))⟩
   generalize acc++lo=z at *;obtain⟨zn,hzn⟩:∃zn,zn=z.length:=⟨_,rfl⟩;have HZ:=aa hzn;rw[<- hzn];clear hzn;go_wp2_with fail
   go_ret
   exact⟨Ar0,cr,G2,by rw[HZ.out];rfl,HO2.out,λg hg=>(HG2.out g hg).imp id (λe=>De HF1.out.size e),HFF.out⟩
end
end Go.Proofs.YtimlkjppaalfaaaGreatDoor
