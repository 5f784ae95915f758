/- Several texts joined (pack.py): Vg. -/
import Derived.Test.YtimkofiempcfdaaGreatDoorPW16
import Derived.Deep.AppendLies
set_option linter.unusedVariables false
set_option linter.unusedSimpArgs false
set_option maxHeartbeats 6400000
set_option maxRecDepth 100000
open List renaming mem_cons->D5
open Nat renaming lt_of_lt_of_le->Ef,le_trans->Eh,zero_le->Ei
namespace Go.Proofs.YtimkofiempcfdaaGreatDoor
open Go.RowKit Go.Gl
theorem xU{l:List Int}(h:l≠[]):HS.fH l∈l:=by
 cases l with
|nil=>exact absurd rfl h
|cons x l=>
  show l.foldl min x∈x::l;have key:∀(l:List Int) (x:Int),l.foldl min x=x\/l.foldl min x∈l:=by
   intro l
   induction l with
  |nil=>intro x;exact .inl rfl
  |cons a l ih=>
    intro x;rw[List.foldl_cons];rcases ih (min x a)with h1|h1
    ·rw[h1];by_cases e:x<=a
     ·left;omega
     ·right;simp;left;omega
    ·right;simp[h1]
  rcases key l x with h1|h1
  ·rw[h1];simp
  ·simp[h1]
section
variable {h:HS}{s k:Nat}
theorem nG{r:Int}{x:Int}:∀ {j},x∈h.bl r j->∃i,i<j/\x=h.bx i/\h.bx i<h.be i/\h.g.az (h.bx i)=r
|0,hx=>by cases hx
|j+1,hx=>by
  unfold HS.bl at hx;rcases List.mem_append.1 hx with h1|h1
  ·obtain⟨i,h2,h3⟩:=nG h1;exact⟨i,by omega,h3⟩
  ·split at h1
   ·rename_i e
    simp at h1;exact⟨j,by omega,h1,e⟩
   ·cases h1
theorem qE(ok:h.Ok s k){r:Nat}(hr:r<h.R):((r*h.W:Nat):Int)<=h.cP r/\h.cP r<=((r*h.W+h.W:Nat):Int):=by
 unfold HS.cP;split
 ·exact ok.tok r hr
 ·rename_i e
  obtain⟨i,_,h2,_,h4⟩:=nG (xU e);rw[h2];unfold Geo.az at h4;split at h4
  ·rename_i hc
   rw[ok.rw]at h4;have hw:=ok.iW;have h5:=Int.mul_ediv_add_emod (h.bx i) (h.W:Int);have h6:=Int.emod_nonneg (h.bx i) (show(h.W:Int)≠0 by omega);have h7:=Int.emod_lt_of_pos (h.bx i) (show 0<(h.W:Int)by omega);rw[h4,Int.mul_comm,<- Int.natCast_mul]at h5;omega
  ·omega
theorem zL(ok:h.Ok s k){r:Nat}(hr:r<h.R)(e:h.fb (r:Int)≠0):h.fb (r:Int)=30:=by
 have hb:=ok.cv hr;rcases iQ h (r:Int)with⟨h1,_⟩|⟨r',e1,hr',hw⟩
 ·exact absurd (by omega) h1
 ·obtain rfl:r'=r:=by omega
  rcases hw with⟨_,h2,_⟩|⟨_,h2,_⟩|⟨_,_,_,_,h2,_⟩
  ·rw[h2]at e ⊢;have hi:=qE ok hr;have hbn:gv h.n ((r'*h.W:Nat):Int) (h.cP r')=0:=by
    unfold gv;rw[if_pos ⟨by omega,hi.1,by omega⟩]
   unfold bZ at e ⊢;rw[if_pos hbn]at e ⊢;split at e
   ·exact absurd rfl e
   ·rfl
  ·rw[h2]at e ⊢;by_cases e0:h.aD (((r'*h.W:Nat):Int)+1)=0
   ·by_cases hc:h.zr r' (h.g.bI (h.bA (((r'*h.W:Nat):Int)+1)).size)
    ·exact absurd (qz e0 hc) e
    ·exact qA e0 hc
   ·rw[ue e0];have hw:=ok.iW;rcases HS.ns h (((r'*h.W:Nat):Int)+1)with⟨_,h3⟩|⟨_,_,h3⟩|⟨_,h3⟩|⟨_,h3⟩
    ·omega
    ·exact absurd ⟨by omega,by omega⟩ h3
    ·exact h3
    ·exact absurd h3 e0
  ·exact absurd h2 e
theorem kc(hs:h.Sound):h.j7=0:=by unfold HS.j7;rw[if_pos hs]
theorem js(hs:¬ h.Sound):h.j7=30:=by unfold HS.j7;rw[if_neg hs]
theorem uh{α:Type}(f:Nat->List α)(b:Nat)(h:∀i,(f i).length<=b):∀n,((List.range n).flatMap f).length<=n*b
|0=>by simp
|n+1=>by
  rw[List.range_succ,List.flatMap_append,List.length_append];have h1:=uh f b h n;have h2:=h n;have e:([n].flatMap f).length=(f n).length:=by simp
  rw[e,Nat.add_mul];omega
theorem xV(ok:h.Ok s k):h.aU.length<=274877906944:=by
 have hR:h.R<=65536:=by have:=ok.geo.nZ;have:=ok.rg;omega
 have h1:=uh h.gI 4194304 (λi=>by
  unfold HS.gI;exact Eh (List.length_filter_le _ _) (Eh (qD ok _) ok.dF)) h.R
 have h2:h.R*4194304<=65536*4194304:=Nat.mul_le_mul_right _ hR;exact Eh h1 h2
theorem sE(ok:h.Ok s k){a r:Int}(hr:r∈h.bu a):0<=r/\r<18446744073709551616:=by
 unfold HS.bu at hr;obtain⟨i,_,rfl⟩:=List.mem_map.1 hr;have:=ok.fok i.toNat;omega
end
section
variable {w:World}{L:HL}{h:HS}{s k:Nat}
theorem lJ(H:Hr w L h s k):Calls Tryz.prog 34 #[.pointer (some ⟨L.hb,0,none⟩)] w (HrP w L h s k (.int .i64 h.j7)):=by
 have HH:=aa H;have HOK:=aa H.ok;have HOJ:=aa (oI H);unfold ug at HOJ;have HLen:=xV H.ok;have HQ:Hid (L.ab<w.heap.size):=by
  obtain⟨c,hc⟩:=H.ar;exact hc.set.lt
 have HRf:Hid (∀w' i,Hr w' L h s k->(i:Int)∈h.aU->Calls Tryz.prog 72 #[.pointer (some ⟨L.hb,0,none⟩),.int .i64 (i:Int)] w' (HrR w' L h s k (h.bu (i:Int)))):=λw' i h' hi=>by
  obtain⟨j,S,P,e,o⟩:=h'.ok.iB hi;rw[e];exact nF h' o
 unfold HrR at HRf;have HLi:Hid (∀w' i,Hr w' L h s k->i<h.T->Calls Tryz.prog 68 #[.pointer (some ⟨L.S i,0,none⟩)] w' (fh w' (h.st i))):=λw' i h' hi=>by
  obtain⟨F,h1⟩:=h'.stk i hi;exact m7 h1 (by have:=h'.ok.qj i hi;omega)
 unfold fh at HLi;unfold HrP;obtain⟨CE,hCE⟩:∃CE,CE=h.j7:=⟨_,rfl⟩;rw[<- hCE];have HCE:=aa hCE;clear H hCE;go_enter Tryz.func34,Tryz.ntmps34
 go_wp2_with fail
 refine HOJ.out.mono ?_;rintro e w1 ⟨hH1,hf1,hway⟩;rcases hway with⟨A,c,G,mb,rfl,hrows,hl,hkn,hg,hmb⟩|⟨r,hr,he,rfl⟩
 ·have HL1:=aa hl.slz;have HK1:=aa hkn;have HH1:=aa hH1;have HF1:=aa hf1;have HRows:=aa hrows;have HS0:Hid ((∀m,m<h.aU.length->bJ (h.bu (h.aU.getD m 0)) h.aU=true)->(∀i,i<h.T->bJ (h.st i) h.aU=true)->CE=0):=λh1 h2=>HCE.out.trans <| kc ⟨HRows.out,λa ha=>by
   obtain⟨m,hm,rfl⟩:=List.getElem_of_mem ha;have:=dV.1 (h1 m hm);rwa[show h.aU.getD m 0=h.aU[m]by simp[hm]]at this,λi hi=>dV.1 (h2 i hi)⟩
  have HS1:Hid (∀m,m<h.aU.length->bJ (h.bu (h.aU.getD m 0)) h.aU=false->CE=30):=λm hm e=>HCE.out.trans <| js λhs=>by
   have:=dV.2 (hs.refs (h.aU.getD m 0) (by simp[hm]));rw[e]at this;cases this
  have HS2:Hid (∀i,i<h.T->bJ (h.st i) h.aU=false->CE=30):=λi hi e=>HCE.out.trans <| js λhs=>by
   have:=dV.2 (hs.stk i hi);rw[e]at this;cases this
  have HM:Hid (∀m,m<h.aU.length->h.aU.getD m 0∈h.aU):=λm hm=>by simp[hm]
  obtain⟨n,hn⟩:∃n,n=h.aU.length:=⟨_,rfl⟩;have HNM:Hid (n<=274877906944):=by rw[hn];exact HLen
  rw[<- hn]at HL1 HS0 HS1 HM ⊢;have hB:=Blk.new w1 168 #[.slice A n c,.map (some mb)];have HB1:=aa hB;have HH2:Hid (Hr (w1.alloc (.cells #[.slice A n c,.map (some mb)] 168)) L h s k):=hH1.fr0 ((Fr.refl _ _).alloc _);have HF2:Hid (Fr [L.ab] w (w1.alloc (.cells #[.slice A n c,.map (some mb)] 168))):=hf1.alloc _;have HK2:Hid (bD (w1.alloc (.cells #[.slice A n c,.map (some mb)] 168)) mb h.aU):=hkn.fr ((Fr.refl [] _).alloc _) (by simp);have HL2:Hid (∀w',Fr [L.ab] (w1.alloc (.cells #[.slice A n c,.map (some mb)] 168)) w'->Sl w' A n (λk=>.int .i64 (h.aU.getD k 0))):=λw' hf=>by
   obtain⟨c9,h9⟩:=hH1.ar;have:=(hl.alloc (.cells #[.slice A n c,.map (some mb)] 168)).fr hf (λg hg hx=>by simp at hx;rw[hx]at hg;exact hl.apart h9.set (by decide) hg);have:=this.slz;rwa[<- hn]at this
  clear hl hkn hH1 hf1 hrows hg hmb hn hB HLen HL1;go_wp2_with fail
  generalize w1.alloc (.cells #[.slice A n c,.map (some mb)] 168)=w2 at *;obtain⟨t3,ht3⟩:∃t3,t3=w1.heap.size:=⟨_,rfl⟩;rw[<- ht3]at HB1 ⊢;clear ht3;have HD:Hid (t3≠L.ab/\mb≠L.ab):=by
   obtain⟨c9,h9⟩:=HH2.out.ar;obtain⟨f,kf,_⟩:=HK2.out;exact⟨HB1.out.apart h9.set (by decide),kf.cI h9.set⟩
  have HT0:Hid (∀w',Fr [L.ab] w2 w'->w'.cell? ⟨t3,0,none⟩=some (.slice A n c)/\w'.cell? ⟨t3,1,none⟩=some (.map (some mb))/\t3<w'.heap.size/\bD w' mb h.aU/\L.hb<w'.heap.size):=λw' hf=>by
   have hb:=HB1.out.fr hf (by simpa using HD.out.1);exact⟨hb.cell 0,hb.cell 1,hb.lt,HK2.out.fr hf (by simpa using HD.out.2),Ef HH2.out.st.lt hf.size⟩
  have HL3:Hid (∀w',Fr [L.ab] w2 w'->Sl w' A n (λk=>.int .i64 (h.aU.getD k 0))):=λw' hf=>HL2.out w' hf;have hnb:n<=274877906944:=HNM.out;go_loopw [22] (λq wr=>∃j:Nat,q=.int .i64 j/\j<=n/\(∀m,m<j->bJ (h.bu (h.aU.getD m 0)) h.aU=true)/\Hr wr L h s k/\Fr [L.ab] w2 wr) (λq _=>n-(intOf q).toNat)
  case atStart=>exact⟨0,rfl,Ei _,(λm hm=>absurd hm (by omega)),HH2.out,Fr.refl _ _⟩
  case round=>
   obtain⟨j,rfl,hj,hkn,hH,hf⟩:=hrel;have HKN:=aa hkn;have HH3:=aa hH;have HF3:=aa hf;obtain⟨x0,x1,NT,_,NH⟩:=HT0.out wr hf;by_cases hlt:j<n
   ·have hlt1:(j:Int)<(n:Int):=by omega
    obtain⟨b,off,rfl,hb0,hcl⟩:=HL3.out wr hf (by omega);have c0:wr.cell? ⟨b,off+j,none⟩=some (.int .i64 (h.aU.getD j 0)):=hcl j hlt;have HKN1:Hid (bJ (h.bu (h.aU.getD j 0)) h.aU=true->∀m,m<j+1->bJ (h.bu (h.aU.getD m 0)) h.aU=true):=λe m hm=>by
     rcases Nat.lt_or_ge m j with h3|h3
     ·exact HKN.out m h3
     ·obtain rfl:m=j:=by omega
      exact e
    have HC1:=aa (HRf.out wr.drew (h.aU.getD j 0) (hH.fr0 (Fr.refl _ _).drew) (HM.out j hlt));have HBD:Hid (∀r,r∈h.bu (h.aU.getD j 0)->0<=r/\r<18446744073709551616):=λr hr=>sE HOK.out hr;have HRN:Hid ((h.bu (h.aU.getD j 0)).length<=1048576):=by
     obtain⟨i,S,P,e,o⟩:=HOK.out.iB (HM.out j hlt);rw[e,o.refs];have:=o.ps;have:=o.max;show _<=_;simp;omega
    have HBad:=aa (HS1.out j hlt);clear hkn hH hf hb0 hcl;generalize h.aU.getD j 0=a at *;generalize h.bu a=l at *;have HHas:Hid (∀w' B cB,bD w' mb h.aU->Sl w' B l.length (λk=>.int .u64 (l.getD k 0))->Calls Tryz.prog 71 #[.agg #[.slice (some ⟨b,off,none⟩) n c,.map (some mb)],.slice B l.length cB] w' λe w''=>e=.returned (.bool (bJ l h.aU))/\Fr [] w' w''):=λw' B cB hk hs=>qB hk _ rfl hs HBD.out (by have:=HRN.out;omega);have HRM:Hid (∀w3 A3 c3 G3,Lr w3 67 A3 l.length c3 G3 (bf l)->Hr w3 L h s k->Fr [L.ab] wr.drew w3->(Hr w3 L h s k/\Fr [L.ab] w2 w3/\w3.cell? ⟨t3,0,none⟩=some (.slice (some ⟨b,off,none⟩) n c)/\w3.cell? ⟨t3,1,none⟩=some (.map (some mb))/\t3<w3.heap.size/\Calls Tryz.prog 71 #[.agg #[.slice (some ⟨b,off,none⟩) n c,.map (some mb)],.slice A3 l.length c3] w3 λe w''=>e=.returned (.bool (bJ l h.aU))/\Fr [] w3 w'')):=λw3 A3 c3 G3 h1 h2 h3=>by
     have hf4:=HF3.out.af h3.ff;obtain⟨y0,y1,NT3,hk3,_⟩:=HT0.out _ hf4;exact⟨h2,hf4,y0,y1,NT3,HHas.out w3 A3 c3 hk3 (kZ h1)⟩
    clear HHas;by_cases hB:bJ l h.aU=true
    ·have HKN2:=aa (HKN1.out hB);rw[hB]at HRM;clear hB HBad HKN1;go_wp2_with fail
     go_region_with (first|(go_at_call 72;refine HC1.out.mono ?_;rintro e w3 ⟨A3,c3,G3,rfl,hl3,hg3,hH3,hf3⟩;obtain⟨hH4,hf4,y0,y1,NT3,hx⟩:=HRM.out w3 A3 c3 G3 hl3 hH3 hf3;have HH4:=aa hH4;have HF4:=aa hf4;have HX:=aa hx;clear hl3 hg3 hH3 hf3 hH4 hf4 hx)|(go_at_call 71;refine HX.out.mono ?_;rintro e w4 ⟨rfl,hf5⟩;have HF5:=aa hf5;clear hf5))
     all_goals
      go_wp2_with fail
      exact⟨⟨j+1,by go_num,by omega,HKN2.out,HH4.out.fr0 HF5.out,HF4.out.bq HF5.out⟩,by simp[intOf];omega⟩
    ·have hB':bJ l h.aU=false:=by simpa using hB
     have hc:CE=30:=HBad.out hB';rw[hB']at HRM;clear hB hB' HBad HKN1 HS0 HS1 HS2;subst hc;go_wp2_with fail
     go_region_with (first|(go_at_call 72;refine HC1.out.mono ?_;rintro e w3 ⟨A3,c3,G3,rfl,hl3,hg3,hH3,hf3⟩;obtain⟨hH4,hf4,y0,y1,NT3,hx⟩:=HRM.out w3 A3 c3 G3 hl3 hH3 hf3;have HH4:=aa hH4;have HF4:=aa hf4;have HX:=aa hx;clear hl3 hg3 hH3 hf3 hH4 hf4 hx)|(go_at_call 71;refine HX.out.mono ?_;rintro e w4 ⟨rfl,hf5⟩;have HF5:=aa hf5;clear hf5))
     all_goals
      go_wp2_with fail
      go_ret
      exact⟨rfl,HH4.out.fr0 HF5.out,HF2.out.af (HF4.out.bq HF5.out)⟩
   ·obtain rfl:j=n:=by omega
    have r0:=hH.cR;obtain⟨rA,hrA0⟩:∃rA,rA=L.rA:=⟨_,rfl⟩;rw[<- hrA0]at r0;have HRA:=aa hrA0;clear hrA0;clear hkn hH hf;go_wp2_with fail
    go_loopw [38] (λq wr=>∃i:Nat,q=.int .i64 i/\i<=h.T/\(∀m,m<i->bJ (h.st m) h.aU=true)/\Hr wr L h s k/\Fr [L.ab] w2 wr) (λq _=>h.T-(intOf q).toNat)
    case atStart=>exact⟨0,rfl,Ei _,(λm hm=>absurd hm (by omega)),HH3.out,HF3.out⟩
    case round=>
     obtain⟨i,rfl,hi,hkn2,hH,hf⟩:=hrel;have HKN5:=aa hkn2;have HH5:=aa hH;have HF5:=aa hf;obtain⟨x0,x1,NT,_,NH⟩:=HT0.out wr hf;by_cases hlt2:i<h.T
     ·have hlt3:(i:Int)<(h.T:Int):=by omega
      have hTm:=HOK.out.tm;obtain⟨gr,offr,hrA,_,hgr,hclr,_⟩:=hH.row.pos (by omega);have hrA':=HRA.out.trans hrA;clear hrA HRA;subst hrA';have c0:wr.cell? ⟨gr,offr+i,none⟩=some (.pointer (some ⟨L.S i,0,none⟩)):=by rw[hclr i hlt2,tY _ hlt2]
      have HKN6:Hid (bJ (h.st i) h.aU=true->∀m,m<i+1->bJ (h.st m) h.aU=true):=λe m hm=>by
       rcases Nat.lt_or_ge m i with h3|h3
       ·exact HKN5.out m h3
       ·obtain rfl:m=i:=by omega
        exact e
      have HC1:=aa (HLi.out wr.drew i (hH.fr0 (Fr.refl _ _).drew) hlt2);have HBD:Hid (∀r,r∈h.st i->0<=r/\r<18446744073709551616):=HOK.out.rok i hlt2;have HRN:Hid ((h.st i).length<=64):=HOK.out.qj i hlt2;have HBad:=aa (HS2.out i hlt2);clear hkn2 hH hf hclr;generalize h.st i=l at *;generalize L.S i=sp at *;have HRM:Hid (∀w3 A3 c3 G3,Lr w3 67 A3 l.length c3 G3 (bf l)->Fr [] wr.drew w3->(Hr w3 L h s k/\Fr [L.ab] w2 w3/\w3.cell? ⟨t3,0,none⟩=some (.slice A j c)/\w3.cell? ⟨t3,1,none⟩=some (.map (some mb))/\t3<w3.heap.size/\Calls Tryz.prog 71 #[.agg #[.slice A j c,.map (some mb)],.slice A3 l.length c3] w3 λe w''=>e=.returned (.bool (bJ l h.aU))/\Fr [] w3 w'')):=λw3 A3 c3 G3 h1 h3=>by
       have hf4:=HF5.out.bq h3.ff;obtain⟨y0,y1,NT3,hk3,_⟩:=HT0.out _ hf4;exact⟨HH5.out.fr0 h3.ff,hf4,y0,y1,NT3,qB hk3 _ rfl (kZ h1) HBD.out (by have:=HRN.out;omega)⟩
      by_cases hB:bJ l h.aU=true
      ·have HKN2:=aa (HKN6.out hB);rw[hB]at HRM;clear hB HBad HKN6;go_wp2_with fail
       go_region_with (first|(go_at_call 68;refine HC1.out.mono ?_;rintro e w3 ⟨A3,c3,G3,rfl,hl3,hf3,hg3⟩;obtain⟨hH4,hf4,y0,y1,NT3,hx⟩:=HRM.out w3 A3 c3 G3 hl3 hf3;have HH4:=aa hH4;have HF4:=aa hf4;have HX:=aa hx;clear hl3 hg3 hf3 hH4 hf4 hx)|(go_at_call 71;refine HX.out.mono ?_;rintro e w4 ⟨rfl,hf5⟩;have HF6:=aa hf5;clear hf5))
       all_goals
        go_wp2_with fail
        go_roundw
        case rel=>exact⟨i+1,by go_num,by omega,HKN2.out,HH4.out.fr0 HF6.out,HF4.out.bq HF6.out⟩
        case measure=>simp[intOf];omega
      ·have hB':bJ l h.aU=false:=by simpa using hB
       have hc:CE=30:=HBad.out hB';rw[hB']at HRM;clear hB hB' HBad HKN6 HS0 HS1 HS2;subst hc;go_wp2_with fail
       go_region_with (first|(go_at_call 68;refine HC1.out.mono ?_;rintro e w3 ⟨A3,c3,G3,rfl,hl3,hf3,hg3⟩;obtain⟨hH4,hf4,y0,y1,NT3,hx⟩:=HRM.out w3 A3 c3 G3 hl3 hf3;have HH4:=aa hH4;have HF4:=aa hf4;have HX:=aa hx;clear hl3 hg3 hf3 hH4 hf4 hx)|(go_at_call 71;refine HX.out.mono ?_;rintro e w4 ⟨rfl,hf5⟩;have HF6:=aa hf5;clear hf5))
       all_goals
        go_wp2_with fail
        go_ret
        exact⟨rfl,HH4.out.fr0 HF6.out,HF2.out.af (HF4.out.bq HF6.out)⟩
     ·obtain rfl:i=h.T:=by omega
      have hc:CE=0:=HS0.out HKN.out HKN5.out;clear hkn2 hH hf HS0 HS1 HS2;subst hc;go_wp2_with fail
      go_ret
      exact⟨rfl,HH5.out,HF2.out.af HF5.out⟩
 ·have hE:CE=h.fb (r:Int):=by
   rw[zL HOK.out hr he,HCE.out];exact js λhs=>he (hs.rows r hr)
  have HH1:=aa hH1;have HF1:=aa hf1;have he':(h.fb (r:Int) !=0)=true:=by simpa using he
  clear he hH1 hf1 HCE;rw[<- hE]at he' ⊢;clear hE;go_wp2_with fail
  go_ret
  exact⟨rfl,HH1.out.fr0 ((Fr.refl _ _).alloc _),HF1.out.alloc _⟩
end
theorem Tryz.gJ:(Tryz.prog.info? 64).map (λi=>(i.zero,i.size,i.bytes))=some (some (.int .u64 0),1,8):=by kernel_rfl
theorem Bt(w:World):(zeroValue 64).run Tryz.prog w=.ok (.int .u64 0) w:=by kernel_rfl
theorem gZ(l:List Int)(x:Int):bf (l++[x])=bf l++[.int .u64 x]:=by simp[bf]
def fY(w:World)(tp mb:Nat)(G:List Nat)(L:List Int):Prop:=
 ∃A c,Blk w tp 162 #[.slice A L.length c,.map (some mb)]/\Lr w 67 A L.length c G (bf L) /\
  ∃f,Mp Tryz.prog 67 w mb f/\∀r,(f (.int .u64 r)).getD (.int .u64 0)=.int .u64 (num L r)
section
variable {w w':World}{tp mb:Nat}{F G:List Nat}{L:List Int}
theorem fY.fr(h:fY w tp mb G L)(hf:Fr F w w')(h1:tp∉F)(h2:mb∉F)(h3:∀g,g∈G->g∉F):fY w' tp mb G L:=by
 obtain⟨A,c,k1,k2,f,k3,k4⟩:=h;exact⟨A,c,k1.fr hf h1,k2.fr hf h3,f,k3.fr hf h2,k4⟩
theorem fY.fr0(h:fY w tp mb G L)(hf:Fr [] w w'):fY w' tp mb G L:=h.fr hf (by simp) (by simp) (λ_ _=>by simp)
theorem fY.lt(h:fY w tp mb G L):∀x,x∈tp::mb::G->x<w.heap.size:=by
 obtain⟨A,c,k1,k2,f,k3,k4⟩:=h;intro x hx;simp only[D5]at hx;rcases hx with rfl|rfl|hx
 ·exact k1.lt
 ·exact k3.lt
 ·exact k2.lt x hx
theorem fY.ab(h:fY w tp mb G L){b:Nat}{cs:Array Value}(hb:Blk w b 124 cs):b∉tp::mb::G:=by
 obtain⟨A,c,k1,k2,f,k3,k4⟩:=h;intro hx;simp only[D5]at hx;rcases hx with rfl|rfl|hx
 ·exact k1.apart hb (by decide) rfl
 ·exact k3.cI hb rfl
 ·exact k2.apart hb (by decide) hx
def Db(w:World)(tp mb:Nat)(G:List Nat)(L:List Int)(v:Value)(e:Ending)(w':World):Prop:=
 e=.returned v/\∃G',fY w' tp mb G' L/\Fr (tp::mb::G) w w'/\∀g,g∈G'->g∈G\/w.heap.size<=g
theorem qG(h:fY w tp mb G L){r:Int}(h1:0<=r)(h2:r<=4194304)(hl:L.length<=4194304)(h0:(0:Int)∉L) :
  Calls Tryz.prog 124 #[.pointer (some ⟨tp,0,none⟩),.int .u64 r] w (Db w tp mb G (visit L r) (.int .u64 (num (visit L r) r))):=by
 by_cases e0:r=0
 ·subst e0;have e1:visit L 0=L:=by unfold visit;rw[if_pos (.inl rfl)]
  have e2:num L 0=0:=by unfold num;rw[if_neg h0]
  rw[e1,e2];have H:=aa h;clear h h0;go_enter Tryz.func124,Tryz.ntmps124
  go_wp2_with fail
  go_ret
  exact⟨rfl,G,H.out,Fr.refl _ _,λg hg=>.inl hg⟩
 ·have H:=aa h;obtain⟨A,c,k1,k2,f,k3,k4⟩:=h;have hkey:=rS r (jX ⟨by omega,by omega⟩);have c1:w.cell? ⟨tp,1,none⟩=some (.map (some mb)):=k1.cell 1;have hlk:(Instr.lookup 160 (.map (some mb)) (.int .u64 r) false).run Tryz.prog w=.ok (.int .u64 (num L r)) w:=by
   rw[k3.look Tryz.oq Tryz.underlying160 (Bt _) hkey,k4 r]
  have hnb:=lk L r;have e0':(r==0)=false:=by simpa using e0
  by_cases hm:r∈L
  ·have e1:visit L r=L:=by unfold visit;rw[if_pos (.inr hm)]
   have e2:(num L r !=0)=true:=by simp;exact tV.2 hm
   rw[e1];generalize num L r=x at *;clear k1 k2 k3 k4 hkey hm h0;go_enter Tryz.func124,Tryz.ntmps124
   go_wp2_with fail
   go_ret
   exact⟨rfl,G,H.out,Fr.refl _ _,λg hg=>.inl hg⟩
  ·have e1:visit L r=L++[r]:=by unfold visit;rw[if_neg (by simp[e0,hm])]
   have e2:num L r=0:=by unfold num;rw[if_neg hm]
   rw[e1,lj hm,show((L.length+1:Nat):Int)=(L.length:Int)+1 by omega];rw[e2]at hlk;obtain⟨i0,hi,hz0,hz1,hz2⟩:=info_parts Tryz.fm;obtain⟨n,hn0⟩:∃n,n=L.length:=⟨_,rfl⟩;have HN:Hid (([Value.int .u64 r]).length=1/\(∀u∈[Value.int .u64 r],u.oneCell'=true)/\n+1<=maxLen/\(n+1)*8<=140737488355328):=⟨rfl,by simp[Value.oneCell'],by unfold maxLen;omega,by omega⟩;have hnl:n<=4194304:=by omega
   rw[<- hn0]at k1 k2 ⊢;have HN0:=aa hn0;have HK:=aa hkey;have H4:=aa k4;have HM:=aa hm;have hneq:tp∉G:=k2.apart k1 (by decide);have hne1:mb∉G:=λhg=>by
    rcases Nat.eq_zero_or_pos c with hc|hc
    ·rw[k2.zero hc]at hg;cases hg
    ·obtain⟨g,off,cur,_,q2,q3,_⟩:=k2.blk hc;rw[q2]at hg;simp at hg;exact k3.cI q3 hg
   have hne2:mb≠tp:=k3.cI k1;have K1:=aa k1;have K2:=aa k2;have K3:=aa k3;have HNE:Hid (tp∉G/\mb∉G/\mb≠tp):=⟨hneq,hne1,hne2⟩;have c0:w.cell? ⟨tp,0,none⟩=some (.slice A n c):=k1.cell 0;have N0:tp<w.heap.size:=k1.lt;have HFZ:Hid (∀w2 w',Fr [] w w2->Fr G w2 w'->w'.cell? ⟨tp,0,none⟩=some (.slice A n c)/\w'.frozen? ⟨tp,0,none⟩=false/\tp<w'.heap.size/\w'.cell? ⟨tp,1,none⟩=some (.map (some mb))):=λw2 w' hf0 hf=>by
    have hb:=(K1.out.fr hf0 (by simp)).fr hf HNE.out.1;exact⟨hb.cell 0,hb.frozen 0,hb.lt,hb.cell 1⟩
   have HLR:Hid (Lr (w.alloc (.cells #[.int .u64 r] 67)) 67 A n c G (bf L)):=K2.out.alloc _;have hwn:IntKind.u64.wrap ((n:Int)+1)=(n:Int)+1:=IntWalk.u64_in _ ⟨by omega,by omega⟩;clear k1 k2 k3 k4 hkey hm h0 hn0 hl e0 hneq hne1 hne2 e1 e2;go_enter Tryz.func124,Tryz.ntmps124
   go_wp2_with (first|(at_builtin;refine aF rfl _ _ 62 rfl 67 i0 (.int .u64 0) 8 Tryz.underlying62 hi hz0 hz1 hz2 rfl rfl HLR.out rfl HN.out.1 (λ_=>cG w _ 67 rfl _ (Fr.refl _ _)) HN.out.2.1 HN.out.2.2.1 HN.out.2.2.2 ?_;intro A' c' G' w2 HLn HFn HGn;obtain⟨d0,dz,d1,d2⟩:=HFZ.out _ _ ((Fr.refl _ _).alloc _) HFn.out;have K33:Hid (Mp Tryz.prog 67 (w2.setCell ⟨tp,0,none⟩ (.slice A' (n+1) c')) mb f):=(((K3.out.fr0 ((Fr.refl _ _).alloc _)).fr HFn.out HNE.out.2.1).fr (F:=[tp]) ((Fr.refl _ _).setCell (p:=⟨tp,0,none⟩) (.inl (by simp)) _) (by simpa using HNE.out.2.2)))|(at_mapUpdate;refine ze rfl λK hK=>uN (key:=.int .u64 r) (v:=.int .u64 ((n:Int)+1)) _ _ _ 160 rfl Tryz.oq Tryz.underlying160 K33.out (Fr.refl _ _) rfl rfl HK.out rfl ?_;intro w4 hM hF;refine hK _ _ ?_))
   go_ret
   have hfs:Fr [tp] w2 (w2.setCell ⟨tp,0,none⟩ (.slice A' (n+1) c')):=(Fr.refl _ _).setCell (p:=⟨tp,0,none⟩) (.inl (by simp)) _;have hb2:=(K1.out.alloc (.cells #[.int .u64 r] 67)).fr HFn.out HNE.out.1;have hGt:tp∉G':=HLn.out.apart hb2 (by decide);have hk2:=(K3.out.fr0 ((Fr.refl _ _).alloc (.cells #[.int .u64 r] 67))).fr HFn.out HNE.out.2.1;have hGm:mb∉G':=λhg=>by
    rcases Nat.eq_zero_or_pos c' with hc|hc
    ·rw[HLn.out.zero hc]at hg;cases hg
    ·obtain⟨g,off,cur,_,q2,q3,_⟩:=HLn.out.blk hc;rw[q2]at hg;simp at hg;exact hk2.cI q3 hg
   have hlen:(L++[r]).length=n+1:=by rw[HN0.out];simp
   refine⟨rfl,G',⟨A',c',?_,?_,upF f (.int .u64 r) (.int .u64 ((n:Int)+1)),hM.out,λx=>?_⟩,?_,λg hg=>?_⟩
   ·rw[hlen];have:=(hb2.put 0 (.slice A' (n+1) c')).fr hF.out (by simpa using Ne.symm HNE.out.2.2);simpa using this
   ·rw[hlen,gZ];exact(HLn.out.fr hfs (λg hg hx=>hGt (by simp at hx;rw[<- hx];exact hg))).fr hF.out (λg hg hx=>hGm (by simp at hx;rw[<- hx];exact hg))
   ·by_cases e:x=r
    ·subst e;rw[jl,lj HM.out,<- HN0.out];rfl
    ·rw[jm _ _ (by simpa using e),H4.out x]
     congr 1
     unfold num;by_cases hx:x∈L
     ·rw[if_pos hx,if_pos (by simp[hx]),List.idxOf_append,if_pos hx]
     ·rw[if_neg hx,if_neg (by simp[hx,e])]
   ·have f1:Fr (tp::mb::G) w w2:=(((Fr.refl [] w).alloc (.cells #[.int .u64 r] 67)).mono (λx hx=>by cases hx)).trans HFn.out (λx hx=>.inl (by simp[hx]));exact(f1.trans hfs (λx hx=>.inl (by simp at hx;simp[hx]))).trans hF.out (λx hx=>.inl (by simp at hx;simp[hx]))
   ·rcases HGn.out g hg with h1|h1
    ·exact .inl h1
    ·right;have:=h1.1;simp at this;omega
end
structure ShH(W w:World)(Λ:HL)(h:HS)(s k:Nat)(P:Nat->Prop)(tp mb:Nat)(L:List Int)(A:Option Addr)(n c:Nat)(out:List Int):Prop where
 base:Hr W Λ h s k
 hr:Hr w Λ h s k
 fr:Fr [Λ.ab] W w
 own:∃G Go,fY w tp mb G L/\Lr w 64 A n c Go (bf out)/\(∀x,x∈tp::mb::G->W.heap.size<=x/\¬ P x)/\∀x,x∈Go->W.heap.size<=x/\¬ P x/\x∉tp::mb::G
section
variable {W w w1 w':World}{Λ:HL}{h:HS}{s k:Nat}{P P':Nat->Prop}{tp mb:Nat}{L:List Int}{A:Option Addr}{n c:Nat}{out:List Int}
theorem ShH.look(a:ShH W w Λ h s k P tp mb L A n c out)(hH:Hr w' Λ h s k)(hf:Fr [Λ.ab] w w'):ShH W w' Λ h s k P tp mb L A n c out:=by
 obtain⟨G,Go,h1,h2,h3,h4⟩:=a.own;obtain⟨c9,h9⟩:=a.hr.ar;have hab:=h1.ab h9.set;exact⟨a.base,hH,a.fr.af hf,G,Go,h1.fr hf (λhx=>hab (by simp at hx;simp[hx])) (λhx=>hab (by simp at hx;simp[hx])) (λg hg hx=>hab (by simp at hx;rw[<- hx];simp[hg])),
  h2.fr hf (λg hg hx=>h2.apart h9.set (by decide) (by simp at hx;rw[<- hx];exact hg)),h3,h4⟩
theorem ShH.uf(a:ShH W w Λ h s k P tp mb L A n c out)(hf:Fr [] w w'):ShH W w' Λ h s k P tp mb L A n c out:=a.look (a.hr.fr0 hf) (hf.mono (λx hx=>by cases hx))
theorem ShH.oH(a:ShH W w Λ h s k P tp mb L A n c out)(hp:∀x,x<w.heap.size->P' x->P x):ShH W w Λ h s k P' tp mb L A n c out:=by
 obtain⟨G,Go,h1,h2,h3,h4⟩:=a.own;exact⟨a.base,a.hr,a.fr,G,Go,h1,h2,λx hx=>⟨(h3 x hx).1,λhx'=>(h3 x hx).2 (hp x (h1.lt x hx) hx')⟩,λx hx=>⟨(h4 x hx).1,λhx'=>(h4 x hx).2.1 (hp x (h2.lt x hx) hx'),(h4 x hx).2.2⟩⟩
theorem ShH.app(a:ShH W w Λ h s k P tp mb L A n c out){G Go G':List Nat}(k1:fY w tp mb G L)(k2:Lr w 64 A n c Go (bf out))(k3:∀x,x∈tp::mb::G->W.heap.size<=x/\¬ P x)(k4:∀x,x∈Go->W.heap.size<=x/\¬ P x/\x∉tp::mb::G)
  (hPl:∀x,P x->x<w.heap.size) (hf1:Fr [] w w1) (hF:Fr Go w1 w') {A':Option Addr}{n' c':Nat}{out':List Int} (hL:Lr w' 64 A' n' c' G' (bf out')) (hG:∀g,g∈G'->g∈Go\/w.heap.size<=g):ShH W w' Λ h s k P tp mb L A' n' c' out':=by
 obtain⟨c9,h9⟩:=a.hr.ar;have hd:∀x,x∈tp::mb::G->x∉Go:=λx hx hg=>(k4 x hg).2.2 hx;have hfr:Fr [Λ.ab] W w':=(a.fr.bq hf1).trans hF (λx hx=>.inr (k4 x hx).1);refine⟨a.base,a.base.fr1 hfr ⟨c9,(h9.fr hf1 (by simp) (by simp)).fr hF (k2.apart h9.set (by decide)) (λhx=>?_)⟩,hfr,G,G',(k1.fr0 hf1).fr hF (hd tp (by simp)) (hd mb (by simp)) (λg hg=>hd g (by simp[hg])),hL,k3,λx hx=>?_⟩
 ·have:=(k4 _ hx).1;obtain⟨c8,h8⟩:=a.base.ar;have:=h8.row.lt;omega
 ·rcases hG x hx with h|h
  ·exact k4 x h
  ·have:=a.fr.size;exact⟨by omega,λhp=>by have:=hPl x hp;omega,λhm=>by have:=k1.lt x hm;omega⟩
theorem zM(a:ShH W w Λ h s k P tp mb L A n c out)(hPl:∀x,P x->x<w.heap.size){r:Int}(h1:0<=r)(h2:r<=4194304)(hl:L.length<=4194304)(h0:(0:Int)∉L){B:Option Addr}{m cB:Nat}{GB:List Nat}{xs:List Value}(hB:Lr w 67 B m cB GB xs)(hGB:∀g,g∈GB->P g) :
  Calls Tryz.prog 124 #[.pointer (some ⟨tp,0,none⟩),.int .u64 r] w λe w'=>e=.returned (.int .u64 (num (visit L r) r))/\ShH W w' Λ h s k P tp mb (visit L r) A n c out/\Lr w' 67 B m cB GB xs/\w.heap.size<=w'.heap.size:=by
 obtain⟨G,Go,k1,k2,k3,k4⟩:=a.own;obtain⟨c9,h9⟩:=a.hr.ar;refine(qG k1 h1 h2 hl h0).mono ?_;rintro e w' ⟨rfl,G',j1,j2,j3⟩;have hab:=k1.ab h9.set;have hfr:Fr [Λ.ab] W w':=a.fr.trans j2 (λx hx=>.inr (k3 x hx).1);have haw:Λ.aw∉tp::mb::G:=λhx=>by
  have:=(k3 _ hx).1;obtain⟨c8,h8⟩:=a.base.ar;have:=h8.row.lt;omega
 have hs:=a.fr.size;have hd:∀x,x∈G'->x∈tp::mb::G\/w.heap.size<=x:=λx hx=>(j3 x hx).imp (λh=>by simp[h]) id;refine⟨rfl,⟨a.base,a.base.fr1 hfr ⟨c9,h9.fr j2 hab haw⟩,hfr,G',Go,j1,k2.fr j2 (λg hg=>(k4 g hg).2.2),λx hx=>?_,λx hx=>⟨(k4 x hx).1,(k4 x hx).2.1,λhm=>?_⟩⟩,hB.fr j2 (λg hg hx=>(k3 g hx).2 (hGB g hg)),j2.size⟩
 ·simp only[D5]at hx;rcases hx with rfl|rfl|hx
  ·exact k3 _ (by simp)
  ·exact k3 _ (by simp)
  ·rcases hd x hx with h|h
   ·exact k3 x h
   ·exact⟨by omega,λhp=>by have:=hPl x hp;omega⟩
 ·simp only[D5]at hm;rcases hm with rfl|rfl|hm
  ·exact(k4 _ hx).2.2 (by simp)
  ·exact(k4 _ hx).2.2 (by simp)
  ·rcases hd x hm with h|h
   ·exact(k4 x hx).2.2 h
   ·have:=k2.lt x hx;omega
def qH(W:World)(Λ:HL)(h:HS)(s k:Nat)(P:Nat->Prop)(tp mb:Nat)(L:List Int)(n:Nat)(out:List Int)(e:Ending)(w':World):Prop:=
 ∃A c,e=.returned (.slice A n c)/\ShH W w' Λ h s k P tp mb L A n c out
theorem nH(a:ShH W w Λ h s k P tp mb L A n c out)(hPl:∀x,P x->x<w.heap.size){l O:List Int}{B:Option Addr}{cB:Nat}{GB:List Nat}(hB:Lr w 67 B l.length cB GB (bf l))(hGB:∀g,g∈GB->P g)
  (hlb:∀r,r∈l->0<=r/\r<=4194304) (hO:av L l <+: O) (h0:(0:Int)∉O) (hOl:O.length<=4194304) (hn:n<=8796093022208) (hl:l.length<=1048576) :
  Calls Tryz.prog 67 #[.pointer (some ⟨tp,0,none⟩),.slice A n c,.slice B l.length cB] w (qH W Λ h s k P tp mb (av L l) (n+l.length) (out++l.map (num O))):=by
 obtain⟨i0,hi,hz0,hz1,hz2⟩:=info_parts Tryz.gJ;have HA:=aa a;have HB0:=aa hB;have HPl:=aa hPl;have HGB:=aa hGB;have HLB:Hid (∀j,j<l.length->0<=l.getD j 0/\l.getD j 0<=4194304):=λj hj=>hlb _ (by simp[hj]);have HTK:Hid (∀j,av L (l.take j) <+: O):=λj=>by
  have e:av L l=av (av L (l.take j)) (l.drop j):=by rw[<- cn,List.take_append_drop]
  exact(e ▸ dS _ _:av L (l.take j) <+: av L l).trans hO
 have HO0:=aa h0;have HOL:=aa hOl;obtain⟨ln,hln⟩:∃ln,ln=l.length:=⟨_,rfl⟩;have HLN:=aa hln;rw[<- hln]at HB0 HLB hl ⊢;clear a hB hPl hGB hlb hO h0 hOl hln;go_enter Tryz.func67,Tryz.ntmps67
 go_wp2_with fail
 go_loopw [1,11] (λp i wr=>∃(j:Nat) (A':Option Addr) (c':Nat),i=.int .i64 j/\p=.slice A' (n+j) c'/\j<=ln/\w.heap.size<=wr.heap.size/\ShH W wr Λ h s k P tp mb (av L (l.take j)) A' (n+j) c' (out++(l.take j).map (num O))/\Lr wr 67 B ln cB GB (bf l)) (λ_ i _=>ln-(intOf i).toNat)
 case atStart=>exact⟨0,A,c,rfl,rfl,Ei _,Nat.le_refl _,by simpa[jk] using HA.out,HB0.out⟩
 case round=>
  obtain⟨j,A1,c1,rfl,rfl,hj,hsz,hs,hb⟩:=hrel;by_cases hlt:j<ln
  ·have hlt1:(j:Int)<(ln:Int):=by omega
   have hjl:j<l.length:=by have:=HLN.out;omega
   obtain⟨gb,ob,rfl,_,_,hcell,_,_⟩:=hb.pos (by omega);have x0:wr.cell? ⟨gb,ob+j,none⟩=some (.int .u64 (l.getD j 0)):=by rw[hcell j hlt,gA _ hjl]
   have hlb:=HLB.out j hlt;have hP2:∀x,P x->x<wr.heap.size:=λx hx=>Ef (HPl.out x hx) hsz;have hpk:=HTK.out j;have hpk1:=HTK.out (j+1);have hv:visit (av L (l.take j)) (l.getD j 0)=av L (l.take (j+1)):=by rw[dU hjl,cn,lh]
   have HNU:=aa (zM hs hP2 hlb.1 hlb.2 (Eh hpk.length_le HOL.out) (λhm=>HO0.out (hpk.subset hm)) hb HGB.out);rw[hv]at HNU;have hnum:num (av L (l.take (j+1))) (l.getD j 0)=num O (l.getD j 0):=za hpk1 HO0.out (by
    by_cases e:l.getD j 0=0
    ·exact .inl e
    ·exact .inr (by rw[<- hv,jV];exact .inr ⟨rfl,e⟩))
   rw[hnum]at HNU;have HTJ:Hid ((l.take (j+1)).map (num O)=(l.take j).map (num O)++[num O (l.getD j 0)]):=by
    show _=_;rw[dU hjl,List.map_append];rfl
   have HBn:Hid (n+j+1<=maxLen/\(n+j+1)*8<=140737488355328):=⟨by unfold maxLen;omega,by omega⟩;have HP2:=aa hP2;obtain⟨y,hy⟩:∃y,y=num O (l.getD j 0):=⟨_,rfl⟩;rw[<- hy]at HNU HTJ;generalize l.getD j 0=z at *;clear hs hb hcell hv hnum hpk hpk1 hP2 hy hlb;go_wp2_with fail
   refine HNU.out.mono ?_;rintro e w3 ⟨rfl,hs3,hb3,hsz3⟩;obtain⟨G3,Go3,k1,k2,k3,k4⟩:=hs3.own;have HS3:=aa hs3;have HB3:=aa hb3;have K1:=aa k1;have K2:=aa k2;have K3:=aa k3;have K4:=aa k4;have HLR2:Hid (Lr (w3.alloc (.cells #[.int .u64 y] 64)) 64 A1 (n+j) c1 Go3 (bf (out++(l.take j).map (num O)))):=k2.alloc _;clear hs3 hb3 k1 k2 k3 k4 HNU x0;go_wp2_with (first|(at_builtin;refine aF rfl _ _ 96 rfl 64 i0 (.int .u64 0) 8 Tryz.underlying96 hi hz0 hz1 hz2 rfl rfl HLR2.out rfl (by rfl) (λ_=>cG w3 (.int .u64 y) 64 rfl _ (Fr.refl _ _)) (by intro u hu;simp at hu;subst hu;rfl) HBn.out.1 HBn.out.2 ?_;intro A' c' G' w4 HLn HFn HGn))
   have HS4:Hid (ShH W w4 Λ h s k P tp mb (av L (l.take (j+1))) A' (n+j+1) c' (out++(l.take (j+1)).map (num O))):=
    ShH.app HS3.out K1.out K2.out K3.out K4.out (λx hx=>Ef (HP2.out x hx) hsz3) ((Fr.refl [] w3).alloc _) HFn.out (by rw[HTJ.out,<- List.append_assoc,gZ];exact HLn.out) (λg hg=>(HGn.out g hg).imp id (λh=>by rw[h.1];simp))
   have HB4:Hid (Lr w4 67 (some ⟨gb,ob,none⟩) ln cB GB (bf l)):=(HB3.out.alloc _).fr HFn.out (λg hg hx=>(K4.out g hx).2.1 (HGB.out g hg));have hsz4:w.heap.size<=w4.heap.size:=by have:=HFn.out.size;simp at this;omega
   have HSZ:=aa hsz4;clear hsz4;go_roundw
   case rel=>exact⟨j+1,A',c',by go_num,rfl,by omega,HSZ.out,HS4.out,HB4.out⟩
   case measure=>simp[intOf];omega
  ·obtain rfl:j=ln:=by omega
   have htk:l.take j=l:=by rw[List.take_of_length_le];have:=HLN.out;omega
   rw[htk]at hs;have HS:=aa hs;clear hs hb htk;go_wp2_with fail
   go_ret
   exact⟨A1,c1,rfl,HS.out⟩
end
theorem xW(w:World)(cs:Array Value)(t:TypeId){b:Nat}(hb:w.heap.size=b)(w':World)(hf:Fr [] (w.alloc (.cells cs t)) w'):∃ad,some (⟨b,0,none⟩:Addr)=some ad/\∀j u,cs.toList[j]?=some u->w'.cell? (ad.add j)=some u:=by
 subst hb;exact⟨_,rfl,World.news_of_block ((Blk.new w t cs).fr hf (by simp))⟩
def dW(h:HS)(i S P:Nat):List Int:=(List.range (S-1-P)).map λ(j:Nat)=>(h.f (i+1+P+j):Int)
theorem lK(h:HS)(i S P:Nat):(dW h i S P).length=S-1-P:=by simp[dW]
theorem qI(h:HS)(i S P:Nat){j:Nat}(hj:j<S-1-P):(dW h i S P).take (j+1)=(dW h i S P).take j++[(h.f (i+1+P+j):Int)]:=by
 rw[dU (by rw[lK];exact hj)]
 congr 2
 simp[dW,hj]
section
variable {W w:World}{Λ:HL}{h:HS}{s k:Nat}{tp mb:Nat}{L:List Int}{A:Option Addr}{n c:Nat}{out:List Int}
theorem me(a:ShH W w Λ h s k (λ_=>False) tp mb L A n c out){i S P:Nat}(o:HS.dN h i S P){O:List Int}
  (hlb:∀r,r∈h.bu (i:Int)->0<=r/\r<=4194304) (hO:av L (h.bu (i:Int)) <+: O) (h0:(0:Int)∉O) (hOl:O.length<=4194304) (hn:n<=4400000000000) :
  Calls Tryz.prog 69 #[.pointer (some ⟨Λ.hb,0,none⟩),.slice A n c,.pointer (some ⟨tp,0,none⟩),.int .u64 ((i:Int)+1)] w (qH W Λ h s k (λ_=>False) tp mb (av L (h.bu (i:Int))) (n+2+P+(S-1-P)) (out++[(P:Int),((S-1-P:Nat):Int)]++(h.bu (i:Int)).map (num O)++dW h i S P)):=by
 obtain⟨i0,hi,hz0,hz1,hz2⟩:=info_parts Tryz.gJ;have HA:=aa a;have hnm:=a.base.ok.dF;have hfit:=o.fit;have hps:=o.ps;have hmx:=o.max;have HOB:Hid (∀w',Hr w' Λ h s k->Calls Tryz.prog 48 #[.pointer (some ⟨Λ.hb,0,none⟩),.int .u64 ((i:Int)+1)] w' (HrP w' Λ h s k (.tuple #[.agg #[.int .i64 1,.int .i64 (S:Int),.int .i64 (P:Int),.int .i64 (atH h.n h.f (i:Int)).age,.int .i64 0],.int .i64 0]))):=λw' h'=>by
  have:=fX h' (r:=(i:Int)+1) (by omega) (by omega);rw[o.aD,o.bA]at this;exact this
 unfold HrP at HOB;have HAD:Hid (∀w',Calls Tryz.prog 84 #[.int .u64 ((i:Int)+1)] w' λe w''=>e=.returned (.int .i64 (i:Int))/\w'=w''):=λw'=>by
  have:=ku (r:=(i:Int)+1) (by omega) (by omega) w';rwa[show(i:Int)+1-1=(i:Int)by omega]at this
 have HRF:Hid (∀w',Hr w' Λ h s k->Calls Tryz.prog 72 #[.pointer (some ⟨Λ.hb,0,none⟩),.int .i64 (i:Int)] w' (HrR w' Λ h s k (h.bu (i:Int)))):=λw' h'=>nF h' o;unfold HrR at HRF;have HRL:Hid ((h.bu (i:Int)).length=P):=by show _=_;rw[o.refs];simp
 rw[HRL.out]at HRF;have HWD:Hid (∀w' a,Hr w' Λ h s k->a<h.n->Calls Tryz.prog 85 #[.pointer (some ⟨Λ.hb,0,none⟩),.int .i64 (a:Int)] w' (HrP w' Λ h s k (.int .u64 (h.f a:Int)))):=λw' a h' ha=>qs h' ha;unfold HrP at HWD;have HDT:=aa (λj (hj:j<S-1-P)=>qI h i S P hj);have HDL:=aa (lK h i S P);have HLB:=aa hlb;have HO:=aa hO;have HO0:=aa h0;have HOL:=aa hOl;obtain⟨D,hD⟩:∃D,D=S-1-P:=⟨_,rfl⟩;rw[<- hD]at HDT HDL ⊢;have hDS:i+1+P+D=i+S:=by omega
 have hw1:IntKind.i64.wrap ((i:Int)+1)=(i:Int)+1:=IntWalk.i64_in _ ⟨by omega,by omega⟩;have hw2:IntKind.i64.wrap ((i:Int)+1+(P:Int))=(i:Int)+1+(P:Int):=IntWalk.i64_in _ ⟨by omega,by omega⟩;have hw3:IntKind.i64.wrap ((i:Int)+(S:Int))=(i:Int)+(S:Int):=IntWalk.i64_in _ ⟨by omega,by omega⟩;have hw4:IntKind.i64.wrap ((i:Int)+(S:Int)-((i:Int)+1+(P:Int)))=(D:Int):=by rw[show(i:Int)+(S:Int)-((i:Int)+1+(P:Int))=(D:Int)by omega];exact IntWalk.i64_in _ ⟨by omega,by omega⟩
 have hw5:IntKind.u64.wrap (P:Int)=(P:Int):=IntWalk.u64_in _ ⟨by omega,by omega⟩;have hw6:IntKind.u64.wrap (D:Int)=(D:Int):=IntWalk.u64_in _ ⟨by omega,by omega⟩;have HBn:Hid (n+2<=maxLen/\(n+2)*8<=140737488355328):=⟨by unfold maxLen;omega,by omega⟩;have HC1:=aa (HOB.out w a.hr);clear a o hlb hO h0 hOl hD;generalize (atH h.n h.f (i:Int)).age=ag at *;obtain⟨n1,hn1⟩:∃n1,n1=n+2+P:=⟨_,rfl⟩;obtain⟨out1,ho1⟩:∃out1,out1=out++[(P:Int),(D:Int)]++(h.bu (i:Int)).map (num O):=⟨_,rfl⟩;obtain⟨L1,hl1⟩:∃L1,L1=av L (h.bu (i:Int)):=⟨_,rfl⟩;rw[<- hn1,<- ho1,<- hl1];have HN1:=aa hn1;have HO1:=aa ho1;have HL1:=aa hl1;clear hn1 ho1 hl1;go_enter Tryz.func69,Tryz.ntmps69
 go_wp2_with (first|(go_at_call 48;refine HC1.out.mono ?_;rintro e w1 ⟨rfl,hH,hf⟩;have HS1:=aa (HA.out.look hH hf);clear hH hf)|(go_at_call 84;refine(HAD.out _).mono ?_;rintro e w' ⟨rfl,rfl⟩))
 go_quiet (fail)
 have HS2:Hid (ShH W ((w1.alloc (.cells #[.int .i64 1,.int .i64 (S:Int),.int .i64 (P:Int),.int .i64 ag,.int .i64 0] 129)).drewN nq) Λ h s k (λ_=>False) tp mb L A n c out):=HS1.out.uf (((Fr.refl _ _).alloc _).drewN _);have hX:=(Blk.new w1 129 #[.int .i64 1,.int .i64 (S:Int),.int .i64 (P:Int),.int .i64 ag,.int .i64 0]).drewN nq;obtain⟨w2,hw2e⟩:∃w2,w2=(w1.alloc (.cells #[.int .i64 1,.int .i64 (S:Int),.int .i64 (P:Int),.int .i64 ag,.int .i64 0] 129)).drewN nq:=⟨_,rfl⟩;rw[<- hw2e]at HS2 hX ⊢;have x2:w2.cell? ⟨w1.heap.size,2,none⟩=some (.int .i64 (P:Int)):=hX.cell 2;have NX:=hX.lt;clear hw2e hX;generalize w1.heap.size=xb at *;obtain⟨G2,Go2,k1,k2,k3,k4⟩:=HS2.out.own;have K1:=aa k1;have K2:=aa k2;have K3:=aa k3;have K4:=aa k4;have HLR1:Hid (Lr (w2.alloc (.cells #[.int .u64 (P:Int),.int .u64 (D:Int)] 64)) 64 A n c Go2 (bf out)):=k2.alloc _;clear k1 k2 k3 k4;go_wp2_with (first|(at_builtin;refine aF rfl _ _ 96 rfl 64 i0 (.int .u64 0) 8 Tryz.underlying96 hi hz0 hz1 hz2 rfl rfl HLR1.out rfl (by rfl) (λ_=>xW w2 #[.int .u64 (P:Int),.int .u64 (D:Int)] 64 rfl _ (Fr.refl _ _)) (by intro u hu;simp at hu;rcases hu with rfl|rfl <;> rfl) HBn.out.1 HBn.out.2 ?_;intro A' c' G' w4 HLn HFn HGn;have HS4:Hid (ShH W w4 Λ h s k (λ_=>False) tp mb L A' (n+2) c' (out++[(P:Int),(D:Int)])):=ShH.app HS2.out K1.out K2.out K3.out K4.out (λx hx=>hx.elim) ((Fr.refl [] w2).alloc _) HFn.out (by rw[ix];exact HLn.out) (λg hg=>(HGn.out g hg).imp id (λh=>by rw[h.1];simp));have HC4:=aa (HRF.out w4 HS4.out.hr))|(go_at_call 72;refine HC4.out.mono ?_;rintro e w5 ⟨B5,cB5,G5,rfl,hl5,hg5,hH5,hf5⟩;have HS5:Hid (ShH W w5 Λ h s k (λx=>x∈G5) tp mb L A' (n+2) c' (out++[(P:Int),(D:Int)])):=((HS4.out.oH (P':=λx=>w4.heap.size<=x) (λx h1 h2=>absurd h2 (by omega))).look hH5 hf5).oH (λx _ hx=>hg5 x hx);have HT5:=aa (nH HS5.out (λx hx=>hl5.lt x hx) (by rw[HRL.out];exact hl5) (λg hg=>hg) HLB.out HO.out HO0.out HOL.out (by omega) (by rw[HRL.out];omega));rw[HRL.out,<- HN1.out,<- HO1.out,<- HL1.out]at HT5;unfold qH at HT5;clear hl5 hg5 hH5 hf5)|(go_at_call 67;refine HT5.out.mono ?_;rintro e w6 ⟨A6,c6,rfl,hs6⟩;have HS6:Hid (ShH W w6 Λ h s k (λ_=>False) tp mb L1 A6 n1 c6 out1):=hs6.oH (λ_ _ h=>h.elim);clear hs6))
 clear x2 NX;have hn2:n1<=4400000000000+2+1048576:=by have:=HN1.out;omega
 go_loopw [1,12] (λp q wr=>∃(j:Nat) (A':Option Addr) (c':Nat),q=.int .i64 ((i:Int)+1+(P:Int)+(j:Int))/\p=.slice A' (n1+j) c'/\j<=D/\ShH W wr Λ h s k (λ_=>False) tp mb L1 A' (n1+j) c' (out1++(dW h i S P).take j)) (λ_ q _=>i+S-(intOf q).toNat)
 case atStart=>exact⟨0,A6,c6,by simp,rfl,Ei _,by simpa using HS6.out⟩
 case round=>
  obtain⟨j,A7,c7,rfl,rfl,hj,hs⟩:=hrel;have HS7:=aa hs;clear hs;have hw7:IntKind.i64.wrap ((i:Int)+1+(P:Int)+(j:Int)+1)=(i:Int)+1+(P:Int)+(j:Int)+1:=IntWalk.i64_in _ ⟨by omega,by omega⟩;by_cases hlt:j<D
  ·have hlt1:(i:Int)+1+(P:Int)+(j:Int)<(i:Int)+(S:Int):=by omega
   have HW7:=aa (HWD.out wr (i+1+P+j) HS7.out.hr (by omega));rw[show((i+1+P+j:Nat):Int)=(i:Int)+1+(P:Int)+(j:Int)by omega]at HW7;have HTJ:=aa (HDT.out j hlt);obtain⟨y,hy⟩:∃y:Int,y=(h.f (i+1+P+j):Int):=⟨_,rfl⟩;rw[<- hy]at HW7 HTJ;clear hy;have HB7:Hid (n1+j+1<=maxLen/\(n1+j+1)*8<=140737488355328):=⟨by unfold maxLen;omega,by omega⟩;go_wp2_with fail
   refine HW7.out.mono ?_;rintro e w8 ⟨rfl,hH8,hf8⟩;have hs8:=HS7.out.look hH8 hf8;obtain⟨G8,Go8,k1,k2,k3,k4⟩:=hs8.own;have HS8:=aa hs8;have K18:=aa k1;have K28:=aa k2;have K38:=aa k3;have K48:=aa k4;have HLR8:Hid (Lr (w8.alloc (.cells #[.int .u64 y] 64)) 64 A7 (n1+j) c7 Go8 (bf (out1++(dW h i S P).take j))):=k2.alloc _;clear k1 k2 k3 k4 hs8 hH8 hf8;go_wp2_with (first|(at_builtin;refine aF rfl _ _ 96 rfl 64 i0 (.int .u64 0) 8 Tryz.underlying96 hi hz0 hz1 hz2 rfl rfl HLR8.out rfl (by rfl) (λ_=>cG w8 (.int .u64 y) 64 rfl _ (Fr.refl _ _)) (by intro u hu;simp at hu;subst hu;rfl) HB7.out.1 HB7.out.2 ?_;intro A9 c9 G9 w9 HLn9 HFn9 HGn9))
   have HS9:Hid (ShH W w9 Λ h s k (λ_=>False) tp mb L1 A9 (n1+j+1) c9 (out1++(dW h i S P).take (j+1))):=
    ShH.app HS8.out K18.out K28.out K38.out K48.out (λx hx=>hx.elim) ((Fr.refl [] w8).alloc _) HFn9.out (by rw[HTJ.out,<- List.append_assoc,gZ];exact HLn9.out) (λg hg=>(HGn9.out g hg).imp id (λh=>by rw[h.1];simp))
   go_roundw
   case rel=>exact⟨j+1,A9,c9,by go_num,rfl,by omega,HS9.out⟩
   case measure=>simp[intOf];omega
  ·obtain rfl:j=D:=by omega
   have hlt1:¬ (i:Int)+1+(P:Int)+(j:Int)<(i:Int)+(S:Int):=by omega
   have HTE:Hid ((dW h i S P).take j=dW h i S P):=by show _=_;rw[List.take_of_length_le];rw[HDL.out];exact Nat.le_refl _
   go_wp2_with fail
   go_ret
   refine⟨A7,c7,rfl,?_⟩;have:=HS7.out;rwa[HTE.out]at this
end
def Bv(w:World)(L:HL)(h:HS)(s k:Nat)(l:List Int)(er:Int)(e:Ending)(w':World):Prop:=
 ∃A c G,e=.returned (.tuple #[.slice A l.length c,.int .i64 er])/\Lr w' 64 A l.length c G (bf l)/\(∀g,g∈G->w.heap.size<=g)/\Hr w' L h s k/\Fr [L.ab] w w'
section
variable {w:World}{L:HL}{h:HS}{s k:Nat}
theorem xX{σ:GS}{T:Nat}{O:List Int}(hO:order σ T=O)(ok:GIn σ)(k:Nat):bfs σ T k <+: O:=hO ▸ si ok k
theorem vi{i S P:Nat}(o:HS.dN h i S P)(ha:(i:Int)∈h.aU)(O:List Int):bS h.gs O ((i:Int)+1)=[(P:Int),((S-1-P:Nat):Int)]++(h.bu (i:Int)).map (num O)++dW h i S P:=by
 unfold bS;rw[HS.kJ o ha,(HS.qo o ha).1,(HS.qo o ha).2,HS.qq o ha];rfl
theorem mf(σ:GS)(m T:Nat)(h:m<=T):∃l,aP σ T=aP σ m++l:=by
 induction T with
|zero=>
      obtain rfl:m=0:=by omega
      exact⟨[],by simp⟩
|succ T ih=>
  rcases Nat.eq_or_lt_of_le h with rfl|h
  ·exact⟨[],by simp⟩
  ·obtain⟨l,e⟩:=ih (by omega);exact⟨l++σ.st T,by rw[cu,e,List.append_assoc]⟩
theorem AB(h:HS){t:Nat}(ht:t<h.T):h.gs.st t=h.st t:=by
 show(if t<h.T then h.st t else [])=_;rw[if_pos ht]
theorem vj(H:Hr w L h s k)(hs:h.Sound):Calls Tryz.prog 33 #[.pointer (some ⟨L.hb,0,none⟩)] w (Bv w L h s k (shape h.gs h.T) 0):=by
 obtain⟨i0,hi,hz0,hz1,hz2⟩:=info_parts Tryz.gJ;have HC:=aa (lJ H);rw[kc hs]at HC;unfold HrP at HC;have ok:=H.ok;have gin:=HS.As ok hs;obtain⟨O,hO⟩:∃O,order h.gs h.T=O:=⟨_,rfl⟩;have HBP:=aa (λk=>xX hO gin k);have HO0:Hid ((0:Int)∉O):=hO ▸ xC gin;have hnm:=ok.dF;have HOL:Hid (O.length<=h.n):=hO ▸ sj gin;have HBE:Hid (∀k,(bfs h.gs h.T k).length<=k->O=bfs h.gs h.T k):=λk hk=>hO ▸ lF gin hk;have HBI:=aa (HS.xD ok hs);have HOK:=aa ok;have HSO:=aa hs;have HIN:=aa gin;have HSH:Hid (shape h.gs h.T=(List.range h.T).flatMap (bh h.gs O)++O.flatMap (bS h.gs O)):=by
  show shape h.gs h.T=_;unfold shape;rw[hO]
 have HLi:Hid (∀w' i,Hr w' L h s k->i<h.T->Calls Tryz.prog 68 #[.pointer (some ⟨L.S i,0,none⟩)] w' (fh w' (h.st i))):=λw' i h' hi=>by
  obtain⟨F,h1⟩:=h'.stk i hi;exact m7 h1 (by have:=h'.ok.qj i hi;omega)
 unfold fh at HLi;have HLn:Hid (∀w' i,Hr w' L h s k->i<h.T->Calls Tryz.prog 27 #[.pointer (some ⟨L.S i,0,none⟩)] w' λe w''=>e=.returned (.int .i64 ((h.st i).length:Int))/\w'=w''):=λw' i h' hi=>by
  obtain⟨F,h1⟩:=h'.stk i hi;exact pX h1
 have hmm:=@run_makeMap Tryz.prog;unfold Bv;have HH0:=aa H;clear H ok hs gin;go_enter Tryz.func33,Tryz.ntmps33
 go_wp2_with (go_at_call 34;refine HC.out.mono ?_;rintro e w1 ⟨rfl,hH,hf⟩;have HH:=aa hH;have HF:=aa hf;obtain⟨rA,hrA0⟩:∃rA,rA=L.rA:=⟨_,rfl⟩;have r0:=hH.cR;rw[<- hrA0]at r0;have HRA:=aa hrA0;clear hrA0;have NH:=hH.st.lt;clear hH hf)
 have HT0:Hid (ShH w ((w1.alloc (.map #[] 0)).alloc (.cells #[.slice none 0 0,.map (some w1.heap.size)] 162)) L h s k (λ_=>False) (w1.heap.size+1) w1.heap.size [] none 0 0 []):=by
  have hsz:=HF.out.size;refine⟨HH0.out,(HH.out.fr0 ((Fr.refl _ _).alloc _)).fr0 ((Fr.refl _ _).alloc _),(HF.out.alloc _).alloc _,[],[],⟨none,0,Blk.aV _ _ (by simp),Lr.nil _ _,λ_=>none,(Mp.made w1).fr0 ((Fr.refl _ _).alloc _),λr=>rfl⟩,Lr.nil _ _,λx hx=>⟨?_,λh=>h⟩,λx hx=>by cases hx⟩;simp at hx;omega
 generalize (w1.alloc (.map #[] 0)).alloc (.cells #[.slice none 0 0,.map (some w1.heap.size)] 162)=w2 at *;obtain⟨tp,htp⟩:∃tp,tp=w1.heap.size+1:=⟨_,rfl⟩;rw[<- htp]at HT0 ⊢;clear htp hmm r0 NH;generalize w1.heap.size=mb at *;go_loopw [6,23] (λp i wr=>∃(t:Nat) (A':Option Addr) (n' c':Nat),i=.int .i64 t/\p=.slice A' n' c'/\n'<=t*65/\t<=h.T/\ShH w wr L h s k (λ_=>False) tp mb (av [] (aP h.gs t)) A' n' c' ((List.range t).flatMap (bh h.gs O))) (λ_ i _=>h.T-(intOf i).toNat)
 case atStart=>exact⟨0,none,0,0,rfl,rfl,Ei _,Ei _,HT0.out⟩
 case round=>
  obtain⟨t,A1,n1,c1,rfl,rfl,hn1,htT,hs1⟩:=hrel;by_cases hlt:t<h.T
  ·have hlt1:(t:Int)<(h.T:Int):=by omega
   have hTm:=HOK.out.tm;obtain⟨gr,offr,hrA,_,hgr,hclr,_⟩:=hs1.hr.row.pos (by omega);have hrA':=HRA.out.trans hrA;clear hrA HRA;subst hrA';have c0:wr.cell? ⟨gr,offr+t,none⟩=some (.pointer (some ⟨L.S t,0,none⟩)):=by rw[hclr t hlt,tY _ hlt]
   have HLT:=aa hlt;have HS1:=aa hs1;have HNL:=aa (HLn.out wr t hs1.hr hlt);have HLL:=aa (HOK.out.qj t hlt);have hrk:=HOK.out.rok t hlt;have HLB:Hid (∀r,r∈h.st t->0<=r/\r<=4194304):=λr hr=>by
    rcases HSO.out.stk t hlt r hr with h1|h1
    ·omega
    ·have:=HOK.out.ou _ h1;omega
   have HVS:Hid (av (av [] (aP h.gs t)) (h.st t)=av [] (aP h.gs (t+1))):=by
    show _=_;rw[cu,cn,AB h hlt]
   have HPR:Hid (av (av [] (aP h.gs t)) (h.st t) <+: O):=by
    show _ <+: _;rw[HVS.out];obtain⟨l,e⟩:=mf h.gs (t+1) h.T (by omega);have h1:av [] (aP h.gs (t+1)) <+: av [] (aP h.gs h.T):=by rw[e,cn];exact dS _ _
    exact h1.trans (HBP.out 0)
   have HSX:Hid ((List.range (t+1)).flatMap (bh h.gs O)=(List.range t).flatMap (bh h.gs O)++[((h.st t).length:Int)]++(h.st t).map (num O)):=by
    show _=_;rw[List.range_succ,List.flatMap_append];simp[bh,AB h hlt]
   obtain⟨ln,hln⟩:∃ln,ln=(h.st t).length:=⟨_,rfl⟩;have HLE:=aa hln;rw[<- hln]at HNL HSX HLL;have hlb:ln<=64:=HLL.out;have hwl:IntKind.u64.wrap (ln:Int)=(ln:Int):=IntWalk.u64_in _ ⟨by omega,by omega⟩;have HBn:Hid (n1+1<=maxLen/\(n1+1)*8<=140737488355328):=⟨by unfold maxLen;omega,by omega⟩;obtain⟨Ga,Goa,k1,k2,k3,k4⟩:=hs1.own;have K1:=aa k1;have K2:=aa k2;have K3:=aa k3;have K4:=aa k4;have HLR2:Hid (Lr (wr.alloc (.cells #[.int .u64 (ln:Int)] 64)) 64 A1 n1 c1 Goa (bf ((List.range t).flatMap (bh h.gs O)))):=k2.alloc _;clear hclr hs1 hln k1 k2 k3 k4 HT0 hrk;go_wp2_with (first|(go_at_call 27;refine HNL.out.mono ?_;rintro e w' ⟨rfl,rfl⟩)|(at_builtin;refine aF rfl _ _ 96 rfl 64 i0 (.int .u64 0) 8 Tryz.underlying96 hi hz0 hz1 hz2 rfl rfl HLR2.out rfl (by rfl) (λ_=>cG wr (.int .u64 (ln:Int)) 64 rfl _ (Fr.refl _ _)) (by intro u hu;simp at hu;subst hu;rfl) HBn.out.1 HBn.out.2 ?_;intro A' c' G' w4 HLn4 HFn4 HGn4;have HS4:Hid (ShH w w4 L h s k (λ_=>False) tp mb (av [] (aP h.gs t)) A' (n1+1) c' ((List.range t).flatMap (bh h.gs O)++[(ln:Int)])):=ShH.app HS1.out K1.out K2.out K3.out K4.out (λx hx=>hx.elim) ((Fr.refl [] wr).alloc _) HFn4.out (by rw[gZ];exact HLn4.out) (λg hg=>(HGn4.out g hg).imp id (λh=>by rw[h.1];simp));have HC4:=aa (HLi.out w4 t HS4.out.hr HLT.out);rw[<- HLE.out]at HC4)|(go_at_call 68;refine HC4.out.mono ?_;rintro e w5 ⟨B5,cB5,G5,rfl,hl5,hf5,hg5⟩;have HS5:Hid (ShH w w5 L h s k (λx=>x∈G5) tp mb (av [] (aP h.gs t)) A' (n1+1) c' ((List.range t).flatMap (bh h.gs O)++[(ln:Int)])):=((HS4.out.oH (P':=λx=>w4.heap.size<=x) (λx h1 h2=>absurd h2 (by omega))).uf hf5).oH (λx _ hx=>hg5 x hx);have HT5:=aa (nH HS5.out (λx hx=>hl5.lt x hx) (by rw[<- HLE.out];exact hl5) (λg hg=>hg) HLB.out HPR.out HO0.out (Eh HOL.out hnm) (by omega) (by have:=HLL.out;have:=HLE.out;omega));rw[HVS.out,<- HSX.out,<- HLE.out]at HT5;unfold qH at HT5;clear hl5 hg5 hf5)|(go_at_call 67;refine HT5.out.mono ?_;rintro e w6 ⟨A6,c6,rfl,hs6⟩;have HS6:=aa (hs6.oH (P':=λ_=>False) (λ_ _ h=>h.elim));clear hs6))
   have HS7:Hid (ShH w w6 L h s k (λ_=>False) tp mb (av [] (aP h.gs (t+1))) A6 (n1+1+ln) c6 ((List.range (t+1)).flatMap (bh h.gs O))):=HS6.out;have hn7:n1+1+ln<=(t+1)*65:=by omega
   exact⟨⟨t+1,A6,n1+1+ln,c6,by go_num,rfl,hn7,by omega,HS7.out⟩,by simp[intOf];omega⟩
  ·obtain rfl:t=h.T:=by omega
   have HTM:=aa HOK.out.tm;have hn2:n1<=4160:=by have:=HTM.out;omega
   have HS1:=aa hs1;clear hs1 HT0 hn1;go_wp2_with fail
   go_loopw [6,9] (λp q wr=>∃(j:Nat) (A':Option Addr) (n' c':Nat),q=.int .i64 j/\p=.slice A' n' c'/\n'<=4160+j*1048578/\j<=4194304/\ShH w wr L h s k (λ_=>False) tp mb (bfs h.gs h.T j) A' n' c' ((List.range h.T).flatMap (bh h.gs O)++(O.take j).flatMap (bS h.gs O))) (λ_ q _=>4194304-(intOf q).toNat)
   case atStart=>exact⟨0,A1,n1,c1,rfl,rfl,by omega,by omega,by simpa[bfs] using HS1.out⟩
   case round=>
    obtain⟨j,A2,n2,c2,rfl,rfl,hn3,hj,hs2⟩:=hrel;obtain⟨G,Go,⟨AL,cL,l1,l2,l3⟩,k2,k3,k4⟩:=hs2.own;have x0:wr.cell? ⟨tp,0,none⟩=some (.slice AL (bfs h.gs h.T j).length cL):=l1.cell 0;have hpre:=HBP.out j;have hlen:(bfs h.gs h.T j).length<=4194304:=Eh hpre.length_le (Eh HOL.out hnm);have HS2:=aa hs2;by_cases hlt2:j<(bfs h.gs h.T j).length
    ·obtain⟨r,hr⟩:∃r,(bfs h.gs h.T j)[j]?=some r:=⟨_,List.getElem?_eq_getElem hlt2⟩;have hrm:=List.mem_of_getElem? hr;have hra:=HBI.out j r hrm;obtain⟨i,S,P,hri,o⟩:=HOK.out.iB hra;obtain rfl:r=(i:Int)+1:=by omega
     rw[hri]at hra;obtain⟨gl,ol,hAL,_,_,hcell,_,_⟩:=l2.pos (by omega);subst hAL;have y0:wr.cell? ⟨gl,ol+j,none⟩=some (.int .u64 ((i:Int)+1)):=by
      rw[hcell j hlt2];unfold bf;rw[List.getElem?_map,hr];rfl
     have hst:=dq h.gs h.T hr;rw[HS.kJ o hra]at hst;have hlb:∀r,r∈h.bu (i:Int)->0<=r/\r<=4194304:=λr hr=>by
      rcases HSO.out.refs _ hra r hr with h1|h1
      ·omega
      ·have:=HOK.out.ou _ h1;omega
     have HDS:=aa (me hs2 o hlb (by rw[<- hst];exact HBP.out (j+1)) HO0.out (Eh HOL.out hnm) (by omega));rw[<- hst]at HDS;unfold qH at HDS;have hOk:O[j]?=some ((i:Int)+1):=by
      obtain⟨l,hl⟩:=hpre;rw[<- hl,List.getElem?_append_left hlt2];exact hr
     have HSX:Hid ((List.range h.T).flatMap (bh h.gs O)++(O.take (j+1)).flatMap (bS h.gs O)=(List.range h.T).flatMap (bh h.gs O)++(O.take j).flatMap (bS h.gs O)++[(P:Int),((S-1-P:Nat):Int)]++(h.bu (i:Int)).map (num O)++dW h i S P):=by
      show _=_;rw[List.take_add_one,hOk];simp only[Option.toList_some,List.flatMap_append,List.flatMap_cons,List.flatMap_nil,List.append_nil];rw[vi o hra O];simp[List.append_assoc]
     rw[<- HSX.out]at HDS;have hps:n2+2+P+(S-1-P)<=4160+(j+1)*1048578:=by have:=o.ps;have:=o.max;omega
     have HPS:=aa hps;have hj4:j+1<=4194304:=by omega
     obtain⟨ml,hml⟩:∃ml,ml=(bfs h.gs h.T j).length:=⟨_,rfl⟩;rw[<- hml]at x0 hlt2 hlen;have hlt3:(j:Int)<(ml:Int):=by omega
     clear hs2 l1 l2 l3 k2 k3 k4 hpre hr hrm hra hcell hst hlb hOk hml HS1 hps o hri HSX;generalize n2+2+P+(S-1-P)=n5 at *;go_wp2_with fail
     refine HDS.out.mono ?_;rintro e w3 ⟨A4,c4,rfl,hs4⟩;have HS4:=aa hs4;clear hs4 HDS x0 y0;go_wp2_with fail
     go_roundw
     case rel=>exact⟨j+1,A4,n5,c4,by go_num,rfl,HPS.out,by omega,HS4.out⟩
     case measure=>simp[intOf];omega
    ·have hOe:=HBE.out j (by omega);have htk:O.take j=O:=by rw[List.take_of_length_le];rw[hOe];omega
     have HEND:Hid (ShH w wr L h s k (λ_=>False) tp mb (bfs h.gs h.T j) A2 n2 c2 (shape h.gs h.T)):=by
      show ShH _ _ _ _ _ _ _ _ _ _ _ _ _ _;rw[HSH.out];rwa[htk]at hs2
     obtain⟨ml,hml⟩:∃ml,ml=(bfs h.gs h.T j).length:=⟨_,rfl⟩;rw[<- hml]at x0 hlt2 hlen;have hlt3:¬ (j:Int)<(ml:Int):=by omega
     have NT:tp<wr.heap.size:=l1.lt;clear hs2 l1 l2 l3 k2 k3 k4 hpre hml HS1 htk hOe;go_wp2_with fail
     go_ret2
     obtain⟨G9,Go9,k19,k29,k39,k49⟩:=HEND.out.own;obtain rfl:n2=(shape h.gs h.T).length:=by have:=k29.len;rw[gz]at this;exact this.symm
     exact⟨A2,c2,rfl,Go9,k29,λg hg=>(k49 g hg).1,HEND.out.hr,HEND.out.fr⟩
end
end Go.Proofs.YtimkofiempcfdaaGreatDoor
