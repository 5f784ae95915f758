/- Package heap: Check. -/
import Derived.Test.YtimlkjppaalfaaaGreatDoorPW10
import Derived.Deep.AppendLies
set_option linter.unusedVariables false
set_option linter.unusedSimpArgs false
set_option maxHeartbeats 6400000
set_option maxRecDepth 100000
open Nat renaming le_trans->De
namespace Go.Proofs.YtimlkjppaalfaaaGreatDoor
open Go.RowKit Go.Gl
theorem xu{l:List Int}(h:l≠[]):HS.f9 l∈l:=by
 cases l with
|nil=>exact absurd rfl h
|cons x l=>
  show l.foldl min x∈x::l;have key:∀(l:List Int) (x:Int),l.foldl min x=x\/l.foldl min x∈l:=by
   intro l
   induction l with
  |nil=>intro x;exact .inl rfl
  |cons a l ih=>
    intro x;rw[List.foldl_cons];rcases ih (min x a)with h1|h1
    ·rw[h1];by_cases e:x<=a
     ·left;omega
     ·right;simp;left;omega
    ·right;simp[h1]
  rcases key l x with h1|h1
  ·rw[h1];simp
  ·simp[h1]
section
variable {h:HS}{s k:Nat}
theorem mZ{r:Int}{x:Int}:∀ {j},x∈h.bz r j->∃i,i<j/\x=h.bx i/\h.bx i<h.be i/\h.g.av (h.bx i)=r
|0,hx=>by cases hx
|j+1,hx=>by
  unfold HS.bz at hx;rcases List.mem_append.1 hx with h1|h1
  ·obtain⟨i,h2,h3⟩:=mZ h1;exact⟨i,by omega,h3⟩
  ·split at h1
   ·rename_i e
    simp at h1;exact⟨j,by omega,h1,e⟩
   ·cases h1
theorem p9(ok:h.Ok s k){r:Nat}(hr:r<h.R):((r*h.W:Nat):Int)<=h.cf r/\h.cf r<=((r*h.W+h.W:Nat):Int):=by
 unfold HS.cf;split
 ·exact ok.tok r hr
 ·rename_i e
  obtain⟨i,_,h2,_,h4⟩:=mZ (xu e);rw[h2];unfold Geo.av at h4;split at h4
  ·rename_i hc
   rw[ok.rw]at h4;have hw:=ok.ik;have h5:=Int.mul_ediv_add_emod (h.bx i) (h.W:Int);have h6:=Int.emod_nonneg (h.bx i) (show(h.W:Int)≠0 by omega);have h7:=Int.emod_lt_of_pos (h.bx i) (show 0<(h.W:Int)by omega);rw[h4,Int.mul_comm,<- Int.natCast_mul]at h5;omega
  ·omega
theorem zx(ok:h.Ok s k){r:Nat}(hr:r<h.R)(e:h.eY (r:Int)≠0):h.eY (r:Int)=30:=by
 have hb:=ok.bX hr;rcases gA h (r:Int)with⟨h1,_⟩|⟨r',e1,hr',hw⟩
 ·exact absurd (by omega) h1
 ·obtain rfl:r'=r:=by omega
  rcases hw with⟨_,h2,_⟩|⟨_,h2,_⟩|⟨_,_,_,_,h2,_⟩
  ·rw[h2]at e ⊢;have hi:=p9 ok hr;have hbn:gj h.n ((r'*h.W:Nat):Int) (h.cf r')=0:=by
    unfold gj;rw[if_pos ⟨by omega,hi.1,by omega⟩]
   unfold co at e ⊢;rw[if_pos hbn]at e ⊢;split at e
   ·exact absurd rfl e
   ·rfl
  ·rw[h2]at e ⊢;by_cases e0:h.aD (((r'*h.W:Nat):Int)+1)=0
   ·by_cases hc:h.zu r' (h.g.bA (h.bj (((r'*h.W:Nat):Int)+1)).size)
    ·exact absurd (pW e0 hc) e
    ·exact pX e0 hc
   ·rw[tN e0];have hw:=ok.ik;rcases HS.mX h (((r'*h.W:Nat):Int)+1)with⟨_,h3⟩|⟨_,_,h3⟩|⟨_,h3⟩|⟨_,h3⟩
    ·omega
    ·exact absurd ⟨by omega,by omega⟩ h3
    ·exact h3
    ·exact absurd h3 e0
  ·exact absurd h2 e
theorem m7(hs:h.Sound):h.jX=0:=by unfold HS.jX;rw[if_pos hs]
theorem gN(hs:¬ h.Sound):h.jX=30:=by unfold HS.jX;rw[if_neg hs]
theorem tP{α:Type}(f:Nat->List α)(b:Nat)(h:∀i,(f i).length<=b):∀n,((List.range n).flatMap f).length<=n*b
|0=>by simp
|n+1=>by
  rw[List.range_succ,List.flatMap_append,List.length_append];have h1:=tP f b h n;have h2:=h n;have e:([n].flatMap f).length=(f n).length:=by simp
  rw[e,Nat.add_mul];omega
theorem xv(ok:h.Ok s k):h.br.length<=274877906944:=by
 have hR:h.R<=65536:=by have:=ok.geo.jb;have:=ok.rg;omega
 have h1:=tP h.gy 4194304 (λi=>by
  unfold HS.gy;exact De (List.length_filter_le _ _) (De (lw ok _) ok.dC)) h.R
 have h2:h.R*4194304<=65536*4194304:=Nat.mul_le_mul_right _ hR;exact De h1 h2
theorem rP(ok:h.Ok s k){a r:Int}(hr:r∈h.cv a):0<=r/\r<18446744073709551616:=by
 unfold HS.cv at hr;obtain⟨i,_,rfl⟩:=List.mem_map.1 hr;have:=ok.fok i.toNat;omega
end
section
variable {w:World}{L:HL}{h:HS}{s k:Nat}
theorem rQ(H:Hr w L h s k):Calls Tryz.prog 26 #[.pointer (some ⟨L.hb,0,none⟩)] w (HrP w L h s k (.int .i64 h.jX)):=by
 have HH:=aa H;have HOK:=aa H.ok;have HOJ:=aa (oa H);unfold tO at HOJ;have HLen:=xv H.ok;have HQ:Hid (L.ab<w.heap.size):=by
  obtain⟨c,hc⟩:=H.ar;exact hc.set.lt
 have HRf:Hid (∀w' i,Hr w' L h s k->(i:Int)∈h.br->Calls Tryz.prog 56 #[.pointer (some ⟨L.hb,0,none⟩),.int .i64 (i:Int)] w' (HrR w' L h s k (h.cv (i:Int)))):=λw' i h' hi=>by
  obtain⟨j,S,P,e,o⟩:=h'.ok.lq hi;rw[e];exact uF h' o
 unfold HrR at HRf;have HLi:Hid (∀w' i,Hr w' L h s k->i<h.T->Calls Tryz.prog 57 #[.pointer (some ⟨L.S i,0,none⟩)] w' (iz w' (h.st i))):=λw' i h' hi=>by
  obtain⟨F,h1⟩:=h'.stk i hi;exact un h1 (by have:=h'.ok.uC i hi;omega)
 unfold iz at HLi;unfold HrP;obtain⟨CE,hCE⟩:∃CE,CE=h.jX:=⟨_,rfl⟩;rw[<- hCE];have HCE:=aa hCE;clear H hCE;go_enter Tryz.func26,Tryz.ntmps26
 go_wp2_with fail
 refine HOJ.out.mono ?_;rintro e w1 ⟨hH1,hf1,hway⟩;rcases hway with⟨A,c,G,mb,rfl,hrows,hl,hkn,hg,hmb⟩|⟨r,hr,he,rfl⟩
 ·have HL1:=aa hl.slz;have HK1:=aa hkn;have HH1:=aa hH1;have HF1:=aa hf1;have HRows:=aa hrows;have HS0:Hid ((∀m,m<h.br.length->bN (h.cv (h.br.getD m 0)) h.br=true)->(∀i,i<h.T->bN (h.st i) h.br=true)->CE=0):=λh1 h2=>HCE.out.trans <| m7 ⟨HRows.out,λa ha=>by
   obtain⟨m,hm,rfl⟩:=List.getElem_of_mem ha;have:=dX.1 (h1 m hm);rwa[show h.br.getD m 0=h.br[m]by simp[hm]]at this,λi hi=>dX.1 (h2 i hi)⟩
  have HS1:Hid (∀m,m<h.br.length->bN (h.cv (h.br.getD m 0)) h.br=false->CE=30):=λm hm e=>HCE.out.trans <| gN λhs=>by
   have:=dX.2 (hs.refs (h.br.getD m 0) (by simp[hm]));rw[e]at this;cases this
  have HS2:Hid (∀i,i<h.T->bN (h.st i) h.br=false->CE=30):=λi hi e=>HCE.out.trans <| gN λhs=>by
   have:=dX.2 (hs.stk i hi);rw[e]at this;cases this
  have HM:Hid (∀m,m<h.br.length->h.br.getD m 0∈h.br):=λm hm=>by simp[hm]
  obtain⟨n,hn⟩:∃n,n=h.br.length:=⟨_,rfl⟩;have HNM:Hid (n<=274877906944):=by rw[hn];exact HLen
  rw[<- hn]at HL1 HS0 HS1 HM ⊢;have hB:=Blk.new w1 140 #[.slice A n c,.map (some mb)];have HB1:=aa hB;have HH2:Hid (Hr (w1.alloc (.cells #[.slice A n c,.map (some mb)] 140)) L h s k):=hH1.fr0 ((Fr.refl _ _).alloc _);have HF2:Hid (Fr [L.ab] w (w1.alloc (.cells #[.slice A n c,.map (some mb)] 140))):=hf1.alloc _;have HK2:Hid (bG (w1.alloc (.cells #[.slice A n c,.map (some mb)] 140)) mb h.br):=hkn.fr ((Fr.refl [] _).alloc _) (by simp);have HL2:Hid (∀w',Fr [L.ab] (w1.alloc (.cells #[.slice A n c,.map (some mb)] 140)) w'->Sl w' A n (λk=>.int .i64 (h.br.getD k 0))):=λw' hf=>by
   obtain⟨c9,h9⟩:=hH1.ar;have:=(hl.alloc (.cells #[.slice A n c,.map (some mb)] 140)).fr hf (λg hg hx=>by simp at hx;rw[hx]at hg;exact hl.apart h9.set (by decide) hg);have:=this.slz;rwa[<- hn]at this
  clear hl hkn hH1 hf1 hrows hg hmb hn hB HLen HL1;go_wp2_with fail
  generalize w1.alloc (.cells #[.slice A n c,.map (some mb)] 140)=w2 at *;obtain⟨t3,ht3⟩:∃t3,t3=w1.heap.size:=⟨_,rfl⟩;rw[<- ht3]at HB1 ⊢;clear ht3;have HD:Hid (t3≠L.ab/\mb≠L.ab):=by
   obtain⟨c9,h9⟩:=HH2.out.ar;obtain⟨f,kf,_⟩:=HK2.out;exact⟨HB1.out.apart h9.set (by decide),kf.df h9.set⟩
  have HT0:Hid (∀w',Fr [L.ab] w2 w'->w'.cell? ⟨t3,0,none⟩=some (.slice A n c)/\w'.cell? ⟨t3,1,none⟩=some (.map (some mb))/\t3<w'.heap.size/\bG w' mb h.br/\L.hb<w'.heap.size):=λw' hf=>by
   have hb:=HB1.out.fr hf (by simpa using HD.out.1);exact⟨hb.cell 0,hb.cell 1,hb.lt,HK2.out.fr hf (by simpa using HD.out.2),Nat.lt_of_lt_of_le HH2.out.st.lt hf.size⟩
  have HL3:Hid (∀w',Fr [L.ab] w2 w'->Sl w' A n (λk=>.int .i64 (h.br.getD k 0))):=λw' hf=>HL2.out w' hf;have hnb:n<=274877906944:=HNM.out;go_loopw [22] (λq wr=>∃j:Nat,q=.int .i64 j/\j<=n/\(∀m,m<j->bN (h.cv (h.br.getD m 0)) h.br=true)/\Hr wr L h s k/\Fr [L.ab] w2 wr) (λq _=>n-(intOf q).toNat)
  case atStart=>exact⟨0,rfl,Nat.zero_le _,(λm hm=>absurd hm (by omega)),HH2.out,Fr.refl _ _⟩
  case round=>
   obtain⟨j,rfl,hj,hkn,hH,hf⟩:=hrel;have HKN:=aa hkn;have HH3:=aa hH;have HF3:=aa hf;obtain⟨x0,x1,NT,_,NH⟩:=HT0.out wr hf;by_cases hlt:j<n
   ·have hlt1:(j:Int)<(n:Int):=by omega
    obtain⟨b,off,rfl,hb0,hcl⟩:=HL3.out wr hf (by omega);have c0:wr.cell? ⟨b,off+j,none⟩=some (.int .i64 (h.br.getD j 0)):=hcl j hlt;have HKN1:Hid (bN (h.cv (h.br.getD j 0)) h.br=true->∀m,m<j+1->bN (h.cv (h.br.getD m 0)) h.br=true):=λe m hm=>by
     rcases Nat.lt_or_ge m j with h3|h3
     ·exact HKN.out m h3
     ·obtain rfl:m=j:=by omega
      exact e
    have HC1:=aa (HRf.out wr.drew (h.br.getD j 0) (hH.fr0 (Fr.refl _ _).drew) (HM.out j hlt));have HBD:Hid (∀r,r∈h.cv (h.br.getD j 0)->0<=r/\r<18446744073709551616):=λr hr=>rP HOK.out hr;have HRN:Hid ((h.cv (h.br.getD j 0)).length<=1048576):=by
     obtain⟨i,S,P,e,o⟩:=HOK.out.lq (HM.out j hlt);rw[e,o.refs];have:=o.ps;have:=o.max;show _<=_;simp;omega
    have HBad:=aa (HS1.out j hlt);clear hkn hH hf hb0 hcl;generalize h.br.getD j 0=a at *;generalize h.cv a=l at *;have HHas:Hid (∀w' B cB,bG w' mb h.br->Sl w' B l.length (λk=>.int .u64 (l.getD k 0))->Calls Tryz.prog 55 #[.agg #[.slice (some ⟨b,off,none⟩) n c,.map (some mb)],.slice B l.length cB] w' λe w''=>e=.returned (.bool (bN l h.br))/\Fr [] w' w''):=λw' B cB hk hs=>pZ hk _ rfl hs HBD.out (by have:=HRN.out;omega);have HRM:Hid (∀w3 A3 c3 G3,Lr w3 154 A3 l.length c3 G3 (cN l)->Hr w3 L h s k->Fr [L.ab] wr.drew w3->(Hr w3 L h s k/\Fr [L.ab] w2 w3/\w3.cell? ⟨t3,0,none⟩=some (.slice (some ⟨b,off,none⟩) n c)/\w3.cell? ⟨t3,1,none⟩=some (.map (some mb))/\t3<w3.heap.size/\Calls Tryz.prog 55 #[.agg #[.slice (some ⟨b,off,none⟩) n c,.map (some mb)],.slice A3 l.length c3] w3 λe w''=>e=.returned (.bool (bN l h.br))/\Fr [] w3 w'')):=λw3 A3 c3 G3 h1 h2 h3=>by
     have hf4:=HF3.out.ae h3.fg;obtain⟨y0,y1,NT3,hk3,_⟩:=HT0.out _ hf4;exact⟨h2,hf4,y0,y1,NT3,HHas.out w3 A3 c3 hk3 (tG h1)⟩
    clear HHas;by_cases hB:bN l h.br=true
    ·have HKN2:=aa (HKN1.out hB);rw[hB]at HRM;clear hB HBad HKN1;go_wp2_with fail
     go_region_with (first|(go_at_call 56;refine HC1.out.mono ?_;rintro e w3 ⟨A3,c3,G3,rfl,hl3,hg3,hH3,hf3⟩;obtain⟨hH4,hf4,y0,y1,NT3,hx⟩:=HRM.out w3 A3 c3 G3 hl3 hH3 hf3;have HH4:=aa hH4;have HF4:=aa hf4;have HX:=aa hx;clear hl3 hg3 hH3 hf3 hH4 hf4 hx)|(go_at_call 55;refine HX.out.mono ?_;rintro e w4 ⟨rfl,hf5⟩;have HF5:=aa hf5;clear hf5))
     all_goals
      go_wp2_with fail
      exact⟨⟨j+1,by go_num,by omega,HKN2.out,HH4.out.fr0 HF5.out,HF4.out.aO HF5.out⟩,by simp[intOf];omega⟩
    ·have hB':bN l h.br=false:=by simpa using hB
     have hc:CE=30:=HBad.out hB';rw[hB']at HRM;clear hB hB' HBad HKN1 HS0 HS1 HS2;subst hc;go_wp2_with fail
     go_region_with (first|(go_at_call 56;refine HC1.out.mono ?_;rintro e w3 ⟨A3,c3,G3,rfl,hl3,hg3,hH3,hf3⟩;obtain⟨hH4,hf4,y0,y1,NT3,hx⟩:=HRM.out w3 A3 c3 G3 hl3 hH3 hf3;have HH4:=aa hH4;have HF4:=aa hf4;have HX:=aa hx;clear hl3 hg3 hH3 hf3 hH4 hf4 hx)|(go_at_call 55;refine HX.out.mono ?_;rintro e w4 ⟨rfl,hf5⟩;have HF5:=aa hf5;clear hf5))
     all_goals
      go_wp2_with fail
      go_ret
      exact⟨rfl,HH4.out.fr0 HF5.out,HF2.out.ae (HF4.out.aO HF5.out)⟩
   ·obtain rfl:j=n:=by omega
    have r0:=hH.cR;obtain⟨rA,hrA0⟩:∃rA,rA=L.rA:=⟨_,rfl⟩;rw[<- hrA0]at r0;have HRA:=aa hrA0;clear hrA0;clear hkn hH hf;go_wp2_with fail
    go_loopw [38] (λq wr=>∃i:Nat,q=.int .i64 i/\i<=h.T/\(∀m,m<i->bN (h.st m) h.br=true)/\Hr wr L h s k/\Fr [L.ab] w2 wr) (λq _=>h.T-(intOf q).toNat)
    case atStart=>exact⟨0,rfl,Nat.zero_le _,(λm hm=>absurd hm (by omega)),HH3.out,HF3.out⟩
    case round=>
     obtain⟨i,rfl,hi,hkn2,hH,hf⟩:=hrel;have HKN5:=aa hkn2;have HH5:=aa hH;have HF5:=aa hf;obtain⟨x0,x1,NT,_,NH⟩:=HT0.out wr hf;by_cases hlt2:i<h.T
     ·have hlt3:(i:Int)<(h.T:Int):=by omega
      have hTm:=HOK.out.tm;obtain⟨gr,offr,hrA,_,hgr,hclr,_⟩:=hH.row.pos (by omega);have hrA':=HRA.out.trans hrA;clear hrA HRA;subst hrA';have c0:wr.cell? ⟨gr,offr+i,none⟩=some (.pointer (some ⟨L.S i,0,none⟩)):=by rw[hclr i hlt2,zw _ hlt2]
      have HKN6:Hid (bN (h.st i) h.br=true->∀m,m<i+1->bN (h.st m) h.br=true):=λe m hm=>by
       rcases Nat.lt_or_ge m i with h3|h3
       ·exact HKN5.out m h3
       ·obtain rfl:m=i:=by omega
        exact e
      have HC1:=aa (HLi.out wr.drew i (hH.fr0 (Fr.refl _ _).drew) hlt2);have HBD:Hid (∀r,r∈h.st i->0<=r/\r<18446744073709551616):=HOK.out.rok i hlt2;have HRN:Hid ((h.st i).length<=64):=HOK.out.uC i hlt2;have HBad:=aa (HS2.out i hlt2);clear hkn2 hH hf hclr;generalize h.st i=l at *;generalize L.S i=sp at *;have HRM:Hid (∀w3 A3 c3 G3,Lr w3 154 A3 l.length c3 G3 (cN l)->Fr [] wr.drew w3->(Hr w3 L h s k/\Fr [L.ab] w2 w3/\w3.cell? ⟨t3,0,none⟩=some (.slice A j c)/\w3.cell? ⟨t3,1,none⟩=some (.map (some mb))/\t3<w3.heap.size/\Calls Tryz.prog 55 #[.agg #[.slice A j c,.map (some mb)],.slice A3 l.length c3] w3 λe w''=>e=.returned (.bool (bN l h.br))/\Fr [] w3 w'')):=λw3 A3 c3 G3 h1 h3=>by
       have hf4:=HF5.out.aO h3.fg;obtain⟨y0,y1,NT3,hk3,_⟩:=HT0.out _ hf4;exact⟨HH5.out.fr0 h3.fg,hf4,y0,y1,NT3,pZ hk3 _ rfl (tG h1) HBD.out (by have:=HRN.out;omega)⟩
      by_cases hB:bN l h.br=true
      ·have HKN2:=aa (HKN6.out hB);rw[hB]at HRM;clear hB HBad HKN6;go_wp2_with fail
       go_region_with (first|(go_at_call 57;refine HC1.out.mono ?_;rintro e w3 ⟨A3,c3,G3,rfl,hl3,hf3,hg3⟩;obtain⟨hH4,hf4,y0,y1,NT3,hx⟩:=HRM.out w3 A3 c3 G3 hl3 hf3;have HH4:=aa hH4;have HF4:=aa hf4;have HX:=aa hx;clear hl3 hg3 hf3 hH4 hf4 hx)|(go_at_call 55;refine HX.out.mono ?_;rintro e w4 ⟨rfl,hf5⟩;have HF6:=aa hf5;clear hf5))
       all_goals
        go_wp2_with fail
        go_roundw
        case rel=>exact⟨i+1,by go_num,by omega,HKN2.out,HH4.out.fr0 HF6.out,HF4.out.aO HF6.out⟩
        case measure=>simp[intOf];omega
      ·have hB':bN l h.br=false:=by simpa using hB
       have hc:CE=30:=HBad.out hB';rw[hB']at HRM;clear hB hB' HBad HKN6 HS0 HS1 HS2;subst hc;go_wp2_with fail
       go_region_with (first|(go_at_call 57;refine HC1.out.mono ?_;rintro e w3 ⟨A3,c3,G3,rfl,hl3,hf3,hg3⟩;obtain⟨hH4,hf4,y0,y1,NT3,hx⟩:=HRM.out w3 A3 c3 G3 hl3 hf3;have HH4:=aa hH4;have HF4:=aa hf4;have HX:=aa hx;clear hl3 hg3 hf3 hH4 hf4 hx)|(go_at_call 55;refine HX.out.mono ?_;rintro e w4 ⟨rfl,hf5⟩;have HF6:=aa hf5;clear hf5))
       all_goals
        go_wp2_with fail
        go_ret
        exact⟨rfl,HH4.out.fr0 HF6.out,HF2.out.ae (HF4.out.aO HF6.out)⟩
     ·obtain rfl:i=h.T:=by omega
      have hc:CE=0:=HS0.out HKN.out HKN5.out;clear hkn2 hH hf HS0 HS1 HS2;subst hc;go_wp2_with fail
      go_ret
      exact⟨rfl,HH5.out,HF2.out.ae HF5.out⟩
 ·have hE:CE=h.eY (r:Int):=by
   rw[zx HOK.out hr he,HCE.out];exact gN λhs=>he (hs.rows r hr)
  have HH1:=aa hH1;have HF1:=aa hf1;have he':(h.eY (r:Int) !=0)=true:=by simpa using he
  clear he hH1 hf1 HCE;rw[<- hE]at he' ⊢;clear hE;go_wp2_with fail
  go_ret
  exact⟨rfl,HH1.out.fr0 ((Fr.refl _ _).alloc _),HF1.out.alloc _⟩
end
end Go.Proofs.YtimlkjppaalfaaaGreatDoor
