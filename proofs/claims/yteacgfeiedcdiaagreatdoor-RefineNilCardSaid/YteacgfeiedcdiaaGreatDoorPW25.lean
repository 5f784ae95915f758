/- Package heap: Check. -/
import Derived.Test.YteacgfeiedcdiaaGreatDoorPW24
import Derived.Deep.AppendLies
namespace Go.Proofs.YteacgfeiedcdiaaGreatDoor
set_option linter.unusedVariables false
set_option linter.unusedSimpArgs false
set_option maxRecDepth 100000
open Go.RowKit Go.Gl
theorem minL_mem{l:List Int}(h:l≠[]):HS.minL l∈l:=by
 cases l with
 | nil=>exact absurd rfl h
 | cons x l=>
  show l.foldl min x∈x::l
  have key:∀(l:List Int) (x:Int),l.foldl min x=x∨l.foldl min x∈l:=by
   intro l
   induction l with
   | nil=>intro x;exact .inl rfl
   | cons a l ih=>
    intro x
    rw [List.foldl_cons]
    rcases ih (min x a)with h1 | h1
    ·rw [h1]
     by_cases e:x≤a
     ·left;omega
     ·right;simp;left;omega
    ·right;simp [h1]
  rcases key l x with h1 | h1
  ·rw [h1];simp
  ·simp [h1]
section
variable {h:HS}{s k:Nat}
theorem leftL_mem{r:Int}{x:Int}:∀ {j},x∈h.leftL r j→∃i,i<j∧x=h.bx i∧h.bx i<h.be i∧h.g.regionOf (h.bx i)=r
 | 0,hx=>by cases hx
 | j+1,hx=>by
  unfold HS.leftL at hx
  rcases List.mem_append.1 hx with h1 | h1
  ·obtain⟨i,h2,h3⟩:=leftL_mem h1
   exact⟨i,by omega,h3⟩
  ·split at h1
   ·rename_i e
    simp at h1
    exact⟨j,by omega,h1,e⟩
   ·cases h1
theorem endOf_in(ok:h.Ok s k){r:Nat}(hr:r<h.R):((r*h.W:Nat):Int)≤h.endOf r∧h.endOf r≤((r*h.W+h.W:Nat):Int):=by
 unfold HS.endOf
 split
 ·exact ok.tok r hr
 ·rename_i e
  obtain⟨i,_,h2,_,h4⟩:=leftL_mem (minL_mem e)
  rw [h2]
  unfold Geo.regionOf at h4
  split at h4
  ·rename_i hc
   rw [ok.rw]at h4
   have hw:=ok.wpos
   have h5:=Int.mul_ediv_add_emod (h.bx i) (h.W:Int)
   have h6:=Int.emod_nonneg (h.bx i) (show(h.W:Int)≠0 by omega)
   have h7:=Int.emod_lt_of_pos (h.bx i) (show 0<(h.W:Int)by omega)
   rw [h4,Int.mul_comm,← Int.natCast_mul]at h5
   omega
  ·omega
theorem rowE_30(ok:h.Ok s k){r:Nat}(hr:r<h.R)(e:h.rowE (r:Int)≠0):h.rowE (r:Int)=30:=by
 have hb:=ok.base_le hr
 rcases rowE_ways h (r:Int)with⟨h1,_⟩ | ⟨r',e1,hr',hw⟩
 ·exact absurd (by omega) h1
 ·obtain rfl:r'=r:=by omega
  rcases hw with⟨_,h2,_⟩ | ⟨_,h2,_⟩ | ⟨_,_,_,_,h2,_⟩
  ·rw [h2]at e ⊢
   have hi:=endOf_in ok hr
   have hbn:bndE h.n ((r'*h.W:Nat):Int) (h.endOf r')=0:=by
    unfold bndE
    rw [if_pos ⟨by omega,hi.1,by omega⟩]
   unfold startsE at e ⊢
   rw [if_pos hbn]at e ⊢
   split at e
   ·exact absurd rfl e
   ·rfl
  ·rw [h2]at e ⊢
   by_cases e0:h.objE (((r'*h.W:Nat):Int)+1)=0
   ·by_cases hc:h.Cont r' (h.g.spanOf (h.objV (((r'*h.W:Nat):Int)+1)).size)
    ·exact absurd (bigE_yes e0 hc) e
    ·exact bigE_bad e0 hc
   ·rw [bigE_no e0]
    have hw:=ok.wpos
    rcases HS.objE_ways h (((r'*h.W:Nat):Int)+1)with⟨_,h3⟩ | ⟨_,_,h3⟩ | ⟨_,h3⟩ | ⟨_,h3⟩
    ·omega
    ·exact absurd ⟨by omega,by omega⟩ h3
    ·exact h3
    ·exact absurd h3 e0
  ·exact absurd h2 e
theorem checkE_ok(hs:h.Sound):h.checkE=0:=by unfold HS.checkE;rw [if_pos hs]
theorem checkE_bad(hs:¬ h.Sound):h.checkE=30:=by unfold HS.checkE;rw [if_neg hs]
theorem flat_le{α:Type}(f:Nat→List α)(b:Nat)(h:∀i,(f i).length≤b):∀n,((List.range n).flatMap f).length≤n*b
 | 0=>by simp
 | n+1=>by
  rw [List.range_succ,List.flatMap_append,List.length_append]
  have h1:=flat_le f b h n
  have h2:=h n
  have e:([n].flatMap f).length=(f n).length:=by simp
  rw [e,Nat.add_mul]
  omega
theorem objL_len(ok:h.Ok s k):h.objL.length≤274877906944:=by
 have hR:h.R≤65536:=by have:=ok.geo.r65536;have:=ok.rg;omega
 have h1:=flat_le h.objsK 4194304 (fun i=>by
  unfold HS.objsK
  exact Nat.le_trans (List.length_filter_le _ _) (Nat.le_trans (rowL_len ok _) ok.nmax)) h.R
 have h2:h.R*4194304≤65536*4194304:=Nat.mul_le_mul_right _ hR
 exact Nat.le_trans h1 h2
theorem refsAt_u64(ok:h.Ok s k){a r:Int}(hr:r∈h.refsAt a):0≤r∧r<18446744073709551616:=by
 unfold HS.refsAt at hr
 obtain⟨i,_,rfl⟩:=List.mem_map.1 hr
 have:=ok.fok i.toNat
 omega
end
section
variable {w:World}{L:HL}{h:HS}{s k:Nat}
set_option maxHeartbeats 6400000 in
theorem hcheck_any(H:Hr w L h s k):Calls Tryz.prog 60 #[.pointer (some ⟨L.hb,0,none⟩)] w (HrP w L h s k (.int .i64 h.checkE)):=by
 have HH:=hide H
 have HOK:=hide H.ok
 have HOJ:=hide (hobjects_any H)
 unfold ObjsP at HOJ
 have HLen:=objL_len H.ok
 have HQ:Hid (L.ab<w.heap.size):=by
  obtain⟨c,hc⟩:=H.ar
  exact hc.set.lt
 have HRf:Hid (∀w' i,Hr w' L h s k→(i:Int)∈h.objL→Calls Tryz.prog 111 #[.pointer (some ⟨L.hb,0,none⟩),.int .i64 (i:Int)] w' (HrR w' L h s k (h.refsAt (i:Int)))):=fun w' i h' hi=>by
  obtain⟨j,S,P,e,o⟩:=h'.ok.objAt hi
  rw [e]
  exact hrefs_any h' o
 unfold HrR at HRf
 have HLi:Hid (∀w' i,Hr w' L h s k→i<h.T→Calls Tryz.prog 112 #[.pointer (some ⟨L.S i,0,none⟩)] w' (ClonePost w' (h.st i))):=fun w' i h' hi=>by
  obtain⟨F,h1⟩:=h'.stk i hi
  exact hlist_any h1 (by have:=h'.ok.rlen i hi;omega)
 unfold ClonePost at HLi
 unfold HrP
 obtain⟨CE,hCE⟩:∃CE,CE=h.checkE:=⟨_,rfl⟩
 rw [← hCE]
 have HCE:=hide hCE
 clear H hCE
 go_enter Tryz.func60,Tryz.ntmps60
 go_wp2_with fail
 refine HOJ.out.mono ?_
 rintro e w1 ⟨hH1,hf1,hway⟩
 rcases hway with⟨A,c,G,mb,rfl,hrows,hl,hkn,hg,hmb⟩ | ⟨r,hr,he,rfl⟩
 ·have HL1:=hide hl.slz
  have HK1:=hide hkn
  have HH1:=hide hH1
  have HF1:=hide hf1
  have HRows:=hide hrows
  have HS0:Hid ((∀m,m<h.objL.length→knownB (h.refsAt (h.objL.getD m 0)) h.objL=true)→(∀i,i<h.T→knownB (h.st i) h.objL=true)→CE=0):=fun h1 h2=>HCE.out.trans <| checkE_ok ⟨HRows.out,fun a ha=>by
   obtain⟨m,hm,rfl⟩:=List.getElem_of_mem ha
   have:=knownB_iff.1 (h1 m hm)
   rwa [show h.objL.getD m 0=h.objL[m]by simp [hm]]at this,fun i hi=>knownB_iff.1 (h2 i hi)⟩
  have HS1:Hid (∀m,m<h.objL.length→knownB (h.refsAt (h.objL.getD m 0)) h.objL=false→CE=30):=fun m hm e=>HCE.out.trans <| checkE_bad fun hs=>by
   have:=knownB_iff.2 (hs.refs (h.objL.getD m 0) (by simp [hm]))
   rw [e]at this
   cases this
  have HS2:Hid (∀i,i<h.T→knownB (h.st i) h.objL=false→CE=30):=fun i hi e=>HCE.out.trans <| checkE_bad fun hs=>by
   have:=knownB_iff.2 (hs.stk i hi)
   rw [e]at this
   cases this
  have HM:Hid (∀m,m<h.objL.length→h.objL.getD m 0∈h.objL):=fun m hm=>by simp [hm]
  obtain⟨n,hn⟩:∃n,n=h.objL.length:=⟨_,rfl⟩
  have HNM:Hid (n≤274877906944):=by rw [hn];exact HLen
  rw [← hn]at HL1 HS0 HS1 HM ⊢
  have hB:=Blk.new w1 187 #[.slice A n c,.map (some mb)]
  have HB1:=hide hB
  have HH2:Hid (Hr (w1.alloc (.cells #[.slice A n c,.map (some mb)] 187)) L h s k):=hH1.fr0 ((Fr.refl _ _).alloc _)
  have HF2:Hid (Fr [L.ab] w (w1.alloc (.cells #[.slice A n c,.map (some mb)] 187))):=hf1.alloc _
  have HK2:Hid (KnownAt (w1.alloc (.cells #[.slice A n c,.map (some mb)] 187)) mb h.objL):=hkn.fr ((Fr.refl [] _).alloc _) (by simp)
  have HL2:Hid (∀w',Fr [L.ab] (w1.alloc (.cells #[.slice A n c,.map (some mb)] 187)) w'→Sl w' A n (fun k=>.int .i64 (h.objL.getD k 0))):=fun w' hf=>by
   obtain⟨c9,h9⟩:=hH1.ar
   have:=(hl.alloc (.cells #[.slice A n c,.map (some mb)] 187)).fr hf (fun g hg hx=>by simp at hx;rw [hx]at hg;exact hl.apart h9.set (by decide) hg)
   have:=this.slz
   rwa [← hn]at this
  clear hl hkn hH1 hf1 hrows hg hmb hn hB HLen HL1
  go_wp2_with fail
  generalize w1.alloc (.cells #[.slice A n c,.map (some mb)] 187)=w2 at *
  obtain⟨t3,ht3⟩:∃t3,t3=w1.heap.size:=⟨_,rfl⟩
  rw [← ht3]at HB1 ⊢
  clear ht3
  have HD:Hid (t3≠L.ab∧mb≠L.ab):=by
   obtain⟨c9,h9⟩:=HH2.out.ar
   obtain⟨f,kf,_⟩:=HK2.out
   exact⟨HB1.out.apart h9.set (by decide),kf.blk_ne h9.set⟩
  have HT0:Hid (∀w',Fr [L.ab] w2 w'→w'.cell? ⟨t3,0,none⟩=some (.slice A n c)∧w'.cell? ⟨t3,1,none⟩=some (.map (some mb))∧t3<w'.heap.size∧KnownAt w' mb h.objL∧L.hb<w'.heap.size):=fun w' hf=>by
   have hb:=HB1.out.fr hf (by simpa using HD.out.1)
   exact⟨hb.cell 0,hb.cell 1,hb.lt,HK2.out.fr hf (by simpa using HD.out.2),Nat.lt_of_lt_of_le HH2.out.st.lt hf.size⟩
  have HL3:Hid (∀w',Fr [L.ab] w2 w'→Sl w' A n (fun k=>.int .i64 (h.objL.getD k 0))):=fun w' hf=>HL2.out w' hf
  have hnb:n≤274877906944:=HNM.out
  go_loopw [22] (fun q wr=>∃j:Nat,q=.int .i64 j∧j≤n∧(∀m,m<j→knownB (h.refsAt (h.objL.getD m 0)) h.objL=true)∧Hr wr L h s k∧Fr [L.ab] w2 wr) (fun q _=>n-(intOf q).toNat)
  case atStart=>exact⟨0,rfl,Nat.zero_le _,(fun m hm=>absurd hm (by omega)),HH2.out,Fr.refl _ _⟩
  case round=>
   obtain⟨j,rfl,hj,hkn,hH,hf⟩:=hrel
   have HKN:=hide hkn
   have HH3:=hide hH
   have HF3:=hide hf
   obtain⟨x0,x1,NT,_,NH⟩:=HT0.out wr hf
   by_cases hlt:j<n
   ·have hlt1:(j:Int)<(n:Int):=by omega
    obtain⟨b,off,rfl,hb0,hcl⟩:=HL3.out wr hf (by omega)
    have c0:wr.cell? ⟨b,off+j,none⟩=some (.int .i64 (h.objL.getD j 0)):=hcl j hlt
    have HKN1:Hid (knownB (h.refsAt (h.objL.getD j 0)) h.objL=true→∀m,m<j+1→knownB (h.refsAt (h.objL.getD m 0)) h.objL=true):=fun e m hm=>by
     rcases Nat.lt_or_ge m j with h3 | h3
     ·exact HKN.out m h3
     ·obtain rfl:m=j:=by omega
      exact e
    have HC1:=hide (HRf.out wr.drew (h.objL.getD j 0) (hH.fr0 (Fr.refl _ _).drew) (HM.out j hlt))
    have HBD:Hid (∀r,r∈h.refsAt (h.objL.getD j 0)→0≤r∧r<18446744073709551616):=fun r hr=>refsAt_u64 HOK.out hr
    have HRN:Hid ((h.refsAt (h.objL.getD j 0)).length≤1048576):=by
     obtain⟨i,S,P,e,o⟩:=HOK.out.objAt (HM.out j hlt)
     rw [e,o.refs]
     have:=o.ps
     have:=o.max
     show _≤_
     simp
     omega
    have HBad:=hide (HS1.out j hlt)
    clear hkn hH hf hb0 hcl
    generalize h.objL.getD j 0=a at *
    generalize h.refsAt a=l at *
    have HHas:Hid (∀w' B cB,KnownAt w' mb h.objL→Sl w' B l.length (fun k=>.int .u64 (l.getD k 0))→Calls Tryz.prog 110 #[.agg #[.slice (some ⟨b,off,none⟩) n c,.map (some mb)],.slice B l.length cB] w' fun e w''=>e=.returned (.bool (knownB l h.objL))∧Fr [] w' w''):=fun w' B cB hk hs=>hhas_any hk _ rfl hs HBD.out (by have:=HRN.out;omega)
    have HRM:Hid (∀w3 A3 c3 G3,Lr w3 90 A3 l.length c3 G3 (refV l)→Hr w3 L h s k→Fr [L.ab] wr.drew w3→(Hr w3 L h s k∧Fr [L.ab] w2 w3∧w3.cell? ⟨t3,0,none⟩=some (.slice (some ⟨b,off,none⟩) n c)∧w3.cell? ⟨t3,1,none⟩=some (.map (some mb))∧t3<w3.heap.size∧Calls Tryz.prog 110 #[.agg #[.slice (some ⟨b,off,none⟩) n c,.map (some mb)],.slice A3 l.length c3] w3 fun e w''=>e=.returned (.bool (knownB l h.objL))∧Fr [] w3 w'')):=fun w3 A3 c3 G3 h1 h2 h3=>by
     have hf4:=HF3.out.trans_same h3.from_drew
     obtain⟨y0,y1,NT3,hk3,_⟩:=HT0.out _ hf4
     exact⟨h2,hf4,y0,y1,NT3,HHas.out w3 A3 c3 hk3 (refSl h1)⟩
    clear HHas
    by_cases hB:knownB l h.objL=true
    ·have HKN2:=hide (HKN1.out hB)
     rw [hB]at HRM
     clear hB HBad HKN1
     go_wp2_with fail
     go_region_with (first | (go_at_call 111;refine HC1.out.mono ?_;rintro e w3 ⟨A3,c3,G3,rfl,hl3,hg3,hH3,hf3⟩;obtain⟨hH4,hf4,y0,y1,NT3,hx⟩:=HRM.out w3 A3 c3 G3 hl3 hH3 hf3;have HH4:=hide hH4;have HF4:=hide hf4;have HX:=hide hx;clear hl3 hg3 hH3 hf3 hH4 hf4 hx) | (go_at_call 110;refine HX.out.mono ?_;rintro e w4 ⟨rfl,hf5⟩;have HF5:=hide hf5;clear hf5))
     all_goals
      go_wp2_with fail
      exact⟨⟨j+1,by go_num,by omega,HKN2.out,HH4.out.fr0 HF5.out,HF4.out.trans_nil HF5.out⟩,by simp [intOf];omega⟩
    ·have hB':knownB l h.objL=false:=by simpa using hB
     have hc:CE=30:=HBad.out hB'
     rw [hB']at HRM
     clear hB hB' HBad HKN1 HS0 HS1 HS2
     subst hc
     go_wp2_with fail
     go_region_with (first | (go_at_call 111;refine HC1.out.mono ?_;rintro e w3 ⟨A3,c3,G3,rfl,hl3,hg3,hH3,hf3⟩;obtain⟨hH4,hf4,y0,y1,NT3,hx⟩:=HRM.out w3 A3 c3 G3 hl3 hH3 hf3;have HH4:=hide hH4;have HF4:=hide hf4;have HX:=hide hx;clear hl3 hg3 hH3 hf3 hH4 hf4 hx) | (go_at_call 110;refine HX.out.mono ?_;rintro e w4 ⟨rfl,hf5⟩;have HF5:=hide hf5;clear hf5))
     all_goals
      go_wp2_with fail
      go_ret
      exact⟨rfl,HH4.out.fr0 HF5.out,HF2.out.trans_same (HF4.out.trans_nil HF5.out)⟩
   ·obtain rfl:j=n:=by omega
    have r0:=hH.cR
    obtain⟨rA,hrA0⟩:∃rA,rA=L.rA:=⟨_,rfl⟩
    rw [← hrA0]at r0
    have HRA:=hide hrA0
    clear hrA0
    clear hkn hH hf
    go_wp2_with fail
    go_loopw [38] (fun q wr=>∃i:Nat,q=.int .i64 i∧i≤h.T∧(∀m,m<i→knownB (h.st m) h.objL=true)∧Hr wr L h s k∧Fr [L.ab] w2 wr) (fun q _=>h.T-(intOf q).toNat)
    case atStart=>exact⟨0,rfl,Nat.zero_le _,(fun m hm=>absurd hm (by omega)),HH3.out,HF3.out⟩
    case round=>
     obtain⟨i,rfl,hi,hkn2,hH,hf⟩:=hrel
     have HKN5:=hide hkn2
     have HH5:=hide hH
     have HF5:=hide hf
     obtain⟨x0,x1,NT,_,NH⟩:=HT0.out wr hf
     by_cases hlt2:i<h.T
     ·have hlt3:(i:Int)<(h.T:Int):=by omega
      have hTm:=HOK.out.tm
      obtain⟨gr,offr,hrA,_,hgr,hclr,_⟩:=hH.row.pos (by omega)
      have hrA':=HRA.out.trans hrA
      clear hrA HRA
      subst hrA'
      have c0:wr.cell? ⟨gr,offr+i,none⟩=some (.pointer (some ⟨L.S i,0,none⟩)):=by rw [hclr i hlt2,stkV_at _ hlt2]
      have HKN6:Hid (knownB (h.st i) h.objL=true→∀m,m<i+1→knownB (h.st m) h.objL=true):=fun e m hm=>by
       rcases Nat.lt_or_ge m i with h3 | h3
       ·exact HKN5.out m h3
       ·obtain rfl:m=i:=by omega
        exact e
      have HC1:=hide (HLi.out wr.drew i (hH.fr0 (Fr.refl _ _).drew) hlt2)
      have HBD:Hid (∀r,r∈h.st i→0≤r∧r<18446744073709551616):=HOK.out.rok i hlt2
      have HRN:Hid ((h.st i).length≤64):=HOK.out.rlen i hlt2
      have HBad:=hide (HS2.out i hlt2)
      clear hkn2 hH hf hclr
      generalize h.st i=l at *
      generalize L.S i=sp at *
      have HRM:Hid (∀w3 A3 c3 G3,Lr w3 90 A3 l.length c3 G3 (refV l)→Fr [] wr.drew w3→(Hr w3 L h s k∧Fr [L.ab] w2 w3∧w3.cell? ⟨t3,0,none⟩=some (.slice A j c)∧w3.cell? ⟨t3,1,none⟩=some (.map (some mb))∧t3<w3.heap.size∧Calls Tryz.prog 110 #[.agg #[.slice A j c,.map (some mb)],.slice A3 l.length c3] w3 fun e w''=>e=.returned (.bool (knownB l h.objL))∧Fr [] w3 w'')):=fun w3 A3 c3 G3 h1 h3=>by
       have hf4:=HF5.out.trans_nil h3.from_drew
       obtain⟨y0,y1,NT3,hk3,_⟩:=HT0.out _ hf4
       exact⟨HH5.out.fr0 h3.from_drew,hf4,y0,y1,NT3,hhas_any hk3 _ rfl (refSl h1) HBD.out (by have:=HRN.out;omega)⟩
      by_cases hB:knownB l h.objL=true
      ·have HKN2:=hide (HKN6.out hB)
       rw [hB]at HRM
       clear hB HBad HKN6
       go_wp2_with fail
       go_region_with (first | (go_at_call 112;refine HC1.out.mono ?_;rintro e w3 ⟨A3,c3,G3,rfl,hl3,hf3,hg3⟩;obtain⟨hH4,hf4,y0,y1,NT3,hx⟩:=HRM.out w3 A3 c3 G3 hl3 hf3;have HH4:=hide hH4;have HF4:=hide hf4;have HX:=hide hx;clear hl3 hg3 hf3 hH4 hf4 hx) | (go_at_call 110;refine HX.out.mono ?_;rintro e w4 ⟨rfl,hf5⟩;have HF6:=hide hf5;clear hf5))
       all_goals
        go_wp2_with fail
        go_roundw
        case rel=>exact⟨i+1,by go_num,by omega,HKN2.out,HH4.out.fr0 HF6.out,HF4.out.trans_nil HF6.out⟩
        case measure=>simp [intOf];omega
      ·have hB':knownB l h.objL=false:=by simpa using hB
       have hc:CE=30:=HBad.out hB'
       rw [hB']at HRM
       clear hB hB' HBad HKN6 HS0 HS1 HS2
       subst hc
       go_wp2_with fail
       go_region_with (first | (go_at_call 112;refine HC1.out.mono ?_;rintro e w3 ⟨A3,c3,G3,rfl,hl3,hf3,hg3⟩;obtain⟨hH4,hf4,y0,y1,NT3,hx⟩:=HRM.out w3 A3 c3 G3 hl3 hf3;have HH4:=hide hH4;have HF4:=hide hf4;have HX:=hide hx;clear hl3 hg3 hf3 hH4 hf4 hx) | (go_at_call 110;refine HX.out.mono ?_;rintro e w4 ⟨rfl,hf5⟩;have HF6:=hide hf5;clear hf5))
       all_goals
        go_wp2_with fail
        go_ret
        exact⟨rfl,HH4.out.fr0 HF6.out,HF2.out.trans_same (HF4.out.trans_nil HF6.out)⟩
     ·obtain rfl:i=h.T:=by omega
      have hc:CE=0:=HS0.out HKN.out HKN5.out
      clear hkn2 hH hf HS0 HS1 HS2
      subst hc
      go_wp2_with fail
      go_ret
      exact⟨rfl,HH5.out,HF2.out.trans_same HF5.out⟩
 ·have hE:CE=h.rowE (r:Int):=by
   rw [rowE_30 HOK.out hr he,HCE.out]
   exact checkE_bad fun hs=>he (hs.rows r hr)
  have HH1:=hide hH1
  have HF1:=hide hf1
  have he':(h.rowE (r:Int) !=0)=true:=by simpa using he
  clear he hH1 hf1 HCE
  rw [← hE]at he' ⊢
  clear hE
  go_wp2_with fail
  go_ret
  exact⟨rfl,HH1.out.fr0 ((Fr.refl _ _).alloc _),HF1.out.alloc _⟩
end
section
variable {w w':World}{tp mb:Nat}{F G:List Nat}{L:List Int}
end
section
variable {W w w1 w':World}{Λ:HL}{h:HS}{s k:Nat}{P P':Nat→Prop}{tp mb:Nat}{L:List Int}{A:Option Addr}{n c:Nat}{out:List Int}
end
def dataAt(h:HS)(i S P:Nat):List Int:=(List.range (S-1-P)).map fun (j:Nat)=>(h.f (i+1+P+j):Int)
section
variable {W w:World}{Λ:HL}{h:HS}{s k:Nat}{tp mb:Nat}{L:List Int}{A:Option Addr}{n c:Nat}{out:List Int}
end
def ShpP(w:World)(L:HL)(h:HS)(s k:Nat)(l:List Int)(er:Int)(e:Ending)(w':World):Prop:=
 ∃A c G,e=.returned (.tuple #[.slice A l.length c,.int .i64 er])∧Lr w' 87 A l.length c G (refV l)∧(∀g,g∈G→w.heap.size≤g)∧Hr w' L h s k∧Fr [L.ab] w w'
section
variable {w:World}{L:HL}{h:HS}{s k:Nat}
end
end Go.Proofs.YteacgfeiedcdiaaGreatDoor
