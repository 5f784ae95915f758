/- Package heap: end, bigRow, Row. -/
import Derived.Test.YteacgfeiedcdiaaGreatDoorPW10
import Derived.Deep.RegionHeld3
namespace Go.Proofs.YteacgfeiedcdiaaGreatDoor
set_option linter.unusedVariables false
set_option linter.unusedSimpArgs false
set_option maxRecDepth 100000
open Go.RowKit Go.Gl
theorem minL_snoc{l:List Int}(h:l≠[])(a:Int):HS.minL (l++[a])=min (HS.minL l) a:=by
 cases l with
 | nil=>exact absurd rfl h
 | cons x l=>simp [HS.minL,List.foldl_append]
theorem take_getD{l:List Int}{k:Nat}(h:k<l.length):l.take (k+1)=l.take k++[l.getD k 0]:=by
 rw [List.take_add_one]
 congr 1
 simp [h]
set_option maxHeartbeats 1600000 in
theorem smin_any{w:World}{A:Option Addr}{c:Nat}{l:List Int}(h:Sl w A l.length (fun k=>.int .i64 (l.getD k 0)))(h0:0<l.length)(hl:l.length≤4611686018427387904) :
  Calls Tryz.prog 144 #[.slice A l.length c] w fun e w'=>e=.returned (.int .i64 (HS.minL l))∧w=w':=by
 obtain⟨b,off,rfl,hb,hc⟩:=h h0
 have HC:=hide hc
 have cq:=hc 0 h0
 rw [Nat.add_zero]at cq
 have HN1:Hid (∀k,k<l.length→l.take (k+1)=l.take k++[l.getD k 0]):=fun k hk=>take_getD hk
 have HM1:Hid (l.getD 0 0=HS.minL (l.take 1)):=by
  show _=_
  rw [show(1:Nat)=0+1 from rfl,HN1.out 0 h0]
  simp [HS.minL]
 have HMN:Hid (HS.minL (l.take l.length)=HS.minL l):=by show _=_;rw [List.take_length]
 have HNE:Hid (∀k,1≤k→k≤l.length→l.take k≠[]):=fun k h1 h2 e=>by
  have:(l.take k).length=0:=by rw [e];rfl
  rw [List.length_take]at this
  omega
 obtain⟨n,hn⟩:∃n,n=l.length:=⟨_,rfl⟩
 rw [← hn]at h0 hl hc HN1 HMN HNE HC ⊢
 obtain⟨x0,hx0⟩:∃x0,x0=l.getD 0 0:=⟨_,rfl⟩
 rw [← hx0]at HM1
 have c0:w.cell? ⟨b,off,none⟩=some (.int .i64 x0):=by rw [hx0];exact cq
 have hg:¬ (n:Int)<1:=by omega
 have hg2:(0:Int)<(n:Int):=by omega
 clear h hc hn hx0 cq
 go_enter Tryz.func144,Tryz.ntmps144
 go_wp2_with fail
 go_loopw [3,4] (fun m i wr=>∃k:Nat,i=.int .i64 k∧m=.int .i64 (HS.minL (l.take k))∧1≤k∧k≤n∧w=wr) (fun _ i _=>n-(intOf i).toNat)
 case atStart=>exact⟨1,rfl,by rw [HM1.out],Nat.le_refl _,by omega,rfl⟩
 case round=>
  obtain⟨k,rfl,rfl,hk1,hk,rfl⟩:=hrel
  by_cases hlt:k<n
  ·have hlt1:(k:Int)<(n:Int):=by omega
   have ck:=HC.out k hlt
   have HS1:Hid (HS.minL (l.take (k+1))=min (HS.minL (l.take k)) (l.getD k 0)):=by
    show _=_
    rw [HN1.out k hlt,minL_snoc (HNE.out k hk1 hk)]
   obtain⟨x,hx⟩:∃x,x=l.getD k 0:=⟨_,rfl⟩
   rw [← hx]at ck HS1
   obtain⟨m,hm⟩:∃m,m=HS.minL (l.take k):=⟨_,rfl⟩
   rw [← hm]at HS1 ⊢
   clear hx hm
   by_cases hle:x<m
   ·have HE:Hid (x=HS.minL (l.take (k+1))):=by show _=_;rw [HS1.out];omega
    go_wp2_with fail
    go_roundw
    case rel=>exact⟨k+1,by go_num,by rw [← HE.out],by omega,by omega,trivial⟩
    case measure=>simp [intOf];omega
   ·have HE:Hid (m=HS.minL (l.take (k+1))):=by show _=_;rw [HS1.out];omega
    go_wp2_with fail
    go_roundw
    case rel=>exact⟨k+1,by go_num,by rw [← HE.out],by omega,by omega,trivial⟩
    case measure=>simp [intOf];omega
  ·obtain rfl:k=n:=by omega
   go_wp2_with fail
   go_ret
   exact⟨by rw [HMN.out];rfl,rfl⟩
section
variable {w:World}{L:HL}{h:HS}{s k:Nat}
theorem leftL_len(h:HS)(r:Int):∀k,(h.leftL r k).length≤k
 | 0=>by simp [HS.leftL]
 | k+1=>by
  have:=leftL_len h r k
  unfold HS.leftL
  split <;> simp <;> omega
theorem leftL_in{h:HS}{r:Int}{k:Nat}(e:h.bx k<h.be k∧h.g.regionOf (h.bx k)=r):h.leftL r (k+1)=h.leftL r k++[h.bx k]:=by
 show h.leftL r k++_=_
 rw [if_pos e]
theorem leftL_out{h:HS}{r:Int}{k:Nat}(e:¬ (h.bx k<h.be k∧h.g.regionOf (h.bx k)=r)):h.leftL r (k+1)=h.leftL r k:=by
 show h.leftL r k++_=_
 rw [if_neg e,List.append_nil]
theorem Hr.bufs(H:Hr w L h s k){i:Nat}(hi:i<h.T):w.cell? ⟨L.bb,i*2,none⟩=some (.int .i64 (h.bx i))∧w.cell? ⟨L.bb,i*2+1,none⟩=some (.int .i64 (h.be i)):=by
 have h1:=rows2_at (fun i=>Value.int .i64 (h.bx i)) (fun i=>Value.int .i64 (h.be i)) hi
 have h2:=H.buf.cell (i*2)
 have h3:=H.buf.cell (i*2+1)
 unfold bufV at h2 h3
 rw [List.getElem?_toArray]at h2 h3
 exact⟨h2.trans h1.1,h3.trans h1.2⟩
theorem Hr.region(H:Hr w L h s k)(a:Int){w':World}(hf:Fr [] w w'):Calls Tryz.prog 14 #[.agg #[.int .i64 h.g.words,.int .i64 h.g.rw,.int .i64 h.g.cw,.int .i64 h.g.regions,.int .i64 h.g.cards,.int .i64 h.g.max],.int .i64 a] w' fun e w''=>e=.returned (.int .i64 (h.g.regionOf a))∧Fr [] w' w'':=
 region_any h.g H.ok.geo a w' (H.fr0 hf).tab
theorem Hr.span(H:Hr w L h s k)(a:Int)(ha:a≤9223372036854775807){w':World}(hf:Fr [] w w'):Calls Tryz.prog 81 #[.agg #[.int .i64 h.g.words,.int .i64 h.g.rw,.int .i64 h.g.cw,.int .i64 h.g.regions,.int .i64 h.g.cards,.int .i64 h.g.max],.int .i64 a] w' fun e w''=>e=.returned (.int .i64 (h.g.spanOf a))∧Fr [] w' w'':=
 span_any h.g H.ok.geo a ha w' (H.fr0 hf).tab
theorem Hr.base(H:Hr w L h s k)(a:Int){w':World}(hf:Fr [] w w'):Calls Tryz.prog 82 #[.agg #[.int .i64 h.g.words,.int .i64 h.g.rw,.int .i64 h.g.cw,.int .i64 h.g.regions,.int .i64 h.g.cards,.int .i64 h.g.max],.int .i64 a] w' fun e w''=>e=.returned (.tuple #[.int .i64 (if 0≤a∧a<(h.R:Int) then a*(h.W:Int) else 0),.int .i64 (if 0≤a∧a<(h.R:Int) then 0 else 2)])∧Fr [] w' w'':=by
 have:=base_any h.g H.ok.geo a w' (H.fr0 hf).tab
 rw [H.ok.rg,H.ok.rw]at this
 exact this
set_option maxHeartbeats 3200000 in
theorem hend_any(H:Hr w L h s k){r:Nat}(hr:r<h.R):Calls Tryz.prog 118 #[.pointer (some ⟨L.hb,0,none⟩),.int .i64 (r:Int)] w fun e w'=>e=.returned (.int .i64 (h.endOf r))∧Fr [] w w':=by
 obtain⟨i0,hi,hz0,hz1,hz2⟩:=info_parts Tryz.info_int
 have cB:=H.cB
 have HBC:Hid (∀w' i,Fr [] w w'→i<h.T→w'.cell? ⟨L.bb,i*2,none⟩=some (.int .i64 (h.bx i))∧w'.cell? ⟨L.bb,i*2+1,none⟩=some (.int .i64 (h.be i))∧L.bb<w'.heap.size):=fun w' i hf hi=>⟨((H.fr0 hf).bufs hi).1,((H.fr0 hf).bufs hi).2,(H.fr0 hf).buf.lt⟩
 have HGC:Hid (∀w',Fr [] w w'→w'.cell? ⟨L.hb,14,none⟩=some (.int .i64 h.g.words)∧w'.cell? ⟨L.hb,15,none⟩=some (.int .i64 h.g.rw)∧w'.cell? ⟨L.hb,16,none⟩=some (.int .i64 h.g.cw)∧w'.cell? ⟨L.hb,17,none⟩=some (.int .i64 h.g.regions)∧w'.cell? ⟨L.hb,18,none⟩=some (.int .i64 h.g.cards)∧w'.cell? ⟨L.hb,19,none⟩=some (.int .i64 h.g.max)):=fun w' hf=>(H.fr0 hf).geo
 have HTC:Hid (∀w',Fr [] w w'→w'.cell? ⟨L.hb,21,none⟩=some (.pointer (some ⟨L.tb,0,none⟩))∧L.hb<w'.heap.size):=fun w' hf=>⟨(H.fr0 hf).cT,(H.fr0 hf).st.lt⟩
 have HRG:Hid (∀w' a,Fr [] w w'→Calls Tryz.prog 14 #[.agg #[.int .i64 h.g.words,.int .i64 h.g.rw,.int .i64 h.g.cw,.int .i64 h.g.regions,.int .i64 h.g.cards,.int .i64 h.g.max],.int .i64 a] w' fun e w''=>e=.returned (.int .i64 (h.g.regionOf a))∧Fr [] w' w''):=fun w' a hf=>H.region a hf
 have HTP:Hid (∀w',Fr [] w w'→Calls Tryz.prog 143 #[.pointer (some ⟨L.tb,0,none⟩),.int .i64 (r:Int)] w' fun e w''=>e=.returned (.int .i64 (h.t r))∧w'=w''):=fun w' hf=>top_at (H.fr0 hf).rg hr
 have HBO:=hide H.ok.bok
 have HTM:=H.ok.tm
 have HEnd:Hid (h.endOf r=if h.leftL (r:Int) h.T=[] then h.t r else HS.minL (h.leftL (r:Int) h.T)):=rfl
 have HLn:=hide (leftL_len h (r:Int))
 clear H
 go_enter Tryz.func118,Tryz.ntmps118
 go_wp2_with fail
 go_loopw [5,15] (fun p i wr=>∃(j:Nat) (A:Option Addr) (c:Nat) (G:List Nat),i=.int .i64 j∧p=.slice A (h.leftL (r:Int) j).length c∧j≤h.T∧Lr wr 3 A (h.leftL (r:Int) j).length c G (zv (h.leftL (r:Int) j))∧(∀g,g∈G→w.heap.size≤g)∧Fr [] w wr) (fun _ i _=>h.T-(intOf i).toNat)
 case atStart=>exact⟨0,none,0,[],rfl,rfl,Nat.zero_le _,Lr.nil _ _,(fun g hg=>by cases hg),Fr.refl _ _⟩
 case round=>
  obtain⟨j,A,c,G,rfl,rfl,hj,hl,hg,hf⟩:=hrel
  have HL:=hide hl
  have HG:=hide hg
  have HF:=hide hf
  by_cases hlt:j<h.T
  ·have hlt1:(j:Int)<(h.T:Int):=by omega
   obtain⟨b0,b1,NB⟩:=HBC.out wr j hf hlt
   obtain⟨g0,g1,g2,g3,g4,g5⟩:=HGC.out wr hf
   obtain⟨t0,NH⟩:=HTC.out wr hf
   have hbo:=HBO.out j hlt
   have hlen:=HLn.out j
   have HOut:=hide (leftL_out (h:=h) (r:=(r:Int)) (k:=j))
   have HIn:=hide (leftL_in (h:=h) (r:=(r:Int)) (k:=j))
   obtain⟨ln,hln⟩:∃ln,ln=(h.leftL (r:Int) j).length:=⟨_,rfl⟩
   rw [← hln]at HL hlen ⊢
   have HLN:=hide hln
   have HF1:Hid (Fr [] w (wr.alloc (.cells #[.int .i64 (h.bx j),.int .i64 (h.be j)] 214))):=hf.alloc _
   have HBR:=hide (brest_any (Bu.made wr 214 hbo.1 hbo.2.1 hbo.2.2))
   have HLT:=hide hlt
   clear hl hg hf hln
   generalize h.bx j=x at *
   generalize h.be j=y at *
   by_cases hxy:x<y
   ·by_cases hreg:h.g.regionOf x=(r:Int)
    ·have HI:=HIn.out ⟨hxy,hreg⟩
     have HLI:Hid (ln+1=(h.leftL (r:Int) (j+1)).length):=by
      show _=_
      rw [HI,List.length_append,← HLN.out]
      rfl
     have HZ:Hid (zv (h.leftL (r:Int) j)++[.int .i64 x]=zv (h.leftL (r:Int) (j+1))):=by
      show _=_
      rw [HI,zv_app]
      rfl
     have HRX:=hide (HRG.out (wr.alloc (.cells #[.int .i64 x,.int .i64 y] 214)) x HF1.out)
     rw [hreg]at HRX
     have HRD:=hide (fun q=>HRG.out ((wr.alloc (.cells #[.int .i64 x,.int .i64 y] 214)).drewN q) x (HF1.out.drewN q))
     rw [hreg]at HRD
     have HB:Hid (ln+1≤maxLen∧(ln+1)*8≤140737488355328):=⟨by unfold maxLen;omega,by omega⟩
     clear hreg HI HIn HOut
     go_wp2_with fail
     refine HBR.out.mono ?_
     rintro e w1 ⟨rfl,q,rfl⟩
     go_wp2_with fail
     refine(HRD.out q).mono ?_
     rintro e w2 ⟨rfl,hf2⟩
     have HF2:Hid (Fr [] wr w2):=(((Fr.refl [] wr).alloc _).drewN q).trans_same hf2
     have HL2:Hid (Lr (w2.alloc (.cells #[.int .i64 x] 3)) 3 A ln c G (zv (h.leftL (r:Int) j))):=(HL.out.fr0 HF2.out).alloc _
     clear hf2
     go_wp2_with (first | (at_builtin;refine wpList_append_lr rfl _ _ 31 rfl 3 i0 (.int .i64 0) 8 Tryz.underlying31 hi hz0 hz1 hz2 rfl rfl HL2.out rfl (by rfl) (fun _=>one_of w2 (.int .i64 x) 3 rfl _ (Fr.refl _ _)) (by intro u hu;simp at hu;subst hu;rfl) HB.out.1 HB.out.2 ?_;intro A' c' G' w4 HLn HFn HGn))
     have HF4:Hid (Fr [] w w4):=((HF.out.trans_same HF2.out).alloc _).trans HFn.out (fun g hg=>.inr (HG.out g hg))
     have HG4:Hid (∀g,g∈G'→w.heap.size≤g):=fun g hg=>by
      rcases HGn.out g hg with h1 | ⟨h1,_⟩
      ·exact HG.out g h1
      ·have:=HF.out.size;have:=HF2.out.size;simp at h1;omega
     have HL4:Hid (Lr w4 3 A' (h.leftL (r:Int) (j+1)).length c' G' (zv (h.leftL (r:Int) (j+1)))):=by
      have:=HLn.out
      rw [HZ.out,HLI.out]at this
      exact this
     go_roundw
     case rel=>exact⟨j+1,A',c',G',by go_num,by rw [HLI.out],by omega,HL4.out,HG4.out,HF4.out⟩
     case measure=>simp [intOf];omega
    ·have hreg':(h.g.regionOf x==(r:Int))=false:=by simpa using hreg
     have HO:=HOut.out (fun e=>hreg e.2)
     have HZ:Hid (h.leftL (r:Int) j=h.leftL (r:Int) (j+1)):=HO.symm
     have HRD:=hide (fun q=>HRG.out ((wr.alloc (.cells #[.int .i64 x,.int .i64 y] 214)).drewN q) x (HF1.out.drewN q))
     generalize h.g.regionOf x=z at *
     clear HO HIn HOut hreg
     go_wp2_with fail
     refine HBR.out.mono ?_
     rintro e w1 ⟨rfl,q,rfl⟩
     go_wp2_with fail
     refine(HRD.out q).mono ?_
     rintro e w2 ⟨rfl,hf2⟩
     have HF2:Hid (Fr [] wr w2):=(((Fr.refl [] wr).alloc _).drewN q).trans_same hf2
     clear hf2
     go_wp2_with fail
     go_roundw
     case rel=>exact⟨j+1,A,c,G,by go_num,by rw [HLN.out,HZ.out],by omega,by rw [← HZ.out,← HLN.out];exact HL.out.fr0 HF2.out,HG.out,HF.out.trans_same HF2.out⟩
     case measure=>simp [intOf];omega
   ·have HO:=HOut.out (fun e=>hxy e.1)
    have HZ:Hid (h.leftL (r:Int) j=h.leftL (r:Int) (j+1)):=HO.symm
    clear HO HIn HOut
    go_wp2_with fail
    refine HBR.out.mono ?_
    rintro e w1 ⟨rfl,q,rfl⟩
    have HF2:Hid (Fr [] wr ((wr.alloc (.cells #[.int .i64 x,.int .i64 y] 214)).drewN q)):=((Fr.refl [] wr).alloc _).drewN q
    go_wp2_with fail
    go_roundw
    case rel=>exact⟨j+1,A,c,G,by go_num,by rw [HLN.out,HZ.out],by omega,by rw [← HZ.out,← HLN.out];exact HL.out.fr0 HF2.out,HG.out,HF.out.trans_same HF2.out⟩
    case measure=>simp [intOf];omega
  ·obtain rfl:j=h.T:=by omega
   obtain⟨t0,NH⟩:=HTC.out wr hf
   have HTX:=hide (HTP.out wr hf)
   clear hl hg hf
   by_cases h0:(h.leftL (r:Int) h.T).length=0
   ·have HE:Hid (h.endOf r=h.t r):=by
     show _=_
     rw [HEnd.out,if_pos (List.eq_nil_of_length_eq_zero h0)]
    obtain⟨ln,hln⟩:∃ln,ln=(h.leftL (r:Int) h.T).length:=⟨_,rfl⟩
    rw [← hln]at h0 ⊢
    subst h0
    generalize h.t r=z at *
    clear hln
    go_wp2_with fail
    refine HTX.out.mono ?_
    rintro e w1 ⟨rfl,rfl⟩
    go_wp2_with fail
    go_ret
    exact⟨ret_int HE.out.symm,HF.out⟩
   ·have HE:Hid (h.endOf r=HS.minL (h.leftL (r:Int) h.T)):=by
     show _=_
     rw [HEnd.out,if_neg (fun e=>h0 (by rw [e];rfl))]
    have HMn:=hide (smin_any (c:=c) (HL.out.slz) (by omega) (by have:=HLn.out h.T;omega))
    obtain⟨ln,hln⟩:∃ln,ln=(h.leftL (r:Int) h.T).length:=⟨_,rfl⟩
    rw [← hln]at h0 HMn ⊢
    have h0':((ln:Int)==0)=false:=by simpa using h0
    generalize HS.minL (h.leftL (r:Int) h.T)=z at *
    clear hln
    go_wp2_with fail
    refine HMn.out.mono ?_
    rintro e w1 ⟨rfl,rfl⟩
    go_wp2_with fail
    go_ret
    exact⟨ret_int HE.out.symm,HF.out⟩
def HrL(w:World)(L:HL)(h:HS)(s k:Nat)(l:List Int)(er:Int)(e:Ending)(w':World):Prop:=
 ∃A cap,e=.returned (.tuple #[.slice A l.length cap,.int .i64 er])∧Own w.heap.size w' A l∧Hr w' L h s k∧Fr [L.ab] w w'
theorem hstate_any(H:Hr w L h s k)(a:Int):Calls Tryz.prog 62 #[.pointer (some ⟨L.tb,0,none⟩),.int .i64 a] w fun e w'=>e=.returned (.int .i64 (h.stateOf a))∧w=w':=by
 unfold HS.stateOf
 by_cases ha:0≤a∧a<(h.R:Int)
 ·rw [if_pos ha]
  obtain⟨i,rfl⟩:=Int.eq_ofNat_of_zero_le ha.1
  exact state_at H.rg (by omega)
 ·rw [if_neg ha]
  exact state_out H.rg ha
theorem ObjV_of{r:Nat}(e:h.objE ((r:Int)+1)=0):∃S P:Nat,∃q:Int,h.objV ((r:Int)+1)=⟨1,S,P,q,0⟩∧1≤S∧S≤1048576∧P<S:=by
 obtain⟨_,h1,h2,h3,h4,h5⟩:=HS.objE_0 e
 have hw:=h3.ways
 rw [h5]
 generalize atH h.n h.f ((r:Int)+1-1)=g at *
 obtain⟨a,b,c,d,t⟩:=g
 simp only at *
 exact⟨b.toNat,c.toNat,d,by rw [Hd.mk.injEq];omega,by omega,by omega,by omega⟩
theorem bigE_no{r:Nat}(e:h.objE (((r*h.W:Nat):Int)+1)≠0):h.bigE r=h.objE (((r*h.W:Nat):Int)+1):=by unfold HS.bigE;rw [if_pos e]
theorem bigE_yes{r:Nat}(e:h.objE (((r*h.W:Nat):Int)+1)=0)(c:h.Cont r (h.g.spanOf (h.objV (((r*h.W:Nat):Int)+1)).size)):h.bigE r=0:=by
 unfold HS.bigE;rw [if_neg (by rw [e];simp),if_pos c]
theorem bigE_bad{r:Nat}(e:h.objE (((r*h.W:Nat):Int)+1)=0)(c:¬ h.Cont r (h.g.spanOf (h.objV (((r*h.W:Nat):Int)+1)).size)):h.bigE r=30:=by
 unfold HS.bigE;rw [if_neg (by rw [e];simp),if_neg c]
set_option maxHeartbeats 3200000 in
theorem hbig_any(H:Hr w L h s k){r:Nat}(hr:r<h.R):Calls Tryz.prog 119 #[.pointer (some ⟨L.hb,0,none⟩),.int .i64 (r:Int),.int .i64 ((r*h.W:Nat):Int)] w (HrL w L h s k (if h.bigE r=0 then [((r*h.W:Nat):Int)] else []) (h.bigE r)):=by
 have hbl:=H.ok.base_le hr
 have hnm:=H.ok.nmax
 have hR:h.R≤65536:=by have:=H.ok.geo.r65536;have:=H.ok.rg;omega
 have HRF:=hide (reference_any (i:=r*h.W) (by omega))
 have HOB:=hide (hobject_any H (r:=((r*h.W:Nat):Int)+1) (by omega) (by omega))
 have hB1:=bigE_no (h:=h) (r:=r)
 have hB2:=bigE_yes (h:=h) (r:=r)
 have hB3:=bigE_bad (h:=h) (r:=r)
 have hOV:=ObjV_of (h:=h) (r:=r*h.W)
 have HH:=hide H
 unfold HrP at HOB
 generalize r*h.W=a at *
 unfold HrL
 by_cases h0:h.objE ((a:Int)+1)=0
 ·obtain⟨S,P,q,hv,hS1,hS2,hP⟩:=hOV h0
  rw [hv]at hB2 hB3
  rw [h0,hv]at HOB
  unfold Hd.val at HOB
  simp only at HOB hB2 hB3
  have HB2:=hide (hB2 h0)
  have HB3:=hide (hB3 h0)
  have HSP:Hid (∀w' w'',Hr w' L h s k→Fr [] w' w''→Calls Tryz.prog 81 #[.agg #[.int .i64 h.g.words,.int .i64 h.g.rw,.int .i64 h.g.cw,.int .i64 h.g.regions,.int .i64 h.g.cards,.int .i64 h.g.max],.int .i64 (S:Int)] w'' fun e w3=>e=.returned (.int .i64 (h.g.spanOf (S:Int)))∧Fr [] w'' w3):=fun w' w'' h' hf=>h'.span (S:Int) (by omega) hf
  have hsp:1≤h.g.spanOf (S:Int)∧h.g.spanOf (S:Int)≤1048576:=by
   have hw:=H.ok.wpos
   unfold Geo.spanOf
   rw [if_neg (by omega),H.ok.rw,show(S:Int)-1=((S-1:Nat):Int)by omega,← Int.natCast_ediv]
   have:=Nat.div_le_self (S-1) h.W
   generalize (S-1) / h.W=d at *
   omega
  generalize h.g.spanOf (S:Int)=sp at *
  obtain⟨E,hE⟩:∃E,E=h.bigE r:=⟨_,rfl⟩
  rw [← hE]at HB2 HB3 ⊢
  obtain⟨l,hl⟩:∃l,l=(if E=0 then [(a:Int)] else []):=⟨_,rfl⟩
  rw [← hl]
  have HL0:=hide hl
  clear hOV h0 hv hB1 hB2 hB3 H hE hl
  go_enter Tryz.func119,Tryz.ntmps119
  go_wp2_with (first | (go_at_call 115;refine(HRF.out _).mono ?_;rintro e w' ⟨rfl,rfl⟩) | (go_at_call 114;refine HOB.out.mono ?_;rintro e w1 ⟨rfl,hH1,hF1⟩;have HH1:=hide hH1;have HF1:=hide hF1;clear hH1 hF1))
  generalize hw2:w1.alloc (.cells #[.int .i64 1,.int .i64 (S:Int),.int .i64 (P:Int),.int .i64 q,.int .i64 0] 157)=w2
  have HB:Hid (Blk w2 w1.heap.size 157 #[.int .i64 1,.int .i64 (S:Int),.int .i64 (P:Int),.int .i64 q,.int .i64 0]):=hw2 ▸ Blk.new _ _ _
  have HH2:Hid (Hr w2 L h s k):=hw2 ▸ HH1.out.fr0 ((Fr.refl _ _).alloc _)
  have HF2:Hid (Fr [L.ab] w w2):=hw2 ▸ HF1.out.alloc _
  clear hw2
  have S2:Hid (Stable (Fr [] w2)):=fun a b h1 h2=>h1.trans_same h2
  have g0:∀u:Cls (Fr [] w2),u.w.cell? ⟨L.hb,14,none⟩=some (.int .i64 h.g.words):=fun u=>u.cell HH2.out.geo.1 (by simp)
  have g1:∀u:Cls (Fr [] w2),u.w.cell? ⟨L.hb,15,none⟩=some (.int .i64 h.g.rw):=fun u=>u.cell HH2.out.geo.2.1 (by simp)
  have g2:∀u:Cls (Fr [] w2),u.w.cell? ⟨L.hb,16,none⟩=some (.int .i64 h.g.cw):=fun u=>u.cell HH2.out.geo.2.2.1 (by simp)
  have g3:∀u:Cls (Fr [] w2),u.w.cell? ⟨L.hb,17,none⟩=some (.int .i64 h.g.regions):=fun u=>u.cell HH2.out.geo.2.2.2.1 (by simp)
  have g4:∀u:Cls (Fr [] w2),u.w.cell? ⟨L.hb,18,none⟩=some (.int .i64 h.g.cards):=fun u=>u.cell HH2.out.geo.2.2.2.2.1 (by simp)
  have g5:∀u:Cls (Fr [] w2),u.w.cell? ⟨L.hb,19,none⟩=some (.int .i64 h.g.max):=fun u=>u.cell HH2.out.geo.2.2.2.2.2 (by simp)
  have t0:∀u:Cls (Fr [] w2),u.w.cell? ⟨L.hb,21,none⟩=some (.pointer (some ⟨L.tb,0,none⟩)):=fun u=>u.cell HH2.out.cT (by simp)
  have x1:∀u:Cls (Fr [] w2),u.w.cell? ⟨w1.heap.size,1,none⟩=some (.int .i64 (S:Int)):=fun u=>u.cell (HB.out.cell 1) (by simp)
  have HST:Hid (∀(u:Cls (Fr [] w2)) (a:Int),Calls Tryz.prog 62 #[.pointer (some ⟨L.tb,0,none⟩),.int .i64 a] u.w fun e w'=>e=.returned (.int .i64 (h.stateOf a))∧u.w=w'):=fun u a=>hstate_any (HH2.out.fr0 u.ok) a
  have HSN:Hid (∀u:Cls (Fr [] w2),Calls Tryz.prog 81 #[.agg #[.int .i64 h.g.words,.int .i64 h.g.rw,.int .i64 h.g.cw,.int .i64 h.g.regions,.int .i64 h.g.cards,.int .i64 h.g.max],.int .i64 (S:Int)] u.w fun e w3=>e=.returned (.int .i64 sp)∧∃u':Cls (Fr [] w2),w3=u'.w):=fun u=>Cls.grow (HSP.out _ _ HH2.out u.ok)
  clear HB HSP
  go_loopw [10] (fun i wr=>∃j:Nat,i=.int .i64 j∧1≤j∧(j:Int)≤sp∧(∀m:Nat,1≤m→m<j→h.stateOf ((r:Int)+(m:Int))=5)∧∃u:Cls (Fr [] w2),wr=u.w) (fun i _=>sp.toNat-(intOf i).toNat)
  case atStart=>exact⟨1,rfl,Nat.le_refl _,hsp.1,(fun m h1 h2=>absurd h2 (by omega)),⟨w2,Fr.refl _ _⟩,rfl⟩
  case round=>
   obtain⟨j,rfl,hj1,hj,hst,u,rfl⟩:=hrel
   have HSTS:=hide hst
   clear hst
   have hw1:IntKind.i64.wrap ((r:Int)+(j:Int))=(r:Int)+(j:Int):=IntWalk.i64_in _ ⟨by omega,by omega⟩
   by_cases hlt:(j:Int)<sp
   ·go_wp2_with fail
    refine wp_region_cls (Fr [] w2) (by kernel_rfl) (by kernel_rfl) (Cls.drew S2.out u) ?_
    repeat (go_big_quiet_step ((go_at_call 81;exact HSN.out _)))
    refine wpQuiet_nil ?_
    rintro _ ⟨u1,rfl⟩
    by_cases h5:h.stateOf ((r:Int)+(j:Int))=5
    ·have HS5:=hide (HST.out u1 ((r:Int)+(j:Int)))
     rw [h5]at HS5
     have HNx:Hid (∀m:Nat,1≤m→m<j+1→h.stateOf ((r:Int)+(m:Int))=5):=fun m h1 h2=>by
      rcases Nat.lt_or_ge m j with h3 | h3
      ·exact HSTS.out m h1 h3
      ·obtain rfl:m=j:=by omega
       exact h5
     clear h5
     go_wp2_with fail
     refine HS5.out.mono ?_
     rintro e w' ⟨rfl,rfl⟩
     go_wp2_with fail
     go_roundw
     case rel=>exact⟨j+1,by go_num,by omega,by omega,HNx.out,u1,rfl⟩
     case measure=>simp [intOf];omega
    ·have HS5:=hide (HST.out u1 ((r:Int)+(j:Int)))
     have HE:Hid (E=30):=HB3.out (fun c=>h5 (c j hj1 hlt))
     have h5':(h.stateOf ((r:Int)+(j:Int)) !=5)=true:=by simpa using h5
     generalize h.stateOf ((r:Int)+(j:Int))=z at *
     clear h5
     go_wp2_with fail
     refine HS5.out.mono ?_
     rintro e w' ⟨rfl,rfl⟩
     go_wp2_with fail
     go_ret2
     obtain rfl:E=30:=HE.out
     obtain rfl:l=[]:=HL0.out
     exact⟨none,0,rfl,Own.nil _ _ _,HH2.out.fr0 u1.ok,HF2.out.trans_nil u1.ok⟩
   ·have hlt':decide ((j:Int)<sp)=false:=by simpa using hlt
    have HE:Hid (E=0):=HB2.out (fun m h1 h2=>HSTS.out m h1 (by omega))
    go_wp2_with fail
    refine wp_region_cls (Fr [] w2) (by kernel_rfl) (by kernel_rfl) (Cls.drew S2.out u) ?_
    repeat (go_big_quiet_step ((go_at_call 81;exact HSN.out _)))
    refine wpQuiet_nil ?_
    rintro _ ⟨u1,rfl⟩
    go_wp2_with fail
    go_ret2
    obtain rfl:E=0:=HE.out
    obtain rfl:l=[(a:Int)]:=HL0.out
    refine⟨_,1,rfl,Own.blk (e:=3) (Blk.new u1.w 3 _) (Nat.le_trans HF2.out.size u1.ok.size),(HH2.out.fr0 u1.ok).fr0 ((Fr.refl _ _).alloc _),(HF2.out.trans_nil u1.ok).alloc _⟩
 ·have hB:=hB1 h0
  have h0':(h.objE ((a:Int)+1) !=0)=true:=by simpa using h0
  rw [hB,if_neg h0]
  have hv:h.objV ((a:Int)+1)=Hd.zero:=by unfold HS.objV;rw [if_neg h0]
  rw [hv]at HOB
  unfold Hd.val Hd.zero at HOB
  simp only at HOB
  generalize h.objE ((a:Int)+1)=E at *
  clear hB1 hB2 hB3 hOV hB h0 H
  go_enter Tryz.func119,Tryz.ntmps119
  go_wp2_with (first | (go_at_call 115;refine(HRF.out _).mono ?_;rintro e w' ⟨rfl,rfl⟩) | (go_at_call 114;refine HOB.out.mono ?_;rintro e w1 ⟨rfl,hH1,hF1⟩;have HH1:=hide hH1;have HF1:=hide hF1;clear hH1 hF1))
  go_ret2
  exact⟨none,0,rfl,Own.nil _ _ _,HH1.out.fr0 ((Fr.refl _ _).alloc _),HF1.out.alloc _⟩
theorem rowE_ways(h:HS)(a:Int):(¬ (0≤a∧a<(h.R:Int))∧h.rowE a=2∧h.rowL a=[])∨∃r:Nat,a=(r:Int)∧r<h.R ∧
  (((h.s r=1∨h.s r=2∨h.s r=3)∧h.rowE a=startsE h.n h.f ((r*h.W:Nat):Int) (h.endOf r)∧h.rowL a=startsL h.n h.f ((r*h.W:Nat):Int) (h.endOf r)) ∨
  (h.s r=4∧h.rowE a=h.bigE r∧h.rowL a=if h.bigE r=0 then [((r*h.W:Nat):Int)] else [])∨((h.s r==1)=false∧(h.s r==2)=false∧(h.s r==3)=false∧(h.s r==4)=false∧h.rowE a=0∧h.rowL a=[])):=by
 unfold HS.rowE HS.rowL
 by_cases ha:0≤a∧a<(h.R:Int)
 ·obtain⟨r,rfl⟩:=Int.eq_ofNat_of_zero_le ha.1
  refine .inr ⟨r,rfl,by omega,?_⟩
  rw [if_neg (Decidable.not_not.2 ha),if_neg (Decidable.not_not.2 ha),Int.toNat_natCast]
  by_cases h1:h.s r=1∨h.s r=2∨h.s r=3
  ·rw [if_pos h1,if_pos h1]
   exact .inl ⟨h1,rfl,rfl⟩
  ·rw [if_neg h1,if_neg h1]
   by_cases h4:h.s r=4
   ·rw [if_pos h4,if_pos h4]
    exact .inr (.inl ⟨h4,rfl,rfl⟩)
   ·rw [if_neg h4,if_neg h4]
    refine .inr (.inr ⟨?_,?_,?_,?_,rfl,rfl⟩) <;> simp <;> omega
 ·rw [if_pos ha,if_pos ha]
  exact .inl ⟨ha,rfl,rfl⟩
set_option maxHeartbeats 3200000 in
theorem hrow_any(H:Hr w L h s k)(a:Int):Calls Tryz.prog 63 #[.pointer (some ⟨L.hb,0,none⟩),.int .i64 a] w (HrL w L h s k (h.rowL a) (h.rowE a)):=by
 have HBS:=hide (fun w' hf=>H.base a (w':=w') hf)
 have HH:=hide H
 obtain⟨g0,g1,g2,g3,g4,g5⟩:=H.geo
 unfold HrL
 rcases rowE_ways h a with⟨ha,hE,hLs⟩ | ⟨r,rfl,hr,hw⟩
 ·rw [hE,hLs]
  have HB:=hide (HBS.out w (Fr.refl _ _))
  rw [if_neg ha,if_neg ha]at HB
  clear H ha hE hLs
  go_enter Tryz.func63,Tryz.ntmps63
  go_wp2_with (go_at_call 82;refine HB.out.mono ?_;rintro e w1 ⟨rfl,hf⟩;have HF1:=hide hf;clear hf)
  go_ret2
  exact⟨none,0,rfl,Own.nil _ _ _,HH.out.fr0 HF1.out,HF1.out.mono (fun x hx=>by cases hx)⟩
 ·have HB:=hide (HBS.out w (Fr.refl _ _))
  have hin:0≤(r:Int)∧(r:Int)<(h.R:Int):=by omega
  rw [if_pos hin,if_pos hin,← Int.natCast_mul]at HB
  have HST:Hid (∀w',Fr [] w w'→w'.cell? ⟨L.hb,21,none⟩=some (.pointer (some ⟨L.tb,0,none⟩))∧w'.cell? ⟨L.hb,20,none⟩=some (.pointer (some ⟨L.ab,0,none⟩))∧L.hb<w'.heap.size∧Calls Tryz.prog 62 #[.pointer (some ⟨L.tb,0,none⟩),.int .i64 (r:Int)] w' fun e w''=>e=.returned (.int .i64 (h.s r))∧w'=w''):=fun w' hf=>
   ⟨(H.fr0 hf).cT,(H.fr0 hf).cA,(H.fr0 hf).st.lt,state_at (H.fr0 hf).rg hr⟩
  have HEN:Hid (∀w',Fr [] w w'→Calls Tryz.prog 118 #[.pointer (some ⟨L.hb,0,none⟩),.int .i64 (r:Int)] w' fun e w''=>e=.returned (.int .i64 (h.endOf r))∧Fr [] w' w''):=fun w' hf=>hend_any (H.fr0 hf) hr
  have HBG:Hid (∀w',Fr [] w w'→Calls Tryz.prog 119 #[.pointer (some ⟨L.hb,0,none⟩),.int .i64 (r:Int),.int .i64 ((r*h.W:Nat):Int)] w' (HrL w' L h s k (if h.bigE r=0 then [((r*h.W:Nat):Int)] else []) (h.bigE r))):=fun w' hf=>hbig_any (H.fr0 hf) hr
  have HSA:Hid (∀w' b,Fr [] w w'→Calls Tryz.prog 117 #[.pointer (some ⟨L.ab,0,none⟩),.int .i64 ((r*h.W:Nat):Int),.int .i64 b] w' (ListAns w' L.ab L.aw h.n h.f (startsL h.n h.f ((r*h.W:Nat):Int) b) (startsE h.n h.f ((r*h.W:Nat):Int) b))):=fun w' b hf=>by
   obtain⟨c,hc⟩:=(H.fr0 hf).ar
   exact pstarts_any hc _ _
  clear H HBS
  generalize r*h.W=ba at *
  rcases hw with⟨h1,hE,hLs⟩ | ⟨h1,hE,hLs⟩ | ⟨h1,h2,h3,h4,hE,hLs⟩
  ·rw [hE,hLs]
   clear hE hLs HBG
   generalize h.endOf r=en at *
   have HSA2:=hide (fun w' hf=>HSA.out w' en hf)
   unfold ListAns at HSA2
   generalize startsL h.n h.f (ba:Int) en=l at *
   generalize startsE h.n h.f (ba:Int) en=E at *
   clear HSA
   generalize h.s r=z at *
   rcases h1 with rfl | rfl | rfl
   all_goals
    go_enter Tryz.func63,Tryz.ntmps63
    go_wp2_with (first | (go_at_call 82;refine HB.out.mono ?_;rintro e w1 ⟨rfl,hf⟩;have HF1:=hide hf;obtain⟨y0,y1,NY,_⟩:=HST.out _ hf;have HS1:=hide (HST.out _ hf).2.2.2;clear hf) | (go_at_call 62;refine HS1.out.mono ?_;rintro e w' ⟨rfl,rfl⟩))
    have HE1:=hide (HEN.out w1.drew HF1.out.drew)
    go_region_with (first | (go_at_call 118;refine HE1.out.mono ?_;rintro e w2 ⟨rfl,hf⟩;have HF2:Hid (Fr [] w w2):=HF1.out.trans_same hf.from_drew;obtain⟨_,y2,NY2,_⟩:=HST.out w2 HF2.out;have HSA3:=hide (HSA2.out w2 HF2.out);clear hf) | (go_at_call 117;refine HSA3.out.mono ?_;rintro e w3 ⟨A,cap,c',rfl,ho,ha,hf⟩;have HO:=hide ho;have HA:=hide ha;have HF3:=hide hf;clear ho ha hf))
    all_goals
     go_wp2_with fail
     go_ret2
     exact⟨A,cap,rfl,HO.out.low HF2.out.size,HH.out.fr1 ((HF2.out.mono (G:=[L.ab]) (fun x hx=>by cases hx)).trans_same HF3.out) ⟨_,HA.out⟩,(HF2.out.mono (G:=[L.ab]) (fun x hx=>by cases hx)).trans_same HF3.out⟩
  ·rw [hE,hLs]
   clear hE hLs HSA HEN
   rw [h1]at HST
   unfold HrL at HBG
   generalize (if h.bigE r=0 then [(ba:Int)] else [])=l at *
   generalize h.bigE r=E at *
   go_enter Tryz.func63,Tryz.ntmps63
   go_wp2_with (first | (go_at_call 82;refine HB.out.mono ?_;rintro e w1 ⟨rfl,hf⟩;have HF1:=hide hf;obtain⟨y0,y1,NY,_⟩:=HST.out _ hf;have HS1:=hide (HST.out _ hf).2.2.2;have HBG1:=hide (HBG.out w1 hf);clear hf) | (go_at_call 62;refine HS1.out.mono ?_;rintro e w' ⟨rfl,rfl⟩) | (go_at_call 119;refine HBG1.out.mono ?_;rintro e w3 ⟨A,cap,rfl,ho,ha,hf⟩;have HO:=hide ho;have HA:=hide ha;have HF3:=hide hf;clear ho ha hf))
   go_ret2
   exact⟨A,cap,rfl,HO.out.low HF1.out.size,HA.out,(HF1.out.mono (G:=[L.ab]) (fun x hx=>by cases hx)).trans_same HF3.out⟩
  ·rw [hE,hLs]
   clear hE hLs HSA HEN HBG
   generalize h.s r=z at *
   go_enter Tryz.func63,Tryz.ntmps63
   go_wp2_with (first | (go_at_call 82;refine HB.out.mono ?_;rintro e w1 ⟨rfl,hf⟩;have HF1:=hide hf;obtain⟨y0,y1,NY,_⟩:=HST.out _ hf;have HS1:=hide (HST.out _ hf).2.2.2;clear hf) | (go_at_call 62;refine HS1.out.mono ?_;rintro e w' ⟨rfl,rfl⟩))
   go_ret2
   exact⟨none,0,rfl,Own.nil _ _ _,HH.out.fr0 HF1.out,HF1.out.mono (fun x hx=>by cases hx)⟩
end
end Go.Proofs.YteacgfeiedcdiaaGreatDoor
