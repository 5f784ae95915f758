/- gleanerlaw14: link: a thing's references are stored, and remembered. -/
import Derived.Test.YteacgfeiedcdiaaGreatDoorPW28
namespace Go.Proofs.YteacgfeiedcdiaaGreatDoor
set_option linter.unusedVariables false
set_option linter.unusedSimpArgs false
set_option maxRecDepth 100000
open Go.RowKit Go.Gl
section
variable {W w w':World}{L:HL}{X:HX}{h:HS}{x:HT}{s k:Nat}{E:Blks}
theorem HE.cS(H:HE W w L X h x s k E):w.cell? ⟨L.hb,25,none⟩=some (.pointer (some ⟨X.zb,0,none⟩)):=by
 obtain⟨own,⟨tg,FS,H,_⟩,_⟩:=H
 have:=H.st.cell 25
 rw [← H.vs]
 exact this
theorem HE.dim(H:HE W w L X h x s k E):GDims h.g h.W h.R x.cw x.per:=by
 obtain⟨own,⟨tg,FS,H,_⟩,_⟩:=H
 exact H.dim
theorem HE.card(H:HE W w L X h x s k E)(a:Int):Calls Tryz.prog 15 #[.agg #[.int .i64 h.g.words,.int .i64 h.g.rw,.int .i64 h.g.cw,.int .i64 h.g.regions,.int .i64 h.g.cards,.int .i64 h.g.max],.int .i64 a] w fun e w'=>e=.returned (.int .i64 (h.g.cardOf a))∧Fr [] w w':=card_any h.g H.ok.geo a w H.hr.tab
theorem HE.region(H:HE W w L X h x s k E)(a:Int):Calls Tryz.prog 14 #[.agg #[.int .i64 h.g.words,.int .i64 h.g.rw,.int .i64 h.g.cw,.int .i64 h.g.regions,.int .i64 h.g.cards,.int .i64 h.g.max],.int .i64 a] w fun e w'=>e=.returned (.int .i64 (h.g.regionOf a))∧Fr [] w w':=H.hr.region a (Fr.refl _ _)
theorem add_ok{σ:RS}{g:Geo}{W0 R C P n s k a b:Nat}(ok:g.Ok s k)(d:GDims g W0 R C P)(hn:n=R*W0)(ha:a<n)(hb:b<n)(hne:¬ g.regionOf (a:Int)=g.regionOf (b:Int)):(addR σ P R (g.regionOf (a:Int)) (g.cardOf (b:Int))).2.1=0:=by
 have hw:=d.wd
 have e1:g.regionOf (a:Int)=((a / W0:Nat):Int):=by unfold Geo.regionOf;rw [if_pos ⟨by omega,by omega⟩,d.rw];rfl
 have e2:g.regionOf (b:Int)=((b / W0:Nat):Int):=by unfold Geo.regionOf;rw [if_pos ⟨by omega,by omega⟩,d.rw];rfl
 have e3:g.cardOf (b:Int)=((b / C:Nat):Int):=by unfold Geo.cardOf;rw [if_pos ⟨by omega,by omega⟩,d.cw];rfl
 have hW:0<W0:=by
  rcases Nat.eq_zero_or_pos W0 with e | e
  ·subst e;simp at hn;omega
  ·exact e
 have hC:0<C:=d.c1
 rw [e1,e2]at hne
 rw [e1,e3]
 have h1:a / W0<R:=by rw [Nat.div_lt_iff_lt_mul hW];omega
 have h2:b / C<R*P:=by rw [Nat.div_lt_iff_lt_mul hC,Nat.mul_assoc,← d.wp];omega
 have h3:b / C / P=b / W0:=by rw [Nat.div_div_eq_div_mul,d.wp,Nat.mul_comm]
 rw [addR_at h1 h2,h3,if_neg (by omega)]
 split <;> rfl
end
def LinkP(W:World)(L:HL)(X:HX)(h:HS)(x:HT)(s k:Nat)(p:Pl)(A:Nat→Nat)(wd d:Nat→Nat→Nat)(i:Nat)(E:Blks)(e:Ending)(w':World):Prop:=
 e=.returned (.bool true)∧∃f σ wd',HE W w' L X { h with f:=f } { x with σ:=σ } s k E∧Lay p A p.n wd' d { h with f:=f } ∧
  (∀j,j<(p.T i).rf.length→wd' i j=lnk A ((p.T i).rf.getD j 0))∧∀i',i'≠i→∀j,wd' i' j=wd i' j
set_option maxHeartbeats 6400000 in
theorem link14_any{W w:World}{L:HL}{X:HX}{h:HS}{x:HT}{s k c i:Nat}{E:Blks}{Q:PA}{p:Pl}{A:Nat→Nat}{A0:Option Addr}{wd d:Nat→Nat→Nat}(hT:Tab W)(hP:PlAt W Q p)(hR:p.Right)(H:HE W w L X h x s k E)
  (hrow:Row E A0 c (places A p.n)) (l:Lay p A p.n wd d h) (hi:i<p.n) :
  Calls Tryz.prog 38 #[.agg #[.pointer (some ⟨L.hb,0,none⟩),.slice A0 p.n c],Q.val p,.int .i64 (i:Int)] w (LinkP W L X h x s k p A wd d i E):=by
 have ok:=H.ok
 have hn:=hR.n
 have nmax:=ok.nmax
 obtain⟨g,off,rfl,hcell⟩:=hrow.cell (W:=W) (L:=L) (X:=X) (s:=s) (k:=k) (by rw [places_len];omega)
 rw [places_len]at hcell
 have hAt:∀(w:World) (h:HS) (x:HT) (E':Blks),HE W w L X h x s k E'→(∀q,q∈E→q∈E')→∀j,j<p.n→w.cell? ⟨g,off+j,none⟩=some (.int .i64 (A j:Int)):=fun w h x E' H hs j hj=>by
  rw [hcell (H.sub hs) j hj,places_at A hj]
 have HAt:=hide hAt
 have hAm:∀j,j<p.n→A j<h.n:=fun j hj=>l.alt hj
 have HAm:=hide hAm
 have HP:=hide hP
 have HRt:=hide hR
 have HL0:=hide l
 have HOK:=hide ok
 have HDim:=hide H.dim
 have HTW:=hide hT
 obtain⟨tA,htA⟩:∃y,y=Q.tA:=⟨_,rfl⟩
 have ta:=htA.trans (hP.ta (by omega))
 have hPw:=hP.fr0 H.fr
 have t0:=hPw.t0 i hi
 have t1:=hPw.t1 i hi
 have t2:=hPw.t2 i hi
 have N0:Q.tb<w.heap.size:=lt_of_cell t0
 have hpn:(i:Int)<(p.n:Int):=by omega
 obtain⟨st,hst⟩:∃st,(p.T i).st=st:=⟨_,rfl⟩
 obtain⟨rn,hrn⟩:∃rn,(p.T i).rf.length=rn:=⟨_,rfl⟩
 obtain⟨rA,hrA⟩:∃rA,Q.rA i=rA:=⟨_,rfl⟩
 have hrm:=hP.rm i hi
 rw [hst]at t0
 rw [hrn,hrA]at t1
 rw [hrn]at hrm
 have HSt:=hide hst
 have HRn:=hide hrn
 have HRA:=hide hrA
 have HH:=hide H
 unfold PA.val
 rw [← htA]
 subst ta
 clear htA hP hR l ok hcell hAt hAm hst hrn hrA hPw hT hrow
 have e2:((w.alloc (.cells #[.pointer (some ⟨L.hb,0,none⟩),.slice (some ⟨g,off,none⟩) p.n c] 33)).alloc (.cells #[.int .i64 p.c.shift,.int .i64 p.c.regions,.int .i64 p.c.cardShift,.int .i64 p.c.threads,.int .i64 p.c.roots,.int .i64 p.c.refiners,.int .i64 p.c.markers,.int .i64 p.c.young,.int .i64 p.c.tenure,.int .i64 p.c.queue,.int .i64 p.c.stack,.int .i64 p.c.budget,.int .i64 p.c.percent,.int .i64 p.c.fail,.slice (some ⟨Q.tb,Q.to,none⟩) p.n Q.tc,.slice Q.hA p.m Q.hc] 27)).heap.size=w.heap.size+1+1:=by simp
 have h3:=((H.alloc 33 #[.pointer (some ⟨L.hb,0,none⟩),.slice (some ⟨g,off,none⟩) p.n c]).alloc 27 #[.int .i64 p.c.shift,.int .i64 p.c.regions,.int .i64 p.c.cardShift,.int .i64 p.c.threads,.int .i64 p.c.roots,.int .i64 p.c.refiners,.int .i64 p.c.markers,.int .i64 p.c.young,.int .i64 p.c.tenure,.int .i64 p.c.queue,.int .i64 p.c.stack,.int .i64 p.c.budget,.int .i64 p.c.percent,.int .i64 p.c.fail,.slice (some ⟨Q.tb,Q.to,none⟩) p.n Q.tc,.slice Q.hA p.m Q.hc]).alloc 62 #[.int .i64 st,.slice rA rn (Q.rc i),.slice (Q.dA i) (p.T i).dt.length (Q.dc i)]
 rw [e2]at h3
 have HA3:Hid (HE W (((w.alloc (.cells #[.pointer (some ⟨L.hb,0,none⟩),.slice (some ⟨g,off,none⟩) p.n c] 33)).alloc (.cells #[.int .i64 p.c.shift,.int .i64 p.c.regions,.int .i64 p.c.cardShift,.int .i64 p.c.threads,.int .i64 p.c.roots,.int .i64 p.c.refiners,.int .i64 p.c.markers,.int .i64 p.c.young,.int .i64 p.c.tenure,.int .i64 p.c.queue,.int .i64 p.c.stack,.int .i64 p.c.budget,.int .i64 p.c.percent,.int .i64 p.c.fail,.slice (some ⟨Q.tb,Q.to,none⟩) p.n Q.tc,.slice Q.hA p.m Q.hc] 27)).alloc (.cells #[.int .i64 st,.slice rA rn (Q.rc i),.slice (Q.dA i) (p.T i).dt.length (Q.dc i)] 62)) L X h x s k ((w.heap.size+1+1,62,#[.int .i64 st,.slice rA rn (Q.rc i),.slice (Q.dA i) (p.T i).dt.length (Q.dc i)])::(w.heap.size,33,#[.pointer (some ⟨L.hb,0,none⟩),.slice (some ⟨g,off,none⟩) p.n c])::E)):=h3.sub (fun q hq=>by
  simp only [List.mem_cons]at hq ⊢
  rcases hq with h | h | h
  ·exact .inl h
  ·exact .inr (.inr (.inl h))
  ·exact .inr (.inr (.inr h)))
 clear e2 h3
 go_enter Tryz.func38,Tryz.ntmps38
 go_wp2_with fail
 obtain⟨w3,hw3⟩:∃w3,w3=(((w.alloc (.cells #[.pointer (some ⟨L.hb,0,none⟩),.slice (some ⟨g,off,none⟩) p.n c] 33)).alloc (.cells #[.int .i64 p.c.shift,.int .i64 p.c.regions,.int .i64 p.c.cardShift,.int .i64 p.c.threads,.int .i64 p.c.roots,.int .i64 p.c.refiners,.int .i64 p.c.markers,.int .i64 p.c.young,.int .i64 p.c.tenure,.int .i64 p.c.queue,.int .i64 p.c.stack,.int .i64 p.c.budget,.int .i64 p.c.percent,.int .i64 p.c.fail,.slice (some ⟨Q.tb,Q.to,none⟩) p.n Q.tc,.slice Q.hA p.m Q.hc] 27)).alloc (.cells #[.int .i64 st,.slice rA rn (Q.rc i),.slice (Q.dA i) (p.T i).dt.length (Q.dc i)] 62)):=⟨_,rfl⟩
 rw [← hw3]at HA3 ⊢
 clear hw3 t0 t1 t2 N0 H HH
 generalize w.heap.size=bb at *
 generalize bb+1+1=tb at *
 clear w
 go_loopw [8] (fun v wr=>∃(kk:Nat) (f:Nat→Nat) (σ:RS) (wd':Nat→Nat→Nat),v=.int .i64 kk∧kk≤rn∧HE W wr L X { h with f:=f } { x with σ:=σ } s k ((tb,62,#[.int .i64 st,.slice rA rn (Q.rc i),.slice (Q.dA i) (p.T i).dt.length (Q.dc i)])::(bb,33,#[.pointer (some ⟨L.hb,0,none⟩),.slice (some ⟨g,off,none⟩) p.n c])::E)∧Lay p A p.n wd' d { h with f:=f } ∧
   (∀j,j<kk→wd' i j=lnk A ((p.T i).rf.getD j 0))∧∀i',i'≠i→∀j,wd' i' j=wd i' j) (fun v _=>rn-(intOf v).toNat)
 case atStart=>exact⟨0,h.f,x.σ,wd,rfl,Nat.zero_le _,HA3.out,HL0.out,fun j hj=>absurd hj (by omega),fun _ _ _=>rfl⟩
 case round=>
  obtain⟨kk,f,σ,wd',rfl,hk,hA,hl,hdone,hold⟩:=hrel
  have HX:=hide hA
  have HLy:=hide hl
  have HDone:=hide hdone
  have HOld:=hide hold
  have tc1:=(hA.blk (List.mem_cons_self ..)).cell 1
  have tc1:wr.cell? ⟨tb,1,none⟩=some (.slice rA rn (Q.rc i)):=tc1
  by_cases hlt:kk<rn
  ·have hlt1:(kk:Int)<(rn:Int):=by omega
   obtain⟨rb,ro,hrA2,_,hrc⟩:=HP.out.rs i hi (by rw [HRn.out];omega)
   have hrA3:=HRA.out.symm.trans hrA2
   subst hrA3
   have hRc:Hid (∀w',Fr [] W w'→w'.cell? ⟨rb,ro+kk,none⟩=some (.int .i64 ((p.T i).rf.getD kk 0))):=fun w' hf=>by
    obtain⟨rb2,ro2,e1,_,h2⟩:=(HP.out.fr0 hf).rs i hi (by rw [HRn.out];omega)
    have e1:=HRA.out.symm.trans e1
    injection e1 with e1
    injection e1 with e1 e2
    subst e1 e2
    exact h2 kk (by rw [HRn.out];omega)
   obtain⟨hr0,hr1⟩:0≤(p.T i).rf.getD kk 0∧(p.T i).rf.getD kk 0≤(p.n:Int):=by
    refine(HRt.out.t i hi).rf _ ?_
    rw [List.getD_eq_getElem?_getD,List.getElem?_eq_getElem (by rw [HRn.out];exact hlt)]
    exact List.getElem_mem _
   obtain⟨r,hr⟩:∃r,(p.T i).rf.getD kk 0=r:=⟨_,rfl⟩
   rw [hr]at hRc hr0 hr1
   have HR:=hide hr
   obtain⟨a,ha⟩:∃a,A i=a:=⟨_,rfl⟩
   have HAi:=hide ha
   have hsz:=(HLy.out.top i hi (A i+1+kk) (by omega) (by have:=HRn.out;unfold PT.sz;omega)).1
   rw [ha]at hsz
   have hsz:a+1+kk<h.n:=hsz
   have HC:Hid (∀f σ w',HE W w' L X { h with f:=f } { x with σ:=σ } s k ((tb,62,#[.int .i64 st,.slice (some ⟨rb,ro,none⟩) rn (Q.rc i),.slice (Q.dA i) (p.T i).dt.length (Q.dc i)])::(bb,33,#[.pointer (some ⟨L.hb,0,none⟩),.slice (some ⟨g,off,none⟩) p.n c])::E)→w'.cell? ⟨L.hb,14,none⟩=some (.int .i64 h.g.words)∧w'.cell? ⟨L.hb,15,none⟩=some (.int .i64 h.g.rw)∧w'.cell? ⟨L.hb,16,none⟩=some (.int .i64 h.g.cw)∧w'.cell? ⟨L.hb,17,none⟩=some (.int .i64 h.g.regions)∧w'.cell? ⟨L.hb,18,none⟩=some (.int .i64 h.g.cards)∧w'.cell? ⟨L.hb,19,none⟩=some (.int .i64 h.g.max)∧w'.cell? ⟨L.hb,20,none⟩=some (.pointer (some ⟨L.ab,0,none⟩))∧w'.cell? ⟨L.hb,25,none⟩=some (.pointer (some ⟨X.zb,0,none⟩))∧w'.cell? ⟨bb,0,none⟩=some (.pointer (some ⟨L.hb,0,none⟩))∧w'.cell? ⟨bb,1,none⟩=some (.slice (some ⟨g,off,none⟩) p.n c)∧w'.cell? ⟨tb,0,none⟩=some (.int .i64 st)∧w'.cell? ⟨tb,1,none⟩=some (.slice (some ⟨rb,ro,none⟩) rn (Q.rc i))∧w'.cell? ⟨tb,2,none⟩=some (.slice (Q.dA i) (p.T i).dt.length (Q.dc i))∧w'.cell? ⟨g,off+i,none⟩=some (.int .i64 (a:Int))∧w'.cell? ⟨rb,ro+kk,none⟩=some (.int .i64 r)):=fun f σ w' q=>by
    obtain⟨c0,c1,c2,c3,c4,c5⟩:=q.hr.geo
    have b1:=q.blk (List.mem_cons_of_mem _ (List.mem_cons_self ..))
    have b2:=q.blk (List.mem_cons_self ..)
    have b3:=HAt.out _ _ _ _ q (fun q hq=>List.mem_cons_of_mem _ (List.mem_cons_of_mem _ hq)) i hi
    rw [HAi.out]at b3
    exact⟨c0,c1,c2,c3,c4,c5,q.hr.cA,q.cS,b1.cell 0,b1.cell 1,b2.cell 0,b2.cell 1,b2.cell 2,b3,hRc.out _ q.fr⟩
   have hlim:h.n≤4194304:=HOK.out.nmax
   have HRef:Hid (∀f σ w',HE W w' L X { h with f:=f } { x with σ:=σ } s k ((tb,62,#[.int .i64 st,.slice (some ⟨rb,ro,none⟩) rn (Q.rc i),.slice (Q.dA i) (p.T i).dt.length (Q.dc i)])::(bb,33,#[.pointer (some ⟨L.hb,0,none⟩),.slice (some ⟨g,off,none⟩) p.n c])::E)→Calls Tryz.prog 40 #[.agg #[.pointer (some ⟨L.hb,0,none⟩),.slice (some ⟨g,off,none⟩) p.n c],.int .i64 r] w' fun e w''=>e=.returned (.int .u64 (lnk A r:Int))∧Fr [] w' w''):=fun f σ w' q=>
    ref14_any (HAt.out _ _ _ _ q (fun q hq=>List.mem_cons_of_mem _ (List.mem_cons_of_mem _ hq))) (fun j hj=>by have:=HAm.out j hj;omega) hr0 hr1 hn
   obtain⟨v,hv⟩:∃v,lnk A r=v:=⟨_,rfl⟩
   have hvm:v<18446744073709551616:=by
    rw [← hv]
    unfold lnk
    split
    ·decide
    ·have:=HAm.out (r.toNat-1) (by omega);omega
   rw [hv]at HRef
   have HV:=hide hv
   have HStore:Hid (∀f σ w',HE W w' L X { h with f:=f } { x with σ:=σ } s k ((tb,62,#[.int .i64 st,.slice (some ⟨rb,ro,none⟩) rn (Q.rc i),.slice (Q.dA i) (p.T i).dt.length (Q.dc i)])::(bb,33,#[.pointer (some ⟨L.hb,0,none⟩),.slice (some ⟨g,off,none⟩) p.n c])::E)→Calls Tryz.prog 37 #[.pointer (some ⟨L.ab,0,none⟩),.int .i64 ((a:Int)+1+(kk:Int)),.int .u64 (v:Int)] w' fun e w''=>e=.returned (.int .i64 0)∧HE W w'' L X { h with f:=upd f (a+1+kk) v } { x with σ:=σ } s k ((tb,62,#[.int .i64 st,.slice (some ⟨rb,ro,none⟩) rn (Q.rc i),.slice (Q.dA i) (p.T i).dt.length (Q.dc i)])::(bb,33,#[.pointer (some ⟨L.hb,0,none⟩),.slice (some ⟨g,off,none⟩) p.n c])::E)):=fun f σ w' q=>
    q.post (fun own q=>q.store (by omega) hsz rfl hvm)
   have HLw:Hid (Lay p A p.n (fun x y=>if x=i∧y=kk then v else wd' x y) d { h with f:=upd f (a+1+kk) v }):=by
    have:=HLy.out.word (m:=kk) (v:=v) hi (by have:=HRn.out;unfold PT.sz;omega)
    rw [HAi.out]at this
    exact this.same (fun _ _ _ _=>rfl) (fun i2 h2 j hj=>by
     show(if i2=i∧_ then _ else _)=_
     rw [if_neg]
     have:=HRn.out
     omega)
   clear hA hl hdone hold hrA2 hrc hr ha hv tc1
   obtain⟨k0,k1,k2,k3,k4,k5,k6,k7,k8,k9,k10,k11,k12,k13,k14⟩:=HC.out _ _ _ HX.out
   go_wp2_with fail
   clear k0 k1 k2 k3 k4 k5 k6 k7 k8 k9 k10 k11 k12 k13 k14
   replace HX:=hide (HX.out.fr0 (Fr.refl _ _).drew)
   have K0:=HC.out _ _ _ HX.out
   go_region_held3 (fun w'=>w'.cell? ⟨L.hb,14,none⟩=some (.int .i64 h.g.words)∧w'.cell? ⟨L.hb,15,none⟩=some (.int .i64 h.g.rw)∧w'.cell? ⟨L.hb,16,none⟩=some (.int .i64 h.g.cw)∧w'.cell? ⟨L.hb,17,none⟩=some (.int .i64 h.g.regions)∧w'.cell? ⟨L.hb,18,none⟩=some (.int .i64 h.g.cards)∧w'.cell? ⟨L.hb,19,none⟩=some (.int .i64 h.g.max)∧w'.cell? ⟨L.hb,20,none⟩=some (.pointer (some ⟨L.ab,0,none⟩))∧w'.cell? ⟨L.hb,25,none⟩=some (.pointer (some ⟨X.zb,0,none⟩))∧w'.cell? ⟨bb,0,none⟩=some (.pointer (some ⟨L.hb,0,none⟩))∧w'.cell? ⟨bb,1,none⟩=some (.slice (some ⟨g,off,none⟩) p.n c)∧w'.cell? ⟨tb,0,none⟩=some (.int .i64 st)∧w'.cell? ⟨tb,1,none⟩=some (.slice (some ⟨rb,ro,none⟩) rn (Q.rc i))∧w'.cell? ⟨tb,2,none⟩=some (.slice (Q.dA i) (p.T i).dt.length (Q.dc i))∧w'.cell? ⟨g,off+i,none⟩=some (.int .i64 (a:Int))∧w'.cell? ⟨rb,ro+kk,none⟩=some (.int .i64 r))
    (first | with_reducible exact K0 | go_keep)
    (first | (go_at_call 40;refine(HRef.out _ _ _ HX.out).mono ?_;rintro e w2 ⟨rfl,hf⟩;replace HX:=hide (HX.out.fr0 hf);have K0:=HC.out _ _ _ HX.out;clear hf) | (go_at_call 37;refine(HStore.out _ _ _ HX.out).mono ?_;rintro e w2 ⟨rfl,hA⟩;have HY:=hide hA;have K0:=HC.out _ _ _ hA;clear hA))
   clear HX HStore HRef
   obtain⟨f2,hf2⟩:∃f2,upd f (a+1+kk) v=f2:=⟨_,rfl⟩
   rw [hf2]at HY HLw
   clear hf2
   have HRel:Hid (∀w' σ2,HE W w' L X { h with f:=f2 } { x with σ:=σ2 } s k ((tb,62,#[.int .i64 st,.slice (some ⟨rb,ro,none⟩) rn (Q.rc i),.slice (Q.dA i) (p.T i).dt.length (Q.dc i)])::(bb,33,#[.pointer (some ⟨L.hb,0,none⟩),.slice (some ⟨g,off,none⟩) p.n c])::E)→∃(kk2:Nat) (f:Nat→Nat) (σ:RS) (wd':Nat→Nat→Nat),Value.int .i64 ((kk:Int)+1)=.int .i64 (kk2:Int)∧kk2≤rn∧HE W w' L X { h with f:=f } { x with σ:=σ } s k ((tb,62,#[.int .i64 st,.slice (some ⟨rb,ro,none⟩) rn (Q.rc i),.slice (Q.dA i) (p.T i).dt.length (Q.dc i)])::(bb,33,#[.pointer (some ⟨L.hb,0,none⟩),.slice (some ⟨g,off,none⟩) p.n c])::E)∧Lay p A p.n wd' d { h with f:=f }∧(∀j,j<kk2→wd' i j=lnk A ((p.T i).rf.getD j 0))∧∀i',i'≠i→∀j,wd' i' j=wd i' j):=fun w' σ2 q=>
    ⟨kk+1,f2,σ2,_,rfl,hlt,q,HLw.out,fun j hj=>by
     by_cases e:j=kk
     ·subst e
      rw [if_pos ⟨rfl,rfl⟩,HR.out,HV.out]
     ·rw [if_neg (fun h=>e h.2)]
      exact HDone.out j (by omega),fun i2 h2 j=>by
     rw [if_neg (fun h=>h2 h.1)]
     exact HOld.out i2 h2 j⟩
   clear HLw HDone HOld HLy HV
   obtain⟨j0,j1,j2,j3,j4,j5,j6,j7,j8,j9,j10,j11,j12,j13,j14⟩:=K0
   go_wp2_with fail
   have HC2:Hid (∀u:Cls (fun w'=>HE W w' L X { h with f:=f2 } { x with σ:=σ } s k ((tb,62,#[.int .i64 st,.slice (some ⟨rb,ro,none⟩) rn (Q.rc i),.slice (Q.dA i) (p.T i).dt.length (Q.dc i)])::(bb,33,#[.pointer (some ⟨L.hb,0,none⟩),.slice (some ⟨g,off,none⟩) p.n c])::E)),u.w.cell? ⟨L.hb,14,none⟩=some (.int .i64 h.g.words)∧u.w.cell? ⟨L.hb,15,none⟩=some (.int .i64 h.g.rw)∧u.w.cell? ⟨L.hb,16,none⟩=some (.int .i64 h.g.cw)∧u.w.cell? ⟨L.hb,17,none⟩=some (.int .i64 h.g.regions)∧u.w.cell? ⟨L.hb,18,none⟩=some (.int .i64 h.g.cards)∧u.w.cell? ⟨L.hb,19,none⟩=some (.int .i64 h.g.max)∧u.w.cell? ⟨L.hb,20,none⟩=some (.pointer (some ⟨L.ab,0,none⟩))∧u.w.cell? ⟨L.hb,25,none⟩=some (.pointer (some ⟨X.zb,0,none⟩))∧u.w.cell? ⟨bb,0,none⟩=some (.pointer (some ⟨L.hb,0,none⟩))∧u.w.cell? ⟨bb,1,none⟩=some (.slice (some ⟨g,off,none⟩) p.n c)∧u.w.cell? ⟨tb,0,none⟩=some (.int .i64 st)∧u.w.cell? ⟨tb,1,none⟩=some (.slice (some ⟨rb,ro,none⟩) rn (Q.rc i))∧u.w.cell? ⟨tb,2,none⟩=some (.slice (Q.dA i) (p.T i).dt.length (Q.dc i))∧u.w.cell? ⟨g,off+i,none⟩=some (.int .i64 (a:Int))∧u.w.cell? ⟨rb,ro+kk,none⟩=some (.int .i64 r)):=fun u=>HC.out _ _ _ u.ok
   have hne:Nonempty (Cls (fun w'=>HE W w' L X { h with f:=f2 } { x with σ:=σ } s k ((tb,62,#[.int .i64 st,.slice (some ⟨rb,ro,none⟩) rn (Q.rc i),.slice (Q.dA i) (p.T i).dt.length (Q.dc i)])::(bb,33,#[.pointer (some ⟨L.hb,0,none⟩),.slice (some ⟨g,off,none⟩) p.n c])::E))):=⟨⟨w2,HY.out⟩⟩
   clear j0 j1 j2 j3 j4 j5 j6 j7 j8 j9 j10 j11 j12 j13 j14
   have hways:r=0∨(∃q:Nat,r=(q:Int)+1∧q<p.n∧(((q:Int)+1)==0)=false∧decide (st<3)=true)∨(∃q:Nat,r=(q:Int)+1∧q<p.n∧(((q:Int)+1)==0)=false∧decide (st<3)=false∧(h.g.regionOf (A q:Int)==h.g.regionOf ((a:Int)+1+(kk:Int)))=true) ∨
     (∃q:Nat,r=(q:Int)+1∧q<p.n∧(((q:Int)+1)==0)=false∧decide (st<3)=false∧(h.g.regionOf (A q:Int)==h.g.regionOf ((a:Int)+1+(kk:Int)))=false):=by
    by_cases e0:r=0
    ·exact .inl e0
    ·obtain⟨q,hq⟩:∃q:Nat,r=(q:Int)+1:=⟨(r-1).toNat,by omega⟩
     have hz:(((q:Int)+1)==0)=false:=by simp;omega
     by_cases e1:st<3
     ·exact .inr (.inl ⟨q,hq,by omega,hz,decide_eq_true e1⟩)
     ·by_cases e2:(h.g.regionOf (A q:Int)==h.g.regionOf ((a:Int)+1+(kk:Int)))=true
      ·exact .inr (.inr (.inl ⟨q,hq,by omega,hz,decide_eq_false e1,e2⟩))
      ·exact .inr (.inr (.inr ⟨q,hq,by omega,hz,decide_eq_false e1,by simpa using e2⟩))
   have HHome:Hid (∀q:Nat,q<p.n→∀f σ w',HE W w' L X { h with f:=f } { x with σ:=σ } s k ((tb,62,#[.int .i64 st,.slice (some ⟨rb,ro,none⟩) rn (Q.rc i),.slice (Q.dA i) (p.T i).dt.length (Q.dc i)])::(bb,33,#[.pointer (some ⟨L.hb,0,none⟩),.slice (some ⟨g,off,none⟩) p.n c])::E)→Calls Tryz.prog 16 #[.agg #[.pointer (some ⟨L.hb,0,none⟩),.slice (some ⟨g,off,none⟩) p.n c],.int .i64 ((q:Int)+1)] w' fun e w''=>e=.returned (.int .i64 (h.g.regionOf (A q:Int)))∧Fr [] w' w''):=fun q hq f σ w' H=>by
    obtain⟨c0,c1,c2,c3,c4,c5⟩:=H.hr.geo
    exact home14_any (A:=A) (gg:=h.g) (HAt.out _ _ _ _ H (fun q hq=>List.mem_cons_of_mem _ (List.mem_cons_of_mem _ hq)) q hq) hq hn c0 c1 c2 c3 c4 c5 (fun w'' hf=>(H.fr0 hf).region _)
   have HAdd:Hid (∀q:Nat,q<p.n→¬ h.g.regionOf (A q:Int)=h.g.regionOf ((a:Int)+1+(kk:Int))→∀σ w',HE W w' L X { h with f:=f2 } { x with σ:=σ } s k ((tb,62,#[.int .i64 st,.slice (some ⟨rb,ro,none⟩) rn (Q.rc i),.slice (Q.dA i) (p.T i).dt.length (Q.dc i)])::(bb,33,#[.pointer (some ⟨L.hb,0,none⟩),.slice (some ⟨g,off,none⟩) p.n c])::E)→Calls Tryz.prog 89 #[.pointer (some ⟨X.zb,0,none⟩),.int .i64 (h.g.regionOf (A q:Int)),.int .i64 (h.g.cardOf ((a:Int)+1+(kk:Int)))] w' fun e w''=>∃b σ',e=.returned (.tuple #[.bool b,.int .i64 0])∧HE W w'' L X { h with f:=f2 } { x with σ:=σ' } s k ((tb,62,#[.int .i64 st,.slice (some ⟨rb,ro,none⟩) rn (Q.rc i),.slice (Q.dA i) (p.T i).dt.length (Q.dc i)])::(bb,33,#[.pointer (some ⟨L.hb,0,none⟩),.slice (some ⟨g,off,none⟩) p.n c])::E)):=fun q hq hne σ w' H=>by
    have e0:=add_ok (σ:=σ) (g:=h.g) (a:=A q) (b:=a+1+kk) HOK.out.geo HDim.out HOK.out.nn (HAm.out q hq) hsz (by rw [show((a+1+kk:Nat):Int)=(a:Int)+1+(kk:Int)by omega];exact hne)
    rw [show((a+1+kk:Nat):Int)=(a:Int)+1+(kk:Int)by omega]at e0
    refine(H.post (fun own q1=>q1.addSet (h.g.regionOf (A q:Int)) (h.g.cardOf ((a:Int)+1+(kk:Int))))).mono ?_
    rintro e w'' ⟨rfl,H2⟩
    refine⟨(addR σ x.per h.R (h.g.regionOf (A q:Int)) (h.g.cardOf ((a:Int)+1+(kk:Int)))).1,(addR σ x.per h.R (h.g.regionOf (A q:Int)) (h.g.cardOf ((a:Int)+1+(kk:Int)))).2.2,?_,H2⟩
    have e0:(addR σ x.per h.R (h.g.regionOf (A q:Int)) (h.g.cardOf ((a:Int)+1+(kk:Int)))).2.1=0:=e0
    show Ending.returned (.tuple #[.bool (addR σ x.per h.R (h.g.regionOf (A q:Int)) (h.g.cardOf ((a:Int)+1+(kk:Int)))).1,.int .i64 (addR σ x.per h.R (h.g.regionOf (A q:Int)) (h.g.cardOf ((a:Int)+1+(kk:Int)))).2.1])=_
    rw [e0]
   have HCrd:Hid (∀σ w',HE W w' L X { h with f:=f2 } { x with σ:=σ } s k ((tb,62,#[.int .i64 st,.slice (some ⟨rb,ro,none⟩) rn (Q.rc i),.slice (Q.dA i) (p.T i).dt.length (Q.dc i)])::(bb,33,#[.pointer (some ⟨L.hb,0,none⟩),.slice (some ⟨g,off,none⟩) p.n c])::E)→Calls Tryz.prog 15 #[.agg #[.int .i64 h.g.words,.int .i64 h.g.rw,.int .i64 h.g.cw,.int .i64 h.g.regions,.int .i64 h.g.cards,.int .i64 h.g.max],.int .i64 ((a:Int)+1+(kk:Int))] w' fun e w''=>e=.returned (.int .i64 (h.g.cardOf ((a:Int)+1+(kk:Int))))∧Fr [] w' w''):=fun σ w' H=>H.card _
   rcases hways with rfl | ⟨q,rfl,hq,hz,h3⟩ | ⟨q,rfl,hq,hz,h3,h4⟩ | ⟨q,rfl,hq,hz,h3,h4⟩
   all_goals
    have y0:∀u:Cls (fun w'=>HE W w' L X { h with f:=f2 } { x with σ:=σ } s k ((tb,62,#[.int .i64 st,.slice (some ⟨rb,ro,none⟩) rn (Q.rc i),.slice (Q.dA i) (p.T i).dt.length (Q.dc i)])::(bb,33,#[.pointer (some ⟨L.hb,0,none⟩),.slice (some ⟨g,off,none⟩) p.n c])::E)),u.w.cell? ⟨L.hb,14,none⟩=some (.int .i64 h.g.words):=fun u=>(HC2.out u).1
    have y1:∀u:Cls (fun w'=>HE W w' L X { h with f:=f2 } { x with σ:=σ } s k ((tb,62,#[.int .i64 st,.slice (some ⟨rb,ro,none⟩) rn (Q.rc i),.slice (Q.dA i) (p.T i).dt.length (Q.dc i)])::(bb,33,#[.pointer (some ⟨L.hb,0,none⟩),.slice (some ⟨g,off,none⟩) p.n c])::E)),u.w.cell? ⟨L.hb,15,none⟩=some (.int .i64 h.g.rw):=fun u=>(HC2.out u).2.1
    have y2:∀u:Cls (fun w'=>HE W w' L X { h with f:=f2 } { x with σ:=σ } s k ((tb,62,#[.int .i64 st,.slice (some ⟨rb,ro,none⟩) rn (Q.rc i),.slice (Q.dA i) (p.T i).dt.length (Q.dc i)])::(bb,33,#[.pointer (some ⟨L.hb,0,none⟩),.slice (some ⟨g,off,none⟩) p.n c])::E)),u.w.cell? ⟨L.hb,16,none⟩=some (.int .i64 h.g.cw):=fun u=>(HC2.out u).2.2.1
    have y3:∀u:Cls (fun w'=>HE W w' L X { h with f:=f2 } { x with σ:=σ } s k ((tb,62,#[.int .i64 st,.slice (some ⟨rb,ro,none⟩) rn (Q.rc i),.slice (Q.dA i) (p.T i).dt.length (Q.dc i)])::(bb,33,#[.pointer (some ⟨L.hb,0,none⟩),.slice (some ⟨g,off,none⟩) p.n c])::E)),u.w.cell? ⟨L.hb,17,none⟩=some (.int .i64 h.g.regions):=fun u=>(HC2.out u).2.2.2.1
    have y4:∀u:Cls (fun w'=>HE W w' L X { h with f:=f2 } { x with σ:=σ } s k ((tb,62,#[.int .i64 st,.slice (some ⟨rb,ro,none⟩) rn (Q.rc i),.slice (Q.dA i) (p.T i).dt.length (Q.dc i)])::(bb,33,#[.pointer (some ⟨L.hb,0,none⟩),.slice (some ⟨g,off,none⟩) p.n c])::E)),u.w.cell? ⟨L.hb,18,none⟩=some (.int .i64 h.g.cards):=fun u=>(HC2.out u).2.2.2.2.1
    have y5:∀u:Cls (fun w'=>HE W w' L X { h with f:=f2 } { x with σ:=σ } s k ((tb,62,#[.int .i64 st,.slice (some ⟨rb,ro,none⟩) rn (Q.rc i),.slice (Q.dA i) (p.T i).dt.length (Q.dc i)])::(bb,33,#[.pointer (some ⟨L.hb,0,none⟩),.slice (some ⟨g,off,none⟩) p.n c])::E)),u.w.cell? ⟨L.hb,19,none⟩=some (.int .i64 h.g.max):=fun u=>(HC2.out u).2.2.2.2.2.1
    have y6:∀u:Cls (fun w'=>HE W w' L X { h with f:=f2 } { x with σ:=σ } s k ((tb,62,#[.int .i64 st,.slice (some ⟨rb,ro,none⟩) rn (Q.rc i),.slice (Q.dA i) (p.T i).dt.length (Q.dc i)])::(bb,33,#[.pointer (some ⟨L.hb,0,none⟩),.slice (some ⟨g,off,none⟩) p.n c])::E)),u.w.cell? ⟨L.hb,20,none⟩=some (.pointer (some ⟨L.ab,0,none⟩)):=fun u=>(HC2.out u).2.2.2.2.2.2.1
    have y7:∀u:Cls (fun w'=>HE W w' L X { h with f:=f2 } { x with σ:=σ } s k ((tb,62,#[.int .i64 st,.slice (some ⟨rb,ro,none⟩) rn (Q.rc i),.slice (Q.dA i) (p.T i).dt.length (Q.dc i)])::(bb,33,#[.pointer (some ⟨L.hb,0,none⟩),.slice (some ⟨g,off,none⟩) p.n c])::E)),u.w.cell? ⟨L.hb,25,none⟩=some (.pointer (some ⟨X.zb,0,none⟩)):=fun u=>(HC2.out u).2.2.2.2.2.2.2.1
    have y8:∀u:Cls (fun w'=>HE W w' L X { h with f:=f2 } { x with σ:=σ } s k ((tb,62,#[.int .i64 st,.slice (some ⟨rb,ro,none⟩) rn (Q.rc i),.slice (Q.dA i) (p.T i).dt.length (Q.dc i)])::(bb,33,#[.pointer (some ⟨L.hb,0,none⟩),.slice (some ⟨g,off,none⟩) p.n c])::E)),u.w.cell? ⟨bb,0,none⟩=some (.pointer (some ⟨L.hb,0,none⟩)):=fun u=>(HC2.out u).2.2.2.2.2.2.2.2.1
    have y9:∀u:Cls (fun w'=>HE W w' L X { h with f:=f2 } { x with σ:=σ } s k ((tb,62,#[.int .i64 st,.slice (some ⟨rb,ro,none⟩) rn (Q.rc i),.slice (Q.dA i) (p.T i).dt.length (Q.dc i)])::(bb,33,#[.pointer (some ⟨L.hb,0,none⟩),.slice (some ⟨g,off,none⟩) p.n c])::E)),u.w.cell? ⟨bb,1,none⟩=some (.slice (some ⟨g,off,none⟩) p.n c):=fun u=>(HC2.out u).2.2.2.2.2.2.2.2.2.1
    have y10:∀u:Cls (fun w'=>HE W w' L X { h with f:=f2 } { x with σ:=σ } s k ((tb,62,#[.int .i64 st,.slice (some ⟨rb,ro,none⟩) rn (Q.rc i),.slice (Q.dA i) (p.T i).dt.length (Q.dc i)])::(bb,33,#[.pointer (some ⟨L.hb,0,none⟩),.slice (some ⟨g,off,none⟩) p.n c])::E)),u.w.cell? ⟨tb,0,none⟩=some (.int .i64 st):=fun u=>(HC2.out u).2.2.2.2.2.2.2.2.2.2.1
    have y11:∀u:Cls (fun w'=>HE W w' L X { h with f:=f2 } { x with σ:=σ } s k ((tb,62,#[.int .i64 st,.slice (some ⟨rb,ro,none⟩) rn (Q.rc i),.slice (Q.dA i) (p.T i).dt.length (Q.dc i)])::(bb,33,#[.pointer (some ⟨L.hb,0,none⟩),.slice (some ⟨g,off,none⟩) p.n c])::E)),u.w.cell? ⟨tb,1,none⟩=some (.slice (some ⟨rb,ro,none⟩) rn (Q.rc i)):=fun u=>(HC2.out u).2.2.2.2.2.2.2.2.2.2.2.1
    have y12:∀u:Cls (fun w'=>HE W w' L X { h with f:=f2 } { x with σ:=σ } s k ((tb,62,#[.int .i64 st,.slice (some ⟨rb,ro,none⟩) rn (Q.rc i),.slice (Q.dA i) (p.T i).dt.length (Q.dc i)])::(bb,33,#[.pointer (some ⟨L.hb,0,none⟩),.slice (some ⟨g,off,none⟩) p.n c])::E)),u.w.cell? ⟨tb,2,none⟩=some (.slice (Q.dA i) (p.T i).dt.length (Q.dc i)):=fun u=>(HC2.out u).2.2.2.2.2.2.2.2.2.2.2.2.1
    have y13:∀u:Cls (fun w'=>HE W w' L X { h with f:=f2 } { x with σ:=σ } s k ((tb,62,#[.int .i64 st,.slice (some ⟨rb,ro,none⟩) rn (Q.rc i),.slice (Q.dA i) (p.T i).dt.length (Q.dc i)])::(bb,33,#[.pointer (some ⟨L.hb,0,none⟩),.slice (some ⟨g,off,none⟩) p.n c])::E)),u.w.cell? ⟨g,off+i,none⟩=some (.int .i64 (a:Int)):=fun u=>(HC2.out u).2.2.2.2.2.2.2.2.2.2.2.2.2.1
    have y14:=fun u=>(HC2.out u).2.2.2.2.2.2.2.2.2.2.2.2.2.2
    try have HH2:Hid (∀u:Cls (fun w'=>HE W w' L X { h with f:=f2 } { x with σ:=σ } s k ((tb,62,#[.int .i64 st,.slice (some ⟨rb,ro,none⟩) rn (Q.rc i),.slice (Q.dA i) (p.T i).dt.length (Q.dc i)])::(bb,33,#[.pointer (some ⟨L.hb,0,none⟩),.slice (some ⟨g,off,none⟩) p.n c])::E)),Calls Tryz.prog 16 #[.agg #[.pointer (some ⟨L.hb,0,none⟩),.slice (some ⟨g,off,none⟩) p.n c],.int .i64 ((q:Int)+1)] u.w fun e w''=>e=.returned (.int .i64 (h.g.regionOf (A q:Int)))∧∃u':Cls (fun w'=>HE W w' L X { h with f:=f2 } { x with σ:=σ } s k ((tb,62,#[.int .i64 st,.slice (some ⟨rb,ro,none⟩) rn (Q.rc i),.slice (Q.dA i) (p.T i).dt.length (Q.dc i)])::(bb,33,#[.pointer (some ⟨L.hb,0,none⟩),.slice (some ⟨g,off,none⟩) p.n c])::E)),w''=u'.w):=fun u=>Cls.grows (fun w w' h hf=>HE.fr0 h hf) (HHome.out q hq _ _ _ u.ok)
    have HRg:Hid (∀u:Cls (fun w'=>HE W w' L X { h with f:=f2 } { x with σ:=σ } s k ((tb,62,#[.int .i64 st,.slice (some ⟨rb,ro,none⟩) rn (Q.rc i),.slice (Q.dA i) (p.T i).dt.length (Q.dc i)])::(bb,33,#[.pointer (some ⟨L.hb,0,none⟩),.slice (some ⟨g,off,none⟩) p.n c])::E)),Calls Tryz.prog 14 #[.agg #[.int .i64 h.g.words,.int .i64 h.g.rw,.int .i64 h.g.cw,.int .i64 h.g.regions,.int .i64 h.g.cards,.int .i64 h.g.max],.int .i64 ((a:Int)+1+(kk:Int))] u.w fun e w''=>e=.returned (.int .i64 (h.g.regionOf ((a:Int)+1+(kk:Int))))∧∃u':Cls (fun w'=>HE W w' L X { h with f:=f2 } { x with σ:=σ } s k ((tb,62,#[.int .i64 st,.slice (some ⟨rb,ro,none⟩) rn (Q.rc i),.slice (Q.dA i) (p.T i).dt.length (Q.dc i)])::(bb,33,#[.pointer (some ⟨L.hb,0,none⟩),.slice (some ⟨g,off,none⟩) p.n c])::E)),w''=u'.w):=fun u=>Cls.grows (fun w w' h hf=>HE.fr0 h hf) (u.ok.region _)
    try have HAd:=hide (HAdd.out q hq (by simpa using h4))
    try have HHm:=hide (HHome.out q hq)
    clear HAdd HHome
    generalize h.g.cardOf ((a:Int)+1+(kk:Int))=CF at *
    try generalize h.g.regionOf (A q:Int)=RH at *
    generalize h.g.regionOf ((a:Int)+1+(kk:Int))=RF at *
    refine wp_region_cls (fun w'=>HE W w' L X { h with f:=f2 } { x with σ:=σ } s k ((tb,62,#[.int .i64 st,.slice (some ⟨rb,ro,none⟩) rn (Q.rc i),.slice (Q.dA i) (p.T i).dt.length (Q.dc i)])::(bb,33,#[.pointer (some ⟨L.hb,0,none⟩),.slice (some ⟨g,off,none⟩) p.n c])::E)) (by kernel_rfl) (by kernel_rfl) (HY.out.fr0 (Fr.refl _ _).drew) ?_
    repeat (go_big_quiet_step ((first | (go_at_call 16;exact HH2.out _) | (go_at_call 14;exact HRg.out _))))
    refine wpQuiet_nil ?_
    rintro _ ⟨u,rfl⟩
    go_wp2_with fail
   iterate 3 (focus exact⟨HRel.out _ _ u.ok,by simp [intOf];omega⟩)
   have HX:=hide (u.ok.fr0 (Fr.refl _ _).drew)
   have K0:=HC.out _ _ _ HX.out
   clear y0 y1 y2 y3 y4 y5 y6 y7 y8 y9 y10 y11 y12 y13 y14 HC2
   go_region_held3 (fun w'=>w'.cell? ⟨L.hb,14,none⟩=some (.int .i64 h.g.words)∧w'.cell? ⟨L.hb,15,none⟩=some (.int .i64 h.g.rw)∧w'.cell? ⟨L.hb,16,none⟩=some (.int .i64 h.g.cw)∧w'.cell? ⟨L.hb,17,none⟩=some (.int .i64 h.g.regions)∧w'.cell? ⟨L.hb,18,none⟩=some (.int .i64 h.g.cards)∧w'.cell? ⟨L.hb,19,none⟩=some (.int .i64 h.g.max)∧w'.cell? ⟨L.hb,20,none⟩=some (.pointer (some ⟨L.ab,0,none⟩))∧w'.cell? ⟨L.hb,25,none⟩=some (.pointer (some ⟨X.zb,0,none⟩))∧w'.cell? ⟨bb,0,none⟩=some (.pointer (some ⟨L.hb,0,none⟩))∧w'.cell? ⟨bb,1,none⟩=some (.slice (some ⟨g,off,none⟩) p.n c)∧w'.cell? ⟨tb,0,none⟩=some (.int .i64 st)∧w'.cell? ⟨tb,1,none⟩=some (.slice (some ⟨rb,ro,none⟩) rn (Q.rc i))∧w'.cell? ⟨tb,2,none⟩=some (.slice (Q.dA i) (p.T i).dt.length (Q.dc i))∧w'.cell? ⟨g,off+i,none⟩=some (.int .i64 (a:Int))∧w'.cell? ⟨rb,ro+kk,none⟩=some (.int .i64 ((q:Int)+1)))
    (first | with_reducible exact K0 | go_keep)
    (first | (go_at_call 16;refine(HHm.out _ _ _ HX.out).mono ?_;rintro e w4 ⟨rfl,hf⟩;replace HX:=hide (HX.out.fr0 hf);have K0:=HC.out _ _ _ HX.out;clear hf) | (go_at_call 15;refine(HCrd.out _ _ HX.out).mono ?_;rintro e w4 ⟨rfl,hf⟩;replace HX:=hide (HX.out.fr0 hf);have K0:=HC.out _ _ _ HX.out;clear hf) | (go_at_call 89;refine(HAd.out _ _ HX.out).mono ?_;rintro e w4 ⟨b4,σ4,rfl,hA⟩;have HZ:=hide hA;have K0:=HC.out _ _ _ hA;clear hA))
   all_goals
    obtain⟨j0,j1,j2,j3,j4,j5,j6,j7,j8,j9,j10,j11,j12,j13,j14⟩:=K0
    go_wp2_with fail
    exact⟨HRel.out _ _ HZ.out,by simp [intOf];omega⟩
  ·obtain rfl:kk=rn:=by omega
   have HF:=hide (show LinkP W L X h x s k p A wd d i E (.returned (.bool true)) wr from ⟨rfl,f,σ,wd',HX.out.sub (fun q hq=>List.mem_cons_of_mem _ (List.mem_cons_of_mem _ hq)),HLy.out,fun j hj=>HDone.out j (by rw [← HRn.out];exact hj),HOld.out⟩)
   clear hA hl hdone hold
   go_wp2_with fail
   go_ret
   exact HF.out
section
variable {W w w':World}{L:HL}{X:HX}{h:HS}{x:HT}{s k:Nat}{E Er R:Blks}
theorem Row.of_lr{A:Option Addr}{n c:Nat}{G:List Nat}{l:List Int}(H:HE W w L X h x s k E)(hl:Lr w 3 A n c G (zv l))(hG:∀g,g∈G→∃cur,(g,3,cur)∈E):Row E A c l:=by
 have hn:l.length=n:=(zv_len l).symm.trans hl.len
 refine⟨by have:=hl.le;omega,hl.max,fun hc=>?_⟩
 obtain⟨g,off,cur,h1,h2,h3,h4,h5⟩:=hl.blk hc
 obtain⟨cur2,h6⟩:=hG g (by simp [h2])
 have h7:=Blk.same h3 (H.blk h6)
 subst h7
 exact⟨g,off,cur,h1,h6,h4,by rw [hn];exact h5⟩
theorem HE.grow(hT:Tab W)(H:HE W w L X h x s k (R++Er)){G G':List Nat}(hG:∀g,g∈G→∃cur,(g,3,cur)∈R)(hf:Fr G w w')(hG':∀g,g∈G'→g∈G∨w.heap.size≤g)
  (hb:∀g,g∈G'→∃cur,Blk w' g 3 cur) (hne:∀q,q∈Er→q.1∉G) :
  ∃R':Blks,HE W w' L X h x s k (R'++Er)∧(∀g,g∈G'→∃cur,(g,3,cur)∈R')∧∀q,q∈R'→q.1∈G':=by
 obtain⟨own,h1,h2⟩:=H
 have hlt:=hT.lt
 have hgo:∀g,g∈G→own g=0∧W.heap.size≤g:=fun g hg=>by
  obtain⟨cur,hc⟩:=hG g hg
  exact(h2 _ (List.mem_append_left _ hc)).2
 have hnew:∀g,w.heap.size≤g→own g=0:=fun g hg=>by
  obtain⟨tg,FS,H,_⟩:=h1
  by_cases e:own g=0
  ·exact e
  ·have:=H.lt g e;omega
 have hsz:=h1.fr.size
 refine⟨G'.attach.map fun g=>(g.1,3,Classical.choose (hb g.1 g.2)),⟨own,h1.other hf hgo (fun hg=>by have:=(hgo _ hg).2;omega),fun q hq=>?_⟩,fun g hg=>?_,fun q hq=>?_⟩
 ·rcases List.mem_append.1 hq with hq | hq
  ·obtain⟨⟨g,hg⟩,_,rfl⟩:=List.mem_map.1 hq
   refine⟨Classical.choose_spec (hb g hg),?_⟩
   rcases hG' g hg with h3 | h3
   ·exact hgo g h3
   ·exact⟨hnew g h3,by show W.heap.size≤g;omega⟩
  ·obtain⟨k1,k2,k3⟩:=h2 q (List.mem_append_right _ hq)
   exact⟨k1.fr hf (hne q hq),k2,k3⟩
 ·exact⟨_,List.mem_map.2 ⟨⟨g,hg⟩,List.mem_attach _ _,rfl⟩⟩
 ·obtain⟨⟨g,hg⟩,_,rfl⟩:=List.mem_map.1 hq
  exact hg
end
theorem room_any{W w:World}{L:HL}{X:HX}{h:HS}{x:HT}{s k ob z:Nat}{E:Blks}{o:Nat→Int}{rA dA:Option Addr}{rn dn rc dc:Nat}{st:Int}(hT:Tab W)(H:HE W w L X h x s k ((ob,3,rowV .i64 4 o)::E))(hE:∀q,q∈E→q.1≠ob)
  (hfree:∀r,r<h.R→h.s r=0→h.t r=((r*h.W:Nat):Int)) (ho:OpenOk o h) (hz:z=1+rn+dn) (hzm:z≤1048576) (hbig:h.g.bigB (z:Int)=(st==4)) (h1:1≤st) (h4:st≤4) :
  Calls Tryz.prog 34 #[.pointer (some ⟨L.hb,0,none⟩),.slice (some ⟨ob,0,none⟩) 4 4,.agg #[.int .i64 st,.slice rA rn rc,.slice dA dn dc]] w (RoomX W L X h x s k ob z o st E):=by
 by_cases e:st=4
 ·subst e
  exact room_big hT H hfree ho hz (by omega) hzm
 ·obtain⟨Y,rfl⟩:=Int.eq_ofNat_of_zero_le (show 0≤st by omega)
  have hb:h.g.bigB (z:Int)=false:=by rw [hbig];simpa using e
  have hrw:=H.ok.rw
  unfold Geo.bigB at hb
  have hb:=of_decide_eq_false hb
  have hdiv:(h.W:Int) / 2≤(h.W:Int):=Int.ediv_le_self _ (by omega)
  exact room_small hT H hE hfree ho hz (by omega) hzm (by rw [hrw]at hb;omega) (by omega) (by omega)
def dta(p:Pl)(i j:Nat):Nat:=((p.T i).dt.getD j 0).toNat
structure Laid(p:Pl)(A:Nat→Nat)(L:HL)(h:HS):Prop where
 lay:Lay p A p.n (fun i j=>lnk A ((p.T i).rf.getD j 0)) (dta p) h
 g:h.g=p.c.geo
 T:p.c.threads=(h.T:Int)
 B:p.c.roots=(L.B:Int)
 st:∀t,t<h.T→h.st t=if t<p.m then (p.H t).map fun r=>(lnk A r:Int) else []
def Trk(p:Pl)(x0:HT)(R W:Nat):Nat→(Nat→Int)→(Nat→Int)→(Nat→Int)→(Nat→Nat)→HT→Prop
 | 0,s,t,o,A,x=>s=(fun _=>0)∧t=(fun r=>((r*W:Nat):Int))∧o=(fun _=>-1)∧x=x0
 | i+1,s,t,o,A,x=>∃s' t' o' A' x' a,Trk p x0 R W i s' t' o' A' x'∧RoomR R W s' t' o' (p.T i).sz (p.T i).st (some (s,t,o,a))∧A=setA A' i a∧x=if 3≤(p.T i).st then { x' with O:=obj x'.cw x'.O a (p.T i).sz } else x'
theorem Trk.one{p:Pl}{x0:HT}{R W:Nat}:∀ {i:Nat} {s t o s' t' o':Nat→Int} {A A':Nat→Nat} {x x':HT},Trk p x0 R W i s t o A x→Trk p x0 R W i s' t' o' A' x'→s=s'∧t=t'∧o=o'∧(∀j,j<i→A j=A' j)∧x=x'
 | 0,_,_,_,_,_,_,_,_,_,_,h,h'=>⟨h.1.trans h'.1.symm,h.2.1.trans h'.2.1.symm,h.2.2.1.trans h'.2.2.1.symm,fun j hj=>absurd hj (by omega),h.2.2.2.trans h'.2.2.2.symm⟩
 | i+1,_,_,_,_,_,_,_,_,_,_,⟨s1,t1,o1,A1,x1,a,h1,h2,h3,h4⟩,⟨s2,t2,o2,A2,x2,b,k1,k2,k3,k4⟩=>by
  obtain⟨e1,e2,e3,e4,e5⟩:=Trk.one h1 k1
  subst e1 e2 e3 e5
  have e6:=h2.one k2
  injection e6 with e6
  injection e6 with e6 e7
  injection e7 with e7 e8
  injection e8 with e8 e9
  subst e6 e7 e8 e9
  refine⟨rfl,rfl,rfl,fun j hj=>?_,h4.trans k4.symm⟩
  rw [h3,k3]
  unfold setA
  split
  ·rfl
  ·exact e4 j (by omega)
def BuiltX(W:World)(p:Pl)(e:Ending)(w':World):Prop:=
 ∃(W0 RR C P T B qm s k:Nat),NwOk p.c W0 RR C P T B qm s k ∧
 ((∃(L:HL) (X:HX) (h:HS) (x x1:HT) (o:Nat→Int) (σ:RS) (A:Nat→Nat) (A0:Option Addr) (c:Nat) (E:Blks),e=.returned (.tuple #[.agg #[.pointer (some ⟨L.hb,0,none⟩),.slice A0 p.n c],.bool true,.bool false])∧HE W w' L X h x s k E∧Row E A0 c (places A p.n)∧Laid p A L h ∧
  Trk p (HTn C P RR qm (RR*W0)) RR W0 p.n h.s h.t o A x1∧x={ x1 with σ:=σ }∧h.R=RR∧h.W=W0∧L.cfg=p.c) ∨
 (e=.returned (.tuple #[.agg #[.pointer none,.slice none 0 0],.bool false,.bool false])∧Fr [] W w'∧∃(i:Nat) (x:HT) (s1 t1 o1:Nat→Int) (A:Nat→Nat),i<p.n∧Trk p (HTn C P RR qm (RR*W0)) RR W0 i s1 t1 o1 A x∧RoomR RR W0 s1 t1 o1 (p.T i).sz (p.T i).st none))
def BuiltP(W:World)(p:Pl)(e:Ending)(w':World):Prop:=
 (∃(L:HL) (X:HX) (h:HS) (x:HT) (s k:Nat) (A:Nat→Nat) (A0:Option Addr) (c:Nat) (E:Blks),e=.returned (.tuple #[.agg #[.pointer (some ⟨L.hb,0,none⟩),.slice A0 p.n c],.bool true,.bool false])∧HE W w' L X h x s k E∧Row E A0 c (places A p.n)∧Laid p A L h) ∨
 (e=.returned (.tuple #[.agg #[.pointer none,.slice none 0 0],.bool false,.bool false])∧Fr [] W w')
end Go.Proofs.YteacgfeiedcdiaaGreatDoor
