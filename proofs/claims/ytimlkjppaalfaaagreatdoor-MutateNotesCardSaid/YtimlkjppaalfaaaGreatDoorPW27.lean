/- Several texts joined (pack.py): Xe Qw Vyg Yz Za Zb. -/
import Derived.Test.YtimlkjppaalfaaaGreatDoorPW25
import Derived.Test.YtimlkjppaalfaaaGreatDoorPW26
import Derived.Test.YtimlkjppaalfaaaGreatDoorPW19
import Derived.Deep.RegionWith
import Derived.Test.YtimlkjppaalfaaaGreatDoorPW17
import Derived.Test.YtimlkjppaalfaaaGreatDoorPW23
import Derived.Test.YtimlkjppaalfaaaGreatDoorPW22
set_option linter.unusedVariables false
set_option linter.unusedSimpArgs false
set_option maxHeartbeats 3200000
set_option maxRecDepth 100000
open Nat renaming le_refl->Dd
namespace Go.Proofs.YtimlkjppaalfaaaGreatDoor
open Go.RowKit Go.Gl HS
section
variable {W w w':World}{L:HL}{X:HX}{tg:Tg}{own:Nat->Nat}{FS:Nat->List Nat}{h:HS}{x:HT}{s k:Nat}{E:aK}{D:Nat->Prop}{Q:World->Prop}
theorem Hw.queue(H:Hw w L X tg own FS h x s k){F':List Nat}{C':List Int}{O':Nat->List Int}(hf:Fr X.qF w w')(ho:Qq w' X.qb F' h.T x.qm C' O')(hl:∀b,b∈F'->b<w'.heap.size)(hn:∀b,b∈F'->b∈X.qF\/w.heap.size<=b) :
  ∃own',Hw w' L { X with qF:=F' } tg own' FS h { x with qc:=C',ql:=O' } s k/\(∀b,own' b≠0->own b≠0\/w.heap.size<=b)/\∀b,b<w.heap.size->own' b=own b:=by
 have h1:∀b,b<w.heap.size->cJ own w.heap.size (λb=>b∈F') 6 b=own b:=λb hb=>by unfold cJ;rw[if_pos hb]
 have r:=H.rest (own':=cJ own w.heap.size (λb=>b∈F') 6) hf (λb hb=>H.o6 b hb) (by decide) h1;refine⟨_,⟨(r.r1 (by decide)).1,r.r2 (by decide),r.r3 (by decide),(r.r1 (by decide)).2.1,λi hi=>r.r9 i hi (by omega),(r.r1 (by decide)).2.2,H.ok,r.rt,H.dim,r.r4 (by decide),r.r5 (by decide),ho,r.r7 (by decide),r.r8 (by decide),H.vo,H.vc,H.vq,H.vs,H.vm,r.o1,r.o2,r.o3,r.o4,r.o5,λb hb=>?_,r.o7,r.o8,r.io,r.o0,λb hb=>?_⟩,λb hb=>?_,h1⟩
 ·rcases hn b hb with e|e
  ·have:=H.o6 b e;rw[h1 b (H.lt b (by rw[this];decide))];exact this
  ·unfold cJ;rw[if_neg (by omega),if_pos hb]
 ·have hs:=hf.size;by_cases e:b<w.heap.size
  ·omega
  ·unfold cJ at hb;rw[if_neg e]at hb;by_cases e2:b∈F'
   ·exact hl b e2
   ·rw[if_neg e2]at hb;exact absurd rfl hb
 ·by_cases e:b<w.heap.size
  ·rw[h1 b e]at hb;exact .inl hb
  ·exact .inr (by omega)
theorem HM.Cq(hS:ah D Q)(H:HM W w L X h x s k E D Q)(hk:QOk h.T x.qm x.qc x.ql){t:Nat}(ht:t<h.T){c:Int}(hc:0<=c) :
  Calls Tryz.prog 98 #[.pointer (some ⟨X.qb,0,none⟩),.int .i64 (t:Int),.int .i64 c] w λe w'=>∃F' A n G,e=.returned (.tuple #[.slice A (cP x.qm x.qc x.ql t c).length n,.int .i64 0]) /\
   HM W w' L { X with qF:=F' } h { x with qc:=eP x.qm x.qc x.ql t c,ql:=eU x.ql t c } s k E D Q/\Lr w' 3 A (cP x.qm x.qc x.ql t c).length n G (zv (cP x.qm x.qc x.ql t c)):=by
 obtain⟨own,⟨tg,FS,H,h1,h2⟩,hE,hD,hQ⟩:=H;refine(yf H.qu hk t ht c hc).mono ?_;rintro e w' ⟨F',A,n,G,rfl,hq,hl,hf,hn,hg⟩;obtain⟨own',k1,k2,k3⟩:=H.queue hf hq hq.lt hn;exact⟨F',A,n,G,rfl,HM.of hS hE hD hQ k1 h1 h2 hf (λb hb=>by rw[H.o6 b hb];decide) k2 k3,hl⟩
end
open Go.RowKit Go.Gl
theorem Tryz.vj:∀w,(zeroValue 25).run Tryz.prog w=.ok (.slice none 0 0) w:=λw=>by
 obtain⟨i0,hi,hz0,_,_⟩:=info_parts Tryz.nD;simp[zeroValue,typeInfo,hi,hz0]
theorem oP{l r:List Value}(h:r.length=l.length):splice l 0 r=r:=by
 unfold splice;rw[List.take_zero,Nat.zero_add,h,List.drop_length];simp
theorem sM{w:World}{ab n c n1 c1:Nat}{A A1:Option Addr}{l l1:List Int}(h0:w.cell? ⟨ab,0,none⟩=some (.slice A l.length c))(h1:w.cell? ⟨ab,1,none⟩=some (.slice A1 l1.length c1))
  (s0:Sl w A l.length (λi=>.int .i64 (l.getD i 0))) (s1:Sl w A1 l1.length (λi=>.int .i64 (l1.getD i 0))) (hb:(l++l1).length<=17592186044416) :
  Calls Tryz.prog 35 #[.slice (some ⟨ab,0,none⟩) 2 2] w (kI w (l++l1)):=by
 have:=lF (w:=w) (ab:=ab) (k:=2) (kc:=2) (A:=λj=>if j=0 then A else A1) (c:=λj=>if j=0 then c else c1) (L:=λj=>if j=0 then l else l1) (by decide)
  (λj hj=>by
   obtain rfl|rfl:j=0\/j=1:=by omega
   ·exact h0
   ·exact h1)
  (λj hj=>by
   obtain rfl|rfl:j=0\/j=1:=by omega
   ·exact s0
   ·exact s1) (by simpa[bi] using hb)
 simpa[bi] using this
def BE(w:World)(F:List Nat)(Q:World->List Nat->Prop)(over:List Int)(e:Ending)(w':World):Prop:=
 ∃F' A c G,e=.returned (.slice A over.length c)/\Q w' F'/\Lr w' 3 A over.length c G (zv over)/\Fr F w w'/\(∀x,x∈F'->x∈F\/w.heap.size<=x)/\∀g,g∈G->g∉F'/\w.heap.size<=g
theorem sO{w:World}{q:Nat}{F:List Nat}{n B:Nat}{C:List Int}{O:Nat->List Int}(h:Qq w q F n B C O)(hk:QOk n B C O) :
  Calls Tryz.prog 12 #[.pointer (some ⟨q,0,none⟩)] w (BE w F (λw' F'=>Qq w' q F' n B [] (λ_=>[])) (C++bi O n)):=by
 obtain⟨tb,A,c,G0,V,G,h,rfl⟩:=h;have c0:=Qk.c0 h;have c2:=Qk.c2 h;have H:=aa h;have HK:=aa hk;have N1:q<w.heap.size:=h.st.lt;obtain⟨A',hA'⟩:∃A':Nat->Option Addr,∀i,A' i=(match V i with|.slice a _ _=>a|_=>none):=⟨_,λ_=>rfl⟩;obtain⟨c',hc'⟩:∃c':Nat->Nat,∀i,c' i=(match V i with|.slice _ _ k=>k|_=>0):=⟨_,λ_=>rfl⟩;have HI:Hid (∀w',Fr [] w w'->Calls Tryz.prog 35 #[.slice (some ⟨tb,0,none⟩) n n] w' (kI w' (bi O n))):=λw' hf=>by
  have h':=H.out.fr0 hf;refine lF (A:=A') (c:=c') (by have:=HK.out.n2;omega) (λj hj=>?_) (λj hj=>?_) (by have:=HK.out.cat;omega)
  ·obtain⟨A1,c1,e1,_⟩:=h'.ls.own j hj;rw[Qk.cw h' hj,hA',hc',e1]
  ·obtain⟨A1,c1,e1,e2⟩:=h'.ls.own j hj;rw[hA',e1];exact e2.slz
 have HJ:Hid (∀w1 A1 c1 G1,Fr [] w w1->Lr w1 3 A1 (bi O n).length c1 G1 (zv (bi O n))->Calls Tryz.prog 35 #[.slice (some ⟨w1.heap.size,0,none⟩) 2 2] (w1.alloc (.cells #[.slice A C.length c,.slice A1 (bi O n).length c1] 25)) (kI (w1.alloc (.cells #[.slice A C.length c,.slice A1 (bi O n).length c1] 25)) (C++bi O n))):=λw1 A1 c1 G1 hf hl=>by
  have hb:=Blk.new w1 25 #[.slice A C.length c,.slice A1 (bi O n).length c1];refine sM (n:=0) (n1:=0) (c:=c) (c1:=c1) (by rw[hb.cell];rfl) (by rw[hb.cell];rfl) ((H.out.com.fr0 hf).alloc _).slz (hl.alloc _).slz ?_;have:=HK.out.cat;have:=HK.out.c;have:=HK.out.b;rw[List.length_append];omega
 have HZ:Hid (∀w',Fr [] w w'->w'.cell? ⟨q,0,none⟩=some (.slice A C.length c)):=λw' hf=>Qk.c0 (H.out.fr0 hf);have HI0:=aa (HI.out w.drew (Fr.refl _ _).drew);clear h hk hA' hc' HI;go_enter Tryz.func12,Tryz.ntmps12
 go_wp2_with fail
 go_region_with (go_at_call 35;first|((with_reducible refine Calls.mono HI0.out ?_);rintro e w1 ⟨A1,c1,G1,rfl,hl,hf,hg⟩;have HL1:=aa hl;have HF1:=aa ((Fr.refl [] w).drew.ae hf);have HG1:=aa hg;have d0:=HZ.out _ HF1.out;have HJ1:=aa (HJ.out _ _ _ _ HF1.out HL1.out);clear hl hf hg)|((with_reducible refine Calls.mono HJ1.out ?_);rintro e w2 ⟨A2,c2',G2,rfl,hl2,hf2,hg2⟩)|fail)
 all_goals
  have HF2:Hid (Fr [] w w2):=(HF1.out.alloc _).ae hf2;have HL2:=aa hl2;have HG2:Hid (∀g,g∈G2->w.heap.size<=g):=λg hg=>Nat.le_trans (HF1.out.alloc _).size (hg2 g hg);have HLN:Hid ((C++bi O n).length=C.length+(bi O n).length):=List.length_append;clear hl2 hf2 hg2 d0 HJ1;have HQ:=aa (H.out.fr0 HF2.out);have e0:=Qk.c0 HQ.out;have z0:=HQ.out.st.frozen 0;have HQ1:Hid (Qk (w2.setCell ⟨q,0,none⟩ (.slice none 0 0)) q tb n B none 0 [] [] V G O):=HQ.out.tY (by decide) (by decide) (by decide) (ci:=0) (l:=[]) (λ_ _ _=>rfl) (Fr.refl _ _) (Lr.nil _ _) (λ_ h=>by cases h);have HF3:Hid (Fr (dY q tb n G0 G) w (w2.setCell ⟨q,0,none⟩ (.slice none 0 0))):=(HF2.out.mono (λx hx=>by cases hx)).setCell (p:=⟨q,0,none⟩) (.inl (aR.2 (.inl rfl))) _;have HL3:Hid (Lr (w2.setCell ⟨q,0,none⟩ (.slice none 0 0)) 3 A2 (C++bi O n).length c2' G2 (zv (C++bi O n))):=HL2.out.fr (F:=[q]) ((Fr.refl _ _).setCell (p:=⟨q,0,none⟩) (.inl (by simp)) _) (λg hg=>by have:=HG2.out g hg;simp;omega);have f2:=Qk.c2 HQ1.out;have HSZ:Hid ((aI n V).size=n):=dU _ _;go_wp2_with (with_reducible refine gi rfl _ 104 rfl 25 Tryz.underlying104 Tryz.vj rfl rfl (some ⟨tb,0,none⟩) n n rfl tb 0 (aI n V) 25 HQ1.out.ls.tab (λ_=>rfl) (by rw[HSZ.out];omega) ?_)
  intro w4 HB4 HF4;have HB5:Blk w4 tb 25 (aI n λ_=>.slice none 0 0):=by
   have:=HB4.out;rw[oP (by simp[dU]),<- dV]at this;exact this
  have HQ4:Hid (Qk w4 q tb n B none 0 [] [] (λ_=>.slice none 0 0) (λ_=>[]) (λ_=>[])):=HQ1.out.clear (by decide) (by decide) HB5 HF4.out;have HL4:Hid (Lr w4 3 A2 (C++bi O n).length c2' G2 (zv (C++bi O n))):=HL3.out.fr HF4.out (λg hg=>by have:=HG2.out g hg;have:=H.out.ls.tab.lt;simp;omega);have HF5:Hid (Fr (dY q tb n G0 G) w w4):=HF3.out.trans HF4.out (λx hx=>.inl (by simp at hx;exact aR.2 (.inr (.inl hx))));clear HB5;go_wp2_with fail
  go_ret
  refine⟨_,A2,c2',G2,by rw[HLN.out];rfl,⟨_,_,_,_,_,_,HQ4.out,rfl⟩,HL4.out,HF5.out,λx hx=>?_,λg hg=>⟨λhx=>?_,HG2.out g hg⟩⟩
  ·rcases aR.1 hx with rfl|rfl|hx|⟨i,_,hx⟩
   ·exact .inl (aR.2 (.inl rfl))
   ·exact .inl (aR.2 (.inr (.inl rfl)))
   ·cases hx
   ·cases hx
  ·have h1:=HG2.out g hg;rcases aR.1 hx with rfl|rfl|hx|⟨i,_,hx⟩
   ·have:=H.out.st.lt;omega
   ·have:=H.out.ls.tab.lt;omega
   ·cases hx
   ·cases hx
section
variable {W w w':World}{L:HL}{X:HX}{tg:Tg}{own:Nat->Nat}{FS:Nat->List Nat}{h:HS}{x:HT}{s k:Nat}{E:aK}{D:Nat->Prop}{Q:World->Prop}
theorem HM.lost(hS:ah D Q)(H:HM W w L X h x s k E D Q){l:List Int}{A:Option Addr}{c:Nat}(hl:Sl w A l.length (λm=>.int .i64 (l.getD m 0)))(hll:l.length<=4611686018427387904)(hlw:∀m,m<l.length->(Lit.int .i64 (l.getD m 0)).wf=true)(hab:0<l.length->∀b off,A=some ⟨b,off,none⟩->b≠L.ab) :
  Calls Tryz.prog 9 #[.pointer (some ⟨L.hb,0,none⟩),.slice A l.length c] w λe w'=>∃A' c' G',e=.returned (.slice A' (h.dQ x.σ x.per l).length c')/\Lr w' 3 A' (h.dQ x.σ x.per l).length c' G' (zv (h.dQ x.σ x.per l))/\(∀g,g∈G'->w.heap.size<=g)/\HM W w' L X h x s k E D Q/\Fr [L.ab] w w':=by
 have H0:=H;obtain⟨own,⟨tg,FS,Hh,h1,h2⟩,hE,hD,hQ⟩:=H;have hr:=H0.hr;refine(uW (sb:=X.zb) (per:=x.per) (σ:=x.σ) (I:=λb=>SAt b tg X.zb x.per h.R x.σ) hr ⟨Hh.vs,λa b F q hf hF=>q.fr hf (λy hy=>?_),λa q y z hy=>q.has y z hy⟩ Hh.se hl hll hlw hab).mono ?_
 ·by_cases e:(tg y).1=0
  ·exact e
  ·exfalso;rcases hF y hy with e1|e1
   ·have:=Hh.o7 y e;rw[e1,Hh.o2.1]at this;cases this
   ·have:=Hh.se.tok y e;omega
 ·rintro e w' ⟨A',c',G',e1,e2,e3,e4,e5,e6⟩;exact⟨A',c',G',e1,e2,e3,H0.looked hS e4 e5,e5⟩
theorem HM.BF(hS:ah D Q)(H:HM W w L X h x s k E D Q)(hk:QOk h.T x.qm x.qc x.ql) :
  Calls Tryz.prog 12 #[.pointer (some ⟨X.qb,0,none⟩)] w λe w'=>∃F' A c G,e=.returned (.slice A (x.qc++bi x.ql h.T).length c) /\
   HM W w' L { X with qF:=F' } h { x with qc:=[],ql:=λ_=>[] } s k E (λb=>D b\/b∈G) (λw=>Q w/\Lr w 3 A (x.qc++bi x.ql h.T).length c G (zv (x.qc++bi x.ql h.T)))/\∀g,g∈G->w.heap.size<=g:=by
 obtain⟨own,⟨tg,FS,H,h1,h2⟩,hE,hD,hQ⟩:=H;refine(sO H.qu hk).mono ?_;rintro e w' ⟨F',A,n,G,rfl,hq,hl,hf,hn,hg⟩;have hsz:=h1.size;have hs:=hf.size;have k3:∀b,b<w.heap.size->cJ own w.heap.size (λb=>b∈F') 6 b=own b:=λb hb=>by unfold cJ;rw[if_pos hb]
 have r:=H.rest (own':=cJ own w.heap.size (λb=>b∈F') 6) hf (λb hb=>H.o6 b hb) (by decide) k3;have hw:Hw w' L { X with qF:=F' } tg (cJ own w.heap.size (λb=>b∈F') 6) FS h { x with qc:=[],ql:=λ_=>[] } s k:=by
  refine⟨(r.r1 (by decide)).1,r.r2 (by decide),r.r3 (by decide),(r.r1 (by decide)).2.1,λi hi=>r.r9 i hi (by omega),(r.r1 (by decide)).2.2,H.ok,r.rt,H.dim,r.r4 (by decide),r.r5 (by decide),hq,r.r7 (by decide),r.r8 (by decide),H.vo,H.vc,H.vq,H.vs,H.vm,r.o1,r.o2,r.o3,r.o4,r.o5,λb hb=>?_,r.o7,r.o8,r.io,r.o0,λb hb=>?_⟩
  ·rcases hn b hb with e|e
   ·have:=H.o6 b e;rw[k3 b (H.lt b (by rw[this];decide))];exact this
   ·unfold cJ;rw[if_neg (by omega),if_pos hb]
  ·by_cases e:b<w.heap.size
   ·omega
   ·unfold cJ at hb;rw[if_neg e]at hb;by_cases e2:b∈F'
    ·exact hq.lt b e2
    ·rw[if_neg e2]at hb;exact absurd rfl hb
 have hF:∀b,b∈X.qF->own b≠0:=λb hb=>by rw[H.o6 b hb];decide
 refine⟨F',A,n,G,rfl,⟨_,⟨tg,FS,hw,h1.trans hf (λb hb=>.inr (h2 b (hF b hb))),λb hb=>?_⟩,λq hq=>?_,λb hb=>?_,hS.stay w w' _ hQ hf (λb hb hd=>hF b hb (hD b hd).1),hl⟩,λg hg'=>(hg g hg').2⟩
 ·by_cases e:b<w.heap.size
  ·rw[k3 b e]at hb;exact h2 b hb
  ·omega
 ·obtain⟨q1,q2,q3,q4⟩:=hE q hq;refine⟨q1.fr hf (λhx=>hF _ hx q2),(k3 _ q1.lt).trans q2,q3,λhd=>hd.elim q4 (λhg'=>?_)⟩;have:=(hg _ hg').2;have:=q1.lt;omega
 ·rcases hb with hb|hb
  ·exact⟨(k3 b (hS.lt w hQ b hb)).trans (hD b hb).1,(hD b hb).2⟩
  ·obtain⟨g1,g2⟩:=hg b hb;refine⟨?_,by omega⟩;unfold cJ;rw[if_neg (by omega),if_neg g1]
theorem HM.zZ(H:HM W w L X h x s k E D Q)(i:Int):Calls Tryz.prog 10 #[.pointer (some ⟨X.cb,0,none⟩),.int .i64 i] w λe w'=>e=.returned (.bool (fY x.C i))/\∃k,w'=w.drewN k:=by
 obtain⟨own,⟨tg,FS,H,h1,h2⟩,hE,hD,hQ⟩:=H;exact zB H.ct i
theorem HM.Cr(H:HM W w L X h x s k E D Q):Calls Tryz.prog 13 #[.pointer (some ⟨X.cb,0,none⟩)] w (gB w (below x.C (h.R*x.per))):=by
 obtain⟨own,⟨tg,FS,H,h1,h2⟩,hE,hD,hQ⟩:=H;exact uL H.ct H.tab
theorem HM.Aa(H:HM W w L X h x s k E D Q):w.cell? ⟨L.hb,22,none⟩=some (.pointer (some ⟨X.ob,0,none⟩))/\w.cell? ⟨L.hb,23,none⟩=some (.pointer (some ⟨X.cb,0,none⟩))/\w.cell? ⟨L.hb,24,none⟩=some (.pointer (some ⟨X.qb,0,none⟩))/\w.cell? ⟨L.hb,25,none⟩=some (.pointer (some ⟨X.zb,0,none⟩)):=by
 have hr:=H.hr;obtain⟨own,⟨tg,FS,H,h1,h2⟩,hE,hD,hQ⟩:=H;have c:=λi=>hr.st.cell i;refine⟨?_,?_,?_,?_⟩
 ·have:=c 22;rw[<- H.vo];exact this
 ·have:=c 23;rw[<- H.vc];exact this
 ·have:=c 24;rw[<- H.vq];exact this
 ·have:=c 25;rw[<- H.vs];exact this
end
def HS.Used(h:HS)(u:Nat):Prop:=u<h.n/\h.s (u / h.W)≠0/\(u:Int)<h.t (u / h.W)/\∀i,i<h.T->¬ (h.bx i<=(u:Int)/\(u:Int)<h.be i)
def osz(σ:GS)(o:Nat):Nat:=1+σ.np (o:Int)+σ.nw (o:Int)
theorem gU(σ:GS)(o:Nat):1<=osz σ o:=by unfold osz;omega
def HS.mf(h:HS)(a z:Nat):Prop:=
 ((h.s (a / h.W)=1\/h.s (a / h.W)=2\/h.s (a / h.W)=3)/\a+z<=a / h.W*h.W+h.W) \/
 (h.s (a / h.W)=4/\a=a / h.W*h.W/\∀i,1<=i->i*h.W<z->a / h.W+i<h.R/\h.s (a / h.W+i)=5)
theorem HS.mf.up{h h':HS}{a z:Nat}(l:h.mf a z)(eW:h'.W=h.W)(eR:h'.R=h.R)(hs:∀q,h.s q≠0->h'.s q=h.s q):h'.mf a z:=by
 unfold HS.mf;rw[eW,eR];rcases l with⟨l1,l2⟩|⟨l1,l2,l3⟩
 ·refine .inl ⟨?_,l2⟩;rw[hs _ (by omega)];exact l1
 ·refine .inr ⟨by rw[hs _ (by omega)];exact l1,l2,λi h1 h2=>?_⟩;obtain⟨k1,k2⟩:=l3 i h1 h2;exact⟨k1,by rw[hs _ (by omega)];exact k2⟩
structure iO(h:HS)(σ:GS)(A:Nat->Nat)(rv:Nat->Option (Nat×Nat))(Zs:List (Nat×Nat×Nat)):Prop where
 hdr:∀a z P,(a,z,P)∈Zs->h.f a=aY z P/\P<z/\z<=1048576/\∀j,j<P->h.f (a+1+j)=0
 use:∀a z P,(a,z,P)∈Zs->∀u,a<=u->u<a+z->h.Used u
 dis:∀a z P,(a,z,P)∈Zs->∀o,1<=o->o<=σ.N->∀u,a<=u->u<a+z->¬ (A o<=u/\u<A o+osz σ o)
 rdi:∀a z P,(a,z,P)∈Zs->∀i,i<h.T->∀b y,rv i=some (b,y)->∀u,a<=u->u<a+z->¬ (b<=u/\u<b+y)
 one:∀a z P b y Q,(a,z,P)∈Zs->(b,y,Q)∈Zs->∀u,a<=u->u<a+z->b<=u->u<b+y->a=b/\z=y/\P=Q
 lz:∀a z P,(a,z,P)∈Zs->h.mf a z
 lo:∀o,1<=o->o<=σ.N->h.mf (A o) (osz σ o)
 lr:∀i,i<h.T->∀a z,rv i=some (a,z)->h.mf a z
 cov:∀u,h.Used u->(∃o,1<=o/\o<=σ.N/\A o<=u/\u<A o+osz σ o)\/(∃a z P,(a,z,P)∈Zs/\a<=u/\u<a+z)\/∃i a z,i<h.T/\rv i=some (a,z)/\a<=u/\u<a+z
 hum:∀r,r<h.R->h.s r=4->((r*h.W:Nat):Int)<h.t r
def Rest(h:HS)(σ:GS)(A:Nat->Nat)(rv:Nat->Option (Nat×Nat)):Prop:=∃Zs,iO h σ A rv Zs
section
variable {h:HS}{σ:GS}{A:Nat->Nat}{rv:Nat->Option (Nat×Nat)}{Zs:List (Nat×Nat×Nat)}
theorem Rest.stk(m:Rest h σ A rv){l:Nat->List Int}{σ':GS}(eN:σ'.N=σ.N)(ez:∀p,osz σ' p=osz σ p):Rest { h with st:=l } σ' A rv:=by
 obtain⟨Zs,m⟩:=m;exact⟨Zs,⟨m.hdr,m.use,λa z P hm o h1 h2=>by rw[ez];exact m.dis a z P hm o h1 (by omega),m.rdi,m.one,m.lz,λo h1 h2=>by rw[ez];exact m.lo o h1 (by omega),m.lr,
  λu hu=>(m.cov u hu).imp (λ⟨o,h1,h2,h3,h4⟩=>⟨o,h1,by omega,h3,by rw[ez];exact h4⟩) id,m.hum⟩⟩
theorem Rest.word(m:Rest h σ A rv){o u0 v:Nat}(h1:1<=o)(h2:o<=σ.N)(hu:A o<=u0/\u0<A o+osz σ o){σ':GS}(eN:σ'.N=σ.N)(ez:∀p,osz σ' p=osz σ p):Rest { h with f:=upd h.f u0 v } σ' A rv:=by
 obtain⟨Zs,m⟩:=m;have far:∀a z P,(a,z,P)∈Zs->∀u,a<=u->u<a+z->upd h.f u0 v u=h.f u:=λa z P hm u k1 k2=>by
  unfold upd;rw[if_neg];intro e;exact m.dis a z P hm o h1 h2 u k1 k2 (by omega)
 refine⟨Zs,⟨λa z P hm=>?_,m.use,λa z P hm o h1 h2=>by rw[ez];exact m.dis a z P hm o h1 (by omega),m.rdi,m.one,m.lz,λo h1 h2=>by rw[ez];exact m.lo o h1 (by omega),m.lr,
  λu hu=>(m.cov u hu).imp (λ⟨o,h1,h2,h3,h4⟩=>⟨o,h1,by omega,h3,by rw[ez];exact h4⟩) id,m.hum⟩⟩
 obtain⟨k1,k2,k3,k4⟩:=m.hdr a z P hm;exact⟨(far a z P hm a (Dd _) (by omega)).trans k1,k2,k3,λj hj=>(far a z P hm _ (by omega) (by omega)).trans (k4 j hj)⟩
theorem Rest.move(m:Rest h σ A rv){h':HS}(eT:h'.T=h.T)(eW:h'.W=h.W)(eR:h'.R=h.R)(ef:h'.f=h.f)(hu:∀u,h.Used u->h'.Used u)(hb:∀u,h'.Used u->h.Used u)(hs:∀q,h.s q≠0->h'.s q=h.s q)
  (hh:∀r,r<h.R->h'.s r=4->((r*h.W:Nat):Int)<h'.t r):Rest h' σ A rv:=by
 obtain⟨Zs,m⟩:=m;exact⟨Zs,⟨λa z P hm=>by rw[ef];exact m.hdr a z P hm,λa z P hm u k1 k2=>hu u (m.use a z P hm u k1 k2),m.dis,λa z P hm i hi=>m.rdi a z P hm i (by omega),m.one,λa z P hm=>(m.lz a z P hm).up eW eR hs,
  λo h1 h2=>(m.lo o h1 h2).up eW eR hs,λi hi a z e=>(m.lr i (by omega) a z e).up eW eR hs,
  λu k=>(m.cov u (hb u k)).imp id (Or.imp id (λ⟨i,a,z,q1,q2⟩=>⟨i,a,z,by omega,q2⟩)),λr hr h4=>by rw[eW];exact hh r (by omega) h4⟩⟩
theorem Rest.take(m:Rest h σ A rv){h':HS}{t a z:Nat}(ht:t<h.T)(eT:h'.T=h.T)(eW:h'.W=h.W)(eR:h'.R=h.R)(ef:h'.f=h.f)(hu:∀u,h.Used u->h'.Used u)(hb:∀u,h'.Used u->h.Used u\/(a<=u/\u<a+z))(hs:∀q,h.s q≠0->h'.s q=h.s q)
  (hh:∀r,r<h.R->h'.s r=4->((r*h.W:Nat):Int)<h'.t r) (hr:rv t=none) (hn:∀u,a<=u->u<a+z->¬ h.Used u) (hl:h'.mf a z):Rest h' σ A (ai rv t (some (a,z))):=by
 obtain⟨Zs,m⟩:=m;refine⟨Zs,⟨λa z P hm=>by rw[ef];exact m.hdr a z P hm,λa z P hm u k1 k2=>hu u (m.use a z P hm u k1 k2),m.dis,λb y P hm i hi c v e u k1 k2 k3=>?_,m.one,λa z P hm=>(m.lz a z P hm).up eW eR hs,
  λo h1 h2=>(m.lo o h1 h2).up eW eR hs,λi hi b y e=>?_,λu k=>?_,λr hr h4=>by rw[eW];exact hh r (by omega) h4⟩⟩
 ·unfold ai at e;split at e
  ·obtain⟨rfl,rfl⟩:=Prod.mk.inj (Option.some.inj e);exact hn u k3.1 k3.2 (m.use b y P hm u k1 k2)
  ·exact m.rdi b y P hm i (by omega) c v e u k1 k2 k3
 ·unfold ai at e;split at e
  ·obtain⟨rfl,rfl⟩:=Prod.mk.inj (Option.some.inj e);exact hl
  ·exact(m.lr i (by omega) b y e).up eW eR hs
 ·rcases hb u k with k|k
  ·refine(m.cov u k).imp id (Or.imp id ?_);rintro⟨i,b,y,q1,q2,q3⟩;refine⟨i,b,y,by omega,?_,q3⟩;unfold ai;split
   ·rename_i e;rw[e,hr]at q2;cases q2
   ·exact q2
  ·exact .inr (.inr ⟨t,a,z,by omega,aq _ _ _,k⟩)
theorem Rest.make(m:Rest h σ A rv){t a z P:Nat}(ht:t<h.T)(hr:rv t=some (a,z))(hP:P<z){g:Nat->Nat}{x:Nat} :
  Rest { h with f:=upd (aB h.f a z g) a x } (σ.new (P:Int) ((z-1-P:Nat):Int)) (ai A (σ.N+1) a) (ai rv t none):=by
 obtain⟨Zs,m⟩:=m;have eA:∀o,o<=σ.N->ai A (σ.N+1) a o=A o:=λo ho=>az _ _ (by omega);have ez:∀o,o<=σ.N->osz (σ.new (P:Int) ((z-1-P:Nat):Int)) o=osz σ o:=λo ho=>by
  unfold osz;rw[show(σ.new (P:Int) ((z-1-P:Nat):Int)).np (o:Int)=σ.np (o:Int) from az _ _ (by omega),show(σ.new (P:Int) ((z-1-P:Nat):Int)).nw (o:Int)=σ.nw (o:Int) from az _ _ (by omega)]
 have eZ:osz (σ.new (P:Int) ((z-1-P:Nat):Int)) (σ.N+1)=z:=by
  have e:(((σ.N+1:Nat)):Int)=(σ.N:Int)+1:=by omega
  unfold osz;rw[e,show(σ.new (P:Int) ((z-1-P:Nat):Int)).np ((σ.N:Int)+1)=P from (aq _ _ _).trans (by simp),show(σ.new (P:Int) ((z-1-P:Nat):Int)).nw ((σ.N:Int)+1)=z-1-P from (aq _ _ _).trans (by simp)];omega
 have two:∀o,o<=(σ.new (P:Int) ((z-1-P:Nat):Int)).N->o<=σ.N\/o=σ.N+1:=λo ho=>by
  have:o<=σ.N+1:=ho;omega
 have old:∀b y Q,(b,y,Q)∈Zs->∀u,b<=u->u<b+y->upd (aB h.f a z g) a x u=h.f u:=λb y Q hm u h3 h4=>by
  have:¬ (a<=u/\u<a+z):=m.rdi b y Q hm t ht a z hr u h3 h4;unfold upd aB;rw[if_neg (by omega),if_neg this]
 have none_:∀ {i:Nat}{p:Nat×Nat},ai rv t none i=some p->rv i=some p:=λ{i p} e=>by
  unfold ai at e;split at e
  ·cases e
  ·exact e
 refine⟨Zs,⟨λb y Q hm=>?_,m.use,λb y Q hm o h1 h2 u k1 k2 k3=>?_,λb y Q hm i hi c v e=>m.rdi b y Q hm i hi c v (none_ e),m.one,m.lz,λo h1 h2=>?_,λi hi b y e=>m.lr i hi b y (none_ e),λu k=>?_,m.hum⟩⟩
 ·obtain⟨k1,k2,k3,k4⟩:=m.hdr b y Q hm;exact⟨(old b y Q hm b (Dd _) (by omega)).trans k1,k2,k3,λj hj=>(old b y Q hm _ (by omega) (by omega)).trans (k4 j hj)⟩
 ·rcases two o h2 with e|e
  ·rw[eA o e,ez o e]at k3;exact m.dis b y Q hm o h1 e u k1 k2 k3
  ·subst e;rw[aq,eZ]at k3;exact m.rdi b y Q hm t ht a z hr u k1 k2 k3
 ·rcases two o h2 with e|e
  ·rw[eA o e,ez o e];exact m.lo o h1 e
  ·subst e;rw[aq,eZ];exact m.lr t ht a z hr
 ·rcases m.cov u k with⟨o,q1,q2,q3,q4⟩|q|⟨i,b,y,q1,q2,q3⟩
  ·exact .inl ⟨o,q1,Nat.le_succ_of_le q2,by rw[eA o q2];exact q3,by rw[eA o q2,ez o q2];exact q4⟩
  ·exact .inr (.inl q)
  ·by_cases e:i=t
   ·subst e;rw[hr]at q2;obtain⟨rfl,rfl⟩:=Prod.mk.inj (Option.some.inj q2);exact .inl ⟨σ.N+1,by omega,Dd _,by rw[aq];exact q3.1,by rw[aq,eZ];exact q3.2⟩
   ·exact .inr (.inr ⟨i,b,y,q1,(az _ _ e).trans q2,q3⟩)
theorem Rest.yg(m:Rest h σ A rv){t a z P:Nat}(ht:t<h.T)(hr:rv t=some (a,z))(hP:P<z)(hz:z<=1048576)(hu:∀u,a<=u->u<a+z->h.Used u)(hd:∀o,1<=o->o<=σ.N->∀u,a<=u->u<a+z->¬ (A o<=u/\u<A o+osz σ o))
  (hrr:∀i,i<h.T->i≠t->∀b y,rv i=some (b,y)->∀u,a<=u->u<a+z->¬ (b<=u/\u<b+y)) :
  Rest { h with f:=upd (aB h.f a z (λ_=>0)) a (aY z P) } σ A (ai rv t none):=by
 obtain⟨Zs,m⟩:=m;have old:∀b y Q,(b,y,Q)∈Zs->∀u,b<=u->u<b+y->upd (aB h.f a z (λ_=>0)) a (aY z P) u=h.f u:=λb y Q hm u h3 h4=>by
  have:¬ (a<=u/\u<a+z):=m.rdi b y Q hm t ht a z hr u h3 h4;unfold upd aB;rw[if_neg (by omega),if_neg this]
 have none_:∀ {i:Nat}{p:Nat×Nat},ai rv t none i=some p->i≠t/\rv i=some p:=λ{i p} e=>by
  unfold ai at e;split at e
  ·cases e
  ·exact⟨by assumption,e⟩
 have two:∀ {b y Q},(b,y,Q)∈(a,z,P)::Zs->(b=a/\y=z/\Q=P)\/(b,y,Q)∈Zs:=λ{b y Q} hm=>by
  rcases List.mem_cons.1 hm with e|e
  ·injection e with e1 e2;injection e2 with e2 e3;exact .inl ⟨e1,e2,e3⟩
  ·exact .inr e
 refine⟨(a,z,P)::Zs,⟨λb y Q hm=>?_,λb y Q hm=>?_,λb y Q hm=>?_,λb y Q hm i hi c v e=>?_,λb y Q c v S h1 h2 u k1 k2 k3 k4=>?_,λb y Q hm=>?_,m.lo,λi hi b y e=>m.lr i hi b y (none_ e).2,λu k=>?_,m.hum⟩⟩
 ·rcases two hm with⟨rfl,rfl,rfl⟩|hm
  ·refine⟨by show upd _ _ _ _=_;unfold upd;rw[if_pos rfl],hP,hz,λj hj=>?_⟩;show upd _ _ _ _=_;unfold upd aB;rw[if_neg (by omega),if_pos (by omega)]
  ·obtain⟨k1,k2,k3,k4⟩:=m.hdr b y Q hm;exact⟨(old b y Q hm b (Dd _) (by omega)).trans k1,k2,k3,λj hj=>(old b y Q hm _ (by omega) (by omega)).trans (k4 j hj)⟩
 ·rcases two hm with⟨rfl,rfl,rfl⟩|hm
  ·exact hu
  ·exact m.use b y Q hm
 ·rcases two hm with⟨rfl,rfl,rfl⟩|hm
  ·exact hd
  ·exact m.dis b y Q hm
 ·obtain⟨e1,e2⟩:=none_ e;rcases two hm with⟨rfl,rfl,rfl⟩|hm
  ·exact hrr i hi e1 c v e2
  ·exact m.rdi b y Q hm i hi c v e2
 ·rcases two h1 with⟨rfl,rfl,rfl⟩|g1
  ·rcases two h2 with⟨rfl,rfl,rfl⟩|g2
   ·exact⟨rfl,rfl,rfl⟩
   ·exact absurd ⟨k1,k2⟩ (m.rdi c v S g2 t ht _ _ hr u k3 k4)
  ·rcases two h2 with⟨rfl,rfl,rfl⟩|g2
   ·exact absurd ⟨k3,k4⟩ (m.rdi b y Q g1 t ht _ _ hr u k1 k2)
   ·exact m.one b y Q c v S g1 g2 u k1 k2 k3 k4
 ·rcases two hm with⟨rfl,rfl,rfl⟩|hm
  ·exact m.lr t ht _ _ hr
  ·exact m.lz b y Q hm
 ·rcases m.cov u k with q|⟨b,y,Q,q1,q2⟩|⟨i,b,y,q1,q2,q3⟩
  ·exact .inl q
  ·exact .inr (.inl ⟨b,y,Q,List.mem_cons_of_mem _ q1,q2⟩)
  ·by_cases e:i=t
   ·subst e;rw[hr]at q2;obtain⟨rfl,rfl⟩:=Prod.mk.inj (Option.some.inj q2);exact .inr (.inl ⟨_,_,P,List.mem_cons_self ..,q3⟩)
   ·exact .inr (.inr ⟨i,b,y,q1,(az _ _ e).trans q2,q3⟩)
end
structure HS.lP(h:HS):Prop where
 reg:∀i,i<h.T->h.bx i<h.be i->∃r,r<h.R/\h.s r=1/\((r*h.W:Nat):Int)<=h.bx i/\h.be i=((r*h.W+h.W:Nat):Int)/\h.t r=((r*h.W+h.W:Nat):Int)
 one:∀i j,i<h.T->j<h.T->i≠j->h.bx i<h.be i->h.bx j<h.be j->h.be i≠h.be j
theorem HS.lP.Cs{h:HS}(b:h.lP):h.t6:=λi hi hb=>by
 obtain⟨r,h1,h2,h3,h4,h5⟩:=b.reg i hi hb;exact⟨r,h1,.inl h2,h3,by omega⟩
def bB(A:Nat->Nat)(r:Int):Int:=if r=0 then 0 else ((A r.toNat:Nat):Int)+1
structure Sim(h:HS)(σ:GS)(A:Nat->Nat)(rv:Nat->Option (Nat×Nat)):Prop where
 buf:h.lP
 st:∀i,i<h.T->h.st i=(σ.st i).map (bB A)
 zm:∀o,1<=o->o<=σ.N->osz σ o<=1048576
 hdr:∀o,1<=o->o<=σ.N->h.f (A o)=aY (osz σ o) (σ.np (o:Int))
 ref:∀o,1<=o->o<=σ.N->∀j,j<σ.np (o:Int)->(h.f (A o+1+j):Int)=bB A (σ.ref (o:Int) (j:Int))
 dat:∀o,1<=o->o<=σ.N->∀j,j<σ.nw (o:Int)->(h.f (A o+1+σ.np (o:Int)+j):Int)=σ.dat (o:Int) (j:Int)
 use:∀o,1<=o->o<=σ.N->∀u,A o<=u->u<A o+osz σ o->h.Used u
 dis:∀o p,1<=o->o<=σ.N->1<=p->p<=σ.N->∀u,A o<=u->u<A o+osz σ o->A p<=u->u<A p+osz σ p->o=p
 rz:∀i,i<h.T->∀a z,rv i=some (a,z)->1<=z/\z<=1048576
 j7:∀i,i<h.T->∀a z,rv i=some (a,z)->∀u,a<=u->u<a+z->h.Used u
 j8:∀i,i<h.T->∀a z,rv i=some (a,z)->∀o,1<=o->o<=σ.N->∀u,a<=u->u<a+z->¬ (A o<=u/\u<A o+osz σ o)
 rr:∀i j,i<h.T->j<h.T->i≠j->∀a z b y,rv i=some (a,z)->rv j=some (b,y)->∀u,a<=u->u<a+z->¬ (b<=u/\u<b+y)
 rest:Rest h σ A rv
section
variable {h:HS}{σ:GS}{A:Nat->Nat}{rv:Nat->Option (Nat×Nat)}
theorem cg(A:Nat->Nat):bB A 0=0:=by simp[bB]
theorem iq(A:Nat->Nat){o:Nat}(h:1<=o):bB A (o:Int)=((A o:Nat):Int)+1:=by unfold bB;rw[if_neg (by omega)];simp
theorem oQ(A:Nat->Nat){r:Int}(h:r≠0):bB A r≠0:=by unfold bB;rw[if_neg h];omega
theorem Sim.inj(m:Sim h σ A rv){r q:Int}(hr:0<=r/\r<=(σ.N:Int))(hq:0<=q/\q<=(σ.N:Int))(e:bB A r=bB A q):r=q:=by
 by_cases e1:r=0
 ·by_cases e2:q=0
  ·omega
  ·rw[e1,cg]at e;exact absurd e.symm (oQ A e2)
 ·by_cases e2:q=0
  ·rw[e2,cg]at e;exact absurd e (oQ A e1)
  ·unfold bB at e;rw[if_neg e1,if_neg e2]at e;have:=m.dis r.toNat q.toNat (by omega) (by omega) (by omega) (by omega) (A r.toNat) (Dd _) (by have:=gU σ r.toNat;omega) (by omega) (by have:=gU σ q.toNat;omega);omega
theorem Sim.stk(m:Sim h σ A rv){t:Nat}{l:List Int}:Sim { h with st:=bk h.st t (l.map (bB A)) } (σ.jv t l) A rv:=by
 refine⟨⟨m.buf.reg,m.buf.one⟩,λi hi=>?_,m.zm,m.hdr,m.ref,m.dat,m.use,m.dis,m.rz,m.j7,m.j8,m.rr,m.rest.stk rfl (λ_=>rfl)⟩;show bk h.st t (l.map (bB A)) i=(ai σ.st t l i).map (bB A);unfold bk ai;split
 ·rfl
 ·exact m.st i hi
theorem Sim.tick(m:Sim h σ A rv)(t:Nat):Sim h (σ.tick t) A rv:=⟨m.buf,m.st,m.zm,m.hdr,m.ref,m.dat,m.use,m.dis,m.rz,m.j7,m.j8,m.rr,m.rest.stk (l:=h.st) rfl (λ_=>rfl)⟩
theorem sP(A:Nat->Nat)(B:Nat)(l:List Int)(r:Int):aH B (l.map (bB A)) (bB A r)=(aH B l r).map (bB A):=by
 unfold aH;simp only[List.length_map];split <;> simp
theorem vk(A:Nat->Nat)(l:List Int):dM (l.map (bB A))=(dM l).map (bB A):=by
 unfold dM;simp
theorem bf(A:Nat->Nat)(l:List Int)(i:Int):aG (l.map (bB A)) i↔aG l i:=by
 unfold aG;simp
theorem nJ(A:Nat->Nat)(l:List Int)(i:Int):am (l.map (bB A)) i=am l i:=by
 unfold am aG;simp
theorem cL(A:Nat->Nat)(l:List Int)(i:Int):aj (l.map (bB A)) i=bB A (aj l i):=by
 unfold aj;by_cases e:aG l i
 ·rw[if_pos e,if_pos ((bf A l i).2 e)];unfold aG at e;have hk:i.toNat<l.length:=by omega
  simp[hk]
 ·rw[if_neg e,if_neg (λx=>e ((bf A l i).1 x)),cg]
theorem Sim.push(m:Sim h σ A rv){t B:Nat}(ht:t<h.T)(r:Int):Sim { h with st:=bk h.st t (aH B (h.st t) (bB A r)) } (σ.push B t r) A rv:=by
 rw[m.st t ht,sP];exact m.stk
theorem Sim.pop(m:Sim h σ A rv){t:Nat}(ht:t<h.T):Sim { h with st:=bk h.st t (dM (h.st t)) } (nX σ t) A rv:=by
 rw[m.st t ht,vk];exact m.stk
theorem Sim.setRef(m:Sim h σ A rv){o j v:Nat}{y:Int}(h1:1<=o)(h2:o<=σ.N)(hj:j<σ.np (o:Int))(hv:(v:Int)=bB A y):Sim { h with f:=upd h.f (A o+1+j) v } (σ.setRef (o:Int) (j:Int) y) A rv:=by
 have ez:∀p,osz (σ.setRef (o:Int) (j:Int) y) p=osz σ p:=λ_=>rfl;have far:∀p,1<=p->p<=σ.N->∀u,A p<=u->u<A p+osz σ p->(p≠o\/u≠A o+1+j)->upd h.f (A o+1+j) v u=h.f u:=λp p1 p2 u u1 u2 e=>by
  unfold upd;rw[if_neg];intro e2;rcases e with e|e
  ·refine e (m.dis p o p1 p2 h1 h2 u u1 u2 (by omega) ?_);unfold osz;omega
  ·exact e e2
 refine⟨⟨m.buf.reg,m.buf.one⟩,m.st,m.zm,λp p1 p2=>?_,λp p1 p2 i hi=>?_,λp p1 p2 i hi=>?_,m.use,m.dis,m.rz,m.j7,m.j8,m.rr,m.rest.word h1 h2 ⟨by omega,by unfold osz;omega⟩ rfl (λ_=>rfl)⟩
 ·rw[ez];refine(far p p1 p2 _ (Dd _) (by have:=gU σ p;omega) ?_).trans (m.hdr p p1 p2);by_cases e:p=o
  ·subst e;right;omega
  ·exact .inl e
 ·have hi:i<σ.np (p:Int):=hi;show(upd h.f (A o+1+j) v (A p+1+i):Int)=bB A (ai σ.ref (o:Int) (ai (σ.ref (o:Int)) (j:Int) y) (p:Int) (i:Int));by_cases e:p=o
  ·subst e;rw[aq];by_cases e2:i=j
   ·subst e2;rw[aq];unfold upd;rw[if_pos rfl,hv]
   ·rw[az _ _ (by omega),far p p1 p2 _ (by omega) (by unfold osz;omega) (.inr (by omega))];exact m.ref p p1 p2 i hi
  ·rw[az _ _ (by omega),far p p1 p2 _ (by omega) (by unfold osz;omega) (.inl e)];exact m.ref p p1 p2 i hi
 ·have hi:i<σ.nw (p:Int):=hi;show(upd h.f (A o+1+j) v (A p+1+σ.np (p:Int)+i):Int)=σ.dat (p:Int) (i:Int);rw[far p p1 p2 _ (by omega) (by unfold osz;omega) ?_]
  ·exact m.dat p p1 p2 i hi
  ·by_cases e:p=o
   ·subst e;right;omega
   ·exact .inl e
theorem Sim.cQ(m:Sim h σ A rv){o j v:Nat}(h1:1<=o)(h2:o<=σ.N)(hj:j<σ.nw (o:Int)):Sim { h with f:=upd h.f (A o+1+σ.np (o:Int)+j) v } (σ.cQ (o:Int) (j:Int) (v:Int)) A rv:=by
 have ez:∀p,osz (σ.cQ (o:Int) (j:Int) (v:Int)) p=osz σ p:=λ_=>rfl;have far:∀p,1<=p->p<=σ.N->∀u,A p<=u->u<A p+osz σ p->(p≠o\/u≠A o+1+σ.np (o:Int)+j)->upd h.f (A o+1+σ.np (o:Int)+j) v u=h.f u:=λp p1 p2 u u1 u2 e=>by
  unfold upd;rw[if_neg];intro e2;rcases e with e|e
  ·refine e (m.dis p o p1 p2 h1 h2 u u1 u2 (by omega) ?_);unfold osz;omega
  ·exact e e2
 refine⟨⟨m.buf.reg,m.buf.one⟩,m.st,m.zm,λp p1 p2=>?_,λp p1 p2 i hi=>?_,λp p1 p2 i hi=>?_,m.use,m.dis,m.rz,m.j7,m.j8,m.rr,m.rest.word h1 h2 ⟨by omega,by unfold osz;omega⟩ rfl (λ_=>rfl)⟩
 ·rw[ez];refine(far p p1 p2 _ (Dd _) (by have:=gU σ p;omega) ?_).trans (m.hdr p p1 p2);by_cases e:p=o
  ·subst e;right;omega
  ·exact .inl e
 ·have hi:i<σ.np (p:Int):=hi;show(upd h.f _ v (A p+1+i):Int)=bB A (σ.ref (p:Int) (i:Int));rw[far p p1 p2 _ (by omega) (by unfold osz;omega) ?_]
  ·exact m.ref p p1 p2 i hi
  ·by_cases e:p=o
   ·subst e;right;omega
   ·exact .inl e
 ·have hi:i<σ.nw (p:Int):=hi;show(upd h.f _ v (A p+1+σ.np (p:Int)+i):Int)=ai σ.dat (o:Int) (ai (σ.dat (o:Int)) (j:Int) (v:Int)) (p:Int) (i:Int);by_cases e:p=o
  ·subst e;rw[aq];by_cases e2:i=j
   ·subst e2;rw[aq];unfold upd;rw[if_pos rfl]
   ·rw[az _ _ (by omega),far p p1 p2 _ (by omega) (by unfold osz;omega) (.inr (by omega))];exact m.dat p p1 p2 i hi
  ·rw[az _ _ (by omega),far p p1 p2 _ (by omega) (by unfold osz;omega) (.inl e)];exact m.dat p p1 p2 i hi
theorem Sim.take(m:Sim h σ A rv){h':HS}{t a z:Nat}(hb:h'.lP)(eT:h'.T=h.T)(ef:h'.f=h.f)(es:h'.st=h.st)(hu:∀u,h.Used u->h'.Used u)(hr:rv t=none)(hz:1<=z/\z<=1048576)
  (hn:∀u,a<=u->u<a+z->¬ h.Used u/\h'.Used u) (ht:t<h.T) (eW:h'.W=h.W) (eR:h'.R=h.R) (hc:∀u,h'.Used u->h.Used u\/(a<=u/\u<a+z)) (hs:∀q,h.s q≠0->h'.s q=h.s q)
  (hh:∀r,r<h.R->h'.s r=4->((r*h.W:Nat):Int)<h'.t r) (hl:h'.mf a z):Sim h' σ A (ai rv t (some (a,z))):=by
 refine⟨hb,λi hi=>by rw[es];exact m.st i (by omega),m.zm,λo h1 h2=>by rw[ef];exact m.hdr o h1 h2,λo h1 h2=>by rw[ef];exact m.ref o h1 h2,λo h1 h2=>by rw[ef];exact m.dat o h1 h2,
  λo h1 h2 u h3 h4=>hu u (m.use o h1 h2 u h3 h4),m.dis,λi hi b y e=>?_,λi hi b y e u h3 h4=>?_,λi hi b y e o h1 h2 u h3 h4 h5=>?_,λi j hi hj hne b y c x e1 e2 u h3 h4 h5=>?_,m.rest.take ht eT eW eR ef hu hc hs hh hr (λu k1 k2=>(hn u k1 k2).1) hl⟩
 ·unfold ai at e;split at e
  ·obtain⟨rfl,rfl⟩:=Prod.mk.inj (Option.some.inj e);exact hz
  ·exact m.rz i (by omega) b y e
 ·unfold ai at e;split at e
  ·obtain⟨rfl,rfl⟩:=Prod.mk.inj (Option.some.inj e);exact(hn u h3 h4).2
  ·exact hu u (m.j7 i (by omega) b y e u h3 h4)
 ·unfold ai at e;split at e
  ·obtain⟨rfl,rfl⟩:=Prod.mk.inj (Option.some.inj e);exact(hn u h3 h4).1 (m.use o h1 h2 u h5.1 h5.2)
  ·exact m.j8 i (by omega) b y e o h1 h2 u h3 h4 h5
 ·unfold ai at e1 e2;split at e1
  ·split at e2
   ·omega
   ·obtain⟨rfl,rfl⟩:=Prod.mk.inj (Option.some.inj e1);exact(hn u h3 h4).1 (m.j7 j (by omega) c x e2 u h5.1 h5.2)
  ·split at e2
   ·obtain⟨rfl,rfl⟩:=Prod.mk.inj (Option.some.inj e2);exact(hn u h5.1 h5.2).1 (m.j7 i (by omega) b y e1 u h3 h4)
   ·exact m.rr i j (by omega) (by omega) hne b y c x e1 e2 u h3 h4 h5
theorem Sim.move(m:Sim h σ A rv){h':HS}(hb:h'.lP)(eT:h'.T=h.T)(ef:h'.f=h.f)(es:h'.st=h.st)(hu:∀u,h.Used u->h'.Used u)(eW:h'.W=h.W)(eR:h'.R=h.R)(hc:∀u,h'.Used u->h.Used u)(hs:∀q,h.s q≠0->h'.s q=h.s q)
  (hh:∀r,r<h.R->h'.s r=4->((r*h.W:Nat):Int)<h'.t r):Sim h' σ A rv:=
 ⟨hb,λi hi=>by rw[es];exact m.st i (by omega),m.zm,λo h1 h2=>by rw[ef];exact m.hdr o h1 h2,λo h1 h2=>by rw[ef];exact m.ref o h1 h2,λo h1 h2=>by rw[ef];exact m.dat o h1 h2,
  λo h1 h2 u h3 h4=>hu u (m.use o h1 h2 u h3 h4),m.dis,λi hi=>m.rz i (by omega),λi hi b y e u h3 h4=>hu u (m.j7 i (by omega) b y e u h3 h4),λi hi=>m.j8 i (by omega),λi j hi hj=>m.rr i j (by omega) (by omega),m.rest.move eT eW eR ef hu hc hs hh⟩
theorem Sim.make(m:Sim h σ A rv){t a z P:Nat}(ht:t<h.T)(hr:rv t=some (a,z))(hP:P<z){α β:Int}(hα:α=(P:Int))(hβ:β=((z-1-P:Nat):Int))(hk:∀i,i<h.T->∀r,r∈σ.st i->0<=r/\r<=(σ.N:Int))(hkr:∀r j,0<=σ.ref r j/\σ.ref r j<=(σ.N:Int)) :
  Sim { h with f:=upd (aB h.f a z (λ_=>0)) a (aY z P) } (σ.new α β) (ai A (σ.N+1) a) (ai rv t none):=by
 subst hα hβ;have hz:=m.rz t ht a z hr;have eA:∀o,o<=σ.N->ai A (σ.N+1) a o=A o:=λo ho=>az _ _ (by omega);have eR:∀r:Int,0<=r->r<=(σ.N:Int)->bB (ai A (σ.N+1) a) r=bB A r:=λr h1 h2=>by
  unfold bB;rw[eA r.toNat (by omega)]
 have en:∀o:Nat,o<=σ.N->(σ.new (P:Int) ((z-1-P:Nat):Int)).np (o:Int)=σ.np (o:Int)/\(σ.new (P:Int) ((z-1-P:Nat):Int)).nw (o:Int)=σ.nw (o:Int):=λo ho=>⟨az _ _ (by omega),az _ _ (by omega)⟩;have ez:∀o,o<=σ.N->osz (σ.new (P:Int) ((z-1-P:Nat):Int)) o=osz σ o:=λo ho=>by unfold osz;rw[(en o ho).1,(en o ho).2]
 have eN:(σ.new (P:Int) ((z-1-P:Nat):Int)).np ((σ.N+1:Nat):Int)=P/\(σ.new (P:Int) ((z-1-P:Nat):Int)).nw ((σ.N+1:Nat):Int)=z-1-P:=by
  have e:(((σ.N+1:Nat)):Int)=(σ.N:Int)+1:=by omega
  rw[e];exact⟨(aq _ _ _).trans (by simp),(aq _ _ _).trans (by simp)⟩
 have eZ:osz (σ.new (P:Int) ((z-1-P:Nat):Int)) (σ.N+1)=z:=by unfold osz;rw[eN.1,eN.2];omega
 have old:∀o,1<=o->o<=σ.N->∀u,A o<=u->u<A o+osz σ o->upd (aB h.f a z (λ_=>0)) a (aY z P) u=h.f u:=λo h1 h2 u h3 h4=>by
  have:¬ (a<=u/\u<a+z):=λe=>m.j8 t ht a z hr o h1 h2 u e.1 e.2 ⟨h3,h4⟩;unfold upd aB;rw[if_neg (by omega),if_neg this]
 have two:∀o,o<=(σ.new (P:Int) ((z-1-P:Nat):Int)).N->o<=σ.N\/o=σ.N+1:=λo ho=>by
  have:o<=σ.N+1:=ho;omega
 refine⟨⟨m.buf.reg,m.buf.one⟩,λi hi=>?_,λo h1 h2=>?_,λo h1 h2=>?_,λo h1 h2 j hj=>?_,λo h1 h2 j hj=>?_,λo h1 h2 u h3 h4=>?_,λo p h1 h2 h3 h4 u h5 h6 h7 h8=>?_,λi hi b y e=>?_,λi hi b y e u h3 h4=>?_,λi hi b y e o h1 h2 u h3 h4 h5=>?_,λi j hi hj hne b y c x e1 e2 u h3 h4 h5=>?_,m.rest.make ht hr hP⟩
 ·show h.st i=(σ.st i).map _;rw[m.st i hi];exact List.map_congr_left λr hrm=>(eR r (hk i hi r hrm).1 (hk i hi r hrm).2).symm
 ·rcases two o h2 with e|e
  ·rw[ez o e];exact m.zm o h1 e
  ·subst e;rw[eZ];exact hz.2
 ·show upd _ _ _ (ai A (σ.N+1) a o)=_;rcases two o h2 with e|e
  ·rw[eA o e,ez o e,(en o e).1,old o h1 e _ (Dd _) (by have:=gU σ o;omega)];exact m.hdr o h1 e
  ·subst e;rw[aq,eZ,eN.1];unfold upd;rw[if_pos rfl]
 ·show(upd _ _ _ (ai A (σ.N+1) a o+1+j):Int)=bB _ (ai σ.ref ((σ.N:Int)+1) (λ_=>0) (o:Int) (j:Int));rcases two o h2 with e|e
  ·rw[(en o e).1]at hj;rw[eA o e,az _ _ (by omega),old o h1 e _ (by omega) (by unfold osz;omega),eR _ (hkr _ _).1 (hkr _ _).2];exact m.ref o h1 e j hj
  ·subst e;rw[eN.1]at hj;rw[aq,show(((σ.N+1:Nat)):Int)=(σ.N:Int)+1 by omega,aq,cg];unfold upd aB;rw[if_neg (by omega),if_pos (by omega)];rfl
 ·show(upd _ _ _ (ai A (σ.N+1) a o+1+(σ.new (P:Int) ((z-1-P:Nat):Int)).np (o:Int)+j):Int)=ai σ.dat ((σ.N:Int)+1) (λ_=>0) (o:Int) (j:Int);rcases two o h2 with e|e
  ·rw[(en o e).2]at hj;rw[(en o e).1,eA o e,az _ _ (by omega),old o h1 e _ (by omega) (by unfold osz;omega)];exact m.dat o h1 e j hj
  ·subst e;rw[eN.2]at hj;rw[eN.1,aq,show(((σ.N+1:Nat)):Int)=(σ.N:Int)+1 by omega,aq];unfold upd aB;rw[if_neg (by omega),if_pos (by omega)];rfl
 ·rcases two o h2 with e|e
  ·rw[eA o e]at h3 h4;rw[ez o e]at h4;exact m.use o h1 e u h3 h4
  ·subst e;rw[aq]at h3 h4;rw[eZ]at h4;exact m.j7 t ht a z hr u h3 h4
 ·rcases two o h2 with e|e
  ·rw[eA o e]at h5 h6;rw[ez o e]at h6;rcases two p h4 with e'|e'
   ·rw[eA p e']at h7 h8;rw[ez p e']at h8;exact m.dis o p h1 e h3 e' u h5 h6 h7 h8
   ·subst e';rw[aq]at h7 h8;rw[eZ]at h8;exact absurd ⟨h5,h6⟩ (m.j8 t ht a z hr o h1 e u h7 h8)
  ·subst e;rw[aq]at h5 h6;rw[eZ]at h6;rcases two p h4 with e'|e'
   ·rw[eA p e']at h7 h8;rw[ez p e']at h8;exact absurd ⟨h7,h8⟩ (m.j8 t ht a z hr p h3 e' u h5 h6)
   ·exact e'.symm
 ·unfold ai at e;split at e
  ·cases e
  ·exact m.rz i hi b y e
 ·unfold ai at e;split at e
  ·cases e
  ·exact m.j7 i hi b y e u h3 h4
 ·unfold ai at e;split at e
  ·cases e
  ·rename_i hit
   rcases two o h2 with e'|e'
   ·rw[eA o e']at h5;rw[ez o e']at h5;exact m.j8 i hi b y e o h1 e' u h3 h4 h5
   ·subst e';rw[aq,eZ]at h5;exact m.rr t i ht hi (by omega) a z b y hr e u h5.1 h5.2 ⟨h3,h4⟩
 ·unfold ai at e1 e2;split at e1
  ·cases e1
  ·split at e2
   ·cases e2
   ·exact m.rr i j hi hj hne b y c x e1 e2 u h3 h4 h5
end
section
variable {h:HS}{σ:GS}{A:Nat->Nat}{rv:Nat->Option (Nat×Nat)}{s k:Nat}
theorem ed{W u r:Nat}(hW:1<=W)(h1:r*W<=u)(h2:u<r*W+W):u / W=r:=by
 rw[Nat.div_eq_iff (by omega)];constructor
 ·exact h1
 ·have:r*W+W-1+1=r*W+W:=by omega
  omega
theorem ff{W u:Nat}(hW:1<=W):u / W*W<=u/\u<u / W*W+W:=by
 have h1:=Nat.div_add_mod u W;have h2:=Nat.mod_lt u (show 0<W by omega);have h3:W*(u / W)=u / W*W:=Nat.mul_comm _ _;omega
theorem BG{R W r:Nat}(hr:r<R):r*W+W<=R*W:=by
 have:=Nat.mul_le_mul_right W (show r+1<=R by omega);rw[Nat.add_mul,Nat.one_mul]at this;exact this
theorem qD{W r q:Nat}(hW:1<=W)(e:r*W+W=q*W+W):r=q:=by
 have:r*W=q*W:=by omega
 exact Nat.eq_of_mul_eq_mul_right (by omega) this
theorem sQ{W a b:Nat}(hab:a<b):a*W+W<=b*W:=by
 have:=Nat.mul_le_mul_right W (show a+1<=b by omega);rw[Nat.add_mul,Nat.one_mul]at this;exact this
theorem Sim.own(m:Sim h σ A rv)(hnn:h.n=h.R*h.W)(hW:1<=h.W){t:Nat}(ht:t<h.T){n a:Nat}(hn:1<=n/\n<=1048576)(ha:h.bx t=(a:Int))(hn2:h.bx t+(n:Int)<=h.be t)(hr:rv t=none) :
  Sim { h with bx:=ak h.bx t (h.bx t+(n:Int)) } σ A (ai rv t (some (a,n))):=by
 obtain⟨r,r1,r2,r3,r4,r5⟩:=m.buf.reg t ht (by omega);have hrl:=BG (W:=h.W) r1;have eb:∀i,i≠t->ak h.bx t (h.bx t+(n:Int)) i=h.bx i:=λi e=>by unfold ak;rw[if_neg e]
 have et:ak h.bx t (h.bx t+(n:Int)) t=h.bx t+(n:Int):=by unfold ak;rw[if_pos rfl]
 have bx1:∀i,h.bx i<=ak h.bx t (h.bx t+(n:Int)) i:=λi=>by
  by_cases e:i=t
  ·subst e;rw[et];omega
  ·rw[eb i e];omega
 refine m.take (h':={ h with bx:=ak h.bx t (h.bx t+(n:Int)) }) ⟨λi hi hb=>?_,λi j hi hj hne h1 h2=>?_⟩ rfl rfl rfl (λu hu=>⟨hu.1,hu.2.1,hu.2.2.1,λi hi hx=>hu.2.2.2 i hi ⟨Int.le_trans (bx1 i) hx.1,hx.2⟩⟩) hr hn (λu h1 h2=>⟨λhu=>hu.2.2.2 t ht ⟨by omega,by omega⟩,?_⟩) ht rfl rfl (λu hu=>?_) (λ_ _=>rfl) (λr hr h4=>?_) ?_
 ·have hb:ak h.bx t (h.bx t+(n:Int)) i<h.be i:=hb;have:=bx1 i;obtain⟨q,q1,q2,q3,q4,q5⟩:=m.buf.reg i hi (by omega);exact⟨q,q1,q2,Int.le_trans q3 this,q4,q5⟩
 ·have h1:ak h.bx t (h.bx t+(n:Int)) i<h.be i:=h1;have h2:ak h.bx t (h.bx t+(n:Int)) j<h.be j:=h2;have:=bx1 i;have:=bx1 j;exact m.buf.one i j hi hj hne (by omega) (by omega)
 ·have er:u / h.W=r:=ed hW (by omega) (by omega);refine⟨by show u<h.n;omega,by show h.s (u / h.W)≠0;rw[er,r2];decide,by show(u:Int)<h.t (u / h.W);rw[er,r5];omega,λi hi hx=>?_⟩;have hx:ak h.bx t (h.bx t+(n:Int)) i<=(u:Int)/\(u:Int)<h.be i:=hx;by_cases e:i=t
  ·subst e;rw[et]at hx;omega
  ·rw[eb i e]at hx;obtain⟨q,q1,q2,q3,q4,q5⟩:=m.buf.reg i hi (by omega);have e2:u / h.W=q:=ed hW (by omega) (by omega);have:h.be i=h.be t:=by rw[q4,r4,<- e2,er]
   exact m.buf.one i t hi ht e (by omega) (by omega) this
 ·by_cases e:a<=u/\u<a+n
  ·exact .inr e
  ·refine .inl ⟨hu.1,hu.2.1,hu.2.2.1,λi hi hx=>hu.2.2.2 i hi ?_⟩;show ak h.bx t (h.bx t+(n:Int)) i<=(u:Int)/\(u:Int)<h.be i;by_cases e2:i=t
   ·subst e2;rw[et];omega
   ·rw[eb i e2];exact hx
 ·obtain⟨Zs,mz⟩:=m.rest;exact mz.hum r hr h4
 ·have er:a / h.W=r:=ed hW (by omega) (by omega);refine .inl ⟨.inl ?_,?_⟩
  ·show h.s (a / h.W)=1;rw[er,r2]
  ·show a+n<=a / h.W*h.W+h.W;rw[er];omega
theorem Sim.drop(m:Sim h σ A rv)(hW:1<=h.W){t:Nat}(ht:t<h.T)(hreg:∀r,r<h.R->((r*h.W:Nat):Int)<=h.bx t->h.bx t<((r*h.W+h.W:Nat):Int)->(h.g.av (h.bx t)).toNat=r):Sim (bE h t) σ A rv:=by
 have ebx:∀i,i≠t->ak h.bx t 0 i=h.bx i:=λi e=>by unfold ak;rw[if_neg e]
 have ebe:∀i,i≠t->ak h.be t 0 i=h.be i:=λi e=>by unfold ak;rw[if_neg e]
 have etx:ak h.bx t 0 t=0:=by unfold ak;rw[if_pos rfl]
 have ete:ak h.be t 0 t=0:=by unfold ak;rw[if_pos rfl]
 by_cases hb:h.bx t<h.be t
 ·obtain⟨r,r1,r2,r3,r4,r5⟩:=m.buf.reg t ht hb;have er:=hreg r r1 r3 (by omega);have eT:(bE h t).t=ak h.t r (h.bx t):=by unfold bE lK;rw[if_pos hb,er]
  have eTr:∀q,q≠r->(bE h t).t q=h.t q:=λq e=>by rw[eT];unfold ak;rw[if_neg e]
  have eTt:(bE h t).t r=h.bx t:=by rw[eT];unfold ak;rw[if_pos rfl]
  refine m.move ⟨λi hi hx=>?_,λi j hi hj hne h1 h2=>?_⟩ rfl rfl rfl (λu hu=>⟨hu.1,hu.2.1,?_,λi hi hx=>?_⟩) rfl rfl (λu hu=>?_) (λ_ _=>rfl) (λq hq h4=>?_)
  ·have hx:ak h.bx t 0 i<ak h.be t 0 i:=hx;by_cases e:i=t
   ·subst e;rw[etx,ete]at hx;omega
   ·rw[ebx i e,ebe i e]at hx;obtain⟨q,q1,q2,q3,q4,q5⟩:=m.buf.reg i hi hx;have hne:q≠r:=λe2=>m.buf.one i t hi ht e hx hb (by rw[q4,r4,e2]);refine⟨q,q1,q2,by show _<=ak h.bx t 0 i;rw[ebx i e];exact q3,by show ak h.be t 0 i=_;rw[ebe i e];exact q4,(eTr q hne).trans q5⟩
  ·have h1:ak h.bx t 0 i<ak h.be t 0 i:=h1;have h2:ak h.bx t 0 j<ak h.be t 0 j:=h2;show ak h.be t 0 i≠ak h.be t 0 j;by_cases e:i=t
   ·subst e;rw[etx,ete]at h1;omega
   ·by_cases e':j=t
    ·subst e';rw[etx,ete]at h2;omega
    ·rw[ebx i e,ebe i e]at h1;rw[ebx j e',ebe j e']at h2;rw[ebe i e,ebe j e'];exact m.buf.one i j hi hj hne h1 h2
  ·show(u:Int)<(bE h t).t (u / h.W);by_cases e:u / h.W=r
   ·rw[e,eTt];have h3:=hu.2.2.1;rw[e,r5]at h3;have:=hu.2.2.2 t ht;rw[r4]at this;omega
   ·rw[eTr _ e];exact hu.2.2.1
  ·have hx:ak h.bx t 0 i<=(u:Int)/\(u:Int)<ak h.be t 0 i:=hx;by_cases e:i=t
   ·subst e;rw[ete]at hx;omega
   ·rw[ebx i e,ebe i e]at hx;exact hu.2.2.2 i hi hx
  ·obtain⟨u1,u2,u3,u4⟩:=hu;have u3:(u:Int)<(bE h t).t (u / h.W):=u3;refine⟨u1,u2,?_,λi hi hx=>?_⟩
   ·by_cases e:u / h.W=r
    ·rw[e,r5];rw[e,eTt]at u3;omega
    ·rw[eTr _ e]at u3;exact u3
   ·by_cases e:i=t
    ·subst e;have e2:u / h.W=r:=ed hW (by omega) (by omega);rw[e2,eTt]at u3;omega
    ·refine u4 i hi ?_;show ak h.bx t 0 i<=(u:Int)/\(u:Int)<ak h.be t 0 i;rw[ebx i e,ebe i e];exact hx
  ·have h4:h.s q=4:=h4;obtain⟨Zs,mz⟩:=m.rest;rw[eTr q (λe=>by rw[e,r2]at h4;exact absurd h4 (by decide))];exact mz.hum q hq h4
 ·have eT:(bE h t).t=h.t:=by unfold bE lK;rw[if_neg hb]
  refine m.move ⟨λi hi hx=>?_,λi j hi hj hne h1 h2=>?_⟩ rfl rfl rfl (λu hu=>⟨hu.1,hu.2.1,by show(u:Int)<(bE h t).t (u / h.W);rw[eT];exact hu.2.2.1,λi hi hx=>?_⟩) rfl rfl (λu hu=>?_) (λ_ _=>rfl) (λq hq h4=>?_)
  ·have hx:ak h.bx t 0 i<ak h.be t 0 i:=hx;by_cases e:i=t
   ·subst e;rw[etx,ete]at hx;omega
   ·rw[ebx i e,ebe i e]at hx;obtain⟨q,q1,q2,q3,q4,q5⟩:=m.buf.reg i hi hx;exact⟨q,q1,q2,by show _<=ak h.bx t 0 i;rw[ebx i e];exact q3,by show ak h.be t 0 i=_;rw[ebe i e];exact q4,by rw[eT];exact q5⟩
  ·have h1:ak h.bx t 0 i<ak h.be t 0 i:=h1;have h2:ak h.bx t 0 j<ak h.be t 0 j:=h2;show ak h.be t 0 i≠ak h.be t 0 j;by_cases e:i=t
   ·subst e;rw[etx,ete]at h1;omega
   ·by_cases e':j=t
    ·subst e';rw[etx,ete]at h2;omega
    ·rw[ebx i e,ebe i e]at h1;rw[ebx j e',ebe j e']at h2;rw[ebe i e,ebe j e'];exact m.buf.one i j hi hj hne h1 h2
  ·have hx:ak h.bx t 0 i<=(u:Int)/\(u:Int)<ak h.be t 0 i:=hx;by_cases e:i=t
   ·subst e;rw[ete]at hx;omega
   ·rw[ebx i e,ebe i e]at hx;exact hu.2.2.2 i hi hx
  ·obtain⟨u1,u2,u3,u4⟩:=hu;have u3:(u:Int)<(bE h t).t (u / h.W):=u3;rw[eT]at u3;refine⟨u1,u2,u3,λi hi hx=>?_⟩;by_cases e:i=t
   ·subst e;omega
   ·refine u4 i hi ?_;show ak h.bx t 0 i<=(u:Int)/\(u:Int)<ak h.be t 0 i;rw[ebx i e,ebe i e];exact hx
  ·obtain⟨Zs,mz⟩:=m.rest;rw[eT];exact mz.hum q hq h4
theorem Sim.fill(m:Sim h σ A rv)(hW:1<=h.W){t j:Nat}(ht:t<h.T)(hl:dD h.s h.R j)(h0:¬ h.bx t<h.be t):Sim (el h t j) σ A rv:=by
 obtain⟨l1,l2,-⟩:=hl;have ebx:∀i,i≠t->ak h.bx t ((j*h.W:Nat):Int) i=h.bx i:=λi e=>by unfold ak;rw[if_neg e]
 have ebe:∀i,i≠t->ak h.be t ((j*h.W+h.W:Nat):Int) i=h.be i:=λi e=>by unfold ak;rw[if_neg e]
 have etx:ak h.bx t ((j*h.W:Nat):Int) t=((j*h.W:Nat):Int):=by unfold ak;rw[if_pos rfl]
 have ete:ak h.be t ((j*h.W+h.W:Nat):Int) t=((j*h.W+h.W:Nat):Int):=by unfold ak;rw[if_pos rfl]
 have es:∀q,q≠j->ak h.s j 1 q=h.s q:=λq e=>by unfold ak;rw[if_neg e]
 have eT:∀q,q≠j->ak h.t j ((j*h.W+h.W:Nat):Int) q=h.t q:=λq e=>by unfold ak;rw[if_neg e]
 have old:∀i,i<h.T->i≠t->h.bx i<h.be i->∃r,r<h.R/\r≠j/\h.s r=1/\((r*h.W:Nat):Int)<=h.bx i/\h.be i=((r*h.W+h.W:Nat):Int)/\h.t r=((r*h.W+h.W:Nat):Int):=λi hi e hx=>by
  obtain⟨q,q1,q2,q3,q4,q5⟩:=m.buf.reg i hi hx;exact⟨q,q1,λe2=>by rw[e2,l2]at q2;omega,q2,q3,q4,q5⟩
 refine m.move ⟨λi hi hx=>?_,λi i' hi hi' hne h1 h2=>?_⟩ rfl rfl rfl (λu hu=>?_) rfl rfl (λu hu=>?_) (λq hq=>es q (λe=>hq (by rw[e];exact l2))) (λq hq h4=>?_)
 ·have hx:ak h.bx t ((j*h.W:Nat):Int) i<ak h.be t ((j*h.W+h.W:Nat):Int) i:=hx;by_cases e:i=t
  ·subst e;exact⟨j,l1,by show ak h.s j 1 j=1;unfold ak;rw[if_pos rfl],by show _<=ak h.bx i _ i;rw[etx];exact Int.le_refl _,by show ak h.be i _ i=_;rw[ete];rfl,by show ak h.t j _ j=_;unfold ak;rw[if_pos rfl];rfl⟩
  ·rw[ebx i e,ebe i e]at hx;obtain⟨q,q1,q0,q2,q3,q4,q5⟩:=old i hi e hx;exact⟨q,q1,(es q q0).trans q2,by show _<=ak h.bx t _ i;rw[ebx i e];exact q3,by show ak h.be t _ i=_;rw[ebe i e];exact q4,(eT q q0).trans q5⟩
 ·have h1:ak h.bx t ((j*h.W:Nat):Int) i<ak h.be t ((j*h.W+h.W:Nat):Int) i:=h1;have h2:ak h.bx t ((j*h.W:Nat):Int) i'<ak h.be t ((j*h.W+h.W:Nat):Int) i':=h2;show ak h.be t ((j*h.W+h.W:Nat):Int) i≠ak h.be t ((j*h.W+h.W:Nat):Int) i';by_cases e:i=t
  ·subst e;rw[ebx i' (by omega),ebe i' (by omega)]at h2;rw[ete,ebe i' (by omega)];obtain⟨q,q1,q0,q2,q3,q4,q5⟩:=old i' hi' (by omega) h2;rw[q4];exact λe2=>q0 (qD hW (by omega)).symm
  ·rw[ebx i e,ebe i e]at h1;obtain⟨q,q1,q0,q2,q3,q4,q5⟩:=old i hi e h1;by_cases e':i'=t
   ·subst e';rw[ete,ebe i e,q4];exact λe2=>q0 (qD hW (by omega))
   ·rw[ebx i' e',ebe i' e']at h2;rw[ebe i e,ebe i' e'];exact m.buf.one i i' hi hi' hne h1 h2
 ·have hne:u / h.W≠j:=λe=>by have:=hu.2.1;rw[e]at this;exact this l2
  refine⟨hu.1,by show ak h.s j 1 (u / h.W)≠0;rw[es _ hne];exact hu.2.1,by show(u:Int)<ak h.t j _ (u / h.W);rw[eT _ hne];exact hu.2.2.1,λi hi hx=>?_⟩;have hx:ak h.bx t ((j*h.W:Nat):Int) i<=(u:Int)/\(u:Int)<ak h.be t ((j*h.W+h.W:Nat):Int) i:=hx;by_cases e:i=t
  ·subst e;rw[etx,ete]at hx;exact hne (ed hW (by omega) (by omega))
  ·rw[ebx i e,ebe i e]at hx;exact hu.2.2.2 i hi hx
 ·obtain⟨u1,u2,u3,u4⟩:=hu;have hne:u / h.W≠j:=λe=>by
   obtain⟨d1,d2⟩:=ff (u:=u) hW;rw[e]at d1 d2;refine u4 t ht ?_;show ak h.bx t ((j*h.W:Nat):Int) t<=(u:Int)/\(u:Int)<ak h.be t ((j*h.W+h.W:Nat):Int) t;rw[etx,ete];omega
  have u2:ak h.s j 1 (u / h.W)≠0:=u2;have u3:(u:Int)<ak h.t j ((j*h.W+h.W:Nat):Int) (u / h.W):=u3;rw[es _ hne]at u2;rw[eT _ hne]at u3;refine⟨u1,u2,u3,λi hi hx=>?_⟩;by_cases e:i=t
  ·subst e;omega
  ·refine u4 i hi ?_;show ak h.bx t ((j*h.W:Nat):Int) i<=(u:Int)/\(u:Int)<ak h.be t ((j*h.W+h.W:Nat):Int) i;rw[ebx i e,ebe i e];exact hx
 ·have h4:ak h.s j 1 q=4:=h4;have hne:q≠j:=λe=>by subst e;unfold ak at h4;rw[if_pos rfl]at h4;exact absurd h4 (by decide)
  rw[es q hne]at h4;obtain⟨Zs,mz⟩:=m.rest;show _<ak h.t j _ q;rw[eT q hne];exact mz.hum q hq h4
theorem Sim.run(m:Sim h σ A rv)(hnn:h.n=h.R*h.W)(hW:1<=h.W){t c f z:Nat}(ht:t<h.T)(hc:1<=c)(hz:1<=z/\z<=1048576)(hz1:(c-1)*h.W<z)(hz2:z<=c*h.W)(hl:eL h.s h.R c f)(hr:rv t=none) :
  Sim { h with s:=ak (bg h.s f (f+c) λ_=>5) f 4,t:=bg h.t f (f+c) (bM h.W f z) } σ A (ai rv t (some (f*h.W,z))):=by
 obtain⟨l1,l2,-⟩:=hl;have fr:∀q,f<=q->q<f+c->h.s q=0:=λq q1 q2=>l2 q q1 q2;have es:∀q,h.s q≠0->ak (bg h.s f (f+c) λ_=>5) f 4 q=h.s q/\bg h.t f (f+c) (bM h.W f z) q=h.t q:=λq hq=>by
  have:¬ (f<=q/\q<f+c):=λe=>hq (fr q e.1 e.2);unfold ak bg;rw[if_neg (by omega),if_neg this,if_neg this];exact⟨rfl,rfl⟩
 have hfc:f*h.W+z<=(f+c)*h.W:=by rw[Nat.add_mul];omega
 have hRn:(f+c)*h.W<=h.R*h.W:=Nat.mul_le_mul_right _ l1;refine m.take (h':={ h with s:=ak (bg h.s f (f+c) λ_=>5) f 4,t:=bg h.t f (f+c) (bM h.W f z) }) ⟨λi hi hx=>?_,m.buf.one⟩ rfl rfl rfl (λu hu=>⟨hu.1,by show ak _ f 4 (u / h.W)≠0;rw[(es _ hu.2.1).1];exact hu.2.1,by show(u:Int)<bg h.t f (f+c) _ (u / h.W);rw[(es _ hu.2.1).2];exact hu.2.2.1,hu.2.2.2⟩) hr hz (λu h1 h2=>?_) ht rfl rfl (λu hu=>?_) (λq hq=>(es q hq).1) (λq hq h4=>?_) ?_
 ·obtain⟨q,q1,q2,q3,q4,q5⟩:=m.buf.reg i hi hx;have hq0:h.s q≠0:=by rw[q2];decide
  exact⟨q,q1,(es q hq0).1.trans q2,q3,q4,(es q hq0).2.trans q5⟩
 ·obtain⟨d1,d2⟩:=ff (u:=u) hW;have hq1:f<=u / h.W:=by rw[Nat.le_div_iff_mul_le (by omega)];exact h1
  have hq2:u / h.W<f+c:=by rw[Nat.div_lt_iff_lt_mul (by omega)];omega
  have hs0:=fr _ hq1 hq2;refine⟨λhu=>hu.2.1 hs0,by show u<h.n;omega,?_,?_,λi hi hx=>?_⟩
  ·show ak (bg h.s f (f+c) λ_=>5) f 4 (u / h.W)≠0;unfold ak bg;split
   ·decide
   ·rw[if_pos ⟨hq1,hq2⟩];show(5:Int)≠0;decide
  ·show(u:Int)<bg h.t f (f+c) (bM h.W f z) (u / h.W);unfold bg bM;rw[if_pos ⟨hq1,hq2⟩];split <;> omega
  ·have hx:h.bx i<=(u:Int)/\(u:Int)<h.be i:=hx;obtain⟨q,q1,q2,q3,q4,q5⟩:=m.buf.reg i hi (by omega);have e2:u / h.W=q:=ed hW (by omega) (by omega);rw[e2,q2]at hs0;omega
 ·obtain⟨u1,u2,u3,u4⟩:=hu;have u2:ak (bg h.s f (f+c) λ_=>5) f 4 (u / h.W)≠0:=u2;have u3:(u:Int)<bg h.t f (f+c) (bM h.W f z) (u / h.W):=u3;by_cases e:f<=u / h.W/\u / h.W<f+c
  ·obtain⟨d1,d2⟩:=ff (u:=u) hW;have:=Nat.mul_le_mul_right h.W e.1;unfold bg bM at u3;rw[if_pos e]at u3;refine .inr ⟨by omega,?_⟩;split at u3 <;> omega
  ·refine .inl ⟨u1,?_,?_,u4⟩
   ·unfold ak bg at u2;rw[if_neg (by omega),if_neg e]at u2;exact u2
   ·unfold bg at u3;rw[if_neg e]at u3;exact u3
 ·have h4:ak (bg h.s f (f+c) λ_=>5) f 4 q=4:=h4;show _<bg h.t f (f+c) (bM h.W f z) q;by_cases e:q=f
  ·subst e;unfold bg bM;rw[if_pos (by omega)];split <;> omega
  ·by_cases e2:f<=q/\q<f+c
   ·unfold ak bg at h4;rw[if_neg e,if_pos e2]at h4;have h4:(5:Int)=4:=h4;exact absurd h4 (by decide)
   ·unfold ak bg at h4;rw[if_neg e,if_neg e2]at h4;unfold bg;rw[if_neg e2];obtain⟨Zs,mz⟩:=m.rest;exact mz.hum q hq h4
 ·have ef:f*h.W / h.W=f:=Nat.mul_div_cancel _ (by omega);refine .inr ⟨?_,?_,λi k1 k2=>?_⟩
  ·show ak _ f 4 (f*h.W / h.W)=4;rw[ef];unfold ak;rw[if_pos rfl]
  ·show f*h.W=f*h.W / h.W*h.W;rw[ef]
  ·show f*h.W / h.W+i<h.R/\ak (bg h.s f (f+c) λ_=>5) f 4 (f*h.W / h.W+i)=5;rw[ef];have hic:i<c:=by
    have k2:i*h.W<z:=k2;have:i*h.W<c*h.W:=by omega
    exact Nat.lt_of_mul_lt_mul_right this
   refine⟨by omega,?_⟩;unfold ak bg;rw[if_neg (by omega),if_pos (by omega)]
end
end Go.Proofs.YtimlkjppaalfaaaGreatDoor
