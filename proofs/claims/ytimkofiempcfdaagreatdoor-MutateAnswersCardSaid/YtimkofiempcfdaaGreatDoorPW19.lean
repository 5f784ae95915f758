/- Several texts joined (pack.py): Wg Ya Gz Ua Ub Uc. -/
import Derived.Test.YtimkofiempcfdaaGreatDoorPW18
import Derived.Test.YtimkofiempcfdaaGreatDoorPW05
import Derived.WalkKit
import Derived.BigQuiet
import Derived.Deep.RegionLaw
import Derived.Deep.AppendLies
import Derived.Deep.CutRange
import Derived.Deep.RegionHeld3
set_option linter.unusedVariables false
set_option linter.unusedSimpArgs false
set_option maxHeartbeats 1600000
set_option maxRecDepth 100000
open List renaming mem_cons_of_mem->D3,mem_cons->D5
namespace Go.Proofs.YtimkofiempcfdaaGreatDoor
open Go.RowKit Go.Gl
section
variable {W w w':World}{L:HL}{X:HX}{h:HS}{x:HT}{s k:Nat}{E:aK}
theorem HE.dim(H:HE W w L X h x s k E):cJ h.g h.W h.R x.cw x.per:=by
 obtain⟨own,⟨tg,FS,H,_⟩,_⟩:=H;exact H.dim
theorem HE.card(H:HE W w L X h x s k E)(a:Int):Calls Tryz.prog 16 #[.agg #[.int .i64 h.g.words,.int .i64 h.g.rw,.int .i64 h.g.cw,.int .i64 h.g.regions,.int .i64 h.g.aG,.int .i64 h.g.max],.int .i64 a] w λe w'=>e=.returned (.int .i64 (h.g.bV a))/\Fr [] w w':=wT h.g H.ok.geo a w H.hr.tab
end
def DE(W:World)(L:HL)(X:HX)(h:HS)(x:HT)(s k:Nat)(p:Pl)(A:Nat->Nat)(wd d:Nat->Nat->Nat)(i:Nat)(E:aK)(e:Ending)(w':World):Prop:=
 e=.returned (.bool true)/\∃f σ wd',HE W w' L X { h with f:=f } { x with σ:=σ } s k E/\Lay p A p.n wd' d { h with f:=f } /\
  (∀j,j<(p.T i).rf.length->wd' i j=lnk A ((p.T i).rf.getD j 0))/\∀i',i'≠i->∀j,wd' i' j=wd i' j
section
variable {W w w':World}{L:HL}{X:HX}{h:HS}{x:HT}{s k:Nat}{E Er R:aK}
end
def dta(p:Pl)(i j:Nat):Nat:=((p.T i).dt.getD j 0).toNat
structure Laid(p:Pl)(A:Nat->Nat)(L:HL)(h:HS):Prop where
 lay:Lay p A p.n (λi j=>lnk A ((p.T i).rf.getD j 0)) (dta p) h
 g:h.g=p.c.geo
 T:p.c.threads=(h.T:Int)
 B:p.c.roots=(L.B:Int)
 st:∀t,t<h.T->h.st t=if t<p.m then (p.H t).map λr=>(lnk A r:Int) else []
def Dc(W:World)(p:Pl)(e:Ending)(w':World):Prop:=
 (∃(L:HL) (X:HX) (h:HS) (x:HT) (s k:Nat) (A:Nat->Nat) (A0:Option Addr) (c:Nat) (E:aK),e=.returned (.tuple #[.agg #[.pointer (some ⟨L.hb,0,none⟩),.slice A0 p.n c],.bool true,.bool false])/\HE W w' L X h x s k E/\Row E A0 c (places A p.n)/\Laid p A L h) \/
 (e=.returned (.tuple #[.agg #[.pointer none,.slice none 0 0],.bool false,.bool false])/\Fr [] W w')
structure ah(D:Nat->Prop)(Q:World->Prop):Prop where
 stay:∀w w' F,Q w->Fr F w w'->(∀b,b∈F->¬ D b)->Q w'
 lt:∀w,Q w->∀b,D b->b<w.heap.size
theorem ah.none:ah (λ_=>False) (λ_=>True):=⟨λ_ _ _ _ _ _=>trivial,λ_ _ _ h=>h.elim⟩
def HM(W w:World)(L:HL)(X:HX)(h:HS)(x:HT)(s k:Nat)(E:aK)(D:Nat->Prop)(Q:World->Prop):Prop:=
 ∃own,cK W w L X own h x s k/\(∀q,q∈E->Blk w q.1 q.2.1 q.2.2/\own q.1=0/\W.heap.size<=q.1/\¬ D q.1)/\(∀b,D b->own b=0/\W.heap.size<=b)/\Q w
section
variable {W w w':World}{L L':HL}{X:HX}{tg tg':Tg}{own own':Nat->Nat}{FS FS':Nat->List Nat}{h h':HS}{x x':HT}{s k:Nat}{E:aK}{F:List Nat}{D:Nat->Prop}{Q:World->Prop}
theorem HM.toE(H:HM W w L X h x s k E D Q):HE W w L X h x s k E:=by
 obtain⟨own,h1,h2,_⟩:=H;exact⟨own,h1,λq hq=>⟨(h2 q hq).1,(h2 q hq).2.1,(h2 q hq).2.2.1⟩⟩
theorem HM.q(H:HM W w L X h x s k E D Q):Q w:=by
 obtain⟨own,h1,h2,h3,h4⟩:=H;exact h4
theorem HM.fr0(hS:ah D Q)(H:HM W w L X h x s k E D Q)(hf:Fr [] w w'):HM W w' L X h x s k E D Q:=by
 obtain⟨own,h1,h2,h3,h4⟩:=H;exact⟨own,h1.fr0 hf,λq hq=>⟨(h2 q hq).1.fr hf (by simp),(h2 q hq).2⟩,h3,hS.stay w w' [] h4 hf (λb hb=>by cases hb)⟩
theorem HM.blk(H:HM W w L X h x s k E D Q){b:Nat}{t:TypeId}{cs:Array Value}(hq:(b,t,cs)∈E):Blk w b t cs:=H.toE.blk hq
theorem HM.sub{E':aK}(H:HM W w L X h x s k E D Q)(hs:∀q,q∈E'->q∈E):HM W w L X h x s k E' D Q:=by
 obtain⟨own,h1,h2,h3⟩:=H;exact⟨own,h1,λq hq=>h2 q (hs q hq),h3⟩
theorem HM.fr(H:HM W w L X h x s k E D Q):Fr [] W w:=H.toE.fr
theorem HM.hr(H:HM W w L X h x s k E D Q):Hr w L h s k:=H.toE.hr
theorem HM.ok(H:HM W w L X h x s k E D Q):h.Ok s k:=H.hr.ok
theorem HM.new(hS:ah D Q)(H:HM W w L X h x s k E D Q)(hf:Fr [] w w'){b:Nat}{t:TypeId}{cs:Array Value}(hb:Blk w' b t cs)(hb2:w.heap.size<=b):HM W w' L X h x s k ((b,t,cs)::E) D Q:=by
 obtain⟨own,h1,h2,h3,h4⟩:=H;have hsz:=h1.fr.size;have h0:own b=0:=by
  obtain⟨tg,FS,H,_⟩:=h1;by_cases e:own b=0
  ·exact e
  ·have:=H.lt b e;omega
 refine⟨own,h1.fr0 hf,λq hq=>?_,h3,hS.stay w w' [] h4 hf (λb hb=>by cases hb)⟩;rcases D5.1 hq with rfl|hq
 ·exact⟨hb,h0,by show W.heap.size<=b;omega,λhd=>by have:=hS.lt w h4 b hd;omega⟩
 ·exact⟨(h2 q hq).1.fr hf (by simp),(h2 q hq).2⟩
theorem HM.alloc(hS:ah D Q)(H:HM W w L X h x s k E D Q)(t:TypeId)(cs:Array Value):HM W (w.alloc (.cells cs t)) L X h x s k ((w.heap.size,t,cs)::E) D Q:=
 H.new hS ((Fr.refl _ _).alloc _) (Blk.new _ _ _) (Nat.le_refl _)
theorem HM.mh(hS:ah D Q)(hT:Tab W){b:Nat}{t:TypeId}{cs cs':Array Value}(H:HM W w L X h x s k ((b,t,cs)::E) D Q)(hf:Fr [b] w w')(hb:Blk w' b t cs')(hne:∀q,q∈E->q.1≠b):HM W w' L X h x s k ((b,t,cs')::E) D Q:=by
 obtain⟨own,h1,h2,h3,h4⟩:=H;obtain⟨k1,k2,k3,k4⟩:=h2 _ (List.mem_cons_self ..);have hlt:=hT.lt;have k3:W.heap.size<=b:=k3;refine⟨own,h1.other hf (λy hy=>?_) (by simp;omega),λq hq=>?_,h3,hS.stay w w' [b] h4 hf (λy hy=>by simp at hy;subst hy;exact k4)⟩
 ·simp at hy;subst hy;exact⟨k2,k3⟩
 ·rcases D5.1 hq with rfl|hq
  ·exact⟨hb,k2,k3,k4⟩
  ·exact⟨(h2 q (D3 _ hq)).1.fr hf (by have:=hne q hq;simpa using this),(h2 q (D3 _ hq)).2⟩
theorem HM.post(hS:ah D Q){f:FuncId}{args:Array Value}{v:Value}(H:HM W w L X h x s k E D Q)(hc:∀own,cK W w L X own h x s k->Calls Tryz.prog f args w (iE W w L X own h' x' s k v)) :
  Calls Tryz.prog f args w λe w'=>e=.returned v/\HM W w' L X h' x' s k E D Q:=by
 obtain⟨own,h1,h2,h3,h4⟩:=H;refine(hc own h1).mono ?_;rintro e w' ⟨own',rfl,g1,g2⟩;refine⟨rfl,own',g1,λq hq=>?_,λb hb=>⟨(g2.2 b (hS.lt w h4 b hb)).trans (h3 b hb).1,(h3 b hb).2⟩,?_⟩
 ·obtain⟨k1,k2,k3,k4⟩:=h2 q hq;obtain⟨j1,j2⟩:=g2.blk k1 k2;exact⟨j1,j2,k3,k4⟩
 ·obtain⟨⟨F,f1,f2⟩,_⟩:=g2;exact hS.stay w w' F h4 f1 (λb hb hd=>f2 b hb (h3 b hd).1)
theorem HM.of(hS:ah D Q)(hE:∀q,q∈E->Blk w q.1 q.2.1 q.2.2/\own q.1=0/\W.heap.size<=q.1/\¬ D q.1)(hD:∀b,D b->own b=0/\W.heap.size<=b)(hQ:Q w)(hw:Hw w' L' X tg' own' FS' h' x' s k)(h1:Fr [] W w)(h2:∀b,own b≠0->W.heap.size<=b)
  (hf:Fr F w w') (hF:∀b,b∈F->own b≠0) (h3:∀b,own' b≠0->own b≠0\/w.heap.size<=b) (hu:∀b,b<w.heap.size->own' b=own b):HM W w' L' X h' x' s k E D Q:=by
 have hsz:=h1.size;refine⟨own',⟨tg',FS',hw,h1.trans hf (λb hb=>.inr (h2 b (hF b hb))),λb hb=>?_⟩,λq hq=>?_,λb hb=>⟨(hu b (hS.lt w hQ b hb)).trans (hD b hb).1,(hD b hb).2⟩,hS.stay w w' F hQ hf (λb hb hd=>hF b hb (hD b hd).1)⟩
 ·rcases h3 b hb with h4|h4
  ·exact h2 b h4
  ·omega
 ·obtain⟨k1,k2,k3,k4⟩:=hE q hq;exact⟨k1.fr hf (λhx=>hF _ hx k2),(hu _ k1.lt).trans k2,k3,k4⟩
theorem HM.of'(hS:ah D Q)(hE:∀q,q∈E->Blk w q.1 q.2.1 q.2.2/\own q.1=0/\W.heap.size<=q.1/\¬ D q.1)(hD:∀b,D b->own b=0/\W.heap.size<=b)(hQ:Q w)(hw:Hw w' L' X tg' own FS' h' x' s k)(h1:Fr [] W w)(h2:∀b,own b≠0->W.heap.size<=b)
  (hf:Fr F w w') (hF:∀b,b∈F->own b≠0):HM W w' L' X h' x' s k E D Q:=HM.of hS hE hD hQ hw h1 h2 hf hF (λb hb=>.inl hb) (λ_ _=>rfl)
theorem Hw.Ck(H:Hw w L X tg own FS h x s k):∀b,b∈[L.sb,L.pb,L.mb]->own b=3:=λb hb=>by
 simp at hb;rcases hb with rfl|rfl|rfl
 ·exact H.o3.2.1
 ·exact H.o3.2.2.1
 ·exact H.o3.2.2.2
theorem HM.x6(hS:ah D Q)(H:HM W w L X h x s k E D Q){r:Nat}(hr:r<h.R)(hs:dr (h.s r)){c:Int}(hc1:((r*h.W:Nat):Int)<=c)(hc2:c<=((r*h.W+h.W:Nat):Int)) :
  Calls Tryz.prog 177 #[.pointer (some ⟨L.tb,0,none⟩),.int .i64 (r:Int),.int .i64 c] w λe w'=>e=.returned (.int .i64 0)/\HM W w' L X { h with t:=ak h.t r c } x s k E D Q:=by
 obtain⟨own,⟨tg,FS,H,h1,h2⟩,hE,hD,hQ⟩:=H;refine(uV H.rg hr hs hc1 hc2).mono ?_;rintro e w' ⟨rfl,hg,hf⟩;exact⟨rfl,HM.of' hS hE hD hQ (H.xK hf H.Ck hg) h1 h2 hf (λb hb=>by rw[H.Ck b hb];decide)⟩
theorem Hw.Cl(H:Hw w L X tg own FS h x s k):∀b,b∈[X.cr]->own b=5:=λb hb=>by
 simp at hb;subst hb;exact H.o5.2.2
theorem HM.Cm(hS:ah D Q)(H:HM W w L X h x s k E D Q)(i:Int) :
  Calls Tryz.prog 113 #[.pointer (some ⟨X.cb,0,none⟩),.int .i64 i] w λe w'=>∃c er C',e=.returned (.tuple #[.bool c,.int .i64 er])/\Turned x.C (h.R*x.per) i true c er C'/\HM W w' L X h { x with C:=C' } s k E D Q:=by
 obtain⟨own,⟨tg,FS,H,h1,h2⟩,hE,hD,hQ⟩:=H;refine(rH H.ct i).mono ?_;rintro e w' ⟨c,er,M',rfl,hg,hf,hb⟩;exact⟨c,er,M',rfl,hb,HM.of' hS hE hD hQ (H.aG hf H.Cl hg) h1 h2 hf (λb hb=>by rw[H.Cl b hb];decide)⟩
theorem HM.see(hS:ah D Q)(H:HM W w L X h x s k E D Q){f:FuncId}{args:Array Value}{P:Ending->World->Prop}(hc:∀own,(∃tg FS,Hw w L X tg own FS h x s k)->Calls Tryz.prog f args w λe w'=>P e w'/\Fr [] w w') :
  Calls Tryz.prog f args w λe w'=>P e w'/\HM W w' L X h x s k E D Q:=by
 have H0:=H;obtain⟨own,⟨tg,FS,H1,h1,h2⟩,hE⟩:=H;refine(hc own ⟨tg,FS,H1⟩).mono ?_;rintro e w' ⟨hp,hf⟩;exact⟨hp,H0.fr0 hS hf⟩
theorem HM.state(hS:ah D Q)(H:HM W w L X h x s k E D Q)(a:Int) :
  Calls Tryz.prog 38 #[.pointer (some ⟨L.tb,0,none⟩),.int .i64 a] w λe w'=>e=.returned (.int .i64 (h.aQ a))/\HM W w' L X h x s k E D Q:=
 H.see hS λown ⟨tg,FS,H⟩=>(lI H.hr a).mono (by rintro e w' ⟨rfl,rfl⟩;exact⟨rfl,Fr.refl _ _⟩)
theorem HM.base(hS:ah D Q)(H:HM W w L X h x s k E D Q)(a:Int):Calls Tryz.prog 74 #[.agg #[.int .i64 h.g.words,.int .i64 h.g.rw,.int .i64 h.g.cw,.int .i64 h.g.regions,.int .i64 h.g.aG,.int .i64 h.g.max],.int .i64 a] w λe w'=>e=.returned (.tuple #[.int .i64 (if 0<=a/\a<(h.R:Int) then a*(h.W:Int) else 0),.int .i64 (if 0<=a/\a<(h.R:Int) then 0 else 2)])/\HM W w' L X h x s k E D Q:=
 H.see hS λown ⟨tg,FS,H⟩=>(H.hr.base a (Fr.refl _ _))
theorem HM.region(hS:ah D Q)(H:HM W w L X h x s k E D Q)(a:Int):Calls Tryz.prog 83 #[.agg #[.int .i64 h.g.words,.int .i64 h.g.rw,.int .i64 h.g.cw,.int .i64 h.g.regions,.int .i64 h.g.aG,.int .i64 h.g.max],.int .i64 a] w λe w'=>e=.returned (.int .i64 (h.g.az a))/\HM W w' L X h x s k E D Q:=
 H.see hS λown ⟨tg,FS,H⟩=>(H.hr.region a (Fr.refl _ _))
theorem HM.Co(hS:ah D Q)(H:HM W w L X h x s k E D Q)(a:Int):Calls Tryz.prog 16 #[.agg #[.int .i64 h.g.words,.int .i64 h.g.rw,.int .i64 h.g.cw,.int .i64 h.g.regions,.int .i64 h.g.aG,.int .i64 h.g.max],.int .i64 a] w λe w'=>e=.returned (.int .i64 (h.g.bV a))/\HM W w' L X h x s k E D Q:=
 H.see hS λown ⟨tg,FS,H'⟩=>H.toE.card a
theorem HM.cells(H:HM W w L X h x s k E D Q):w.cell? ⟨L.hb,20,none⟩=some (.pointer (some ⟨L.ab,0,none⟩))/\w.cell? ⟨L.hb,21,none⟩=some (.pointer (some ⟨L.tb,0,none⟩))/\w.cell? ⟨L.hb,22,none⟩=some (.pointer (some ⟨X.ob,0,none⟩)) /\
  w.cell? ⟨L.hb,23,none⟩=some (.pointer (some ⟨X.cb,0,none⟩))/\w.cell? ⟨L.hb,24,none⟩=some (.pointer (some ⟨X.qb,0,none⟩))/\w.cell? ⟨L.hb,25,none⟩=some (.pointer (some ⟨X.zb,0,none⟩))/\w.cell? ⟨L.hb,26,none⟩=some (.pointer (some ⟨X.mb,0,none⟩)) /\
  w.cell? ⟨L.hb,27,none⟩=some (.slice L.rA h.T L.rc)/\w.cell? ⟨L.hb,28,none⟩=some (.slice (some ⟨L.bb,0,none⟩) h.T h.T):=by
 obtain⟨own,⟨tg,FS,H,_⟩,_⟩:=H;have c0:=H.st.cell 20;have c1:=H.st.cell 21;have c2:=H.st.cell 22;have c3:=H.st.cell 23;have c4:=H.st.cell 24;have c5:=H.st.cell 25;have c6:=H.st.cell 26;have c7:=H.st.cell 27;have c8:=H.st.cell 28;refine⟨c0,c1,?_,?_,?_,?_,?_,c7,c8⟩
 ·rw[<- H.vo];exact c2
 ·rw[<- H.vc];exact c3
 ·rw[<- H.vq];exact c4
 ·rw[<- H.vs];exact c5
 ·rw[<- H.vm];exact c6
structure fx(w:World)(L:HL)(X:HX)(g:Geo)(T:Nat):Prop where
 c14:w.cell? ⟨L.hb,14,none⟩=some (.int .i64 g.words)
 c15:w.cell? ⟨L.hb,15,none⟩=some (.int .i64 g.rw)
 c16:w.cell? ⟨L.hb,16,none⟩=some (.int .i64 g.cw)
 c17:w.cell? ⟨L.hb,17,none⟩=some (.int .i64 g.regions)
 c18:w.cell? ⟨L.hb,18,none⟩=some (.int .i64 g.aG)
 c19:w.cell? ⟨L.hb,19,none⟩=some (.int .i64 g.max)
 c20:w.cell? ⟨L.hb,20,none⟩=some (.pointer (some ⟨L.ab,0,none⟩))
 c21:w.cell? ⟨L.hb,21,none⟩=some (.pointer (some ⟨L.tb,0,none⟩))
 c22:w.cell? ⟨L.hb,22,none⟩=some (.pointer (some ⟨X.ob,0,none⟩))
 c23:w.cell? ⟨L.hb,23,none⟩=some (.pointer (some ⟨X.cb,0,none⟩))
 c24:w.cell? ⟨L.hb,24,none⟩=some (.pointer (some ⟨X.qb,0,none⟩))
 c25:w.cell? ⟨L.hb,25,none⟩=some (.pointer (some ⟨X.zb,0,none⟩))
 c26:w.cell? ⟨L.hb,26,none⟩=some (.pointer (some ⟨X.mb,0,none⟩))
 c27:w.cell? ⟨L.hb,27,none⟩=some (.slice L.rA T L.rc)
 c28:w.cell? ⟨L.hb,28,none⟩=some (.slice (some ⟨L.bb,0,none⟩) T T)
 lt:L.hb<w.heap.size
theorem HM.hc(H:HM W w L X h x s k E D Q):fx w L X h.g h.T:=by
 obtain⟨a0,a1,a2,a3,a4,a5⟩:=H.hr.geo;obtain⟨b0,b1,b2,b3,b4,b5,b6,b7,b8⟩:=H.cells;exact⟨a0,a1,a2,a3,a4,a5,b0,b1,b2,b3,b4,b5,b6,b7,b8,ae b0⟩
theorem HM.iO(hS:ah D Q)(H:HM W w L X h x s k E D Q){r:Nat}(hr:r<h.R):Calls Tryz.prog 74 #[.agg #[.int .i64 h.g.words,.int .i64 h.g.rw,.int .i64 h.g.cw,.int .i64 h.g.regions,.int .i64 h.g.aG,.int .i64 h.g.max],.int .i64 (r:Int)] w λe w'=>e=.returned (.tuple #[.int .i64 ((r*h.W:Nat):Int),.int .i64 0])/\HM W w' L X h x s k E D Q:=by
 have:=H.base hS (r:Int);have e:0<=(r:Int)/\(r:Int)<(h.R:Int):=by omega
 rw[if_pos e,if_pos e]at this;rw[Int.natCast_mul];exact this
theorem HM.dim(H:HM W w L X h x s k E D Q):cJ h.g h.W h.R x.cw x.per:=H.toE.dim
end
def DF(W:World)(L:HL)(X:HX)(h:HS)(x:HT)(s k:Nat)(E:aK)(D:Nat->Prop)(Q:World->Prop)(r:Nat)(e:Ending)(w':World):Prop:=
 e=.returned (.int .i64 0)/\∃C' M',(∀j:Nat,bC M' j=if r*h.W<=j/\j<r*h.W+h.W then false else bC x.M j)/\(∀j:Nat,bC C' j=if r*x.per<=j/\j<r*x.per+x.per then false else bC x.C j) /\
   HM W w' { L with m:=ak L.m r ((r*h.W:Nat):Int) } X { h with s:=ak h.s r 0,t:=ak h.t r ((r*h.W:Nat):Int) } { x with O:=bc x.O (r*x.per) (r*x.per+x.per) (λ_=>0),σ:=(x.σ.clear r).B7 x.per r,M:=M',C:=C' } s k E D Q
section
variable {W w w':World}{L:HL}{X:HX}{h:HS}{x:HT}{s k:Nat}{E:aK}{D:Nat->Prop}{Q:World->Prop}
end
theorem oK{w:World}{g o:Nat}{x y:Int}(c0:w.cell? ⟨g,o,none⟩=some (.int .i64 x))(c1:w.cell? ⟨g,o+1,none⟩=some (.int .i64 y))(h0:0<=x)(h1:x<=y)(h2:y<=4194304):Calls Tryz.prog 164 #[.pointer (some ⟨g,o,none⟩)] w λe w'=>e=.returned (.int .i64 (y-x))/\∃k,w'=w.drewN k:=by
 have e1:IntKind.i64.wrap (y-x)=y-x:=IntWalk.i64_in _ ⟨by omega,by omega⟩;clear h0 h1 h2;go_enter Tryz.func164,Tryz.ntmps164
 go_wp2_with fail
 go_quiet (fail)
 go_wp2
 go_ret
 exact⟨rfl,_,rfl⟩
theorem zN{w:World}{g o:Nat}{x y:Int}(c0:w.cell? ⟨g,o,none⟩=some (.int .i64 x))(c1:w.cell? ⟨g,o+1,none⟩=some (.int .i64 y)):Calls Tryz.prog 129 #[.pointer (some ⟨g,o,none⟩)] w λe w'=>e=.returned (.tuple #[.int .i64 x,.int .i64 y])/\∃k,w'=w.drewN k:=by
 go_enter Tryz.func129,Tryz.ntmps129
 go_wp2_with fail
 go_quiet (fail)
 go_wp2
 go_ret2
 exact⟨rfl,_,rfl⟩
theorem zO{w:World}{g o:Nat}{x y:Int}{cs:Array Value}(hb:Blk w g 236 cs)(c0:w.cell? ⟨g,o,none⟩=some (.int .i64 x))(c1:w.cell? ⟨g,o+1,none⟩=some (.int .i64 y)):Calls Tryz.prog 176 #[.pointer (some ⟨g,o,none⟩)] w λe w'=>e=.returned (.tuple #[.int .i64 x,.int .i64 y])/\Blk w' g 236 ((cs.setIfInBounds o (.int .i64 0)).setIfInBounds (o+1) (.int .i64 0))/\Fr [g] w w':=by
 have HB:=aa hb;have R:=aa (zN c0 c1);have z0:=hb.frozen o;have z1:=hb.frozen (o+1);clear hb;go_enter Tryz.func176,Tryz.ntmps176
 go_wp2_with (go_at_call 129;refine R.out.mono ?_;rintro e w' ⟨rfl,k,rfl⟩)
 go_ret2
 have hq:Blk (w.drewN k) g 236 cs:=HB.out;exact⟨rfl,(hq.put o (.int .i64 0)).put (o+1) (.int .i64 0),((((Fr.refl _ _).drewN _).setCell (p:=⟨g,o,none⟩) (.inl (by simp)) _).setCell (p:=⟨g,o+1,none⟩) (.inl (by simp)) _)⟩
theorem zP{w:World}{g o:Nat}{x y n:Int}{cs:Array Value}(hb:Blk w g 236 cs)(c0:w.cell? ⟨g,o,none⟩=some (.int .i64 x))(c1:w.cell? ⟨g,o+1,none⟩=some (.int .i64 y))(h0:0<=x)(h1:x<=y)(h2:y<=4194304)(hn:1<=n)(hn2:n<=y-x) :
  Calls Tryz.prog 167 #[.pointer (some ⟨g,o,none⟩),.int .i64 n] w λe w'=>e=.returned (.tuple #[.int .i64 x,.int .i64 0])/\Blk w' g 236 (cs.setIfInBounds o (.int .i64 (x+n)))/\Fr [g] w w':=by
 have L:=aa (oK c0 c1 h0 h1 h2);have HB:=aa hb;have e1:IntKind.i64.wrap (x+n)=x+n:=IntWalk.i64_in _ ⟨by omega,by omega⟩;have g1:¬ n<1:=by omega
 have g2:¬ y-x<n:=by omega
 have z0:=hb.frozen o;clear hb h0 h1 h2 hn hn2;go_enter Tryz.func167,Tryz.ntmps167
 go_wp2_with (go_at_call 164;refine L.out.mono ?_;rintro e w' ⟨rfl,k,rfl⟩)
 go_ret2
 have hq:Blk (w.drewN k) g 236 cs:=HB.out;exact⟨rfl,hq.put o (.int .i64 (x+n)),((Fr.refl _ _).drewN _).setCell (p:=⟨g,o,none⟩) (.inl (by simp)) _⟩
theorem lM{w:World}{g o:Nat}{x y n:Int}(c0:w.cell? ⟨g,o,none⟩=some (.int .i64 x))(c1:w.cell? ⟨g,o+1,none⟩=some (.int .i64 y))(h0:0<=x)(h1:x<=y)(h2:y<=4194304)(hn:1<=n)(hn2:y-x<n) :
  Calls Tryz.prog 167 #[.pointer (some ⟨g,o,none⟩),.int .i64 n] w λe w'=>e=.returned (.tuple #[.int .i64 0,.int .i64 6])/\∃k,w'=w.drewN k:=by
 have L:=aa (oK c0 c1 h0 h1 h2);have g1:¬ n<1:=by omega
 clear h0 h1 h2 hn;go_enter Tryz.func167,Tryz.ntmps167
 go_wp2_with (go_at_call 164;refine L.out.mono ?_;rintro e w' ⟨rfl,k,rfl⟩)
 go_ret2
 exact⟨rfl,_,rfl⟩
theorem nM(T:Nat)(x y:Nat->Int):(eJ T x y).size=T*2:=by
 unfold eJ;rw[List.size_toArray,gC]
theorem jI(T:Nat)(x y:Nat->Int)(j:Nat):(eJ T x y)[j]?=if j<T*2 then some (.int .i64 (if j % 2=0 then x (j / 2) else y (j / 2))) else none:=by
 unfold eJ;rw[List.getElem?_toArray];by_cases hj:j<T*2
 ·rw[if_pos hj];obtain⟨a1,a2⟩:=jC (λi=>Value.int .i64 (x i)) (λi=>Value.int .i64 (y i)) (show j / 2<T by omega);by_cases h7:j % 2=0
  ·rw[if_pos h7];rw[show j / 2*2=j by omega]at a1;exact a1
  ·rw[if_neg h7];rw[show j / 2*2+1=j by omega]at a2;exact a2
 ·rw[if_neg hj,List.getElem?_eq_none (by rw[gC];omega)]
theorem ke(T:Nat)(x y:Nat->Int){i:Nat}(v:Int)(hi:i<T):(eJ T x y).setIfInBounds (i*2) (.int .i64 v)=eJ T (ak x i v) y:=by
 apply Array.ext_getElem?;intro j;rw[Array.getElem?_setIfInBounds,jI,jI,nM];unfold ak;by_cases e:i*2=j
 ·subst e;rw[if_pos rfl,if_pos (by omega),if_pos (by omega),if_pos (by omega),if_pos (by omega)]
 ·rw[if_neg e];by_cases hj:j<T*2
  ·rw[if_pos hj,if_pos hj];by_cases h7:j % 2=0
   ·rw[if_pos h7,if_pos h7,if_neg (by omega)]
   ·rw[if_neg h7,if_neg h7]
  ·rw[if_neg hj,if_neg hj]
theorem nN(T:Nat)(x y:Nat->Int){i:Nat}(v:Int)(hi:i<T):(eJ T x y).setIfInBounds (i*2+1) (.int .i64 v)=eJ T x (ak y i v):=by
 apply Array.ext_getElem?;intro j;rw[Array.getElem?_setIfInBounds,jI,jI,nM];unfold ak;by_cases e:i*2+1=j
 ·subst e;rw[if_pos rfl,if_pos (by omega),if_pos (by omega),if_neg (by omega),if_pos (by omega)]
 ·rw[if_neg e];by_cases hj:j<T*2
  ·rw[if_pos hj,if_pos hj];by_cases h7:j % 2=0
   ·rw[if_pos h7,if_pos h7]
   ·rw[if_neg h7,if_neg h7,if_neg (by omega)]
  ·rw[if_neg hj,if_neg hj]
section
variable {W w w':World}{L:HL}{X:HX}{tg:Tg}{own:Nat->Nat}{FS:Nat->List Nat}{h:HS}{x:HT}{s k:Nat}{E:aK}{F:List Nat}{D:Nat->Prop}{Q:World->Prop}
theorem Hw.buffer(H:Hw w L X tg own FS h x s k){bx be:Nat->Int}(hf:Fr [L.bb] w w')(hb:Blk w' L.bb 236 (eJ h.T bx be))(hok:∀i,i<h.T->0<=bx i/\bx i<=be i/\be i<=4194304):Hw w' L X tg own FS { h with bx:=bx,be:=be } x s k:=by
 have r:=H.rest (own':=own) hf (λb hb=>by simp at hb;subst hb;exact H.o1.2.1) (by decide) (λ_ _=>rfl);exact⟨H.st.fr hf (by simp;exact H.st.apart H.buf (by decide)),r.r2 (by decide),r.r3 (by decide),H.row.fr hf (λg hg hx=>by simp at hx;subst hx;exact H.row.apart H.buf (by decide) hg),λi hi=>r.r9 i hi (by omega),hb,⟨H.ok.geo,H.ok.rw,H.ok.rg,H.ok.wd,H.ok.nn,H.ok.fok,H.ok.sok,H.ok.tok,H.ok.tm,hok,H.ok.rok,H.ok.qj⟩,r.rt,H.dim,r.r4 (by decide),r.r5 (by decide),r.r6 (by decide),r.r7 (by decide),r.r8 (by decide),H.vo,H.vc,H.vq,H.vs,H.vm,r.o1,r.o2,r.o3,r.o4,r.o5,r.o6,r.o7,r.o8,r.iX,r.o0,λb hb=>Nat.lt_of_lt_of_le (H.lt b hb) hf.size⟩
theorem HM.buffer(hS:ah D Q)(H:HM W w L X h x s k E D Q){bx be:Nat->Int}(hf:Fr [L.bb] w w')(hb:Blk w' L.bb 236 (eJ h.T bx be))(hok:∀i,i<h.T->0<=bx i/\bx i<=be i/\be i<=4194304):HM W w' L X { h with bx:=bx,be:=be } x s k E D Q:=by
 obtain⟨own,⟨tg,FS,H,h1,h2⟩,hE,hD,hQ⟩:=H;exact HM.of' hS hE hD hQ (H.buffer hf hb hok) h1 h2 hf (λb hb=>by simp at hb;subst hb;rw[H.o1.2.1];decide)
theorem HM.oE(H:HM W w L X h x s k E D Q){i:Nat}(hi:i<h.T):w.cell? ⟨L.bb,i*2,none⟩=some (.int .i64 (h.bx i))/\w.cell? ⟨L.bb,i*2+1,none⟩=some (.int .i64 (h.be i)):=H.hr.oE hi
theorem HM.Cp(hS:ah D Q)(H:HM W w L X h x s k E D Q){i:Nat}(hi:i<h.T) :
  Calls Tryz.prog 176 #[.pointer (some ⟨L.bb,i*2,none⟩)] w λe w'=>e=.returned (.tuple #[.int .i64 (h.bx i),.int .i64 (h.be i)])/\HM W w' L X { h with bx:=ak h.bx i 0,be:=ak h.be i 0 } x s k E D Q:=by
 obtain⟨b0,b1⟩:=H.oE hi;refine(zO H.hr.buf b0 b1).mono ?_;rintro e w' ⟨rfl,hb,hf⟩;rw[ke _ _ _ _ hi,nN _ _ _ _ hi]at hb;refine⟨rfl,H.buffer hS hf hb (λj hj=>?_)⟩;unfold ak;have:=H.ok.bok j hj;split <;> omega
theorem HM.AD(hS:ah D Q)(H:HM W w L X h x s k E D Q){i:Nat}(hi:i<h.T){n:Int}(hn:1<=n)(hn2:n<=h.be i-h.bx i) :
  Calls Tryz.prog 167 #[.pointer (some ⟨L.bb,i*2,none⟩),.int .i64 n] w λe w'=>e=.returned (.tuple #[.int .i64 (h.bx i),.int .i64 0])/\HM W w' L X { h with bx:=ak h.bx i (h.bx i+n) } x s k E D Q:=by
 obtain⟨b0,b1⟩:=H.oE hi;obtain⟨o1,o2,o3⟩:=H.ok.bok i hi;refine(zP H.hr.buf b0 b1 o1 o2 o3 hn hn2).mono ?_;rintro e w' ⟨rfl,hb,hf⟩;rw[ke _ _ _ _ hi]at hb;refine⟨rfl,H.buffer hS (be:=h.be) hf hb (λj hj=>?_)⟩;unfold ak;have:=H.ok.bok j hj;split
 ·rename_i e;subst e;omega
 ·omega
theorem HM.lM(hS:ah D Q)(H:HM W w L X h x s k E D Q){i:Nat}(hi:i<h.T){n:Int}(hn:1<=n)(hn2:h.be i-h.bx i<n) :
  Calls Tryz.prog 167 #[.pointer (some ⟨L.bb,i*2,none⟩),.int .i64 n] w λe w'=>e=.returned (.tuple #[.int .i64 0,.int .i64 6])/\HM W w' L X h x s k E D Q:=by
 obtain⟨b0,b1⟩:=H.oE hi;obtain⟨o1,o2,o3⟩:=H.ok.bok i hi;refine(Go.Proofs.YtimkofiempcfdaaGreatDoor.lM b0 b1 o1 o2 o3 hn hn2).mono ?_;rintro e w' ⟨rfl,q,rfl⟩;exact⟨rfl,H.fr0 hS ((Fr.refl _ _).drewN _)⟩
theorem HM.x7(hS:ah D Q)(H:HM W w L X h x s k E D Q){i:Nat}(hi:i<h.T) :
  Calls Tryz.prog 164 #[.pointer (some ⟨L.bb,i*2,none⟩)] w λe w'=>e=.returned (.int .i64 (h.be i-h.bx i))/\HM W w' L X h x s k E D Q:=by
 obtain⟨b0,b1⟩:=H.oE hi;obtain⟨o1,o2,o3⟩:=H.ok.bok i hi;refine(oK b0 b1 o1 o2 o3).mono ?_;rintro e w' ⟨rfl,q,rfl⟩;exact⟨rfl,H.fr0 hS ((Fr.refl _ _).drewN _)⟩
end
theorem ja:∀(l:List Int) (a:Int),l.foldl min a=a\/l.foldl min a∈l
|[],a=>.inl rfl
|b::l,a=>by
  show l.foldl min (min a b)=a\/l.foldl min (min a b)∈b::l;rcases ja l (min a b)with h|h
  ·rw[h];rcases Int.le_total a b with h2|h2
   ·left;omega
   ·right;rw[show min a b=b by omega];simp
  ·right;simp[h]
theorem vr{l:List Int}(h:l≠[]):HS.fH l∈l:=by
 cases l with
|nil=>exact absurd rfl h
|cons a l=>
  show l.foldl min a∈a::l;rcases ja l a with h|h
  ·rw[h];simp
  ·simp[h]
theorem lN{h:HS}{r:Int}{z:Int}:∀ {n:Nat},z∈h.bl r n->∃i,i<n/\z=h.bx i/\h.bx i<h.be i/\h.g.az (h.bx i)=r
|0,hz=>by cases hz
|n+1,hz=>by
  unfold HS.bl at hz;rcases List.mem_append.1 hz with hz|hz
  ·obtain⟨i,h1,h2⟩:=lN hz;exact⟨i,by omega,h2⟩
  ·split at hz
   ·rename_i hc
    simp only[List.mem_singleton]at hz;exact⟨n,by omega,hz,hc.1,hc.2⟩
   ·cases hz
theorem nO{h:HS}{r:Int}{i:Nat}(h1:h.bx i<h.be i)(h2:h.g.az (h.bx i)=r):∀ {n:Nat},i<n->h.bx i∈h.bl r n
|n+1,hn=>by
  unfold HS.bl;by_cases e:i=n
  ·subst e;rw[if_pos ⟨h1,h2⟩];simp
  ·exact List.mem_append_left _ (nO h1 h2 (by omega))
def HS.ui(h:HS):Prop:=∀i,i<h.T->h.bx i<h.be i->∃r,r<h.R/\dr (h.s r)/\((r*h.W:Nat):Int)<=h.bx i/\h.be i<=((r*h.W+h.W:Nat):Int)
def HS.DV(h:HS)(j:Nat):Nat->Int:=λr=>if h.bl (r:Int) j=[] then h.t r else HS.fH (h.bl (r:Int) h.T)
def zap(f:Nat->Int)(j:Nat):Nat->Int:=λi=>if i<j then 0 else f i
section
variable {W w w':World}{L:HL}{X:HX}{h:HS}{x:HT}{s k:Nat}{E:aK}{D:Nat->Prop}{Q:World->Prop}
theorem HS.Ok.reg(ok:h.Ok s k){r:Nat}{a:Int}(hr:r<h.R)(h1:((r*h.W:Nat):Int)<=a)(h2:a<((r*h.W+h.W:Nat):Int)):h.g.az a=(r:Int):=by
 have hW:=ok.iW;have hb:=ok.cv hr;obtain⟨q,rfl⟩:=Int.eq_ofNat_of_zero_le (show 0<=a by omega);unfold Geo.az;rw[if_pos ⟨by omega,by rw[ok.wd];omega⟩,ok.rw];show(q:Int) / (h.W:Int)=_;rw[<- Int.natCast_ediv,By (u:=q) (r:=r) (W:=h.W) (by omega) (by omega) (by omega)]
end
structure dX(T B M:Nat):Prop where
 t:T<=64
 b:B<=64
 m1:1<=M
 m:M<=1048576
theorem gh{σ:GS}{t:Nat}{a:Int}:aD σ t a=0↔aH (σ.st t) a/\aj (σ.st t) a≠0:=by
 unfold aD
 repeat' split
 all_goals simp_all
theorem ns(σ:GS)(t:Nat)(a:Int):aD σ t a=0\/aD σ t a=12\/aD σ t a=10:=by
 unfold aD
 repeat' split
 all_goals simp
theorem jJ{σ:GS}{t:Nat}{a:Int}(h:aD σ t a≠0):aj (σ.st t) a=0:=by
 by_cases hi:aH (σ.st t) a
 ·by_cases e:aj (σ.st t) a=0
  ·exact e
  ·exact absurd (gh.2 ⟨hi,e⟩) h
 ·unfold aj;rw[if_neg hi]
theorem dy(n:Nat)(b:Int):(b<0/\¬ aA n b)\/(0<=b/\(n:Int)<=b/\¬ aA n b)\/(0<=b/\b<(n:Int)/\aA n b):=by unfold aA;omega
def opV(o:Po):Value:=.agg #[.int .i64 o.k,.int .i64 o.a,.int .i64 o.b,.int .i64 o.c,.int .u64 o.v]
structure dB(o:Po):Prop where
 a:-9223372036854775808<=o.a/\o.a<=9223372036854775807
 b:-9223372036854775808<=o.b/\o.b<=9223372036854775807
def dH(th dn:Int)(x:An):Array Value:=#[.int .i64 th,.int .i64 dn,.int .i64 x.code,.int .u64 x.word,.bool x.bit]
theorem vt(B M T:Nat)(σ:GS)(t:Nat)(o:Po):bm B M T (σ.tick t) t o=bm B M T σ t o:=rfl
theorem zQ(w:World)(cs:Array Value)(t:TypeId){b:Nat}(hb:w.heap.size=b)(w':World)(hf:Fr [] (w.alloc (.cells cs t)) w'):∃ad,some (⟨b,0,none⟩:Addr)=some ad/\∀j u,cs.toList[j]?=some u->w'.cell? (ad.add j)=some u:=by
 subst hb;exact⟨_,rfl,World.news_of_block ((Blk.new w t cs).fr hf (by simp))⟩
theorem kg(l:List Int)(x:Int):bf (l++[x])=bf l++[.int .u64 x]:=by simp[bf]
theorem Tryz.nP:(Tryz.prog.info? 64).map (λi=>(i.zero,i.size,i.bytes))=some (some (.int .u64 0),1,8):=by kernel_rfl
theorem Tryz.vu:(Tryz.prog.info? 178).map (λi=>(i.zero,i.size,i.bytes))=some (some (.agg #[.slice none 0 0,.slice none 0 0]),2,48):=by kernel_rfl
def iS(W:World)(l:List Int)(e:Ending)(w':World):Prop:=∃A n c G,e=.returned (.slice A n c)/\Lr w' 64 A n c G (bf l)/\Fr [] W w'/\∀g,g∈G->W.heap.size<=g
theorem iF{l:List Int}{k:Nat}(h:k<l.length):l.take (k+1)=l.take k++[l.getD k 0]:=by
 rw[List.take_add_one]
 congr 1
 simp[h]
structure MU where
 dn:Nat
 k:Int
 a:Int
 b:Int
 c:Int
 v:Int
 st:Int
 ad:Int
def MU.zero(n:Nat):MU:=⟨n,0,0,0,0,0,0,0⟩
def muV(hb t sb:Nat)(m:MU):Array Value:=#[.pointer (some ⟨hb,0,none⟩),.int .i64 (t:Int),.pointer (some ⟨sb,0,none⟩),.int .i64 (m.dn:Int),.int .i64 m.k,.int .i64 m.a,.int .i64 m.b,.int .i64 m.c,.int .u64 m.v,.int .i64 m.st,.int .i64 m.ad]
def bk(th dn:Int)(x:An)(done busy want:Bool)(left:Value):Value:=.agg #[.int .i64 th,.int .i64 dn,.int .i64 x.code,.int .u64 x.word,.bool x.bit,.bool done,.bool busy,.bool want,left]
def An.zero:An:=⟨0,0,false⟩
section
variable {w:World}{mb hb t sb:Nat}{m:MU}
structure DW(w:World)(mb hb t sb:Nat)(m:MU):Prop where
 blk:Blk w mb 122 (muV hb t sb m)
theorem aL(h:Blk w mb 122 (muV hb t sb m)):w.cell? ⟨mb,0,none⟩=some (.pointer (some ⟨hb,0,none⟩))/\w.cell? ⟨mb,1,none⟩=some (.int .i64 (t:Int))/\w.cell? ⟨mb,2,none⟩=some (.pointer (some ⟨sb,0,none⟩))/\w.cell? ⟨mb,3,none⟩=some (.int .i64 (m.dn:Int))/\w.cell? ⟨mb,4,none⟩=some (.int .i64 m.k)/\w.cell? ⟨mb,5,none⟩=some (.int .i64 m.a)/\w.cell? ⟨mb,6,none⟩=some (.int .i64 m.b)/\w.cell? ⟨mb,7,none⟩=some (.int .i64 m.c)/\w.cell? ⟨mb,8,none⟩=some (.int .u64 m.v)/\w.cell? ⟨mb,9,none⟩=some (.int .i64 m.st)/\w.cell? ⟨mb,10,none⟩=some (.int .i64 m.ad):=
 ⟨h.cell 0,h.cell 1,h.cell 2,h.cell 3,h.cell 4,h.cell 5,h.cell 6,h.cell 7,h.cell 8,h.cell 9,h.cell 10⟩
theorem dY(h:Blk w mb 122 (muV hb t sb m)):Calls Tryz.prog 19 #[.pointer (some ⟨mb,0,none⟩)] w λe w'=>e=.returned (.bool (m.st==0))/\w=w':=by
 obtain⟨c0,c1,c2,c3,c4,c5,c6,c7,c8,c9,c10⟩:=aL h;clear h;go_enter Tryz.func19,Tryz.ntmps19
 go_wp2
 go_ret
 exact⟨rfl,rfl⟩
theorem aR{w w':World}{F:List Nat}{b:Nat}(hf:Fr F w w')(hb:b∈F)(i:Nat)(v:Value):Fr F w (w'.setCell ⟨b,i,none⟩ v):=hf.setCell (p:=⟨b,i,none⟩) (.inl hb) v
theorem lO(h:Blk w mb 122 (muV hb t sb m))(hs:m.st=0)(o:Po):Calls Tryz.prog 25 #[.pointer (some ⟨mb,0,none⟩),opV o] w λe w'=>e=.returned (.int .i64 0)/\Blk w' mb 122 (muV hb t sb ⟨m.dn,o.k,o.a,o.b,o.c,o.v,1,0⟩)/\Fr [mb] w w':=by
 have HI:=aa (dY (h.alloc (.cells #[.int .i64 o.k,.int .i64 o.a,.int .i64 o.b,.int .i64 o.c,.int .u64 o.v] 66)));rw[show(m.st==0)=true by simpa using hs]at HI;have hb:=h.alloc (.cells #[.int .i64 o.k,.int .i64 o.a,.int .i64 o.b,.int .i64 o.c,.int .u64 o.v] 66);have HB:=aa hb;obtain⟨c0,c1,c2,c3,c4,c5,c6,c7,c8,c9,c10⟩:=aL hb;have z4:=hb.frozen 4;have z5:=hb.frozen 5;have z6:=hb.frozen 6;have z7:=hb.frozen 7;have z8:=hb.frozen 8;have z9:=hb.frozen 9;have z10:=hb.frozen 10;have NM:=hb.lt;clear h hs hb;unfold opV;go_enter Tryz.func25,Tryz.ntmps25
 go_wp2_with (go_at_call 19;refine HI.out.mono ?_;rintro e w' ⟨rfl,rfl⟩)
 go_ret
 refine⟨rfl,?_,?_⟩
 ·have:=((((((HB.out.put 4 (.int .i64 o.k)).put 5 (.int .i64 o.a)).put 6 (.int .i64 o.b)).put 7 (.int .i64 o.c)).put 8 (.int .u64 o.v)).put 9 (.int .i64 1)).put 10 (.int .i64 0);unfold muV at this ⊢;simpa using this
 ·exact aR (aR (aR (aR (aR (aR (aR (((Fr.refl [mb] w)).alloc _) (by simp) 4 _) (by simp) 5 _) (by simp) 6 _) (by simp) 7 _) (by simp) 8 _) (by simp) 9 _) (by simp) 10 _
end
section
variable {w:World}{mb hb t sb:Nat}{m:MU}
theorem fy(a:Nat)(ha:a<9223372036854775807)(w:World):Calls Tryz.prog 112 #[.int .i64 (a:Int)] w λe w'=>e=.returned (.int .u64 ((a:Int)+1))/\w=w':=by
 have e1:IntKind.u64.wrap ((a:Int))=(a:Int):=IntWalk.u64_in _ ⟨by omega,by omega⟩;have e2:IntKind.u64.wrap ((a:Int)+1)=(a:Int)+1:=IntWalk.u64_in _ ⟨by omega,by omega⟩;go_enter Tryz.func112,Tryz.ntmps112
 go_wp2
 go_ret
 exact⟨rfl,rfl⟩
theorem bn(a:Nat)(ha:a<9223372036854775807)(w:World):Calls Tryz.prog 168 #[.int .u64 ((a:Int)+1)] w λe w'=>e=.returned (.int .i64 (a:Int))/\w=w':=by
 have e1:IntKind.u64.wrap ((a:Int)+1-1)=(a:Int):=by rw[show(a:Int)+1-1=(a:Int)by omega];exact IntWalk.u64_in _ ⟨by omega,by omega⟩
 have e2:IntKind.i64.wrap (a:Int)=(a:Int):=IntWalk.i64_in _ ⟨by omega,by omega⟩;go_enter Tryz.func168,Tryz.ntmps168
 go_wp2
 go_ret
 exact⟨rfl,rfl⟩
theorem eB(h:Blk w mb 122 (muV hb t sb m))(hd:(m.dn:Int)+1<=9223372036854775807)(a0 a1:Int)(x:An):Calls Tryz.prog 65 #[.pointer (some ⟨mb,0,none⟩),fG a0 a1 x] w λe w'=>e=.returned (bk (t:Int) (m.dn:Int) x true false false (.slice none 0 0))/\Blk w' mb 122 (muV hb t sb (MU.zero (m.dn+1)))/\Fr [mb] w w':=by
 have hb1:=(h.alloc (.cells #[.int .i64 a0,.int .i64 a1,.int .i64 x.code,.int .u64 x.word,.bool x.bit] 79)).alloc (.cells #[.int .i64 0,.int .i64 0,.int .i64 0,.int .u64 0,.bool false,.bool false,.bool false,.bool false,.slice none 0 0] 81);have HB:=aa h;have e1:IntKind.i64.wrap ((m.dn:Int)+1)=(m.dn:Int)+1:=IntWalk.i64_in _ ⟨by omega,hd⟩;obtain⟨c0,c1,c2,c3,c4,c5,c6,c7,c8,c9,c10⟩:=aL h;have z3:=h.frozen 3;have z4:=h.frozen 4;have z5:=h.frozen 5;have z6:=h.frozen 6;have z7:=h.frozen 7;have z8:=h.frozen 8;have z9:=h.frozen 9;have z10:=h.frozen 10;have NM:=h.lt;clear h hb1;unfold fG bk;go_enter Tryz.func65,Tryz.ntmps65
 go_wp2
 go_region
 all_goals
  go_wp2
 refine bodyPost_ret (v:=.agg #[.int .i64 (t:Int),.int .i64 (m.dn:Int),.int .i64 x.code,.int .u64 x.word,.bool x.bit,.bool true,.bool false,.bool false,.slice none 0 0]) (by simp[results,Tryz.results65,go_sem, *]) rfl ⟨rfl,?_,?_⟩
 ·have:=(((((((((((HB.out.put 3 (.int .i64 ((m.dn:Int)+1))).put 4 (.int .i64 0)).put 5 (.int .i64 0)).put 6 (.int .i64 0)).put 7 (.int .i64 0)).put 8 (.int .u64 0)).put 9 (.int .i64 0)).put 10 (.int .i64 0)).alloc (.cells #[.int .i64 (t:Int),.int .i64 (m.dn:Int),.int .i64 x.code,.int .u64 x.word,.bool x.bit] 79)).alloc (.cells #[.int .i64 (t:Int),.int .i64 (m.dn:Int),.int .i64 x.code,.int .u64 x.word,.bool x.bit,.bool true,.bool false,.bool false,.slice none 0 0] 81)).drew);unfold muV MU.zero at *;simpa[Int.natCast_add] using this
 ·exact(((aR (aR (aR (aR (aR (aR (aR (aR (Fr.refl [mb] w) (by simp) 3 _) (by simp) 4 _) (by simp) 5 _) (by simp) 6 _) (by simp) 7 _) (by simp) 8 _) (by simp) 9 _) (by simp) 10 _).alloc _).alloc _).drew
theorem nQ(h:Blk w mb 122 (muV hb t sb m))(s a:Int):Calls Tryz.prog 145 #[.pointer (some ⟨mb,0,none⟩),.int .i64 s,.int .i64 a] w λe w'=>e=.returned (bk 0 0 An.zero false true false (.slice none 0 0))/\Blk w' mb 122 (muV hb t sb { m with st:=s,ad:=a })/\Fr [mb] w w':=by
 have HB:=aa h;obtain⟨c0,c1,c2,c3,c4,c5,c6,c7,c8,c9,c10⟩:=aL h;have z9:=h.frozen 9;have z10:=h.frozen 10;have NM:=h.lt;clear h;unfold bk An.zero;go_enter Tryz.func145,Tryz.ntmps145
 go_wp2
 refine bodyPost_ret (v:=.agg #[.int .i64 0,.int .i64 0,.int .i64 0,.int .u64 0,.bool false,.bool false,.bool true,.bool false,.slice none 0 0]) (by simp[results,Tryz.results145,go_sem, *]) rfl ⟨rfl,?_,?_⟩
 ·have:=((HB.out.put 9 (.int .i64 s)).put 10 (.int .i64 a)).alloc (.cells #[.int .i64 0,.int .i64 0,.int .i64 0,.int .u64 0,.bool false,.bool false,.bool true,.bool false,.slice none 0 0] 81);unfold muV at *;simpa using this
 ·exact(aR (aR (Fr.refl [mb] w) (by simp) 9 _) (by simp) 10 _).alloc _
theorem oL(a0 a1 a2 a3 a4 a5 a6 a7 a8:Value)(w:World):(Instr.field 81 (.agg #[a0,a1,a2,a3,a4,a5,a6,a7,a8]) 0).run Tryz.prog w=.ok (.agg #[a0,a1,a2,a3,a4]) w:=by
 simp[Instr.field,Tryz.underlying81,run_underlying,Tryz.isAgg79,Tryz.sizeOf79,asAgg,go_sem]
theorem vv(h:Blk w mb 122 (muV hb t sb m))(hs:m.st=2)(hd:(m.dn:Int)+1<=9223372036854775807):Calls Tryz.prog 31 #[.pointer (some ⟨mb,0,none⟩)] w λe w'=>e=.returned (.tuple #[fG (t:Int) (m.dn:Int) ⟨16,0,false⟩,.int .i64 0])/\Blk w' mb 122 (muV hb t sb (MU.zero (m.dn+1)))/\Fr [mb] w w':=by
 obtain⟨c0,c1,c2,c3,c4,c5,c6,c7,c8,c9,c10⟩:=aL h;have NM:=h.lt;have hs2:(m.st !=2)=false:=by simpa using hs
 have HA:=aa (eB (h.alloc (.cells #[.int .i64 0,.int .i64 0,.int .i64 0,.int .u64 0,.bool false] 79)) hd 0 0 ⟨16,0,false⟩);have HZ:Hid (∀w',Fr [mb] (w.alloc (.cells #[.int .i64 0,.int .i64 0,.int .i64 0,.int .u64 0,.bool false] 79)) w'->Blk w' w.heap.size 79 #[.int .i64 0,.int .i64 0,.int .i64 0,.int .u64 0,.bool false]):=λw' hf=>(Blk.new w 79 #[.int .i64 0,.int .i64 0,.int .i64 0,.int .u64 0,.bool false]).fr hf (by simp;omega);have hfd:∀w',(Instr.field 81 (.agg #[.int .i64 (t:Int),.int .i64 (m.dn:Int),.int .i64 16,.int .u64 0,.bool false,.bool true,.bool false,.bool false,.slice none 0 0]) 0).run Tryz.prog w'=.ok (.agg #[.int .i64 (t:Int),.int .i64 (m.dn:Int),.int .i64 16,.int .u64 0,.bool false]) w':=λw'=>oL _ _ _ _ _ _ _ _ _ w';clear h;unfold bk at HA;unfold fG at HA ⊢;go_enter Tryz.func31,Tryz.ntmps31
 go_wp2_with (go_at_call 65;refine HA.out.mono ?_;rintro e w1 ⟨rfl,hb,hf⟩;have HB1:=aa hb;have HF1:=aa hf;have y0:=(HZ.out _ hf).cell 0;have y1:=(HZ.out _ hf).cell 1;have y2:=(HZ.out _ hf).cell 2;have y3:=(HZ.out _ hf).cell 3;have y4:=(HZ.out _ hf).cell 4;have x0:=(HZ.out _ hf).frozen 0;have x1:=(HZ.out _ hf).frozen 1;have x2:=(HZ.out _ hf).frozen 2;have x3:=(HZ.out _ hf).frozen 3;have x4:=(HZ.out _ hf).frozen 4;have N1:=(HZ.out _ hf).lt;clear hb hf)
 refine bodyPost_ret (v:=.tuple #[.agg #[.int .i64 (t:Int),.int .i64 (m.dn:Int),.int .i64 16,.int .u64 0,.bool false],.int .i64 0]) (by simp[results,Tryz.results31,go_sem, *]) rfl ⟨rfl,?_,?_⟩
 ·exact HB1.out.fr (F:=[w.heap.size]) ((Fr.refl _ _).jz (.inl (by simp)) _ _ _ _ _) (by simp;omega)
 ·exact(((Fr.refl [mb] w).alloc _).af HF1.out).jz (.inr (Nat.le_refl _)) _ _ _ _ _
end
section
variable {w:World}{mb hb t sb:Nat}{m:MU}{L:HL}{X:HX}{T:Nat}
def szE(M:Nat)(o:Po):Int:=if aE M o.a o.b then 13 else 0
def szN(M:Nat)(o:Po):Int:=if aE M o.a o.b then 0 else 1+o.a+o.b
theorem hJ(h:Blk w mb 122 (muV L.hb t sb m)){g:Geo}(hc:fx w L X g T){M:Nat}(hM:g.max=(M:Int))(hM2:M<=1048576)(o:Po)(ho:dB o) :
  Calls Tryz.prog 142 #[.pointer (some ⟨mb,0,none⟩),opV o] w λe w'=>e=.returned (.tuple #[.int .i64 (szN M o),.int .i64 (szE M o)])/\Fr [] w w':=by
 obtain⟨c0,c1,c2,c3,c4,c5,c6,c7,c8,c9,c10⟩:=aL h;have k19:=hc.c19;have NH:=hc.lt;have NM:=h.lt;rw[hM]at k19;obtain⟨ka,kb⟩:=ho;have HFr:Hid (∀o,Fr [] w (w.alloc o)):=λo=>(Fr.refl _ _).alloc _;clear h hc c2 c3 c4 c5 c6 c7 c8 c9 c10 c1;unfold opV;by_cases h1:o.a<0
 ·have d1:decide (o.a<0)=true:=by simpa using h1
  rw[show szN M o=0 by unfold szN;rw[if_pos (by unfold aE;omega)],show szE M o=13 by unfold szE;rw[if_pos (by unfold aE;omega)]];go_enter Tryz.func142,Tryz.ntmps142
  go_wp2
  go_quiet (fail)
  go_wp2_with fail
  go_ret2
  exact⟨rfl,(HFr.out _).drewN _⟩
 ·have d1:decide (o.a<0)=false:=by simpa using h1
  by_cases h2:o.b<0
  ·have d2:decide (o.b<0)=true:=by simpa using h2
   rw[show szN M o=0 by unfold szN;rw[if_pos (by unfold aE;omega)],show szE M o=13 by unfold szE;rw[if_pos (by unfold aE;omega)]];clear h1 h2;go_enter Tryz.func142,Tryz.ntmps142
   go_wp2
   go_quiet (fail)
   go_wp2_with fail
   go_ret2
   exact⟨rfl,(HFr.out _).drewN _⟩
  ·have d2:decide (o.b<0)=false:=by simpa using h2
   have hw:IntKind.i64.wrap ((M:Int)-o.a)=(M:Int)-o.a:=IntWalk.i64_in _ ⟨by omega,by omega⟩;by_cases h3:o.b>=(M:Int)-o.a
   ·have d3:decide (o.b>=(M:Int)-o.a)=true:=by simpa using h3
    have d3':decide ((M:Int)-o.a<=o.b)=true:=by simpa using h3
    rw[show szN M o=0 by unfold szN;rw[if_pos (by unfold aE;omega)],show szE M o=13 by unfold szE;rw[if_pos (by unfold aE;omega)]];clear h1 h2 h3;go_enter Tryz.func142,Tryz.ntmps142
    go_wp2
    go_quiet (fail)
    go_wp2_with fail
    go_ret2
    exact⟨rfl,(HFr.out _).drewN _⟩
   ·have d3:decide (o.b>=(M:Int)-o.a)=false:=by simpa using h3
    have d3':decide ((M:Int)-o.a<=o.b)=false:=by simpa using h3
    have hw2:IntKind.i64.wrap (o.a+o.b)=o.a+o.b:=IntWalk.i64_in _ ⟨by omega,by omega⟩;by_cases h4:o.a+o.b=0
    ·have h4':(o.a+o.b==0)=true:=by simpa using h4
     rw[show szN M o=0 by unfold szN;rw[if_pos (by unfold aE;omega)],show szE M o=13 by unfold szE;rw[if_pos (by unfold aE;omega)]];clear h1 h2 h3 h4;go_enter Tryz.func142,Tryz.ntmps142
     go_wp2
     go_quiet (fail)
     go_wp2_with fail
     go_ret2
     exact⟨rfl,(HFr.out _).drewN _⟩
    ·have h4':(o.a+o.b==0)=false:=by simpa using h4
     have hw3:IntKind.i64.wrap (1+o.a)=1+o.a:=IntWalk.i64_in _ ⟨by omega,by omega⟩;have hw4:IntKind.i64.wrap (1+o.a+o.b)=1+o.a+o.b:=IntWalk.i64_in _ ⟨by omega,by omega⟩;rw[show szN M o=1+o.a+o.b by unfold szN;rw[if_neg (by unfold aE;omega)],show szE M o=0 by unfold szE;rw[if_neg (by unfold aE;omega)]];clear h1 h2 h3 h4;go_enter Tryz.func142,Tryz.ntmps142
     go_wp2
     go_quiet (fail)
     go_wp2_with fail
     go_ret2
     exact⟨rfl,(HFr.out _).drewN _⟩
theorem bX{h:HS}{s k:Nat}(hB:Blk w mb 122 (muV L.hb t sb m))(hr:Hr w L h s k)(ht:t<h.T) :
  Calls Tryz.prog 106 #[.pointer (some ⟨mb,0,none⟩)] w λe w'=>e=.returned (.pointer (some ⟨L.S t,0,none⟩))/\Fr [] w w':=by
 obtain⟨c0,c1,c2,c3,c4,c5,c6,c7,c8,c9,c10⟩:=aL hB;have k27:w.cell? ⟨L.hb,27,none⟩=some (.slice L.rA h.T L.rc):=hr.st.cell 27;have NH:=hr.st.lt;have NM:=hB.lt;obtain⟨gb,go,hA,hG,NG,hcell,hfz,_⟩:=hr.row.pos (by omega);have hci:w.cell? ⟨gb,go+t,none⟩=some (.pointer (some ⟨L.S t,0,none⟩)):=by
  rw[hcell t ht];unfold jF;simp[ht]
 rw[hA]at k27;have ht1:(t:Int)<(h.T:Int):=by omega
 have hfr:Hid (∀i,Fr [] w (w.drewN i)):=λi=>(Fr.refl _ _).drewN _;clear hB hr hcell hfz c2 c3 c4 c5 c6 c7 c8 c9 c10;go_enter Tryz.func106,Tryz.ntmps106
 go_wp2
 go_quiet (fail)
 go_wp2_with fail
 go_ret
 exact⟨rfl,hfr.out _⟩
end
end Go.Proofs.YtimkofiempcfdaaGreatDoor
