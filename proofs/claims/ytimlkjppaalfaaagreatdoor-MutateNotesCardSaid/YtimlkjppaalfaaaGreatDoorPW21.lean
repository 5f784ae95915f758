/- Several texts joined (pack.py): Ya Gz Ua Ub Uc. -/
import Derived.Test.YtimlkjppaalfaaaGreatDoorPW20
import Derived.Test.YtimlkjppaalfaaaGreatDoorPW03
import Derived.WalkKit
import Derived.BigQuiet
import Derived.Deep.RegionLaw
import Derived.Deep.AppendLies
import Derived.Deep.CutRange
import Derived.Deep.RegionHeld3
set_option linter.unusedVariables false
set_option linter.unusedSimpArgs false
set_option maxHeartbeats 1600000
set_option maxRecDepth 100000
open List renaming mem_cons_of_mem->CZ,mem_cons->C1
namespace Go.Proofs.YtimlkjppaalfaaaGreatDoor
open Go.RowKit Go.Gl
structure ah(D:Nat->Prop)(Q:World->Prop):Prop where
 stay:∀w w' F,Q w->Fr F w w'->(∀b,b∈F->¬ D b)->Q w'
 lt:∀w,Q w->∀b,D b->b<w.heap.size
theorem ah.none:ah (λ_=>False) (λ_=>True):=⟨λ_ _ _ _ _ _=>trivial,λ_ _ _ h=>h.elim⟩
def HM(W w:World)(L:HL)(X:HX)(h:HS)(x:HT)(s k:Nat)(E:aK)(D:Nat->Prop)(Q:World->Prop):Prop:=
 ∃own,cK W w L X own h x s k/\(∀q,q∈E->Blk w q.1 q.2.1 q.2.2/\own q.1=0/\W.heap.size<=q.1/\¬ D q.1)/\(∀b,D b->own b=0/\W.heap.size<=b)/\Q w
section
variable {W w w':World}{L L':HL}{X:HX}{tg tg':Tg}{own own':Nat->Nat}{FS FS':Nat->List Nat}{h h':HS}{x x':HT}{s k:Nat}{E:aK}{F:List Nat}{D:Nat->Prop}{Q:World->Prop}
theorem HM.toE(H:HM W w L X h x s k E D Q):HE W w L X h x s k E:=by
 obtain⟨own,h1,h2,_⟩:=H;exact⟨own,h1,λq hq=>⟨(h2 q hq).1,(h2 q hq).2.1,(h2 q hq).2.2.1⟩⟩
theorem HM.q(H:HM W w L X h x s k E D Q):Q w:=by
 obtain⟨own,h1,h2,h3,h4⟩:=H;exact h4
theorem HM.fr0(hS:ah D Q)(H:HM W w L X h x s k E D Q)(hf:Fr [] w w'):HM W w' L X h x s k E D Q:=by
 obtain⟨own,h1,h2,h3,h4⟩:=H;exact⟨own,h1.fr0 hf,λq hq=>⟨(h2 q hq).1.fr hf (by simp),(h2 q hq).2⟩,h3,hS.stay w w' [] h4 hf (λb hb=>by cases hb)⟩
theorem HM.blk(H:HM W w L X h x s k E D Q){b:Nat}{t:TypeId}{cs:Array Value}(hq:(b,t,cs)∈E):Blk w b t cs:=H.toE.blk hq
theorem HM.sub{E':aK}(H:HM W w L X h x s k E D Q)(hs:∀q,q∈E'->q∈E):HM W w L X h x s k E' D Q:=by
 obtain⟨own,h1,h2,h3⟩:=H;exact⟨own,h1,λq hq=>h2 q (hs q hq),h3⟩
theorem HM.fr(H:HM W w L X h x s k E D Q):Fr [] W w:=H.toE.fr
theorem HM.hr(H:HM W w L X h x s k E D Q):Hr w L h s k:=H.toE.hr
theorem HM.ok(H:HM W w L X h x s k E D Q):h.Ok s k:=H.hr.ok
theorem HM.new(hS:ah D Q)(H:HM W w L X h x s k E D Q)(hf:Fr [] w w'){b:Nat}{t:TypeId}{cs:Array Value}(hb:Blk w' b t cs)(hb2:w.heap.size<=b):HM W w' L X h x s k ((b,t,cs)::E) D Q:=by
 obtain⟨own,h1,h2,h3,h4⟩:=H;have hsz:=h1.fr.size;have h0:own b=0:=by
  obtain⟨tg,FS,H,_⟩:=h1;by_cases e:own b=0
  ·exact e
  ·have:=H.lt b e;omega
 refine⟨own,h1.fr0 hf,λq hq=>?_,h3,hS.stay w w' [] h4 hf (λb hb=>by cases hb)⟩;rcases C1.1 hq with rfl|hq
 ·exact⟨hb,h0,by show W.heap.size<=b;omega,λhd=>by have:=hS.lt w h4 b hd;omega⟩
 ·exact⟨(h2 q hq).1.fr hf (by simp),(h2 q hq).2⟩
theorem HM.alloc(hS:ah D Q)(H:HM W w L X h x s k E D Q)(t:TypeId)(cs:Array Value):HM W (w.alloc (.cells cs t)) L X h x s k ((w.heap.size,t,cs)::E) D Q:=
 H.new hS ((Fr.refl _ _).alloc _) (Blk.new _ _ _) (Nat.le_refl _)
theorem HM.l7(hS:ah D Q)(hT:Tab W){b:Nat}{t:TypeId}{cs cs':Array Value}(H:HM W w L X h x s k ((b,t,cs)::E) D Q)(hf:Fr [b] w w')(hb:Blk w' b t cs')(hne:∀q,q∈E->q.1≠b):HM W w' L X h x s k ((b,t,cs')::E) D Q:=by
 obtain⟨own,h1,h2,h3,h4⟩:=H;obtain⟨k1,k2,k3,k4⟩:=h2 _ (List.mem_cons_self ..);have hlt:=hT.lt;have k3:W.heap.size<=b:=k3;refine⟨own,h1.other hf (λy hy=>?_) (by simp;omega),λq hq=>?_,h3,hS.stay w w' [b] h4 hf (λy hy=>by simp at hy;subst hy;exact k4)⟩
 ·simp at hy;subst hy;exact⟨k2,k3⟩
 ·rcases C1.1 hq with rfl|hq
  ·exact⟨hb,k2,k3,k4⟩
  ·exact⟨(h2 q (CZ _ hq)).1.fr hf (by have:=hne q hq;simpa using this),(h2 q (CZ _ hq)).2⟩
theorem HM.post(hS:ah D Q){f:FuncId}{args:Array Value}{v:Value}(H:HM W w L X h x s k E D Q)(hc:∀own,cK W w L X own h x s k->Calls Tryz.prog f args w (ip W w L X own h' x' s k v)) :
  Calls Tryz.prog f args w λe w'=>e=.returned v/\HM W w' L X h' x' s k E D Q:=by
 obtain⟨own,h1,h2,h3,h4⟩:=H;refine(hc own h1).mono ?_;rintro e w' ⟨own',rfl,g1,g2⟩;refine⟨rfl,own',g1,λq hq=>?_,λb hb=>⟨(g2.2 b (hS.lt w h4 b hb)).trans (h3 b hb).1,(h3 b hb).2⟩,?_⟩
 ·obtain⟨k1,k2,k3,k4⟩:=h2 q hq;obtain⟨j1,j2⟩:=g2.blk k1 k2;exact⟨j1,j2,k3,k4⟩
 ·obtain⟨⟨F,f1,f2⟩,_⟩:=g2;exact hS.stay w w' F h4 f1 (λb hb hd=>f2 b hb (h3 b hd).1)
theorem HM.of(hS:ah D Q)(hE:∀q,q∈E->Blk w q.1 q.2.1 q.2.2/\own q.1=0/\W.heap.size<=q.1/\¬ D q.1)(hD:∀b,D b->own b=0/\W.heap.size<=b)(hQ:Q w)(hw:Hw w' L' X tg' own' FS' h' x' s k)(h1:Fr [] W w)(h2:∀b,own b≠0->W.heap.size<=b)
  (hf:Fr F w w') (hF:∀b,b∈F->own b≠0) (h3:∀b,own' b≠0->own b≠0\/w.heap.size<=b) (hu:∀b,b<w.heap.size->own' b=own b):HM W w' L' X h' x' s k E D Q:=by
 have hsz:=h1.size;refine⟨own',⟨tg',FS',hw,h1.trans hf (λb hb=>.inr (h2 b (hF b hb))),λb hb=>?_⟩,λq hq=>?_,λb hb=>⟨(hu b (hS.lt w hQ b hb)).trans (hD b hb).1,(hD b hb).2⟩,hS.stay w w' F hQ hf (λb hb hd=>hF b hb (hD b hd).1)⟩
 ·rcases h3 b hb with h4|h4
  ·exact h2 b h4
  ·omega
 ·obtain⟨k1,k2,k3,k4⟩:=hE q hq;exact⟨k1.fr hf (λhx=>hF _ hx k2),(hu _ k1.lt).trans k2,k3,k4⟩
theorem HM.of'(hS:ah D Q)(hE:∀q,q∈E->Blk w q.1 q.2.1 q.2.2/\own q.1=0/\W.heap.size<=q.1/\¬ D q.1)(hD:∀b,D b->own b=0/\W.heap.size<=b)(hQ:Q w)(hw:Hw w' L' X tg' own FS' h' x' s k)(h1:Fr [] W w)(h2:∀b,own b≠0->W.heap.size<=b)
  (hf:Fr F w w') (hF:∀b,b∈F->own b≠0):HM W w' L' X h' x' s k E D Q:=HM.of hS hE hD hQ hw h1 h2 hf hF (λb hb=>.inl hb) (λ_ _=>rfl)
theorem Hw.Cj(H:Hw w L X tg own FS h x s k):∀b,b∈[L.sb,L.pb,L.mb]->own b=3:=λb hb=>by
 simp at hb;rcases hb with rfl|rfl|rfl
 ·exact H.o3.2.1
 ·exact H.o3.2.2.1
 ·exact H.o3.2.2.2
theorem HM.x9(hS:ah D Q)(H:HM W w L X h x s k E D Q){r:Nat}(hr:r<h.R)(hs:dB (h.s r)){c:Int}(hc1:((r*h.W:Nat):Int)<=c)(hc2:c<=((r*h.W+h.W:Nat):Int)) :
  Calls Tryz.prog 159 #[.pointer (some ⟨L.tb,0,none⟩),.int .i64 (r:Int),.int .i64 c] w λe w'=>e=.returned (.int .i64 0)/\HM W w' L X { h with t:=ak h.t r c } x s k E D Q:=by
 obtain⟨own,⟨tg,FS,H,h1,h2⟩,hE,hD,hQ⟩:=H;refine(uy H.rg hr hs hc1 hc2).mono ?_;rintro e w' ⟨rfl,hg,hf⟩;exact⟨rfl,HM.of' hS hE hD hQ (H.xZ hf H.Cj hg) h1 h2 hf (λb hb=>by rw[H.Cj b hb];decide)⟩
theorem Hw.Ck(H:Hw w L X tg own FS h x s k):∀b,b∈[X.cr]->own b=5:=λb hb=>by
 simp at hb;subst hb;exact H.o5.2.2
theorem HM.ya(hS:ah D Q)(H:HM W w L X h x s k E D Q)(i:Int) :
  Calls Tryz.prog 97 #[.pointer (some ⟨X.cb,0,none⟩),.int .i64 i] w λe w'=>∃c er C',e=.returned (.tuple #[.bool c,.int .i64 er])/\Turned x.C (h.R*x.per) i true c er C'/\HM W w' L X h { x with C:=C' } s k E D Q:=by
 obtain⟨own,⟨tg,FS,H,h1,h2⟩,hE,hD,hQ⟩:=H;refine(rT H.ct i).mono ?_;rintro e w' ⟨c,er,M',rfl,hg,hf,hb⟩;exact⟨c,er,M',rfl,hb,HM.of' hS hE hD hQ (H.aF hf H.Ck hg) h1 h2 hf (λb hb=>by rw[H.Ck b hb];decide)⟩
theorem HM.see(hS:ah D Q)(H:HM W w L X h x s k E D Q){f:FuncId}{args:Array Value}{P:Ending->World->Prop}(hc:∀own,(∃tg FS,Hw w L X tg own FS h x s k)->Calls Tryz.prog f args w λe w'=>P e w'/\Fr [] w w') :
  Calls Tryz.prog f args w λe w'=>P e w'/\HM W w' L X h x s k E D Q:=by
 have H0:=H;obtain⟨own,⟨tg,FS,H1,h1,h2⟩,hE⟩:=H;refine(hc own ⟨tg,FS,H1⟩).mono ?_;rintro e w' ⟨hp,hf⟩;exact⟨hp,H0.fr0 hS hf⟩
theorem HM.state(hS:ah D Q)(H:HM W w L X h x s k E D Q)(a:Int) :
  Calls Tryz.prog 28 #[.pointer (some ⟨L.tb,0,none⟩),.int .i64 a] w λe w'=>e=.returned (.int .i64 (h.aN a))/\HM W w' L X h x s k E D Q:=
 H.see hS λown ⟨tg,FS,H⟩=>(ji H.hr a).mono (by rintro e w' ⟨rfl,rfl⟩;exact⟨rfl,Fr.refl _ _⟩)
theorem HM.base(hS:ah D Q)(H:HM W w L X h x s k E D Q)(a:Int):Calls Tryz.prog 58 #[.agg #[.int .i64 h.g.words,.int .i64 h.g.rw,.int .i64 h.g.cw,.int .i64 h.g.regions,.int .i64 h.g.aF,.int .i64 h.g.max],.int .i64 a] w λe w'=>e=.returned (.tuple #[.int .i64 (if 0<=a/\a<(h.R:Int) then a*(h.W:Int) else 0),.int .i64 (if 0<=a/\a<(h.R:Int) then 0 else 2)])/\HM W w' L X h x s k E D Q:=
 H.see hS λown ⟨tg,FS,H⟩=>(H.hr.base a (Fr.refl _ _))
theorem HM.region(hS:ah D Q)(H:HM W w L X h x s k E D Q)(a:Int):Calls Tryz.prog 68 #[.agg #[.int .i64 h.g.words,.int .i64 h.g.rw,.int .i64 h.g.cw,.int .i64 h.g.regions,.int .i64 h.g.aF,.int .i64 h.g.max],.int .i64 a] w λe w'=>e=.returned (.int .i64 (h.g.av a))/\HM W w' L X h x s k E D Q:=
 H.see hS λown ⟨tg,FS,H⟩=>(H.hr.region a (Fr.refl _ _))
theorem HM.Cl(hS:ah D Q)(H:HM W w L X h x s k E D Q)(a:Int):Calls Tryz.prog 11 #[.agg #[.int .i64 h.g.words,.int .i64 h.g.rw,.int .i64 h.g.cw,.int .i64 h.g.regions,.int .i64 h.g.aF,.int .i64 h.g.max],.int .i64 a] w λe w'=>e=.returned (.int .i64 (h.g.aV a))/\HM W w' L X h x s k E D Q:=
 H.see hS λown ⟨tg,FS,H'⟩=>H.toE.card a
theorem HM.cells(H:HM W w L X h x s k E D Q):w.cell? ⟨L.hb,20,none⟩=some (.pointer (some ⟨L.ab,0,none⟩))/\w.cell? ⟨L.hb,21,none⟩=some (.pointer (some ⟨L.tb,0,none⟩))/\w.cell? ⟨L.hb,22,none⟩=some (.pointer (some ⟨X.ob,0,none⟩)) /\
  w.cell? ⟨L.hb,23,none⟩=some (.pointer (some ⟨X.cb,0,none⟩))/\w.cell? ⟨L.hb,24,none⟩=some (.pointer (some ⟨X.qb,0,none⟩))/\w.cell? ⟨L.hb,25,none⟩=some (.pointer (some ⟨X.zb,0,none⟩))/\w.cell? ⟨L.hb,26,none⟩=some (.pointer (some ⟨X.mb,0,none⟩)) /\
  w.cell? ⟨L.hb,27,none⟩=some (.slice L.rA h.T L.rc)/\w.cell? ⟨L.hb,28,none⟩=some (.slice (some ⟨L.bb,0,none⟩) h.T h.T):=by
 obtain⟨own,⟨tg,FS,H,_⟩,_⟩:=H;have c0:=H.st.cell 20;have c1:=H.st.cell 21;have c2:=H.st.cell 22;have c3:=H.st.cell 23;have c4:=H.st.cell 24;have c5:=H.st.cell 25;have c6:=H.st.cell 26;have c7:=H.st.cell 27;have c8:=H.st.cell 28;refine⟨c0,c1,?_,?_,?_,?_,?_,c7,c8⟩
 ·rw[<- H.vo];exact c2
 ·rw[<- H.vc];exact c3
 ·rw[<- H.vq];exact c4
 ·rw[<- H.vs];exact c5
 ·rw[<- H.vm];exact c6
structure fG(w:World)(L:HL)(X:HX)(g:Geo)(T:Nat):Prop where
 c14:w.cell? ⟨L.hb,14,none⟩=some (.int .i64 g.words)
 c15:w.cell? ⟨L.hb,15,none⟩=some (.int .i64 g.rw)
 c16:w.cell? ⟨L.hb,16,none⟩=some (.int .i64 g.cw)
 c17:w.cell? ⟨L.hb,17,none⟩=some (.int .i64 g.regions)
 c18:w.cell? ⟨L.hb,18,none⟩=some (.int .i64 g.aF)
 c19:w.cell? ⟨L.hb,19,none⟩=some (.int .i64 g.max)
 c20:w.cell? ⟨L.hb,20,none⟩=some (.pointer (some ⟨L.ab,0,none⟩))
 c21:w.cell? ⟨L.hb,21,none⟩=some (.pointer (some ⟨L.tb,0,none⟩))
 c22:w.cell? ⟨L.hb,22,none⟩=some (.pointer (some ⟨X.ob,0,none⟩))
 c23:w.cell? ⟨L.hb,23,none⟩=some (.pointer (some ⟨X.cb,0,none⟩))
 c24:w.cell? ⟨L.hb,24,none⟩=some (.pointer (some ⟨X.qb,0,none⟩))
 c25:w.cell? ⟨L.hb,25,none⟩=some (.pointer (some ⟨X.zb,0,none⟩))
 c26:w.cell? ⟨L.hb,26,none⟩=some (.pointer (some ⟨X.mb,0,none⟩))
 c27:w.cell? ⟨L.hb,27,none⟩=some (.slice L.rA T L.rc)
 c28:w.cell? ⟨L.hb,28,none⟩=some (.slice (some ⟨L.bb,0,none⟩) T T)
 lt:L.hb<w.heap.size
theorem HM.hc(H:HM W w L X h x s k E D Q):fG w L X h.g h.T:=by
 obtain⟨a0,a1,a2,a3,a4,a5⟩:=H.hr.geo;obtain⟨b0,b1,b2,b3,b4,b5,b6,b7,b8⟩:=H.cells;exact⟨a0,a1,a2,a3,a4,a5,b0,b1,b2,b3,b4,b5,b6,b7,b8,af b0⟩
theorem HM.iE(hS:ah D Q)(H:HM W w L X h x s k E D Q){r:Nat}(hr:r<h.R):Calls Tryz.prog 58 #[.agg #[.int .i64 h.g.words,.int .i64 h.g.rw,.int .i64 h.g.cw,.int .i64 h.g.regions,.int .i64 h.g.aF,.int .i64 h.g.max],.int .i64 (r:Int)] w λe w'=>e=.returned (.tuple #[.int .i64 ((r*h.W:Nat):Int),.int .i64 0])/\HM W w' L X h x s k E D Q:=by
 have:=H.base hS (r:Int);have e:0<=(r:Int)/\(r:Int)<(h.R:Int):=by omega
 rw[if_pos e,if_pos e]at this;rw[Int.natCast_mul];exact this
theorem HM.dim(H:HM W w L X h x s k E D Q):cI h.g h.W h.R x.cw x.per:=H.toE.dim
end
theorem ot{w:World}{g o:Nat}{x y:Int}(c0:w.cell? ⟨g,o,none⟩=some (.int .i64 x))(c1:w.cell? ⟨g,o+1,none⟩=some (.int .i64 y))(h0:0<=x)(h1:x<=y)(h2:y<=4194304):Calls Tryz.prog 146 #[.pointer (some ⟨g,o,none⟩)] w λe w'=>e=.returned (.int .i64 (y-x))/\∃k,w'=w.drewN k:=by
 have e1:IntKind.i64.wrap (y-x)=y-x:=IntWalk.i64_in _ ⟨by omega,by omega⟩;clear h0 h1 h2;go_enter Tryz.func146,Tryz.ntmps146
 go_wp2_with fail
 go_quiet (fail)
 go_wp2
 go_ret
 exact⟨rfl,_,rfl⟩
theorem zV{w:World}{g o:Nat}{x y:Int}(c0:w.cell? ⟨g,o,none⟩=some (.int .i64 x))(c1:w.cell? ⟨g,o+1,none⟩=some (.int .i64 y)):Calls Tryz.prog 112 #[.pointer (some ⟨g,o,none⟩)] w λe w'=>e=.returned (.tuple #[.int .i64 x,.int .i64 y])/\∃k,w'=w.drewN k:=by
 go_enter Tryz.func112,Tryz.ntmps112
 go_wp2_with fail
 go_quiet (fail)
 go_wp2
 go_ret2
 exact⟨rfl,_,rfl⟩
theorem zW{w:World}{g o:Nat}{x y:Int}{cs:Array Value}(hb:Blk w g 215 cs)(c0:w.cell? ⟨g,o,none⟩=some (.int .i64 x))(c1:w.cell? ⟨g,o+1,none⟩=some (.int .i64 y)):Calls Tryz.prog 158 #[.pointer (some ⟨g,o,none⟩)] w λe w'=>e=.returned (.tuple #[.int .i64 x,.int .i64 y])/\Blk w' g 215 ((cs.setIfInBounds o (.int .i64 0)).setIfInBounds (o+1) (.int .i64 0))/\Fr [g] w w':=by
 have HB:=aa hb;have R:=aa (zV c0 c1);have z0:=hb.frozen o;have z1:=hb.frozen (o+1);clear hb;go_enter Tryz.func158,Tryz.ntmps158
 go_wp2_with (go_at_call 112;refine R.out.mono ?_;rintro e w' ⟨rfl,k,rfl⟩)
 go_ret2
 have hq:Blk (w.drewN k) g 215 cs:=HB.out;exact⟨rfl,(hq.put o (.int .i64 0)).put (o+1) (.int .i64 0),((((Fr.refl _ _).drewN _).setCell (p:=⟨g,o,none⟩) (.inl (by simp)) _).setCell (p:=⟨g,o+1,none⟩) (.inl (by simp)) _)⟩
theorem zX{w:World}{g o:Nat}{x y n:Int}{cs:Array Value}(hb:Blk w g 215 cs)(c0:w.cell? ⟨g,o,none⟩=some (.int .i64 x))(c1:w.cell? ⟨g,o+1,none⟩=some (.int .i64 y))(h0:0<=x)(h1:x<=y)(h2:y<=4194304)(hn:1<=n)(hn2:n<=y-x) :
  Calls Tryz.prog 149 #[.pointer (some ⟨g,o,none⟩),.int .i64 n] w λe w'=>e=.returned (.tuple #[.int .i64 x,.int .i64 0])/\Blk w' g 215 (cs.setIfInBounds o (.int .i64 (x+n)))/\Fr [g] w w':=by
 have L:=aa (ot c0 c1 h0 h1 h2);have HB:=aa hb;have e1:IntKind.i64.wrap (x+n)=x+n:=IntWalk.i64_in _ ⟨by omega,by omega⟩;have g1:¬ n<1:=by omega
 have g2:¬ y-x<n:=by omega
 have z0:=hb.frozen o;clear hb h0 h1 h2 hn hn2;go_enter Tryz.func149,Tryz.ntmps149
 go_wp2_with (go_at_call 146;refine L.out.mono ?_;rintro e w' ⟨rfl,k,rfl⟩)
 go_ret2
 have hq:Blk (w.drewN k) g 215 cs:=HB.out;exact⟨rfl,hq.put o (.int .i64 (x+n)),((Fr.refl _ _).drewN _).setCell (p:=⟨g,o,none⟩) (.inl (by simp)) _⟩
theorem lH{w:World}{g o:Nat}{x y n:Int}(c0:w.cell? ⟨g,o,none⟩=some (.int .i64 x))(c1:w.cell? ⟨g,o+1,none⟩=some (.int .i64 y))(h0:0<=x)(h1:x<=y)(h2:y<=4194304)(hn:1<=n)(hn2:y-x<n) :
  Calls Tryz.prog 149 #[.pointer (some ⟨g,o,none⟩),.int .i64 n] w λe w'=>e=.returned (.tuple #[.int .i64 0,.int .i64 6])/\∃k,w'=w.drewN k:=by
 have L:=aa (ot c0 c1 h0 h1 h2);have g1:¬ n<1:=by omega
 clear h0 h1 h2 hn;go_enter Tryz.func149,Tryz.ntmps149
 go_wp2_with (go_at_call 146;refine L.out.mono ?_;rintro e w' ⟨rfl,k,rfl⟩)
 go_ret2
 exact⟨rfl,_,rfl⟩
theorem nE(T:Nat)(x y:Nat->Int):(eK T x y).size=T*2:=by
 unfold eK;rw[List.size_toArray,gu]
theorem jH(T:Nat)(x y:Nat->Int)(j:Nat):(eK T x y)[j]?=if j<T*2 then some (.int .i64 (if j % 2=0 then x (j / 2) else y (j / 2))) else none:=by
 unfold eK;rw[List.getElem?_toArray];by_cases hj:j<T*2
 ·rw[if_pos hj];obtain⟨a1,a2⟩:=jx (λi=>Value.int .i64 (x i)) (λi=>Value.int .i64 (y i)) (show j / 2<T by omega);by_cases h7:j % 2=0
  ·rw[if_pos h7];rw[show j / 2*2=j by omega]at a1;exact a1
  ·rw[if_neg h7];rw[show j / 2*2+1=j by omega]at a2;exact a2
 ·rw[if_neg hj,List.getElem?_eq_none (by rw[gu];omega)]
theorem j6(T:Nat)(x y:Nat->Int){i:Nat}(v:Int)(hi:i<T):(eK T x y).setIfInBounds (i*2) (.int .i64 v)=eK T (ak x i v) y:=by
 apply Array.ext_getElem?;intro j;rw[Array.getElem?_setIfInBounds,jH,jH,nE];unfold ak;by_cases e:i*2=j
 ·subst e;rw[if_pos rfl,if_pos (by omega),if_pos (by omega),if_pos (by omega),if_pos (by omega)]
 ·rw[if_neg e];by_cases hj:j<T*2
  ·rw[if_pos hj,if_pos hj];by_cases h7:j % 2=0
   ·rw[if_pos h7,if_pos h7,if_neg (by omega)]
   ·rw[if_neg h7,if_neg h7]
  ·rw[if_neg hj,if_neg hj]
theorem nF(T:Nat)(x y:Nat->Int){i:Nat}(v:Int)(hi:i<T):(eK T x y).setIfInBounds (i*2+1) (.int .i64 v)=eK T x (ak y i v):=by
 apply Array.ext_getElem?;intro j;rw[Array.getElem?_setIfInBounds,jH,jH,nE];unfold ak;by_cases e:i*2+1=j
 ·subst e;rw[if_pos rfl,if_pos (by omega),if_pos (by omega),if_neg (by omega),if_pos (by omega)]
 ·rw[if_neg e];by_cases hj:j<T*2
  ·rw[if_pos hj,if_pos hj];by_cases h7:j % 2=0
   ·rw[if_pos h7,if_pos h7]
   ·rw[if_neg h7,if_neg h7,if_neg (by omega)]
  ·rw[if_neg hj,if_neg hj]
section
variable {W w w':World}{L:HL}{X:HX}{tg:Tg}{own:Nat->Nat}{FS:Nat->List Nat}{h:HS}{x:HT}{s k:Nat}{E:aK}{F:List Nat}{D:Nat->Prop}{Q:World->Prop}
theorem Hw.buffer(H:Hw w L X tg own FS h x s k){bx be:Nat->Int}(hf:Fr [L.bb] w w')(hb:Blk w' L.bb 215 (eK h.T bx be))(hok:∀i,i<h.T->0<=bx i/\bx i<=be i/\be i<=4194304):Hw w' L X tg own FS { h with bx:=bx,be:=be } x s k:=by
 have r:=H.rest (own':=own) hf (λb hb=>by simp at hb;subst hb;exact H.o1.2.1) (by decide) (λ_ _=>rfl);exact⟨H.st.fr hf (by simp;exact H.st.apart H.buf (by decide)),r.r2 (by decide),r.r3 (by decide),H.row.fr hf (λg hg hx=>by simp at hx;subst hx;exact H.row.apart H.buf (by decide) hg),λi hi=>r.r9 i hi (by omega),hb,⟨H.ok.geo,H.ok.rw,H.ok.rg,H.ok.wd,H.ok.nn,H.ok.fok,H.ok.sok,H.ok.tok,H.ok.tm,hok,H.ok.rok,H.ok.uC⟩,r.rt,H.dim,r.r4 (by decide),r.r5 (by decide),r.r6 (by decide),r.r7 (by decide),r.r8 (by decide),H.vo,H.vc,H.vq,H.vs,H.vm,r.o1,r.o2,r.o3,r.o4,r.o5,r.o6,r.o7,r.o8,r.io,r.o0,λb hb=>Nat.lt_of_lt_of_le (H.lt b hb) hf.size⟩
theorem HM.buffer(hS:ah D Q)(H:HM W w L X h x s k E D Q){bx be:Nat->Int}(hf:Fr [L.bb] w w')(hb:Blk w' L.bb 215 (eK h.T bx be))(hok:∀i,i<h.T->0<=bx i/\bx i<=be i/\be i<=4194304):HM W w' L X { h with bx:=bx,be:=be } x s k E D Q:=by
 obtain⟨own,⟨tg,FS,H,h1,h2⟩,hE,hD,hQ⟩:=H;exact HM.of' hS hE hD hQ (H.buffer hf hb hok) h1 h2 hf (λb hb=>by simp at hb;subst hb;rw[H.o1.2.1];decide)
theorem HM.nZ(H:HM W w L X h x s k E D Q){i:Nat}(hi:i<h.T):w.cell? ⟨L.bb,i*2,none⟩=some (.int .i64 (h.bx i))/\w.cell? ⟨L.bb,i*2+1,none⟩=some (.int .i64 (h.be i)):=H.hr.nZ hi
theorem HM.Cm(hS:ah D Q)(H:HM W w L X h x s k E D Q){i:Nat}(hi:i<h.T) :
  Calls Tryz.prog 158 #[.pointer (some ⟨L.bb,i*2,none⟩)] w λe w'=>e=.returned (.tuple #[.int .i64 (h.bx i),.int .i64 (h.be i)])/\HM W w' L X { h with bx:=ak h.bx i 0,be:=ak h.be i 0 } x s k E D Q:=by
 obtain⟨b0,b1⟩:=H.nZ hi;refine(zW H.hr.buf b0 b1).mono ?_;rintro e w' ⟨rfl,hb,hf⟩;rw[j6 _ _ _ _ hi,nF _ _ _ _ hi]at hb;refine⟨rfl,H.buffer hS hf hb (λj hj=>?_)⟩;unfold ak;have:=H.ok.bok j hj;split <;> omega
theorem HM.AL(hS:ah D Q)(H:HM W w L X h x s k E D Q){i:Nat}(hi:i<h.T){n:Int}(hn:1<=n)(hn2:n<=h.be i-h.bx i) :
  Calls Tryz.prog 149 #[.pointer (some ⟨L.bb,i*2,none⟩),.int .i64 n] w λe w'=>e=.returned (.tuple #[.int .i64 (h.bx i),.int .i64 0])/\HM W w' L X { h with bx:=ak h.bx i (h.bx i+n) } x s k E D Q:=by
 obtain⟨b0,b1⟩:=H.nZ hi;obtain⟨o1,o2,o3⟩:=H.ok.bok i hi;refine(zX H.hr.buf b0 b1 o1 o2 o3 hn hn2).mono ?_;rintro e w' ⟨rfl,hb,hf⟩;rw[j6 _ _ _ _ hi]at hb;refine⟨rfl,H.buffer hS (be:=h.be) hf hb (λj hj=>?_)⟩;unfold ak;have:=H.ok.bok j hj;split
 ·rename_i e;subst e;omega
 ·omega
theorem HM.lH(hS:ah D Q)(H:HM W w L X h x s k E D Q){i:Nat}(hi:i<h.T){n:Int}(hn:1<=n)(hn2:h.be i-h.bx i<n) :
  Calls Tryz.prog 149 #[.pointer (some ⟨L.bb,i*2,none⟩),.int .i64 n] w λe w'=>e=.returned (.tuple #[.int .i64 0,.int .i64 6])/\HM W w' L X h x s k E D Q:=by
 obtain⟨b0,b1⟩:=H.nZ hi;obtain⟨o1,o2,o3⟩:=H.ok.bok i hi;refine(Go.Proofs.YtimlkjppaalfaaaGreatDoor.lH b0 b1 o1 o2 o3 hn hn2).mono ?_;rintro e w' ⟨rfl,q,rfl⟩;exact⟨rfl,H.fr0 hS ((Fr.refl _ _).drewN _)⟩
theorem HM.yb(hS:ah D Q)(H:HM W w L X h x s k E D Q){i:Nat}(hi:i<h.T) :
  Calls Tryz.prog 146 #[.pointer (some ⟨L.bb,i*2,none⟩)] w λe w'=>e=.returned (.int .i64 (h.be i-h.bx i))/\HM W w' L X h x s k E D Q:=by
 obtain⟨b0,b1⟩:=H.nZ hi;obtain⟨o1,o2,o3⟩:=H.ok.bok i hi;refine(ot b0 b1 o1 o2 o3).mono ?_;rintro e w' ⟨rfl,q,rfl⟩;exact⟨rfl,H.fr0 hS ((Fr.refl _ _).drewN _)⟩
end
theorem iN:∀(l:List Int) (a:Int),l.foldl min a=a\/l.foldl min a∈l
|[],a=>.inl rfl
|b::l,a=>by
  show l.foldl min (min a b)=a\/l.foldl min (min a b)∈b::l;rcases iN l (min a b)with h|h
  ·rw[h];rcases Int.le_total a b with h2|h2
   ·left;omega
   ·right;rw[show min a b=b by omega];simp
  ·right;simp[h]
theorem vb{l:List Int}(h:l≠[]):HS.f9 l∈l:=by
 cases l with
|nil=>exact absurd rfl h
|cons a l=>
  show l.foldl min a∈a::l;rcases iN l a with h|h
  ·rw[h];simp
  ·simp[h]
theorem lI{h:HS}{r:Int}{z:Int}:∀ {n:Nat},z∈h.bz r n->∃i,i<n/\z=h.bx i/\h.bx i<h.be i/\h.g.av (h.bx i)=r
|0,hz=>by cases hz
|n+1,hz=>by
  unfold HS.bz at hz;rcases List.mem_append.1 hz with hz|hz
  ·obtain⟨i,h1,h2⟩:=lI hz;exact⟨i,by omega,h2⟩
  ·split at hz
   ·rename_i hc
    simp only[List.mem_singleton]at hz;exact⟨n,by omega,hz,hc.1,hc.2⟩
   ·cases hz
theorem nG{h:HS}{r:Int}{i:Nat}(h1:h.bx i<h.be i)(h2:h.g.av (h.bx i)=r):∀ {n:Nat},i<n->h.bx i∈h.bz r n
|n+1,hn=>by
  unfold HS.bz;by_cases e:i=n
  ·subst e;rw[if_pos ⟨h1,h2⟩];simp
  ·exact List.mem_append_left _ (nG h1 h2 (by omega))
def HS.t6(h:HS):Prop:=∀i,i<h.T->h.bx i<h.be i->∃r,r<h.R/\dB (h.s r)/\((r*h.W:Nat):Int)<=h.bx i/\h.be i<=((r*h.W+h.W:Nat):Int)
section
variable {W w w':World}{L:HL}{X:HX}{h:HS}{x:HT}{s k:Nat}{E:aK}{D:Nat->Prop}{Q:World->Prop}
theorem HS.Ok.reg(ok:h.Ok s k){r:Nat}{a:Int}(hr:r<h.R)(h1:((r*h.W:Nat):Int)<=a)(h2:a<((r*h.W+h.W:Nat):Int)):h.g.av a=(r:Int):=by
 have hW:=ok.ik;have hb:=ok.bX hr;obtain⟨q,rfl⟩:=Int.eq_ofNat_of_zero_le (show 0<=a by omega);unfold Geo.av;rw[if_pos ⟨by omega,by rw[ok.wd];omega⟩,ok.rw];show(q:Int) / (h.W:Int)=_;rw[<- Int.natCast_ediv,BB (u:=q) (r:=r) (W:=h.W) (by omega) (by omega) (by omega)]
end
structure fc(T B M:Nat):Prop where
 t:T<=64
 b:B<=64
 m1:1<=M
 m:M<=1048576
theorem kU{st:Nat->List Int}{B:Nat}(h:∀t,(st t).length<=B)(r:Int):∀T,AW st T r<=T*B
|0=>Nat.zero_le _
|T+1=>by
  have h1:=kU h r T;have h2:(st T).count r<=B:=Nat.le_trans List.count_le_length (h T);simp only[AW];rw[Nat.succ_mul];omega
theorem ga{σ:GS}{t:Nat}{a:Int}:aD σ t a=0↔aG (σ.st t) a/\aj (σ.st t) a≠0:=by
 unfold aD
 repeat' split
 all_goals simp_all
theorem mX(σ:GS)(t:Nat)(a:Int):aD σ t a=0\/aD σ t a=12\/aD σ t a=10:=by
 unfold aD
 repeat' split
 all_goals simp
theorem jI{σ:GS}{t:Nat}{a:Int}(h:aD σ t a≠0):aj (σ.st t) a=0:=by
 by_cases hi:aG (σ.st t) a
 ·by_cases e:aj (σ.st t) a=0
  ·exact e
  ·exact absurd (ga.2 ⟨hi,e⟩) h
 ·unfold aj;rw[if_neg hi]
theorem dF(n:Nat)(b:Int):(b<0/\¬ aA n b)\/(0<=b/\(n:Int)<=b/\¬ aA n b)\/(0<=b/\b<(n:Int)/\aA n b):=by unfold aA;omega
def opV(o:Po):Value:=.agg #[.int .i64 o.k,.int .i64 o.a,.int .i64 o.b,.int .i64 o.c,.int .u64 o.v]
structure dH(o:Po):Prop where
 a:-9223372036854775808<=o.a/\o.a<=9223372036854775807
 b:-9223372036854775808<=o.b/\o.b<=9223372036854775807
def dK(th dn:Int)(x:An):Array Value:=#[.int .i64 th,.int .i64 dn,.int .i64 x.code,.int .u64 x.word,.bool x.bit]
theorem ve(B M T:Nat)(σ:GS)(t:Nat)(o:Po):bq B M T (σ.tick t) t o=bq B M T σ t o:=rfl
theorem Tryz.vf:(Tryz.prog.info? 203).map (λi=>(i.zero,i.size,i.bytes))=some (some (.agg #[.slice none 0 0,.slice none 0 0]),2,48):=by kernel_rfl
structure MU where
 dn:Nat
 k:Int
 a:Int
 b:Int
 c:Int
 v:Int
 st:Int
 ad:Int
def MU.zero(n:Nat):MU:=⟨n,0,0,0,0,0,0,0⟩
def muV(hb t sb:Nat)(m:MU):Array Value:=#[.pointer (some ⟨hb,0,none⟩),.int .i64 (t:Int),.pointer (some ⟨sb,0,none⟩),.int .i64 (m.dn:Int),.int .i64 m.k,.int .i64 m.a,.int .i64 m.b,.int .i64 m.c,.int .u64 m.v,.int .i64 m.st,.int .i64 m.ad]
def bm(th dn:Int)(x:An)(done busy want:Bool)(left:Value):Value:=.agg #[.int .i64 th,.int .i64 dn,.int .i64 x.code,.int .u64 x.word,.bool x.bit,.bool done,.bool busy,.bool want,left]
def An.zero:An:=⟨0,0,false⟩
section
variable {w:World}{mb hb t sb:Nat}{m:MU}
theorem aJ(h:Blk w mb 127 (muV hb t sb m)):w.cell? ⟨mb,0,none⟩=some (.pointer (some ⟨hb,0,none⟩))/\w.cell? ⟨mb,1,none⟩=some (.int .i64 (t:Int))/\w.cell? ⟨mb,2,none⟩=some (.pointer (some ⟨sb,0,none⟩))/\w.cell? ⟨mb,3,none⟩=some (.int .i64 (m.dn:Int))/\w.cell? ⟨mb,4,none⟩=some (.int .i64 m.k)/\w.cell? ⟨mb,5,none⟩=some (.int .i64 m.a)/\w.cell? ⟨mb,6,none⟩=some (.int .i64 m.b)/\w.cell? ⟨mb,7,none⟩=some (.int .i64 m.c)/\w.cell? ⟨mb,8,none⟩=some (.int .u64 m.v)/\w.cell? ⟨mb,9,none⟩=some (.int .i64 m.st)/\w.cell? ⟨mb,10,none⟩=some (.int .i64 m.ad):=
 ⟨h.cell 0,h.cell 1,h.cell 2,h.cell 3,h.cell 4,h.cell 5,h.cell 6,h.cell 7,h.cell 8,h.cell 9,h.cell 10⟩
theorem dZ(h:Blk w mb 127 (muV hb t sb m)):Calls Tryz.prog 17 #[.pointer (some ⟨mb,0,none⟩)] w λe w'=>e=.returned (.bool (m.st==0))/\w=w':=by
 obtain⟨c0,c1,c2,c3,c4,c5,c6,c7,c8,c9,c10⟩:=aJ h;clear h;go_enter Tryz.func17,Tryz.ntmps17
 go_wp2
 go_ret
 exact⟨rfl,rfl⟩
theorem aT{w w':World}{F:List Nat}{b:Nat}(hf:Fr F w w')(hb:b∈F)(i:Nat)(v:Value):Fr F w (w'.setCell ⟨b,i,none⟩ v):=hf.setCell (p:=⟨b,i,none⟩) (.inl hb) v
theorem lJ(h:Blk w mb 127 (muV hb t sb m))(hs:m.st=0)(o:Po):Calls Tryz.prog 18 #[.pointer (some ⟨mb,0,none⟩),opV o] w λe w'=>e=.returned (.int .i64 0)/\Blk w' mb 127 (muV hb t sb ⟨m.dn,o.k,o.a,o.b,o.c,o.v,1,0⟩)/\Fr [mb] w w':=by
 have HI:=aa (dZ (h.alloc (.cells #[.int .i64 o.k,.int .i64 o.a,.int .i64 o.b,.int .i64 o.c,.int .u64 o.v] 69)));rw[show(m.st==0)=true by simpa using hs]at HI;have hb:=h.alloc (.cells #[.int .i64 o.k,.int .i64 o.a,.int .i64 o.b,.int .i64 o.c,.int .u64 o.v] 69);have HB:=aa hb;obtain⟨c0,c1,c2,c3,c4,c5,c6,c7,c8,c9,c10⟩:=aJ hb;have z4:=hb.frozen 4;have z5:=hb.frozen 5;have z6:=hb.frozen 6;have z7:=hb.frozen 7;have z8:=hb.frozen 8;have z9:=hb.frozen 9;have z10:=hb.frozen 10;have NM:=hb.lt;clear h hs hb;unfold opV;go_enter Tryz.func18,Tryz.ntmps18
 go_wp2_with (go_at_call 17;refine HI.out.mono ?_;rintro e w' ⟨rfl,rfl⟩)
 go_ret
 refine⟨rfl,?_,?_⟩
 ·have:=((((((HB.out.put 4 (.int .i64 o.k)).put 5 (.int .i64 o.a)).put 6 (.int .i64 o.b)).put 7 (.int .i64 o.c)).put 8 (.int .u64 o.v)).put 9 (.int .i64 1)).put 10 (.int .i64 0);unfold muV at this ⊢;simpa using this
 ·exact aT (aT (aT (aT (aT (aT (aT (((Fr.refl [mb] w)).alloc _) (by simp) 4 _) (by simp) 5 _) (by simp) 6 _) (by simp) 7 _) (by simp) 8 _) (by simp) 9 _) (by simp) 10 _
end
section
variable {w:World}{mb hb t sb:Nat}{m:MU}
theorem fH(a:Nat)(ha:a<9223372036854775807)(w:World):Calls Tryz.prog 96 #[.int .i64 (a:Int)] w λe w'=>e=.returned (.int .u64 ((a:Int)+1))/\w=w':=by
 have e1:IntKind.u64.wrap ((a:Int))=(a:Int):=IntWalk.u64_in _ ⟨by omega,by omega⟩;have e2:IntKind.u64.wrap ((a:Int)+1)=(a:Int)+1:=IntWalk.u64_in _ ⟨by omega,by omega⟩;go_enter Tryz.func96,Tryz.ntmps96
 go_wp2
 go_ret
 exact⟨rfl,rfl⟩
theorem bp(a:Nat)(ha:a<9223372036854775807)(w:World):Calls Tryz.prog 150 #[.int .u64 ((a:Int)+1)] w λe w'=>e=.returned (.int .i64 (a:Int))/\w=w':=by
 have e1:IntKind.u64.wrap ((a:Int)+1-1)=(a:Int):=by rw[show(a:Int)+1-1=(a:Int)by omega];exact IntWalk.u64_in _ ⟨by omega,by omega⟩
 have e2:IntKind.i64.wrap (a:Int)=(a:Int):=IntWalk.i64_in _ ⟨by omega,by omega⟩;go_enter Tryz.func150,Tryz.ntmps150
 go_wp2
 go_ret
 exact⟨rfl,rfl⟩
theorem ey(h:Blk w mb 127 (muV hb t sb m))(hd:(m.dn:Int)+1<=9223372036854775807)(a0 a1:Int)(x:An):Calls Tryz.prog 52 #[.pointer (some ⟨mb,0,none⟩),gt a0 a1 x] w λe w'=>e=.returned (bm (t:Int) (m.dn:Int) x true false false (.slice none 0 0))/\Blk w' mb 127 (muV hb t sb (MU.zero (m.dn+1)))/\Fr [mb] w w':=by
 have hb1:=(h.alloc (.cells #[.int .i64 a0,.int .i64 a1,.int .i64 x.code,.int .u64 x.word,.bool x.bit] 71)).alloc (.cells #[.int .i64 0,.int .i64 0,.int .i64 0,.int .u64 0,.bool false,.bool false,.bool false,.bool false,.slice none 0 0] 73);have HB:=aa h;have e1:IntKind.i64.wrap ((m.dn:Int)+1)=(m.dn:Int)+1:=IntWalk.i64_in _ ⟨by omega,hd⟩;obtain⟨c0,c1,c2,c3,c4,c5,c6,c7,c8,c9,c10⟩:=aJ h;have z3:=h.frozen 3;have z4:=h.frozen 4;have z5:=h.frozen 5;have z6:=h.frozen 6;have z7:=h.frozen 7;have z8:=h.frozen 8;have z9:=h.frozen 9;have z10:=h.frozen 10;have NM:=h.lt;clear h hb1;unfold gt bm;go_enter Tryz.func52,Tryz.ntmps52
 go_wp2
 go_region
 all_goals
  go_wp2
 refine bodyPost_ret (v:=.agg #[.int .i64 (t:Int),.int .i64 (m.dn:Int),.int .i64 x.code,.int .u64 x.word,.bool x.bit,.bool true,.bool false,.bool false,.slice none 0 0]) (by simp[results,Tryz.results52,go_sem, *]) rfl ⟨rfl,?_,?_⟩
 ·have:=(((((((((((HB.out.put 3 (.int .i64 ((m.dn:Int)+1))).put 4 (.int .i64 0)).put 5 (.int .i64 0)).put 6 (.int .i64 0)).put 7 (.int .i64 0)).put 8 (.int .u64 0)).put 9 (.int .i64 0)).put 10 (.int .i64 0)).alloc (.cells #[.int .i64 (t:Int),.int .i64 (m.dn:Int),.int .i64 x.code,.int .u64 x.word,.bool x.bit] 71)).alloc (.cells #[.int .i64 (t:Int),.int .i64 (m.dn:Int),.int .i64 x.code,.int .u64 x.word,.bool x.bit,.bool true,.bool false,.bool false,.slice none 0 0] 73)).drew);unfold muV MU.zero at *;simpa[Int.natCast_add] using this
 ·exact(((aT (aT (aT (aT (aT (aT (aT (aT (Fr.refl [mb] w) (by simp) 3 _) (by simp) 4 _) (by simp) 5 _) (by simp) 6 _) (by simp) 7 _) (by simp) 8 _) (by simp) 9 _) (by simp) 10 _).alloc _).alloc _).drew
theorem nH(h:Blk w mb 127 (muV hb t sb m))(s a:Int):Calls Tryz.prog 127 #[.pointer (some ⟨mb,0,none⟩),.int .i64 s,.int .i64 a] w λe w'=>e=.returned (bm 0 0 An.zero false true false (.slice none 0 0))/\Blk w' mb 127 (muV hb t sb { m with st:=s,ad:=a })/\Fr [mb] w w':=by
 have HB:=aa h;obtain⟨c0,c1,c2,c3,c4,c5,c6,c7,c8,c9,c10⟩:=aJ h;have z9:=h.frozen 9;have z10:=h.frozen 10;have NM:=h.lt;clear h;unfold bm An.zero;go_enter Tryz.func127,Tryz.ntmps127
 go_wp2
 refine bodyPost_ret (v:=.agg #[.int .i64 0,.int .i64 0,.int .i64 0,.int .u64 0,.bool false,.bool false,.bool true,.bool false,.slice none 0 0]) (by simp[results,Tryz.results127,go_sem, *]) rfl ⟨rfl,?_,?_⟩
 ·have:=((HB.out.put 9 (.int .i64 s)).put 10 (.int .i64 a)).alloc (.cells #[.int .i64 0,.int .i64 0,.int .i64 0,.int .u64 0,.bool false,.bool false,.bool true,.bool false,.slice none 0 0] 73);unfold muV at *;simpa using this
 ·exact(aT (aT (Fr.refl [mb] w) (by simp) 9 _) (by simp) 10 _).alloc _
theorem ou(a0 a1 a2 a3 a4 a5 a6 a7 a8:Value)(w:World):(Instr.field 73 (.agg #[a0,a1,a2,a3,a4,a5,a6,a7,a8]) 0).run Tryz.prog w=.ok (.agg #[a0,a1,a2,a3,a4]) w:=by
 simp[Instr.field,Tryz.underlying73,run_underlying,Tryz.isAgg71,Tryz.sizeOf71,asAgg,go_sem]
theorem vg(h:Blk w mb 127 (muV hb t sb m))(hs:m.st=2)(hd:(m.dn:Int)+1<=9223372036854775807):Calls Tryz.prog 24 #[.pointer (some ⟨mb,0,none⟩)] w λe w'=>e=.returned (.tuple #[gt (t:Int) (m.dn:Int) ⟨16,0,false⟩,.int .i64 0])/\Blk w' mb 127 (muV hb t sb (MU.zero (m.dn+1)))/\Fr [mb] w w':=by
 obtain⟨c0,c1,c2,c3,c4,c5,c6,c7,c8,c9,c10⟩:=aJ h;have NM:=h.lt;have hs2:(m.st !=2)=false:=by simpa using hs
 have HA:=aa (ey (h.alloc (.cells #[.int .i64 0,.int .i64 0,.int .i64 0,.int .u64 0,.bool false] 71)) hd 0 0 ⟨16,0,false⟩);have HZ:Hid (∀w',Fr [mb] (w.alloc (.cells #[.int .i64 0,.int .i64 0,.int .i64 0,.int .u64 0,.bool false] 71)) w'->Blk w' w.heap.size 71 #[.int .i64 0,.int .i64 0,.int .i64 0,.int .u64 0,.bool false]):=λw' hf=>(Blk.new w 71 #[.int .i64 0,.int .i64 0,.int .i64 0,.int .u64 0,.bool false]).fr hf (by simp;omega);have hfd:∀w',(Instr.field 73 (.agg #[.int .i64 (t:Int),.int .i64 (m.dn:Int),.int .i64 16,.int .u64 0,.bool false,.bool true,.bool false,.bool false,.slice none 0 0]) 0).run Tryz.prog w'=.ok (.agg #[.int .i64 (t:Int),.int .i64 (m.dn:Int),.int .i64 16,.int .u64 0,.bool false]) w':=λw'=>ou _ _ _ _ _ _ _ _ _ w';clear h;unfold bm at HA;unfold gt at HA ⊢;go_enter Tryz.func24,Tryz.ntmps24
 go_wp2_with (go_at_call 52;refine HA.out.mono ?_;rintro e w1 ⟨rfl,hb,hf⟩;have HB1:=aa hb;have HF1:=aa hf;have y0:=(HZ.out _ hf).cell 0;have y1:=(HZ.out _ hf).cell 1;have y2:=(HZ.out _ hf).cell 2;have y3:=(HZ.out _ hf).cell 3;have y4:=(HZ.out _ hf).cell 4;have x0:=(HZ.out _ hf).frozen 0;have x1:=(HZ.out _ hf).frozen 1;have x2:=(HZ.out _ hf).frozen 2;have x3:=(HZ.out _ hf).frozen 3;have x4:=(HZ.out _ hf).frozen 4;have N1:=(HZ.out _ hf).lt;clear hb hf)
 refine bodyPost_ret (v:=.tuple #[.agg #[.int .i64 (t:Int),.int .i64 (m.dn:Int),.int .i64 16,.int .u64 0,.bool false],.int .i64 0]) (by simp[results,Tryz.results24,go_sem, *]) rfl ⟨rfl,?_,?_⟩
 ·exact HB1.out.fr (F:=[w.heap.size]) ((Fr.refl _ _).jq (.inl (by simp)) _ _ _ _ _) (by simp;omega)
 ·exact(((Fr.refl [mb] w).alloc _).ae HF1.out).jq (.inr (Nat.le_refl _)) _ _ _ _ _
end
section
variable {w:World}{mb hb t sb:Nat}{m:MU}{L:HL}{X:HX}{T:Nat}
def szE(M:Nat)(o:Po):Int:=if aE M o.a o.b then 13 else 0
def szN(M:Nat)(o:Po):Int:=if aE M o.a o.b then 0 else 1+o.a+o.b
theorem gT(h:Blk w mb 127 (muV L.hb t sb m)){g:Geo}(hc:fG w L X g T){M:Nat}(hM:g.max=(M:Int))(hM2:M<=1048576)(o:Po)(ho:dH o) :
  Calls Tryz.prog 124 #[.pointer (some ⟨mb,0,none⟩),opV o] w λe w'=>e=.returned (.tuple #[.int .i64 (szN M o),.int .i64 (szE M o)])/\Fr [] w w':=by
 obtain⟨c0,c1,c2,c3,c4,c5,c6,c7,c8,c9,c10⟩:=aJ h;have k19:=hc.c19;have NH:=hc.lt;have NM:=h.lt;rw[hM]at k19;obtain⟨ka,kb⟩:=ho;have HFr:Hid (∀o,Fr [] w (w.alloc o)):=λo=>(Fr.refl _ _).alloc _;clear h hc c2 c3 c4 c5 c6 c7 c8 c9 c10 c1;unfold opV;by_cases h1:o.a<0
 ·have d1:decide (o.a<0)=true:=by simpa using h1
  rw[show szN M o=0 by unfold szN;rw[if_pos (by unfold aE;omega)],show szE M o=13 by unfold szE;rw[if_pos (by unfold aE;omega)]];go_enter Tryz.func124,Tryz.ntmps124
  go_wp2
  go_quiet (fail)
  go_wp2_with fail
  go_ret2
  exact⟨rfl,(HFr.out _).drewN _⟩
 ·have d1:decide (o.a<0)=false:=by simpa using h1
  by_cases h2:o.b<0
  ·have d2:decide (o.b<0)=true:=by simpa using h2
   rw[show szN M o=0 by unfold szN;rw[if_pos (by unfold aE;omega)],show szE M o=13 by unfold szE;rw[if_pos (by unfold aE;omega)]];clear h1 h2;go_enter Tryz.func124,Tryz.ntmps124
   go_wp2
   go_quiet (fail)
   go_wp2_with fail
   go_ret2
   exact⟨rfl,(HFr.out _).drewN _⟩
  ·have d2:decide (o.b<0)=false:=by simpa using h2
   have hw:IntKind.i64.wrap ((M:Int)-o.a)=(M:Int)-o.a:=IntWalk.i64_in _ ⟨by omega,by omega⟩;by_cases h3:o.b>=(M:Int)-o.a
   ·have d3:decide (o.b>=(M:Int)-o.a)=true:=by simpa using h3
    have d3':decide ((M:Int)-o.a<=o.b)=true:=by simpa using h3
    rw[show szN M o=0 by unfold szN;rw[if_pos (by unfold aE;omega)],show szE M o=13 by unfold szE;rw[if_pos (by unfold aE;omega)]];clear h1 h2 h3;go_enter Tryz.func124,Tryz.ntmps124
    go_wp2
    go_quiet (fail)
    go_wp2_with fail
    go_ret2
    exact⟨rfl,(HFr.out _).drewN _⟩
   ·have d3:decide (o.b>=(M:Int)-o.a)=false:=by simpa using h3
    have d3':decide ((M:Int)-o.a<=o.b)=false:=by simpa using h3
    have hw2:IntKind.i64.wrap (o.a+o.b)=o.a+o.b:=IntWalk.i64_in _ ⟨by omega,by omega⟩;by_cases h4:o.a+o.b=0
    ·have h4':(o.a+o.b==0)=true:=by simpa using h4
     rw[show szN M o=0 by unfold szN;rw[if_pos (by unfold aE;omega)],show szE M o=13 by unfold szE;rw[if_pos (by unfold aE;omega)]];clear h1 h2 h3 h4;go_enter Tryz.func124,Tryz.ntmps124
     go_wp2
     go_quiet (fail)
     go_wp2_with fail
     go_ret2
     exact⟨rfl,(HFr.out _).drewN _⟩
    ·have h4':(o.a+o.b==0)=false:=by simpa using h4
     have hw3:IntKind.i64.wrap (1+o.a)=1+o.a:=IntWalk.i64_in _ ⟨by omega,by omega⟩;have hw4:IntKind.i64.wrap (1+o.a+o.b)=1+o.a+o.b:=IntWalk.i64_in _ ⟨by omega,by omega⟩;rw[show szN M o=1+o.a+o.b by unfold szN;rw[if_neg (by unfold aE;omega)],show szE M o=0 by unfold szE;rw[if_neg (by unfold aE;omega)]];clear h1 h2 h3 h4;go_enter Tryz.func124,Tryz.ntmps124
     go_wp2
     go_quiet (fail)
     go_wp2_with fail
     go_ret2
     exact⟨rfl,(HFr.out _).drewN _⟩
theorem cn{h:HS}{s k:Nat}(hB:Blk w mb 127 (muV L.hb t sb m))(hr:Hr w L h s k)(ht:t<h.T) :
  Calls Tryz.prog 89 #[.pointer (some ⟨mb,0,none⟩)] w λe w'=>e=.returned (.pointer (some ⟨L.S t,0,none⟩))/\Fr [] w w':=by
 obtain⟨c0,c1,c2,c3,c4,c5,c6,c7,c8,c9,c10⟩:=aJ hB;have k27:w.cell? ⟨L.hb,27,none⟩=some (.slice L.rA h.T L.rc):=hr.st.cell 27;have NH:=hr.st.lt;have NM:=hB.lt;obtain⟨gb,go,hA,hG,NG,hcell,hfz,_⟩:=hr.row.pos (by omega);have hci:w.cell? ⟨gb,go+t,none⟩=some (.pointer (some ⟨L.S t,0,none⟩)):=by
  rw[hcell t ht];unfold jz;simp[ht]
 rw[hA]at k27;have ht1:(t:Int)<(h.T:Int):=by omega
 have hfr:Hid (∀i,Fr [] w (w.drewN i)):=λi=>(Fr.refl _ _).drewN _;clear hB hr hcell hfz c2 c3 c4 c5 c6 c7 c8 c9 c10;go_enter Tryz.func89,Tryz.ntmps89
 go_wp2
 go_quiet (fail)
 go_wp2_with fail
 go_ret
 exact⟨rfl,hfr.out _⟩
end
end Go.Proofs.YtimlkjppaalfaaaGreatDoor
