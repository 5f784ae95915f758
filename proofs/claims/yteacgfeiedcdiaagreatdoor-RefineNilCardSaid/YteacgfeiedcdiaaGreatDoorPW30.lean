/- Several texts joined (pack.py): Ya Hmg Xeq R2c Cn Ta. -/
import Derived.Test.YteacgfeiedcdiaaGreatDoorPW29
import Derived.Test.YteacgfeiedcdiaaGreatDoorPW01
import Derived.Test.YteacgfeiedcdiaaGreatDoorPW22
import Derived.Test.YteacgfeiedcdiaaGreatDoorPW10
import Derived.Test.YteacgfeiedcdiaaGreatDoorPW16
import Derived.Test.YteacgfeiedcdiaaGreatDoorPW20
namespace Go.Proofs.YteacgfeiedcdiaaGreatDoor
set_option linter.unusedVariables false
set_option linter.unusedSimpArgs false
set_option maxRecDepth 100000
open Go.RowKit Go.Gl
structure Lives(D:Nat→Prop)(Q:World→Prop):Prop where
 stay:∀w w' F,Q w→Fr F w w'→(∀b,b∈F→¬ D b)→Q w'
 lt:∀w,Q w→∀b,D b→b<w.heap.size
theorem Lives.none:Lives (fun _=>False) (fun _=>True):=⟨fun _ _ _ _ _ _=>trivial,fun _ _ _ h=>h.elim⟩
def HM(W w:World)(L:HL)(X:HX)(h:HS)(x:HT)(s k:Nat)(E:Blks)(D:Nat→Prop)(Q:World→Prop):Prop:=
 ∃own,HpAt W w L X own h x s k∧(∀q,q∈E→Blk w q.1 q.2.1 q.2.2∧own q.1=0∧W.heap.size≤q.1∧¬ D q.1)∧(∀b,D b→own b=0∧W.heap.size≤b)∧Q w
section
variable {W w w':World}{L L':HL}{X:HX}{tg tg':Tg}{own own':Nat→Nat}{FS FS':Nat→List Nat}{h h':HS}{x x':HT}{s k:Nat}{E:Blks}{F:List Nat}{D:Nat→Prop}{Q:World→Prop}
theorem HE.toM(H:HE W w L X h x s k E):HM W w L X h x s k E (fun _=>False) (fun _=>True):=by
 obtain⟨own,h1,h2⟩:=H
 exact⟨own,h1,fun q hq=>⟨(h2 q hq).1,(h2 q hq).2.1,(h2 q hq).2.2,fun h=>h⟩,fun b h=>h.elim,trivial⟩
theorem HM.toE(H:HM W w L X h x s k E D Q):HE W w L X h x s k E:=by
 obtain⟨own,h1,h2,_⟩:=H
 exact⟨own,h1,fun q hq=>⟨(h2 q hq).1,(h2 q hq).2.1,(h2 q hq).2.2.1⟩⟩
theorem HM.q(H:HM W w L X h x s k E D Q):Q w:=by
 obtain⟨own,h1,h2,h3,h4⟩:=H
 exact h4
theorem HM.fr0(hS:Lives D Q)(H:HM W w L X h x s k E D Q)(hf:Fr [] w w'):HM W w' L X h x s k E D Q:=by
 obtain⟨own,h1,h2,h3,h4⟩:=H
 exact⟨own,h1.fr0 hf,fun q hq=>⟨(h2 q hq).1.fr hf (by simp),(h2 q hq).2⟩,h3,hS.stay w w' [] h4 hf (fun b hb=>by cases hb)⟩
theorem HM.blk(H:HM W w L X h x s k E D Q){b:Nat}{t:TypeId}{cs:Array Value}(hq:(b,t,cs)∈E):Blk w b t cs:=H.toE.blk hq
theorem HM.sub{E':Blks}(H:HM W w L X h x s k E D Q)(hs:∀q,q∈E'→q∈E):HM W w L X h x s k E' D Q:=by
 obtain⟨own,h1,h2,h3⟩:=H
 exact⟨own,h1,fun q hq=>h2 q (hs q hq),h3⟩
theorem HM.fr(H:HM W w L X h x s k E D Q):Fr [] W w:=H.toE.fr
theorem HM.hr(H:HM W w L X h x s k E D Q):Hr w L h s k:=H.toE.hr
theorem HM.ok(H:HM W w L X h x s k E D Q):h.Ok s k:=H.hr.ok
theorem HM.new(hS:Lives D Q)(H:HM W w L X h x s k E D Q)(hf:Fr [] w w'){b:Nat}{t:TypeId}{cs:Array Value}(hb:Blk w' b t cs)(hb2:w.heap.size≤b):HM W w' L X h x s k ((b,t,cs)::E) D Q:=by
 obtain⟨own,h1,h2,h3,h4⟩:=H
 have hsz:=h1.fr.size
 have h0:own b=0:=by
  obtain⟨tg,FS,H,_⟩:=h1
  by_cases e:own b=0
  ·exact e
  ·have:=H.lt b e;omega
 refine⟨own,h1.fr0 hf,fun q hq=>?_,h3,hS.stay w w' [] h4 hf (fun b hb=>by cases hb)⟩
 rcases List.mem_cons.1 hq with rfl | hq
 ·exact⟨hb,h0,by show W.heap.size≤b;omega,fun hd=>by have:=hS.lt w h4 b hd;omega⟩
 ·exact⟨(h2 q hq).1.fr hf (by simp),(h2 q hq).2⟩
theorem HM.alloc(hS:Lives D Q)(H:HM W w L X h x s k E D Q)(t:TypeId)(cs:Array Value):HM W (w.alloc (.cells cs t)) L X h x s k ((w.heap.size,t,cs)::E) D Q:=
 H.new hS ((Fr.refl _ _).alloc _) (Blk.new _ _ _) (Nat.le_refl _)
theorem HM.turn(hS:Lives D Q)(hT:Tab W){b:Nat}{t:TypeId}{cs cs':Array Value}(H:HM W w L X h x s k ((b,t,cs)::E) D Q)(hf:Fr [b] w w')(hb:Blk w' b t cs')(hne:∀q,q∈E→q.1≠b):HM W w' L X h x s k ((b,t,cs')::E) D Q:=by
 obtain⟨own,h1,h2,h3,h4⟩:=H
 obtain⟨k1,k2,k3,k4⟩:=h2 _ (List.mem_cons_self ..)
 have hlt:=hT.lt
 have k3:W.heap.size≤b:=k3
 refine⟨own,h1.other hf (fun y hy=>?_) (by simp;omega),fun q hq=>?_,h3,hS.stay w w' [b] h4 hf (fun y hy=>by simp at hy;subst hy;exact k4)⟩
 ·simp at hy;subst hy;exact⟨k2,k3⟩
 ·rcases List.mem_cons.1 hq with rfl | hq
  ·exact⟨hb,k2,k3,k4⟩
  ·exact⟨(h2 q (List.mem_cons_of_mem _ hq)).1.fr hf (by have:=hne q hq;simpa using this),(h2 q (List.mem_cons_of_mem _ hq)).2⟩
theorem HM.post(hS:Lives D Q){f:FuncId}{args:Array Value}{v:Value}(H:HM W w L X h x s k E D Q)(hc:∀own,HpAt W w L X own h x s k→Calls Tryz.prog f args w (HpPost W w L X own h' x' s k v)) :
  Calls Tryz.prog f args w fun e w'=>e=.returned v∧HM W w' L X h' x' s k E D Q:=by
 obtain⟨own,h1,h2,h3,h4⟩:=H
 refine(hc own h1).mono ?_
 rintro e w' ⟨own',rfl,g1,g2⟩
 refine⟨rfl,own',g1,fun q hq=>?_,fun b hb=>⟨(g2.2 b (hS.lt w h4 b hb)).trans (h3 b hb).1,(h3 b hb).2⟩,?_⟩
 ·obtain⟨k1,k2,k3,k4⟩:=h2 q hq
  obtain⟨j1,j2⟩:=g2.blk k1 k2
  exact⟨j1,j2,k3,k4⟩
 ·obtain⟨⟨F,f1,f2⟩,_⟩:=g2
  exact hS.stay w w' F h4 f1 (fun b hb hd=>f2 b hb (h3 b hd).1)
theorem HM.of(hS:Lives D Q)(hE:∀q,q∈E→Blk w q.1 q.2.1 q.2.2∧own q.1=0∧W.heap.size≤q.1∧¬ D q.1)(hD:∀b,D b→own b=0∧W.heap.size≤b)(hQ:Q w)(hw:Hw w' L' X tg' own' FS' h' x' s k)(h1:Fr [] W w)(h2:∀b,own b≠0→W.heap.size≤b)
  (hf:Fr F w w') (hF:∀b,b∈F→own b≠0) (h3:∀b,own' b≠0→own b≠0∨w.heap.size≤b) (hu:∀b,b<w.heap.size→own' b=own b):HM W w' L' X h' x' s k E D Q:=by
 have hsz:=h1.size
 refine⟨own',⟨tg',FS',hw,h1.trans hf (fun b hb=>.inr (h2 b (hF b hb))),fun b hb=>?_⟩,fun q hq=>?_,fun b hb=>⟨(hu b (hS.lt w hQ b hb)).trans (hD b hb).1,(hD b hb).2⟩,hS.stay w w' F hQ hf (fun b hb hd=>hF b hb (hD b hd).1)⟩
 ·rcases h3 b hb with h4 | h4
  ·exact h2 b h4
  ·omega
 ·obtain⟨k1,k2,k3,k4⟩:=hE q hq
  exact⟨k1.fr hf (fun hx=>hF _ hx k2),(hu _ k1.lt).trans k2,k3,k4⟩
theorem HM.of'(hS:Lives D Q)(hE:∀q,q∈E→Blk w q.1 q.2.1 q.2.2∧own q.1=0∧W.heap.size≤q.1∧¬ D q.1)(hD:∀b,D b→own b=0∧W.heap.size≤b)(hQ:Q w)(hw:Hw w' L' X tg' own FS' h' x' s k)(h1:Fr [] W w)(h2:∀b,own b≠0→W.heap.size≤b)
  (hf:Fr F w w') (hF:∀b,b∈F→own b≠0):HM W w' L' X h' x' s k E D Q:=HM.of hS hE hD hQ hw h1 h2 hf hF (fun b hb=>.inl hb) (fun _ _=>rfl)
theorem Hw.own5(H:Hw w L X tg own FS h x s k):∀b,b∈[X.cr]→own b=5:=fun b hb=>by
 simp at hb
 subst hb
 exact H.o5.2.2
theorem HM.dirty(hS:Lives D Q)(H:HM W w L X h x s k E D Q)(i:Int) :
  Calls Tryz.prog 11 #[.pointer (some ⟨X.cb,0,none⟩),.int .i64 i] w fun e w'=>∃c er C',e=.returned (.tuple #[.bool c,.int .i64 er])∧Turned x.C (h.R*x.per) i true c er C'∧HM W w' L X h { x with C:=C' } s k E D Q:=by
 obtain⟨own,⟨tg,FS,H,h1,h2⟩,hE,hD,hQ⟩:=H
 refine(cdirty_any H.ct i).mono ?_
 rintro e w' ⟨c,er,M',rfl,hg,hf,hb⟩
 exact⟨c,er,M',rfl,hb,HM.of' hS hE hD hQ (H.cards hf H.own5 hg) h1 h2 hf (fun b hb=>by rw [H.own5 b hb];decide)⟩
theorem HM.clean(hS:Lives D Q)(H:HM W w L X h x s k E D Q)(i:Int) :
  Calls Tryz.prog 43 #[.pointer (some ⟨X.cb,0,none⟩),.int .i64 i] w fun e w'=>∃c er C',e=.returned (.tuple #[.bool c,.int .i64 er])∧Turned x.C (h.R*x.per) i false c er C'∧HM W w' L X h { x with C:=C' } s k E D Q:=by
 obtain⟨own,⟨tg,FS,H,h1,h2⟩,hE,hD,hQ⟩:=H
 refine(cclean_any H.ct i).mono ?_
 rintro e w' ⟨c,er,M',rfl,hg,hf,hb⟩
 exact⟨c,er,M',rfl,hb,HM.of' hS hE hD hQ (H.cards hf H.own5 hg) h1 h2 hf (fun b hb=>by rw [H.own5 b hb];decide)⟩
theorem HM.see(hS:Lives D Q)(H:HM W w L X h x s k E D Q){f:FuncId}{args:Array Value}{P:Ending→World→Prop}(hc:∀own,(∃tg FS,Hw w L X tg own FS h x s k)→Calls Tryz.prog f args w fun e w'=>P e w'∧Fr [] w w') :
  Calls Tryz.prog f args w fun e w'=>P e w'∧HM W w' L X h x s k E D Q:=by
 have H0:=H
 obtain⟨own,⟨tg,FS,H1,h1,h2⟩,hE⟩:=H
 refine(hc own ⟨tg,FS,H1⟩).mono ?_
 rintro e w' ⟨hp,hf⟩
 exact⟨hp,H0.fr0 hS hf⟩
theorem HM.cis(hS:Lives D Q)(H:HM W w L X h x s k E D Q)(i:Int) :
  Calls Tryz.prog 12 #[.pointer (some ⟨X.cb,0,none⟩),.int .i64 i] w fun e w'=>e=.returned (.bool (inSet x.C i))∧HM W w' L X h x s k E D Q:=
 H.see hS fun own ⟨tg,FS,H⟩=>(cis_any H.ct i).mono (by rintro e w' ⟨rfl,q,rfl⟩;exact⟨rfl,(Fr.refl _ _).drewN q⟩)
theorem HM.state(hS:Lives D Q)(H:HM W w L X h x s k E D Q)(a:Int) :
  Calls Tryz.prog 62 #[.pointer (some ⟨L.tb,0,none⟩),.int .i64 a] w fun e w'=>e=.returned (.int .i64 (h.stateOf a))∧HM W w' L X h x s k E D Q:=
 H.see hS fun own ⟨tg,FS,H⟩=>(hstate_any H.hr a).mono (by rintro e w' ⟨rfl,rfl⟩;exact⟨rfl,Fr.refl _ _⟩)
theorem HM.top(hS:Lives D Q)(H:HM W w L X h x s k E D Q){r:Nat}(hr:r<h.R) :
  Calls Tryz.prog 143 #[.pointer (some ⟨L.tb,0,none⟩),.int .i64 (r:Int)] w fun e w'=>e=.returned (.int .i64 (h.t r))∧HM W w' L X h x s k E D Q:=
 H.see hS fun own ⟨tg,FS,H⟩=>(top_at H.rg hr).mono (by rintro e w' ⟨rfl,rfl⟩;exact⟨rfl,Fr.refl _ _⟩)
theorem HM.scards(hS:Lives D Q)(H:HM W w L X h x s k E D Q){a:Nat}(ha:a<h.R) :
  Calls Tryz.prog 17 #[.pointer (some ⟨X.zb,0,none⟩),.int .i64 (a:Int)] w fun e w'=>(∃A c G,e=.returned (.slice A (allOf x.σ x.per h.R a).length c)∧Lr w' 3 A (allOf x.σ x.per h.R a).length c G (zv (allOf x.σ x.per h.R a))∧(∀g,g∈G→w.heap.size≤g)∧Fr [] w w')∧HM W w' L X h x s k E D Q:=
 H.see hS fun own ⟨tg,FS,H⟩=>(H.se.cards H.tab ha).mono (by
  rintro e w' ⟨A,c,G,rfl,hl,hf,hg⟩
  exact⟨⟨A,c,G,rfl,hl,fun g hx=>by rcases hg g hx with h1 | h1;cases h1;exact h1,hf⟩,hf⟩)
theorem HM.base(hS:Lives D Q)(H:HM W w L X h x s k E D Q)(a:Int):Calls Tryz.prog 82 #[.agg #[.int .i64 h.g.words,.int .i64 h.g.rw,.int .i64 h.g.cw,.int .i64 h.g.regions,.int .i64 h.g.cards,.int .i64 h.g.max],.int .i64 a] w fun e w'=>e=.returned (.tuple #[.int .i64 (if 0≤a∧a<(h.R:Int) then a*(h.W:Int) else 0),.int .i64 (if 0≤a∧a<(h.R:Int) then 0 else 2)])∧HM W w' L X h x s k E D Q:=
 H.see hS fun own ⟨tg,FS,H⟩=>(H.hr.base a (Fr.refl _ _))
theorem HM.region(hS:Lives D Q)(H:HM W w L X h x s k E D Q)(a:Int):Calls Tryz.prog 14 #[.agg #[.int .i64 h.g.words,.int .i64 h.g.rw,.int .i64 h.g.cw,.int .i64 h.g.regions,.int .i64 h.g.cards,.int .i64 h.g.max],.int .i64 a] w fun e w'=>e=.returned (.int .i64 (h.g.regionOf a))∧HM W w' L X h x s k E D Q:=
 H.see hS fun own ⟨tg,FS,H⟩=>(H.hr.region a (Fr.refl _ _))
theorem HM.cardC(hS:Lives D Q)(H:HM W w L X h x s k E D Q)(a:Int):Calls Tryz.prog 15 #[.agg #[.int .i64 h.g.words,.int .i64 h.g.rw,.int .i64 h.g.cw,.int .i64 h.g.regions,.int .i64 h.g.cards,.int .i64 h.g.max],.int .i64 a] w fun e w'=>e=.returned (.int .i64 (h.g.cardOf a))∧HM W w' L X h x s k E D Q:=
 H.see hS fun own ⟨tg,FS,H'⟩=>H.toE.card a
theorem HM.cells(H:HM W w L X h x s k E D Q):w.cell? ⟨L.hb,20,none⟩=some (.pointer (some ⟨L.ab,0,none⟩))∧w.cell? ⟨L.hb,21,none⟩=some (.pointer (some ⟨L.tb,0,none⟩))∧w.cell? ⟨L.hb,22,none⟩=some (.pointer (some ⟨X.ob,0,none⟩)) ∧
  w.cell? ⟨L.hb,23,none⟩=some (.pointer (some ⟨X.cb,0,none⟩))∧w.cell? ⟨L.hb,24,none⟩=some (.pointer (some ⟨X.qb,0,none⟩))∧w.cell? ⟨L.hb,25,none⟩=some (.pointer (some ⟨X.zb,0,none⟩))∧w.cell? ⟨L.hb,26,none⟩=some (.pointer (some ⟨X.mb,0,none⟩)) ∧
  w.cell? ⟨L.hb,27,none⟩=some (.slice L.rA h.T L.rc)∧w.cell? ⟨L.hb,28,none⟩=some (.slice (some ⟨L.bb,0,none⟩) h.T h.T):=by
 obtain⟨own,⟨tg,FS,H,_⟩,_⟩:=H
 have c0:=H.st.cell 20
 have c1:=H.st.cell 21
 have c2:=H.st.cell 22
 have c3:=H.st.cell 23
 have c4:=H.st.cell 24
 have c5:=H.st.cell 25
 have c6:=H.st.cell 26
 have c7:=H.st.cell 27
 have c8:=H.st.cell 28
 refine⟨c0,c1,?_,?_,?_,?_,?_,c7,c8⟩
 ·rw [← H.vo];exact c2
 ·rw [← H.vc];exact c3
 ·rw [← H.vq];exact c4
 ·rw [← H.vs];exact c5
 ·rw [← H.vm];exact c6
structure Hcells(w:World)(L:HL)(X:HX)(g:Geo)(T:Nat):Prop where
 c14:w.cell? ⟨L.hb,14,none⟩=some (.int .i64 g.words)
 c15:w.cell? ⟨L.hb,15,none⟩=some (.int .i64 g.rw)
 c16:w.cell? ⟨L.hb,16,none⟩=some (.int .i64 g.cw)
 c17:w.cell? ⟨L.hb,17,none⟩=some (.int .i64 g.regions)
 c18:w.cell? ⟨L.hb,18,none⟩=some (.int .i64 g.cards)
 c19:w.cell? ⟨L.hb,19,none⟩=some (.int .i64 g.max)
 c20:w.cell? ⟨L.hb,20,none⟩=some (.pointer (some ⟨L.ab,0,none⟩))
 c21:w.cell? ⟨L.hb,21,none⟩=some (.pointer (some ⟨L.tb,0,none⟩))
 c22:w.cell? ⟨L.hb,22,none⟩=some (.pointer (some ⟨X.ob,0,none⟩))
 c23:w.cell? ⟨L.hb,23,none⟩=some (.pointer (some ⟨X.cb,0,none⟩))
 c24:w.cell? ⟨L.hb,24,none⟩=some (.pointer (some ⟨X.qb,0,none⟩))
 c25:w.cell? ⟨L.hb,25,none⟩=some (.pointer (some ⟨X.zb,0,none⟩))
 c26:w.cell? ⟨L.hb,26,none⟩=some (.pointer (some ⟨X.mb,0,none⟩))
 c27:w.cell? ⟨L.hb,27,none⟩=some (.slice L.rA T L.rc)
 c28:w.cell? ⟨L.hb,28,none⟩=some (.slice (some ⟨L.bb,0,none⟩) T T)
 lt:L.hb<w.heap.size
theorem HM.hc(H:HM W w L X h x s k E D Q):Hcells w L X h.g h.T:=by
 obtain⟨a0,a1,a2,a3,a4,a5⟩:=H.hr.geo
 obtain⟨b0,b1,b2,b3,b4,b5,b6,b7,b8⟩:=H.cells
 exact⟨a0,a1,a2,a3,a4,a5,b0,b1,b2,b3,b4,b5,b6,b7,b8,lt_of_cell b0⟩
theorem HM.base_at(hS:Lives D Q)(H:HM W w L X h x s k E D Q){r:Nat}(hr:r<h.R):Calls Tryz.prog 82 #[.agg #[.int .i64 h.g.words,.int .i64 h.g.rw,.int .i64 h.g.cw,.int .i64 h.g.regions,.int .i64 h.g.cards,.int .i64 h.g.max],.int .i64 (r:Int)] w fun e w'=>e=.returned (.tuple #[.int .i64 ((r*h.W:Nat):Int),.int .i64 0])∧HM W w' L X h x s k E D Q:=by
 have:=H.base hS (r:Int)
 have e:0≤(r:Int)∧(r:Int)<(h.R:Int):=by omega
 rw [if_pos e,if_pos e]at this
 rw [Int.natCast_mul]
 exact this
theorem HM.dim(H:HM W w L X h x s k E D Q):GDims h.g h.W h.R x.cw x.per:=H.toE.dim
end
def FreeP(W:World)(L:HL)(X:HX)(h:HS)(x:HT)(s k:Nat)(E:Blks)(D:Nat→Prop)(Q:World→Prop)(r:Nat)(e:Ending)(w':World):Prop:=
 e=.returned (.int .i64 0)∧∃C' M',(∀j:Nat,wbit M' j=if r*h.W≤j∧j<r*h.W+h.W then false else wbit x.M j)∧(∀j:Nat,wbit C' j=if r*x.per≤j∧j<r*x.per+x.per then false else wbit x.C j) ∧
   HM W w' { L with m:=put1 L.m r ((r*h.W:Nat):Int) } X { h with s:=put1 h.s r 0,t:=put1 h.t r ((r*h.W:Nat):Int) } { x with O:=put2 x.O (r*x.per) (r*x.per+x.per) (fun _=>0),σ:=(x.σ.clear r).scrub x.per r,M:=M',C:=C' } s k E D Q
section
variable {W w w':World}{L:HL}{X:HX}{h:HS}{x:HT}{s k:Nat}{E:Blks}{D:Nat→Prop}{Q:World→Prop}
end
section
variable {W w w':World}{L:HL}{X:HX}{tg:Tg}{own:Nat→Nat}{FS:Nat→List Nat}{h:HS}{x:HT}{s k:Nat}{E:Blks}{F:List Nat}{D:Nat→Prop}{Q:World→Prop}
theorem Hw.buffer(H:Hw w L X tg own FS h x s k){bx be:Nat→Int}(hf:Fr [L.bb] w w')(hb:Blk w' L.bb 214 (bufV h.T bx be))(hok:∀i,i<h.T→0≤bx i∧bx i≤be i∧be i≤4194304):Hw w' L X tg own FS { h with bx:=bx,be:=be } x s k:=by
 have r:=H.rest (own':=own) hf (fun b hb=>by simp at hb;subst hb;exact H.o1.2.1) (by decide) (fun _ _=>rfl)
 exact⟨H.st.fr hf (by simp;exact H.st.apart H.buf (by decide)),r.r2 (by decide),r.r3 (by decide),H.row.fr hf (fun g hg hx=>by simp at hx;subst hx;exact H.row.apart H.buf (by decide) hg),fun i hi=>r.r9 i hi (by omega),hb,⟨H.ok.geo,H.ok.rw,H.ok.rg,H.ok.wd,H.ok.nn,H.ok.fok,H.ok.sok,H.ok.tok,H.ok.tm,hok,H.ok.rok,H.ok.rlen⟩,r.rt,H.dim,r.r4 (by decide),r.r5 (by decide),r.r6 (by decide),r.r7 (by decide),r.r8 (by decide),H.vo,H.vc,H.vq,H.vs,H.vm,r.o1,r.o2,r.o3,r.o4,r.o5,r.o6,r.o7,r.o8,r.o100,r.o0,fun b hb=>Nat.lt_of_lt_of_le (H.lt b hb) hf.size⟩
theorem HM.buffer(hS:Lives D Q)(H:HM W w L X h x s k E D Q){bx be:Nat→Int}(hf:Fr [L.bb] w w')(hb:Blk w' L.bb 214 (bufV h.T bx be))(hok:∀i,i<h.T→0≤bx i∧bx i≤be i∧be i≤4194304):HM W w' L X { h with bx:=bx,be:=be } x s k E D Q:=by
 obtain⟨own,⟨tg,FS,H,h1,h2⟩,hE,hD,hQ⟩:=H
 exact HM.of' hS hE hD hQ (H.buffer hf hb hok) h1 h2 hf (fun b hb=>by simp at hb;subst hb;rw [H.o1.2.1];decide)
theorem HM.bufs(H:HM W w L X h x s k E D Q){i:Nat}(hi:i<h.T):w.cell? ⟨L.bb,i*2,none⟩=some (.int .i64 (h.bx i))∧w.cell? ⟨L.bb,i*2+1,none⟩=some (.int .i64 (h.be i)):=H.hr.bufs hi
theorem HM.hend(hS:Lives D Q)(H:HM W w L X h x s k E D Q){r:Nat}(hr:r<h.R):Calls Tryz.prog 118 #[.pointer (some ⟨L.hb,0,none⟩),.int .i64 (r:Int)] w fun e w'=>e=.returned (.int .i64 (h.endOf r))∧HM W w' L X h x s k E D Q:=
 H.see hS fun own ⟨tg,FS,H⟩=>hend_any H.hr hr
end
def HS.BufIn(h:HS):Prop:=∀i,i<h.T→h.bx i<h.be i→∃r,r<h.R∧Filled (h.s r)∧((r*h.W:Nat):Int)≤h.bx i∧h.be i≤((r*h.W+h.W:Nat):Int)
def HS.retT(h:HS)(j:Nat):Nat→Int:=fun r=>if h.leftL (r:Int) j=[] then h.t r else HS.minL (h.leftL (r:Int) h.T)
def zap(f:Nat→Int)(j:Nat):Nat→Int:=fun i=>if i<j then 0 else f i
section
variable {W w w':World}{L:HL}{X:HX}{h:HS}{x:HT}{s k:Nat}{E:Blks}{D:Nat→Prop}{Q:World→Prop}
theorem HS.Ok.reg(ok:h.Ok s k){r:Nat}{a:Int}(hr:r<h.R)(h1:((r*h.W:Nat):Int)≤a)(h2:a<((r*h.W+h.W:Nat):Int)):h.g.regionOf a=(r:Int):=by
 have hW:=ok.wpos
 have hb:=ok.base_le hr
 obtain⟨q,rfl⟩:=Int.eq_ofNat_of_zero_le (show 0≤a by omega)
 unfold Geo.regionOf
 rw [if_pos ⟨by omega,by rw [ok.wd];omega⟩,ok.rw]
 show(q:Int) / (h.W:Int)=_
 rw [← Int.natCast_ediv,div_in (u:=q) (r:=r) (W:=h.W) (by omega) (by omega) (by omega)]
end
open Go.RowKit Go.Gl HS
section
variable {D1 D2:Nat→Prop}{Q1 Q2:World→Prop}
theorem Lives.and(h1:Lives D1 Q1)(h2:Lives D2 Q2):Lives (fun b=>D1 b∨D2 b) (fun w=>Q1 w∧Q2 w):=
 ⟨fun w w' F h hf hF=>⟨h1.stay w w' F h.1 hf (fun b hb hd=>hF b hb (.inl hd)),h2.stay w w' F h.2 hf (fun b hb hd=>hF b hb (.inr hd))⟩,fun w h b hb=>hb.elim (h1.lt w h.1 b) (h2.lt w h.2 b)⟩
theorem Lives.all{P:Nat→Prop}{Di:Nat→Nat→Prop}{Qi:Nat→World→Prop}(h:∀i,P i→Lives (Di i) (Qi i)):Lives (fun b=>∃i,P i∧Di i b) (fun w=>∀i,P i→Qi i w):=
 ⟨fun w w' F q hf hF i hi=>(h i hi).stay w w' F (q i hi) hf (fun b hb hd=>hF b hb ⟨i,hi,hd⟩),fun w q b ⟨i,hi,hd⟩=>(h i hi).lt w (q i hi) b hd⟩
theorem Lives.lr(e:TypeId)(A:Option Addr)(n c:Nat)(G:List Nat)(xs:List Value):Lives (fun b=>b∈G) (fun w=>Lr w e A n c G xs):=⟨fun w w' F h hf hF=>h.fr hf (fun g hg hx=>hF g hx hg),fun w h b hb=>h.lt b hb⟩
end
section
variable {W w w':World}{L:HL}{X:HX}{h:HS}{x:HT}{s k:Nat}{E:Blks}{D D':Nat→Prop}{Q Q':World→Prop}{F:List Nat}
theorem HM.looked(hS:Lives D Q)(H:HM W w L X h x s k E D Q)(hr:Hr w' L h s k)(hf:Fr [L.ab] w w'):HM W w' L X h x s k E D Q:=by
 obtain⟨own,h1,h2,h3,h4⟩:=H
 obtain⟨g1,g2⟩:=h1.looked hr hf
 refine⟨own,g1,fun q hq=>?_,h3,?_⟩
 ·obtain⟨k1,k2,k3,k4⟩:=h2 q hq
  obtain⟨j1,j2⟩:=g2.blk k1 k2
  exact⟨j1,j2,k3,k4⟩
 ·obtain⟨⟨F,f1,f2⟩,_⟩:=g2
  exact hS.stay w w' F h4 f1 (fun b hb hd=>f2 b hb (h3 b hd).1)
theorem HM.live(hT:Tab W)(H:HM W w L X h x s k E D Q)(hf:Fr F w w')(hF:∀b,b∈F→D b)(hD':∀b,D' b→D b∨w.heap.size≤b)(hq:Q' w'):HM W w' L X h x s k E D' Q':=by
 obtain⟨own,h1,h2,h3,h4⟩:=H
 have hlt:=hT.lt
 have hsz:=h1.fr.size
 have h0:∀b,w.heap.size≤b→own b=0:=fun b hb=>by
  obtain⟨tg,FS,H,_⟩:=h1
  by_cases e:own b=0
  ·exact e
  ·have:=H.lt b e;omega
 refine⟨own,h1.other hf (fun y hy=>h3 y (hF y hy)) (fun hx=>by have:=(h3 _ (hF _ hx)).2;omega),fun q hq=>?_,fun b hb=>?_,hq⟩
 ·obtain⟨k1,k2,k3,k4⟩:=h2 q hq
  exact⟨k1.fr hf (fun hx=>k4 (hF _ hx)),k2,k3,fun hd=>(hD' _ hd).elim k4 (fun e=>by have:=k1.lt;omega)⟩
 ·rcases hD' b hb with e | e
  ·exact h3 b e
  ·exact⟨h0 b e,by omega⟩
theorem HM.news(hS:Lives D Q)(H:HM W w L X h x s k E D Q)(hf:Fr [] w w')(E2:Blks)(h2:∀q,q∈E2→Blk w' q.1 q.2.1 q.2.2∧w.heap.size≤q.1):HM W w' L X h x s k (E2++E) D Q:=by
 obtain⟨own,h1,h3,h4,h5⟩:=H
 have hsz:=h1.fr.size
 refine⟨own,h1.fr0 hf,fun q hq=>?_,h4,hS.stay w w' [] h5 hf (fun b hb=>by cases hb)⟩
 rcases List.mem_append.1 hq with hq | hq
 ·obtain⟨k1,k2⟩:=h2 q hq
  refine⟨k1,?_,by omega,fun hd=>by have:=hS.lt w h5 _ hd;omega⟩
  obtain⟨tg,FS,H,_⟩:=h1
  by_cases e:own q.1=0
  ·exact e
  ·have:=H.lt _ e;omega
 ·exact⟨(h3 q hq).1.fr hf (by simp),(h3 q hq).2⟩
theorem Lives.row(hS:Lives D Q)(e:TypeId)(A:Option Addr)(n c:Nat)(G:List Nat)(xs:List Value):Lives (fun b=>b∈G∨D b) (fun w=>Lr w e A n c G xs∧Q w):=
 ⟨fun w w' F h hf hF=>⟨h.1.fr hf (fun g hg hx=>hF g hx (.inl hg)),hS.stay w w' F h.2 hf (fun b hb hd=>hF b hb (.inr hd))⟩,fun w h b hb=>hb.elim (h.1.lt b) (hS.lt w h.2 b)⟩
theorem HM.poke(hS:Lives D Q)(hT:Tab W){b:Nat}{ty:TypeId}{cs:Array Value}(H:HM W w L X h x s k ((b,ty,cs)::E) D Q)(hne:∀q,q∈E→q.1≠b)(i:Nat)(v:Value) :
  HM W (w.setCell ⟨b,i,none⟩ v) L X h x s k ((b,ty,cs.setIfInBounds i v)::E) D Q:=
 H.turn hS hT ((Fr.refl [b] w).setCell (p:=⟨b,i,none⟩) (.inl (by simp)) v) ((H.blk (List.mem_cons_self ..)).put i v) hne
end
section
variable {W w w':World}{L:HL}{X:HX}{tg:Tg}{own:Nat→Nat}{FS:Nat→List Nat}{h:HS}{x:HT}{s k:Nat}{E:Blks}{D:Nat→Prop}{Q:World→Prop}
theorem Hw.queue(H:Hw w L X tg own FS h x s k){F':List Nat}{C':List Int}{O':Nat→List Int}(hf:Fr X.qF w w')(ho:Qq w' X.qb F' h.T x.qm C' O')(hl:∀b,b∈F'→b<w'.heap.size)(hn:∀b,b∈F'→b∈X.qF∨w.heap.size≤b) :
  ∃own',Hw w' L { X with qF:=F' } tg own' FS h { x with qc:=C',ql:=O' } s k∧(∀b,own' b≠0→own b≠0∨w.heap.size≤b)∧∀b,b<w.heap.size→own' b=own b:=by
 have h1:∀b,b<w.heap.size→ownNew own w.heap.size (fun b=>b∈F') 6 b=own b:=fun b hb=>by unfold ownNew;rw [if_pos hb]
 have r:=H.rest (own':=ownNew own w.heap.size (fun b=>b∈F') 6) hf (fun b hb=>H.o6 b hb) (by decide) h1
 refine⟨_,⟨(r.r1 (by decide)).1,r.r2 (by decide),r.r3 (by decide),(r.r1 (by decide)).2.1,fun i hi=>r.r9 i hi (by omega),(r.r1 (by decide)).2.2,H.ok,r.rt,H.dim,r.r4 (by decide),r.r5 (by decide),ho,r.r7 (by decide),r.r8 (by decide),H.vo,H.vc,H.vq,H.vs,H.vm,r.o1,r.o2,r.o3,r.o4,r.o5,fun b hb=>?_,r.o7,r.o8,r.o100,r.o0,fun b hb=>?_⟩,fun b hb=>?_,h1⟩
 ·rcases hn b hb with e | e
  ·have:=H.o6 b e
   rw [h1 b (H.lt b (by rw [this];decide))]
   exact this
  ·unfold ownNew
   rw [if_neg (by omega),if_pos hb]
 ·have hs:=hf.size
  by_cases e:b<w.heap.size
  ·omega
  ·unfold ownNew at hb
   rw [if_neg e]at hb
   by_cases e2:b∈F'
   ·exact hl b e2
   ·rw [if_neg e2]at hb
    exact absurd rfl hb
 ·by_cases e:b<w.heap.size
  ·rw [h1 b e]at hb
   exact .inl hb
  ·exact .inr (by omega)
end
def adr(tq:Int):Int:=IntKind.i64.wrap (IntKind.u64.wrap (tq-1))
theorem adr_in{tq:Int}(h1:1≤tq)(h2:tq≤9223372036854775808):adr tq=tq-1:=by
 unfold adr
 rw [IntKind.wrap_u64,Int.emod_eq_of_lt (by omega) (by omega)]
 exact IntWalk.i64_in _ ⟨by omega,by omega⟩
theorem adr_out{tq:Int}(h0:0≤tq)(h1:tq≤18446744073709551615)(h:tq=0∨9223372036854775808<tq):adr tq<0:=by
 unfold adr
 have:IntKind.u64.wrap (tq-1)=if tq=0 then 18446744073709551615 else tq-1:=by
  rw [IntKind.wrap_u64]
  split
  ·subst_vars;rfl
  ·exact Int.emod_eq_of_lt (by omega) (by omega)
 rw [this]
 have hw:∀x:Int,9223372036854775808≤x→x≤18446744073709551615→IntKind.i64.wrap x=x-18446744073709551616:=by
  intro x hx hy
  rw [IntKind.wrap_i64]
  omega
 split
 ·rw [hw _ (by decide) (by decide)];decide
 ·rw [hw _ (by omega) (by omega)];omega
def youngB(s:Int):Bool:=s==1||s==2
def noteB(g:Geo)(s field tq:Int):Bool:=!youngB s&&g.crossB field (adr tq)
theorem cross_no{g:Geo}{a b:Int}(h:b<0∨g.words≤b):g.crossB a b=false:=by
 unfold Geo.crossB
 rcases h with h | h
 ·rw [show decide (0≤b)=false by simp;omega];simp
 ·rw [show decide (b<g.words)=false by simp;omega];simp
structure Pla where
 fi:Int
 be:Int
 fd:Int
 la:Int
 hd:Int
 en:Int
 bg:Bool
def Pla.cells(p:Pla):Array Value:=#[.int .i64 p.fi,.int .i64 p.be,.int .i64 p.fd,.int .i64 p.la,.int .i64 p.hd,.int .i64 p.en,.bool p.bg]
def Pla.val(p:Pla):Value:=.agg p.cells
def Pla.zero:Pla:=⟨0,0,0,0,0,0,false⟩
def Pla.more(p:Pla):Bool:=decide (p.fd<p.la)||decide (p.hd<p.en)
def bigAt(s:Nat→Int):Nat→Option Nat
 | 0=>if s 0=4 then some 0 else none
 | r+1=>if s (r+1)=5 then bigAt s r else if s (r+1)=4 then some (r+1) else none
theorem bigAt_in{s:Nat→Int}:∀ {r q:Nat},bigAt s r=some q→q≤r∧s q=4
 | 0,q,h=>by
  unfold bigAt at h
  split at h
  ·injection h with h;subst h;exact⟨Nat.le_refl _,by assumption⟩
  ·cases h
 | r+1,q,h=>by
  unfold bigAt at h
  split at h
  ·have:=bigAt_in h;exact⟨by omega,this.2⟩
  ·split at h
   ·injection h with h;subst h;exact⟨Nat.le_refl _,by assumption⟩
   ·cases h
namespace HS
variable (h:HS)
noncomputable def entE (p:Pla):Int:=if atE h.n h.f p.hd=0∧((atH h.n h.f p.hd).kind=1∨(p.bg=false∧(atH h.n h.f p.hd).kind=2)) then 0 else 30
noncomputable def entS (p:Pla):Pla:={ p with fd:=max (p.hd+1) p.fi,la:=min (p.hd+1+(atH h.n h.f p.hd).ptrs) p.be,hd:=p.hd+(atH h.n h.f p.hd).size }
noncomputable def enter (p:Pla):Pla:=if h.entE p=0 then h.entS p else p
def wordAt(a:Int):Int:=if 0≤a∧a<(h.n:Int) then (h.f a.toNat:Int) else 0
noncomputable def remS (per:Nat) (σ:RS) (a:Int):RS:=if h.g.crossB a (adr (h.wordAt a))=true then (addR σ per h.R (h.g.regionOf (adr (h.wordAt a))) (h.g.cardOf a)).2.2 else σ
noncomputable def stp (per:Nat) (q:Pla×RS):Pla×RS:=if q.1.fd<q.1.la then ({ q.1 with fd:=q.1.fd+1 },h.remS per q.2 q.1.fd) else (h.enter q.1,q.2)
noncomputable def stpE (p:Pla):Int:=if p.fd<p.la then 0 else h.entE p
noncomputable def itr (per:Nat):Nat→Pla×RS→Pla×RS
 | 0,q=>q
 | k+1,q=>h.stp per (itr per k q)
noncomputable def askE:Nat→Pla→Int
 | 0,_=>0
 | k+1,p=>if p.hd<p.en then (if h.entE p=0 then askE k (h.entS p) else 30) else 0
def Ends(per:Nat)(q:Pla×RS)(σ:RS):Prop:=∃k,(h.itr per k q).1.more=false∧(∀j,j<k→(h.itr per j q).1.more=true)∧(h.itr per k q).2=σ
def firstH(O:Nat→Int)(c r:Nat):Int:=if ¬ O c=0∧h.g.regionOf (O c-1)=(r:Int) then O c-1 else ((r*h.W:Nat):Int)
def begP(O:Nat→Int)(cw c:Nat):Pla:=
 if h.s (c*cw / h.W)=3 then (if ((c*cw:Nat):Int)<h.endOf (c*cw / h.W) then ⟨((c*cw:Nat):Int),((c*cw+cw:Nat):Int),0,0,h.firstH O c (c*cw / h.W),min (h.endOf (c*cw / h.W)) ((c*cw+cw:Nat):Int),false⟩ else ⟨((c*cw:Nat):Int),((c*cw+cw:Nat):Int),0,0,0,0,false⟩)
 else if h.s (c*cw / h.W)=4∨h.s (c*cw / h.W)=5 then
  (match bigAt h.s (c*cw / h.W)with
  | some q=>⟨((c*cw:Nat):Int),((c*cw+cw:Nat):Int),0,0,((q*h.W:Nat):Int),((q*h.W+1:Nat):Int),true⟩
  | none=>⟨((c*cw:Nat):Int),((c*cw+cw:Nat):Int),0,0,0,0,false⟩)
 else ⟨((c*cw:Nat):Int),((c*cw+cw:Nat):Int),0,0,0,0,false⟩
theorem Ends.one{h:HS}{per:Nat}{q:Pla×RS}{σ τ:RS}(a:h.Ends per q σ)(b:h.Ends per q τ):σ=τ:=by
 obtain⟨k,k1,k2,k3⟩:=a
 obtain⟨l,l1,l2,l3⟩:=b
 obtain rfl:k=l:=by
  rcases Nat.lt_trichotomy k l with e | e | e
  ·have:=l2 k e;rw [k1]at this;cases this
  ·exact e
  ·have:=k2 l e;rw [l1]at this;cases this
 exact k3.symm.trans l3
end HS
structure Pla.Ok(p:Pla):Prop where
 fi:0≤p.fi∧p.fi≤4194304
 be:0≤p.be∧p.be≤8388608
 fd:0≤p.fd∧p.fd≤16777216
 la:0≤p.la∧p.la≤8388608
 hd:0≤p.hd∧p.hd≤8388608
 en:0≤p.en∧p.en≤4194304
section
variable {h:HS}{p:Pla}{s k:Nat}
theorem atH_in{n:Nat}{f:Nat→Nat}{i:Int}(e:atE n f i=0):0≤i∧i<(n:Int)∧0≤(atH n f i).size∧(atH n f i).size≤1048576∧0≤(atH n f i).ptrs∧(atH n f i).ptrs≤1048576∧((atH n f i).kind=1∨(atH n f i).kind=2→1≤(atH n f i).size):=by
 rcases at_out n f i with⟨h1,_⟩ | ⟨h1,_⟩ | ⟨h1,h2,h3,h4⟩
 ·omega
 ·omega
 ·have:=h4.ways
  omega
theorem Pla.Ok.enter(o:p.Ok)(ok:h.Ok s k):(h.enter p).Ok:=by
 unfold HS.enter
 split
 ·rename_i e
  unfold HS.entE at e
  split at e
  ·rename_i c
   obtain⟨i0,i1,i2,i3,i4,i5,-⟩:=atH_in c.1
   have hn:=ok.nmax
   obtain⟨o1,o2,o3,o4,o5,o6⟩:=o
   unfold HS.entS
   generalize atH h.n h.f p.hd=H at *
   refine⟨o1,o2,?_,?_,?_,o6⟩
   ·show 0≤max (p.hd+1) p.fi∧max (p.hd+1) p.fi≤16777216
    omega
   ·show 0≤min (p.hd+1+H.ptrs) p.be∧min (p.hd+1+H.ptrs) p.be≤8388608
    omega
   ·show 0≤p.hd+H.size∧p.hd+H.size≤8388608
    omega
  ·cases e
 ·exact o
end
end Go.Proofs.YteacgfeiedcdiaaGreatDoor
