/- Package remset: its types as keys and elements of maps. -/
import Derived.Test.YteacgfeiedcdiaaGreatDoorPW05
import Derived.Test.YteacgfeiedcdiaaGreatDoorProg
import Derived.DeepKeys4
import Derived.WalkKit
import Derived.Test.YteacgfeiedcdiaaGreatDoorPW00
import Derived.Test.YteacgfeiedcdiaaGreatDoorPW01
import Derived.Test.YteacgfeiedcdiaaGreatDoorPW15
import Derived.Test.YteacgfeiedcdiaaGreatDoorShelf
import Derived.BigRegion
import Derived.Deep.RegionLaw
import Derived.Deep.RegionWith
import Derived.Deep.CutRange
import Derived.BigQuiet
import Derived.StillTailTactics
import Derived.WalkSpells
import Derived.Deep.RegionHeld3
namespace Go.Proofs.YteacgfeiedcdiaaGreatDoor
set_option maxRecDepth 100000
set_option linter.unusedVariables false
open Go.RowKit Go.Gl
open Go.Maps (Keyed)
theorem Tryz.laidOut:laidOutB Tryz.prog=true:=by kernel_rfl
theorem Tryz.pairLaw:Keyed Tryz.prog 105:=Keyed.of_law (deep_law_laid Tryz.laidOut (m:=2) (by omega) (of_decide_eq_true (by kernel_rfl)) (by kernel_rfl) (by kernel_rfl))
theorem Tryz.intLaw:Keyed Tryz.prog 3:=Maps.int_keyed Tryz.underlying3
def pairV(h s:Int):Value:=.agg #[.int .i64 h,.int .i64 s]
theorem pairV_inj{h s h' s':Int}(e:pairV h s=pairV h' s'):h=h'∧s=s':=by
 unfold pairV at e
 injection e with e
 simp at e
 exact e
theorem Tryz.pk2:2≤Tryz.prog.types.size:=of_decide_eq_true (by kernel_rfl)
theorem Tryz.pkC:Tryz.prog.cellsOf 105=2:=by kernel_rfl
theorem Tryz.pkI:Tryz.prog.cellsOf 3=1:=by kernel_rfl
theorem Tryz.pkT:Tryz.prog.keyType 105=true:=by kernel_rfl
theorem pairKey(h s:Int)(wh:(Lit.int .i64 h).wf=true)(ws:(Lit.int .i64 s).wf=true):∃l,keyOf Tryz.prog 105 (pairV h s)=some l:=by
 obtain⟨m,hm⟩:∃m,Tryz.prog.types.size=m+2:=⟨Tryz.prog.types.size-2,by have:=Tryz.pk2;omega⟩
 unfold keyOf pairV
 rw [Tryz.underlying105]
 show ∃l,(if (Tryz.prog.keyType 105&&Value.formed Tryz.prog 105 _)=true then _ else none)=some l
 rw [Tryz.pkT,hm]
 simp [Tryz.underlying105,Value.formed,Tryz.pkC,Program.keyLits,Value.cells,Tryz.pkI,Tryz.underlying3,wh,ws]
theorem intKey(a:Int)(wa:(Lit.int .i64 a).wf=true):keyOf Tryz.prog 3 (.int .i64 a)=some (.int .i64 a):=Maps.keyOf_int_mk Tryz.underlying3 wa
def memOf(way:Int)(few many:Value):Value:=.agg #[.int .i64 way,few,many]
theorem zeroMem(w:World):(zeroValue 131).run Tryz.prog w=.ok (memOf 0 (.slice none 0 0) (.pointer none)) w:=by kernel_rfl
theorem field_many(a b c:Value)(w:World):(Instr.field 131 (.agg #[a,b,c]) 2).run Tryz.prog w=.ok c w:=by
 simp [Instr.field,Tryz.underlying131,run_underlying,Tryz.isAgg46,Tryz.sizeOf46,asAgg,go_sem]
theorem zeroUnit(w:World):(zeroValue 113).run Tryz.prog w=.ok (.agg #[]) w:=by kernel_rfl
theorem wf_nat{n:Nat}(h:n≤4611686018427387904):(Lit.int .i64 (n:Int)).wf=true:=WalkArith.wf_i64 (by omega)
structure RS where
 way:Nat→Nat→Nat
 has:Nat→Nat→Bool
abbrev Tg:=Nat→Nat×Nat×Nat
structure Dim(per n:Nat):Prop where
 n1:1≤n
 n2:n≤65536
 p1:1≤per
 p2:n*per≤4194304
theorem Dim.p3{per n:Nat}(h:Dim per n):per≤4194304:=Nat.le_trans (Nat.le_mul_of_pos_left per h.n1) h.p2
theorem Dim.div{per n c:Nat}(h:Dim per n)(hc:c<n*per):c / per<n:=Nat.div_lt_of_lt_mul (by rw [Nat.mul_comm];exact hc)
theorem Dim.card{per n s i:Nat}(h:Dim per n)(hs:s<n)(hi:i<per):s*per+i<n*per∧(s*per+i) / per=s∧(s*per+i) % per=i:=by
 have h1:s*per+per≤n*per:=by rw [← Nat.succ_mul];exact Nat.mul_le_mul_right _ hs
 refine⟨by omega,?_,?_⟩
 ·rw [Nat.mul_comm,Nat.mul_add_div (by omega),Nat.div_eq_of_lt hi,Nat.add_zero]
 ·rw [Nat.mul_comm,Nat.mul_add_mod,Nat.mod_eq_of_lt hi]
theorem Dim.back{per n c:Nat}(h:Dim per n):c / per*per+c % per=c∧c % per<per:=⟨by rw [Nat.mul_comm];exact Nat.div_add_mod c per,Nat.mod_lt _ h.p1⟩
def St(w:World)(sb kb sB hB fB per n:Nat):Prop:=
 Blk w sb 102 #[.int .i64 ((n*per:Nat):Int),.int .i64 (per:Int),.map (some kb),.slice (some ⟨sB,0,none⟩) n n,.slice (some ⟨hB,0,none⟩) n n,.slice (some ⟨fB,0,none⟩) n n]
structure FewIs(per:Nat)(has:Nat→Bool)(s:Nat)(l:List Int):Prop where
 up:l.Pairwise (·<·)
 mem:∀x,x∈l↔∃c:Nat,x=(c:Int)∧c / per=s∧has c=true
 len:l.length≤4
def MemIs(w:World)(tg:Tg)(per:Nat)(has:Nat→Bool)(way h s:Nat)(v:Value):Prop:=
 (way=1∧∃A c G l,v=memOf 1 (.slice A l.length c) (.pointer none)∧Lr w 3 A l.length c G (zv l)∧(∀g,g∈G→tg g=(9,h,s))∧FewIs per has s l) ∨
 (way=2∧∃bs bw ws,v=memOf 2 (.slice none 0 0) (.pointer (some ⟨bs,0,none⟩))∧BSet w bs bw per ws∧tg bs=(10,h,s)∧tg bw=(10,h,s)∧∀i,i<per→wbit ws i=has (s*per+i)) ∨
 (way=3∧v=memOf 3 (.slice none 0 0) (.pointer none))
structure Kn(w:World)(tg:Tg)(kb per n:Nat)(σ:RS)(fk:Value→Option Value):Prop where
 mp:Mp Tryz.prog 105 w kb fk
 tag:tg kb=(2,0,0)
 key:∀x v,fk x=some v→∃h s:Nat,h<n∧s<n∧x=pairV h s∧σ.way h s≠0
 mem:∀h s:Nat,h<n→s<n→σ.way h s≠0→∃v,fk (pairV h s)=some v∧MemIs w tg per (σ.has h) (σ.way h s) h s v
def IxAt(w:World)(tg:Tg)(kd n r:Nat)(p:Nat→Prop)(v:Value):Prop:=
 (v=.map none∧∀x,x<n→¬ p x) ∨
 ∃b f,v=.map (some b)∧Mp Tryz.prog 3 w b f∧tg b=(kd,r,0)∧(∀x v,f x=some v→∃s:Nat,s<n∧x=.int .i64 (s:Int))∧∀s:Nat,s<n→(f (.int .i64 (s:Int))≠none↔p s)
structure Ix(w:World)(tg:Tg)(kd rB n:Nat)(p:Nat→Nat→Prop)(V:Nat→Value):Prop where
 row:Blk w rB 97 (rowF n V)
 tag:tg rB=(kd-3,0,0)
 own:∀r,r<n→IxAt w tg kd n r (p r) (V r)
def FiAt(w:World)(tg:Tg)(n h:Nat)(p:Nat→Prop)(v:Value):Prop:=
 ∃A c G,∃l:List Nat,v=.slice A l.length c∧Lr w 3 A l.length c G (zv (ints l))∧(∀g,g∈G→tg g=(8,h,0))∧l.Nodup∧∀s,s∈l↔s<n∧p s
structure Fi(w:World)(tg:Tg)(fB n:Nat)(p:Nat→Nat→Prop)(V:Nat→Value):Prop where
 row:Blk w fB 31 (rowF n V)
 tag:tg fB=(5,0,0)
 own:∀h,h<n→FiAt w tg n h (p h) (V h)
def TgOk(w:World)(tg:Tg):Prop:=∀b,(tg b).1≠0→b<w.heap.size
def TgUp(w:World)(tg tg':Tg):Prop:=∀b,b<w.heap.size→tg' b=tg b
theorem TgUp.refl(w:World)(tg:Tg):TgUp w tg tg:=fun _ _=>rfl
theorem TgUp.trans{w w':World}{tg tg' tg'':Tg}(h:TgUp w tg tg')(k:TgUp w' tg' tg'')(hs:w.heap.size≤w'.heap.size):TgUp w tg tg'':=fun b hb=>(k b (by omega)).trans (h b hb)
section
variable {w w':World}{tg tg':Tg}{F:List Nat}{per n h s kb sb sB hB fB rB kd way:Nat}{has:Nat→Bool}{v:Value}{σ:RS}{fk:Value→Option Value}{p:Nat→Nat→Prop}{V:Nat→Value}
theorem MemIs.fr(hm:MemIs w tg per has way h s v)(hf:Fr F w w')(hF:∀b,b∈F→tg b≠(9,h,s)∧tg b≠(10,h,s))(hu:TgUp w tg tg'):MemIs w' tg' per has way h s v:=by
 rcases hm with⟨e,A,c,G,l,e1,e2,e3,e4⟩ | ⟨e,bs,bw,ws,e1,e2,e3,e4,e5⟩ | hm
 ·exact .inl ⟨e,A,c,G,l,e1,e2.fr hf (fun g hg hgF=>(hF g hgF).1 (e3 g hg)),fun g hg=>(hu g (e2.lt g hg)).trans (e3 g hg),e4⟩
 ·exact .inr (.inl ⟨e,bs,bw,ws,e1,e2.fr hf (fun hb=>(hF _ hb).2 e3) (fun hb=>(hF _ hb).2 e4),(hu _ e2.set.lt).trans e3,(hu _ e2.row.lt).trans e4,e5⟩)
 ·exact .inr (.inr hm)
theorem Kn.fr(hk:Kn w tg kb per n σ fk)(hf:Fr F w w')(hF:∀b,b∈F→(tg b).1≠2∧(tg b).1≠9∧(tg b).1≠10)(hu:TgUp w tg tg'):Kn w' tg' kb per n σ fk:=
 ⟨hk.mp.fr hf (fun hb=>(hF _ hb).1 (by rw [hk.tag])),(hu _ hk.mp.lt).trans hk.tag,hk.key,fun h s hh hs hw=>by
  obtain⟨v,e1,e2⟩:=hk.mem h s hh hs hw
  exact⟨v,e1,e2.fr hf (fun b hb=>⟨fun e=>(hF b hb).2.1 (by rw [e]),fun e=>(hF b hb).2.2 (by rw [e])⟩) hu⟩⟩
theorem IxAt.fr{r:Nat}{p:Nat→Prop}(hi:IxAt w tg kd n r p v)(hf:Fr F w w')(hF:∀b,b∈F→tg b≠(kd,r,0))(hu:TgUp w tg tg'):IxAt w' tg' kd n r p v:=by
 rcases hi with hi | ⟨b,f,e1,e2,e3,e4⟩
 ·exact .inl hi
 ·exact .inr ⟨b,f,e1,e2.fr hf (fun hb=>hF _ hb e3),(hu _ e2.lt).trans e3,e4⟩
theorem Ix.fr(hi:Ix w tg kd rB n p V)(hf:Fr F w w')(hF:∀b,b∈F→(tg b).1≠kd-3∧(tg b).1≠kd)(hu:TgUp w tg tg'):Ix w' tg' kd rB n p V:=
 ⟨hi.row.fr hf (fun hb=>(hF _ hb).1 (by rw [hi.tag])),(hu _ hi.row.lt).trans hi.tag,fun r hr=>(hi.own r hr).fr hf (fun b hb e=>(hF b hb).2 (by rw [e])) hu⟩
theorem FiAt.fr{p:Nat→Prop}(hi:FiAt w tg n h p v)(hf:Fr F w w')(hF:∀b,b∈F→tg b≠(8,h,0))(hu:TgUp w tg tg'):FiAt w' tg' n h p v:=by
 obtain⟨A,c,G,l,e1,e2,e3,e4⟩:=hi
 exact⟨A,c,G,l,e1,e2.fr hf (fun g hg hgF=>hF g hgF (e3 g hg)),fun g hg=>(hu g (e2.lt g hg)).trans (e3 g hg),e4⟩
theorem Fi.fr(hi:Fi w tg fB n p V)(hf:Fr F w w')(hF:∀b,b∈F→(tg b).1≠5∧(tg b).1≠8)(hu:TgUp w tg tg'):Fi w' tg' fB n p V:=
 ⟨hi.row.fr hf (fun hb=>(hF _ hb).1 (by rw [hi.tag])),(hu _ hi.row.lt).trans hi.tag,fun r hr=>(hi.own r hr).fr hf (fun b hb e=>(hF b hb).2 (by rw [e])) hu⟩
theorem IxAt.congr{r:Nat}{p q:Nat→Prop}(hi:IxAt w tg kd n r p v)(e:∀x,x<n→(p x↔q x)):IxAt w tg kd n r q v:=by
 rcases hi with⟨e1,e2⟩ | ⟨b,f,e1,e2,e3,e4,e5⟩
 ·exact .inl ⟨e1,fun x hx=>by rw [← e x hx];exact e2 x hx⟩
 ·exact .inr ⟨b,f,e1,e2,e3,e4,fun x hx=>(e5 x hx).trans (e x hx)⟩
theorem Ix.congr{q:Nat→Nat→Prop}(hi:Ix w tg kd rB n p V)(e:∀r,r<n→∀x,x<n→(p r x↔q r x)):Ix w tg kd rB n q V:=⟨hi.row,hi.tag,fun r hr=>(hi.own r hr).congr (e r hr)⟩
theorem FiAt.congr{p q:Nat→Prop}(hi:FiAt w tg n h p v)(e:∀x,x<n→(p x↔q x)):FiAt w tg n h q v:=by
 obtain⟨A,c,G,l,e1,e2,e3,e4,e5⟩:=hi
 exact⟨A,c,G,l,e1,e2,e3,e4,fun s=>(e5 s).trans (and_congr_right fun hs=>e s hs)⟩
theorem Fi.congr{q:Nat→Nat→Prop}(hi:Fi w tg fB n p V)(e:∀r,r<n→∀x,x<n→(p r x↔q r x)):Fi w tg fB n q V:=⟨hi.row,hi.tag,fun r hr=>(hi.own r hr).congr (e r hr)⟩
end
structure SOk(per n:Nat)(σ:RS):Prop where
 dim:Dim per n
 rng:∀h s,σ.way h s≠0→h<n∧s<n∧h≠s∧σ.way h s≤3
 can:∀h c,σ.has h c=true→c<n*per∧(σ.way h (c / per)=1∨σ.way h (c / per)=2)
structure Rs(w:World)(tg:Tg)(sb kb sB hB fB per n:Nat)(σ:RS)(fk:Value→Option Value)(Vs Vh Vf:Nat→Value):Prop where
 ok:SOk per n σ
 st:St w sb kb sB hB fB per n
 tst:tg sb=(1,0,0)
 tok:TgOk w tg
 kn:Kn w tg kb per n σ fk
 src:Ix w tg 6 sB n (fun h s=>σ.way h s≠0) Vs
 hom:Ix w tg 7 hB n (fun s h=>σ.way h s≠0) Vh
 fin:Fi w tg fB n (fun h s=>σ.way h s=2) Vf
section
variable {w w':World}{tg:Tg}{F:List Nat}{sb kb sB hB fB per n:Nat}{σ:RS}{fk:Value→Option Value}{Vs Vh Vf:Nat→Value}
theorem St.fr(h:St w sb kb sB hB fB per n)(hf:Fr F w w')(hb:sb∉F):St w' sb kb sB hB fB per n:=Blk.fr h hf hb
theorem St.c0(h:St w sb kb sB hB fB per n):w.cell? ⟨sb,0,none⟩=some (.int .i64 ((n*per:Nat):Int)):=by rw [Blk.cell h];rfl
theorem St.c1(h:St w sb kb sB hB fB per n):w.cell? ⟨sb,1,none⟩=some (.int .i64 (per:Int)):=by rw [Blk.cell h];rfl
theorem St.c2(h:St w sb kb sB hB fB per n):w.cell? ⟨sb,2,none⟩=some (.map (some kb)):=by rw [Blk.cell h];rfl
theorem St.c3(h:St w sb kb sB hB fB per n):w.cell? ⟨sb,3,none⟩=some (.slice (some ⟨sB,0,none⟩) n n):=by rw [Blk.cell h];rfl
theorem St.c4(h:St w sb kb sB hB fB per n):w.cell? ⟨sb,4,none⟩=some (.slice (some ⟨hB,0,none⟩) n n):=by rw [Blk.cell h];rfl
theorem St.c5(h:St w sb kb sB hB fB per n):w.cell? ⟨sb,5,none⟩=some (.slice (some ⟨fB,0,none⟩) n n):=by rw [Blk.cell h];rfl
theorem Rs.fr(h:Rs w tg sb kb sB hB fB per n σ fk Vs Vh Vf)(hf:Fr F w w')(hF:∀b,b∈F→(tg b).1=0):Rs w' tg sb kb sB hB fB per n σ fk Vs Vh Vf:=
 ⟨h.ok,h.st.fr hf (fun hb=>by have:=hF _ hb;rw [h.tst]at this;cases this),h.tst,fun b hb=>Nat.lt_of_lt_of_le (h.tok b hb) hf.size,
 h.kn.fr hf (fun b hb=>by rw [hF b hb];decide) (TgUp.refl _ _),h.src.fr hf (fun b hb=>by rw [hF b hb];decide) (TgUp.refl _ _),
 h.hom.fr hf (fun b hb=>by rw [hF b hb];decide) (TgUp.refl _ _),h.fin.fr hf (fun b hb=>by rw [hF b hb];decide) (TgUp.refl _ _)⟩
theorem Rs.fr0(h:Rs w tg sb kb sB hB fB per n σ fk Vs Vh Vf)(hf:Fr [] w w'):Rs w' tg sb kb sB hB fB per n σ fk Vs Vh Vf:=h.fr hf (by simp)
end
theorem Kn.at{w:World}{tg:Tg}{kb per n:Nat}{σ:RS}{fk:Value→Option Value}(h:Kn w tg kb per n σ fk)(ok:SOk per n σ)(a b:Int) :
  (∃h s:Nat,a=h∧b=s∧h<n∧s<n∧σ.way h s≠0∧∃v,fk (pairV a b)=some v∧MemIs w tg per (σ.has h) (σ.way h s) h s v) ∨
  (fk (pairV a b)=none∧¬ ∃h s:Nat,a=h∧b=s∧σ.way h s≠0):=by
 by_cases e:∃h s:Nat,a=h∧b=s∧σ.way h s≠0
 ·obtain⟨x,s,rfl,rfl,hw⟩:=e
  obtain⟨h1,h2,_⟩:=ok.rng x s hw
  exact .inl ⟨x,s,rfl,rfl,h1,h2,hw,h.mem x s h1 h2 hw⟩
 ·refine .inr ⟨?_,e⟩
  cases hf:fk (pairV a b)with
  | none=>rfl
  | some v=>
   obtain⟨x,s,_,_,e1,hw⟩:=h.key _ _ hf
   obtain⟨rfl,rfl⟩:=pairV_inj e1
   exact absurd ⟨x,s,rfl,rfl,hw⟩ e
open Go.RowKit Go.Gl Go.Shelf Go.Maps Go.Sort
theorem contains_sl{w:World}{A:Option Addr}{c:Nat}{l:List Int}(h:Sl w A l.length (fun k=>.int .i64 (l.getD k 0)))(hl:l.length≤4611686018427387904)(x:Int) :
  Calls Tryz.prog 67 #[.slice A l.length c,.int .i64 x] w fun e w'=>e=.returned (.bool (decide (x∈l)))∧w=w':=by
 rcases Nat.eq_zero_or_pos l.length with h0 | h0
 ·obtain rfl:l=[]:=List.eq_nil_of_length_eq_zero h0
  refine(Any.slices_Contains_int_empty Tryz.shContains A c x w).mono ?_
  rintro e w' ⟨rfl,rfl⟩
  exact⟨by simp,rfl⟩
 ·obtain⟨b,off,rfl,_,hc⟩:=h h0
  refine(Any.slices_Contains_int Tryz.shContains b off l.length c l x w (Nat.le_refl _) (by omega) hc).mono ?_
  rintro e w' ⟨rfl,rfl⟩
  exact⟨by simp,rfl⟩
theorem binary_sl{w:World}{A:Option Addr}{c:Nat}{l:List Int}(h:Sl w A l.length (fun k=>.int .i64 (l.getD k 0)))(hl:l.length<4611686018427387904)(hs:l.Pairwise (·≤·))(x:Int) :
  Calls Tryz.prog 162 #[.slice A l.length c,.int .i64 x] w fun e w'=>e=.returned (.tuple #[.int .i64 ((l.countP (·<x):Nat):Int),.bool (decide (x∈l))])∧∃q,w'=w.drewN q:=by
 rcases Nat.eq_zero_or_pos l.length with h0 | h0
 ·obtain rfl:l=[]:=List.eq_nil_of_length_eq_zero h0
  refine(Any.slices_BinarySearch_int_empty Tryz.shBinary A c x w).mono ?_
  rintro e w' ⟨rfl,rfl⟩
  exact⟨by simp,0,rfl⟩
 ·obtain⟨b,off,rfl,_,hc⟩:=h h0
  refine(Any.slices_BinarySearch_int Tryz.shBinary b off l.length c l x w (Nat.le_refl _) hl hc (by simpa using hs)).mono ?_
  rintro e w' ⟨rfl,q,rfl⟩
  exact⟨by simp,q,rfl⟩
theorem compare_any(x y:Int)(w:World):Calls Tryz.prog 195 #[.int .i64 x,.int .i64 y] w fun e w'=>e=.returned (.int .i64 (if x<y then -1 else if x>y then 1 else 0))∧w=w':=
 (Any.cmp_Compare_int Tryz.shCompare x y w).mono fun e w' h=>⟨h.1,h.2.symm⟩
theorem Fr_setCells{F:List Nat}{g:Nat}(hg:g∈F):∀(vs:List Value) (o:Nat) (w:World),Fr F w (w.setCells g o vs)
 | [],_,_=>Fr.refl _ _
 | v::r,o,w=>by
  rw [World.setCells]
  exact((Fr.refl F w).setCell (p:=⟨g,o,none⟩) (.inl hg) v).trans_same (Fr_setCells hg r (o+1) _)
theorem Blk_setCells{g:Nat}{t:TypeId}:∀(vs:List Value) (o:Nat) (w:World) (cur:Array Value),Blk w g t cur→∃cur',Blk (w.setCells g o vs) g t cur'∧cur'.size=cur.size
 | [],_,_,cur,h=>⟨cur,h,rfl⟩
 | v::r,o,w,cur,h=>by
  rw [World.setCells]
  obtain⟨cur',h1,h2⟩:=Blk_setCells r (o+1) _ _ (h.put o v)
  exact⟨cur',h1,by rw [h2];simp⟩
theorem Lr_of_cells{w:World}{e:TypeId}{g off n c:Nat}{cur:Array Value}{xs:List Value}(h:Blk w g e cur)(hn:n≤c)(hm:c≤maxLen)(h0:0<c)(hs:off+c≤cur.size)(hl:xs.length=n)(hx:∀j,j<n→w.cell? ⟨g,off+j,none⟩=xs[j]?):Lr w e (some ⟨g,off,none⟩) n c [g] xs:=
 ⟨hl,hn,hm,fun h=>absurd h (by omega),fun _=>⟨g,off,cur,rfl,rfl,h,hs,by
  apply List.ext_getElem?
  intro j
  by_cases hj:j<n
  ·rw [List.getElem?_take_of_lt hj,List.getElem?_drop,Array.getElem?_toList,← h.cell,hx j hj]
  ·rw [List.getElem?_eq_none (by simp;omega),List.getElem?_eq_none (by omega)]⟩⟩
theorem ins_get(l:List Int)(i:Nat)(x:Int)(hi:i≤l.length)(j:Nat):(zv (l.take i++x::l.drop i))[j]?=if j<i then (zv l)[j]? else if j=i then some (.int .i64 x) else (zv l)[j-1]?:=by
 simp only [zv,List.getElem?_map]
 by_cases h1:j<i
 ·rw [if_pos h1,List.getElem?_append_left (by simp;omega),List.getElem?_take_of_lt h1]
 ·rw [if_neg h1,List.getElem?_append_right (by simp;omega),List.length_take,Nat.min_eq_left hi]
  by_cases h2:j=i
  ·subst h2;simp
  ·rw [if_neg h2,show j-i=(j-1-i)+1 by omega,List.getElem?_cons_succ,List.getElem?_drop,show i+(j-1-i)=j-1 by omega]
def InsPost(w:World)(G:List Nat)(l:List Int)(e:Ending)(w':World):Prop:=∃A' c' G',e=.returned (.slice A' l.length c')∧Lr w' 3 A' l.length c' G' (zv l)∧Fr G w w'∧∀g,g∈G'→g∈G∨g=w.heap.size
theorem insert_lr{w:World}{A:Option Addr}{c:Nat}{G:List Nat}{l:List Int}(h:Lr w 3 A l.length c G (zv l)){i:Nat}(hi:i≤l.length){x:Int}{vb:Nat}(hv:Blk w vb 3 #[.int .i64 x])(hvG:vb∉G)(hl:l.length≤1099511627776) :
  Calls Tryz.prog 163 #[.slice A l.length c,.int .i64 (i:Int),.slice (some ⟨vb,0,none⟩) 1 1] w (InsPost w G (l.take i++x::l.drop i)):=by
 have hlen:(l.take i++x::l.drop i).length=l.length+1:=by simp;omega
 have hzl:(zv (l.take i++x::l.drop i)).length=l.length+1:=by rw [zv_len,hlen]
 have hmx:=h.max
 have hle:=h.le
 have hvs:∀(j:Nat) u,[Value.int .i64 x][j]?=some u→w.cell? ⟨vb,0+j,none⟩=some u:=fun j u hj=>by rw [hv.cell,Nat.zero_add,← hj];simp
 have h1v:∀u∈[Value.int .i64 x],u.oneCell'=true:=by simp [Value.oneCell']
 unfold InsPost
 rw [hlen]
 by_cases hroom:l.length+1≤c
 ·obtain⟨g,off,cur,rfl,rfl,hb,hsz,htk⟩:=h.blk (by omega)
  have hcell:∀j,j<l.length→w.cell? ⟨g,off+j,none⟩=(zv l)[j]?:=fun j hj=>by
   rw [hb.cell,← htk,List.getElem?_take_of_lt hj,List.getElem?_drop,Array.getElem?_toList]
  have hsome:∀j,j<c→(w.cell? ⟨g,off+j,none⟩).isSome=true:=fun j hj=>by rw [hb.cell];simp;omega
  have hvg:vb≠g:=by simpa using hvG
  by_cases hin:i<l.length
  ·refine(Any2.slices_Insert_int_shift Tryz.shInsert g off l.length c i vb 0 1 1 (zv l) [.int .i64 x] w hin (by omega) hroom (by unfold maxLen at hmx;omega) hvg (zv_len _) rfl (fun j u hj=>by rw [hcell j (by have:=(List.getElem?_eq_some_iff.1 hj).1;rw [zv_len]at this;exact this),hj]) (fun j hj=>hsome j (by omega)) (fun j _=>hb.frozen _) hvs (zv_one _) h1v 3 3 1 cur.size
    (by simp [World.shape?,show w.heap[vb]?=_ from hv]) (by simp [World.shape?,show w.heap[g]?=_ from hb]) (by omega) (hv.frozen _) (hv.frozen _)).mono ?_
   rintro e w' ⟨rfl,rfl⟩
   obtain⟨cur1,hb1,hs1⟩:=Blk_setCells ((zv l).drop i) (off+(i+1)) _ _ hb.drew
   obtain⟨cur2,hb2,hs2⟩:=Blk_setCells [Value.int .i64 x] (off+i) _ _ hb1
   refine⟨_,_,_,rfl,Lr_of_cells hb2 hroom hmx (by omega) (by rw [hs2,hs1];exact hsz) hzl (fun j hj=>?_),((Fr.refl [g] w).drew.trans_same (Fr_setCells (by simp) _ _ _)).trans_same (Fr_setCells (by simp) _ _ _),fun g' hg'=>.inl hg'⟩
   rw [ins_get _ _ _ hi]
   by_cases hj1:j<i
   ·rw [if_pos hj1,World.cell?_setCells_out _ _ _ _ _ (fun _ _=>.inl (by show off+j<off+i;omega)),World.cell?_setCells_out _ _ _ _ _ (fun _ _=>.inl (by show off+j<off+(i+1);omega))]
    exact hcell j (by omega)
   ·rw [if_neg hj1]
    by_cases hj2:j=i
    ·subst hj2
     rw [if_pos rfl]
     have:=World.cell?_setCells_in g [Value.int .i64 x] (off+j) (w.drew.setCells g (off+(j+1)) ((zv l).drop j)) (fun q hq=>by
      obtain rfl:q=0:=by simpa using hq
      rw [World.cell?_setCells_out _ _ _ _ _ (fun _ _=>.inl (by show off+j+0<off+(j+1);omega))]
      exact hsome j (by omega)) 0 (by simp)
     simpa using this
    ·rw [if_neg hj2,World.cell?_setCells_out _ _ _ _ _ (fun _ _=>.inr (by show off+i+1≤off+j;omega))]
     have hq:j-(i+1)<((zv l).drop i).length:=by rw [List.length_drop,zv_len];omega
     have:=World.cell?_setCells_in g ((zv l).drop i) (off+(i+1)) w.drew (fun q hq=>by
      rw [List.length_drop,zv_len]at hq
      have:=hsome (i+1+q) (by omega)
      rwa [← Nat.add_assoc]at this) (j-(i+1)) hq
     rw [show off+(i+1)+(j-(i+1))=off+j by omega]at this
     rw [this,← List.getElem?_eq_getElem hq,List.getElem?_drop]
     congr 1;omega
  ·obtain rfl:i=l.length:=by omega
   refine(Any2.slices_Insert_int_end_room Tryz.shInsert g off l.length c vb 0 1 1 [.int .i64 x] w (by omega) hroom (by unfold maxLen at hmx;omega) rfl (fun j hj=>by
    obtain rfl:j=0:=by omega
    exact hsome l.length (by omega)) (fun j _=>hb.frozen _) hvs h1v).mono ?_
   rintro e w' ⟨rfl,rfl⟩
   obtain⟨cur2,hb2,hs2⟩:=Blk_setCells [Value.int .i64 x] (off+l.length) _ _ hb
   refine⟨_,_,_,rfl,Lr_of_cells hb2 hroom hmx (by omega) (by rw [hs2];exact hsz) hzl (fun j hj=>?_),Fr_setCells (by simp) _ _ _,fun g' hg'=>.inl hg'⟩
   rw [ins_get _ _ _ hi]
   by_cases hj1:j<l.length
   ·rw [if_pos hj1,World.cell?_setCells_out _ _ _ _ _ (fun _ _=>.inl (by show off+j<off+l.length;omega))]
    exact hcell j hj1
   ·obtain rfl:j=l.length:=by omega
    rw [if_neg hj1,if_pos rfl]
    have:=World.cell?_setCells_in g [Value.int .i64 x] (off+l.length) w (fun q hq=>by
     obtain rfl:q=0:=by simpa using hq
     exact hsome l.length (by omega)) 0 (by simp)
    simpa using this
 ·obtain rfl:c=l.length:=by omega
  have hge:=grownCap_ge w (l.length+1) l.length 3
  have hcm:grownCap w (l.length+1) l.length 3≤maxLen:=grownCap_le_maxLen w (l.length+1) l.length 3 (by unfold maxLen;omega)
  by_cases hin:i<l.length
  ·obtain⟨g,off,rfl,rfl,_,hcell,_⟩:=h.pos (by omega)
   refine(Any2.slices_Insert_int_grow Tryz.shInsert g off l.length l.length i vb 0 1 1 (zv l) [.int .i64 x] w hin (by omega) (Nat.le_refl _) (by omega) (by omega) (zv_len _) rfl (fun j u hj=>by rw [hcell j (by have:=(List.getElem?_eq_some_iff.1 hj).1;rw [zv_len]at this;exact this),hj]) hvs (zv_one _) h1v).mono ?_
   rintro e w' ⟨rfl,rfl⟩
   simp only [show Tryz.shInsert_ren.t 3=3 from rfl]
   have hb0:=Blk.new w 3 (((zv l).take i).toArray++Builtin.zeroCells (Value.int .i64 0).cells (l.length+1-i)++Builtin.zeroCells (Value.int .i64 0).cells (grownCap w (l.length+1) l.length 3-(l.length+1)))
   have hsz:(((zv l).take i).toArray++Builtin.zeroCells (Value.int .i64 0).cells (l.length+1-i)++Builtin.zeroCells (Value.int .i64 0).cells (grownCap w (l.length+1) l.length 3-(l.length+1))).size=grownCap w (l.length+1) l.length 3:=by
    have hl':(zv l).length=l.length:=zv_len l
    simp [size_zeroCells,Value.cells,hl']
    omega
   have hlt:∀j,j<i→(((zv l).take i).toArray++Builtin.zeroCells (Value.int .i64 0).cells (l.length+1-i)++Builtin.zeroCells (Value.int .i64 0).cells (grownCap w (l.length+1) l.length 3-(l.length+1)))[j]?=(zv l)[j]?:=fun j hj=>by
    have hl':(zv l).length=l.length:=zv_len l
    rw [Array.getElem?_append_left (by simp [size_zeroCells,Value.cells,hl'];omega),Array.getElem?_append_left (by simp [hl'];omega)]
    simp [hj]
   generalize ((zv l).take i).toArray++Builtin.zeroCells (Value.int .i64 0).cells (l.length+1-i)++Builtin.zeroCells (Value.int .i64 0).cells (grownCap w (l.length+1) l.length 3-(l.length+1))=cur at *
   generalize grownCap w (l.length+1) l.length 3=gc at *
   obtain⟨cur1,hb1,hs1⟩:=Blk_setCells [Value.int .i64 x] i _ _ hb0.drew
   obtain⟨cur2,hb2,hs2⟩:=Blk_setCells ((zv l).drop i) (i+1) _ _ hb1.drew
   refine⟨_,_,_,rfl,Lr_of_cells hb2 (by omega) hcm (by omega) (by rw [hs2,hs1];omega) hzl (fun j hj=>?_),Fr.mono (((((Fr.refl [w.heap.size] w).alloc _).drew.trans_same (Fr_setCells (by simp) _ _ _)).drew).trans_same (Fr_setCells (by simp) _ _ _)) (fun y hy=>.inr (by simp at hy;omega)),fun g' hg'=>.inr (by simpa using hg')⟩
   rw [ins_get _ _ _ hi,Nat.zero_add]
   have hsome:∀j,j<gc→((w.alloc (.cells cur 3)).drew.cell? ⟨w.heap.size,j,none⟩).isSome=true:=fun j hj=>by rw [hb0.drew.cell];simp;omega
   by_cases hj1:j<i
   ·rw [if_pos hj1,World.cell?_setCells_out _ _ _ _ _ (fun _ _=>.inl (by show j<i+1;omega))]
    show World.cell? (World.setCells _ _ _ _) _=_
    rw [World.cell?_setCells_out _ _ _ _ _ (fun _ _=>.inl (by show j<i;omega)),hb0.drew.cell,hlt j hj1]
   ·rw [if_neg hj1]
    by_cases hj2:j=i
    ·subst hj2
     rw [if_pos rfl,World.cell?_setCells_out _ _ _ _ _ (fun _ _=>.inl (by show j<j+1;omega))]
     have:=World.cell?_setCells_in w.heap.size [Value.int .i64 x] j (w.alloc (.cells cur 3)).drew (fun q hq=>by
      obtain rfl:q=0:=by simpa using hq
      exact hsome j (by omega)) 0 (by simp)
     simpa using this
    ·rw [if_neg hj2]
     have hq:j-(i+1)<((zv l).drop i).length:=by rw [List.length_drop,zv_len];omega
     have:=World.cell?_setCells_in w.heap.size ((zv l).drop i) (i+1) ((w.alloc (.cells cur 3)).drew.setCells w.heap.size i [.int .i64 x]).drew (fun q hq=>by
      rw [List.length_drop,zv_len]at hq
      rw [hb1.drew.cell]
      simp
      omega) (j-(i+1)) hq
     rw [show i+1+(j-(i+1))=j by omega]at this
     rw [this,← List.getElem?_eq_getElem hq,List.getElem?_drop]
     congr 1;omega
  ·obtain rfl:i=l.length:=by omega
   refine(Any2.slices_Insert_int_end_grow Tryz.shInsert A l.length l.length vb 0 1 1 (zv l) [.int .i64 x] w (by omega) (Nat.le_refl _) (by omega) (by omega) (zv_len _) rfl (fun hA=>by
    rcases Nat.eq_zero_or_pos l.length with h0 | h0
    ·exact h0
    ·obtain⟨g,off,e1,_⟩:=h.pos h0
     rw [hA]at e1;cases e1) (fun a ha j u hj=>by
    have hj':j<l.length:=by have:=(List.getElem?_eq_some_iff.1 hj).1;rw [zv_len]at this;exact this
    obtain⟨ad,e1,e2⟩:=h.read (by omega)
    rw [ha]at e1
    cases e1
    exact e2 j u hj) hvs h1v).mono ?_
   rintro e w' ⟨rfl,rfl⟩
   simp only [show Tryz.shInsert_ren.t 3=3 from rfl]
   refine⟨_,_,[w.heap.size],rfl,⟨hzl,hge,hcm,fun h=>absurd h (by omega),fun _=>⟨w.heap.size,0,_,rfl,rfl,Blk.new w.drew _ _,?_,?_⟩⟩,((Fr.refl _ _).drew).alloc _,fun g' hg'=>.inr (by simpa using hg')⟩
   ·have hl':(zv l).length=l.length:=zv_len l
    simp [size_zeroCells,Value.cells,hl'];omega
   ·have e1:zv (l.take l.length++x::l.drop l.length)=zv l++[.int .i64 x]:=by simp [zv]
    rw [e1]
    simp only [Array.toList_append,List.drop_zero]
    rw [List.take_append_of_le_length (by simp [zv_len]),List.take_of_length_le (by simp [zv_len])]
section
variable {w:World}{sb kb sB hB fB per n:Nat}
theorem isRegion_any(h:St w sb kb sB hB fB per n)(hd:Dim per n)(r:Int):Calls Tryz.prog 46 #[.pointer (some ⟨sb,0,none⟩),.int .i64 r] w fun e w'=>e=.returned (.bool (decide (0≤r∧r<(n:Int))))∧w=w':=by
 have c5:=h.c5
 have hn:=hd.n2
 clear h hd
 go_enter Tryz.func46,Tryz.ntmps46
 go_wp2
 all_goals go_ret
 all_goals
  rename_i hi
  refine⟨ret_bool ?_,rfl⟩
  first | (simp [hi];done) | (simp;omega)
theorem isCard_any(h:St w sb kb sB hB fB per n)(hd:Dim per n)(c:Int):Calls Tryz.prog 65 #[.pointer (some ⟨sb,0,none⟩),.int .i64 c] w fun e w'=>e=.returned (.bool (decide (0≤c∧c<((n*per:Nat):Int))))∧w=w':=by
 have c0:=h.c0
 have hn:=hd.p2
 generalize n*per=nc at *
 clear h hd
 go_enter Tryz.func65,Tryz.ntmps65
 go_wp2
 all_goals go_ret
 all_goals
  rename_i hi
  refine⟨ret_bool ?_,rfl⟩
  first | (simp [hi];done) | (simp;omega)
theorem sourceOf_any(h:St w sb kb sB hB fB per n)(hd:Dim per n){c:Nat}(hc:c<n*per):Calls Tryz.prog 66 #[.pointer (some ⟨sb,0,none⟩),.int .i64 (c:Int)] w fun e w'=>e=.returned (.int .i64 ((c / per:Nat):Int))∧w=w':=by
 have c1:=h.c1
 have hp:=hd.p1
 have h3:=hd.p3
 have h2:=hd.p2
 have hp0:¬ ((per:Int)=0):=by omega
 have hq:c / per≤c:=Nat.div_le_self _ _
 have HQ:(c:Int) / (per:Int)=((c / per:Nat):Int):=by simp
 have HQ':(c:Int).tdiv (per:Int)=((c / per:Nat):Int):=by rw [Int.tdiv_eq_ediv_of_nonneg (Int.natCast_nonneg _)];simp
 generalize c / per=q at *
 have hq2:q≤4194304:=by omega
 clear h hd
 go_enter Tryz.func66,Tryz.ntmps66
 go_wp2
 all_goals go_ret
 all_goals exact⟨ret_int (by go_num),rfl⟩
theorem swithin_any(h:St w sb kb sB hB fB per n)(hd:Dim per n){c:Nat}(hc:c<n*per):Calls Tryz.prog 68 #[.pointer (some ⟨sb,0,none⟩),.int .i64 (c:Int)] w fun e w'=>e=.returned (.int .i64 ((c % per:Nat):Int))∧w=w':=by
 have c1:=h.c1
 have hp:=hd.p1
 have h3:=hd.p3
 have hp0:¬ ((per:Int)=0):=by omega
 have hq:c % per<per:=Nat.mod_lt _ hp
 have HQ:(c:Int) % (per:Int)=((c % per:Nat):Int):=by simp
 have HQ':(c:Int).tmod (per:Int)=((c % per:Nat):Int):=by rw [Int.tmod_eq_emod_of_nonneg (Int.natCast_nonneg _)];simp
 generalize c % per=q at *
 have hq2:q≤4194304:=by omega
 clear h hd
 go_enter Tryz.func68,Tryz.ntmps68
 go_wp2
 all_goals go_ret
 all_goals exact⟨ret_int (by go_num),rfl⟩
end
def wayI(σ:RS)(a b:Int):Nat:=if 0≤a∧0≤b then σ.way a.toNat b.toNat else 0
def setTg(tg:Tg)(b:Nat)(t:Nat×Nat×Nat):Tg:=fun x=>if x=b then t else tg x
theorem setTg_at(tg:Tg)(b:Nat)(t):setTg tg b t b=t:=by simp [setTg]
theorem setTg_ne(tg:Tg){b x:Nat}(t)(h:x≠b):setTg tg b t x=tg x:=by simp [setTg,h]
theorem TgUp.set{w:World}{tg:Tg}{b:Nat}(t)(h:w.heap.size≤b):TgUp w tg (setTg tg b t):=fun x hx=>setTg_ne _ _ (by omega)
def PutPost(w:World)(tg:Tg)(kd rB n:Nat)(p:Nat→Nat→Prop)(e:Ending)(w':World):Prop:=
 ∃V' tg' F,e=.returned (.tuple #[])∧Ix w' tg' kd rB n p V'∧Fr F w w'∧(∀b,b∈F→(tg b).1=kd-3∨(tg b).1=kd)∧TgUp w tg tg'∧(TgOk w tg→TgOk w' tg')
set_option maxRecDepth 100000 in
set_option maxHeartbeats 1600000 in
theorem rput_any{w:World}{tg:Tg}{kd rB n r x:Nat}{p:Nat→Nat→Prop}{V:Nat→Value}(h:Ix w tg kd rB n p V)(hkd:4≤kd)(hr:r<n)(hx:x<n)(hn:n≤65536) :
  Calls Tryz.prog 165 #[.slice (some ⟨rB,0,none⟩) n n,.int .i64 (r:Int),.int .i64 (x:Int)] w (PutPost w tg kd rB n (fun a b=>p a b∨(a=r∧b=x))):=by
 have hr1:(r:Int)<(n:Int):=by omega
 have hkey:=intKey (x:Int) (wf_nat (by omega))
 have cr:w.cell? ⟨rB,r,none⟩=some (V r):=by rw [h.row.cell,rowF_at hr]
 have fr:w.frozen? ⟨rB,r,none⟩=false:=h.row.frozen r
 have N0:rB<w.heap.size:=h.row.lt
 have HX:=hide hx
 have HK:=hide hkey
 rcases h.own r hr with⟨hv,hno⟩ | ⟨b,f,hv,hm,ht,hf,hfp⟩
 ·rw [hv]at cr
  have H:=hide h
  have HV:=hide hv
  have HNo:=hide hno
  have HM0:Hid (Mp Tryz.prog 3 ((w.setCell ⟨rB,r,none⟩ (.map (some w.heap.size))).alloc (.map #[] 0)) w.heap.size (fun _=>none)):=by
   have:=Mp.made (P:=Tryz.prog) (k:=3) (w.setCell ⟨rB,r,none⟩ (.map (some w.heap.size)))
   have e:(w.setCell ⟨rB,r,none⟩ (.map (some w.heap.size))).heap.size=w.heap.size:=by simp
   rw [e]at this;exact this
  have hmm:=@run_makeMap Tryz.prog
  have he:(binOp .eql 97 (.map none) (.map none)).run Tryz.prog w=.ok (.bool true) w:=run_eql_map_nil w _ _ _ none Tryz.underlying97
  clear h hv hno hx hkey
  go_enter Tryz.func165,Tryz.ntmps165
  go_wp2_with (at_mapUpdate;refine list_of rfl fun K hK=>wp_update (key:=.int .i64 (x:Int)) (v:=.agg #[]) _ _ _ 97 rfl Tryz.intLaw Tryz.underlying97 HM0.out (Fr.refl _ _) rfl rfl HK.out rfl ?_;intro w1 hM hF;refine hK _ _ ?_)
  go_end0
  have hs0:Fr [rB] w ((w.setCell ⟨rB,r,none⟩ (.map (some w.heap.size))).alloc (.map #[] 0)):=((Fr.refl _ _).setCell (p:=⟨rB,r,none⟩) (.inl (by simp)) _).alloc _
  have hF1:Fr [rB] w w1:=hs0.trans hF.out (fun y hy=>.inr (by simp at hy;omega))
  have hrow:Blk ((w.setCell ⟨rB,r,none⟩ (.map (some w.heap.size))).alloc (.map #[] 0)) rB 97 (rowF n (putF V r (.map (some w.heap.size)))):=by
   have:=H.out.row.put r (.map (some w.heap.size))
   rw [rowF_set]at this;exact this.alloc _
  have hu:=TgUp.set (w:=w) (tg:=tg) (b:=w.heap.size) (kd,r,0) (Nat.le_refl _)
  refine⟨putF V r (.map (some w.heap.size)),setTg tg w.heap.size (kd,r,0),[rB],rfl,⟨hrow.fr hF.out (by simp;omega),(hu rB N0).trans H.out.tag,fun r' hr'=>?_⟩,hF1,fun b hb=>.inl (by simp at hb;subst hb;rw [H.out.tag]),hu,fun hk b hb=>?_⟩
  ·by_cases e:r'=r
   ·subst e
    rw [putF_at]
    refine .inr ⟨_,_,rfl,hM.out,setTg_at _ _ _,fun y v hy=>?_,fun s hs=>?_⟩
    ·by_cases e2:y=.int .i64 (x:Int)
     ·exact⟨x,HX.out,e2⟩
     ·rw [upF_ne _ _ e2]at hy;cases hy
    ·by_cases e2:s=x
     ·subst e2;rw [upF_at];simp
     ·rw [upF_ne _ _ (by simp;omega)]
      have:=HNo.out s hs
      simp [this,e2]
   ·rw [putF_ne _ _ e]
    exact((H.out.own r' hr').fr hF1 (fun b hb hq=>by simp at hb;subst hb;rw [H.out.tag]at hq;injection hq with h1;omega) hu).congr fun y hy=>by simp [e]
  ·by_cases e:b=w.heap.size
   ·have:=hF1.size
    have h3:=hM.out.lt
    omega
   ·rw [setTg_ne _ _ e]at hb
    exact Nat.lt_of_lt_of_le (hk b hb) hF1.size
 ·rw [hv]at cr
  have H:=hide h
  have HV:=hide hv
  have HM0:=hide hm
  have HT:=hide ht
  have HFs:=hide hf
  have HFp:=hide hfp
  have he:(binOp .eql 97 (.map (some b)) (.map none)).run Tryz.prog w=.ok (.bool false) w:=run_eql_map_nil w _ _ _ (some b) Tryz.underlying97
  clear h hv hm ht hf hfp hx hkey
  go_enter Tryz.func165,Tryz.ntmps165
  go_wp2_with (at_mapUpdate;refine list_of rfl fun K hK=>wp_update (key:=.int .i64 (x:Int)) (v:=.agg #[]) _ _ _ 97 rfl Tryz.intLaw Tryz.underlying97 HM0.out (Fr.refl _ _) rfl rfl HK.out rfl ?_;intro w1 hM hF;refine hK _ _ ?_)
  go_end0
  have hbB:b≠rB:=HM0.out.blk_ne H.out.row
  refine⟨V,tg,[b],rfl,⟨H.out.row.fr hF.out (by simpa using Ne.symm hbB),H.out.tag,fun r' hr'=>?_⟩,hF.out,fun y hy=>.inr (by simp at hy;subst hy;rw [HT.out]),TgUp.refl _ _,fun hk b hb=>Nat.lt_of_lt_of_le (hk b hb) hF.out.size⟩
  by_cases e:r'=r
  ·subst e
   rw [HV.out]
   refine .inr ⟨b,_,rfl,hM.out,HT.out,fun y v hy=>?_,fun s hs=>?_⟩
   ·by_cases e2:y=.int .i64 (x:Int)
    ·exact⟨x,HX.out,e2⟩
    ·rw [upF_ne _ _ e2]at hy;exact HFs.out y v hy
   ·by_cases e2:s=x
    ·subst e2;rw [upF_at];simp
    ·rw [upF_ne _ _ (by simp;omega),HFp.out s hs]
     simp [e2]
  ·exact((H.out.own r' hr').fr hF.out (fun y hy hq=>by simp at hy;subst hy;rw [HT.out]at hq;injection hq with _ h2;injection h2 with h2;exact e h2.symm) (TgUp.refl _ _)).congr fun y hy=>by simp [e]
def RS.put(σ:RS)(per h s k:Nat)(g:Nat→Bool):RS:=⟨fun a b=>if a=h∧b=s then k else σ.way a b,fun a c=>if a=h∧c / per=s then g c else σ.has a c⟩
theorem RS.way_at(σ:RS)(per h s k:Nat)(g:Nat→Bool):(σ.put per h s k g).way h s=k:=by simp [RS.put]
theorem RS.way_ne(σ:RS)(per:Nat){h s a b:Nat}(k:Nat)(g:Nat→Bool)(e:¬ (a=h∧b=s)):(σ.put per h s k g).way a b=σ.way a b:=by simp only [RS.put];rw [if_neg e]
theorem RS.has_at(σ:RS)(per h s k:Nat)(g:Nat→Bool){c:Nat}(e:c / per=s):(σ.put per h s k g).has h c=g c:=by simp [RS.put,e]
theorem RS.has_ne(σ:RS)(per:Nat){h s a c:Nat}(k:Nat)(g:Nat→Bool)(e:¬ (a=h∧c / per=s)):(σ.put per h s k g).has a c=σ.has a c:=by simp only [RS.put];rw [if_neg e]
section
variable {w w1 w2:World}{tg tg':Tg}{F:List Nat}{per n h s kb k way:Nat}{has has' g:Nat→Bool}{v:Value}{σ:RS}{fk:Value→Option Value}
theorem MemIs.congr(hm:MemIs w tg per has way h s v)(e:∀c,c / per=s→has c=has' c):MemIs w tg per has' way h s v:=by
 rcases hm with⟨e0,A,c,G,l,e1,e2,e3,e4⟩ | ⟨e0,bs,bw,ws,e1,e2,e3,e4,e5⟩ | hm
 ·refine .inl ⟨e0,A,c,G,l,e1,e2,e3,e4.up,fun x=>(e4.mem x).trans ?_,e4.len⟩
  constructor
  ·rintro⟨c,h1,h2,h3⟩;exact⟨c,h1,h2,by rw [← e c h2];exact h3⟩
  ·rintro⟨c,h1,h2,h3⟩;exact⟨c,h1,h2,by rw [e c h2];exact h3⟩
 ·refine .inr (.inl ⟨e0,bs,bw,ws,e1,e2,e3,e4,fun i hi=>(e5 i hi).trans (e _ ?_)⟩)
  rw [Nat.mul_comm,Nat.mul_add_div (by omega),Nat.div_eq_of_lt hi,Nat.add_zero]
 ·exact .inr (.inr hm)
theorem Kn.up(hK:Kn w tg kb per n σ fk)(hh:h<n)(hs:s<n)(hk:k≠0)(hf:Fr F w w1)(hF:∀b,b∈F→(tg b).1≠2∧((tg b).1=9∨(tg b).1=10→(tg b).2=(h,s)))(hu:TgUp w tg tg')
  (hM:Mp Tryz.prog 105 w2 kb (upF fk (pairV h s) v)) (hf2:Fr [kb] w1 w2) (hm:MemIs w1 tg' per g k h s v):Kn w2 tg' kb per n (σ.put per h s k g) (upF fk (pairV h s) v):=by
 have hkb:tg' kb=(2,0,0):=(hu _ hK.mp.lt).trans hK.tag
 refine⟨hM,hkb,fun x v' hx=>?_,fun a b ha hb hw=>?_⟩
 ·by_cases e:x=pairV h s
  ·exact⟨h,s,hh,hs,e,by rw [RS.way_at];exact hk⟩
  ·rw [upF_ne _ _ e]at hx
   obtain⟨a,b,h1,h2,h3,h4⟩:=hK.key _ _ hx
   refine⟨a,b,h1,h2,h3,?_⟩
   rw [RS.way_ne]
   ·exact h4
   ·rintro⟨rfl,rfl⟩;exact e h3
 ·by_cases e:a=h∧b=s
  ·obtain⟨rfl,rfl⟩:=e
   refine⟨v,upF_at _ _ _,?_⟩
   rw [RS.way_at]
   refine(hm.fr hf2 (fun y hy=>?_) (TgUp.refl _ _)).congr fun c hc=>(RS.has_at _ _ _ _ _ _ hc).symm
   simp at hy;subst hy;rw [hkb];simp
  ·rw [RS.way_ne _ _ _ _ e]at hw ⊢
   obtain⟨v',e1,e2⟩:=hK.mem a b ha hb hw
   refine⟨v',?_,?_⟩
   ·rw [upF_ne]
    ·exact e1
    ·intro e3;have:=pairV_inj e3;exact e ⟨by omega,by omega⟩
   ·refine((e2.fr hf (fun y hy=>?_) hu).fr hf2 (fun y hy=>?_) (TgUp.refl _ _)).congr fun c hc=>(RS.has_ne _ _ _ _ (fun e4=>e ⟨e4.1,hc.symm.trans e4.2⟩)).symm
    ·have h1:=(hF y hy).2
     constructor
     ·intro e5;rw [e5]at h1;have:=h1 (.inl rfl);injection this with h6 h7;exact e ⟨h6,h7⟩
     ·intro e5;rw [e5]at h1;have:=h1 (.inr rfl);injection this with h6 h7;exact e ⟨h6,h7⟩
    ·simp at hy;subst hy;rw [hkb];simp
theorem Kn.off(hK:Kn w tg kb per n σ fk)(hM:Mp Tryz.prog 105 w2 kb (offF fk (pairV h s)))(hf2:Fr [kb] w w2):Kn w2 tg kb per n (σ.put per h s 0 (fun _=>false)) (offF fk (pairV h s)):=by
 refine⟨hM,hK.tag,fun x v' hx=>?_,fun a b ha hb hw=>?_⟩
 ·by_cases e:x=pairV h s
  ·subst e;rw [offF_at]at hx;cases hx
  ·rw [offF_ne _ e]at hx
   obtain⟨a,b,h1,h2,h3,h4⟩:=hK.key _ _ hx
   refine⟨a,b,h1,h2,h3,?_⟩
   rw [RS.way_ne]
   ·exact h4
   ·rintro⟨rfl,rfl⟩;exact e h3
 ·by_cases e:a=h∧b=s
  ·obtain⟨rfl,rfl⟩:=e;rw [RS.way_at]at hw;exact absurd rfl hw
  ·rw [RS.way_ne _ _ _ _ e]at hw ⊢
   obtain⟨v',e1,e2⟩:=hK.mem a b ha hb hw
   refine⟨v',?_,?_⟩
   ·rw [offF_ne]
    ·exact e1
    ·intro e3;have:=pairV_inj e3;exact e ⟨by omega,by omega⟩
   ·refine(e2.fr hf2 (fun y hy=>?_) (TgUp.refl _ _)).congr fun c hc=>(RS.has_ne _ _ _ _ (fun e4=>e ⟨e4.1,hc.symm.trans e4.2⟩)).symm
    simp at hy;subst hy;rw [hK.tag];simp
theorem SOk.put(ok:SOk per n σ)(hk:k≠0→h<n∧s<n∧h≠s∧k≤3)(hg:∀c,c / per=s→g c=true→c<n*per∧(k=1∨k=2)):SOk per n (σ.put per h s k g):=by
 refine⟨ok.dim,fun a b hw=>?_,fun a c hc=>?_⟩
 ·by_cases e:a=h∧b=s
  ·obtain⟨rfl,rfl⟩:=e;rw [RS.way_at]at hw ⊢;exact hk hw
  ·rw [RS.way_ne _ _ _ _ e]at hw ⊢;exact ok.rng a b hw
 ·by_cases e:a=h∧c / per=s
  ·obtain⟨rfl,e2⟩:=e;rw [RS.has_at _ _ _ _ _ _ e2]at hc;rw [e2,RS.way_at];exact hg c e2 hc
  ·rw [RS.has_ne _ _ _ _ e]at hc;rw [RS.way_ne _ _ _ _ e];exact ok.can a c hc
end
open Go.WideElems (Fit rd rg rd_key rg_of rd_mk)
theorem nodup_below:∀(n:Nat) (l:List Nat),l.Nodup→(∀x∈l,x<n)→l.length≤n
 | 0,l,_,h=>by
  cases l with
  | nil=>simp
  | cons a r=>exact absurd (h a (by simp)) (by omega)
 | n+1,l,hn,h=>by
  have h1:=List.length_eq_countP_add_countP (fun x=>x==n) (l:=l)
  have h2:l.countP (fun x=>x==n)≤1:=List.nodup_iff_count.1 hn n
  have h3:=nodup_below n (l.filter fun x=>!(x==n)) (hn.filter _) (fun x hx=>by
   obtain⟨a,b⟩:=List.mem_filter.1 hx
   have:=h x a
   simp at b
   omega)
  rw [← List.countP_eq_length_filter]at h3
  simp only [decide_not,Bool.decide_eq_true]at h1 h3
  have e:l.countP (fun x=>!(x==n))=l.countP (fun x=>decide ¬(x==n)=true):=by congr 1;funext x;cases (x==n) <;> rfl
  simp only [decide_not,Bool.decide_eq_true]at e
  omega
def unitR:Value→Option (DataW Unit×List MemPlace):=fun _=>some (.nil,[])
theorem ents_keys{es:Array MapEntry}{clock:Nat}{f:Value→Option Value}(E:Ents Tryz.prog 3 es clock f){n:Nat}(hn:n≤1048576)(hk:∀x v,f x=some v→∃s:Nat,s<n∧x=.int .i64 (s:Int)) :
  es.size≤n∧Fit Tryz.prog 3 unitR es clock∧∀x∈es.toList,∃s:Nat,s<n∧x.key=.int .i64 (s:Int)∧(rg Tryz.prog 3 unitR x).1=.int .i64 (s:Int):=by
 have h1:∀x∈es.toList,∃s:Nat,s<n∧x.key=.int .i64 (s:Int)∧rd Tryz.prog 3 unitR x=some (.int .i64 (s:Int),.nil):=fun x hx=>by
  obtain⟨s,h2,h3⟩:=hk _ _ (E.val x hx)
  have h4:=intKey (s:Int) (wf_nat (by omega))
  rw [← h3]at h4
  exact⟨s,h2,h3,by unfold WideElems.rd;rw [h4];rfl⟩
 have hsz:es.size≤n:=by
  have:=nodup_below n (es.toList.map fun x=>(match x.key with | .int _ a=>a.toNat | _=>0)) (by
   refine List.pairwise_map.2 (((MapKept.stamped_iff es clock).1 E.st).2.2.imp_of_mem fun {p q} hp hq hne e=>hne ?_)
   obtain⟨a,_,ha,_⟩:=h1 p hp
   obtain⟨b,_,hb,_⟩:=h1 q hq
   rw [ha,hb]at e ⊢
   simp at e
   rw [e]) (fun y hy=>by
   obtain⟨x,hx,rfl⟩:=List.mem_map.1 hy
   obtain⟨a,h2,ha,_⟩:=h1 x hx
   rw [ha];simpa using h2)
  simpa using this
 refine⟨hsz,⟨by unfold maxLen;omega,E.st,fun x hx=>?_⟩,fun x hx=>?_⟩
 ·obtain⟨s,_,_,h⟩:=h1 x hx
  exact⟨_,h⟩
 ·obtain⟨s,h2,h3,h⟩:=h1 x hx
  exact⟨s,h2,h3,by rw [rg_of h]⟩
theorem keysI_any(mb:Option Nat)(W:World):Calls Tryz.prog 54 #[.map mb] W fun e w'=>e=.returned (.func (.func 105) #[] #[.pointer (some ⟨W.heap.size,0,none⟩)])∧w'=W.alloc (.cells #[.map mb] 97):=
 (callsIn_wide (n:=6)).1 (AnyZI.keys_in Tryz.shKeys Fence.wide 6 trivial rfl mb W)
theorem sortsI(m:Nat):AnyZI.SortsIn Tryz.prog Tryz.shSorted_ren Fence.wide m:=
 ⟨fun blk off cap ss W hH hblk hsz=>callsIn_wide.2 (AnyM.slices_Sort_int Tryz.shSort blk off cap ss W hH hblk hsz),
 fun p cap W=>callsIn_wide.2 (AnyM.slices_Sort_int_none Tryz.shSort p cap W)⟩
def KeysPost(w:World)(p:Int→Prop)(e:Ending)(w':World):Prop:=∃(A:Option Addr) (c:Nat) (G:List Nat) (ks:List Int),e=.returned (.slice A ks.length c)∧Lr w' 3 A ks.length c G (zv ks)∧ks.Pairwise (·<·)∧(∀x,x∈ks↔p x)∧Fr [] w w'∧∀g,g∈G→w.heap.size≤g
set_option maxHeartbeats 1000000 in
theorem sortedI_any{w:World}{b:Nat}{f:Value→Option Value}(h:Mp Tryz.prog 3 w b f){n:Nat}(hn:n≤1048576)(hk:∀x v,f x=some v→∃s:Nat,s<n∧x=.int .i64 (s:Int)){kb:Nat}(hkb:w.heap.size=kb){w1:World}(hw1:w1=w.alloc (.cells #[.map (some b)] 97)) :
  Calls Tryz.prog 53 #[.func (.func 105) #[] #[.pointer (some ⟨kb,0,none⟩)]] w1 (KeysPost w1 fun x=>f (.int .i64 x)≠none):=by
 subst hkb hw1
 obtain⟨es,clock,hb,E⟩:=h
 obtain⟨hsz,F,hkk⟩:=ents_keys E hn hk
 have hbl:b<w.heap.size:=(Array.getElem?_eq_some_iff.1 hb).1
 obtain⟨D0,hD⟩:∃D0:DataW Unit,D0=.map ((es.toList.map (rg Tryz.prog 3 unitR)).foldr DataW.insert []):=⟨_,rfl⟩
 have hown:w.ownsMap Tryz.prog 3 unitR b n D0:=⟨es,clock,hb,F,hsz,hD⟩
 have hsize:Maps.size D0≤n:=by rw [hD];simp [Maps.size,length_sorted];exact hsz
 have hmem:∀x:Int,x∈intKeys D0↔f (.int .i64 x)≠none:=fun x=>by
  rw [hD]
  show x∈List.map _ _↔_
  rw [List.mem_map]
  constructor
  ·rintro⟨p,hp,rfl⟩
   obtain⟨y,hy,rfl⟩:=List.mem_map.1 (mem_sorted.1 hp)
   obtain⟨s,_,h3,h4⟩:=hkk y hy
   rw [h4]
   have:=E.val y hy
   rw [h3]at this
   show f (.int .i64 (s:Int))≠none
   rw [this];simp
  ·intro hx
   obtain⟨v,hv⟩:=Option.ne_none_iff_exists'.1 hx
   obtain⟨y,hy,h5,_⟩:=E.ofF _ _ hv
   obtain⟨s,_,h3,h4⟩:=hkk y hy
   refine⟨_,mem_sorted.2 (List.mem_map.2 ⟨y,hy,rfl⟩),?_⟩
   rw [h4]
   rw [h5]at h3
   cases h3
   rfl
 have hnd:(intKeys D0).Nodup:=by
  rw [hD]
  show(List.map _ _).Nodup
  have hp:=((Go.WideShapes.sorted_perm (es.toList.map (rg Tryz.prog 3 unitR))).pairwise_iff (fun {_ _} hne=>Ne.symm hne)).2 (Maps.fit_apart Tryz.intLaw F)
  refine List.pairwise_map.2 (hp.imp_of_mem fun {p q} hp' hq' hne e=>hne ?_)
  obtain⟨y,hy,rfl⟩:=List.mem_map.1 (mem_sorted.1 hp')
  obtain⟨z,hz,rfl⟩:=List.mem_map.1 (mem_sorted.1 hq')
  obtain⟨s,_,_,h4⟩:=hkk y hy
  obtain⟨s',_,_,h4'⟩:=hkk z hz
  rw [h4,h4']at e ⊢
  exact congrArg _ e
 refine(callsIn_wide (n:=6)).1 ?_
 have hseq:SeqGives Fence.wide 3 Tryz.prog 105 #[.pointer (some ⟨w.heap.size,0,none⟩)] encZ (fun ss=>ss.Perm (intKeys D0)) (Maps.size D0) (w.alloc (.cells #[.map (some b)] 97)):=
  AnyZI.keys_gives (ρ:=Tryz.shKeys_ren) { Tryz.shKeys with } Fence.wide _ trivial rfl (by omega) w.heap.size b n D0 _ (by simp) (by simp) (by
   obtain⟨es,clock,hb,Ft,hs,hD⟩:=hown
   exact⟨es,clock,(Below.heap_alloc _ _ b hbl).trans hb,Ft,hs,hD⟩)
 have cS:=AnyZI.sorted_in Tryz.shSorted Fence.wide 6 trivial trivial trivial trivial rfl (by omega) (sortsI _) (enters_of Tryz.func104 (by kernel_rfl) rfl) 105 #[.pointer (some ⟨w.heap.size,0,none⟩)] trivial (enters_of Tryz.func105 (by kernel_rfl) rfl) _ _ (by unfold maxLen;omega) (by omega) _ hseq
 refine cS.mono ?_
 rintro e w' ⟨v,ss,rfl,hS,hrow,hnil,hbel⟩
 have hlen:(ss.mergeSort fun x y=>decide (x≤y)).length=ss.length:=List.length_mergeSort ss
 have hperm:=List.mergeSort_perm ss (fun x y=>decide (x≤y))
 obtain⟨A,c,G,rfl,hl,hg⟩:=Lr.of_own hrow
 refine⟨A,c,G,ss.mergeSort fun x y=>decide (x≤y),by rw [hlen],by rw [hlen];exact hl,?_,fun x=>?_,Fr.of_below hbel,hg⟩
 ·have hle:=List.pairwise_mergeSort (le:=fun x y:Int=>decide (x≤y)) (fun a b c h1 h2=>by simp at *;omega) (fun a b=>by simp;omega) ss
  have hnd':(ss.mergeSort fun x y=>decide (x≤y)).Nodup:=(hperm.trans hS).nodup_iff.2 hnd
  refine(hle.and hnd').imp fun {a b} h=>?_
  obtain⟨h1,h2⟩:=h
  simp at h1
  omega
 ·rw [(hperm.trans hS).mem_iff]
  exact hmem x
set_option maxHeartbeats 1000000 in
theorem sortedI_nil{w:World}{kb:Nat}(hkb:w.heap.size=kb){w1:World}(hw1:w1=w.alloc (.cells #[.map none] 97)) :
  Calls Tryz.prog 53 #[.func (.func 105) #[] #[.pointer (some ⟨kb,0,none⟩)]] w1 (KeysPost w1 fun _=>False):=by
 subst hkb hw1
 refine(callsIn_wide (n:=6)).1 ?_
 have hseq:SeqGives Fence.wide 3 Tryz.prog 105 #[.pointer (some ⟨w.heap.size,0,none⟩)] encZ (fun ss:List Int=>ss=[]) 0 (w.alloc (.cells #[.map none] 97)):=
  AnyZI.keys_gives_nil (ρ:=Tryz.shKeys_ren) { Tryz.shKeys with } Fence.wide _ trivial rfl w.heap.size _ (by simp) (by simp)
 have cS:=AnyZI.sorted_in Tryz.shSorted Fence.wide 6 trivial trivial trivial trivial rfl (by omega) (sortsI _) (enters_of Tryz.func104 (by kernel_rfl) rfl) 105 #[.pointer (some ⟨w.heap.size,0,none⟩)] trivial (enters_of Tryz.func105 (by kernel_rfl) rfl) _ 0 (Nat.zero_le _) (by omega) _ hseq
 refine cS.mono ?_
 rintro e w' ⟨v,ss,rfl,rfl,hrow,hnil,hbel⟩
 obtain⟨A,c,G,rfl,hl,hg⟩:=Lr.of_own hrow
 exact⟨A,c,G,[],rfl,by have h2:=hl;simp only [List.mergeSort_nil,List.map_nil,show Tryz.shSorted_ren.t 26=3 from rfl]at h2;exact h2,.nil,by simp,Fr.of_below hbel,hg⟩
theorem drewN_two(w:World)(i q:Nat):(w.drewN i).drewN q=w.drewN (i+q):=by simp [World.drewN,Nat.add_assoc]
def hasI(σ:RS)(per n:Nat)(a c:Int):Bool:=decide (0≤c∧c<((n*per:Nat):Int))&&decide (0≤a)&&(σ.way a.toNat (c.toNat / per)==3||σ.has a.toNat c.toNat)
def hasN(σ:RS)(per h c:Nat):Bool:=σ.way h (c / per)==3||σ.has h c
theorem hasI_at(σ:RS)(per n h c:Nat)(hc:c<n*per):hasI σ per n (h:Int) (c:Int)=hasN σ per h c:=by
 have h1:(c:Int)<((n*per:Nat):Int):=by omega
 simp [hasI,hasN,-Int.natCast_mul,h1]
theorem hasI_no{σ:RS}{per n:Nat}{a c:Int}(h:¬ (0≤c∧c<((n*per:Nat):Int))):hasI σ per n a c=false:=by unfold hasI;rw [decide_eq_false h];rfl
section
variable {w:World}{tg:Tg}{sb kb sB hB fB per n:Nat}{σ:RS}{fk:Value→Option Value}{Vs Vh Vf:Nat→Value}
set_option maxRecDepth 100000 in
set_option maxHeartbeats 1600000 in
theorem rhas_any(h:Rs w tg sb kb sB hB fB per n σ fk Vs Vh Vf)(a c:Int)(wa:(Lit.int .i64 a).wf=true) :
  Calls Tryz.prog 28 #[.pointer (some ⟨sb,0,none⟩),.int .i64 a,.int .i64 c] w fun e w'=>e=.returned (.bool (hasI σ per n a c))∧Fr [] w w':=by
 have HC:Hid (∀c,Calls Tryz.prog 65 #[.pointer (some ⟨sb,0,none⟩),.int .i64 c] w fun e w'=>e=.returned (.bool (decide (0≤c∧c<((n*per:Nat):Int))))∧w=w'):=fun c=>isCard_any h.st h.ok.dim c
 by_cases hc:0≤c∧c<((n*per:Nat):Int)
 case neg=>
  have hI:=hasI_no (σ:=σ) (a:=a) hc
  have hdec:decide (0≤c∧c<((n*per:Nat):Int))=false:=by simp only [hc];rfl
  have HC1:=HC.out c
  rw [hdec]at HC1
  rw [hI]
  clear hdec hI HC h
  go_enter Tryz.func28,Tryz.ntmps28
  go_wp2_with (go_at_call 65;refine HC1.mono ?_;rintro e w' ⟨rfl,rfl⟩)
  go_ret
  exact⟨rfl,Fr.refl _ _⟩
 case pos=>
  have hdec:decide (0≤c∧c<((n*per:Nat):Int))=true:=by simp only [hc];rfl
  have HC1:=HC.out c
  rw [hdec]at HC1
  obtain⟨hc0,hc1⟩:=hc
  obtain⟨m,rfl⟩:=Int.eq_ofNat_of_zero_le hc0
  have hm:m<n*per:=by omega
  have hd:=h.ok.dim
  have hb:=hd.back (c:=m)
  have hsn:=hd.div hm
  have HS:Hid (∀w',Fr [] w w'→Calls Tryz.prog 66 #[.pointer (some ⟨sb,0,none⟩),.int .i64 (m:Int)] w' fun e w''=>e=.returned (.int .i64 ((m / per:Nat):Int))∧w'=w''):=fun w' hf=>sourceOf_any (h.st.fr hf (by simp)) hd hm
  have HW:Hid (∀w',Fr [] w w'→Calls Tryz.prog 68 #[.pointer (some ⟨sb,0,none⟩),.int .i64 (m:Int)] w' fun e w''=>e=.returned (.int .i64 ((m % per:Nat):Int))∧w'=w''):=fun w' hf=>swithin_any (h.st.fr hf (by simp)) hd hm
  obtain⟨l,hl⟩:=pairKey a ((m / per:Nat):Int) wa (wf_nat (by have:=hd.p2;have:=Nat.div_le_self m per;omega))
  have c2:=h.st.c2
  have N0:sb<w.heap.size:=Blk.lt h.st
  have HL:Hid (∀w' v,Fr [] w w'→(fk (pairV a ((m / per:Nat):Int))).getD (memOf 0 (.slice none 0 0) (.pointer none))=v→(Instr.lookup 98 (.map (some kb)) (.agg #[.int .i64 a,.int .i64 ((m / per:Nat):Int)]) false).run Tryz.prog w'=.ok v w'):=fun w' v hf hv=>by
   rw [← hv];exact(h.kn.mp.fr0 hf).look Tryz.pairLaw Tryz.underlying98 (zeroMem w') hl
  have hat:=h.kn.at h.ok a ((m / per:Nat):Int)
  have HI:hasI σ per n a (m:Int)=(decide (0≤a)&&hasN σ per a.toNat m):=by unfold hasI hasN;rw [hdec];simp
  rw [HI]
  have HA:Hid (∃(W:Nat) (A:Option Addr) (ln c:Nat) (k:Option Addr),(fk (pairV a ((m / per:Nat):Int))).getD (memOf 0 (.slice none 0 0) (.pointer none))=.agg #[.int .i64 (W:Int),.slice A ln c,.pointer k] ∧
    ((W=1∧k=none∧∃l:List Int,ln=l.length∧Sl w A l.length (fun k=>.int .i64 (l.getD k 0))∧l.length≤4∧(decide (0≤a)&&hasN σ per a.toNat m)=decide ((m:Int)∈l)) ∨
    (W=2∧∃bs bw ws,k=some ⟨bs,0,none⟩∧BSet w bs bw per ws∧(decide (0≤a)&&hasN σ per a.toNat m)=inSet ws ((m % per:Nat):Int)) ∨
    (W=3∧(decide (0≤a)&&hasN σ per a.toNat m)=true) ∨
    (W=0∧(decide (0≤a)&&hasN σ per a.toNat m)=false))):=by
   rcases hat with⟨x,s,rfl,es,hx,hs,hw,v,e1,e2⟩ | ⟨e1,e2⟩
   ·obtain rfl:m / per=s:=by exact_mod_cast es
    have EA:(decide (0≤(x:Int))&&hasN σ per (x:Int).toNat m)=hasN σ per x m:=by simp
    rw [EA,e1]
    rcases e2 with⟨e,A,k,G,l',rfl,hl1,_,hl2⟩ | ⟨e,bs,bw,ws,rfl,hl1,_,_,hl2⟩ | ⟨e,rfl⟩
    ·refine⟨1,_,_,_,_,rfl,.inl ⟨rfl,rfl,l',rfl,hl1.slz,hl2.len,?_⟩⟩
     unfold hasN
     rw [e]
     have:=hl2.mem (m:Int)
     cases hh:σ.has x m with
     | true=>
          have h2:(m:Int)∈l':=this.2 ⟨m,rfl,rfl,hh⟩
          simp [h2]
     | false=>
      have h2:(m:Int)∉l':=fun h2=>by
       obtain⟨c,hc,_,hc2⟩:=this.1 h2
       obtain rfl:m=c:=by omega
       rw [hh]at hc2;cases hc2
      simp [h2]
    ·refine⟨2,_,_,_,_,rfl,.inr (.inl ⟨rfl,bs,bw,ws,rfl,hl1,?_⟩)⟩
     unfold hasN inSet
     rw [e]
     have:=hl2 (m % per) hb.2
     rw [hb.1]at this
     have e3:decide ((0:Int)≤((m % per:Nat):Int))=true:=decide_eq_true (Int.natCast_nonneg _)
     rw [e3,Int.toNat_natCast,this]
     simp
    ·exact⟨3,_,_,_,_,rfl,.inr (.inr (.inl ⟨rfl,by unfold hasN;rw [e];simp⟩))⟩
   ·refine⟨0,none,0,0,none,by rw [e1];rfl,.inr (.inr (.inr ⟨rfl,?_⟩))⟩
    by_cases ha:0≤a
    ·obtain⟨x,rfl⟩:=Int.eq_ofNat_of_zero_le ha
     have hw0:σ.way x (m / per)=0:=by
      rcases Nat.eq_zero_or_pos (σ.way x (m / per))with h0 | h0
      ·exact h0
      ·exact absurd ⟨x,m / per,rfl,rfl,by omega⟩ e2
     have hh:σ.has x m=false:=by
      cases hh:σ.has x m with
      | false=>rfl
      | true=>rcases(h.ok.can x m hh).2 with h1 | h1 <;> omega
     simp [hasN,hw0,hh]
    ·simp [ha]
  obtain⟨W,A,ln,ca,k,hget,HX⟩:=HA.out
  have HX1:=hide HX
  have K1:=HL.out w.drew _ ((Fr.refl _ _).drew) hget
  have K2:=fun o=>HL.out (w.alloc o).drew _ (((Fr.refl _ _).alloc o).drew) hget
  generalize (decide (0≤a)&&hasN σ per a.toNat m)=B at *
  generalize m / per=q at *
  generalize m % per=r at *
  clear HL HA HX hget hat hdec HI HC h hl hd hb
  go_enter Tryz.func28,Tryz.ntmps28
  go_wp2_with (go_at_call 65;refine HC1.mono ?_;rintro e w' ⟨rfl,rfl⟩)
  go_cut [7] from 16 to 25 (fun p wx=>p=.pointer (some ⟨w.heap.size,0,none⟩)∧wx=(w.alloc (.cells #[.int .i64 (W:Int),.slice A ln ca,.pointer k] 131)).drew)
  case first=>
   go_region_with (go_at_call 66;first | (refine(HS.out _ ((Fr.refl _ _).drew)).mono ?_;rintro e w' ⟨rfl,rfl⟩) | (refine(HS.out _ (((Fr.refl _ _).alloc _).drew)).mono ?_;rintro e w' ⟨rfl,rfl⟩))
   all_goals
    go_wp2_with fail
    go_meet
    case rel=>exact⟨rfl,rfl⟩
  case rest=>
   obtain⟨rfl,rfl⟩:=hcut
   have hF:Fr [] w (w.alloc (.cells #[.int .i64 (W:Int),.slice A ln ca,.pointer k] 131)).drew:=((Fr.refl _ _).alloc _).drew
   have hb:=(Blk.new w 131 #[.int .i64 (W:Int),.slice A ln ca,.pointer k]).drew
   have HF:=hide hF
   rcases HX1.out with⟨rfl,rfl,l',rfl,hsl,hlen,rfl⟩ | ⟨rfl,bs,bw,ws,rfl,hset,rfl⟩ | ⟨rfl,rfl⟩ | ⟨rfl,rfl⟩
   ·have HQ:=hide (contains_sl (c:=ca) (hsl.fr hF (by simp)) (by omega) (m:Int))
    clear HX1 K1 K2 hF hsl
    have hb0:=hb.cell 0
    have hb1:=hb.cell 1
    simp only [List.getElem?_toArray,List.getElem?_cons_zero,List.getElem?_cons_succ]at hb0 hb1
    generalize (w.alloc (.cells #[.int .i64 ((1:Nat):Int),.slice A l'.length ca,.pointer none] 131)).drew=w2 at *
    go_wp2_with (go_at_call 67;refine HQ.out.mono ?_;rintro e w' ⟨rfl,rfl⟩)
    go_ret
    exact⟨rfl,HF.out⟩
   ·have HW1:Hid (∀i,Calls Tryz.prog 68 #[.pointer (some ⟨sb,0,none⟩),.int .i64 (m:Int)] (((w.alloc (.cells #[.int .i64 ((2:Nat):Int),.slice A ln ca,.pointer (some ⟨bs,0,none⟩)] 131)).drew).drewN i) fun e w''=>e=.returned (.int .i64 (r:Int))∧((w.alloc (.cells #[.int .i64 ((2:Nat):Int),.slice A ln ca,.pointer (some ⟨bs,0,none⟩)] 131)).drew).drewN i=w''):=fun i=>HW.out _ (hF.drewN i)
    have HQ:Hid (∀i,Calls Tryz.prog 50 #[.pointer (some ⟨bs,0,none⟩),.int .i64 (r:Int)] (((w.alloc (.cells #[.int .i64 ((2:Nat):Int),.slice A ln ca,.pointer (some ⟨bs,0,none⟩)] 131)).drew).drewN i) fun e w''=>e=.returned (.bool (inSet ws (r:Int)))∧∃m,w''=((w.alloc (.cells #[.int .i64 ((2:Nat):Int),.slice A ln ca,.pointer (some ⟨bs,0,none⟩)] 131)).drew).drewN m):=fun i=>(has_any ((hset.fr hF (by simp) (by simp)).drewN i) (r:Int)).mono fun e w' h=>⟨h.1,by obtain⟨q,hq⟩:=h.2;exact⟨i+q,by rw [hq,drewN_two]⟩⟩
    clear HX1 K1 K2 hF hset HW
    have hb0:=hb.cell 0
    have hb2:=hb.cell 2
    simp only [List.getElem?_toArray,List.getElem?_cons_zero,List.getElem?_cons_succ]at hb0 hb2
    generalize (w.alloc (.cells #[.int .i64 ((2:Nat):Int),.slice A ln ca,.pointer (some ⟨bs,0,none⟩)] 131)).drew=w2 at *
    go_wp2_with fail
    go_quiet ((first | (go_at_call 68;exact quiet_left (HW1.out _)) | (go_at_call 50;exact HQ.out _)))
    go_wp2
    go_ret
    exact⟨rfl,HF.out.drewN _⟩
   ·clear HX1 K1 K2 hF HW
    have hb0:=hb.cell 0
    simp only [List.getElem?_toArray,List.getElem?_cons_zero]at hb0
    generalize (w.alloc (.cells #[.int .i64 ((3:Nat):Int),.slice A ln ca,.pointer k] 131)).drew=w2 at *
    go_wp2_with fail
    go_ret
    exact⟨rfl,HF.out⟩
   ·clear HX1 K1 K2 hF HW
    have hb0:=hb.cell 0
    simp only [List.getElem?_toArray,List.getElem?_cons_zero]at hb0
    generalize (w.alloc (.cells #[.int .i64 ((0:Nat):Int),.slice A ln ca,.pointer k] 131)).drew=w2 at *
    go_wp2_with fail
    go_ret
    exact⟨rfl,HF.out⟩
end
set_option linter.unusedSimpArgs false
def cntS(σ:RS)(per h s:Nat):Nat:=cnt (fun i=>σ.has h (s*per+i)) 0 per
theorem cntR_cntS{ws:List Nat}{per h s:Nat}{σ:RS}(hlen:ws.length=(per+63) / 64)(hw:∀i,i<per→wbit ws i=σ.has h (s*per+i)):cntR ws 0 (per:Int)=cntS σ per h s:=by
 unfold cntR cntS
 rw [show ws.length*64=per+(ws.length*64-per)by omega,cnt_add,cnt_none (p:=fun j=>wbit ws j&&decide ((0:Int)≤(j:Int)∧(j:Int)<(per:Int))) (a:=0+per) (by intro j hj;simp;intro _;omega),Nat.add_zero]
 refine cnt_congr fun j hj=>?_
 rw [Nat.zero_add,hw j hj]
 have:decide ((0:Int)≤(j:Int)∧(j:Int)<(per:Int))=true:=decide_eq_true (by omega)
 rw [this,Bool.and_true]
section
variable {w:World}{tg:Tg}{sb kb sB hB fB per n:Nat}{σ:RS}{fk:Value→Option Value}
set_option maxRecDepth 100000 in
set_option maxHeartbeats 1600000 in
theorem count_fine(hst:St w sb kb sB hB fB per n)(hd:Dim per n)(hk:Kn w tg kb per n σ fk){h s:Nat}(hh:h<n)(hs:s<n)(hw:σ.way h s=2) :
  Calls Tryz.prog 196 #[.pointer (some ⟨sb,0,none⟩),.int .i64 (h:Int),.int .i64 (s:Int)] w fun e w'=>e=.returned (.int .i64 (cntS σ per h s:Int))∧∃q,w'=w.drewN q:=by
 have hn:=hd.n2
 have hp3:=hd.p3
 obtain⟨v,hv,hm⟩:=hk.mem h s hh hs (by omega)
 rcases hm with⟨e,_⟩ | ⟨_,bs,bw,ws,rfl,hset,_,_,hws⟩ | ⟨e,_⟩
 ·omega
 ·have hcnt:=cntR_cntS hset.len hws
  obtain⟨lt,hlt⟩:=pairKey (h:Int) (s:Int) (wf_nat (by omega)) (wf_nat (by omega))
  have c2:=hst.c2
  have c1:=hst.c1
  have hlk:∀i,(Instr.lookup 98 (.map (some kb)) (.agg #[.int .i64 (h:Int),.int .i64 (s:Int)]) false).run Tryz.prog (w.drewN i)=.ok (.agg #[.int .i64 2,.slice none 0 0,.pointer (some ⟨bs,0,none⟩)]) (w.drewN i):=fun i=>by
   have:=(hk.mp.fr0 ((Fr.refl [] w).drewN i)).look Tryz.pairLaw Tryz.underlying98 (zeroMem _) hlt
   rw [hv]at this;exact this
  have hfd:∀i,(Instr.field 131 (.agg #[.int .i64 2,.slice none 0 0,.pointer (some ⟨bs,0,none⟩)]) 2).run Tryz.prog (w.drewN i)=.ok (.pointer (some ⟨bs,0,none⟩)) (w.drewN i):=fun i=>field_many _ _ _ _
  have HQ:Hid (∀i,Calls Tryz.prog 200 #[.pointer (some ⟨bs,0,none⟩),.int .i64 0,.int .i64 (per:Int)] (w.drewN i) fun e w''=>e=.returned (.int .i64 (cntS σ per h s:Int))∧∃m,w''=w.drewN m):=fun i=>(count_any (hset.drewN i) 0 (per:Int) (by omega) (by omega) (by omega) (by omega)).mono fun e w' h=>⟨by rw [h.1,hcnt],by obtain⟨q,hq⟩:=h.2;exact⟨i+q,by rw [hq,drewN_two]⟩⟩
  clear hst hk hset hws hcnt hlt hv hd
  generalize cntS σ per h s=C at *
  go_enter Tryz.func196,Tryz.ntmps196
  go_wp2_with fail
  go_quiet ((go_at_call 200;exact HQ.out _))
  go_wp2
  go_ret
  exact⟨rfl,_,rfl⟩
 ·omega
end
theorem or_two{w:World}{ab:Nat}{x y:Int}{t:TypeId}(h:Blk w ab t #[.int .i64 x,.int .i64 y]):Calls Tryz.prog 194 #[.slice (some ⟨ab,0,none⟩) 2 2] w fun e w'=>e=.returned (.int .i64 (if x≠0 then x else y))∧w=w':=by
 have c0:=h.cell 0
 have c1:=h.cell 1
 simp only [List.getElem?_toArray,List.getElem?_cons_zero,List.getElem?_cons_succ]at c0 c1
 clear h
 by_cases hx:x=0
 ·subst hx
  by_cases hy:y=0
  ·subst hy
   go_enter Tryz.func194,Tryz.ntmps194
   go_wp2
   refine wp_loop_rounds 3 ?_
   rw [rounds_succ]
   go_wp2
   rw [rounds_succ]
   go_wp2
   rw [rounds_succ]
   go_wp2
   go_ret
   exact⟨rfl,rfl⟩
  ·have hy1:(y !=0)=true:=by simp [hy]
   go_enter Tryz.func194,Tryz.ntmps194
   go_wp2
   refine wp_loop_rounds 3 ?_
   rw [rounds_succ]
   go_wp2
   rw [rounds_succ]
   go_wp2
   go_ret
   exact⟨rfl,rfl⟩
 ·have hx1:(x !=0)=true:=by simp [hx]
  rw [if_pos hx]
  go_enter Tryz.func194,Tryz.ntmps194
  go_wp2
  refine wp_loop_rounds 3 ?_
  rw [rounds_succ]
  go_wp2
  go_ret
  exact⟨rfl,rfl⟩
def cmp3(x y:Int):Int:=if x<y then -1 else if x>y then 1 else 0
def cmpV(σ:RS)(per h a b:Nat):Int:=if cmp3 (cntS σ per h a) (cntS σ per h b)≠0 then cmp3 (cntS σ per h a) (cntS σ per h b) else cmp3 (b:Int) (a:Int)
theorem cmpV_pos(σ:RS)(per h a b:Nat):0<cmpV σ per h a b↔cntS σ per h b<cntS σ per h a∨(cntS σ per h b=cntS σ per h a∧a<b):=by
 unfold cmpV cmp3
 generalize cntS σ per h a=ca
 generalize cntS σ per h b=cb
 by_cases h1:(ca:Int)<(cb:Int)
 ·rw [if_pos h1]
  simp
  omega
 ·rw [if_neg h1]
  by_cases h2:(ca:Int)>(cb:Int)
  ·rw [if_pos h2]
   simp
   omega
  ·rw [if_neg h2]
   simp only [ne_eq,not_true_eq_false,if_false]
   by_cases h3:(b:Int)<(a:Int)
   ·rw [if_pos h3];omega
   ·rw [if_neg h3]
    by_cases h4:(b:Int)>(a:Int)
    ·rw [if_pos h4];omega
    ·rw [if_neg h4];omega
section
variable {w:World}{tg:Tg}{sb kb sB hB fB per n:Nat}{σ:RS}{fk:Value→Option Value}
set_option maxRecDepth 100000 in
set_option maxHeartbeats 1600000 in
theorem mostCmp_any(hst:St w sb kb sB hB fB per n)(hd:Dim per n)(hk:Kn w tg kb per n σ fk){h a b cs ch:Nat}(hh:h<n)(ha:a<n)(hb:b<n)(hwa:σ.way h a=2)(hwb:σ.way h b=2)(k0:w.cell? ⟨cs,0,none⟩=some (.pointer (some ⟨sb,0,none⟩)))(k1:w.cell? ⟨ch,0,none⟩=some (.int .i64 (h:Int))) :
  Calls Tryz.prog 193 #[.int .i64 (a:Int),.int .i64 (b:Int),.pointer (some ⟨cs,0,none⟩),.pointer (some ⟨ch,0,none⟩)] w fun e w'=>e=.returned (.int .i64 (cmpV σ per h a b))∧Fr [] w w':=by
 have HS:Hid (∀w',Fr [] w w'→w'.cell? ⟨cs,0,none⟩=some (.pointer (some ⟨sb,0,none⟩))∧w'.cell? ⟨ch,0,none⟩=some (.int .i64 (h:Int))):=fun w' hf=>⟨(hf.cell (lt_of_cell k0) (by simp)).trans k0,(hf.cell (lt_of_cell k1) (by simp)).trans k1⟩
 have HA:Hid (∀w',Fr [] w w'→Calls Tryz.prog 196 #[.pointer (some ⟨sb,0,none⟩),.int .i64 (h:Int),.int .i64 (a:Int)] w' fun e w''=>e=.returned (.int .i64 (cntS σ per h a:Int))∧Fr [] w w''):=fun w' hf=>(count_fine (hst.fr hf (by simp)) hd (hk.fr hf (fun _ hb=>by cases hb) (TgUp.refl _ _)) hh ha hwa).mono fun e w'' h=>⟨h.1,by obtain⟨q,rfl⟩:=h.2;exact hf.drewN q⟩
 have HB:Hid (∀w',Fr [] w w'→Calls Tryz.prog 196 #[.pointer (some ⟨sb,0,none⟩),.int .i64 (h:Int),.int .i64 (b:Int)] w' fun e w''=>e=.returned (.int .i64 (cntS σ per h b:Int))∧Fr [] w w''):=fun w' hf=>(count_fine (hst.fr hf (by simp)) hd (hk.fr hf (fun _ hb=>by cases hb) (TgUp.refl _ _)) hh hb hwb).mono fun e w'' h=>⟨h.1,by obtain⟨q,rfl⟩:=h.2;exact hf.drewN q⟩
 have HP:Hid (∀(x y:Int) (w':World),Calls Tryz.prog 195 #[.int .i64 x,.int .i64 y] w' fun e w''=>e=.returned (.int .i64 (cmp3 x y))∧w'=w''):=fun x y w'=>compare_any x y w'
 have HV:Hid (cmpV σ per h a b=if cmp3 (cntS σ per h a) (cntS σ per h b)≠0 then cmp3 (cntS σ per h a) (cntS σ per h b) else cmp3 (b:Int) (a:Int)):=rfl
 generalize cmpV σ per h a b=R at *
 generalize cntS σ per h a=ca at *
 generalize cntS σ per h b=cb at *
 have HO:Hid (∀(w':World),Calls Tryz.prog 194 #[.slice (some ⟨w'.heap.size,0,none⟩) 2 2] (w'.alloc (.cells #[.int .i64 (cmp3 (ca:Int) (cb:Int)),.int .i64 (cmp3 (b:Int) (a:Int))] 3)) fun e w''=>e=.returned (.int .i64 R)∧w'.alloc (.cells #[.int .i64 (cmp3 (ca:Int) (cb:Int)),.int .i64 (cmp3 (b:Int) (a:Int))] 3)=w''):=fun w'=>by
  have:=or_two (Blk.new w' 3 #[.int .i64 (cmp3 (ca:Int) (cb:Int)),.int .i64 (cmp3 (b:Int) (a:Int))])
  rw [← HV.out]at this;exact this
 clear hst hd hk hh ha hb hwa hwb
 go_enter Tryz.func193,Tryz.ntmps193
 go_wp2_with fail
 go_region_held3 (fun w'=>w'.cell? ⟨cs,0,none⟩=some (.pointer (some ⟨sb,0,none⟩))∧w'.cell? ⟨ch,0,none⟩=some (.int .i64 (h:Int)))
  (first | exact HS.out _ (by assumption) | exact HS.out _ ((Fr.refl _ _).drew) | exact HS.out _ (Fr.alloc (by assumption) _) | exact HS.out _ (Fr.alloc ((Fr.refl _ _).drew) _))
  (first
   | (go_at_call 196;first | ((with_reducible refine Calls.mono (HA.out _ (by first | assumption | exact(Fr.refl _ _).drew)) ?_);rintro e w1 ⟨rfl,hf⟩) | ((with_reducible refine Calls.mono (HB.out _ (by first | assumption | exact(Fr.refl _ _).drew)) ?_);rintro e w1 ⟨rfl,hf⟩))
   | (go_at_call 195;refine(HP.out _ _ _).mono ?_;rintro e w' ⟨rfl,rfl⟩)
   | (go_at_call 194;refine(HO.out _).mono ?_;rintro e w' ⟨rfl,rfl⟩))
 all_goals
  go_wp2_with fail
  go_ret
  exact⟨rfl,by first | (exact Fr.alloc (by assumption) _) | assumption⟩
def Bet(σ:RS)(per h a b:Nat):Prop:=cntS σ per h b<cntS σ per h a∨(cntS σ per h b=cntS σ per h a∧a≤b)
theorem Bet.refl(σ:RS)(per h a:Nat):Bet σ per h a a:=.inr ⟨rfl,Nat.le_refl _⟩
theorem Bet.trans{σ:RS}{per h a b c:Nat}(h1:Bet σ per h a b)(h2:Bet σ per h b c):Bet σ per h a c:=by unfold Bet at *;omega
theorem Bet.antisymm{σ:RS}{per h a b:Nat}(h1:Bet σ per h a b)(h2:Bet σ per h b a):a=b:=by unfold Bet at *;omega
theorem Bet.of_not{σ:RS}{per h a b:Nat}(h1:¬ 0<cmpV σ per h a b):Bet σ per h b a:=by rw [cmpV_pos]at h1;unfold Bet;omega
theorem Bet.of_pos{σ:RS}{per h a b:Nat}(h1:0<cmpV σ per h a b):Bet σ per h a b:=by rw [cmpV_pos]at h1;unfold Bet;omega
def IsBest(σ:RS)(per h:Nat)(l:List Nat)(m:Nat):Prop:=m∈l∧∀x,x∈l→Bet σ per h m x
theorem IsBest.uniq{σ:RS}{per h:Nat}{l:List Nat}{m m':Nat}(h1:IsBest σ per h l m)(h2:IsBest σ per h l m'):m=m':=(h1.2 _ h2.1).antisymm (h2.2 _ h1.1)
set_option maxRecDepth 100000 in
set_option maxHeartbeats 1600000 in
theorem maxFunc_any(hst:St w sb kb sB hB fB per n)(hd:Dim per n)(hk:Kn w tg kb per n σ fk){h cs ch:Nat}(hh:h<n)(k0:w.cell? ⟨cs,0,none⟩=some (.pointer (some ⟨sb,0,none⟩)))(k1:w.cell? ⟨ch,0,none⟩=some (.int .i64 (h:Int)))
  {A:Option Addr} {c:Nat} {l:List Nat} (hsl:Sl w A l.length (fun k=>.int .i64 ((ints l).getD k 0))) (hl:l.length≤65536) (h0:0<l.length) (hfine:∀s,s∈l→s<n∧σ.way h s=2) :
  Calls Tryz.prog 192 #[.slice A l.length c,.func (.func 193) #[] #[.pointer (some ⟨cs,0,none⟩),.pointer (some ⟨ch,0,none⟩)]] w fun e w'=>∃m:Nat,e=.returned (.int .i64 (m:Int))∧IsBest σ per h l m∧Fr [] w w':=by
 have HM:Hid (∀w' (a b:Nat),Fr [] w w'→a∈l→b∈l→Calls Tryz.prog 193 #[.int .i64 (a:Int),.int .i64 (b:Int),.pointer (some ⟨cs,0,none⟩),.pointer (some ⟨ch,0,none⟩)] w' fun e w''=>e=.returned (.int .i64 (cmpV σ per h a b))∧Fr [] w' w''):=fun w' a b hf ha hb=>
  mostCmp_any (hst.fr hf (by simp)) hd (hk.fr hf (fun _ hb=>by cases hb) (TgUp.refl _ _)) hh (hfine a ha).1 (hfine b hb).1 (hfine a ha).2 (hfine b hb).2 ((hf.cell (lt_of_cell k0) (by simp)).trans k0) ((hf.cell (lt_of_cell k1) (by simp)).trans k1)
 have hlI:(1:Int)≤(l.length:Int):=by omega
 have hneg:¬ ((l.length:Int)<1):=by omega
 obtain⟨b,off,rfl,hbl,hcell⟩:=hsl h0
 have HC:Hid (∀w' k,Fr [] w w'→k<l.length→w'.cell? ⟨b,off+k,none⟩=some (.int .i64 ((l.getD k 0:Nat):Int))):=fun w' k hf hk=>by
  rw [hf.cell (by exact hbl) (by simp),hcell k hk]
  simp [ints,hk]
 have c00:=HC.out w 0 (Fr.refl _ _) h0
 rw [Nat.add_zero]at c00
 have hm0:l.getD 0 0∈l:=by rw [List.getD_eq_getElem?_getD,List.getElem?_eq_getElem h0];exact List.getElem_mem h0
 have HM0:=hide hm0
 have h00:(0:Int)<(l.length:Int):=by omega
 clear hst hk hfine hsl hcell k0 k1 hm0
 go_enter Tryz.func192,Tryz.ntmps192
 go_wp2
 go_loopw [5,6] (fun m i wr=>∃(k m':Nat),i=.int .i64 k∧1≤k∧k≤l.length∧m=.int .i64 (m':Int)∧m'∈l∧(∀j,j<k→Bet σ per h m' (l.getD j 0))∧Fr [] w wr) (fun _ i _=>l.length-(intOf i).toNat)
 case atStart=>
  refine⟨1,l.getD 0 0,rfl,Nat.le_refl _,h0,by simp [h0],HM0.out,fun j hj=>?_,Fr.refl _ _⟩
  obtain rfl:j=0:=by omega
  exact Bet.refl _ _ _ _
 case round=>
  obtain⟨k,m',rfl,hk1,hkl,rfl,hmem,hbet,hF⟩:=hrel
  have HF:=hide hF
  have HMem:=hide hmem
  have HBet:=hide hbet
  clear hF hmem hbet
  by_cases hlt:k<l.length
  ·have hlt1:(k:Int)<(l.length:Int):=by omega
   have ck:=HC.out wr k HF.out hlt
   have hmk:l.getD k 0∈l:=by rw [List.getD_eq_getElem?_getD,List.getElem?_eq_getElem hlt];exact List.getElem_mem hlt
   have HC1:=hide (HM.out wr (l.getD k 0) m' HF.out hmk HMem.out)
   have HMk:=hide hmk
   have HCk:Hid (∀w',Fr [] wr w'→w'.cell? ⟨b,off+k,none⟩=some (.int .i64 ((l.getD k 0:Nat):Int))):=fun w' hf=>HC.out w' k (HF.out.trans_nil hf) hlt
   have HB1:Hid (0<cmpV σ per h (l.getD k 0) m'→∀j,j<k+1→Bet σ per h (l.getD k 0) (l.getD j 0)):=fun hp j hj=>by
    rcases Nat.lt_or_ge j k with h2 | h2
    ·exact(Bet.of_pos hp).trans (HBet.out j h2)
    ·obtain rfl:j=k:=by omega
     exact Bet.refl _ _ _ _
   have HB2:Hid (¬ 0<cmpV σ per h (l.getD k 0) m'→∀j,j<k+1→Bet σ per h m' (l.getD j 0)):=fun hp j hj=>by
    rcases Nat.lt_or_ge j k with h2 | h2
    ·exact HBet.out j h2
    ·obtain rfl:j=k:=by omega
     exact Bet.of_not hp
   clear hmk
   generalize cmpV σ per h (l.getD k 0) m'=R at *
   generalize hX:l.getD k 0=X at *
   have EX:=hide hX
   clear hX
   go_wp2_with (go_at_call 193;refine HC1.out.mono ?_;rintro e w2 ⟨rfl,hf2⟩;have ck2:=HCk.out w2 hf2;have HF2:=hide hf2;clear hf2)
   all_goals first
    | exact⟨⟨k+1,X,by go_num,by omega,by omega,rfl,HMk.out,HB1.out (by omega),HF.out.trans_nil HF2.out⟩,by simp [intOf];omega⟩
    | exact⟨⟨k+1,m',by go_num,by omega,by omega,rfl,HMem.out,HB2.out (by omega),HF.out.trans_nil HF2.out⟩,by simp [intOf];omega⟩
  ·obtain rfl:l.length=k:=by omega
   go_wp2
   go_ret
   refine⟨m',rfl,⟨HMem.out,fun x hx=>?_⟩,HF.out⟩
   obtain⟨j,hj,rfl⟩:=List.getElem_of_mem hx
   have:=HBet.out j hj
   simpa [hj] using this
set_option maxRecDepth 100000 in
set_option maxHeartbeats 1600000 in
theorem mostCards_any(hst:St w sb kb sB hB fB per n)(hd:Dim per n)(hk:Kn w tg kb per n σ fk){h:Nat}(hh:h<n){p:Nat→Nat→Prop}{V:Nat→Value}(hfi:Fi w tg fB n p V)(hp:∀s,s<n→p h s→σ.way h s=2)(hne:∃s,s<n∧p h s) :
  Calls Tryz.prog 183 #[.pointer (some ⟨sb,0,none⟩),.int .i64 (h:Int)] w fun e w'=>∃m:Nat,e=.returned (.int .i64 (m:Int))∧m<n∧p h m∧(∀x,x<n→p h x→Bet σ per h m x)∧Fr [] w w':=by
 obtain⟨A,c,G,l,hv,hl,hG,hnd,hmem⟩:=hfi.own h hh
 have hn:=hd.n2
 have hh1:(h:Int)<(n:Int):=by omega
 have hll:l.length≤65536:=Nat.le_trans (nodup_below n l hnd (fun x hx=>((hmem x).1 hx).1)) hn
 have hpos:0<l.length:=by
  obtain⟨s,h1,h2⟩:=hne
  exact List.length_pos_of_mem ((hmem s).2 ⟨h1,h2⟩)
 have c5:=hst.c5
 have cf:w.cell? ⟨fB,h,none⟩=some (V h):=by rw [hfi.row.cell,rowF_at hh]
 rw [hv]at cf
 have N0:sb<w.heap.size:=Blk.lt hst
 have N1:fB<w.heap.size:=hfi.row.lt
 obtain⟨w2,hw2⟩:∃w2,w2=((w.alloc (.cells #[.pointer (some ⟨sb,0,none⟩)] 45)).alloc (.cells #[.int .i64 (h:Int)] 3)).drew:=⟨_,rfl⟩
 have hF2:Fr [] w w2:=hw2 ▸ (((Fr.refl _ _).alloc _).alloc _).drew
 have k0:w2.cell? ⟨w.heap.size,0,none⟩=some (.pointer (some ⟨sb,0,none⟩)):=by
  rw [hw2]
  have:=(((Blk.new w 45 #[.pointer (some ⟨sb,0,none⟩)]).alloc (.cells #[.int .i64 (h:Int)] 3)).drew).cell 0
  exact this
 have k1:w2.cell? ⟨w.heap.size+1,0,none⟩=some (.int .i64 (h:Int)):=by
  rw [hw2]
  have:=((Blk.new_at (w:=w.alloc (.cells #[.pointer (some ⟨sb,0,none⟩)] 45)) (n:=w.heap.size+1) 3 #[.int .i64 (h:Int)] (by simp)).drew).cell 0
  exact this
 have HM:Hid (Calls Tryz.prog 192 #[.slice A l.length c,.func (.func 193) #[] #[.pointer (some ⟨w.heap.size,0,none⟩),.pointer (some ⟨w.heap.size+1,0,none⟩)]] w2 fun e w'=>∃m:Nat,e=.returned (.int .i64 (m:Int))∧IsBest σ per h l m∧Fr [] w2 w'):=
  maxFunc_any (hst.fr hF2 (by simp)) hd (hk.fr hF2 (fun _ hb=>by cases hb) (TgUp.refl _ _)) hh k0 k1 (by rw [← ints_len]at hl ⊢;exact(hl.fr0 hF2).slz) hll hpos (fun s hs=>⟨((hmem s).1 hs).1,hp s ((hmem s).1 hs).1 ((hmem s).1 hs).2⟩)
 have HS:Hid (∀w',Fr [] w2 w'→w'.cell? ⟨w.heap.size,0,none⟩=some (.pointer (some ⟨sb,0,none⟩))∧w'.cell? ⟨w.heap.size+1,0,none⟩=some (.int .i64 (h:Int))∧w'.cell? ⟨sb,5,none⟩=some (.slice (some ⟨fB,0,none⟩) n n)∧w'.cell? ⟨fB,h,none⟩=some (.slice A l.length c)):=fun w' hf=>⟨(hf.cell (lt_of_cell k0) (by simp)).trans k0,(hf.cell (lt_of_cell k1) (by simp)).trans k1,(hF2.trans_nil hf).cell (lt_of_cell c5) (by simp) |>.trans c5,(hF2.trans_nil hf).cell (lt_of_cell cf) (by simp) |>.trans cf⟩
 have HF2:=hide hF2
 have HMem:=hide hmem
 have K0:=hide (HS.out w2 (Fr.refl _ _))
 clear hst hk hfi hp hne hv hl hG hnd hmem hF2 k0 k1 hd
 subst hw2
 go_enter Tryz.func183,Tryz.ntmps183
 go_wp2_with fail
 go_region_held3 (fun w'=>w'.cell? ⟨w.heap.size,0,none⟩=some (.pointer (some ⟨sb,0,none⟩))∧w'.cell? ⟨w.heap.size+1,0,none⟩=some (.int .i64 (h:Int))∧w'.cell? ⟨sb,5,none⟩=some (.slice (some ⟨fB,0,none⟩) n n)∧w'.cell? ⟨fB,h,none⟩=some (.slice A l.length c))
  (first | exact K0.out | exact HS.out _ (by assumption))
  (first | (go_at_call 192;(with_reducible refine Calls.mono HM.out ?_);rintro e w3 ⟨m,rfl,hb,hf⟩;have HBst:=hide hb;clear hb))
 all_goals
  go_wp2_with fail
  go_ret
  exact⟨m,rfl,((HMem.out m).1 HBst.out.1).1,((HMem.out m).1 HBst.out.1).2,fun x hx hpx=>HBst.out.2 x ((HMem.out x).2 ⟨hx,hpx⟩),HF2.out.trans_nil (by assumption)⟩
end
open Go.RowKit Go.Gl Go.Shelf Go.Sort
theorem leaveEq_any{w:World}{pb:Nat}{s:Int}(h:w.cell? ⟨pb,1,none⟩=some (.int .i64 s))(x:Int) :
  Calls Tryz.prog 150 #[.int .i64 x,.pointer (some ⟨pb,0,none⟩)] w fun e w'=>e=.returned (.bool (decide (x=s)))∧w=w':=by
 go_enter Tryz.func150,Tryz.ntmps150
 go_wp2
 all_goals go_ret
 all_goals exact⟨ret_bool (by first | rfl | (simp;done) | simp_all),rfl⟩
theorem Blk_putRow{w:World}{g:Nat}{t:TypeId}{cur:Array Value}(h:Blk w g t cur)(enc:Int→Value)(off:Nat)(d:Array Int):Blk (putRow enc w g off d) g t (putCells enc off d cur):=by
 unfold Blk at h ⊢
 simp [putRow,mapBlock,Array.getElem?_modify,h,onCells]
theorem Fr_putRow(w:World)(g:Nat)(enc:Int→Value)(off:Nat)(d:Array Int):Fr [g] w (putRow enc w g off d):=
 ⟨rfl,rfl,rfl,by simp [putRow,mapBlock],fun i _ hi=>by
  have:g≠i:=fun e=>hi (by simp [e])
  simp [putRow,mapBlock,Array.getElem?_modify,this]⟩
theorem delete_lr{w:World}{A:Option Addr}{c:Nat}{G:List Nat}{l:List Int}(h:Lr w 3 A l.length c G (zv l)){pb:Nat}{s:Int}(hc:w.cell? ⟨pb,1,none⟩=some (.int .i64 s))(hpG:pb∉G)(hl:l.length≤1099511627776) :
  Calls Tryz.prog 149 #[.slice A l.length c,.func (.func 150) #[] #[.pointer (some ⟨pb,0,none⟩)]] w fun e w'=>∃k,k=(l.filter fun x=>!decide (x=s)).length∧e=.returned (.slice A k c)∧Lr w' 3 A k c G (zv (l.filter fun x=>!decide (x=s)))∧Fr G w w':=by
 have hpb:pb<w.heap.size:=lt_of_cell hc
 rcases Nat.eq_zero_or_pos l.length with h0 | h0
 ·obtain rfl:l=[]:=List.eq_nil_of_length_eq_zero h0
  have HL:=hide h
  have HI:∀fv,Calls Tryz.prog 167 #[.slice A 0 c,fv] w fun e w'=>e=.returned (.int .i64 (-1))∧w'=w:=fun fv=>AnyE.slices_IndexFunc_empty { Tryz.shDelete with } A c fv w
  have HI1:=hide HI
  clear h hc HI
  go_enter Tryz.func149,Tryz.ntmps149
  go_wp2_with (go_at_call 167;refine(HI1.out _).mono ?_;rintro e w' ⟨rfl,rfl⟩)
  go_ret
  exact⟨0,rfl,rfl,HL.out,Fr.refl _ _⟩
 ·obtain⟨g,off,rfl,rfl,hgl,hcell,hfz,cur,hb,hsz⟩:=h.pos h0
  have hpg:pb≠g:=by simpa using hpG
  have hH:Holds encZ w g off l.toArray:=fun j hj=>by
   have hj':j<l.length:=by simpa using hj
   refine⟨?_,hfz _⟩
   rw [hcell j hj',zv_get _ hj',getElem!_pos l.toArray j (by simpa using hj')]
   simp [hj']
  have eg:∀args w,(callFunc 150 args).run Tryz.prog w=.ok (.enter 150 args) w:=enters_of Tryz.func150 (by kernel_rfl) rfl
  have gives:∀W x,W.cell? ⟨pb,1,none⟩=some (.int .i64 s)→FnGives Tryz.prog 150 #[.pointer (some ⟨pb,0,none⟩)] #[encZ x] (.bool (decide (x=s))) W:=fun W x hW=>by
   show Calls Tryz.prog 150 #[.int .i64 x,.pointer (some ⟨pb,0,none⟩)] W _
   exact(leaveEq_any hW x).mono fun e w' h=>⟨h.1,0,h.2.symm⟩
  have hp:PredAt Tryz.prog 150 #[.pointer (some ⟨pb,0,none⟩)] encZ (fun x=>decide (x=s)) w:=fun W x hbl=>gives W x ((hbl.cell (p:=⟨pb,1,none⟩) hpb).trans hc)
  have hpo:PredOver Tryz.prog 150 #[.pointer (some ⟨pb,0,none⟩)] encZ (fun x=>decide (x=s)) g off l.toArray.size w:=fun n os dk x _=>gives _ x (by
   unfold sortWorld
   rw [cell?_grow _ _ _ (by show pb<(putRow _ _ _ _ _).heap.size;rw [size_putRow];exact hpb),cell?_putRow_other _ _ g off _ _ (Or.inl hpg)]
   exact hc)
  refine(AnyE.slices_DeleteFunc Tryz.shDelete encZ (fun _=>rfl) (fun x=>decide (x=s)) 150 #[.pointer (some ⟨pb,0,none⟩)] eg 0 Tryz.zeroValue3 g off c l.toArray w hp hpo hH (by simp;omega) (by simpa using h.le)).mono ?_
  rintro e w' ⟨rfl,q,rfl⟩
  simp only [show Sort.ahead w q=w.drewN q from rfl,List.size_toArray]
  have hfl:(l.filter fun x=>!decide (x=s)).length≤l.length:=List.length_filter_le _ _
  have hb':=Blk_putRow (hb.drewN q) encZ off ((l.filter fun x=>!decide (x=s))++List.replicate (l.length-(l.filter fun x=>!decide (x=s)).length) 0).toArray
  have hle:=h.le
  refine⟨_,rfl,rfl,Lr_of_cells hb' (by omega) h.max (by omega) (by simp [putCells];exact hsz) (zv_len _) (fun j hj=>?_),((Fr.refl [g] w).drewN q).trans_same (Fr_putRow _ _ _ _ _)⟩
  rw [hb'.cell]
  have hr:(cur[off+j]?).isSome=true:=by simp;omega
  obtain⟨y,hy⟩:=Option.isSome_iff_exists.1 hr
  simp only [putCells,Array.getElem?_mapIdx,hy,Option.map_some]
  rw [if_pos ⟨by omega,by simp;omega⟩,zv_get _ hj,show off+j-off=j by omega,getElem!_pos _ j (by simp;omega)]
  simp only [List.getElem_toArray]
  rw [List.getElem_append_left hj]
  simp [hj]
theorem nodup_ints{l:List Nat}{s:Nat}:(ints l).filter (fun x=>!decide (x=(s:Int)))=ints (l.filter fun x=>!decide (x=s)):=by
 unfold ints
 rw [List.filter_map]
 congr 1
 apply List.filter_congr
 intro x _
 have:((x:Int)=(s:Int))↔x=s:=by omega
 simp [this]
def FinPost(w:World)(tg:Tg)(fB n:Nat)(p:Nat→Nat→Prop)(e:Ending)(w':World):Prop:=
 ∃V' F,e=.returned (.tuple #[])∧Fi w' tg fB n p V'∧Fr F w w'∧∀b,b∈F→(tg b).1=5∨(tg b).1=8
set_option maxRecDepth 100000 in
set_option maxHeartbeats 1000000 in
theorem leaveFine_any{w:World}{tg:Tg}{sb kb sB hB fB per n h s:Nat}{p:Nat→Nat→Prop}{V:Nat→Value}(hst:St w sb kb sB hB fB per n)(hsb:tg sb=(1,0,0))(hf:Fi w tg fB n p V)(hn:n≤65536)(hh:h<n) :
  Calls Tryz.prog 98 #[.pointer (some ⟨sb,0,none⟩),.agg #[.int .i64 (h:Int),.int .i64 (s:Int)]] w (FinPost w tg fB n (fun a b=>p a b∧¬ (a=h∧b=s))):=by
 obtain⟨A,c,G,l,hv,hl,hG,hnd,hmem⟩:=hf.own h hh
 have hll:l.length≤65536:=Nat.le_trans (nodup_below n l hnd (fun x hx=>((hmem x).1 hx).1)) hn
 have hh1:(h:Int)<(n:Int):=by omega
 have hFB:fB∉G:=fun hg=>by have:=hG _ hg;rw [hf.tag]at this;cases this
 have hSB:sb∉G:=fun hg=>by have:=hG _ hg;rw [hsb]at this;cases this
 have N0:sb<w.heap.size:=Blk.lt hst
 have N1:fB<w.heap.size:=hf.row.lt
 have hPG:w.heap.size∉G:=fun hg=>by have:=hl.lt _ hg;omega
 obtain⟨w2,hw2⟩:∃w2,w2=(w.alloc (.cells #[.int .i64 (h:Int),.int .i64 (s:Int)] 105)).drew:=⟨_,rfl⟩
 have hF2:Fr [] w w2:=hw2 ▸ ((Fr.refl _ _).alloc _).drew
 have hpb:Blk w2 w.heap.size 105 #[.int .i64 (h:Int),.int .i64 (s:Int)]:=by rw [hw2];exact(Blk.new w _ _).drew
 have hl2:=hl.fr0 hF2
 have hli:(ints l).length=l.length:=ints_len l
 have HD1:Hid (Calls Tryz.prog 149 #[.slice A l.length c,.func (.func 150) #[] #[.pointer (some ⟨w.heap.size,0,none⟩)]] w2 fun e w'=>∃k,k=((ints l).filter fun x=>!decide (x=(s:Int))).length∧e=.returned (.slice A k c)∧Lr w' 3 A k c G (zv ((ints l).filter fun x=>!decide (x=(s:Int))))∧Fr G w2 w'):=by
  have:=delete_lr (s:=(s:Int)) (by rw [hli];exact hl2) (by rw [hpb.cell];rfl) hPG (by rw [hli];omega)
  rw [hli]at this;exact this
 have HC:Hid (∀w',Fr G w2 w'→(w'.cell? ⟨sb,5,none⟩=some (.slice (some ⟨fB,0,none⟩) n n)∧w'.cell? ⟨w.heap.size,0,none⟩=some (.int .i64 (h:Int))∧w'.cell? ⟨w.heap.size,1,none⟩=some (.int .i64 (s:Int))) ∧
   (∀v,(w'.setCell ⟨fB,h,none⟩ v).cell? ⟨sb,5,none⟩=some (.slice (some ⟨fB,0,none⟩) n n)∧(w'.setCell ⟨fB,h,none⟩ v).cell? ⟨w.heap.size,0,none⟩=some (.int .i64 (h:Int))∧(w'.setCell ⟨fB,h,none⟩ v).cell? ⟨w.heap.size,1,none⟩=some (.int .i64 (s:Int))) ∧
   w'.cell? ⟨fB,h,none⟩=some (V h)∧w'.frozen? ⟨fB,h,none⟩=false∧Blk w' fB 31 (rowF n V)):=fun w' hfr=>by
  have hp':=hpb.fr hfr hPG
  have hs':=St.fr (hst.fr hF2 (by simp)) hfr hSB
  have hb':=(hf.row.fr hF2 (by simp)).fr hfr hFB
  have hsf:sb≠fB:=fun e=>by rw [e,hf.tag]at hsb;cases hsb
  refine⟨⟨hs'.c5,by rw [hp'.cell];rfl,by rw [hp'.cell];rfl⟩,fun v=>⟨St.c5 (Blk.far hs' (p:=⟨fB,h,none⟩) hsf v),?_,?_⟩,by rw [hb'.cell,rowF_at hh],hb'.frozen h,hb'⟩
  ·rw [(hp'.far (p:=⟨fB,h,none⟩) (by show w.heap.size≠fB;omega) v).cell];rfl
  ·rw [(hp'.far (p:=⟨fB,h,none⟩) (by show w.heap.size≠fB;omega) v).cell];rfl
 have K0:=hide (HC.out w2 (Fr.refl _ _)).1
 have c5:=hst.c5
 have cf:w.cell? ⟨fB,h,none⟩=some (V h):=by rw [hf.row.cell,rowF_at hh]
 have ff:=hf.row.frozen h
 rw [hv]at cf
 have H:=hide hf
 have HV:=hide hv
 have HG:=hide hG
 have HMem:=hide hmem
 have HND:=hide hnd
 have HF2:=hide hF2
 clear hst hf hv hl hl2 hG hmem hnd hF2 hpb hli
 subst hw2
 go_enter Tryz.func98,Tryz.ntmps98
 go_wp2_with fail
 refine wp_region_held_drew (S:=fun w'=>w'.cell? ⟨sb,5,none⟩=some (.slice (some ⟨fB,0,none⟩) n n)∧w'.cell? ⟨w.heap.size,0,none⟩=some (.int .i64 (h:Int))∧w'.cell? ⟨w.heap.size,1,none⟩=some (.int .i64 (s:Int))) (by kernel_rfl) (K0.out) (fun hHeld=>?_)
 refine wpAnyH_take (i:=0) (v:=?v0) rfl (by kernel_rfl) (by kernel_rfl) (by kernel_rfl) (fun _ _ _ h=>h) (Or.inl ⟨by rfl,?hy0⟩) (by assumption) ?rest0
 case hy0=>(intro w' hSw;(try dsimp only at hSw);(try simp only [List.getElem_toArray,List.getElem_cons_succ,List.getElem_cons_zero]);(first | (go_simp;done) | (go_simp;with_reducible rfl)))
 (try simp only [Act.put,List.getElem_toArray,List.getElem_cons_succ,List.getElem_cons_zero,List.setIfInBounds_toArray,List.set_cons_zero,List.set_cons_succ])
 refine wpAnyH_take (i:=1) (v:=?v1) rfl (by kernel_rfl) (by kernel_rfl) (by kernel_rfl) (fun _ _ _ h=>h) (Or.inl ⟨by rfl,?hy1⟩) (by assumption) ?rest1
 case hy1=>(intro w' hSw;(try dsimp only at hSw);(try simp only [List.getElem_toArray,List.getElem_cons_succ,List.getElem_cons_zero]);(first | (go_simp;done) | (go_simp;with_reducible rfl)))
 (try simp only [Act.put,List.getElem_toArray,List.getElem_cons_succ,List.getElem_cons_zero,List.setIfInBounds_toArray,List.set_cons_zero,List.set_cons_succ])
 refine wpAnyH_take (i:=2) (v:=?v2) rfl (by kernel_rfl) (by kernel_rfl) (by kernel_rfl) (fun _ _ _ h=>h) (Or.inl ⟨by rfl,?hy2⟩) (by assumption) ?rest2
 case hy2=>(intro w' hSw;(try dsimp only at hSw);(try simp only [List.getElem_toArray,List.getElem_cons_succ,List.getElem_cons_zero]);(first | (go_simp;done) | (go_simp;with_reducible rfl)))
 (try simp only [Act.put,List.getElem_toArray,List.getElem_cons_succ,List.getElem_cons_zero,List.setIfInBounds_toArray,List.set_cons_zero,List.set_cons_succ])
 refine wpAnyH_take (i:=3) (v:=?v3) rfl (by kernel_rfl) (by kernel_rfl) (by kernel_rfl) (fun _ _ _ h=>h) (Or.inl ⟨by rfl,?hy3⟩) (by assumption) ?rest3
 case hy3=>(intro w' hSw;(try dsimp only at hSw);(try simp only [List.getElem_toArray,List.getElem_cons_succ,List.getElem_cons_zero]);(first | (go_simp;done) | (go_simp;with_reducible rfl)))
 (try simp only [Act.put,List.getElem_toArray,List.getElem_cons_succ,List.getElem_cons_zero,List.setIfInBounds_toArray,List.set_cons_zero,List.set_cons_succ])
 refine wpAnyH_take (i:=4) (v:=?v4) rfl (by kernel_rfl) (by kernel_rfl) (by kernel_rfl) (fun _ _ _ h=>h) (Or.inl ⟨by rfl,?hy4⟩) (by assumption) ?rest4
 case hy4=>(intro w' hSw;(try dsimp only at hSw);(try simp only [List.getElem_toArray,List.getElem_cons_succ,List.getElem_cons_zero]);(first | (go_simp;done) | (go_simp;with_reducible rfl)))
 (try simp only [Act.put,List.getElem_toArray,List.getElem_cons_succ,List.getElem_cons_zero,List.setIfInBounds_toArray,List.set_cons_zero,List.set_cons_succ])
 refine wpAnyH_take (i:=5) (v:=?v5) rfl (by kernel_rfl) (by kernel_rfl) (by kernel_rfl) (fun _ _ _ h=>h) (Or.inl ⟨by rfl,?hy5⟩) (by assumption) ?rest5
 case hy5=>(intro w' hSw;(try dsimp only at hSw);(try simp only [List.getElem_toArray,List.getElem_cons_succ,List.getElem_cons_zero]);(first | (go_simp;done) | (go_simp;with_reducible rfl)))
 (try simp only [Act.put,List.getElem_toArray,List.getElem_cons_succ,List.getElem_cons_zero,List.setIfInBounds_toArray,List.set_cons_zero,List.set_cons_succ])
 refine wpAnyH_take (i:=6) (v:=?v6) rfl (by kernel_rfl) (by kernel_rfl) (by kernel_rfl) (fun _ _ _ h=>h) (Or.inl ⟨by rfl,?hy6⟩) (by assumption) ?rest6
 case hy6=>(intro w' hSw;(try dsimp only at hSw);(try simp only [List.getElem_toArray,List.getElem_cons_succ,List.getElem_cons_zero]);(first | (go_simp;done) | (go_simp;with_reducible rfl)))
 (try simp only [Act.put,List.getElem_toArray,List.getElem_cons_succ,List.getElem_cons_zero,List.setIfInBounds_toArray,List.set_cons_zero,List.set_cons_succ])
 refine wpAnyH_take (i:=7) (v:=?v7) rfl (by kernel_rfl) (by kernel_rfl) (by kernel_rfl) (fun _ _ _ h=>h) (Or.inl ⟨by rfl,?hy7⟩) (by assumption) ?rest7
 case hy7=>(intro w' hSw;(try dsimp only at hSw);(try simp only [List.getElem_toArray,List.getElem_cons_succ,List.getElem_cons_zero]);(first | (go_simp;done) | (go_simp;with_reducible rfl)))
 (try simp only [Act.put,List.getElem_toArray,List.getElem_cons_succ,List.getElem_cons_zero,List.setIfInBounds_toArray,List.set_cons_zero,List.set_cons_succ])
 refine wpAnyH_take (i:=8) (v:=?v8) rfl (by kernel_rfl) (by kernel_rfl) (by kernel_rfl) (fun _ _ _ h=>h) (Or.inl ⟨by rfl,?hy8⟩) (by assumption) ?rest8
 case hy8=>(intro w' hSw;(try dsimp only at hSw);(try simp only [List.getElem_toArray,List.getElem_cons_succ,List.getElem_cons_zero]);(first | (go_simp;done) | (go_simp;with_reducible rfl)))
 (try simp only [Act.put,List.getElem_toArray,List.getElem_cons_succ,List.getElem_cons_zero,List.setIfInBounds_toArray,List.set_cons_zero,List.set_cons_succ])
 refine wpAnyH_take (i:=9) (v:=?v9) rfl (by kernel_rfl) (by kernel_rfl) (by kernel_rfl) (fun _ _ _ h=>h) (Or.inl ⟨by rfl,?hy9⟩) (by assumption) ?rest9
 case hy9=>(intro w' hSw;(try dsimp only at hSw);(try simp only [List.getElem_toArray,List.getElem_cons_succ,List.getElem_cons_zero]);(first | (go_simp;done) | (go_simp;with_reducible rfl)))
 (try simp only [Act.put,List.getElem_toArray,List.getElem_cons_succ,List.getElem_cons_zero,List.setIfInBounds_toArray,List.set_cons_zero,List.set_cons_succ])
 refine wpAnyH_take (i:=10) (v:=?v10) rfl (by kernel_rfl) (by kernel_rfl) (by kernel_rfl) (fun _ _ _ h=>h) (Or.inl ⟨by rfl,?hy10⟩) (by assumption) ?rest10
 case hy10=>(intro w' hSw;(try dsimp only at hSw);(try simp only [List.getElem_toArray,List.getElem_cons_succ,List.getElem_cons_zero]);(first | (go_simp;done) | (go_simp;with_reducible rfl)))
 (try simp only [Act.put,List.getElem_toArray,List.getElem_cons_succ,List.getElem_cons_zero,List.setIfInBounds_toArray,List.set_cons_zero,List.set_cons_succ])
 refine wpAnyH_take (i:=11) (v:=?v11) rfl (by kernel_rfl) (by kernel_rfl) (by kernel_rfl) (fun _ _ _ h=>h) (Or.inl ⟨by rfl,?hy11⟩) (by assumption) ?rest11
 case hy11=>(intro w' hSw;(try dsimp only at hSw);(try simp only [List.getElem_toArray,List.getElem_cons_succ,List.getElem_cons_zero]);(first | (go_simp;done) | (go_simp;with_reducible rfl)))
 (try simp only [Act.put,List.getElem_toArray,List.getElem_cons_succ,List.getElem_cons_zero,List.setIfInBounds_toArray,List.set_cons_zero,List.set_cons_succ])
 refine wpAnyH_take (i:=12) (v:=?v12) rfl (by kernel_rfl) (by kernel_rfl) (by kernel_rfl) (fun _ _ _ h=>h) (Or.inl ⟨by rfl,?hy12⟩) (by assumption) ?rest12
 case hy12=>(intro w' hSw;(try dsimp only at hSw);(try simp only [List.getElem_toArray,List.getElem_cons_succ,List.getElem_cons_zero]);(first | (go_simp;done) | (go_simp;with_reducible rfl)))
 (try simp only [Act.put,List.getElem_toArray,List.getElem_cons_succ,List.getElem_cons_zero,List.setIfInBounds_toArray,List.set_cons_zero,List.set_cons_succ])
 refine wpAnyH_take (i:=14) (v:=?v14) rfl (by kernel_rfl) (by kernel_rfl) (by kernel_rfl) (fun _ _ _ h=>h) (Or.inl ⟨by rfl,?hy14⟩) (by assumption) ?rest14
 case hy14=>(intro w' hSw;(try dsimp only at hSw);(try simp only [List.getElem_toArray,List.getElem_cons_succ,List.getElem_cons_zero]);(first | (go_simp;done) | (go_simp;with_reducible rfl)))
 (try simp only [Act.put,List.getElem_toArray,List.getElem_cons_succ,List.getElem_cons_zero,List.setIfInBounds_toArray,List.set_cons_zero,List.set_cons_succ])
 refine wpAnyH_ready (rs:=[13]) (by kernel_rfl) (by simp) ?_
 refine AllReadyH.cons rfl (fun K hK=>?_) AllReadyH.nil
 (try simp only [List.getElem_toArray,List.getElem_cons_succ,List.getElem_cons_zero])
 go_simp
 refine hK.out _ _ (K0.out) (fun hHeld=>?_)
 clear hK K
 (try simp only [Act.put,List.setIfInBounds_toArray,List.set_cons_zero,List.set_cons_succ])
 refine wpAnyH_ready (rs:=[15]) (by kernel_rfl) (by simp) ?_
 refine AllReadyH.cons rfl (fun K hK=>?_) AllReadyH.nil
 (try simp only [List.getElem_toArray,List.getElem_cons_succ,List.getElem_cons_zero])
 go_simp
 (go_at_call 149;(with_reducible refine Calls.mono HD1.out ?_);rintro e w3 ⟨k,hk,rfl,hl3,hF3⟩;have HK:=hide hk;have HL3:=hide hl3;have HF3:=hide hF3;have d3:=(HC.out w3 hF3).2.2.1;have d4:=(HC.out w3 hF3).2.2.2.1;have D5:=hide (HC.out w3 hF3).2.2.2.2;clear hk hl3 hF3)
 (try go_wp2_with fail)
 refine hK.out _ _ ((HC.out w3 HF3.out).1) (fun hHeld=>?_)
 clear hK K
 (try simp only [Act.put,List.setIfInBounds_toArray,List.set_cons_zero,List.set_cons_succ])
 refine wpAnyH_take (i:=16) (v:=?v16) rfl (by kernel_rfl) (by kernel_rfl) (by kernel_rfl) (fun _ _ _ h=>h) (Or.inl ⟨by rfl,?hy16⟩) (by assumption) ?rest16
 case hy16=>(intro w' hSw;(try dsimp only at hSw);(try simp only [List.getElem_toArray,List.getElem_cons_succ,List.getElem_cons_zero]);(first | (go_simp;done) | (go_simp;with_reducible rfl)))
 (try simp only [Act.put,List.getElem_toArray,List.getElem_cons_succ,List.getElem_cons_zero,List.setIfInBounds_toArray,List.set_cons_zero,List.set_cons_succ])
 refine wpAnyH_ready (rs:=[17]) (by kernel_rfl) (by simp) ?_
 refine AllReadyH.cons rfl (fun K hK=>?_) AllReadyH.nil
 (try simp only [List.getElem_toArray,List.getElem_cons_succ,List.getElem_cons_zero])
 go_simp
 refine hK.out _ _ ((HC.out w3 HF3.out).2.1 _) (fun hHeld=>?_)
 clear hK K
 (try simp only [Act.put,List.setIfInBounds_toArray,List.set_cons_zero,List.set_cons_succ])
 refine wpAnyH_done (by kernel_rfl) ?_ _
 go_wp2_with fail
 go_end0
 have hFG:Fr (fB::G) w w3:=(HF2.out.mono (fun _ hx=>by cases hx)).trans HF3.out (fun x hx=>.inl (List.mem_cons_of_mem _ hx))
 have hF4:Fr (fB::G) w (w3.setCell ⟨fB,h,none⟩ (.slice A k c)):=hFG.setCell (p:=⟨fB,h,none⟩) (.inl (by simp)) _
 have hF5:Fr [fB] w3 (w3.setCell ⟨fB,h,none⟩ (.slice A k c)):=(Fr.refl _ _).setCell (p:=⟨fB,h,none⟩) (.inl (by simp)) _
 have hrow:=D5.out.put h (.slice A k c)
 rw [rowF_set]at hrow
 have hlen:k=(l.filter fun x=>!decide (x=s)).length:=by rw [HK.out,nodup_ints,ints_len]
 have hFK:∀b,b∈fB::G→(tg b).1=5∨(tg b).1=8:=fun b hb=>by
  rcases List.mem_cons.1 hb with rfl | hb
  ·left;rw [H.out.tag]
  ·right;rw [HG.out b hb]
 refine⟨putF V h (.slice A k c),fB::G,rfl,⟨hrow,H.out.tag,fun r hr=>?_⟩,hF4,hFK⟩
 by_cases e:r=h
 ·subst e
  rw [putF_at]
  have hl3:Lr w3 3 A (l.filter fun x=>!decide (x=s)).length c G (zv (ints (l.filter fun x=>!decide (x=s)))):=by rw [← hlen,← nodup_ints];exact HL3.out
  refine⟨A,c,G,_,by rw [hlen],hl3.fr hF5 (fun g hg hg2=>hFB (by simp at hg2;exact hg2 ▸ hg)),HG.out,HND.out.filter _,fun x=>?_⟩
  rw [List.mem_filter,HMem.out x]
  simp [and_assoc]
 ·rw [putF_ne _ _ e]
  refine((H.out.own r hr).fr hF4 (fun b hb hq=>?_) (TgUp.refl _ _)).congr fun x hx=>by simp [e]
  rcases List.mem_cons.1 hb with rfl | hb
  ·rw [H.out.tag]at hq;cases hq
  ·rw [HG.out b hb]at hq;injection hq with _ h2;injection h2 with h2;exact e h2.symm
def CoarsePost(w:World)(tg:Tg)(kb fB per n h s:Nat)(σ:RS)(p:Nat→Nat→Prop)(e:Ending)(w':World):Prop:=
 ∃V' F fk',e=.returned (.tuple #[])∧Kn w' tg kb per n (σ.put per h s 3 (fun _=>false)) fk'∧Fi w' tg fB n (fun a b=>p a b∧¬ (a=h∧b=s)) V'∧Fr F w w'∧∀b,b∈F→(tg b).1=2∨(tg b).1=5∨(tg b).1=8
set_option maxRecDepth 100000 in
theorem makeCoarse_any{w:World}{tg:Tg}{sb kb sB hB fB per n h s:Nat}{σ:RS}{fk:Value→Option Value}{p:Nat→Nat→Prop}{V:Nat→Value}(hst:St w sb kb sB hB fB per n)(hsb:tg sb=(1,0,0))(hk:Kn w tg kb per n σ fk)(hf:Fi w tg fB n p V)(hn:n≤65536)(hh:h<n)(hs:s<n) :
  Calls Tryz.prog 182 #[.pointer (some ⟨sb,0,none⟩),.agg #[.int .i64 (h:Int),.int .i64 (s:Int)]] w (CoarsePost w tg kb fB per n h s σ p):=by
 obtain⟨lt,hlt⟩:=pairKey (h:Int) (s:Int) (wf_nat (by omega)) (wf_nat (by omega))
 have c2:=hst.c2
 have N0:sb<w.heap.size:=Blk.lt hst
 have HK:=hide hlt
 have HM:=hide hk.mp
 obtain⟨w2,hw2⟩:∃w2,w2=(w.alloc (.cells #[.int .i64 (h:Int),.int .i64 (s:Int)] 105)).drew:=⟨_,rfl⟩
 have hF2:Fr [] w w2:=hw2 ▸ ((Fr.refl _ _).alloc _).drew
 have HL:Hid (∀w3,Mp Tryz.prog 105 w3 kb (upF fk (pairV h s) (memOf 3 (.slice none 0 0) (.pointer none)))→Fr [kb] w2 w3→Calls Tryz.prog 98 #[.pointer (some ⟨sb,0,none⟩),.agg #[.int .i64 (h:Int),.int .i64 (s:Int)]] w3 (FinPost w3 tg fB n (fun a b=>p a b∧¬ (a=h∧b=s)))):=fun w3 hm hf3=>by
  have hsk:sb∉[kb]:=by intro e;simp at e;rw [e,hk.tag]at hsb;cases hsb
  exact leaveFine_any (St.fr (hst.fr hF2 (by simp)) hf3 hsk) hsb ((hf.fr hF2 (by simp) (TgUp.refl _ _)).fr hf3 (fun b hb=>by simp at hb;subst hb;rw [hk.tag];simp) (TgUp.refl _ _)) hn hh
 have HC:Hid (∀w3,Fr [kb] w2 w3→w3.cell? ⟨w.heap.size,0,none⟩=some (.int .i64 (h:Int))∧w3.cell? ⟨w.heap.size,1,none⟩=some (.int .i64 (s:Int))):=fun w3 hf3=>by
  have hpb:Blk w2 w.heap.size 105 #[.int .i64 (h:Int),.int .i64 (s:Int)]:=by rw [hw2];exact(Blk.new w _ _).drew
  have:=hpb.fr hf3 (by have:=hk.mp.lt;simp;omega)
  exact⟨by rw [this.cell];rfl,by rw [this.cell];rfl⟩
 have H2:=hide hk
 have HF2:=hide hF2
 clear hst hf hk hF2 hlt
 subst hw2
 go_enter Tryz.func182,Tryz.ntmps182
 go_wp2_with fail
 refine region_tail 6 (by kernel_rfl) (by kernel_rfl) ?_
 simp only [List.take_succ_cons,List.take_zero,List.drop_succ_cons,List.drop_zero]
 repeat still_step
 refine wpStill_nil ?_
 go_wp2_with (first | (at_mapUpdate;refine list_of rfl fun K hK=>wp_update (key:=pairV h s) (v:=memOf 3 (.slice none 0 0) (.pointer none)) _ _ _ 98 rfl Tryz.pairLaw Tryz.underlying98 HM.out (((Fr.refl _ _).alloc _).drew) rfl rfl HK.out rfl ?_;intro w1 hM hF;have d0:=(HC.out w1 hF.out).1;have d1:=(HC.out w1 hF.out).2;have HL1:=hide (HL.out w1 hM.out hF.out);refine hK _ _ ?_) | (go_at_call 98;refine HL1.out.mono ?_;rintro e w4 ⟨V',F,rfl,hfi,hf4,hF4⟩))
 go_end0
 have hkn:=H2.out.up (k:=3) (g:=fun _=>false) (tg':=tg) hh hs (by decide) HF2.out (fun _ hb=>by cases hb) (TgUp.refl _ _) hM.out hF.out (.inr (.inr ⟨rfl,rfl⟩))
 have hF:Fr (kb::F) w w4:=(((HF2.out.mono (F:=[]) (G:=[kb]) (fun _ hx=>by cases hx)).trans_same hF.out).mono (G:=kb::F) (fun x hx=>.inl (by simp at hx;simp [hx]))).trans hf4 (fun x hx=>.inl (List.mem_cons_of_mem _ hx))
 refine⟨V',kb::F,_,rfl,hkn.fr hf4 (fun b hb=>?_) (TgUp.refl _ _),hfi,hF,fun b hb=>?_⟩
 ·rcases hF4 b hb with e | e <;> rw [e] <;> decide
 ·rcases List.mem_cons.1 hb with rfl | hb
  ·left;rw [H2.out.tag]
  ·exact .inr (hF4 b hb)
end Go.Proofs.YteacgfeiedcdiaaGreatDoor
