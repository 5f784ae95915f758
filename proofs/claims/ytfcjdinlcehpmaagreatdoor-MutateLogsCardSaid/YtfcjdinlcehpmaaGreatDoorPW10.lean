/- Several texts joined (pack.py): Ss Sm. -/
import Derived.Test.YtfcjdinlcehpmaaGreatDoorPW05
import Derived.Test.YtfcjdinlcehpmaaGreatDoorProg
import Derived.DeepKeys4
import Derived.WalkKit
import Derived.Test.YtfcjdinlcehpmaaGreatDoorPW04
import Derived.Test.YtfcjdinlcehpmaaGreatDoorPW00
import Derived.Test.YtfcjdinlcehpmaaGreatDoorPW01
import Derived.Test.YtfcjdinlcehpmaaGreatDoorShelf
import Derived.BigRegion
import Derived.Deep.RegionLaw
import Derived.Deep.RegionWith
import Derived.Deep.CutRange
import Derived.BigQuiet
import Derived.StillTailTactics
import Derived.WalkSpells
import Derived.Deep.RegionHeld3
namespace Go.Proofs.YtfcjdinlcehpmaaGreatDoor
set_option maxRecDepth 100000
set_option linter.unusedVariables false
open Go.RowKit Go.Gl
open Go.Maps (Keyed)
def pairV(h s:Int):Value:=.agg #[.int .i64 h,.int .i64 s]
theorem pairV_inj{h s h' s':Int}(e:pairV h s=pairV h' s'):h=h'∧s=s':=by
 unfold pairV at e
 injection e with e
 simp at e
 exact e
def memOf(way:Int)(few many:Value):Value:=.agg #[.int .i64 way,few,many]
structure RS where
 way:Nat→Nat→Nat
 has:Nat→Nat→Bool
abbrev Tg:=Nat→Nat×Nat×Nat
structure Dim(per n:Nat):Prop where
 n1:1≤n
 n2:n≤65536
 p1:1≤per
 p2:n*per≤4194304
theorem Dim.p3{per n:Nat}(h:Dim per n):per≤4194304:=Nat.le_trans (Nat.le_mul_of_pos_left per h.n1) h.p2
def St(w:World)(sb kb sB hB fB per n:Nat):Prop:=
 Blk w sb 157 #[.int .i64 ((n*per:Nat):Int),.int .i64 (per:Int),.map (some kb),.slice (some ⟨sB,0,none⟩) n n,.slice (some ⟨hB,0,none⟩) n n,.slice (some ⟨fB,0,none⟩) n n]
structure FewIs(per:Nat)(has:Nat→Bool)(s:Nat)(l:List Int):Prop where
 up:l.Pairwise (·<·)
 mem:∀x,x∈l↔∃c:Nat,x=(c:Int)∧c / per=s∧has c=true
 len:l.length≤4
def MemIs(w:World)(tg:Tg)(per:Nat)(has:Nat→Bool)(way h s:Nat)(v:Value):Prop:=
 (way=1∧∃A c G l,v=memOf 1 (.slice A l.length c) (.pointer none)∧Lr w 3 A l.length c G (zv l)∧(∀g,g∈G→tg g=(9,h,s))∧FewIs per has s l) ∨
 (way=2∧∃bs bw ws,v=memOf 2 (.slice none 0 0) (.pointer (some ⟨bs,0,none⟩))∧BSet w bs bw per ws∧tg bs=(10,h,s)∧tg bw=(10,h,s)∧∀i,i<per→wbit ws i=has (s*per+i)) ∨
 (way=3∧v=memOf 3 (.slice none 0 0) (.pointer none))
structure Kn(w:World)(tg:Tg)(kb per n:Nat)(σ:RS)(fk:Value→Option Value):Prop where
 mp:Mp Tryz.prog 239 w kb fk
 tag:tg kb=(2,0,0)
 key:∀x v,fk x=some v→∃h s:Nat,h<n∧s<n∧x=pairV h s∧σ.way h s≠0
 mem:∀h s:Nat,h<n→s<n→σ.way h s≠0→∃v,fk (pairV h s)=some v∧MemIs w tg per (σ.has h) (σ.way h s) h s v
def IxAt(w:World)(tg:Tg)(kd n r:Nat)(p:Nat→Prop)(v:Value):Prop:=
 (v=.map none∧∀x,x<n→¬ p x) ∨
 ∃b f,v=.map (some b)∧Mp Tryz.prog 3 w b f∧tg b=(kd,r,0)∧(∀x v,f x=some v→∃s:Nat,s<n∧x=.int .i64 (s:Int))∧∀s:Nat,s<n→(f (.int .i64 (s:Int))≠none↔p s)
structure Ix(w:World)(tg:Tg)(kd rB n:Nat)(p:Nat→Nat→Prop)(V:Nat→Value):Prop where
 row:Blk w rB 243 (rowF n V)
 tag:tg rB=(kd-3,0,0)
 own:∀r,r<n→IxAt w tg kd n r (p r) (V r)
def FiAt(w:World)(tg:Tg)(n h:Nat)(p:Nat→Prop)(v:Value):Prop:=
 ∃A c G,∃l:List Nat,v=.slice A l.length c∧Lr w 3 A l.length c G (zv (ints l))∧(∀g,g∈G→tg g=(8,h,0))∧l.Nodup∧∀s,s∈l↔s<n∧p s
structure Fi(w:World)(tg:Tg)(fB n:Nat)(p:Nat→Nat→Prop)(V:Nat→Value):Prop where
 row:Blk w fB 34 (rowF n V)
 tag:tg fB=(5,0,0)
 own:∀h,h<n→FiAt w tg n h (p h) (V h)
def TgOk(w:World)(tg:Tg):Prop:=∀b,(tg b).1≠0→b<w.heap.size
def TgUp(w:World)(tg tg':Tg):Prop:=∀b,b<w.heap.size→tg' b=tg b
theorem TgUp.refl(w:World)(tg:Tg):TgUp w tg tg:=fun _ _=>rfl
section
variable {w w':World}{tg tg':Tg}{F:List Nat}{per n h s kb sb sB hB fB rB kd way:Nat}{has:Nat→Bool}{v:Value}{σ:RS}{fk:Value→Option Value}{p:Nat→Nat→Prop}{V:Nat→Value}
theorem MemIs.fr(hm:MemIs w tg per has way h s v)(hf:Fr F w w')(hF:∀b,b∈F→tg b≠(9,h,s)∧tg b≠(10,h,s))(hu:TgUp w tg tg'):MemIs w' tg' per has way h s v:=by
 rcases hm with⟨e,A,c,G,l,e1,e2,e3,e4⟩ | ⟨e,bs,bw,ws,e1,e2,e3,e4,e5⟩ | hm
 ·exact .inl ⟨e,A,c,G,l,e1,e2.fr hf (fun g hg hgF=>(hF g hgF).1 (e3 g hg)),fun g hg=>(hu g (e2.lt g hg)).trans (e3 g hg),e4⟩
 ·exact .inr (.inl ⟨e,bs,bw,ws,e1,e2.fr hf (fun hb=>(hF _ hb).2 e3) (fun hb=>(hF _ hb).2 e4),(hu _ e2.set.lt).trans e3,(hu _ e2.row.lt).trans e4,e5⟩)
 ·exact .inr (.inr hm)
theorem Kn.fr(hk:Kn w tg kb per n σ fk)(hf:Fr F w w')(hF:∀b,b∈F→(tg b).1≠2∧(tg b).1≠9∧(tg b).1≠10)(hu:TgUp w tg tg'):Kn w' tg' kb per n σ fk:=
 ⟨hk.mp.fr hf (fun hb=>(hF _ hb).1 (by rw [hk.tag])),(hu _ hk.mp.lt).trans hk.tag,hk.key,fun h s hh hs hw=>by
  obtain⟨v,e1,e2⟩:=hk.mem h s hh hs hw
  exact⟨v,e1,e2.fr hf (fun b hb=>⟨fun e=>(hF b hb).2.1 (by rw [e]),fun e=>(hF b hb).2.2 (by rw [e])⟩) hu⟩⟩
theorem IxAt.fr{r:Nat}{p:Nat→Prop}(hi:IxAt w tg kd n r p v)(hf:Fr F w w')(hF:∀b,b∈F→tg b≠(kd,r,0))(hu:TgUp w tg tg'):IxAt w' tg' kd n r p v:=by
 rcases hi with hi | ⟨b,f,e1,e2,e3,e4⟩
 ·exact .inl hi
 ·exact .inr ⟨b,f,e1,e2.fr hf (fun hb=>hF _ hb e3),(hu _ e2.lt).trans e3,e4⟩
theorem Ix.fr(hi:Ix w tg kd rB n p V)(hf:Fr F w w')(hF:∀b,b∈F→(tg b).1≠kd-3∧(tg b).1≠kd)(hu:TgUp w tg tg'):Ix w' tg' kd rB n p V:=
 ⟨hi.row.fr hf (fun hb=>(hF _ hb).1 (by rw [hi.tag])),(hu _ hi.row.lt).trans hi.tag,fun r hr=>(hi.own r hr).fr hf (fun b hb e=>(hF b hb).2 (by rw [e])) hu⟩
theorem FiAt.fr{p:Nat→Prop}(hi:FiAt w tg n h p v)(hf:Fr F w w')(hF:∀b,b∈F→tg b≠(8,h,0))(hu:TgUp w tg tg'):FiAt w' tg' n h p v:=by
 obtain⟨A,c,G,l,e1,e2,e3,e4⟩:=hi
 exact⟨A,c,G,l,e1,e2.fr hf (fun g hg hgF=>hF g hgF (e3 g hg)),fun g hg=>(hu g (e2.lt g hg)).trans (e3 g hg),e4⟩
theorem Fi.fr(hi:Fi w tg fB n p V)(hf:Fr F w w')(hF:∀b,b∈F→(tg b).1≠5∧(tg b).1≠8)(hu:TgUp w tg tg'):Fi w' tg' fB n p V:=
 ⟨hi.row.fr hf (fun hb=>(hF _ hb).1 (by rw [hi.tag])),(hu _ hi.row.lt).trans hi.tag,fun r hr=>(hi.own r hr).fr hf (fun b hb e=>(hF b hb).2 (by rw [e])) hu⟩
end
structure SOk(per n:Nat)(σ:RS):Prop where
 dim:Dim per n
 rng:∀h s,σ.way h s≠0→h<n∧s<n∧h≠s∧σ.way h s≤3
 can:∀h c,σ.has h c=true→c<n*per∧(σ.way h (c / per)=1∨σ.way h (c / per)=2)
structure Rs(w:World)(tg:Tg)(sb kb sB hB fB per n:Nat)(σ:RS)(fk:Value→Option Value)(Vs Vh Vf:Nat→Value):Prop where
 ok:SOk per n σ
 st:St w sb kb sB hB fB per n
 tst:tg sb=(1,0,0)
 tok:TgOk w tg
 kn:Kn w tg kb per n σ fk
 src:Ix w tg 6 sB n (fun h s=>σ.way h s≠0) Vs
 hom:Ix w tg 7 hB n (fun s h=>σ.way h s≠0) Vh
 fin:Fi w tg fB n (fun h s=>σ.way h s=2) Vf
section
variable {w w':World}{tg:Tg}{F:List Nat}{sb kb sB hB fB per n:Nat}{σ:RS}{fk:Value→Option Value}{Vs Vh Vf:Nat→Value}
theorem St.fr(h:St w sb kb sB hB fB per n)(hf:Fr F w w')(hb:sb∉F):St w' sb kb sB hB fB per n:=Blk.fr h hf hb
theorem Rs.fr(h:Rs w tg sb kb sB hB fB per n σ fk Vs Vh Vf)(hf:Fr F w w')(hF:∀b,b∈F→(tg b).1=0):Rs w' tg sb kb sB hB fB per n σ fk Vs Vh Vf:=
 ⟨h.ok,h.st.fr hf (fun hb=>by have:=hF _ hb;rw [h.tst]at this;cases this),h.tst,fun b hb=>Nat.lt_of_lt_of_le (h.tok b hb) hf.size,
 h.kn.fr hf (fun b hb=>by rw [hF b hb];decide) (TgUp.refl _ _),h.src.fr hf (fun b hb=>by rw [hF b hb];decide) (TgUp.refl _ _),
 h.hom.fr hf (fun b hb=>by rw [hF b hb];decide) (TgUp.refl _ _),h.fin.fr hf (fun b hb=>by rw [hF b hb];decide) (TgUp.refl _ _)⟩
end
open Go.RowKit Go.Gl Go.Shelf Go.Maps Go.Sort
def InsPost(w:World)(G:List Nat)(l:List Int)(e:Ending)(w':World):Prop:=∃A' c' G',e=.returned (.slice A' l.length c')∧Lr w' 3 A' l.length c' G' (zv l)∧Fr G w w'∧∀g,g∈G'→g∈G∨g=w.heap.size
section
variable {w:World}{sb kb sB hB fB per n:Nat}
end
def wayI(σ:RS)(a b:Int):Nat:=if 0≤a∧0≤b then σ.way a.toNat b.toNat else 0
def setTg(tg:Tg)(b:Nat)(t:Nat×Nat×Nat):Tg:=fun x=>if x=b then t else tg x
theorem setTg_at(tg:Tg)(b:Nat)(t):setTg tg b t b=t:=by simp [setTg]
theorem setTg_ne(tg:Tg){b x:Nat}(t)(h:x≠b):setTg tg b t x=tg x:=by simp [setTg,h]
def PutPost(w:World)(tg:Tg)(kd rB n:Nat)(p:Nat→Nat→Prop)(e:Ending)(w':World):Prop:=
 ∃V' tg' F,e=.returned (.tuple #[])∧Ix w' tg' kd rB n p V'∧Fr F w w'∧(∀b,b∈F→(tg b).1=kd-3∨(tg b).1=kd)∧TgUp w tg tg'∧(TgOk w tg→TgOk w' tg')
def RS.put(σ:RS)(per h s k:Nat)(g:Nat→Bool):RS:=⟨fun a b=>if a=h∧b=s then k else σ.way a b,fun a c=>if a=h∧c / per=s then g c else σ.has a c⟩
section
variable {w w1 w2:World}{tg tg':Tg}{F:List Nat}{per n h s kb k way:Nat}{has has' g:Nat→Bool}{v:Value}{σ:RS}{fk:Value→Option Value}
end
open Go.WideElems (Fit rd rg rd_key rg_of rd_mk)
def unitR:Value→Option (DataW Unit×List MemPlace):=fun _=>some (.nil,[])
def KeysPost(w:World)(p:Int→Prop)(e:Ending)(w':World):Prop:=∃(A:Option Addr) (c:Nat) (G:List Nat) (ks:List Int),e=.returned (.slice A ks.length c)∧Lr w' 3 A ks.length c G (zv ks)∧ks.Pairwise (·<·)∧(∀x,x∈ks↔p x)∧Fr [] w w'∧∀g,g∈G→w.heap.size≤g
def hasI(σ:RS)(per n:Nat)(a c:Int):Bool:=decide (0≤c∧c<((n*per:Nat):Int))&&decide (0≤a)&&(σ.way a.toNat (c.toNat / per)==3||σ.has a.toNat c.toNat)
def hasN(σ:RS)(per h c:Nat):Bool:=σ.way h (c / per)==3||σ.has h c
section
variable {w:World}{tg:Tg}{sb kb sB hB fB per n:Nat}{σ:RS}{fk:Value→Option Value}{Vs Vh Vf:Nat→Value}
end
set_option linter.unusedSimpArgs false
def cntS(σ:RS)(per h s:Nat):Nat:=cnt (fun i=>σ.has h (s*per+i)) 0 per
section
variable {w:World}{tg:Tg}{sb kb sB hB fB per n:Nat}{σ:RS}{fk:Value→Option Value}
end
def cmp3(x y:Int):Int:=if x<y then -1 else if x>y then 1 else 0
def cmpV(σ:RS)(per h a b:Nat):Int:=if cmp3 (cntS σ per h a) (cntS σ per h b)≠0 then cmp3 (cntS σ per h a) (cntS σ per h b) else cmp3 (b:Int) (a:Int)
section
variable {w:World}{tg:Tg}{sb kb sB hB fB per n:Nat}{σ:RS}{fk:Value→Option Value}
def Bet(σ:RS)(per h a b:Nat):Prop:=cntS σ per h b<cntS σ per h a∨(cntS σ per h b=cntS σ per h a∧a≤b)
def IsBest(σ:RS)(per h:Nat)(l:List Nat)(m:Nat):Prop:=m∈l∧∀x,x∈l→Bet σ per h m x
end
open Go.RowKit Go.Gl Go.Shelf Go.Sort
def FinPost(w:World)(tg:Tg)(fB n:Nat)(p:Nat→Nat→Prop)(e:Ending)(w':World):Prop:=
 ∃V' F,e=.returned (.tuple #[])∧Fi w' tg fB n p V'∧Fr F w w'∧∀b,b∈F→(tg b).1=5∨(tg b).1=8
def CoarsePost(w:World)(tg:Tg)(kb fB per n h s:Nat)(σ:RS)(p:Nat→Nat→Prop)(e:Ending)(w':World):Prop:=
 ∃V' F fk',e=.returned (.tuple #[])∧Kn w' tg kb per n (σ.put per h s 3 (fun _=>false)) fk'∧Fi w' tg fB n (fun a b=>p a b∧¬ (a=h∧b=s)) V'∧Fr F w w'∧∀b,b∈F→(tg b).1=2∨(tg b).1=5∨(tg b).1=8
def nFine(σ:RS)(n h:Nat):Nat:=cnt (fun s=>σ.way h s==2) 0 n
def BestOf(σ:RS)(per n h m:Nat):Prop:=m<n∧σ.way h m=2∧∀x,x<n→σ.way h x=2→Bet σ per h m x
noncomputable def bestOf (σ:RS) (per n h:Nat):Nat:=Classical.epsilon fun m=>BestOf σ per n h m
noncomputable def coarsen (σ:RS) (per n h:Nat):RS:=if 4<nFine σ n h then σ.put per h (bestOf σ per n h) 3 (fun _=>false) else σ
def plus(σ:RS)(h c:Nat):Nat→Bool:=fun x=>σ.has h x||decide (x=c)
noncomputable def addS (σ:RS) (per n h c:Nat):RS:=
 if σ.way h (c / per)=2 then σ.put per h (c / per) 2 (plus σ h c)
 else if cntS (σ.put per h (c / per) 1 (plus σ h c)) per h (c / per)≤4 then σ.put per h (c / per) 1 (plus σ h c)
 else coarsen (σ.put per h (c / per) 2 (plus σ h c)) per n h
def SGrew(w:World)(fB h len:Nat)(l:List Nat)(s:Nat)(G:List Nat)(wc:World):Prop:=
 ∃A' c' G',∃w':World,Lr w' 3 A' (len+1) c' G' (zv (ints l)++[.int .i64 (s:Int)])∧Fr G (w.alloc (.cells #[.int .i64 (s:Int)] 3)).drew w'∧(∀g,g∈G'→g∈G∨(g=(w.alloc (.cells #[.int .i64 (s:Int)] 3)).drew.heap.size∧0<1))∧wc=w'.setCell ⟨fB,h,none⟩ (.slice A' (len+1) c')
def MfPost(w:World)(tg:Tg)(kb fB per n:Nat)(σ':RS)(e:Ending)(w':World):Prop:=
 ∃tg' fk' V' F,e=.returned (.tuple #[])∧Kn w' tg' kb per n σ' fk'∧Fi w' tg' fB n (fun a b=>σ'.way a b=2) V'∧Fr F w w'∧(∀b,b∈F→(tg b).1=2∨(tg b).1=5∨(tg b).1=8)∧TgUp w tg tg'∧TgOk w' tg'
def ForPost(w:World)(tg:Tg)(sb kb sB hB fB per n h s:Nat)(σ:RS)(Vs Vh:Nat→Value)(e:Ending)(w':World):Prop:=
 ∃fk' Vf' F,e=.returned (.tuple #[])∧Rs w' tg sb kb sB hB fB per n (σ.put per h s 0 (fun _=>false)) fk' Vs Vh Vf'∧Fr F w w'∧(∀b,b∈F→(tg b).1≠0) ∧
  (∀b,Vs h=.map (some b)→Lost w w' b (.int .i64 (s:Int)))∧∀b,Vh s=.map (some b)→Lost w w' b (.int .i64 (h:Int))
def RS.clear(σ:RS)(h:Nat):RS:=⟨fun a b=>if a=h then 0 else σ.way a b,fun a c=>if a=h then false else σ.has a c⟩
def ClrPost(w:World)(tg:Tg)(sb kb sB hB fB per n:Nat)(σ σ':RS)(Vs Vh:Nat→Value)(er:Int)(e:Ending)(w':World):Prop:=
 ∃fk' Vf' F,e=.returned (.int .i64 er)∧Rs w' tg sb kb sB hB fB per n σ' fk' Vs Vh Vf'∧Fr F w w'∧∀b,b∈F→(tg b).1≠0
section
variable {w:World}{tg:Tg}{sb kb sB hB fB per n:Nat}{σ:RS}{fk:Value→Option Value}{Vs Vh Vf:Nat→Value}
structure Half(per h:Nat)(σ τ:RS):Prop where
 way:∀a b,a≠h→τ.way a b=σ.way a b
 has:∀a c,a≠h→τ.has a c=σ.has a c
end
def RS.scrub(σ:RS)(per s:Nat):RS:=⟨fun a b=>if b=s then 0 else σ.way a b,fun a c=>if c / per=s then false else σ.has a c⟩
section
variable {w:World}{tg:Tg}{sb kb sB hB fB per n:Nat}{σ:RS}{fk:Value→Option Value}{Vs Vh Vf:Nat→Value}
structure Half2(per h:Nat)(σ τ:RS):Prop where
 way:∀a b,b≠h→τ.way a b=σ.way a b
 has:∀a c,c / per≠h→τ.has a c=σ.has a c
end
def insAt(l:List Int)(x:Int):List Int:=l.take (l.countP (·<x))++x::l.drop (l.countP (·<x))
end Go.Proofs.YtfcjdinlcehpmaaGreatDoor
