/- Several texts joined (pack.py): Ss Sm. -/
import Derived.Test.YtimkofiempcfdaaGreatDoorPW05
import Derived.Test.YtimkofiempcfdaaGreatDoorProg
import Derived.DeepKeys4
import Derived.WalkKit
import Derived.Test.YtimkofiempcfdaaGreatDoorPW03
import Derived.Test.YtimkofiempcfdaaGreatDoorPW00
import Derived.Test.YtimkofiempcfdaaGreatDoorPW01
import Derived.Test.YtimkofiempcfdaaGreatDoorShelf
import Derived.BigRegion
import Derived.Deep.RegionLaw
import Derived.Deep.RegionWith
import Derived.Deep.CutRange
import Derived.BigQuiet
import Derived.StillTailTactics
import Derived.WalkSpells
import Derived.Deep.RegionHeld3
set_option linter.unusedVariables false
set_option linter.unusedSimpArgs false
set_option maxRecDepth 100000
namespace Go.Proofs.YtimkofiempcfdaaGreatDoor
open Go.RowKit Go.Gl
open Go.Maps (Keyed)
def jG(h s:Int):Value:=.agg #[.int .i64 h,.int .i64 s]
theorem uZ{h s h' s':Int}(e:jG h s=jG h' s'):h=h'/\s=s':=by
 unfold jG at e;injection e with e;simp at e;exact e
def nB(way:Int)(few many:Value):Value:=.agg #[.int .i64 way,few,many]
theorem qw(w:World):(zeroValue 106).run Tryz.prog w=.ok (.agg #[]) w:=by kernel_rfl
structure RS where
 way:Nat->Nat->Nat
 has:Nat->Nat->Bool
abbrev Tg:=Nat->Nat×Nat×Nat
structure Dim(per n:Nat):Prop where
 n1:1<=n
 n2:n<=65536
 p1:1<=per
 p2:n*per<=4194304
theorem Dim.p3{per n:Nat}(h:Dim per n):per<=4194304:=Nat.le_trans (Nat.le_mul_of_pos_left per h.n1) h.p2
def St(w:World)(sb kb sB hB fB per n:Nat):Prop:=
 Blk w sb 212 #[.int .i64 ((n*per:Nat):Int),.int .i64 (per:Int),.map (some kb),.slice (some ⟨sB,0,none⟩) n n,.slice (some ⟨hB,0,none⟩) n n,.slice (some ⟨fB,0,none⟩) n n]
structure B3(per:Nat)(has:Nat->Bool)(s:Nat)(l:List Int):Prop where
 up:l.Pairwise (·<·)
 mem:∀x,x∈l↔∃c:Nat,x=(c:Int)/\c / per=s/\has c=true
 len:l.length<=4
def ub(w:World)(tg:Tg)(per:Nat)(has:Nat->Bool)(way h s:Nat)(v:Value):Prop:=
 (way=1/\∃A c G l,v=nB 1 (.slice A l.length c) (.pointer none)/\Lr w 3 A l.length c G (zv l)/\(∀g,g∈G->tg g=(9,h,s))/\B3 per has s l) \/
 (way=2/\∃bs bw ws,v=nB 2 (.slice none 0 0) (.pointer (some ⟨bs,0,none⟩))/\cU w bs bw per ws/\tg bs=(10,h,s)/\tg bw=(10,h,s)/\∀i,i<per->bC ws i=has (s*per+i)) \/
 (way=3/\v=nB 3 (.slice none 0 0) (.pointer none))
structure Kn(w:World)(tg:Tg)(kb per n:Nat)(σ:RS)(fk:Value->Option Value):Prop where
 mp:Mp Tryz.prog 244 w kb fk
 tag:tg kb=(2,0,0)
 key:∀x v,fk x=some v->∃h s:Nat,h<n/\s<n/\x=jG h s/\σ.way h s≠0
 mem:∀h s:Nat,h<n->s<n->σ.way h s≠0->∃v,fk (jG h s)=some v/\ub w tg per (σ.has h) (σ.way h s) h s v
def zE(w:World)(tg:Tg)(kd n r:Nat)(p:Nat->Prop)(v:Value):Prop:=
 (v=.map none/\∀x,x<n->¬ p x) \/
 ∃b f,v=.map (some b)/\Mp Tryz.prog 3 w b f/\tg b=(kd,r,0)/\(∀x v,f x=some v->∃s:Nat,s<n/\x=.int .i64 (s:Int))/\∀s:Nat,s<n->(f (.int .i64 (s:Int))≠none↔p s)
structure Ix(w:World)(tg:Tg)(kd rB n:Nat)(p:Nat->Nat->Prop)(V:Nat->Value):Prop where
 row:Blk w rB 102 (aJ n V)
 tag:tg rB=(kd-3,0,0)
 own:∀r,r<n->zE w tg kd n r (p r) (V r)
def zF(w:World)(tg:Tg)(n h:Nat)(p:Nat->Prop)(v:Value):Prop:=
 ∃A c G,∃l:List Nat,v=.slice A l.length c/\Lr w 3 A l.length c G (zv (ints l))/\(∀g,g∈G->tg g=(8,h,0))/\l.Nodup/\∀s,s∈l↔s<n/\p s
structure Fi(w:World)(tg:Tg)(fB n:Nat)(p:Nat->Nat->Prop)(V:Nat->Value):Prop where
 row:Blk w fB 25 (aJ n V)
 tag:tg fB=(5,0,0)
 own:∀h,h<n->zF w tg n h (p h) (V h)
def xG(w:World)(tg:Tg):Prop:=∀b,(tg b).1≠0->b<w.heap.size
def iC(w:World)(tg tg':Tg):Prop:=∀b,b<w.heap.size->tg' b=tg b
theorem iC.refl(w:World)(tg:Tg):iC w tg tg:=λ_ _=>rfl
section
variable {w w':World}{tg tg':Tg}{F:List Nat}{per n h s kb sb sB hB fB rB kd way:Nat}{has:Nat->Bool}{v:Value}{σ:RS}{fk:Value->Option Value}{p:Nat->Nat->Prop}{V:Nat->Value}
theorem ub.fr(hm:ub w tg per has way h s v)(hf:Fr F w w')(hF:∀b,b∈F->tg b≠(9,h,s)/\tg b≠(10,h,s))(hu:iC w tg tg'):ub w' tg' per has way h s v:=by
 rcases hm with⟨e,A,c,G,l,e1,e2,e3,e4⟩|⟨e,bs,bw,ws,e1,e2,e3,e4,e5⟩|hm
 ·exact .inl ⟨e,A,c,G,l,e1,e2.fr hf (λg hg hgF=>(hF g hgF).1 (e3 g hg)),λg hg=>(hu g (e2.lt g hg)).trans (e3 g hg),e4⟩
 ·exact .inr (.inl ⟨e,bs,bw,ws,e1,e2.fr hf (λhb=>(hF _ hb).2 e3) (λhb=>(hF _ hb).2 e4),(hu _ e2.set.lt).trans e3,(hu _ e2.row.lt).trans e4,e5⟩)
 ·exact .inr (.inr hm)
theorem Kn.fr(hk:Kn w tg kb per n σ fk)(hf:Fr F w w')(hF:∀b,b∈F->(tg b).1≠2/\(tg b).1≠9/\(tg b).1≠10)(hu:iC w tg tg'):Kn w' tg' kb per n σ fk:=
 ⟨hk.mp.fr hf (λhb=>(hF _ hb).1 (by rw[hk.tag])),(hu _ hk.mp.lt).trans hk.tag,hk.key,λh s hh hs hw=>by
  obtain⟨v,e1,e2⟩:=hk.mem h s hh hs hw;exact⟨v,e1,e2.fr hf (λb hb=>⟨λe=>(hF b hb).2.1 (by rw[e]),λe=>(hF b hb).2.2 (by rw[e])⟩) hu⟩⟩
theorem zE.fr{r:Nat}{p:Nat->Prop}(hi:zE w tg kd n r p v)(hf:Fr F w w')(hF:∀b,b∈F->tg b≠(kd,r,0))(hu:iC w tg tg'):zE w' tg' kd n r p v:=by
 rcases hi with hi|⟨b,f,e1,e2,e3,e4⟩
 ·exact .inl hi
 ·exact .inr ⟨b,f,e1,e2.fr hf (λhb=>hF _ hb e3),(hu _ e2.lt).trans e3,e4⟩
theorem Ix.fr(hi:Ix w tg kd rB n p V)(hf:Fr F w w')(hF:∀b,b∈F->(tg b).1≠kd-3/\(tg b).1≠kd)(hu:iC w tg tg'):Ix w' tg' kd rB n p V:=
 ⟨hi.row.fr hf (λhb=>(hF _ hb).1 (by rw[hi.tag])),(hu _ hi.row.lt).trans hi.tag,λr hr=>(hi.own r hr).fr hf (λb hb e=>(hF b hb).2 (by rw[e])) hu⟩
theorem zF.fr{p:Nat->Prop}(hi:zF w tg n h p v)(hf:Fr F w w')(hF:∀b,b∈F->tg b≠(8,h,0))(hu:iC w tg tg'):zF w' tg' n h p v:=by
 obtain⟨A,c,G,l,e1,e2,e3,e4⟩:=hi;exact⟨A,c,G,l,e1,e2.fr hf (λg hg hgF=>hF g hgF (e3 g hg)),λg hg=>(hu g (e2.lt g hg)).trans (e3 g hg),e4⟩
theorem Fi.fr(hi:Fi w tg fB n p V)(hf:Fr F w w')(hF:∀b,b∈F->(tg b).1≠5/\(tg b).1≠8)(hu:iC w tg tg'):Fi w' tg' fB n p V:=
 ⟨hi.row.fr hf (λhb=>(hF _ hb).1 (by rw[hi.tag])),(hu _ hi.row.lt).trans hi.tag,λr hr=>(hi.own r hr).fr hf (λb hb e=>(hF b hb).2 (by rw[e])) hu⟩
end
structure SOk(per n:Nat)(σ:RS):Prop where
 dim:Dim per n
 rng:∀h s,σ.way h s≠0->h<n/\s<n/\h≠s/\σ.way h s<=3
 can:∀h c,σ.has h c=true->c<n*per/\(σ.way h (c / per)=1\/σ.way h (c / per)=2)
structure Rs(w:World)(tg:Tg)(sb kb sB hB fB per n:Nat)(σ:RS)(fk:Value->Option Value)(Vs Vh Vf:Nat->Value):Prop where
 ok:SOk per n σ
 st:St w sb kb sB hB fB per n
 tst:tg sb=(1,0,0)
 tok:xG w tg
 kn:Kn w tg kb per n σ fk
 src:Ix w tg 6 sB n (λh s=>σ.way h s≠0) Vs
 hom:Ix w tg 7 hB n (λs h=>σ.way h s≠0) Vh
 fin:Fi w tg fB n (λh s=>σ.way h s=2) Vf
section
variable {w w':World}{tg:Tg}{F:List Nat}{sb kb sB hB fB per n:Nat}{σ:RS}{fk:Value->Option Value}{Vs Vh Vf:Nat->Value}
theorem St.fr(h:St w sb kb sB hB fB per n)(hf:Fr F w w')(hb:sb∉F):St w' sb kb sB hB fB per n:=Blk.fr h hf hb
theorem Rs.fr(h:Rs w tg sb kb sB hB fB per n σ fk Vs Vh Vf)(hf:Fr F w w')(hF:∀b,b∈F->(tg b).1=0):Rs w' tg sb kb sB hB fB per n σ fk Vs Vh Vf:=
 ⟨h.ok,h.st.fr hf (λhb=>by have:=hF _ hb;rw[h.tst]at this;cases this),h.tst,λb hb=>Nat.lt_of_lt_of_le (h.tok b hb) hf.size,
 h.kn.fr hf (λb hb=>by rw[hF b hb];decide) (iC.refl _ _),h.src.fr hf (λb hb=>by rw[hF b hb];decide) (iC.refl _ _),
 h.hom.fr hf (λb hb=>by rw[hF b hb];decide) (iC.refl _ _),h.fin.fr hf (λb hb=>by rw[hF b hb];decide) (iC.refl _ _)⟩
end
open Go.RowKit Go.Gl Go.Shelf Go.Maps Go.Sort
def CO(w:World)(G:List Nat)(l:List Int)(e:Ending)(w':World):Prop:=∃A' c' G',e=.returned (.slice A' l.length c')/\Lr w' 3 A' l.length c' G' (zv l)/\Fr G w w'/\∀g,g∈G'->g∈G\/g=w.heap.size
section
variable {w:World}{sb kb sB hB fB per n:Nat}
end
def DM(σ:RS)(a b:Int):Nat:=if 0<=a/\0<=b then σ.way a.toNat b.toNat else 0
def jH(tg:Tg)(b:Nat)(t:Nat×Nat×Nat):Tg:=λx=>if x=b then t else tg x
theorem iD(tg:Tg)(b:Nat)(t):jH tg b t b=t:=by simp[jH]
theorem bM(tg:Tg){b x:Nat}(t)(h:x≠b):jH tg b t x=tg x:=by simp[jH,h]
def CP(w:World)(tg:Tg)(kd rB n:Nat)(p:Nat->Nat->Prop)(e:Ending)(w':World):Prop:=
 ∃V' tg' F,e=.returned (.tuple #[])/\Ix w' tg' kd rB n p V'/\Fr F w w'/\(∀b,b∈F->(tg b).1=kd-3\/(tg b).1=kd)/\iC w tg tg'/\(xG w tg->xG w' tg')
def RS.put(σ:RS)(per h s k:Nat)(g:Nat->Bool):RS:=⟨λa b=>if a=h/\b=s then k else σ.way a b,λa c=>if a=h/\c / per=s then g c else σ.has a c⟩
section
variable {w w1 w2:World}{tg tg':Tg}{F:List Nat}{per n h s kb k way:Nat}{has has' g:Nat->Bool}{v:Value}{σ:RS}{fk:Value->Option Value}
end
open Go.WideElems (Fit rd rg rd_key rg_of rd_mk)
def Dy:Value->Option (DataW Unit×List MemPlace):=λ_=>some (.nil,[])
def B4(w:World)(p:Int->Prop)(e:Ending)(w':World):Prop:=∃(A:Option Addr) (c:Nat) (G:List Nat) (ks:List Int),e=.returned (.slice A ks.length c)/\Lr w' 3 A ks.length c G (zv ks)/\ks.Pairwise (·<·)/\(∀x,x∈ks↔p x)/\Fr [] w w'/\∀g,g∈G->w.heap.size<=g
def DN(σ:RS)(per n:Nat)(a c:Int):Bool:=decide (0<=c/\c<((n*per:Nat):Int))&&decide (0<=a)&&(σ.way a.toNat (c.toNat / per)==3||σ.has a.toNat c.toNat)
def Bi(σ:RS)(per h c:Nat):Bool:=σ.way h (c / per)==3||σ.has h c
section
variable {w:World}{tg:Tg}{sb kb sB hB fB per n:Nat}{σ:RS}{fk:Value->Option Value}{Vs Vh Vf:Nat->Value}
end
def ow(σ:RS)(per h s:Nat):Nat:=cnt (λi=>σ.has h (s*per+i)) 0 per
section
variable {w:World}{tg:Tg}{sb kb sB hB fB per n:Nat}{σ:RS}{fk:Value->Option Value}
end
def Bj(x y:Int):Int:=if x<y then -1 else if x>y then 1 else 0
def DO(σ:RS)(per h a b:Nat):Int:=if Bj (ow σ per h a) (ow σ per h b)≠0 then Bj (ow σ per h a) (ow σ per h b) else Bj (b:Int) (a:Int)
section
variable {w:World}{tg:Tg}{sb kb sB hB fB per n:Nat}{σ:RS}{fk:Value->Option Value}
def Bet(σ:RS)(per h a b:Nat):Prop:=ow σ per h b<ow σ per h a\/(ow σ per h b=ow σ per h a/\a<=b)
def C5(σ:RS)(per h:Nat)(l:List Nat)(m:Nat):Prop:=m∈l/\∀x,x∈l->Bet σ per h m x
end
open Go.RowKit Go.Gl Go.Shelf Go.Sort
def CQ(w:World)(tg:Tg)(fB n:Nat)(p:Nat->Nat->Prop)(e:Ending)(w':World):Prop:=
 ∃V' F,e=.returned (.tuple #[])/\Fi w' tg fB n p V'/\Fr F w w'/\∀b,b∈F->(tg b).1=5\/(tg b).1=8
def Bk(w:World)(tg:Tg)(kb fB per n h s:Nat)(σ:RS)(p:Nat->Nat->Prop)(e:Ending)(w':World):Prop:=
 ∃V' F fk',e=.returned (.tuple #[])/\Kn w' tg kb per n (σ.put per h s 3 (λ_=>false)) fk'/\Fi w' tg fB n (λa b=>p a b/\¬ (a=h/\b=s)) V'/\Fr F w w'/\∀b,b∈F->(tg b).1=2\/(tg b).1=5\/(tg b).1=8
def B6(σ:RS)(n h:Nat):Nat:=cnt (λs=>σ.way h s==2) 0 n
def Bl(σ:RS)(per n h m:Nat):Prop:=m<n/\σ.way h m=2/\∀x,x<n->σ.way h x=2->Bet σ per h m x
noncomputable def Bm (σ:RS) (per n h:Nat):Nat:=Classical.epsilon λm=>Bl σ per n h m
noncomputable def zG (σ:RS) (per n h:Nat):RS:=if 4<B6 σ n h then σ.put per h (Bm σ per n h) 3 (λ_=>false) else σ
def plus(σ:RS)(h c:Nat):Nat->Bool:=λx=>σ.has h x||decide (x=c)
noncomputable def C6 (σ:RS) (per n h c:Nat):RS:=
 if σ.way h (c / per)=2 then σ.put per h (c / per) 2 (plus σ h c)
 else if ow (σ.put per h (c / per) 1 (plus σ h c)) per h (c / per)<=4 then σ.put per h (c / per) 1 (plus σ h c)
 else zG (σ.put per h (c / per) 2 (plus σ h c)) per n h
def Dz(w:World)(fB h len:Nat)(l:List Nat)(s:Nat)(G:List Nat)(wc:World):Prop:=
 ∃A' c' G',∃w':World,Lr w' 3 A' (len+1) c' G' (zv (ints l)++[.int .i64 (s:Int)])/\Fr G (w.alloc (.cells #[.int .i64 (s:Int)] 3)).drew w'/\(∀g,g∈G'->g∈G\/(g=(w.alloc (.cells #[.int .i64 (s:Int)] 3)).drew.heap.size/\0<1))/\wc=w'.setCell ⟨fB,h,none⟩ (.slice A' (len+1) c')
def C7(w:World)(tg:Tg)(kb fB per n:Nat)(σ':RS)(e:Ending)(w':World):Prop:=
 ∃tg' fk' V' F,e=.returned (.tuple #[])/\Kn w' tg' kb per n σ' fk'/\Fi w' tg' fB n (λa b=>σ'.way a b=2) V'/\Fr F w w'/\(∀b,b∈F->(tg b).1=2\/(tg b).1=5\/(tg b).1=8)/\iC w tg tg'/\xG w' tg'
def CR(w:World)(tg:Tg)(sb kb sB hB fB per n h s:Nat)(σ:RS)(Vs Vh:Nat->Value)(e:Ending)(w':World):Prop:=
 ∃fk' Vf' F,e=.returned (.tuple #[])/\Rs w' tg sb kb sB hB fB per n (σ.put per h s 0 (λ_=>false)) fk' Vs Vh Vf'/\Fr F w w'/\(∀b,b∈F->(tg b).1≠0) /\
  (∀b,Vs h=.map (some b)->BS w w' b (.int .i64 (s:Int)))/\∀b,Vh s=.map (some b)->BS w w' b (.int .i64 (h:Int))
def RS.clear(σ:RS)(h:Nat):RS:=⟨λa b=>if a=h then 0 else σ.way a b,λa c=>if a=h then false else σ.has a c⟩
def CS(w:World)(tg:Tg)(sb kb sB hB fB per n:Nat)(σ σ':RS)(Vs Vh:Nat->Value)(er:Int)(e:Ending)(w':World):Prop:=
 ∃fk' Vf' F,e=.returned (.int .i64 er)/\Rs w' tg sb kb sB hB fB per n σ' fk' Vs Vh Vf'/\Fr F w w'/\∀b,b∈F->(tg b).1≠0
section
variable {w:World}{tg:Tg}{sb kb sB hB fB per n:Nat}{σ:RS}{fk:Value->Option Value}{Vs Vh Vf:Nat->Value}
structure DP(per h:Nat)(σ τ:RS):Prop where
 way:∀a b,a≠h->τ.way a b=σ.way a b
 has:∀a c,a≠h->τ.has a c=σ.has a c
end
def RS.B7(σ:RS)(per s:Nat):RS:=⟨λa b=>if b=s then 0 else σ.way a b,λa c=>if c / per=s then false else σ.has a c⟩
section
variable {w:World}{tg:Tg}{sb kb sB hB fB per n:Nat}{σ:RS}{fk:Value->Option Value}{Vs Vh Vf:Nat->Value}
structure DA(per h:Nat)(σ τ:RS):Prop where
 way:∀a b,b≠h->τ.way a b=σ.way a b
 has:∀a c,c / per≠h->τ.has a c=σ.has a c
end
def DB(l:List Int)(x:Int):List Int:=l.take (l.countP (·<x))++x::l.drop (l.countP (·<x))
end Go.Proofs.YtimkofiempcfdaaGreatDoor
