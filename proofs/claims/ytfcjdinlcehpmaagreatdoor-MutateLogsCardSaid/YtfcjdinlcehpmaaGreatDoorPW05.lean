/- Several texts joined (pack.py): Gp Mp Ga. -/
import Derived.Test.YtfcjdinlcehpmaaGreatDoorPW04
import Derived.Test.YtfcjdinlcehpmaaGreatDoorPW00
import Derived.Maps.RangeWalk
import Derived.WalkKit
namespace Go.Proofs.YtfcjdinlcehpmaaGreatDoor
set_option linter.unusedVariables false
open Go.RowKit Go.Gl
def setF{α β:Type}[DecidableEq α](f:α→β)(k:α)(v:β):α→β:=fun x=>if x=k then v else f x
section
variable {α β:Type}[DecidableEq α]
theorem setF_at(f:α→β)(k:α)(v:β):setF f k v k=v:=by simp [setF]
theorem setF_ne(f:α→β){k x:α}(v:β)(h:x≠k):setF f k v x=f x:=by simp [setF,h]
theorem setF_same(f:α→β)(k:α):setF f k (f k)=f:=by
 funext x
 unfold setF
 split
 ·rename_i h;rw [h]
 ·rfl
end
structure GS where
 st:Nat→List Int
 done:Nat→Nat
 N:Nat
 np:Int→Nat
 nw:Int→Nat
 ref:Int→Int→Int
 dat:Int→Int→Int
def G0:GS:=⟨fun _=>[],fun _=>0,0,fun _=>0,fun _=>0,fun _ _=>0,fun _ _=>0⟩
def GS.setSt(σ:GS)(t:Nat)(l:List Int):GS:={ σ with st:=setF σ.st t l }
def GS.push(σ:GS)(B t:Nat)(r:Int):GS:=σ.setSt t (hkPush B (σ.st t) r)
def GS.new(σ:GS)(a b:Int):GS:=
 { σ with N:=σ.N+1,np:=setF σ.np ((σ.N:Int)+1) a.toNat,nw:=setF σ.nw ((σ.N:Int)+1) b.toNat,ref:=setF σ.ref ((σ.N:Int)+1) (fun _=>0),dat:=setF σ.dat ((σ.N:Int)+1) (fun _=>0) }
def GS.setRef(σ:GS)(r b y:Int):GS:={ σ with ref:=setF σ.ref r (setF (σ.ref r) b y) }
def GS.setDat(σ:GS)(r b v:Int):GS:={ σ with dat:=setF σ.dat r (setF (σ.dat r) b v) }
def sizeBad(M:Nat)(a b:Int):Prop:=a<0∨b<0∨a+b=0∨(M:Int)<1+a+b
instance (M:Nat) (a b:Int):Decidable (sizeBad M a b):=by unfold sizeBad;infer_instance
def fieldIn(n:Nat)(b:Int):Prop:=0≤b∧b<(n:Int)
instance (n:Nat) (b:Int):Decidable (fieldIn n b):=by unfold fieldIn;infer_instance
section
variable (B M T:Nat)(σ:GS)(t:Nat)(a b c v:Int)
def allocE:Int:=if sizeBad M a b then 13 else hkPushE B (σ.st t)
def allocS:GS:=if sizeBad M a b then σ else if (σ.st t).length<B then (σ.new a b).push B t ((σ.N:Int)+1) else σ
def objE:Int:=if hkIn (σ.st t) a then (if hkAt (σ.st t) a=0 then 12 else 0) else 10
def loadE:Int:=if objE σ t a≠0 then objE σ t a else if fieldIn (σ.np (hkAt (σ.st t) a)) b then hkPushE B (σ.st t) else 11
def loadS:GS:=if objE σ t a=0∧fieldIn (σ.np (hkAt (σ.st t) a)) b then σ.push B t (σ.ref (hkAt (σ.st t) a) b) else σ
def storeE:Int:=if hkIn (σ.st t) c then (if objE σ t a≠0 then objE σ t a else if fieldIn (σ.np (hkAt (σ.st t) a)) b then 0 else 11) else 10
def storeS:GS:=if storeE σ t a b c=0 then σ.setRef (hkAt (σ.st t) a) b (hkAt (σ.st t) c) else σ
def wordE:Int:=if objE σ t a≠0 then objE σ t a else if fieldIn (σ.nw (hkAt (σ.st t) a)) b then 0 else 11
def readV:Int:=if wordE σ t a b=0 then σ.dat (hkAt (σ.st t) a) b else 0
def writeS:GS:=if wordE σ t a b=0 then σ.setDat (hkAt (σ.st t) a) b v else σ
def popS:GS:=σ.setSt t (hkPop (σ.st t))
def dupE:Int:=if hkIn (σ.st t) a then hkPushE B (σ.st t) else 10
def dupS:GS:=if hkIn (σ.st t) a then σ.push B t (hkAt (σ.st t) a) else σ
def equalE:Int:=if hkIn (σ.st t) a then hkAtE (σ.st t) b else 10
def equalV:Bool:=decide (hkIn (σ.st t) a∧hkIn (σ.st t) b∧hkAt (σ.st t) a=hkAt (σ.st t) b)
def isNilV:Bool:=decide (hkIn (σ.st t) a∧hkAt (σ.st t) a=0)
def collectE:Int:=if 0≤a∧a≤3 then 0 else 17
def sendE:Int:=if hkIn (σ.st t) a then (if fieldIn T b then hkPushE B (σ.st b.toNat) else 2) else 10
def sendS:GS:=if hkIn (σ.st t) a∧fieldIn T b then σ.push B b.toNat (hkAt (σ.st t) a) else σ
end
structure An where
 code:Int
 word:Int
 bit:Bool
structure Po where
 k:Int
 a:Int
 b:Int
 c:Int
 v:Int
def actA(B M T:Nat)(σ:GS)(t:Nat)(o:Po):An:=
 if o.k=1 then ⟨allocE B M σ t o.a o.b,0,false⟩ else if o.k=2 then ⟨loadE B σ t o.a o.b,0,false⟩ else if o.k=3 then ⟨storeE σ t o.a o.b o.c,0,false⟩
 else if o.k=4 then ⟨wordE σ t o.a o.b,readV σ t o.a o.b,false⟩ else if o.k=5 then ⟨wordE σ t o.a o.b,0,false⟩ else if o.k=6 then ⟨hkPushE B (σ.st t),0,false⟩
 else if o.k=7 then ⟨hkPopE (σ.st t),0,false⟩ else if o.k=8 then ⟨dupE B σ t o.a,0,false⟩ else if o.k=9 then ⟨equalE σ t o.a o.b,0,equalV σ t o.a o.b⟩
 else if o.k=10 then ⟨hkAtE (σ.st t) o.a,0,isNilV σ t o.a⟩ else if o.k=11 then ⟨0,0,false⟩ else if o.k=12 then ⟨collectE o.a,0,false⟩
 else if o.k=13 then ⟨sendE B T σ t o.a o.b,0,false⟩ else ⟨17,0,false⟩
def actS(B M T:Nat)(σ:GS)(t:Nat)(o:Po):GS:=
 if o.k=1 then allocS B M σ t o.a o.b else if o.k=2 then loadS B σ t o.a o.b else if o.k=3 then storeS σ t o.a o.b o.c
 else if o.k=5 then writeS σ t o.a o.b o.v else if o.k=6 then σ.push B t 0
 else if o.k=7 then popS σ t else if o.k=8 then dupS B σ t o.a else if o.k=13 then sendS B T σ t o.a o.b else σ
def GS.tick(σ:GS)(t:Nat):GS:={ σ with done:=setF σ.done t (σ.done t+1) }
def ansV(th dn:Int)(x:An):Value:=.agg #[.int .i64 th,.int .i64 dn,.int .i64 x.code,.int .u64 x.word,.bool x.bit]
def doV(B M T:Nat)(σ:GS)(th:Int)(o:Po):Value:=if fieldIn T th then ansV th (σ.done th.toNat:Int) (actA B M T σ th.toNat o) else ansV 0 0 ⟨2,0,false⟩
def doS(B M T:Nat)(σ:GS)(th:Int)(o:Po):GS:=if fieldIn T th then actS B M T (σ.tick th.toNat) th.toNat o else σ
def cntG(st:Nat→List Int):Nat→Int→Nat
 | 0,_=>0
 | T+1,r=>cntG st T r+(st T).count r
structure GOk(T B:Nat)(σ:GS):Prop where
 cap:σ.N≤4096
 len:∀t,(σ.st t).length≤B
 mem:∀t r,r∈σ.st t→0≤r∧r≤(σ.N:Int)
 ref:∀r j,0≤σ.ref r j∧σ.ref r j≤(σ.N:Int)
 np:∀r,σ.np r≤1048576
 nw:∀r,σ.nw r≤1048576
theorem GOk.zero(T B:Nat):GOk T B G0:=⟨by simp [G0],fun t=>by simp [G0],fun t r h=>by simp [G0]at h,fun r j=>by simp [G0],fun r=>by simp [G0],fun r=>by simp [G0]⟩
theorem GOk.at{T B:Nat}{σ:GS}(h:GOk T B σ)(t:Nat)(i:Int):0≤hkAt (σ.st t) i∧hkAt (σ.st t) i≤(σ.N:Int):=by
 unfold hkAt
 split
 ·rename_i hi
  unfold hkIn at hi
  have hk:i.toNat<(σ.st t).length:=by omega
  refine h.mem t _ ?_
  simp [hk]
 ·omega
theorem GOk.push{T B:Nat}{σ:GS}(h:GOk T B σ){r:Int}(h1:0≤r)(h2:r≤(σ.N:Int))(t:Nat):GOk T B (σ.push B t r):=by
 refine⟨h.cap,fun i=>?_,fun i x hx=>?_,h.ref,h.np,h.nw⟩
 ·show(setF σ.st t _ i).length≤B
  unfold setF
  split
  ·exact hkPush_len (h.len t) r
  ·exact h.len i
 ·have hx:x∈setF σ.st t (hkPush B (σ.st t) r) i:=hx
  unfold setF at hx
  split at hx
  ·unfold hkPush at hx
   split at hx
   ·rcases List.mem_append.1 hx with h3 | h3
    ·exact h.mem t x h3
    ·simp at h3;subst h3;exact⟨h1,h2⟩
   ·exact h.mem t x hx
  ·exact h.mem i x hx
theorem GOk.new{T B:Nat}{σ:GS}(h:GOk T B σ){a b:Int}(ha:a≤1048576)(hb:b≤1048576)(hc:σ.N+1≤4096):GOk T B (σ.new a b):=by
 refine⟨hc,h.len,fun t r hr=>?_,fun r j=>?_,fun r=>?_,fun r=>?_⟩
 ·have:=h.mem t r hr
  show 0≤r∧r≤((σ.N+1:Nat):Int)
  omega
 ·have:=h.ref r j
  show 0≤setF σ.ref _ _ r j∧setF σ.ref _ _ r j≤((σ.N+1:Nat):Int)
  unfold setF
  split <;> (constructor <;> (try dsimp only) <;> omega)
 ·show setF σ.np _ _ r≤_
  have:=h.np r
  unfold setF
  split <;> omega
 ·show setF σ.nw _ _ r≤_
  have:=h.nw r
  unfold setF
  split <;> omega
theorem sizeBad_not{M:Nat}{a b:Int}(h:¬ sizeBad M a b):0≤a∧0≤b∧0<a+b∧1+a+b≤(M:Int):=by unfold sizeBad at h;omega
theorem GOk.setRef{T B:Nat}{σ:GS}(h:GOk T B σ)(r b:Int){y:Int}(h1:0≤y)(h2:y≤(σ.N:Int)):GOk T B (σ.setRef r b y):=by
 refine⟨h.cap,h.len,h.mem,fun x j=>?_,h.np,h.nw⟩
 show 0≤setF σ.ref r (setF (σ.ref r) b y) x j∧setF σ.ref r (setF (σ.ref r) b y) x j≤(σ.N:Int)
 unfold setF
 split
 ·dsimp only
  split
  ·exact⟨h1,h2⟩
  ·exact h.ref r j
 ·exact h.ref x j
theorem GOk.setDat{T B:Nat}{σ:GS}(h:GOk T B σ)(r b v:Int):GOk T B (σ.setDat r b v):=⟨h.cap,h.len,h.mem,h.ref,h.np,h.nw⟩
theorem GOk.tick{T B:Nat}{σ:GS}(h:GOk T B σ)(t:Nat):GOk T B (σ.tick t):=⟨h.cap,h.len,h.mem,h.ref,h.np,h.nw⟩
theorem GOk.pop{T B:Nat}{σ:GS}(h:GOk T B σ)(t:Nat):GOk T B (popS σ t):=by
 refine⟨h.cap,fun i=>?_,fun i x hx=>?_,h.ref,h.np,h.nw⟩
 ·show(setF σ.st t _ i).length≤B
  unfold setF
  split
  ·exact hkPop_len (h.len t)
  ·exact h.len i
 ·have hx:x∈setF σ.st t (hkPop (σ.st t)) i:=hx
  unfold setF at hx
  split at hx
  ·exact h.mem t x (List.mem_of_mem_take hx)
  ·exact h.mem i x hx
structure Can(M:Nat)(σ:GS):Prop where
 m:M≤1048576
 n:σ.N+1≤4096
theorem GOk.act{T B M:Nat}{σ:GS}(h:GOk T B σ)(hc:Can M σ)(t:Nat)(o:Po):GOk T B (actS B M T σ t o):=by
 unfold actS
 repeat' split
 ·unfold allocS
  split
  ·exact h
  ·rename_i hs
   have:=sizeBad_not hs
   have:=hc.m
   split
   ·exact(h.new (a:=o.a) (b:=o.b) (by omega) (by omega) hc.n).push (by omega) (by show _≤((σ.N+1:Nat):Int);omega) t
   ·exact h
 ·unfold loadS
  split
  ·exact h.push (h.ref _ _).1 (h.ref _ _).2 t
  ·exact h
 ·unfold storeS
  split
  ·exact h.setRef _ _ (h.at _ _).1 (h.at _ _).2
  ·exact h
 ·unfold writeS
  split
  ·exact h.setDat _ _ _
  ·exact h
 ·exact h.push (Int.le_refl _) (by omega) t
 ·exact h.pop t
 ·unfold dupS
  split
  ·exact h.push (h.at _ _).1 (h.at _ _).2 t
  ·exact h
 ·unfold sendS
  split
  ·exact h.push (h.at _ _).1 (h.at _ _).2 _
  ·exact h
 ·exact h
theorem act_N(B M T:Nat)(σ:GS)(t:Nat)(o:Po):(actS B M T σ t o).N≤σ.N+1:=by
 unfold actS allocS loadS storeS writeS popS dupS sendS GS.push GS.setSt GS.new GS.setRef GS.setDat
 repeat' split
 all_goals simp
theorem act_done(B M T:Nat)(σ:GS)(t:Nat)(o:Po):(actS B M T σ t o).done=σ.done:=by
 unfold actS allocS loadS storeS writeS popS dupS sendS GS.push GS.setSt GS.new GS.setRef GS.setDat
 repeat' split
 all_goals rfl
def visit(L:List Int)(r:Int):List Int:=if r=0∨r∈L then L else L++[r]
def visits(L:List Int)(l:List Int):List Int:=l.foldl visit L
def num(L:List Int)(r:Int):Int:=if r∈L then ((L.idxOf r+1:Nat):Int) else 0
def kids(σ:GS)(r:Int):List Int:=(List.range (σ.np r)).map fun (j:Nat)=>σ.ref r (j:Int)
theorem kids_len(σ:GS)(r:Int):(kids σ r).length=σ.np r:=by simp [kids]
theorem kids_get(σ:GS)(r:Int){j:Nat}(h:j<σ.np r):(kids σ r).getD j 0=σ.ref r (j:Int):=by simp [kids,h]
def rootsOf(σ:GS)(T:Nat):List Int:=(List.range T).flatMap σ.st
def bfs(σ:GS)(T:Nat):Nat→List Int
 | 0=>visits [] (rootsOf σ T)
 | n+1=>match (bfs σ T n)[n]? with
  | some r=>visits (bfs σ T n) (kids σ r)
  | none=>bfs σ T n
def order(σ:GS)(T:Nat):List Int:=bfs σ T σ.N
section
variable {T B:Nat}{σ:GS}
end
def shapeT(σ:GS)(O:List Int)(t:Nat):List Int:=((σ.st t).length:Int)::(σ.st t).map (num O)
def datas(σ:GS)(r:Int):List Int:=(List.range (σ.nw r)).map fun (j:Nat)=>σ.dat r (j:Int)
def shapeO(σ:GS)(O:List Int)(r:Int):List Int:=[(σ.np r:Int),(σ.nw r:Int)]++(kids σ r).map (num O)++datas σ r
def shape(σ:GS)(T:Nat):List Int:=(List.range T).flatMap (shapeT σ (order σ T))++(order σ T).flatMap (shapeO σ (order σ T))
def sizeOb(σ:GS)(r:Int):Nat:=1+σ.np r+σ.nw r
def words(σ:GS)(T:Nat):Nat:=((order σ T).map (sizeOb σ)).sum
end Go.Proofs.YtfcjdinlcehpmaaGreatDoor
namespace Go.Gl
set_option linter.unusedVariables false
open Go.RowKit Go.ChangeMaps Go.MapKept
open Go.Maps (Keyed)
structure Ents(P:Program)(k:TypeId)(es:Array MapEntry)(clock:Nat)(f:Value→Option Value):Prop where
 st:Stamped es clock
 key:∀e∈es.toList,∃l,keyOf P k e.key=some l
 val:∀e∈es.toList,f e.key=some e.val
 ofF:∀x v,f x=some v→∃e∈es.toList,e.key=x∧e.val=v
def Mp(P:Program)(k:TypeId)(w:World)(b:Nat)(f:Value→Option Value):Prop:=∃es clock,w.heap[b]?=some (.map es clock)∧Ents P k es clock f
def Lost(w w':World)(b:Nat)(key:Value):Prop:=∀es clock,w.heap[b]?=some (.map es clock)→∃es',w'.heap[b]?=some (.map es' clock)∧es'.toList.Sublist es.toList∧∀x,x∈es'.toList↔x∈es.toList∧x.key≠key
open Classical in
noncomputable def upF (f:Value→Option Value) (key v:Value):Value→Option Value:=fun x=>if x=key then some v else f x
open Classical in
noncomputable def offF (f:Value→Option Value) (key:Value):Value→Option Value:=fun x=>if x=key then none else f x
section
variable {P:Program}{k:TypeId}{w w':World}{b:Nat}{f g:Value→Option Value}{F:List Nat}
theorem Mp.lt(h:Mp P k w b f):b<w.heap.size:=by
 obtain⟨es,clock,hb,_⟩:=h
 exact(Array.getElem?_eq_some_iff.1 hb).1
theorem Mp.fr(h:Mp P k w b f)(hf:Fr F w w')(hb:b∉F):Mp P k w' b f:=by
 have hl:=h.lt
 obtain⟨es,clock,hb',E⟩:=h
 exact⟨es,clock,(hf.block b hl hb).trans hb',E⟩
theorem Mp.fr0(h:Mp P k w b f)(hf:Fr [] w w'):Mp P k w' b f:=h.fr hf (by simp)
theorem Mp.blk_ne{c:Nat}{t:TypeId}{cs:Array Value}(h:Mp P k w b f)(hc:Blk w c t cs):b≠c:=by
 rintro rfl
 obtain⟨es,clock,hb,_⟩:=h
 unfold Blk at hc
 rw [hb]at hc
 cases hc
theorem Mp.made(w:World):Mp P k (w.alloc (.map #[] 0)) w.heap.size (fun _=>none):=
 ⟨#[],0,heap_alloc_new w _,stamped_empty 0,by simp,by simp,by simp⟩
def Rng(P:Program)(k:TypeId)(w:World)(b r:Nat)(f:Value→Option Value)(left:Value→Prop)(cnt:Nat):Prop:=
 ∃es clock since seen c0,w.heap[b]?=some (.map es clock)∧Ents P k es clock f∧w.heap[r]?=some (.mapIter (some b) since seen c0)∧(∀x∈es.toList,x.born<since)∧since≤c0∧since≤clock ∧
  (leftOf es seen).size=cnt∧∀x∈es.toList,left x.key↔seen.contains x.born=false
def rngLeft(w:World)(b r:Nat):Nat:=
 match w.heap[b]?,w.heap[r]? with
 | some (.map es _),some (.mapIter _ _ seen _)=>(leftOf es seen).size
 | _,_=>0
variable {r cnt:Nat}{left:Value→Prop}
end
section
variable {P:Program}{k:TypeId}{w w0:World}{b:Nat}{f:Value→Option Value}{ops:Array Oper}{o:Oper}{a:Act}{K:Act→World→Prop}{Q:Exit→Act→World→Prop}
end
open Go.RowKit
def rows2(f g:Nat→Value)(n:Nat):List Value:=(List.range n).flatMap fun i=>[f i,g i]
theorem rows2_succ(f g:Nat→Value)(n:Nat):rows2 f g (n+1)=rows2 f g n++[f n,g n]:=by
 unfold rows2
 rw [List.range_succ,List.flatMap_append]
 simp
theorem rows2_len(f g:Nat→Value):∀n,(rows2 f g n).length=n*2
 | 0=>rfl
 | n+1=>by rw [rows2_succ,List.length_append,rows2_len f g n];simp;omega
theorem rows2_at(f g:Nat→Value):∀ {n i:Nat},i<n→(rows2 f g n)[i*2]?=some (f i)∧(rows2 f g n)[i*2+1]?=some (g i)
 | n+1,i,h=>by
  rw [rows2_succ]
  have hl:=rows2_len f g n
  rcases Nat.lt_or_ge i n with h1 | h1
  ·obtain⟨a,b⟩:=rows2_at f g h1
   exact⟨by rw [List.getElem?_append_left (by omega)];exact a,by rw [List.getElem?_append_left (by omega)];exact b⟩
  ·obtain rfl:i=n:=by omega
   refine⟨?_,?_⟩
   ·rw [List.getElem?_append_right (by omega),hl,Nat.sub_self];rfl
   ·rw [List.getElem?_append_right (by omega),hl,show i*2+1-i*2=1 by omega];rfl
theorem rows2_congr{f g f' g':Nat→Value}:∀ {n:Nat},(∀i,i<n→f i=f' i∧g i=g' i)→rows2 f g n=rows2 f' g' n
 | 0,_=>rfl
 | n+1,h=>by
  rw [rows2_succ,rows2_succ,rows2_congr (fun i hi=>h i (by omega)),(h n (by omega)).1,(h n (by omega)).2]
def R2(w:World)(e:TypeId)(v:Value)(n:Nat)(f g:Nat→Value):Prop:=w.ownsRow 0 e 2 v n (rows2 f g n)
section
variable {w w':World}{e:TypeId}{v:Value}{n:Nat}{f g:Nat→Value}{F:List Nat}
theorem R2.nil(w:World)(e:TypeId)(f g:Nat→Value):R2 w e (.slice none 0 0) 0 f g:=World.ownsRow_nil _ _ _ _
theorem R2.fr(h:R2 w e v n f g)(hf:Fr F w w')(hg:∀b,v.ownBlock=some b→b∉F):R2 w' e v n f g:=own_fr h hf hg
theorem R2.lt(h:R2 w e v n f g){b:Nat}(hb:v.ownBlock=some b):b<w.heap.size:=by
 rcases h.2 with⟨rfl,_⟩ | ⟨g',cap,cur,rfl,_,hh,_⟩
 ·cases hb
 ·injection hb with hb
  exact hb ▸ Blk.lt (t:=e) hh
theorem R2.form(h:R2 w e v n f g):∃A c,v=.slice A n c∧n≤maxLen:=by
 rcases h.2 with⟨h1,h2⟩ | ⟨b,cap,cur,h1,_,_,h3,h4,_⟩
 ·exact⟨none,0,by rw [h1,h2],by rw [h2];exact Nat.zero_le _⟩
 ·exact⟨_,_,h1,Nat.le_trans h3 h4⟩
theorem R2.pos(h:R2 w e v n f g)(hn:0<n):∃b c,v=.slice (some ⟨b,0,none⟩) n c∧b<w.heap.size∧(∀k,w.frozen? ⟨b,k,none⟩=false) ∧
  ∀i,i<n→w.cell? ⟨b,i*2,none⟩=some (f i)∧w.cell? ⟨b,i*2+1,none⟩=some (g i):=by
 rcases h.2 with⟨h1,h2⟩ | ⟨b,cap,cur,h1,_,hb,h3,h4,h5,h6⟩
 ·exact absurd h2 (by omega)
 ·have hb:Blk w b e cur:=hb
  refine⟨b,cap,h1,hb.lt,fun k=>hb.frozen k,fun i hi=>?_⟩
  have key:∀j,j<n*2→cur[j]?=(rows2 f g n)[j]?:=fun j hj=>by
   rw [← h6,List.getElem?_take_of_lt hj,Array.getElem?_toList]
  rw [hb.cell,hb.cell,key _ (by omega),key _ (by omega)]
  exact rows2_at f g hi
end
abbrev TG:=Nat→Nat×Int
def GTgOk(w:World)(tg:TG):Prop:=∀b,(tg b).1≠0→b<w.heap.size
def GTgUp(w:World)(tg tg':TG):Prop:=∀b,b<w.heap.size→tg' b=tg b
theorem GTgUp.refl(w:World)(tg:TG):GTgUp w tg tg:=fun _ _=>rfl
structure GFr(w:World)(tg:TG)(w':World)(tg':TG):Prop where
 fr:∃F,Fr F w w'∧∀x,x∈F→(tg x).1≠0
 up:GTgUp w tg tg'
section
variable {w w' w'':World}{tg tg' tg'':TG}{F:List Nat}
theorem GFr.refl(w:World)(tg:TG):GFr w tg w tg:=⟨⟨[],Fr.refl _ _,fun _ h=>by cases h⟩,GTgUp.refl _ _⟩
theorem GFr.of(hf:Fr F w w')(hF:∀x,x∈F→(tg x).1≠0):GFr w tg w' tg:=⟨⟨F,hf,hF⟩,GTgUp.refl _ _⟩
theorem GFr.fr0(hf:Fr [] w w'):GFr w tg w' tg:=GFr.of hf (fun _ h=>by cases h)
theorem GFr.trans(h:GFr w tg w' tg')(k:GFr w' tg' w'' tg''):GFr w tg w'' tg'':=by
 obtain⟨F,h1,h2⟩:=h.fr
 obtain⟨G,k1,k2⟩:=k.fr
 have hs:=h1.size
 refine⟨⟨F++G.filter (fun x=>decide (x<w.heap.size)),(h1.mono (fun x hx=>.inl (by simp [hx]))).trans k1 (fun x hx=>?_),fun x hx=>?_⟩,fun b hb=>(k.up b (by omega)).trans (h.up b hb)⟩
 ·rcases Nat.lt_or_ge x w.heap.size with h3 | h3
  ·exact .inl (by simp [hx,h3])
  ·exact .inr h3
 ·rcases List.mem_append.1 hx with h3 | h3
  ·exact h2 x h3
  ·rw [List.mem_filter]at h3
   have h4:x<w.heap.size:=by simpa using h3.2
   rw [← h.up x h4]
   exact k2 x h3.1
theorem GFr.trans0(h:GFr w tg w' tg')(k:Fr [] w' w''):GFr w tg w'' tg':=h.trans (GFr.fr0 k)
theorem GFr.blk(h:GFr w tg w' tg'){g:Nat}{t:TypeId}{cs:Array Value}(hb:Blk w g t cs)(hg:(tg g).1=0):Blk w' g t cs:=by
 obtain⟨F,h1,h2⟩:=h.fr
 exact hb.fr h1 (fun hx=>h2 g hx hg)
theorem GFr.inside{W:World}(h:Fr [] W w)(ht:∀b,(tg b).1≠0→W.heap.size≤b)(k:GFr w tg w' tg'):Fr [] W w':=by
 obtain⟨F,h1,h2⟩:=k.fr
 exact h.trans h1 (fun x hx=>.inr (ht x (h2 x hx)))
theorem GFr.new{W:World}(hw:Fr [] W w)(ht:∀b,(tg b).1≠0→W.heap.size≤b)(k:GFr w tg w' tg'):∀b,(tg' b).1≠0→W.heap.size≤b:=fun b hb=>by
 rcases Nat.lt_or_ge b w.heap.size with h1 | h1
 ·rw [k.up b h1]at hb
  exact ht b hb
 ·exact Nat.le_trans hw.size h1
end
end Go.Gl
namespace Go.Proofs.YtfcjdinlcehpmaaGreatDoor
set_option linter.unusedVariables false
open Go.RowKit Go.Gl
open Go.Maps (Keyed)
def ptrV(ob:Int→Nat)(r:Int):Value:=if r=0 then .pointer none else .pointer (some ⟨ob r,0,none⟩)
theorem tagNe{tg:TG}{F:List Nat}{k:Nat}{i:Int}(hF:∀x,x∈F→(tg x).1≠k):∀x,x∈F→tg x≠(k,i):=fun x hx e=>hF x hx (by rw [e])
theorem tok'{w w':World}{tg:TG}{F:List Nat}(h:GTgOk w tg)(hf:Fr F w w'):GTgOk w' tg:=fun b hb=>Nat.lt_of_lt_of_le (h b hb) hf.size
end Go.Proofs.YtfcjdinlcehpmaaGreatDoor
